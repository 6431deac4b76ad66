/- Together: DY0, CG, DY, RTh, RTi, CH, DZ0. -/
import Derived.Deep.LoopGhost
import Derived.Deep.MidRow
import Derived.Test.YtoknmnngaackkaaGreatDoorST4
import Derived.Test.YtoknmnngaackkaaGreatDoorST7
import Derived.Test.YtoknmnngaackkaaGreatDoorST11
import Derived.Test.YtoknmnngaackkaaGreatDoorST10
namespace Go.Proofs.YtoknmnngaackkaaGreatDoor
open Go.RowKit Go.Lib Go.Shelf
set_option maxRecDepth 100000
set_option maxHeartbeats 16000000
set_option maxRecDepth 100000
set_option maxHeartbeats 8000000
structure ld {α:Type} (En:jP α) (e:TypeId) (size:Nat) (wB:World) (tb:Nat) (F:Value→Array Value) (T:TypeId) (W:World) (v:Value) (l:List α):Prop where
 bx:aj tb wB W
 zk:W.heap[tb]? = some (.cells (F v) T (0,0))
 own:bC En e size wB (fun b=>wB.heap.size≤b) W v l
section
variable {α:Type} {En:jP α} {e:TypeId} {size:Nat} {wB:World} {tb:Nat} {F:Value→Array Value} {T:TypeId} {W W1:World} {v v':Value} {l:List α}
theorem ld.nx (ok:fW En) (h:ld En e size wB tb F T W v l) (ht:tb≤wB.heap.size) (hb:Below W W W1):ld En e size wB tb F T W1 v l :=
 ⟨h.bx.b hb ht,(hb.block _ (lt_of_heap h.zk)).trans h.zk,h.own.next ok hb⟩
theorem ld.push (ok:fW En) (h:ld En e size wB tb F T W v l) (ht:tb<wB.heap.size) {xs cs:List Value} {x:α} (o:W.ownsRow wB e size v l.length xs)
  (en:∀ (i:Nat) (h:i<l.length),∃ cs,cs.length=size∧(∀ j,j<size→xs[i*size+j]? = cs[j]?)∧En (DO (fun b=>wB.heap.size≤b) v W) W l[i] cs) (hc:cs.length=size)
  {S:Nat→Prop} (hy:En S W x cs) (hS:∀ b,S b→b<W.heap.size→wB.heap.size≤b∧v.ownBlock≠some b)
  (ho:W1.ownsRow wB e size v' (l.length+1) (xs ++ cs)) (hg:W.grownBy W1 v.ownBlock) (hd:v'.ownBlock=v.ownBlock∨v'.ownBlock=some W.heap.size) :
  W1.heap[tb]? = some (.cells (F v) T (0,0))∧W.heap.size≤W1.heap.size∧(∀ b,b<W.heap.size→v.ownBlock≠some b→W1.heap[b]? = W.heap[b]?) ∧
  ∀ (f:Nat) (W2:World),(F v).setIfInBounds f v'=F v'→Below W1 W1 W2→ld En e size wB tb F T (W2.setCell (af tb f) v') v' (l ++ [x]):=by
 have hnb:=h.own.lt
 have hbx:=h.bx.size
 have hs:=hg.size
 have O1:=bC.push ok o en hc (ok.mono (fun b h1 h2=>⟨(hS b h1 h2).1,h2,(hS b h1 h2).2⟩) hy) ho hg hd
 have B1:W1.heap[tb]? = some (.cells (F v) T (0,0)):=(hg.block _ (lt_of_heap h.zk) (fun e=>by have:=(hnb _ e.symm).1; omega)).trans h.zk
 have D1:Below wB W W1:=(I8 _ _).grown hg ak (fun q hq=>(hnb q hq).1)
 refine ⟨B1,hs,fun b hb hn=>hg.block b hb (fun e=>hn e.symm),fun f W2 hF hb=>?_⟩
 have K:aI tb W2 (W2.setCell (af tb f) v'):=(aI.refl _ _).set _ _
 have B2:=bH hb B1
 refine ⟨(((h.bx.low D1 (I6 _) ak).b hb ak).set f v'),?_,?_⟩
 ·have:=I5 W2 tb f _ _ v' B2
  rw [hF] at this
  exact this
 ·exact (O1.next ok hb).aM ok (fun b h=>h) (K.k (fun h=>by have:wB.heap.size≤tb:=h; omega))
end
theorem ay.Dt {B:Nat} {S:Nat→Prop} {a b:World} (h:Below B a b) (hs:∀ k,S k→k<B):ay S a b:=⟨h.size,fun k hk _=>h.block k (hs k hk)⟩
theorem j7 {B g:Nat} {W0 W:World} (h:Below B W0 W) (hg:B≤g) (i0 i1 i2 i3 i4 i5 i6:Nat) (v0 v1 v2 v3 v4 v5 v6:Value):Below B W0 (((((((W.setCell (af g i0) v0).setCell (af g i1) v1).setCell (af g i2) v2).setCell (af g i3) v3).setCell (af g i4) v4).setCell (af g i5) v5).setCell (af g i6) v6) :=
 ((((((h.setCell (p:=af g i0) hg v0).setCell (p:=af g i1) hg v1).setCell (p:=af g i2) hg v2).setCell (p:=af g i3) hg v3).setCell (p:=af g i4) hg v4).setCell (p:=af g i5) hg v5).setCell (p:=af g i6) hg v6
theorem aj.jS {t B:Nat} {a b:World} (h:aj t a b) (hB:B≤t):Below B a b:=h.1.mono hB
structure SA where
 a1:Option Addr
 c1:Nat
 a2:Option Addr
 c2:Nat
 a3:Option Addr
 c3:Nat
 a4:Option Addr
 c4:Nat
 a5:Option Addr
 c5:Nat
abbrev fY (x:dO) (A:SA) (v2 v3:Value):Array Value:=#[x.distinct,x.star,v2,v3,x.ax,x.aG,x.au.k,x.au.v.1,x.au.v.2.1,x.au.v.2.2,x.au.bp,x.au.name,.slice A.a3 x.au.ks.length A.c3,x.az.k,x.az.v.1,x.az.v.2.1,x.az.v.2.2,x.az.bp,x.az.name,.slice A.a4 x.az.ks.length A.c4,.slice A.a5 x.group.length A.c5]
abbrev fo (x:dO) (A:SA):Array Value:=fY x A (.slice A.a1 x.items.length A.c1) (.slice A.a2 x.sources.length A.c2)
abbrev nA (a1:Option Addr) (c1:Nat) (a2:Option Addr) (c2:Nat) (a5:Option Addr) (c5:Nat):SA:=⟨a1,c1,a2,c2,none,0,none,0,a5,c5⟩
structure jK (S:Nat→Prop) (W:World) (x:dO) (A:SA):Prop where
 l1:bf kl 8 S W A.a1 x.items
 l2:bf gj 10 S W A.a2 x.sources
 l3:aJ S W A.a3 x.au.ks
 l4:aJ S W A.a4 x.az.ks
 l5:bf fu 7 S W A.a5 x.group
theorem jK.aM {S:Nat→Prop} {W W':World} {x:dO} {A:SA} (h:jK S W x A) (hk:ay S W W'):jK S W' x A:=⟨h.l1.aM fp hk,h.l2.aM cU hk,h.l3.aM hk,h.l4.aM hk,h.l5.aM b9 hk⟩
theorem jK.mono {S S':Nat→Prop} {W:World} {x:dO} {A:SA} (h:jK S W x A) (hs:∀ b,S b→b<W.heap.size→S' b):jK S' W x A:=⟨h.l1.mono fp hs,h.l2.mono cU hs,aJ.mono hs h.l3,aJ.mono hs h.l4,h.l5.mono b9 hs⟩
theorem jK.nx {S:Nat→Prop} {W W':World} {x:dO} {A:SA} (h:jK S W x A) (hb:Below W W W'):jK S W' x A:=h.aM (ay.of hb)
theorem jK.en {S:Nat→Prop} {W:World} {x:dO} {A:SA} (h:jK S W x A):eS S W x (fo x A).toList:=⟨A.a1,A.c1,A.a2,A.c2,A.a3,A.c3,A.a4,A.c4,A.a5,A.c5,rfl,h.l1,h.l2,h.l3,h.l4,h.l5⟩
theorem jK.of {S:Nat→Prop} {W:World} {x:dO} {cs:List Value} (h:eS S W x cs):∃ A,cs=(fo x A).toList∧jK S W x A:=by
 obtain ⟨a1,c1,a2,c2,a3,c3,a4,c4,a5,c5,rfl,k1,k2,k3,k4,k5⟩:=h;exact ⟨⟨a1,c1,a2,c2,a3,c3,a4,c4,a5,c5⟩,rfl,k1,k2,k3,k4,k5⟩
theorem fS {t:Nat} {a b:World} {S:Nat→Prop} (h:aj t a b) (hS:¬ S t):ay S a b:=⟨h.size,fun k hk hl=>h.2 k hl (fun e=>hS (e ▸ hk))⟩
theorem uX {t g:Nat} {a b:World} {o:Obj} (h:aj t a b) (q:a.heap[g]? = some o) (hn:g≠t):b.heap[g]? = some o:=(h.2 g (lt_of_heap q) hn).trans q
theorem aJ.ls {S:Nat→Prop} {W:World} {a:Option Addr} {l:List SX} (h:aJ S W a l):bf fu 7 S W a l:=by
 cases h with
 | nil a=>exact .inl rfl
 | some b off l ai cap hb hlt hc hk =>
  refine .inr ⟨b,off,rfl,hb,hlt,fun i hi=>⟨mf l[i] (ai i) (cap i),rfl,fun j u hu=>?_,ai i,cap i,rfl,hk i hi⟩⟩;have z:=hc i hi
  match j with
  | 0=>cases hu; exact z.c0
  | 1=>cases hu; exact z.c1
  | 2=>cases hu; exact z.c2
  | 3=>cases hu; exact z.c3
  | 4=>cases hu; exact z.c4
  | 5=>cases hu; exact z.c5
  | 6=>cases hu; exact z.c6
  | n+7=>simp [mf] at hu
theorem qJ:∀ (l:List Src) (f:Bool) (x:Src),bF f (l ++ [x])=bF f l ++ [eN (f && l.isEmpty) x]
 | [],f,x=>by rw [Jq,bF,bF,bF]; cases f <;> rfl
 | y :: r,f,x=>by
  rw [Ju,bF,qJ r,bF]
  show _ :: (_ ++ [eN (false && r.isEmpty) x])=_ :: _ ++ [eN (f && false) x]
  rw [Bool.false_and,Bool.and_false]
  rfl
abbrev kq (x:kx) (a:Option Addr) (c:Nat):Array Value:=#[x.1.k,x.1.v.1,x.1.v.2.1,x.1.v.2.2,x.1.bp,x.1.name,.slice a x.1.ks.length c,x.2]
abbrev fK (x:Src) (a:Option Addr) (c:Nat):Array Value:=(kj x a c)
abbrev BG (k:Int) (n a:ByteArray):Array Value:=#[k,n,a,aB,aB,aB,(),(),(),aL]
abbrev IT:Array Value:=#[aB,aB,aB,(),(),(),aL,()]
abbrev FJ:Array Value:=#[aB,(),(),aB,aB,aB,(),(),(),aL]
theorem Iu:(Tryz.prog.info? 75).map (·.size)=some 8:=by kernel_rfl
theorem GZ:(Tryz.prog.info? 55).map (·.size)=some 7:=by kernel_rfl
theorem Dh:(Tryz.prog.info? 105).map (·.size)=some 10:=by kernel_rfl
theorem lR {P:Program} {ops:Array Oper} {Q:Exit→Act→World→Prop} {i:Nat} {o:Oper} {K:Act→World→Prop} {a:Act} {w:World} (ho:ops[i]? = some o) (hg:o.guard=none) (t:TypeId) (parts:Array (Nat × Operand)) (hop:o.op = .build t parts) (v:Array Value) (hv:P.built t (parts.map fun (i,x)=>(i,a.eval x)).toList=some v) {d:Nat} (hd:o.dst=some d) (h:K (a.put (some d) (.agg v)) w):wpOp P ops Q i K a w:=by
 rw [← hd] at h;refine wpOp_step ho fun K' hK=>?_
 rw [if_pos (by simp [Region.wanted,hg])];exact wp_build t parts hop (by rw [hv]; rfl) (hK _ _ (by rw [hv]; exact h))
theorem mI {P:Program} {ops:Array Oper} {Q:Exit→Act→World→Prop} {i:Nat} {o:Oper} {K:Act→World→Prop} {a:Act} {w:World} (ho:ops[i]? = some o) (hg:o.guard=none) (ty:TypeId) (z:Array Value) (hop:o.op = .alloc ty) (hz:∀ w:World,(Instr.alloc ty true (.tuple #[])).run P w = .ok (af w 0) (w.alloc (.cells z ty)))
  {d:Nat} (hd:o.dst=some d) (h:K (a.put (some d) (af w 0)) (w.alloc (.cells z ty))):wpOp P ops Q i K a w:=oM ho hg ty z hop hz (by rw [hd]; exact h)
structure BS (s:dO):Prop where
 group:s.group.length≤1000∧∀ x ∈ s.group,gA x
 items:s.star=false→s.items.length≤1000∧∀ i ∈ s.items,gA i.1
 Hr:s.sources.length≤1000∧∀ (i:Nat) (h:i<s.sources.length),i≠0→gA s.sources[i].on
 au:s.ax=true→gA s.au
 az:s.aG=true→gA s.az
structure zg (q:kf):Prop where
 len:q.parts.length≤1000
 order:0≤q.aH→q.order.length≤1000∧∀ x ∈ q.order,gA x
 part:∀ s ∈ q.parts,BS s
set_option maxHeartbeats 32000000
def j6:Array Value:=#[false,false,aL,aL,false,false,aB,aB,aB,(),(),(),aL,aB,aB,aB,(),(),(),aL,aL]
theorem ru (w:World):(Instr.alloc 79 true (.tuple #[])).run Tryz.prog w = .ok (af w 0) (w.alloc (.cells j6 79)):=by
 unfold j6;go_simp
theorem CF:(Tryz.prog.info? 79).map (·.size)=some j6.size:=by kernel_rfl
def CM:Array Value:=#[aB,(),(),aB,aB,aB,(),(),(),aL]
theorem EU (w:World):(Instr.alloc 105 true (.tuple #[])).run Tryz.prog w = .ok (af w 0) (w.alloc (.cells CM 105)):=by
 unfold CM;go_simp
theorem CI:(Tryz.prog.info? 105).map (·.size)=some CM.size:=by kernel_rfl
theorem zq (q:kf) (hq:GR q) (p1 p2 p3 r1 r2 r3:Option Addr) (d1 d2 d3 e1 e2 e3:Nat) (w:World) (h1:pI eS 21 w p1 r1 q.parts) (h2:pI lD 1 w p2 r2 q.ops) (h3:pI fu 7 w p3 r3 q.order):Calls Tryz.prog 28 #[.agg #[.slice p1 q.parts.length d1,.slice p2 q.ops.length d2,.slice p3 q.order.length d3,q.aH],.agg #[.slice r1 q.parts.length e1,.slice r2 q.ops.length e2,.slice r3 q.order.length e3,q.aH]] w (Cm w):=by
 have hal1:=bR w (.cells #[.slice p1 q.parts.length d1,.slice p2 q.ops.length d2,.slice p3 q.order.length d3,q.aH] 50)
 have hal2:Below (w.alloc (.cells #[.slice p1 q.parts.length d1,.slice p2 q.ops.length d2,.slice p3 q.order.length d3,q.aH] 50)).heap.size (w.alloc (.cells #[.slice p1 q.parts.length d1,.slice p2 q.ops.length d2,.slice p3 q.order.length d3,q.aH] 50)) ((w.alloc (.cells #[.slice p1 q.parts.length d1,.slice p2 q.ops.length d2,.slice p3 q.order.length d3,q.aH] 50)).alloc (.cells #[.slice r1 q.parts.length e1,.slice r2 q.ops.length e2,.slice r3 q.order.length e3,q.aH] 50)):=bR ..
 have Q0:gB ((w.alloc (.cells #[.slice p1 q.parts.length d1,.slice p2 q.ops.length d2,.slice p3 q.order.length d3,q.aH] 50)).alloc (.cells #[.slice r1 q.parts.length e1,.slice r2 q.ops.length e2,.slice r3 q.order.length e3,q.aH] 50)) w #[.slice p1 q.parts.length d1,.slice p2 q.ops.length d2,.slice p3 q.order.length d3,q.aH] 50:=(hal2.block _ (lt_of_heap (aD w #[.slice p1 q.parts.length d1,.slice p2 q.ops.length d2,.slice p3 q.order.length d3,q.aH] 50))).trans (aD w _ _)
 have Q1:gB ((w.alloc (.cells #[.slice p1 q.parts.length d1,.slice p2 q.ops.length d2,.slice p3 q.order.length d3,q.aH] 50)).alloc (.cells #[.slice r1 q.parts.length e1,.slice r2 q.ops.length e2,.slice r3 q.order.length e3,q.aH] 50)) (w+1) #[.slice r1 q.parts.length e1,.slice r2 q.ops.length e2,.slice r3 q.order.length e3,q.aH] 50:=by
  show ((w.alloc (.cells #[.slice p1 q.parts.length d1,.slice p2 q.ops.length d2,.slice p3 q.order.length d3,q.aH] 50)).alloc (.cells #[.slice r1 q.parts.length e1,.slice r2 q.ops.length e2,.slice r3 q.order.length e3,q.aH] 50)).heap[w.heap.size+1]? = _;rw [show w.heap.size+1=(w.alloc (.cells #[.slice p1 q.parts.length d1,.slice p2 q.ops.length d2,.slice p3 q.order.length d3,q.aH] 50)).heap.size by simp];exact aD _ _ _
 have hal:=chain hal1 hal2;clear hal1 hal2;have hx1:=hq.ops;have hx2:=hq.parts.1;have H1:Hid (pI eS 21 ((w.alloc (.cells #[.slice p1 q.parts.length d1,.slice p2 q.ops.length d2,.slice p3 q.order.length d3,q.aH] 50)).alloc (.cells #[.slice r1 q.parts.length e1,.slice r2 q.ops.length e2,.slice r3 q.order.length e3,q.aH] 50)) p1 r1 q.parts):=h1.nx b8 hal
 have H2:Hid (pI lD 1 ((w.alloc (.cells #[.slice p1 q.parts.length d1,.slice p2 q.ops.length d2,.slice p3 q.order.length d3,q.aH] 50)).alloc (.cells #[.slice r1 q.parts.length e1,.slice r2 q.ops.length e2,.slice r3 q.order.length e3,q.aH] 50)) p2 r2 q.ops):=h2.nx fv hal
 have con:=tQ q.order p3 d3 r3 e3 _ ((w.alloc (.cells #[.slice p1 q.parts.length d1,.slice p2 q.ops.length d2,.slice p3 q.order.length d3,q.aH] 50)).alloc (.cells #[.slice r1 q.parts.length e1,.slice r2 q.ops.length e2,.slice r3 q.order.length e3,q.aH] 50)) hq.order (h3.nx b9 hal).ss.1 (h3.nx b9 hal).ss.2;have HQ:Hid (∀ x ∈ q.parts,qT x):=hq.parts.2;clear h1 h2 h3 hq;go_enter Tryz.func28,Tryz.ntmps28;go_upto_region 1 with fail
 generalize ((w.alloc (.cells #[.slice p1 q.parts.length d1,.slice p2 q.ops.length d2,.slice p3 q.order.length d3,q.aH] 50)).alloc (.cells #[.slice r1 q.parts.length e1,.slice r2 q.ops.length e2,.slice r3 q.order.length e3,q.aH] 50))=w1 at *;have x0:w1.cell? (af w 0)=some (.slice p1 q.parts.length d1):=Q0.c 0 rfl;have x1:=Q0.c 1 rfl;have x2:=Q0.c 2 rfl;have x3:=Q0.c 3 rfl
 have y0:=Q1.c 0 rfl;have y1:=Q1.c 1 rfl;have y2:=Q1.c 2 rfl;have y3:=Q1.c 3 rfl;go_wp2_with fail
 refine cR con fun w2 hb2=>?_;clear con x0 x1 x2 x3 y0 y1 y2 y3;have A2:=chain hal hb2;replace Q0:=Q0.nx hb2;replace Q1:=Q1.nx hb2;have H1b:Hid _:=H1.out.nx b8 hb2;have H2b:Hid _:=H2.out.nx fv hb2;clear H1 H2 hal hb2;have x1:=Q0.c 1 rfl;go_wp2_with fail
 clear x1;go_loopw [47] (fun i wr=>∃ j:Nat,j≤q.ops.length∧i = .int .i64 j∧Below w2 w2 wr) (fun i _=>q.ops.length - (RowKit.intOf i).toNat)
 case atStart=>exact ⟨0,Jc _,rfl,I8 _ _⟩
 case round =>
  obtain ⟨j,hj,rfl,hbr⟩:=hrel;by_cases hlt:j<q.ops.length
  ·as_aux_lemma =>
    obtain ⟨ba,oa,_,rfl,ta,rfl⟩:=(H2b.out.1.nx fv hbr).get hlt;obtain ⟨bb,ob,_,rfl,tb,rfl⟩:=(H2b.out.2.nx fv hbr).get hlt;have hjz:(j:Int)<(q.ops.length:Int):=by omega
    have q0:=Q0.nx hbr;have q1:=Q1.nx hbr;go_upto_region 6 with fail
    simp only [Nat.mul_one] at ta tb
    obtain ⟨C,hCC,hCP,hC0⟩:∃ C:World→Prop,(∀ W W':World,C W→Below W W W'→C W')∧(∀ W,C W→gB W w #[.slice p1 q.parts.length d1,.slice (some (af ba oa)) q.ops.length d2,.slice p3 q.order.length d3,q.aH] 50∧gB W (w+1) #[.slice r1 q.parts.length e1,.slice (some (af bb ob)) q.ops.length e2,.slice r3 q.order.length e3,q.aH] 50∧ix W ba (oa+j) [.int .i64 q.ops[j]]∧ix W bb (ob+j) [.int .i64 q.ops[j]])∧C wr:=⟨fun W=>gB W w #[.slice p1 q.parts.length d1,.slice (some (af ba oa)) q.ops.length d2,.slice p3 q.order.length d3,q.aH] 50∧gB W (w+1) #[.slice r1 q.parts.length e1,.slice (some (af bb ob)) q.ops.length e2,.slice r3 q.order.length e3,q.aH] 50∧ix W ba (oa+j) [.int .i64 q.ops[j]]∧ix W bb (ob+j) [.int .i64 q.ops[j]],fun W W' h hb=>⟨h.1.nx hb,h.2.1.nx hb,h.2.2.1.nx hb,h.2.2.2.nx hb⟩,fun _ h=>h,⟨q0,q1,ta,tb⟩⟩
    have hdr:Below wr wr wr.drew:=(I8 _ _).drew;have CW:=hCC _ _ hC0 hdr;clear hC0;refine bX C bm ?_;refine cT hCC 50 0 (af w 1) (fun n hn=>?_) CW ?_
    ·go_simp
    simp only [Act.put,pA,pB,pC];refine cT hCC 51 1 (.slice (some (af ba oa)) q.ops.length d2) (fun n hn=>?_) CW ?_
    ·have z0:=(hCP n hn).1.c 1 rfl;go_simp
    simp only [Act.put,pA,pB,pC];refine cT hCC 52 2 j (fun n hn=>?_) CW ?_
    ·go_simp
    simp only [Act.put,pA,pB,pC];refine cT hCC 53 3 (.pointer (some ⟨ba,oa+j,none⟩)) (fun n hn=>?_) CW ?_
    ·go_simp
    simp only [Act.put,pA,pB,pC];refine cT hCC 54 4 (.int .i64 q.ops[j]) (fun n hn=>?_) CW ?_
    ·have z0:n.cell? ⟨ba,oa+j,none⟩=some (.int .i64 q.ops[j]):=(hCP n hn).2.2.1.2 0 _ rfl;go_simp
    simp only [Act.put,pA,pB,pC];refine cT hCC 55 5 (af (w+1) 1) (fun n hn=>?_) CW ?_
    ·go_simp
    simp only [Act.put,pA,pB,pC];refine cT hCC 56 6 (.slice (some (af bb ob)) q.ops.length e2) (fun n hn=>?_) CW ?_
    ·have z0:=(hCP n hn).2.1.c 1 rfl;go_simp
    simp only [Act.put,pA,pB,pC];refine cT hCC 57 7 j (fun n hn=>?_) CW ?_
    ·go_simp
    simp only [Act.put,pA,pB,pC];refine cT hCC 58 8 (.pointer (some ⟨bb,ob+j,none⟩)) (fun n hn=>?_) CW ?_
    ·go_simp
    simp only [Act.put,pA,pB,pC];refine cT hCC 59 9 (.int .i64 q.ops[j]) (fun n hn=>?_) CW ?_
    ·have z0:n.cell? ⟨bb,ob+j,none⟩=some (.int .i64 q.ops[j]):=(hCP n hn).2.2.2.2 0 _ rfl;go_simp
    simp only [Act.put,pA,pB,pC];refine cT hCC 60 10 false (fun n hn=>?_) CW ?_
    ·go_simp
    simp only [Act.put,pA,pB,pC];refine eK bm ?_;intro w7 hb7;have D7:=chain hdr hb7;clear CW hCC hCP hdr hb7;have A7:=chain hbr D7;clear q0 q1 ta tb;go_wp2_with fail
    go_roundw
    case rel=>exact ⟨j+1,by omega,by go_num,A7⟩
    case measure=>simp [RowKit.intOf]; omega
  ·as_aux_lemma =>
    obtain ⟨w3,hw3⟩:∃ W,W=wr:=⟨wr,rfl⟩
    subst hw3;replace Q0:=Q0.nx hbr;replace Q1:=Q1.nx hbr;have A3:=chain A2 hbr;have H1c:Hid _:=H1b.out.nx b8 hbr;clear H1b H2b A2 hbr;have x0:=Q0.c 0 rfl;go_wp2_with fail
    clear x0 hlt hj;go_loopw [65] (fun i wr=>∃ j:Nat,j≤q.parts.length∧i = .int .i64 j∧Below w3 w3 wr) (fun i _=>q.parts.length - (RowKit.intOf i).toNat)
    case atStart=>exact ⟨0,Jc _,rfl,I8 _ _⟩
    case round =>
     obtain ⟨m,hm,rfl,hbr⟩:=hrel;by_cases hlt:m<q.parts.length
     ·as_aux_lemma =>
       have hB:=HQ.out _ (Jk hlt);obtain ⟨ba,oa,_,rfl,ta,a1,c1,a2,c2,a3,c3,a4,c4,a5,c5,rfl,l1,l2,l3,l4,l5⟩:=(H1c.out.1.nx b8 hbr).get hlt;obtain ⟨bb,ob,_,rfl,tb,b1,f1,b2,f2,b3,f3,b4,f4,b5,f5,rfl,m1,m2,m3,m4,m5⟩:=(H1c.out.2.nx b8 hbr).get hlt;have hjz:(m:Int)<(q.parts.length:Int):=by omega
       have q0:=Q0.nx hbr;have q1:=Q1.nx hbr;generalize q.parts[m]=x at *;have L1:Hid (pI kl 8 wr a1 b1 x.items):=⟨l1,m1⟩
       have L2:Hid (pI gj 10 wr a2 b2 x.sources):=⟨l2,m2⟩
       have L3:Hid (Dd wr a3 b3 x.au.ks):=⟨l3,m3⟩
       have L4:Hid (Dd wr a4 b4 x.az.ks):=⟨l4,m4⟩
       have L5:=ah (pI.ss ⟨l5,m5⟩);have HB:Hid (qT x):=hB;clear l1 m1 l2 m2 l3 m3 l4 m4 l5 m5 hB;go_upto_region 12 with fail
       obtain ⟨C,hCC,hCP,hC0⟩:∃ C:World→Prop,(∀ W W':World,C W→Below W W W'→C W')∧(∀ W,C W→gB W w #[.slice (some (af ba oa)) q.parts.length d1,.slice p2 q.ops.length d2,.slice p3 q.order.length d3,q.aH] 50∧gB W (w+1) #[.slice (some (af bb ob)) q.parts.length e1,.slice r2 q.ops.length e2,.slice r3 q.order.length e3,q.aH] 50∧ix W ba (oa+m*21) [.bool x.distinct,x.star,.slice a1 x.items.length c1,.slice a2 x.sources.length c2,x.ax,x.aG,x.au.k,x.au.v.1,x.au.v.2.1,x.au.v.2.2,x.au.bp,x.au.name,.slice a3 x.au.ks.length c3,x.az.k,x.az.v.1,x.az.v.2.1,x.az.v.2.2,x.az.bp,x.az.name,.slice a4 x.az.ks.length c4,.slice a5 x.group.length c5]∧ix W bb (ob+m*21) [.bool x.distinct,x.star,.slice b1 x.items.length f1,.slice b2 x.sources.length f2,x.ax,x.aG,x.au.k,x.au.v.1,x.au.v.2.1,x.au.v.2.2,x.au.bp,x.au.name,.slice b3 x.au.ks.length f3,x.az.k,x.az.v.1,x.az.v.2.1,x.az.v.2.2,x.az.bp,x.az.name,.slice b4 x.az.ks.length f4,.slice b5 x.group.length f5])∧C wr:=⟨fun W=>gB W w #[.slice (some (af ba oa)) q.parts.length d1,.slice p2 q.ops.length d2,.slice p3 q.order.length d3,q.aH] 50∧gB W (w+1) #[.slice (some (af bb ob)) q.parts.length e1,.slice r2 q.ops.length e2,.slice r3 q.order.length e3,q.aH] 50∧ix W ba (oa+m*21) [.bool x.distinct,x.star,.slice a1 x.items.length c1,.slice a2 x.sources.length c2,x.ax,x.aG,x.au.k,x.au.v.1,x.au.v.2.1,x.au.v.2.2,x.au.bp,x.au.name,.slice a3 x.au.ks.length c3,x.az.k,x.az.v.1,x.az.v.2.1,x.az.v.2.2,x.az.bp,x.az.name,.slice a4 x.az.ks.length c4,.slice a5 x.group.length c5]∧ix W bb (ob+m*21) [.bool x.distinct,x.star,.slice b1 x.items.length f1,.slice b2 x.sources.length f2,x.ax,x.aG,x.au.k,x.au.v.1,x.au.v.2.1,x.au.v.2.2,x.au.bp,x.au.name,.slice b3 x.au.ks.length f3,x.az.k,x.az.v.1,x.az.v.2.1,x.az.v.2.2,x.az.bp,x.az.name,.slice b4 x.az.ks.length f4,.slice b5 x.group.length f5],fun W W' h hb=>⟨h.1.nx hb,h.2.1.nx hb,h.2.2.1.nx hb,h.2.2.2.nx hb⟩,fun _ h=>h,⟨q0,q1,ta,tb⟩⟩
       have hdr:Below wr wr wr.drew:=(I8 _ _).drew;have CW:=hCC _ _ hC0 hdr;clear hC0;refine bX C bm ?_;refine cT hCC 68 0 (af w 0) (fun n hn=>?_) CW ?_
       ·go_simp
       simp only [Act.put,pA,pB,pC];refine cT hCC 69 1 (.slice (some (af ba oa)) q.parts.length d1) (fun n hn=>?_) CW ?_
       ·have z0:n.cell? (af w 0)=some (.slice (some (af ba oa)) q.parts.length d1):=(hCP n hn).1.c 0 rfl;go_simp
       simp only [Act.put,pA,pB,pC];refine cT hCC 70 2 m (fun n hn=>?_) CW ?_
       ·go_simp
       simp only [Act.put,pA,pB,pC];refine cT hCC 71 3 (.pointer (some ⟨ba,oa+m*21,none⟩)) (fun n hn=>?_) CW ?_
       ·go_simp
       simp only [Act.put,pA,pB,pC]
       refine eA hCC (some 72) (i:=4) (v:=.agg (iE x a1 a2 a3 a4 a5 c1 c2 c3 c4 c5)) rfl rfl bm bm bm (fun _ _ _ h=>h) (dA rfl 79 _ rfl ba (oa+m*21) [.bool x.distinct,x.star,.slice a1 x.items.length c1,.slice a2 x.sources.length c2,x.ax,x.aG,x.au.k,x.au.v.1,x.au.v.2.1,x.au.v.2.2,x.au.bp,x.au.name,.slice a3 x.au.ks.length c3,x.az.k,x.az.v.1,x.az.v.2.1,x.az.v.2.2,x.az.bp,x.az.name,.slice a4 x.az.ks.length c4,.slice a5 x.group.length c5] rfl Tryz.underlying79 rfl bm (fun n hn=>(hCP n hn).2.2.1)) CW ?_
       simp only [Act.put,pA,pB,pC];refine cT hCC 73 5 (af (w+1) 0) (fun n hn=>?_) CW ?_
       ·go_simp
       simp only [Act.put,pA,pB,pC];refine cT hCC 74 6 (.slice (some (af bb ob)) q.parts.length e1) (fun n hn=>?_) CW ?_
       ·have z0:n.cell? (af (w+1) 0)=some (.slice (some (af bb ob)) q.parts.length e1):=(hCP n hn).2.1.c 0 rfl;go_simp
       simp only [Act.put,pA,pB,pC];refine cT hCC 75 7 m (fun n hn=>?_) CW ?_
       ·go_simp
       simp only [Act.put,pA,pB,pC];refine cT hCC 76 8 (.pointer (some ⟨bb,ob+m*21,none⟩)) (fun n hn=>?_) CW ?_
       ·go_simp
       simp only [Act.put,pA,pB,pC]
       refine eA hCC (some 77) (i:=9) (v:=.agg (iE x b1 b2 b3 b4 b5 f1 f2 f3 f4 f5)) rfl rfl bm bm bm (fun _ _ _ h=>h) (dA rfl 79 _ rfl bb (ob+m*21) [.bool x.distinct,x.star,.slice b1 x.items.length f1,.slice b2 x.sources.length f2,x.ax,x.aG,x.au.k,x.au.v.1,x.au.v.2.1,x.au.v.2.2,x.au.bp,x.au.name,.slice b3 x.au.ks.length f3,x.az.k,x.az.v.1,x.az.v.2.1,x.az.v.2.2,x.az.bp,x.az.name,.slice b4 x.az.ks.length f4,.slice b5 x.group.length f5] rfl Tryz.underlying79 rfl bm (fun n hn=>(hCP n hn).2.2.2)) CW ?_
       simp only [Act.put,pA,pB,pC];refine su 10 11 12 13 (d0:=7) (d1:=8) (t0:=72) (t1:=77) (T:=79) ⟨⟨_,rfl,rfl,rfl,rfl⟩,⟨_,rfl,rfl,rfl,rfl⟩,⟨_,rfl,rfl,rfl,rfl⟩,⟨_,rfl,rfl,rfl,rfl⟩,by decide⟩ bm j6 (iE x a1 a2 a3 a4 a5 c1 c2 c3 c4 c5) (iE x b1 b2 b3 b4 b5 f1 f2 f3 f4 f5) ru rfl rfl (JO rfl) (JO rfl) CF rfl rfl (eh rfl) (eh rfl) (fun w' hb=>hCC _ _ CW hb) (fun A B W hA hB hn hb qA qB=>?_);clear CW hCC hCP;simp only [ko,Act.put,List.setIfInBounds_toArray,List.set_cons_zero,List.set_cons_succ];have D1:=chain hdr hb
       have A4:=chain hbr D1;have QA:gB W A (iE x a1 a2 a3 a4 a5 c1 c2 c3 c4 c5) 79:=qA;have QB:gB W B (iE x b1 b2 b3 b4 b5 f1 f2 f3 f4 f5) 79:=qB;have L1a:Hid _:=L1.out.nx fp D1;have L2a:Hid _:=L2.out.nx cU D1;have L3a:=L3.out.nx D1;have L4a:Hid _:=L4.out.nx D1;have L5a:Hid _:=L5.out.nx D1;clear q0 q1 ta tb L1 L2 L3 L4 L5 hdr hb hbr D1 qA qB hn
       as_aux_lemma =>
        have con:=jB x.au a3 c3 b3 f3 _ W HB.out.au L3a.1 L3a.2;have x0:W.cell? (af A 0)=some (.bool x.distinct):=QA.c 0 rfl;have x1:=QA.c 1 rfl;have x4:=QA.c 4 rfl;have x5:=QA.c 5 rfl;have x6:=QA.c 6 rfl;have x7:=QA.c 7 rfl;have x8:=QA.c 8 rfl;have x9:=QA.c 9 rfl
        have x10:=QA.c 10 rfl;have x11:=QA.c 11 rfl;have x12:=QA.c 12 rfl;have y0:=QB.c 0 rfl;have y1:=QB.c 1 rfl;have y4:=QB.c 4 rfl;have y5:=QB.c 5 rfl;have y6:=QB.c 6 rfl
        have y7:=QB.c 7 rfl;have y8:=QB.c 8 rfl;have y9:=QB.c 9 rfl;have y10:=QB.c 10 rfl;have y11:=QB.c 11 rfl;have y12:=QB.c 12 rfl;go_wp2_with fail
        refine cR con fun W2 hb=>?_;clear con L3a x0 x1 x4 x5 x6 x7 x8 x9 x10 x11 x12 y0 y1 y4 y5 y6 y7 y8 y9 y10 y11 y12;replace QA:=QA.nx hb;replace QB:=QB.nx hb;have A5:=chain A4 hb;have L4b:=L4a.out.nx hb;have L1b:Hid _:=L1a.out.nx fp hb;have L2b:Hid _:=L2a.out.nx cU hb;have L5b:Hid _:=L5a.out.nx hb;clear L1a L2a L4a L5a hb A4;have con:=jB x.az a4 c4 b4 f4 _ W2 HB.out.az L4b.1 L4b.2;have x13:=QA.c 13 rfl;have x14:=QA.c 14 rfl
        have x15:=QA.c 15 rfl;have x16:=QA.c 16 rfl;have x17:=QA.c 17 rfl;have x18:=QA.c 18 rfl;have x19:=QA.c 19 rfl;have y13:=QB.c 13 rfl;have y14:=QB.c 14 rfl
        have y15:=QB.c 15 rfl;have y16:=QB.c 16 rfl;have y17:=QB.c 17 rfl;have y18:=QB.c 18 rfl;have y19:=QB.c 19 rfl;go_wp2_with fail
        refine cR con fun W3 hb=>?_;clear con L4b x13 x14 x15 x16 x17 x18 x19 y13 y14 y15 y16 y17 y18 y19;replace QA:=QA.nx hb;replace QB:=QB.nx hb;have A6:=chain A5 hb;have L5c:=L5b.out.nx hb;have L1c:Hid _:=L1b.out.nx fp hb;have L2c:Hid _:=L2b.out.nx cU hb;clear L1b L2b L5b hb A5;have con:=tQ x.group a5 c5 b5 f5 _ W3 HB.out.group L5c.1 L5c.2;have x20:=QA.c 20 rfl;have y20:=QB.c 20 rfl;go_wp2_with fail
        refine cR con fun W4 hb=>?_;clear con L5c x20 y20;replace QA:=QA.nx hb;replace QB:=QB.nx hb;have A7:=chain A6 hb;have L1d:Hid _:=L1c.out.nx fp hb;have L2d:Hid _:=L2c.out.nx cU hb;have hn1:=HB.out.items.1;have hn2:=HB.out.sources.1;clear L1c L2c hb A6;have x2:=QA.c 2 rfl;have x3:=QA.c 3 rfl;have y2:=QB.c 2 rfl;have y3:=QB.c 3 rfl
        go_wp2_with fail
        clear x2 x3 y2 y3;go_loopw [149] (fun i wr=>∃ j:Nat,j≤x.items.length∧i = .int .i64 j∧Below W4 W4 wr) (fun i _=>x.items.length - (RowKit.intOf i).toNat)
        case atStart=>exact ⟨0,Jc _,rfl,I8 _ _⟩
        case round =>
         obtain ⟨j,hj,rfl,hbr⟩:=hrel;by_cases hl2:j<x.items.length
         ·as_aux_lemma =>
           have hB:=HB.out.items.2 _ (Jk hl2);obtain ⟨bc,oc,_,rfl,tc,i1,g1,rfl,k1⟩:=(L1d.out.1.nx fp hbr).get hl2;obtain ⟨bd,od,_,rfl,td,i2,g2,rfl,k2⟩:=(L1d.out.2.nx fp hbr).get hl2;have hjz2:(j:Int)<(x.items.length:Int):=by omega
           have q0:=QA.nx hbr;have q1:=QB.nx hbr;generalize x.items[j]=y at *;have K1:Hid (Dd wr i1 i2 y.1.ks):=⟨k1,k2⟩
           clear k1 k2;go_upto_region 18 with fail
           obtain ⟨C,hCC,hCP,hC0⟩:∃ C:World→Prop,(∀ W W':World,C W→Below W W W'→C W')∧(∀ W,C W→gB W A (iE x (some (af bc oc)) a2 a3 a4 a5 c1 c2 c3 c4 c5) 79∧gB W B (iE x (some (af bd od)) b2 b3 b4 b5 f1 f2 f3 f4 f5) 79∧ix W bc (oc+j*8) [.int .i64 y.1.k,y.1.v.1,y.1.v.2.1,y.1.v.2.2,y.1.bp,y.1.name,.slice i1 y.1.ks.length g1,y.2]∧ix W bd (od+j*8) [.int .i64 y.1.k,y.1.v.1,y.1.v.2.1,y.1.v.2.2,y.1.bp,y.1.name,.slice i2 y.1.ks.length g2,y.2])∧C wr:=⟨fun W=>gB W A (iE x (some (af bc oc)) a2 a3 a4 a5 c1 c2 c3 c4 c5) 79∧gB W B (iE x (some (af bd od)) b2 b3 b4 b5 f1 f2 f3 f4 f5) 79∧ix W bc (oc+j*8) [.int .i64 y.1.k,y.1.v.1,y.1.v.2.1,y.1.v.2.2,y.1.bp,y.1.name,.slice i1 y.1.ks.length g1,y.2]∧ix W bd (od+j*8) [.int .i64 y.1.k,y.1.v.1,y.1.v.2.1,y.1.v.2.2,y.1.bp,y.1.name,.slice i2 y.1.ks.length g2,y.2],fun W W' h hb=>⟨h.1.nx hb,h.2.1.nx hb,h.2.2.1.nx hb,h.2.2.2.nx hb⟩,fun _ h=>h,⟨q0,q1,tc,td⟩⟩
           have hdr:Below wr wr wr.drew:=(I8 _ _).drew;have CW:=hCC _ _ hC0 hdr;clear hC0;refine bX C bm ?_;refine cT hCC 152 0 (af A 2) (fun n hn=>?_) CW ?_
           ·go_simp
           simp only [Act.put,pA,pB,pC];refine cT hCC 153 1 (.slice (some (af bc oc)) x.items.length c1) (fun n hn=>?_) CW ?_
           ·have z0:=(hCP n hn).1.c 2 rfl;go_simp
           simp only [Act.put,pA,pB,pC];refine cT hCC 154 2 j (fun n hn=>?_) CW ?_
           ·go_simp
           simp only [Act.put,pA,pB,pC];refine cT hCC 155 3 (.pointer (some ⟨bc,oc+j*8,none⟩)) (fun n hn=>?_) CW ?_
           ·go_simp
           simp only [Act.put,pA,pB,pC];refine cT hCC 156 4 (.pointer (some ⟨bc,oc+j*8+7,none⟩)) (fun n hn=>?_) CW ?_
           ·go_simp
           simp only [Act.put,pA,pB,pC];refine cT hCC 157 5 y.2 (fun n hn=>?_) CW ?_
           ·have z0:=(hCP n hn).2.2.1.2 7 _ rfl;go_simp
           simp only [Act.put,pA,pB,pC];refine cT hCC 158 6 (af B 2) (fun n hn=>?_) CW ?_
           ·go_simp
           simp only [Act.put,pA,pB,pC];refine cT hCC 159 7 (.slice (some (af bd od)) x.items.length f1) (fun n hn=>?_) CW ?_
           ·have z0:=(hCP n hn).2.1.c 2 rfl;go_simp
           simp only [Act.put,pA,pB,pC];refine cT hCC 160 8 j (fun n hn=>?_) CW ?_
           ·go_simp
           simp only [Act.put,pA,pB,pC];refine cT hCC 161 9 (.pointer (some ⟨bd,od+j*8,none⟩)) (fun n hn=>?_) CW ?_
           ·go_simp
           simp only [Act.put,pA,pB,pC];refine cT hCC 162 10 (.pointer (some ⟨bd,od+j*8+7,none⟩)) (fun n hn=>?_) CW ?_
           ·go_simp
           simp only [Act.put,pA,pB,pC];refine cT hCC 163 11 y.2 (fun n hn=>?_) CW ?_
           ·have z0:=(hCP n hn).2.2.2.2 7 _ rfl;go_simp
           simp only [Act.put,pA,pB,pC];refine cT hCC 164 12 false (fun n hn=>?_) CW ?_
           ·go_simp
           simp only [Act.put,pA,pB,pC];refine cT hCC 165 13 false (fun n hn=>?_) CW ?_
           ·go_simp
           simp only [Act.put,pA,pB,pC];refine cT hCC 166 14 (af A 2) (fun n hn=>?_) CW ?_
           ·go_simp
           simp only [Act.put,pA,pB,pC];refine cT hCC 167 15 (.slice (some (af bc oc)) x.items.length c1) (fun n hn=>?_) CW ?_
           ·have z0:=(hCP n hn).1.c 2 rfl;go_simp
           simp only [Act.put,pA,pB,pC];refine cT hCC 168 16 j (fun n hn=>?_) CW ?_
           ·go_simp
           simp only [Act.put,pA,pB,pC];refine cT hCC 169 17 (.pointer (some ⟨bc,oc+j*8,none⟩)) (fun n hn=>?_) CW ?_
           ·go_simp
           simp only [Act.put,pA,pB,pC];refine cT hCC 170 18 (.pointer (some ⟨bc,oc+j*8,none⟩)) (fun n hn=>?_) CW ?_
           ·go_simp
           simp only [Act.put,pA,pB,pC];refine eA hCC (some 171) (i:=19) (v:=.agg (bE y.1 i1 g1)) rfl rfl bm bm bm (fun _ _ _ h=>h) (dA rfl 55 _ rfl bc (oc+j*8) [.int .i64 y.1.k,y.1.v.1,y.1.v.2.1,y.1.v.2.2,y.1.bp,y.1.name,.slice i1 y.1.ks.length g1] rfl Tryz.underlying55 rfl bm (fun n hn=>(hCP n hn).2.2.1.pre 7)) CW ?_;simp only [Act.put,pA,pB,pC]
           refine cT hCC 172 20 (af B 2) (fun n hn=>?_) CW ?_
           ·go_simp
           simp only [Act.put,pA,pB,pC];refine cT hCC 173 21 (.slice (some (af bd od)) x.items.length f1) (fun n hn=>?_) CW ?_
           ·have z0:=(hCP n hn).2.1.c 2 rfl;go_simp
           simp only [Act.put,pA,pB,pC];refine cT hCC 174 22 j (fun n hn=>?_) CW ?_
           ·go_simp
           simp only [Act.put,pA,pB,pC];refine cT hCC 175 23 (.pointer (some ⟨bd,od+j*8,none⟩)) (fun n hn=>?_) CW ?_
           ·go_simp
           simp only [Act.put,pA,pB,pC];refine cT hCC 176 24 (.pointer (some ⟨bd,od+j*8,none⟩)) (fun n hn=>?_) CW ?_
           ·go_simp
           simp only [Act.put,pA,pB,pC];refine eA hCC (some 177) (i:=25) (v:=.agg (bE y.1 i2 g2)) rfl rfl bm bm bm (fun _ _ _ h=>h) (dA rfl 55 _ rfl bd (od+j*8) [.int .i64 y.1.k,y.1.v.1,y.1.v.2.1,y.1.v.2.2,y.1.bp,y.1.name,.slice i2 y.1.ks.length g2] rfl Tryz.underlying55 rfl bm (fun n hn=>(hCP n hn).2.2.2.pre 7)) CW ?_;simp only [Act.put,pA,pB,pC];refine pN 26 bm fun w5 hb5=>?_
           have D5:=chain hdr hb5;have CW5:=hCC _ _ CW hb5;have con:=jB y.1 i1 g1 i2 g2 _ w5 hB (K1.out.nx D5).1 (K1.out.nx D5).2;refine wpOp_step rfl (fun K hK=>?_);go_simp;refine cR con fun w6 hb6=>?_;have CW6:=hCC _ _ CW5 hb6;refine hK _ _ ⟨CW6,?_⟩;clear hK K con CW CW5;refine cT hCC 179 27 false (fun n hn=>?_) CW6 ?_
           ·go_simp
           simp only [Act.put,pA,pB,pC];refine cT hCC 180 28 false (fun n hn=>?_) CW6 ?_
           ·go_simp
           simp only [Act.put,pA,pB,pC];refine eK bm ?_;intro w7 hb7;have D7:=chain D5 (chain hb6 hb7);clear CW6 hCC hCP D5 hb6 hb7;have E7:=chain hbr D7;clear q0 q1 tc td;go_wp2_with fail
           go_roundw
           case rel=>exact ⟨j+1,by omega,by go_num,E7⟩
           case measure=>simp [RowKit.intOf]; omega
         ·as_aux_lemma =>
           obtain ⟨W5,hw5⟩:∃ W,W=wr:=⟨wr,rfl⟩
           subst hw5;replace QA:=QA.nx hbr;replace QB:=QB.nx hbr;have A8:=chain A7 hbr;have L2e:Hid _:=L2d.out.nx cU hbr;clear L1d L2d A7 hbr;have x3:W5.cell? (af A 3)=some (.slice a2 x.sources.length c2):=QA.c 3 rfl;go_wp2_with fail
           clear x3 hl2 hj;go_loopw [185] (fun i wr=>∃ j:Nat,j≤x.sources.length∧i = .int .i64 j∧Below W5 W5 wr) (fun i _=>x.sources.length - (RowKit.intOf i).toNat)
           case atStart=>exact ⟨0,Jc _,rfl,I8 _ _⟩
           case round =>
            obtain ⟨j,hj,rfl,hbr⟩:=hrel;by_cases hl2:j<x.sources.length
            ·as_aux_lemma =>
              have hB:=HB.out.sources.2 _ (Jk hl2);obtain ⟨bc,oc,_,rfl,tc,i1,g1,rfl,k1⟩:=(L2e.out.1.nx cU hbr).get hl2;obtain ⟨bd,od,_,rfl,td,i2,g2,rfl,k2⟩:=(L2e.out.2.nx cU hbr).get hl2;have hjz2:(j:Int)<(x.sources.length:Int):=by omega
              have q0:=QA.nx hbr;have q1:=QB.nx hbr;generalize x.sources[j]=y at *;have K1:Hid (Dd wr i1 i2 y.on.ks):=⟨k1,k2⟩
              clear k1 k2;go_upto_region 24 with fail
              obtain ⟨C,hCC,hCP,hC0⟩:∃ C:World→Prop,(∀ W W':World,C W→Below W W W'→C W')∧(∀ W,C W→gB W A (iE x a1 (some (af bc oc)) a3 a4 a5 c1 c2 c3 c4 c5) 79∧gB W B (iE x b1 (some (af bd od)) b3 b4 b5 f1 f2 f3 f4 f5) 79∧ix W bc (oc+j*10) [.int .i64 y.kind,y.name,y.alias,y.on.k,y.on.v.1,y.on.v.2.1,y.on.v.2.2,y.on.bp,y.on.name,.slice i1 y.on.ks.length g1]∧ix W bd (od+j*10) [.int .i64 y.kind,y.name,y.alias,y.on.k,y.on.v.1,y.on.v.2.1,y.on.v.2.2,y.on.bp,y.on.name,.slice i2 y.on.ks.length g2])∧C wr:=⟨fun W=>gB W A (iE x a1 (some (af bc oc)) a3 a4 a5 c1 c2 c3 c4 c5) 79∧gB W B (iE x b1 (some (af bd od)) b3 b4 b5 f1 f2 f3 f4 f5) 79∧ix W bc (oc+j*10) [.int .i64 y.kind,y.name,y.alias,y.on.k,y.on.v.1,y.on.v.2.1,y.on.v.2.2,y.on.bp,y.on.name,.slice i1 y.on.ks.length g1]∧ix W bd (od+j*10) [.int .i64 y.kind,y.name,y.alias,y.on.k,y.on.v.1,y.on.v.2.1,y.on.v.2.2,y.on.bp,y.on.name,.slice i2 y.on.ks.length g2],fun W W' h hb=>⟨h.1.nx hb,h.2.1.nx hb,h.2.2.1.nx hb,h.2.2.2.nx hb⟩,fun _ h=>h,⟨q0,q1,tc,td⟩⟩
              have hdr:Below wr wr wr.drew:=(I8 _ _).drew;have CW:=hCC _ _ hC0 hdr;clear hC0;refine bX C bm ?_;refine cT hCC 188 0 (af A 3) (fun n hn=>?_) CW ?_
              ·go_simp
              simp only [Act.put,pA,pB,pC];refine cT hCC 189 1 (.slice (some (af bc oc)) x.sources.length c2) (fun n hn=>?_) CW ?_
              ·have z0:n.cell? (af A 3)=some (.slice (some (af bc oc)) x.sources.length c2):=(hCP n hn).1.c 3 rfl;go_simp
              simp only [Act.put,pA,pB,pC];refine cT hCC 190 2 j (fun n hn=>?_) CW ?_
              ·go_simp
              simp only [Act.put,pA,pB,pC];refine cT hCC 191 3 (.pointer (some ⟨bc,oc+j*10,none⟩)) (fun n hn=>?_) CW ?_
              ·go_simp
              simp only [Act.put,pA,pB,pC];refine eA hCC (some 192) (i:=4) (v:=.agg (kj y i1 g1)) rfl rfl bm bm bm (fun _ _ _ h=>h) (dA rfl 105 _ rfl bc (oc+j*10) [.int .i64 y.kind,y.name,y.alias,y.on.k,y.on.v.1,y.on.v.2.1,y.on.v.2.2,y.on.bp,y.on.name,.slice i1 y.on.ks.length g1] rfl Tryz.underlying105 rfl bm (fun n hn=>(hCP n hn).2.2.1)) CW ?_;simp only [Act.put,pA,pB,pC]
              refine cT hCC 193 5 (af B 3) (fun n hn=>?_) CW ?_
              ·go_simp
              simp only [Act.put,pA,pB,pC];refine cT hCC 194 6 (.slice (some (af bd od)) x.sources.length f2) (fun n hn=>?_) CW ?_
              ·have z0:n.cell? (af B 3)=some (.slice (some (af bd od)) x.sources.length f2):=(hCP n hn).2.1.c 3 rfl;go_simp
              simp only [Act.put,pA,pB,pC];refine cT hCC 195 7 j (fun n hn=>?_) CW ?_
              ·go_simp
              simp only [Act.put,pA,pB,pC];refine cT hCC 196 8 (.pointer (some ⟨bd,od+j*10,none⟩)) (fun n hn=>?_) CW ?_
              ·go_simp
              simp only [Act.put,pA,pB,pC];refine eA hCC (some 197) (i:=9) (v:=.agg (kj y i2 g2)) rfl rfl bm bm bm (fun _ _ _ h=>h) (dA rfl 105 _ rfl bd (od+j*10) [.int .i64 y.kind,y.name,y.alias,y.on.k,y.on.v.1,y.on.v.2.1,y.on.v.2.2,y.on.bp,y.on.name,.slice i2 y.on.ks.length g2] rfl Tryz.underlying105 rfl bm (fun n hn=>(hCP n hn).2.2.2)) CW ?_;simp only [Act.put,pA,pB,pC]
              refine su 10 11 12 13 (d0:=11) (d1:=12) (t0:=192) (t1:=197) (T:=105) ⟨⟨_,rfl,rfl,rfl,rfl⟩,⟨_,rfl,rfl,rfl,rfl⟩,⟨_,rfl,rfl,rfl,rfl⟩,⟨_,rfl,rfl,rfl,rfl⟩,by decide⟩ bm CM (kj y i1 g1) (kj y i2 g2) EU rfl rfl (JO rfl) (JO rfl) CI rfl rfl (eh rfl) (eh rfl) (fun w' hb=>hCC _ _ CW hb) (fun A2 B2 V hA hBB hn hb qA qB=>?_);clear CW hCC hCP;simp only [ko,Act.put,List.setIfInBounds_toArray,List.set_cons_zero,List.set_cons_succ];have D1:=chain hdr hb;have E4:=chain hbr D1
              have QA2:gB V A2 (kj y i1 g1) 105:=qA;have QB2:gB V B2 (kj y i2 g2) 105:=qB;have K2:=K1.out.nx D1;clear q0 q1 tc td K1 hdr hb hbr D1 qA qB hn
              as_aux_lemma =>
               have con:=jB y.on i1 g1 i2 g2 _ V hB K2.1 K2.2;have x0:V.cell? (af A2 0)=some (.int .i64 y.kind):=QA2.c 0 rfl;have x1:=QA2.c 1 rfl;have x2:=QA2.c 2 rfl;have x3:=QA2.c 3 rfl;have x4:=QA2.c 4 rfl;have x5:=QA2.c 5 rfl;have x6:=QA2.c 6 rfl
               have x7:=QA2.c 7 rfl;have x8:=QA2.c 8 rfl;have x9:=QA2.c 9 rfl;have y0:=QB2.c 0 rfl;have y1:=QB2.c 1 rfl;have y2:=QB2.c 2 rfl;have y3:=QB2.c 3 rfl;have y4:=QB2.c 4 rfl
               have y5:=QB2.c 5 rfl;have y6:=QB2.c 6 rfl;have y7:=QB2.c 7 rfl;have y8:=QB2.c 8 rfl;have y9:=QB2.c 9 rfl;go_wp2_with fail
               refine cR con fun V2 hb=>?_;clear con K2 x0 x1 x2 x3 x4 x5 x6 x7 x8 x9 y0 y1 y2 y3 y4 y5 y6 y7 y8 y9;have E5:=chain E4 hb;clear QA2 QB2 E4 hb;go_wp2_with fail
               go_roundw
               case rel=>exact ⟨j+1,by omega,by go_num,E5⟩
               case measure=>simp [RowKit.intOf]; omega
            ·as_aux_lemma =>
              have A9:=chain A8 hbr;clear A8 hbr L2e QA QB;go_wp2_with fail
              go_roundw
              case rel=>exact ⟨m+1,by omega,by go_num,A9⟩
              case measure=>simp [RowKit.intOf]; omega
     ·as_aux_lemma =>
       have A4:=chain A3 hbr;go_wp2_with fail
       exact fa rfl rfl ⟨fQ,A4⟩
def IZ (S0:Nat→Prop) (w:World) (x:kf) (e:Ending) (w':World):Prop:=Below w w w'∧∃ r1 e1 r2 e2 r3 e3,e = .returned (.agg #[.slice r1 x.parts.length e1,.slice r2 x.ops.length e2,.slice r3 x.order.length e3,x.aH])∧bf eS 21 (fun b=>S0 b∨w.heap.size≤b) w' r1 x.parts∧bf lD 1 (fun b=>S0 b∨w.heap.size≤b) w' r2 x.ops∧bf fu 7 (fun b=>S0 b∨w.heap.size≤b) w' r3 x.order
theorem sZ (q:kf) (S0:Nat→Prop) (hq:zg q) (p1 p2 p3:Option Addr) (d1 d2 d3:Nat) (w:World) (hS:∀ b,S0 b→b<w.heap.size) (h1:bf eS 21 S0 w p1 q.parts) (h2:bf lD 1 S0 w p2 q.ops) (h3:bf fu 7 S0 w p3 q.order) :
  Calls Tryz.prog 31 #[.agg #[.slice p1 q.parts.length d1,.slice p2 q.ops.length d2,.slice p3 q.order.length d3,q.aH]] w (IZ S0 w (iq q)):=by
 obtain ⟨i0,hi,hj0,hj1,hj2⟩:=info_parts DY;have HQ:Hid (zg q):=hq;have H1:Hid (bf eS 21 S0 w p1 q.parts):=h1;have H2:Hid (bf lD 1 S0 w p2 q.ops):=h2;have H3:Hid (bf fu 7 S0 w p3 q.order):=h3;have HS:Hid (∀ b,S0 b→b<w.heap.size):=hS;clear hq h1 h2 h3 hS;obtain ⟨O,hO⟩:∃ O,(if 0≤q.aH then q.order.map aO else [])=O:=⟨_,rfl⟩
 obtain ⟨L,hL⟩:∃ L,(if 0≤q.aH then q.aH else (-1))=L:=⟨_,rfl⟩
 have HB:Hid (iq q=⟨q.parts.map dq,q.ops,O,L⟩):=by show _=_; unfold iq; rw [hO,hL]
 have HO:Hid ((if 0≤q.aH then q.order.map aO else [])=O):=hO;have HLm:Hid ((if 0≤q.aH then q.aH else (-1))=L):=hL;clear hO hL;have ha0:=bR w (.cells #[.slice p1 q.parts.length d1,.slice p2 q.ops.length d2,.slice p3 q.order.length d3,q.aH] 50);have q0:=aD w #[.slice p1 q.parts.length d1,.slice p2 q.ops.length d2,.slice p3 q.order.length d3,q.aH] 50
 have ha1:Below (w.alloc (.cells #[.slice p1 q.parts.length d1,.slice p2 q.ops.length d2,.slice p3 q.order.length d3,q.aH] 50)).heap.size _ ((w.alloc (.cells #[.slice p1 q.parts.length d1,.slice p2 q.ops.length d2,.slice p3 q.order.length d3,q.aH] 50)).alloc (.cells wN 50)):=bR ..;have q1:=aD (w.alloc (.cells #[.slice p1 q.parts.length d1,.slice p2 q.ops.length d2,.slice p3 q.order.length d3,q.aH] 50)) wN 50
 have ha2:Below ((w.alloc (.cells #[.slice p1 q.parts.length d1,.slice p2 q.ops.length d2,.slice p3 q.order.length d3,q.aH] 50)).alloc (.cells wN 50)).heap.size _ (((w.alloc (.cells #[.slice p1 q.parts.length d1,.slice p2 q.ops.length d2,.slice p3 q.order.length d3,q.aH] 50)).alloc (.cells wN 50)).alloc (.cells #[aL,.slice p2 q.ops.length d2,aL,.int .i64 (-1)] 50)):=bR ..
 have q2:=aD ((w.alloc (.cells #[.slice p1 q.parts.length d1,.slice p2 q.ops.length d2,.slice p3 q.order.length d3,q.aH] 50)).alloc (.cells wN 50)) #[aL,.slice p2 q.ops.length d2,aL,.int .i64 (-1)] 50;have q1':=bH ha2 q1;have q0':=(ha2.block _ (lt_of_heap (bH ha1 q0))).trans (bH ha1 q0);have hb2:=chain (chain ha0 ha1) ha2;clear q0 q1 ha0 ha1 ha2;go_enter Tryz.func31,Tryz.ntmps31;go_upto_if 17 with fail
 go_cut [] (fun wc=>∃ (r3:Option Addr) (e3:Nat),Hid (Below w w wc)∧Hid (wc.heap[w.heap.size]? = some (.cells #[.slice p1 q.parts.length d1,.slice p2 q.ops.length d2,.slice p3 q.order.length d3,q.aH] 50 (0,0)))∧Hid (wc.heap[w.heap.size+1]? = some (.cells wN 50 (0,0)))∧Hid (wc.heap[w.heap.size+1+1]? = some (.cells #[aL,.slice p2 q.ops.length d2,.slice r3 O.length e3,L] 50 (0,0)))∧Hid (aJ (fun b=>w.heap.size+1+1<b) wc r3 O))
 case first =>
  rw [size_alloc,size_alloc] at q2;rw [size_alloc] at q1';by_cases hz:0≤q.aH
  ·obtain ⟨n1,n2⟩:=HQ.out.order hz;have hl:L=q.aH:=by rw [← HLm.out,if_pos hz]
   have ho:O=q.order.map aO:=by rw [← HO.out,if_pos hz]
   have hgq:=lt_of_heap q2;have K3:Hid (bf fu 7 S0 (((w.alloc (.cells #[.slice p1 q.parts.length d1,.slice p2 q.ops.length d2,.slice p3 q.order.length d3,q.aH] 50)).alloc (.cells wN 50)).alloc (.cells #[aL,.slice p2 q.ops.length d2,aL,.int .i64 (-1)] 50)) p3 q.order):=H3.out.nx b9 hb2;clear HO HLm;subst hl ho
   generalize (((w.alloc (.cells #[.slice p1 q.parts.length d1,.slice p2 q.ops.length d2,.slice p3 q.order.length d3,q.aH] 50)).alloc (.cells wN 50)).alloc (.cells #[aL,.slice p2 q.ops.length d2,aL,.int .i64 (-1)] 50))=w3 at *;go_upto_region 3 with fail
   have hCC:∀ W W':World,(W.heap[w.heap.size]? = some (.cells #[.slice p1 q.parts.length d1,.slice p2 q.ops.length d2,.slice p3 q.order.length d3,q.aH] 50 (0,0))∧W.heap[w.heap.size+1+1]? = some (.cells #[aL,.slice p2 q.ops.length d2,aL,.int .i64 (-1)] 50 (0,0)))→Below W W W'→(W'.heap[w.heap.size]? = some (.cells #[.slice p1 q.parts.length d1,.slice p2 q.ops.length d2,.slice p3 q.order.length d3,q.aH] 50 (0,0))∧W'.heap[w.heap.size+1+1]? = some (.cells #[aL,.slice p2 q.ops.length d2,aL,.int .i64 (-1)] 50 (0,0))):=fun W W' h hb=>⟨(hb.block _ (lt_of_heap h.1)).trans h.1,(hb.block _ (lt_of_heap h.2)).trans h.2⟩
   have hdr:Below w3 w3 w3.drew:=(I8 _ _).drew;have CW:=hCC _ _ ⟨q0',q2⟩ hdr;refine dC (fun W=>W.heap[w.heap.size]? = some (.cells #[.slice p1 q.parts.length d1,.slice p2 q.ops.length d2,.slice p3 q.order.length d3,q.aH] 50 (0,0))∧W.heap[w.heap.size+1+1]? = some (.cells #[aL,.slice p2 q.ops.length d2,aL,.int .i64 (-1)] 50 (0,0))) 6 bm ?_
   refine fP hCC 18 0 (af w 3) (fun n hn=>?_) (fun _=>CW) ?_
   ·go_simp
   simp only [Act.put,pA,pB,pC];refine fP hCC 19 1 q.aH (fun n hn=>?_) (fun _=>CW) ?_
   ·have u:=cell_of (i:=3) hn.1 rfl; go_simp
   simp only [Act.put,pA,pB,pC];refine fP hCC 20 2 (af w 2) (fun n hn=>?_) (fun _=>CW) ?_
   ·go_simp
   simp only [Act.put,pA,pB,pC];refine fP hCC 21 3 (.slice p3 q.order.length d3) (fun n hn=>?_) (fun _=>CW) ?_
   ·have u:=cell_of (i:=2) hn.1 rfl; go_simp
   simp only [Act.put,pA,pB,pC];refine fP hCC 23 5 (.pointer (some ⟨w.heap.size+1+1,3,none⟩)) (fun n hn=>?_) (fun _=>CW) ?_
   ·go_simp
   simp only [Act.put,pA,pB,pC];refine bZ (rs:=[4]) bm (by simp) ?_;intro w5 hb5 jj hj';obtain rfl:jj=4:=by simpa using hj'
   clear hj';have D5:Below w3 w3 w5:=chain hdr hb5;have C5:=hCC _ _ CW hb5;have hs5:=D5.size;have hs3:=hb2.size;have con:=oo q.order n1 (fun x hx=>kO (n2 x hx)) p3 d3 w5 ((K3.out.nx b9 D5).mono b9 (fun b h _=>by have:=HS.out b h; show b<_; omega));refine wpOp_step rfl (fun K hK'=>?_);go_simp;refine con.mono ?_;rintro e w6 ⟨hb6,a2,c2,rfl,hks⟩;clear con;have C6:=hCC _ _ C5 hb6;have D6:=chain D5 hb6;refine hK' _ _ ⟨fun _=>C6,?_⟩;clear hK' K;refine bZ (rs:=[6]) bm (by simp) ?_;intro w7 hb7 jj hj';obtain rfl:jj=6:=by simpa using hj'
   clear hj';have C7:=hCC _ _ C6 hb7;have D7:=chain D6 hb7;have u3:=cell_of (i:=3) C7.2 rfl;have f3:=I0 w7 (w.heap.size+1+1) 3 _ _ C7.2;obtain ⟨Q8,K8,_⟩:=xj C7.2 q.aH;have B8:=(hb2.trans (D7.mono ak)).setCell (p:=⟨w.heap.size+1+1,3,none⟩) (by show _≤w.heap.size+1+1; omega) q.aH;have E8:=(K8.2 _ (lt_of_heap C7.1) ak).trans C7.1;have P8:=(K8.2 _ (by have:=lt_of_heap C7.2; omega) ak).trans (bH D7 q1')
   have N8:=aJ.k1 K8 (S:=fun b=>w5.heap.size≤b) (by show ¬ w5.heap.size≤w.heap.size+1+1; omega) (aJ.next hb7 hks);refine wpOp_step rfl (fun K hK'=>?_);go_simp;generalize w7.setCell ⟨w.heap.size+1+1,3,none⟩ _=w8 at *;refine hK' _ _ ⟨fun h=>by simp at h,?_⟩;clear hK' K;refine bZ (rs:=[7]) bm (by simp) ?_;intro w9 hb9 jj hj';obtain rfl:jj=7:=by simpa using hj'
   clear hj';refine wpOp_step rfl (fun K hK'=>?_);go_simp;refine hK' _ _ ⟨fun h=>by simp at h,?_⟩;clear hK' K;refine bZ (rs:=[8]) bm (by simp) ?_;intro w10 hb10 jj hj';obtain rfl:jj=8:=by simpa using hj'
   clear hj';have D10:=chain hb9 hb10;have Q10:=bH D10 Q8;have E10:=bH D10 E8;have P10:=bH D10 P8;have N10:=aJ.next D10 N8;have B10:=B8.trans (D10.mono B8.size);have u2:=cell_of (i:=2) Q10 rfl;have f2:=I0 w10 (w.heap.size+1+1) 2 _ _ Q10;obtain ⟨Q11,K11,_⟩:=xk Q10 (.slice a2 (q.order.map aO).length c2);have B11:=B10.setCell (p:=⟨w.heap.size+1+1,2,none⟩) (by show _≤w.heap.size+1+1; omega) (.slice a2 (q.order.map aO).length c2);have E11:=(K11.2 _ (lt_of_heap E10) ak).trans E10
   have P11:=(K11.2 _ (lt_of_heap P10) ak).trans P10;have N11:=aJ.k1 K11 (S:=fun b=>w5.heap.size≤b) (by show ¬ w5.heap.size≤w.heap.size+1+1; omega) N10;refine wpOp_step rfl (fun K hK'=>?_);go_simp;clear K11 u2 f2;rw [JB] at Q11 E11 P11 N11 B11;generalize w10.setCell ⟨w.heap.size+1+1,2,none⟩ _=w11 at *;have HQ11:Hid _:=Q11;have HE11:Hid _:=E11;have HP11:Hid _:=P11;have HN11:Hid _:=N11;have HB11:Hid _:=B11;clear Q11 E11 P11 N11 B11;refine hK' _ _ ⟨fun h=>by simp at h,?_⟩;clear hK' K;refine eJ bm ?_;intro w12 hb12;have hs11:=HB11.out.size
   have G0:Hid _:=(hb12.block _ (lt_of_heap HE11.out)).trans HE11.out;have G1:Hid _:=(hb12.block _ (lt_of_heap HP11.out)).trans HP11.out;have G2:Hid _:=(hb12.block _ (lt_of_heap HQ11.out)).trans HQ11.out;have G3:Hid (aJ (fun b=>w.heap.size+1+1<b) w12 a2 (q.order.map aO)):=aJ.mono (fun b h _=>by have:w5.heap.size≤b:=h; show _<b; omega) (aJ.next hb12 HN11.out);have G4:Hid (Below w w w12):=HB11.out.trans (hb12.mono hs11);clear HE11 HP11 HQ11 HB11 HN11 C7 C6 C5 CW u3 f3 hCC Q10 E10 P10 N10 B10 Q8 E8 P8 N8 B8 K8 q0' q1' q2 hks;go_wp2_with fail
   go_meet
   case rel=>exact ⟨a2,c2,G4,G0,G1,(by show _=_; rw [JB]; exact G2.out),G3⟩
  ·have hl:L = -1:=by rw [← HLm.out,if_neg hz]
   have ho:O = []:=by rw [← HO.out,if_neg hz]
   subst hl ho;go_wp2_with fail
   go_meet
   case rel=>exact ⟨none,0,hb2,q0',q1',q2,aJ.nil _⟩
 case rest =>
  obtain ⟨r3,e3,hB,Q0,Q1,Q2,HO3⟩:=hcut;clear q2 q1' q0' hb2 HO HLm H3;have hwc:=hB.out.size;have htb:=lt_of_heap Q2.out;have PU0:Hid (ld eS 79 21 wc (w.heap.size+1+1) (fun v=>#[v,.slice p2 q.ops.length d2,.slice r3 O.length e3,L]) 50 wc aL []):=⟨aj.refl _ _,Q2.out,bC.nil _ _ _ _ _ _⟩
  have HSP:Hid (bf eS 21 S0 wc p1 q.parts):=H1.out.aM b8 ⟨hwc,fun b hb _=>hB.out.block b (HS.out b hb)⟩;have P00:wc.cell? (af w 0)=some (.slice p1 q.parts.length d1):=cell_of (i:=0) Q0.out rfl;clear H1;go_wp2_with fail
  clear P00;go_loopw [28] (fun iv wr=>∃ (ov:Value) (j:Nat) (acc:List dO),j≤q.parts.length∧iv = .int .i64 j∧Hid (acc.length=j)∧Hid (acc=(q.parts.take j).map dq)∧Hid (ld eS 79 21 wc (w.heap.size+1+1) (fun v=>#[v,.slice p2 q.ops.length d2,.slice r3 O.length e3,L]) 50 wr ov acc)) (fun iv _=>q.parts.length - (RowKit.intOf iv).toNat)
  case atStart=>exact ⟨_,0,[],Jc _,rfl,rfl,rfl,PU0⟩
  case round =>
   obtain ⟨ov,j,acc,hj,rfl,hacc,HA,HP⟩:=hrel;obtain ⟨wR,ewR⟩:∃ x,x=wr:=⟨_,rfl⟩
   subst ewR;by_cases hlt:j<q.parts.length
   ·have hjz:(j:Int)<(q.parts.length:Int):=by omega
    have hzr:=HP.out.bx.size;have hoj:=HQ.out.part _ (Jk hlt);have hnp:=HQ.out.len;have HT1:Hid ((q.parts.take (j+1)).map dq=acc ++ [dq q.parts[j]]):=by show _=_; rw [JC,Je hlt,JP,← HA.out]; rfl
    have hSn:∀ b,S0 b→b<w.heap.size:=HS.out
    obtain ⟨b1,o1,_,rfl,t1,en⟩:=(HSP.out.aM b8 (fS HP.out.bx (fun h=>by have:=hSn _ h; omega))).get hlt;obtain ⟨A,rfl,k0⟩:=jK.of en;obtain ⟨ao,co,rfl⟩:=HP.out.own.len;generalize q.parts[j]=s at *;have HSO:Hid (BS s):=hoj;have hrg:wR.rangeAt b1 (o1+j*21) (fo s A).toList:=fun i u hu=>t1.2 i u hu
    have halY:=bR wR (.cells (fo s A) 79);have QY:=aD wR (fo s A) 79;have K2:Hid (jK S0 (wR.alloc (.cells (fo s A) 79)) s A):=k0.nx halY;clear t1 en k0 hoj HA HQ;go_upto_region 7 with (first | (refine wpList_load_mid rfl 79 _ rfl b1 (o1+j*21) rfl (fo s A).toList _ hrg Tryz.underlying79 rfl kJ ?_) | (refine aT rfl 79 _ _ rfl sr (fo s A) rfl rfl kJ rfl (eh rfl) ?_))
    have hsa:=halY.size;have HW:Hid (Below wR wR (wR.alloc (.cells (fo s A) 79))):=halY;clear hrg;generalize (wR.alloc (.cells (fo s A) 79))=wa at *;have HQY:Hid _:=QY;clear QY halY;obtain ⟨n1,n2⟩:=HSO.out.group;have hsq:=lt_of_heap HQY.out;simp only [Act.put]
    go_cut [6] (fun tv wx=>∃ (tb:Nat) (a5:Option Addr) (c5:Nat),tv = .pointer (some (af tb 0))∧wR.heap.size<tb∧Hid (Below wR wR wx)∧Hid (wx.heap[wR.heap.size]? = some (.cells (fo s A) 79 (0,0)))∧Hid (jK S0 wx s A)∧Hid (wx.heap[tb]? = some (.cells (fY (⟨s.distinct,s.star,[],[],s.ax,s.aG,dM,dM,s.group.map aO⟩:dO) (nA none 0 none 0 a5 c5) aL aL) 79 (0,0)))∧Hid (aJ (fun b=>wR.heap.size<b∧b≠tb) wx a5 (s.group.map aO)))
    case first =>
     have hCC:∀ W W':World,W.heap[wR.heap.size]? = some (.cells (fo s A) 79 (0,0))→Below W W W'→W'.heap[wR.heap.size]? = some (.cells (fo s A) 79 (0,0)):=fun W W' h hb=>(hb.block _ (lt_of_heap h)).trans h
     have hdr:Below wa wa wa.drew:=(I8 _ _).drew;have CW:=hCC _ _ HQY.out hdr;refine dC (fun W=>W.heap[wR.heap.size]? = some (.cells (fo s A) 79 (0,0))) 13 bm ?_;refine fP hCC 32 0 (af wR 0) (fun n hn=>?_) (fun _=>CW) ?_
     ·go_simp
     simp only [Act.put,pA,pB,pC];refine fP hCC 33 1 s.distinct (fun n hn=>?_) (fun _=>CW) ?_
     ·have u:=cell_of (i:=0) hn rfl; go_simp
     simp only [Act.put,pA,pB,pC];refine fP hCC 34 2 (af wR 1) (fun n hn=>?_) (fun _=>CW) ?_
     ·go_simp
     simp only [Act.put,pA,pB,pC];refine fP hCC 35 3 s.star (fun n hn=>?_) (fun _=>CW) ?_
     ·have u:=cell_of (i:=1) hn rfl; go_simp
     simp only [Act.put,pA,pB,pC];refine fP hCC 36 4 (af wR 4) (fun n hn=>?_) (fun _=>CW) ?_
     ·go_simp
     simp only [Act.put,pA,pB,pC];refine fP hCC 37 5 s.ax (fun n hn=>?_) (fun _=>CW) ?_
     ·have u:=cell_of (i:=4) hn rfl; go_simp
     simp only [Act.put,pA,pB,pC];refine fP hCC 38 6 (af wR 5) (fun n hn=>?_) (fun _=>CW) ?_
     ·go_simp
     simp only [Act.put,pA,pB,pC];refine fP hCC 39 7 s.aG (fun n hn=>?_) (fun _=>CW) ?_
     ·have u:=cell_of (i:=5) hn rfl; go_simp
     simp only [Act.put,pA,pB,pC];refine fP hCC 40 8 (af wR 20) (fun n hn=>?_) (fun _=>CW) ?_
     ·go_simp
     simp only [Act.put,pA,pB,pC];refine fP hCC 41 9 (.slice A.a5 s.group.length A.c5) (fun n hn=>?_) (fun _=>CW) ?_
     ·have u:=cell_of (i:=20) hn rfl; go_simp
     simp only [Act.put,pA,pB,pC];refine bZ (rs:=[10,12]) bm (by simp) ?_;intro y1 hb1 jj hj';simp only [Jn,List.not_mem_nil,or_false] at hj';rcases hj' with rfl | rfl
     ·have D1:Below wa wa y1:=hdr.trans (hb1.mono (by have:=hdr.size; omega));have C1:=hCC _ _ CW hb1;have g1:=D1.size;have con:=oo s.group n1 (fun x hx=>kO (n2 x hx)) A.a5 A.c5 y1 ((K2.out.l5.aM b9 (ay.Dt D1 (fun b h=>by have:=hSn b h; omega))).mono b9 (fun b h _=>by have:=hSn b h; show b<_; omega));refine wpOp_step rfl (fun K hK'=>?_);go_simp;refine con.mono ?_;rintro e z1 ⟨hc1,a2,c2,rfl,hks⟩;clear con;have E1:Below wa wa z1:=D1.trans (hc1.mono ak);have I1:=hCC _ _ C1 hc1
      have M1:aJ (fun b=>y1.heap.size≤b∧b<z1.heap.size) z1 a2 (s.group.map aO):=aJ.mono (fun b h1 h2=>⟨h1,h2⟩) hks;refine hK' _ _ ⟨fun _=>I1,?_⟩;clear hK' K hks;refine bZ (rs:=[11,12]) bm (by simp) ?_;intro y2 hb2 jj hj';simp only [Jn,List.not_mem_nil,or_false] at hj';rcases hj' with rfl | rfl
      ·have D2:Below wa wa y2:=E1.trans (hb2.mono (by have:=E1.size; omega));have C2:=hCC _ _ I1 hb2;have N2:=aJ.next hb2 M1;refine lR rfl rfl 79 _ rfl (fY (⟨s.distinct,s.star,[],[],s.ax,s.aG,dM,dM,s.group.map aO⟩:dO) (nA none 0 none 0 a2 c2) aL aL) bm (d:=43) rfl ?_;refine ⟨fun _=>C2,?_⟩;simp only [Act.put,pA,pB,pC];refine bZ (rs:=[12]) bm (by simp) ?_;intro y3 hb3 jj hj';obtain rfl:jj=12:=by simpa using hj'
       clear hj';have D3:Below wa wa y3:=D2.trans (hb3.mono (by have:=D2.size; omega));have C3:=hCC _ _ C2 hb3;have N3:=aJ.next hb3 N2;refine mI rfl rfl 79 j6 rfl ru (d:=6) rfl ?_;have hc3:=bR y3 (.cells j6 79);have R3:=aD y3 j6 79;have g3:=D3.size;have E3:Below wa wa (y3.alloc (.cells j6 79)):=D3.trans (hc3.mono ak);have I3:=hCC _ _ C3 hc3
       have M3:=aJ.mono (S':=fun b=>wR.heap.size<b∧b≠y3.heap.size) (fun b h1 h2=>⟨by have:=h1.1; omega,by have:=h1.2; omega⟩) (aJ.next hc3 (aJ.mono (S':=fun b=>y1.heap.size≤b∧b<y3.heap.size) (fun b h1 h2=>⟨h1.1,h2⟩) N3));refine ⟨fun _=>I3,?_⟩;simp only [Act.put,pA,pB,pC];generalize y3.alloc (.cells j6 79)=z3 at *;refine bZ (rs:=[13]) bm (by simp) ?_;intro y4 hb4 jj hj';obtain rfl:jj=13:=by simpa using hj'
       clear hj';have D4:Below wa wa y4:=E3.trans (hb4.mono (by have:=E3.size; omega));have C4:=hCC _ _ I3 hb4;have Q4:=bH hb4 R3;have N4:=aJ.next hb4 M3;refine kA rfl rfl 79 _ _ rfl rfl (c':=fY (⟨s.distinct,s.star,[],[],s.ax,s.aG,dM,dM,s.group.map aO⟩:dO) (nA none 0 none 0 a2 c2) aL aL) rfl rfl Q4 kJ rfl (eh rfl) ?_
       have R4:=setRow_heap _ _ _ (fY (⟨s.distinct,s.star,[],[],s.ax,s.aG,dM,dM,s.group.map aO⟩:dO) (nA none 0 none 0 a2 c2) aL aL) _ _ Q4;have hk4:aI y3 y4 (y4.setRow y3 (fY (⟨s.distinct,s.star,[],[],s.ax,s.aG,dM,dM,s.group.map aO⟩:dO) (nA none 0 none 0 a2 c2) aL aL)):=⟨by simp,fun k _ hn=>setRow_other _ _ k _ hn⟩
       have I4:=(hk4.2 _ (lt_of_heap C4) ak).trans C4;have M4:=aJ.k1 hk4 (by show ¬ (_∧_); simp) N4;have E4:Below wa wa (y4.setRow y3 (fY (⟨s.distinct,s.star,[],[],s.ax,s.aG,dM,dM,s.group.map aO⟩:dO) (nA none 0 none 0 a2 c2) aL aL)):=below_setRow D4 ak _;refine ⟨fun h=>by simp at h,?_⟩;generalize y4.setRow y3 (fY (⟨s.distinct,s.star,[],[],s.ax,s.aG,dM,dM,s.group.map aO⟩:dO) (nA none 0 none 0 a2 c2) aL aL)=z4 at *
       refine eJ bm ?_;intro wf hbf;have D:=E4.trans (hbf.mono (by have:=E4.size; omega));have F1:=hCC _ _ I4 hbf;have F2:=bH hbf R4;have F3:=aJ.next hbf M4;go_wp2_with fail
       go_meet
       case rel=>exact ⟨_,_,_,rfl,by omega,HW.out.trans (D.mono ak),F1,K2.out.aM (ay.Dt D (fun b h=>by have:=hSn b h; omega)),F2,aJ.mono (fun b h _=>h) F3⟩
      ·have D2:Below wa wa y2:=E1.trans (hb2.mono (by have:=E1.size; omega));have C2:=hCC _ _ I1 hb2;have N2:=aJ.next hb2 M1;refine mI rfl rfl 79 j6 rfl ru (d:=6) rfl ?_;have hc2:=bR y2 (.cells j6 79);have R2:=aD y2 j6 79;have g2:=D2.size;have E2:Below wa wa (y2.alloc (.cells j6 79)):=D2.trans (hc2.mono ak);have I2:=hCC _ _ C2 hc2
       have M2:=aJ.mono (S':=fun b=>wR.heap.size<b∧b≠y2.heap.size) (fun b h1 h2=>⟨by have:=h1.1; omega,by have:=h1.2; omega⟩) (aJ.next hc2 (aJ.mono (S':=fun b=>y1.heap.size≤b∧b<y2.heap.size) (fun b h1 h2=>⟨h1.1,h2⟩) N2));refine ⟨fun _=>I2,?_⟩;simp only [Act.put,pA,pB,pC];generalize y2.alloc (.cells j6 79)=z2 at *;refine bZ (rs:=[11]) bm (by simp) ?_;intro y3 hb3 jj hj';obtain rfl:jj=11:=by simpa using hj'
       clear hj';have D3:Below wa wa y3:=E2.trans (hb3.mono (by have:=E2.size; omega));have C3:=hCC _ _ I2 hb3;have Q3:=bH hb3 R2;have N3:=aJ.next hb3 M2;refine lR rfl rfl 79 _ rfl (fY (⟨s.distinct,s.star,[],[],s.ax,s.aG,dM,dM,s.group.map aO⟩:dO) (nA none 0 none 0 a2 c2) aL aL) bm (d:=43) rfl ?_;refine ⟨fun _=>C3,?_⟩;simp only [Act.put,pA,pB,pC];refine bZ (rs:=[13]) bm (by simp) ?_;intro y4 hb4 jj hj';obtain rfl:jj=13:=by simpa using hj'
       clear hj';have D4:Below wa wa y4:=D3.trans (hb4.mono (by have:=D3.size; omega));have C4:=hCC _ _ C3 hb4;have Q4:=bH hb4 Q3;have N4:=aJ.next hb4 N3;refine kA rfl rfl 79 _ _ rfl rfl (c':=fY (⟨s.distinct,s.star,[],[],s.ax,s.aG,dM,dM,s.group.map aO⟩:dO) (nA none 0 none 0 a2 c2) aL aL) rfl rfl Q4 kJ rfl (eh rfl) ?_
       have R4:=setRow_heap _ _ _ (fY (⟨s.distinct,s.star,[],[],s.ax,s.aG,dM,dM,s.group.map aO⟩:dO) (nA none 0 none 0 a2 c2) aL aL) _ _ Q4;have hk4:aI y2 y4 (y4.setRow y2 (fY (⟨s.distinct,s.star,[],[],s.ax,s.aG,dM,dM,s.group.map aO⟩:dO) (nA none 0 none 0 a2 c2) aL aL)):=⟨by simp,fun k _ hn=>setRow_other _ _ k _ hn⟩
       have I4:=(hk4.2 _ (lt_of_heap C4) ak).trans C4;have M4:=aJ.k1 hk4 (by show ¬ (_∧_); simp) N4;have E4:Below wa wa (y4.setRow y2 (fY (⟨s.distinct,s.star,[],[],s.ax,s.aG,dM,dM,s.group.map aO⟩:dO) (nA none 0 none 0 a2 c2) aL aL)):=below_setRow D4 ak _;refine ⟨fun h=>by simp at h,?_⟩;generalize y4.setRow y2 (fY (⟨s.distinct,s.star,[],[],s.ax,s.aG,dM,dM,s.group.map aO⟩:dO) (nA none 0 none 0 a2 c2) aL aL)=z4 at *
       refine eJ bm ?_;intro wf hbf;have D:=E4.trans (hbf.mono (by have:=E4.size; omega));have F1:=hCC _ _ I4 hbf;have F2:=bH hbf R4;have F3:=aJ.next hbf M4;go_wp2_with fail
       go_meet
       case rel=>exact ⟨_,_,_,rfl,by omega,HW.out.trans (D.mono ak),F1,K2.out.aM (ay.Dt D (fun b h=>by have:=hSn b h; omega)),F2,aJ.mono (fun b h _=>h) F3⟩
     ·have D1:Below wa wa y1:=hdr.trans (hb1.mono (by have:=hdr.size; omega));have C1:=hCC _ _ CW hb1;refine mI rfl rfl 79 j6 rfl ru (d:=6) rfl ?_;have hc1:=bR y1 (.cells j6 79);have R1:=aD y1 j6 79;have g1:=D1.size;have E1:Below wa wa (y1.alloc (.cells j6 79)):=D1.trans (hc1.mono ak);have I1:=hCC _ _ C1 hc1;refine ⟨fun _=>I1,?_⟩;simp only [Act.put,pA,pB,pC];generalize y1.alloc (.cells j6 79)=z1 at *;refine bZ (rs:=[10]) bm (by simp) ?_
      intro y2 hb2 jj hj';obtain rfl:jj=10:=by simpa using hj'
      clear hj';have D2:Below wa wa y2:=E1.trans (hb2.mono (by have:=E1.size; omega));have C2:=hCC _ _ I1 hb2;have Q2:=bH hb2 R1;have g2:=D2.size;have con:=oo s.group n1 (fun x hx=>kO (n2 x hx)) A.a5 A.c5 y2 ((K2.out.l5.aM b9 (ay.Dt D2 (fun b h=>by have:=hSn b h; omega))).mono b9 (fun b h _=>by have:=hSn b h; show b<_; omega));refine wpOp_step rfl (fun K hK'=>?_);go_simp;refine con.mono ?_;rintro e z2 ⟨hc2,a2,c2,rfl,hks⟩;clear con;have E2:Below wa wa z2:=D2.trans (hc2.mono ak);have I2:=hCC _ _ C2 hc2
      have R2:=bH hc2 Q2;have M2:=aJ.mono (S':=fun b=>wR.heap.size<b∧b≠y1.heap.size) (fun b h _=>by have h:y2.heap.size≤b:=h; have:=lt_of_heap Q2; exact ⟨by omega,by omega⟩) hks;refine hK' _ _ ⟨fun _=>I2,?_⟩;clear hK' K hks;refine bZ (rs:=[11]) bm (by simp) ?_;intro y3 hb3 jj hj';obtain rfl:jj=11:=by simpa using hj'
      clear hj';have D3:Below wa wa y3:=E2.trans (hb3.mono (by have:=E2.size; omega));have C3:=hCC _ _ I2 hb3;have Q3:=bH hb3 R2;have N3:=aJ.next hb3 M2;refine lR rfl rfl 79 _ rfl (fY (⟨s.distinct,s.star,[],[],s.ax,s.aG,dM,dM,s.group.map aO⟩:dO) (nA none 0 none 0 a2 c2) aL aL) bm (d:=43) rfl ?_;refine ⟨fun _=>C3,?_⟩;simp only [Act.put,pA,pB,pC];refine bZ (rs:=[13]) bm (by simp) ?_;intro y4 hb4 jj hj';obtain rfl:jj=13:=by simpa using hj'
      clear hj';have D4:Below wa wa y4:=D3.trans (hb4.mono (by have:=D3.size; omega));have C4:=hCC _ _ C3 hb4;have Q4:=bH hb4 Q3;have N4:=aJ.next hb4 N3;refine kA rfl rfl 79 _ _ rfl rfl (c':=fY (⟨s.distinct,s.star,[],[],s.ax,s.aG,dM,dM,s.group.map aO⟩:dO) (nA none 0 none 0 a2 c2) aL aL) rfl rfl Q4 kJ rfl (eh rfl) ?_
      have R4:=setRow_heap _ _ _ (fY (⟨s.distinct,s.star,[],[],s.ax,s.aG,dM,dM,s.group.map aO⟩:dO) (nA none 0 none 0 a2 c2) aL aL) _ _ Q4;have hk4:aI y1 y4 (y4.setRow y1 (fY (⟨s.distinct,s.star,[],[],s.ax,s.aG,dM,dM,s.group.map aO⟩:dO) (nA none 0 none 0 a2 c2) aL aL)):=⟨by simp,fun k _ hn=>setRow_other _ _ k _ hn⟩
      have I4:=(hk4.2 _ (lt_of_heap C4) ak).trans C4;have M4:=aJ.k1 hk4 (by show ¬ (_∧_); simp) N4;have E4:Below wa wa (y4.setRow y1 (fY (⟨s.distinct,s.star,[],[],s.ax,s.aG,dM,dM,s.group.map aO⟩:dO) (nA none 0 none 0 a2 c2) aL aL)):=below_setRow D4 ak _;refine ⟨fun h=>by simp at h,?_⟩;generalize y4.setRow y1 (fY (⟨s.distinct,s.star,[],[],s.ax,s.aG,dM,dM,s.group.map aO⟩:dO) (nA none 0 none 0 a2 c2) aL aL)=z4 at *
      refine eJ bm ?_;intro wf hbf;have D:=E4.trans (hbf.mono (by have:=E4.size; omega));have F1:=hCC _ _ I4 hbf;have F2:=bH hbf R4;have F3:=aJ.next hbf M4;go_wp2_with fail
      go_meet
      case rel=>exact ⟨_,_,_,rfl,by omega,HW.out.trans (D.mono ak),F1,K2.out.aM (ay.Dt D (fun b h=>by have:=hSn b h; omega)),F2,aJ.mono (fun b h _=>h) F3⟩
    case rest =>
     obtain ⟨tb,a5,c5,rfl,htb2,HW7,HS7,HK7,HT7,HG7⟩:=hcut;obtain ⟨w7,ew⟩:∃ x,x=wc:=⟨_,rfl⟩
     subst ew;clear HW HQY K2 n1 n2 hsa hsq;have x1:w7.cell? (af wR 1)=some (.bool s.star):=cell_of (i:=1) HS7.out rfl;go_upto_if 46 with fail
     clear x1;obtain ⟨I,hI⟩:∃ I,(if s.star then [] else s.items.map fun i=>(aO i.1,i.2))=I:=⟨_,rfl⟩
     have HI:Hid ((if s.star then [] else s.items.map fun i=>(aO i.1,i.2))=I):=hI;clear hI;have htl:=lt_of_heap HT7.out
     go_cut [] (fun wx=>∃ (a1:Option Addr) (c1:Nat),Hid (Below wR wR wx)∧Hid (wx.heap[wR.heap.size]? = some (.cells (fo s A) 79 (0,0)))∧Hid (jK S0 wx s A)∧Hid (wx.heap[tb]? = some (.cells (fY (⟨s.distinct,s.star,[],[],s.ax,s.aG,dM,dM,s.group.map aO⟩:dO) (nA none 0 none 0 a5 c5) (.slice a1 I.length c1) aL) 79 (0,0)))∧Hid (bf kl 8 (fun b=>wR.heap.size<b∧b≠tb) wx a1 I)∧Hid (aJ (fun b=>wR.heap.size<b∧b≠tb) wx a5 (s.group.map aO)))
     case first =>
      generalize hns:(!s.star)=ns;rcases ns with _ | _
      rotate_left
      ·have hs:s.star=false:=by simpa using hns
       clear hns;have ei:I=s.items.map fun i=>(aO i.1,i.2):=by rw [← HI.out,hs]; rfl
       have HE:Hid (I=s.items.map fun i=>(aO i.1,i.2)):=ei;obtain ⟨n1,n2⟩:=HSO.out.items hs;have P0:Hid (ld kl 75 8 w7 tb (fun (v:Value)=>fY (⟨s.distinct,s.star,[],[],s.ax,s.aG,dM,dM,s.group.map aO⟩:dO) (nA none 0 none 0 a5 c5) v aL) 79 w7 aL []):=⟨aj.refl _ _,HT7.out,bC.nil _ _ _ _ _ _⟩
       obtain ⟨za,hza⟩:∃ z,A.a1=z:=⟨_,rfl⟩
       have x2:w7.cell? (af wR 2)=some (.slice za s.items.length A.c1):=by rw [← hza]; exact cell_of (i:=2) HS7.out rfl
       have HLI:Hid (bf kl 8 S0 w7 za s.items):=by show bf _ _ _ _ _ _; rw [← hza]; exact HK7.out.l1
       clear ei HI hs hza;obtain ⟨j0,hi,hj0,hj1,hj2⟩:=info_parts D0;go_wp2_with fail
       clear x2;go_loopw [50] (fun iv wr=>∃ (v:Value) (k:Nat) (its:List kx),k≤s.items.length∧iv = .int .i64 k∧Hid (its.length=k)∧Hid (its=(s.items.take k).map fun i=>(aO i.1,i.2))∧Hid (ld kl 75 8 w7 tb (fun (v:Value)=>fY (⟨s.distinct,s.star,[],[],s.ax,s.aG,dM,dM,s.group.map aO⟩:dO) (nA none 0 none 0 a5 c5) v aL) 79 wr v its)) (fun iv _=>s.items.length - (RowKit.intOf iv).toNat)
       case atStart=>exact ⟨_,0,[],Jc _,rfl,rfl,rfl,P0⟩
       case round =>
        obtain ⟨v,k,its,hk,rfl,hlen,HL,HPI⟩:=hrel;by_cases hlk:k<s.items.length
        ·have hjk:(k:Int)<(s.items.length:Int):=by omega
         have HT2:Hid ((s.items.take (k+1)).map (fun i=>(aO i.1,i.2))=its ++ [(aO s.items[k].1,s.items[k].2)]):=by show _=_; rw [JC,Je hlk,JP,← HL.out]; rfl
         have hbd:=n2 _ (Jk hlk);obtain ⟨b2,o2,_,rfl,t2,ai,ci,rfl,kk⟩:=(HLI.out.aM fp (fS HPI.out.bx (fun h=>by have:=hSn _ h; omega))).get hlk;obtain ⟨av,cv,rfl⟩:=HPI.out.own.len;generalize s.items[k]=y at *;have HBD:Hid (pV y.1):=kO hbd;have hnb:=HPI.out.own.lt;have hsy:=HPI.out.bx.size;have hrg:wr.rangeAt b2 (o2+k*8) (kq y ai ci).toList:=fun i u hu=>t2.2 i u hu
         have halI:=bR wr (.cells (kq y ai ci) 75);have QI:=aD wr (kq y ai ci) 75;have KI:Hid (aJ S0 (wr.alloc (.cells (kq y ai ci) 75)) ai y.1.ks):=aJ.next halI kk;have P1:Hid (ld kl 75 8 w7 tb (fun (v:Value)=>fY (⟨s.distinct,s.star,[],[],s.ax,s.aG,dM,dM,s.group.map aO⟩:dO) (nA none 0 none 0 a5 c5) v aL) 79 (wr.alloc (.cells (kq y ai ci) 75)) (.slice av its.length cv) its):=HPI.out.nx fp (Jb htl) halI;have hs7:=HW7.out.size;have hwr:=hzr
         clear t2 kk hbd HL HPI;go_upto_region 12 with (first | (refine wpList_load_mid rfl 75 _ rfl b2 (o2+k*8) rfl (kq y ai ci).toList _ hrg Tryz.underlying75 rfl Iu ?_) | (refine aT rfl 75 _ _ rfl IT (kq y ai ci) rfl rfl Iu rfl (eh rfl) ?_))
         clear hrg;have hsI:=halI.size;clear halI;generalize (wr.alloc (.cells (kq y ai ci) 75))=wb at *
         have hCC:∀ W W':World,(W.heap[tb]? = some (.cells (fY (⟨s.distinct,s.star,[],[],s.ax,s.aG,dM,dM,s.group.map aO⟩:dO) (nA none 0 none 0 a5 c5) (.slice av its.length cv) aL) 79 (0,0))∧W.heap[wr.heap.size]? = some (.cells (kq y ai ci) 75 (0,0)))→Below W W W'→(W'.heap[tb]? = some (.cells (fY (⟨s.distinct,s.star,[],[],s.ax,s.aG,dM,dM,s.group.map aO⟩:dO) (nA none 0 none 0 a5 c5) (.slice av its.length cv) aL) 79 (0,0))∧W'.heap[wr.heap.size]? = some (.cells (kq y ai ci) 75 (0,0))):=fun W W' h hb=>⟨(hb.block _ (lt_of_heap h.1)).trans h.1,(hb.block _ (lt_of_heap h.2)).trans h.2⟩
         have hdr:Below wb wb wb.drew:=(I8 _ _).drew;have CW:=hCC _ _ ⟨P1.out.zk,QI⟩ hdr;refine dC (fun W=>W.heap[tb]? = some (.cells (fY (⟨s.distinct,s.star,[],[],s.ax,s.aG,dM,dM,s.group.map aO⟩:dO) (nA none 0 none 0 a5 c5) (.slice av its.length cv) aL) 79 (0,0))∧W.heap[wr.heap.size]? = some (.cells (kq y ai ci) 75 (0,0))) 11 bm ?_
         refine fP hCC 54 0 (af tb 2) (fun n hn=>?_) (fun _=>CW) ?_
         ·go_simp
         simp only [Act.put,pA,pB,pC];refine fP hCC 55 1 (.slice av its.length cv) (fun n hn=>?_) (fun _=>CW) ?_
         ·have u:=cell_of (i:=2) hn.1 rfl; go_simp
         simp only [Act.put,pA,pB,pC];refine fP hCC 56 2 (af wr 0) (fun n hn=>?_) (fun _=>CW) ?_
         ·go_simp
         simp only [Act.put,pA,pB,pC];refine fP hCC 57 3 (.agg (bE y.1 ai ci)) (fun n hn=>?_) (fun _=>CW) ?_
         ·have u0:=cell_of (i:=0) hn.2 rfl;have u1:=cell_of (i:=1) hn.2 rfl;have u2:=cell_of (i:=2) hn.2 rfl;have u3:=cell_of (i:=3) hn.2 rfl;have u4:=cell_of (i:=4) hn.2 rfl;have u5:=cell_of (i:=5) hn.2 rfl;have u6:=cell_of (i:=6) hn.2 rfl;go_simp
         simp only [Act.put,pA,pB,pC];refine fP hCC 59 5 (af wr 7) (fun n hn=>?_) (fun _=>CW) ?_
         ·go_simp
         simp only [Act.put,pA,pB,pC];refine fP hCC 60 6 y.2 (fun n hn=>?_) (fun _=>CW) ?_
         ·have u7:=cell_of (i:=7) hn.2 rfl; go_simp
         simp only [Act.put,pA,pB,pC];refine bZ (rs:=[4]) bm (by simp) ?_;intro w1 hb1 jj hj';obtain rfl:jj=4:=by simpa using hj'
         clear hj';have D1:Below wb wb w1:=chain hdr hb1;have C1:=hCC _ _ CW hb1;have hs1:=D1.size;have con:=HBD.out ai ci w1 (aJ.mono (fun b h _=>by have:=hSn b h; show b<_; omega) (aJ.next D1 KI.out));refine wpOp_step rfl (fun K hK'=>?_);go_simp;refine con.mono ?_;rintro e w2 ⟨hb2,a2,c2,rfl,hks⟩;clear con HBD;have HKS:Hid (aJ (fun b=>w1.heap.size≤b) w2 a2 (aO y.1).ks):=hks;clear hks;generalize hz:((aO y.1,y.2):kx)=z at *;have e1:aO y.1=z.1:=by rw [← hz]
         have e2:y.2=z.2:=by rw [← hz]
         rw [e1] at HKS ⊢;rw [e2];clear e1 e2 hz;have C2:=hCC _ _ C1 hb2;have D2:Below wb wb w2:=chain D1 hb2;refine hK' _ _ ⟨fun _=>C2,?_⟩;clear hK' K;refine bZ (rs:=[7]) bm (by simp) ?_;intro w3 hb3 jj hj';obtain rfl:jj=7:=by simpa using hj'
         clear hj';have C3:=hCC _ _ C2 hb3;refine lR rfl rfl 75 _ rfl (kq z a2 c2) bm (d:=61) rfl ?_;refine ⟨fun _=>C3,?_⟩;simp only [Act.put,pA,pB,pC];refine bZ (rs:=[8]) bm (by simp) ?_;intro w4 hb4 jj hj';obtain rfl:jj=8:=by simpa using hj'
         clear hj';have C4:=hCC _ _ C3 hb4;have hal5:=bR w4 (.cells (kq z a2 c2) 75);have q5:=aD w4 (kq z a2 c2) 75;have C5:=hCC _ _ C4 hal5;refine wpOp_step rfl (fun K hK'=>?_);go_simp;refine hK' _ _ ⟨fun _=>C5,?_⟩;clear hK' K;have E5:=chain (chain hb3 hb4) hal5;have D5:=chain D2 E5;generalize w4.alloc (.cells (kq z a2 c2) 75)=w5 at *;refine bZ (rs:=[9]) bm (by simp) ?_;intro w9 hb9 jj hj';obtain rfl:jj=9:=by simpa using hj'
         clear hj';have C9:=hCC _ _ C5 hb9;have D9:=chain D5 hb9;have q9:=bH hb9 q5;have KS9:=aJ.next (chain E5 hb9) HKS.out;have P9:=P1.out.nx fp (Jb htl) D9;have hs9:=D9.size;have hq9:=lt_of_heap q9;have hln:=hlen.out;obtain ⟨xs,o9,en9⟩:=P9.own;refine wpOp_step rfl (fun K hK'=>?_);refine jW _ _ 76 rfl w7 75 j0 _ 8 112 Tryz.underlying76 hi hj0 hj1 hj2 rfl (by decide) (.slice av its.length cv) its.length _ rfl o9 (af w4 0) 1 1 (kq z a2 c2).toList rfl rfl ?Bc1 ?Bc2 ?Bc3 ?Bc4 ?Bc5 ?_;try case Bc1 =>
          intro i u hu;rw [bG,Jm];exact cell_of (i:=i) q9 (by rw [← hu]; simp)
         case Bc2=>exact fun u hu=>List.all_eq_true.1 (rfl:List.all (kq z a2 c2).toList (·.oneCell')=true) u hu
         case Bc3=>unfold maxLen; omega
         case Bc4=>omega
         case Bc5=>omega
         intro vq w10 o10 g10 hd10;obtain ⟨B10,s10,far10,fin10⟩:=P9.push fp htl o9 en9 rfl (⟨a2,c2,rfl,KS9⟩:kl (fun b=>w1.heap.size≤b) w9 z (kq z a2 c2).toList) (fun b h _=>⟨by have:w1.heap.size≤b:=h; omega,fun e=>by have:=(hnb b e).2; have:w1.heap.size≤b:=h; omega⟩) o10 g10 (by simpa using hd10);have q10:=(far10 _ (lt_of_heap C9.2) (fun e=>by have:=(hnb _ e).2; omega)).trans C9.2;refine hK' _ _ ⟨fun _=>⟨B10,q10⟩,?_⟩;clear hK' K o9 en9 o10 g10 hd10;refine bZ (rs:=[10]) bm (by simp) ?_;intro w11 hb11 jj hj';obtain rfl:jj=10:=by simpa using hj'
         clear hj';have C11:=hCC _ _ ⟨B10,q10⟩ hb11;refine wpOp_step rfl (fun K hK'=>?_);go_simp;refine hK' _ _ ⟨fun _=>C11,?_⟩;clear hK' K;refine bZ (rs:=[11]) bm (by simp) ?_;intro w12 hb12 jj hj';obtain rfl:jj=11:=by simpa using hj'
         clear hj';have C12:=hCC _ _ C11 hb12;have u2:=cell_of (i:=2) C12.1 rfl;have f2:=I0 w12 tb 2 _ _ C12.1;have fin:=fin10 2 w12 rfl (chain hb11 hb12);obtain ⟨aw,cw,ew⟩:=fin.own.len;have hlen1:(its ++ [z]).length=k+1:=by rw [Jf,hln]; rfl
         generalize (its ++ [z]).length=n3 at ew;refine wpOp_step rfl (fun K hK'=>?_);subst ew;go_simp;have FIN:Hid _:=fin;clear fin fin10 far10;generalize w12.setCell (af tb 2) _=w13 at *;refine hK' _ _ ⟨fun h=>by simp at h,?_⟩;clear hK' K;refine eJ bm ?_;intro w14 hb14;have FN:Hid _:=FIN.out.nx fp (Jb htl) hb14;clear FIN C12 C11 C9 C5 C4 C3 C2 C1 CW hCC u2 f2 B10 q10 P9 P1 q9 q5 QI;go_wp2_with fail
         go_roundw
         case rel=>exact ⟨_,k+1,its ++ [z],by omega,by go_num,hlen1,HT2.out.symm,FN⟩
         case measure=>simp [RowKit.intOf]; omega
        ·have hjk:¬ (k:Int)<(s.items.length:Int):=by omega
         have ea:I=its:=by rw [HE.out,HL.out,Jx ak]
         subst ea;obtain ⟨a1,c1,rfl,hls⟩:=HPI.out.own.ls fp (fun _ h=>h);have hs7:=HW7.out.size;have R1:Hid _:=HW7.out.trans (HPI.out.bx.jS (B:=wR.heap.size) ak);have R2:Hid _:=uX HPI.out.bx HS7.out ak;have R3:Hid _:=HK7.out.aM (fS HPI.out.bx (fun h=>by have:=hSn _ h; omega));have R4:Hid _:=HPI.out.zk;have R5:Hid (bf kl 8 (fun b=>wR.heap.size<b∧b≠tb) wr a1 I):=hls.mono fp (fun b h _=>by have h:w7.heap.size≤b:=h; exact ⟨by omega,by omega⟩);have R6:Hid _:=HG7.out.aM (fS HPI.out.bx (fun h=>h.2 rfl));clear HPI hls HL HLI;go_wp2_with fail
         go_meet
         case rel=>exact ⟨a1,c1,R1,R2,R3,R4,R5,R6⟩
      ·have hs:s.star=true:=by simpa using hns
       have ei:I = []:=by rw [← HI.out,hs]; rfl
       clear hns hs;subst ei;go_wp2_with fail
       go_meet
       case rel=>exact ⟨none,0,HW7,HS7,HK7,HT7,.inl rfl,HG7⟩
     case rest =>
      obtain ⟨a1,c1,HW8,HS8,HK8,HT8,HI8,HG8⟩:=hcut;obtain ⟨w8,ew⟩:∃ x,x=wc:=⟨_,rfl⟩
      subst ew;clear HW7 HS7 HK7 HT7 HG7 htl;have htl:=lt_of_heap HT8.out;have hs8:=HW8.out.size;obtain ⟨n1,n2⟩:=HSO.out.Hr;have P0:Hid (ld gj 105 10 w8 tb (fun (v:Value)=>fY (⟨s.distinct,s.star,[],[],s.ax,s.aG,dM,dM,s.group.map aO⟩:dO) (nA a1 c1 none 0 a5 c5) (.slice a1 I.length c1) v) 79 w8 aL []):=⟨aj.refl _ _,HT8.out,bC.nil _ _ _ _ _ _⟩
      obtain ⟨za,hza⟩:∃ z,A.a2=z:=⟨_,rfl⟩
      have x3:w8.cell? (af wR 3)=some (.slice za s.sources.length A.c2):=by rw [← hza]; exact cell_of (i:=3) HS8.out rfl
      have HLI:Hid (bf gj 10 S0 w8 za s.sources):=by show bf _ _ _ _ _ _; rw [← hza]; exact HK8.out.l2
      clear hza;obtain ⟨j0,hi',hj0',hj1',hj2'⟩:=info_parts Ec;go_wp2_with fail
      clear x3;go_loopw [69] (fun iv wx=>∃ (v:Value) (k:Nat) (fs:List Src),k≤s.sources.length∧iv = .int .i64 k∧Hid (fs.length=k)∧Hid (fs=bF true (s.sources.take k))∧Hid (ld gj 105 10 w8 tb (fun (v:Value)=>fY (⟨s.distinct,s.star,[],[],s.ax,s.aG,dM,dM,s.group.map aO⟩:dO) (nA a1 c1 none 0 a5 c5) (.slice a1 I.length c1) v) 79 wx v fs)) (fun iv _=>s.sources.length - (RowKit.intOf iv).toNat)
      case atStart=>exact ⟨_,0,[],Jc _,rfl,rfl,rfl,P0⟩
      case round =>
       obtain ⟨v,k,fs,hk,rfl,hlen,HL,HPI⟩:=hrel;by_cases hlk:k<s.sources.length
       ·have hjk:(k:Int)<(s.sources.length:Int):=by omega
        have HT2:Hid (bF true (s.sources.take (k+1))=fs ++ [eN (decide (k=0)) s.sources[k]]):=by
         show _=_;rw [JC,Je hlk];show bF true (s.sources.take k ++ [s.sources[k]])=_;rw [qJ,← HL.out,Bool.true_and]
         congr 3
         cases k with
         | zero=>simp
         | succ n=>simp; intro h; rw [h] at hlk; exact absurd hlk (by simp)
        have hbd:=n2 k hlk;obtain ⟨b2,o2,_,rfl,t2,ai,ci,rfl,kk⟩:=(HLI.out.aM cU (fS HPI.out.bx (fun h=>by have:=hSn _ h; omega))).get hlk;obtain ⟨av,cv,rfl⟩:=HPI.out.own.len;generalize s.sources[k]=y at *;have HBD:Hid (k≠0→gA y.on):=hbd;have hnb:=HPI.out.own.lt;have hsy:=HPI.out.bx.size;have hrg:wr.rangeAt b2 (o2+k*10) (fK y ai ci).toList:=fun i u hu=>t2.2 i u hu
        have halI:=bR wr (.cells (fK y ai ci) 105);have QI:=aD wr (fK y ai ci) 105;have halG:Below (wr.alloc (.cells (fK y ai ci) 105)).heap.size (wr.alloc (.cells (fK y ai ci) 105)) ((wr.alloc (.cells (fK y ai ci) 105)).alloc (.cells (BG y.kind y.name y.alias) 105)):=bR ..;have QG:=aD (wr.alloc (.cells (fK y ai ci) 105)) (BG y.kind y.name y.alias) 105;rw [size_alloc] at QG;have hal:=chain halI halG;have QI2:=bH halG QI
        have KI:Hid (aJ S0 ((wr.alloc (.cells (fK y ai ci) 105)).alloc (.cells (BG y.kind y.name y.alias) 105)) ai y.on.ks):=aJ.next hal kk;have HP0:Hid (ld gj 105 10 w8 tb (fun (v:Value)=>fY (⟨s.distinct,s.star,[],[],s.ax,s.aG,dM,dM,s.group.map aO⟩:dO) (nA a1 c1 none 0 a5 c5) (.slice a1 I.length c1) v) 79 wr (.slice av fs.length cv) fs):=HPI.out;clear t2 kk hbd HL HPI halG
        go_upto_region 17 with (first | (refine wpList_load_mid rfl 105 _ rfl b2 (o2+k*10) rfl (fK y ai ci).toList _ hrg Tryz.underlying105 rfl Dh ?_) | (refine aT rfl 105 _ _ rfl FJ (fK y ai ci) rfl rfl Dh rfl (eh rfl) ?_))
        clear hrg;have z0:(wr.alloc (.cells (fK y ai ci) 105)).cell? (af wr 0)=some (.int .i64 y.kind):=cell_of (i:=0) QI rfl;have z1:(wr.alloc (.cells (fK y ai ci) 105)).cell? (af wr 1)=some (.string y.name):=cell_of (i:=1) QI rfl;have z2:(wr.alloc (.cells (fK y ai ci) 105)).cell? (af wr 2)=some (.string y.alias):=cell_of (i:=2) QI rfl;go_upto_if 82 with (first | (refine aT rfl 105 _ _ rfl FJ (BG y.kind y.name y.alias) rfl rfl Dh rfl (eh rfl) ?_))
        clear z0 z1 z2 QI halI;have hsI:=hal.size;generalize ((wr.alloc (.cells (fK y ai ci) 105)).alloc (.cells (BG y.kind y.name y.alias) 105))=wb at *;go_cut [] (fun wx=>∃ (a':Option Addr) (c':Nat),Hid (wx.heap[wr.heap.size+1]? = some (.cells (fK (eN (decide (k=0)) y) a' c') 105 (0,0)))∧Hid (aJ (fun b=>wr.heap.size+1<b) wx a' (eN (decide (k=0)) y).on.ks)∧Hid (Below wr wr wx))
        case first =>
         have hg1:=lt_of_heap QG;by_cases hk0:k=0
         ·have e:eN (decide (k=0)) y=⟨y.kind,y.name,y.alias,dM⟩:=by unfold eN; rw [decide_eq_true hk0]; rfl
          have hkz:¬ (0:Int)<(k:Int):=by omega
          clear hk0;go_wp2_with fail
          go_meet
          case rel=>exact ⟨none,0,(by show _=_; rw [e]; exact QG),(by show aJ _ _ _ _; rw [e]; exact .nil _),hal⟩
         ·have e:eN (decide (k=0)) y=⟨y.kind,y.name,y.alias,aO y.on⟩:=by unfold eN; rw [decide_eq_false hk0]; rfl
          have HE2:Hid (eN (decide (k=0)) y=⟨y.kind,y.name,y.alias,aO y.on⟩):=e;have hkz:(0:Int)<(k:Int):=by omega
          have HBX:Hid (pV y.on):=kO (HBD.out hk0);have hrx:wb.rangeAt wr 3 (bE y.on ai ci).toList:=fun i u hu=>by
           have hi7:i<7:=by
            rcases Jw i 7 with h | h
            ·exact h
            ·rw [Jy (by simpa using h)] at hu; cases hu
           exact cell_of (i:=3+i) QI2 (by rw [← hu]; match i,hi7 with | 0,_=>rfl | 1,_=>rfl | 2,_=>rfl | 3,_=>rfl | 4,_=>rfl | 5,_=>rfl | 6,_=>rfl)
          have con:=HBX.out ai ci wb (aJ.mono (fun b h _=>by have:=hSn b h; show b<_; omega) KI.out);clear hk0 e;go_wp2_with (first | (refine wpList_load_mid rfl 55 _ rfl wr 3 rfl (bE y.on ai ci).toList _ hrx Tryz.underlying55 rfl GZ ?_))
          refine con.mono ?_;rintro e w2 ⟨hb2,a2,c2,rfl,hks⟩;have HKS:Hid (aJ (fun b=>wr.heap.size+1<b) w2 a2 (aO y.on).ks):=aJ.mono (fun b h _=>by have:wb.heap.size≤b:=h; show _<b; omega) hks;clear con hrx HBX hks;generalize aO y.on=z at *;have QG2:w2.heap[wr.heap.size+1]? = some (.cells #[y.kind,y.name,y.alias,aB,aB,aB,(),(),(),aL] 105 (0,0)):=(hb2.block _ hg1).trans QG;have D2:=chain hal hb2;have f3:=I0 w2 (wr+1) 3 _ _ QG2
          have f4:=I0 w2 (wr+1) 4 _ _ QG2;have f5:=I0 w2 (wr+1) 5 _ _ QG2;have f6:=I0 w2 (wr+1) 6 _ _ QG2;have f7:=I0 w2 (wr+1) 7 _ _ QG2;have f8:=I0 w2 (wr+1) 8 _ _ QG2;have f9:=I0 w2 (wr+1) 9 _ _ QG2;have g3:=cell_of (i:=3) QG2 rfl;have g4:=cell_of (i:=4) QG2 rfl;have g5:=cell_of (i:=5) QG2 rfl;have g6:=cell_of (i:=6) QG2 rfl;have g7:=cell_of (i:=7) QG2 rfl;have g8:=cell_of (i:=8) QG2 rfl;have g9:=cell_of (i:=9) QG2 rfl;go_wp2_with fail
          obtain ⟨Q3,K3,_⟩:=uG QG2 z.k z.v.1 z.v.2.1 z.v.2.2 z.bp z.name (.slice a2 z.ks.length c2);have hs2:=hb2.size;have HK3:=aJ.k1 K3 (by show ¬ wr.heap.size+1<wr.heap.size+1; omega) HKS.out;have D3:=j7 D2 (g:=wr.heap.size+1) ak 3 4 5 6 7 8 9 z.k z.v.1 z.v.2.1 z.v.2.2 z.bp z.name (.slice a2 z.ks.length c2)
          generalize (((((((w2.setCell (af (wr+1) 3) z.k).setCell (af (wr+1) 4) z.v.1).setCell (af (wr+1) 5) z.v.2.1).setCell (af (wr+1) 6) z.v.2.2).setCell (af (wr+1) 7) z.bp).setCell (af (wr+1) 8) z.name).setCell (af (wr+1) 9) (.slice a2 z.ks.length c2))=w3 at *;go_wp2_with fail
          go_meet
          case rel=>exact ⟨a2,c2,(by show _=_; rw [HE2.out]; exact Q3),(by show aJ _ _ _ _; rw [HE2.out]; exact HK3),D3⟩
        case rest =>
         obtain ⟨a',c',HGB,HGK,HD⟩:=hcut;obtain ⟨w9,ew⟩:∃ x,x=wc:=⟨_,rfl⟩
         subst ew;clear P0 HBD KI HLI QI2 QG hsI;generalize eN (decide (k=0)) y=z at *;have P9:=HP0.out.nx cU (Jb htl) HD.out;have hs9:=HD.out.size;have x3:w9.cell? (af tb 3)=some (.slice av fs.length cv):=cell_of (i:=3) P9.zk rfl;have qg:=HGB.out;have q9:=aD w9 (fK z a' c') 105;have halE:=bR w9 (.cells (fK z a' c') 105);have P10:=P9.nx cU (Jb htl) halE;obtain ⟨xs,o9,en9⟩:=P10.own;have KS10:=aJ.next halE HGK.out;have hsE:=halE.size
         go_wp2_with (first | (refine wpList_load_row rfl 105 _ rfl (wr+1) rfl 105 (fK z a' c') (0,0) _ qg Tryz.underlying105 rfl Dh ?_) | (at_builtin; refine aS rfl _ _ 77 rfl w8 105 j0 _ 10 136 Tryz.underlying77 hi' hj0' hj1' hj2' rfl (by decide) _ _ _ rfl o9 (af w9 0) 1 1 (fK z a' c').toList rfl rfl ?Bc1 ?Bc2 ?Bc3 ?Bc4 ?Bc5 ?_))
         (try case Bc1 =>
          intro i u hu;rw [bG,Jm];exact cell_of (i:=i) q9 (by rw [← hu]; simp))
         (try case Bc2=>first | exact fun u hu=>List.all_eq_true.1 (rfl:List.all (fK z a' c').toList (·.oneCell')=true) u hu | exact ⟨rfl,rfl,rfl,rfl,rfl,rfl,rfl,rfl,rfl,rfl⟩ | (repeat' constructor))
         case Bc3=>unfold maxLen; have:=hlen.out; omega
         case Bc4=>have:=hlen.out; omega
         case Bc5=>show w8.heap.size≤(w9.alloc (.cells (fK z a' c') 105)).heap.size; omega
         intro vq w10 o10 g10 hd10;obtain ⟨B10,s10,far10,fin10⟩:=P10.push cU htl o9 en9 rfl (⟨a',c',rfl,KS10⟩:gj (fun b=>wr.heap.size+1<b) _ z (fK z a' c').toList) (fun b h _=>⟨by have:wr.heap.size+1<b:=h; omega,fun e=>by have:=(hnb b e).2; have:wr.heap.size+1<b:=h; omega⟩) o10 g10 (by simpa using hd10);have fin:=fin10 3 w10 rfl (I8 _ _);have u3:=cell_of (i:=3) B10 rfl;have f3:=I0 w10 tb 3 _ _ B10;obtain ⟨aw,cw,ew⟩:=fin.own.len;have hlen1:(fs ++ [z]).length=k+1:=by rw [Jf,hlen.out]; rfl
         generalize (fs ++ [z]).length=n3 at ew;subst ew;have FIN:Hid _:=fin;clear fin fin10 far10 o10 g10 hd10 o9 en9 P10 P9 q9 x3 qg;go_wp2_with fail
         go_roundw
         case rel=>exact ⟨_,k+1,fs ++ [z],by omega,by go_num,hlen1,HT2.out.symm,FIN.out⟩
         case measure=>simp [RowKit.intOf]; omega
       ·have hjk:¬ (k:Int)<(s.sources.length:Int):=by omega
        have ea:fs=bF true s.sources:=by rw [HL.out,Jx ak]
        have HF:Hid (fs=bF true s.sources):=ea;clear ea;obtain ⟨a2,c2,rfl,hls⟩:=HPI.out.own.ls cU (fun _ h=>h);have HW9:Hid _:=HW8.out.trans (HPI.out.bx.jS (B:=wR.heap.size) ak);have HS9:Hid _:=uX HPI.out.bx HS8.out ak;have HK9:Hid _:=HK8.out.aM (fS HPI.out.bx (fun h=>by have:=hSn _ h; omega));have HT9:Hid _:=HPI.out.zk;have HI9:Hid (bf kl 8 (fun b=>wR.heap.size<b∧b≠tb) wr a1 I):=HI8.out.aM fp (fS HPI.out.bx (fun h=>h.2 rfl))
        have HF9:Hid (bf gj 10 (fun b=>wR.heap.size<b∧b≠tb) wr a2 fs):=hls.mono cU (fun b h _=>by have h:w8.heap.size≤b:=h; exact ⟨by omega,by omega⟩);have HG9:Hid (aJ (fun b=>wR.heap.size<b∧b≠tb) wr a5 (s.group.map aO)):=HG8.out.aM (fS HPI.out.bx (fun h=>h.2 rfl));clear HPI hls HL HLI HW8 HS8 HK8 HT8 HI8 HG8 P0 hlen hk;obtain ⟨w9,ew⟩:∃ x,x=wr:=⟨_,rfl⟩
        subst ew;have x4:w9.cell? (af wR 4)=some (.bool s.ax):=cell_of (i:=4) HS9.out rfl;go_upto_if 95 with fail
        clear x4;obtain ⟨X,hX⟩:∃ X,pP s.ax s.au=X:=⟨_,rfl⟩
        have HX:Hid (pP s.ax s.au=X):=hX;clear hX
        go_cut [] (fun wx=>∃ (a':Option Addr) (c':Nat),Hid (Below wR wR wx)∧Hid (wx.heap[wR.heap.size]? = some (.cells (fo s A) 79 (0,0)))∧Hid (jK S0 wx s A)∧Hid (wx.heap[tb]? = some (.cells (fY (⟨s.distinct,s.star,[],[],s.ax,s.aG,X,dM,s.group.map aO⟩:dO) (SA.mk none 0 none 0 a' c' none 0 a5 c5) (.slice a1 I.length c1) (.slice a2 fs.length c2)) 79 (0,0)))∧Hid (bf kl 8 (fun b=>wR.heap.size<b∧b≠tb) wx a1 I)∧Hid (bf gj 10 (fun b=>wR.heap.size<b∧b≠tb) wx a2 fs)∧Hid (aJ (fun b=>wR.heap.size<b∧b≠tb) wx a' X.ks)∧Hid (aJ (fun b=>wR.heap.size<b∧b≠tb) wx a5 (s.group.map aO)))
        case first =>
         rcases hs:s.ax with _ | _
         ·have ex:X=dM:=by rw [← HX.out,hs]; rfl
          have HZ:Hid (X=dM):=ex;clear hs ex;go_wp2_with fail
          go_meet
          case rel=>exact ⟨none,0,HW9,HS9,HK9,(by show _=_; rw [HZ.out]; exact HT9.out),HI9,HF9,(by show aJ _ _ _ _; rw [HZ.out]; exact .nil _),HG9⟩
         ·have ex:X=aO s.au:=by rw [← HX.out,hs]; rfl
          have HZ:Hid (X=aO s.au):=ex;have HBX:Hid (pV s.au):=kO (HSO.out.au hs);clear hs ex;have hrx:w9.rangeAt wR 6 (bE s.au A.a3 A.c3).toList:=fun i u hu=>by
           have hi7:i<7:=by
            rcases Jw i 7 with h | h
            ·exact h
            ·rw [Jy (by simpa using h)] at hu; cases hu
           exact cell_of (i:=6+i) HS9.out (by rw [← hu]; match i,hi7 with | 0,_=>rfl | 1,_=>rfl | 2,_=>rfl | 3,_=>rfl | 4,_=>rfl | 5,_=>rfl | 6,_=>rfl)
          have hwn:=HW9.out.size;have con:=HBX.out A.a3 A.c3 w9 (aJ.mono (fun b h _=>by have:=hSn b h; show b<_; omega) HK9.out.l3);go_wp2_with (first | (refine wpList_load_mid rfl 55 _ rfl wR 6 rfl (bE s.au A.a3 A.c3).toList _ hrx Tryz.underlying55 rfl GZ ?_))
          refine con.mono ?_;rintro e w2 ⟨hb2,a',c',rfl,hks⟩;have hs2:=hb2.size;have hgt:=lt_of_heap HT9.out;have HKS:Hid (aJ (fun b=>wR.heap.size<b∧b≠tb) w2 a' (aO s.au).ks):=aJ.mono (fun b h _=>by have:w9.heap.size≤b:=h; exact ⟨by omega,by omega⟩) hks;clear con hrx HBX hks;generalize aO s.au=z at *;have QT:=(hb2.block _ hgt).trans HT9.out;have f0:=I0 w2 tb 6 _ _ QT;have f1:=I0 w2 tb 7 _ _ QT;have f2:=I0 w2 tb 8 _ _ QT;have f3:=I0 w2 tb 9 _ _ QT;have f4:=I0 w2 tb 10 _ _ QT;have f5:=I0 w2 tb 11 _ _ QT
          have f6:=I0 w2 tb 12 _ _ QT;have g0:=cell_of (i:=6) QT rfl;have g1:=cell_of (i:=7) QT rfl;have g2:=cell_of (i:=8) QT rfl;have g3:=cell_of (i:=9) QT rfl;have g4:=cell_of (i:=10) QT rfl;have g5:=cell_of (i:=11) QT rfl;have g6:=cell_of (i:=12) QT rfl;go_wp2_with fail
          obtain ⟨Q3,K3,_⟩:=tF QT z.k z.v.1 z.v.2.1 z.v.2.2 z.bp z.name (.slice a' z.ks.length c');have E3:ay (fun b=>wR.heap.size<b∧b≠tb) w9 w2:=ay.of hb2;have M3:ay (fun b=>wR.heap.size<b∧b≠tb) w2 _:=K3.k (fun h=>h.2 rfl);have D3:=j7 ((HW9.out.trans (hb2.mono hwn))) (g:=tb) ak 6 7 8 9 10 11 12 z.k z.v.1 z.v.2.1 z.v.2.2 z.bp z.name (.slice a' z.ks.length c')
          have S3:=(K3.2 _ (by have:=lt_of_heap HS9.out; omega) ak).trans ((hb2.block _ (lt_of_heap HS9.out)).trans HS9.out);have L3:=(HK9.out.nx hb2).aM (K3.k (fun h=>by have:=hSn _ h; omega));generalize (((((((w2.setCell (af tb 6) z.k).setCell (af tb 7) z.v.1).setCell (af tb 8) z.v.2.1).setCell (af tb 9) z.v.2.2).setCell (af tb 10) z.bp).setCell (af tb 11) z.name).setCell (af tb 12) (.slice a' z.ks.length c'))=w3 at *;have J1:Hid _:=(HI9.out.aM fp E3).aM fp M3
          have J2:Hid _:=(HF9.out.aM cU E3).aM cU M3;have J3:Hid _:=HKS.out.aM M3;have J4:Hid _:=(HG9.out.aM E3).aM M3;have J6:Hid _:=Q3;have J7:Hid _:=S3;have J8:Hid _:=L3;have J9:Hid _:=D3;clear Q3 S3 L3 D3 f0 f1 f2 f3 f4 f5 f6 g0 g1 g2 g3 g4 g5 g6 QT E3 M3 K3;go_wp2_with fail
          go_meet
          case rel=>exact ⟨a',c',J9,J7,J8,(by show _=_; rw [HZ.out]; exact J6.out),J1,J2,(by show aJ _ _ _ _; rw [HZ.out]; exact J3.out),J4⟩
        case rest =>
         obtain ⟨a3,c3,HW10,HS10,HK10,HT10,HI10,HF10,HX10,HG10⟩:=hcut;obtain ⟨w11,ew⟩:∃ x,x=wc:=⟨_,rfl⟩
         subst ew;clear HW9 HS9 HK9 HT9 HI9 HF9 HG9 hjk hlk;have x5:w11.cell? (af wR 5)=some (.bool s.aG):=cell_of (i:=5) HS10.out rfl;go_upto_if 101 with fail
         clear x5;obtain ⟨Y,hY⟩:∃ Y,pP s.aG s.az=Y:=⟨_,rfl⟩
         have HY:Hid (pP s.aG s.az=Y):=hY;clear hY
         go_cut [] (fun wx=>∃ (a':Option Addr) (c':Nat),Hid (Below wR wR wx)∧Hid (wx.heap[wR.heap.size]? = some (.cells (fo s A) 79 (0,0)))∧Hid (jK S0 wx s A)∧Hid (wx.heap[tb]? = some (.cells (fY (⟨s.distinct,s.star,[],[],s.ax,s.aG,X,Y,s.group.map aO⟩:dO) (SA.mk none 0 none 0 a3 c3 a' c' a5 c5) (.slice a1 I.length c1) (.slice a2 fs.length c2)) 79 (0,0)))∧Hid (bf kl 8 (fun b=>wR.heap.size<b∧b≠tb) wx a1 I)∧Hid (bf gj 10 (fun b=>wR.heap.size<b∧b≠tb) wx a2 fs)∧Hid (aJ (fun b=>wR.heap.size<b∧b≠tb) wx a' Y.ks)∧Hid (aJ (fun b=>wR.heap.size<b∧b≠tb) wx a3 X.ks)∧Hid (aJ (fun b=>wR.heap.size<b∧b≠tb) wx a5 (s.group.map aO)))
         case first =>
          rcases hs:s.aG with _ | _
          ·have ex:Y=dM:=by rw [← HY.out,hs]; rfl
           have HZ:Hid (Y=dM):=ex;clear hs ex;go_wp2_with fail
           go_meet
           case rel=>exact ⟨none,0,HW10,HS10,HK10,(by show _=_; rw [HZ.out]; exact HT10.out),HI10,HF10,(by show aJ _ _ _ _; rw [HZ.out]; exact .nil _),HX10,HG10⟩
          ·have ex:Y=aO s.az:=by rw [← HY.out,hs]; rfl
           have HZ:Hid (Y=aO s.az):=ex;have HBX:Hid (pV s.az):=kO (HSO.out.az hs);clear hs ex;have hrx:w11.rangeAt wR 13 (bE s.az A.a4 A.c4).toList:=fun i u hu=>by
            have hi7:i<7:=by
             rcases Jw i 7 with h | h
             ·exact h
             ·rw [Jy (by simpa using h)] at hu; cases hu
            exact cell_of (i:=13+i) HS10.out (by rw [← hu]; match i,hi7 with | 0,_=>rfl | 1,_=>rfl | 2,_=>rfl | 3,_=>rfl | 4,_=>rfl | 5,_=>rfl | 6,_=>rfl)
           have hwn:=HW10.out.size;have con:=HBX.out A.a4 A.c4 w11 (aJ.mono (fun b h _=>by have:=hSn b h; show b<_; omega) HK10.out.l4);go_wp2_with (first | (refine wpList_load_mid rfl 55 _ rfl wR 13 rfl (bE s.az A.a4 A.c4).toList _ hrx Tryz.underlying55 rfl GZ ?_))
           refine con.mono ?_;rintro e w2 ⟨hb2,a',c',rfl,hks⟩;have hs2:=hb2.size;have hgt:=lt_of_heap HT10.out;have HKS:Hid (aJ (fun b=>wR.heap.size<b∧b≠tb) w2 a' (aO s.az).ks):=aJ.mono (fun b h _=>by have:w11.heap.size≤b:=h; exact ⟨by omega,by omega⟩) hks;clear con hrx HBX hks;generalize aO s.az=z at *;have QT:=(hb2.block _ hgt).trans HT10.out;have f0:=I0 w2 tb 13 _ _ QT;have f1:=I0 w2 tb 14 _ _ QT;have f2:=I0 w2 tb 15 _ _ QT;have f3:=I0 w2 tb 16 _ _ QT;have f4:=I0 w2 tb 17 _ _ QT
           have f5:=I0 w2 tb 18 _ _ QT;have f6:=I0 w2 tb 19 _ _ QT;have g0:=cell_of (i:=13) QT rfl;have g1:=cell_of (i:=14) QT rfl;have g2:=cell_of (i:=15) QT rfl;have g3:=cell_of (i:=16) QT rfl;have g4:=cell_of (i:=17) QT rfl;have g5:=cell_of (i:=18) QT rfl;have g6:=cell_of (i:=19) QT rfl;go_wp2_with fail
           obtain ⟨Q3,K3,_⟩:=qK QT z.k z.v.1 z.v.2.1 z.v.2.2 z.bp z.name (.slice a' z.ks.length c');have E3:ay (fun b=>wR.heap.size<b∧b≠tb) w11 w2:=ay.of hb2;have M3:ay (fun b=>wR.heap.size<b∧b≠tb) w2 _:=K3.k (fun h=>h.2 rfl);have D3:=j7 ((HW10.out.trans (hb2.mono hwn))) (g:=tb) ak 13 14 15 16 17 18 19 z.k z.v.1 z.v.2.1 z.v.2.2 z.bp z.name (.slice a' z.ks.length c')
           have S3:=(K3.2 _ (by have:=lt_of_heap HS10.out; omega) ak).trans ((hb2.block _ (lt_of_heap HS10.out)).trans HS10.out);have L3:=(HK10.out.nx hb2).aM (K3.k (fun h=>by have:=hSn _ h; omega));generalize (((((((w2.setCell (af tb 13) z.k).setCell (af tb 14) z.v.1).setCell (af tb 15) z.v.2.1).setCell (af tb 16) z.v.2.2).setCell (af tb 17) z.bp).setCell (af tb 18) z.name).setCell (af tb 19) (.slice a' z.ks.length c'))=w3 at *;have J1:Hid _:=(HI10.out.aM fp E3).aM fp M3
           have J2:Hid _:=(HF10.out.aM cU E3).aM cU M3;have J3:Hid _:=HKS.out.aM M3;have J4:Hid _:=(HG10.out.aM E3).aM M3;have J5:Hid _:=(HX10.out.aM E3).aM M3;have J6:Hid _:=Q3;have J7:Hid _:=S3;have J8:Hid _:=L3;have J9:Hid _:=D3;clear Q3 S3 L3 D3 f0 f1 f2 f3 f4 f5 f6 g0 g1 g2 g3 g4 g5 g6 QT E3 M3 K3;go_wp2_with fail
           go_meet
           case rel=>exact ⟨a',c',J9,J7,J8,(by show _=_; rw [HZ.out]; exact J6.out),J1,J2,(by show aJ _ _ _ _; rw [HZ.out]; exact J3.out),J5,J4⟩
         case rest =>
          obtain ⟨a4,c4,HW11,HS11,HK11,HT11,HI11,HF11,HY11,HX11,HG11⟩:=hcut;obtain ⟨w12,ew⟩:∃ x,x=wc:=⟨_,rfl⟩
          subst ew;clear HW10 HS10 HK10 HT10 HI10 HF10 HX10 HG10;have hz:dq s=⟨s.distinct,s.star,I,fs,s.ax,s.aG,X,Y,s.group.map aO⟩:=by
           unfold dq;rw [HI.out,← HF.out,HX.out,HY.out]
          have QZ:w12.heap[tb]? = some (.cells (fo ⟨s.distinct,s.star,I,fs,s.ax,s.aG,X,Y,s.group.map aO⟩ ⟨a1,c1,a2,c2,a3,c3,a4,c4,a5,c5⟩) 79 (0,0)):=HT11.out;have LZ:jK (fun b=>wR.heap.size<b∧b≠tb) w12 ⟨s.distinct,s.star,I,fs,s.ax,s.aG,X,Y,s.group.map aO⟩ ⟨a1,c1,a2,c2,a3,c3,a4,c4,a5,c5⟩:=⟨HI11.out,HF11.out,HX11.out,HY11.out,HG11.out.ls⟩
          rw [← hz] at QZ LZ;obtain ⟨AF,hAF⟩:∃ z,(⟨a1,c1,a2,c2,a3,c3,a4,c4,a5,c5⟩:SA)=z:=⟨_,rfl⟩
          rw [hAF] at QZ LZ;have HZL:Hid _:=LZ;clear LZ HT11 HI11 HF11 HX11 HY11 HG11 HS11 HK11 hAF hz HI HF HX HY HSO;generalize dq s=z at *;have hs12:=HW11.out.size;have hnbo:=HP.out.own.lt;have P9:=HP.out.nx b8 (Jb htb) HW11.out;have x0:w12.cell? ⟨w.heap.size+1+1,0,none⟩=some (.slice ao acc.length co):=cell_of (i:=0) P9.zk rfl;have q9:=aD w12 (fo z AF) 79;have halE:=bR w12 (.cells (fo z AF) 79);have P10:=P9.nx b8 (Jb htb) halE;obtain ⟨xs,o9,en9⟩:=P10.own
          have KS10:=HZL.out.nx halE;have hsE:=halE.size;go_wp2_with (first | (refine wpList_load_row rfl 79 _ rfl tb rfl 79 (fo z AF) (0,0) _ QZ Tryz.underlying79 rfl kJ ?_) | (at_builtin; refine aS rfl _ _ 46 rfl wc 79 i0 _ 21 280 Tryz.underlying46 hi hj0 hj1 hj2 rfl (by decide) _ _ _ rfl o9 (af w12 0) 1 1 (fo z AF).toList rfl rfl ?Cc1 ?Cc2 ?Cc3 ?Cc4 ?Cc5 ?_))
          (try case Cc1 =>
           intro i u hu;rw [bG,Jm];exact cell_of (i:=i) q9 (by rw [← hu]; simp))
          (try case Cc2=>first | exact fun u hu=>List.all_eq_true.1 (rfl:List.all (fo z AF).toList (·.oneCell')=true) u hu | exact ⟨rfl,rfl,rfl,rfl,rfl,rfl,rfl,rfl,rfl,rfl⟩ | (repeat' constructor))
          case Cc3=>unfold maxLen; have:=hacc.out; omega
          case Cc4=>have:=hacc.out; omega
          case Cc5=>show wc.heap.size≤(w12.alloc (.cells (fo z AF) 79)).heap.size; omega
          intro vq w10 o10 g10 hd10;obtain ⟨B10,s10,far10,fin10⟩:=P10.push b8 htb o9 en9 rfl KS10.en (fun b h _=>⟨by have:=h.1; omega,fun e=>by have:=(hnbo b e).2; have:=h.1; omega⟩) o10 g10 (by simpa using hd10);have fin:=fin10 0 w10 rfl (I8 _ _);have u3:=cell_of (i:=0) B10 rfl;have f3:=I0 w10 (w.heap.size+1+1) 0 _ _ B10;obtain ⟨aw,cw,ew⟩:=fin.own.len;have hlen1:(acc ++ [z]).length=j+1:=by rw [Jf,hacc.out]; rfl
          generalize (acc ++ [z]).length=n3 at ew;subst ew;have FIN:Hid _:=fin;clear fin fin10 far10 o10 g10 hd10 o9 en9 P10 P9 q9 x0 QZ;go_wp2_with fail
          go_roundw
          case rel=>exact ⟨_,j+1,acc ++ [z],by omega,by go_num,hlen1,HT1.out.symm,FIN.out⟩
          case measure=>simp [RowKit.intOf]; omega
   ·have hjz:¬ (j:Int)<(q.parts.length:Int):=by omega
    have ea:acc=q.parts.map dq:=by rw [HA.out,Jx ak]
    have HE:Hid (acc=q.parts.map dq):=ea;clear ea HA;obtain ⟨a',c',rfl,hls⟩:=HP.out.own.ls b8 (fun _ h=>h);have hsr:=HP.out.bx.size;have QT:wR.heap[w.heap.size+1+1]? = some (.cells #[.slice a' acc.length c',.slice p2 q.ops.length d2,.slice r3 O.length e3,L] 50 (0,0)):=HP.out.zk;have QR:=uX HP.out.bx Q1.out ak;have DW:Below w w wR:=hB.out.trans (HP.out.bx.jS ak);have R1:Hid (bf eS 21 (fun b=>wc.heap.size≤b) wR a' acc):=hls;have R2:Hid (bf lD 1 S0 wR p2 q.ops):=bf.aM fv (ay.Dt DW HS.out) H2.out
    have R3:Hid _:=HO3.out.aM (fS HP.out.bx (fun h=>by have:w.heap.size+1+1<w.heap.size+1+1:=h; omega));clear hls HP;go_wp2_with (first | (refine wpList_load_row rfl 50 _ rfl (w.heap.size+1+1) rfl 50 #[.slice a' acc.length c',.slice p2 q.ops.length d2,.slice r3 O.length e3,L] (0,0) _ QT Tryz.underlying50 rfl AR ?_) | (refine wpList_store_row rfl 50 _ _ rfl (w+1) #[.slice a' acc.length c',.slice p2 q.ops.length d2,.slice r3 O.length e3,L] rfl rfl 50 wN QR AR rfl (eh rfl) ?_))
    have QE:=setRow_heap _ _ _ #[.slice a' acc.length c',.slice p2 q.ops.length d2,.slice r3 O.length e3,L] _ _ QR;have hkE:aI (w+1) wR (wR.setRow (w+1) #[.slice a' acc.length c',.slice p2 q.ops.length d2,.slice r3 O.length e3,L]):=⟨by simp,fun k _ hn=>setRow_other _ _ k _ hn⟩
    have hbE:Below w w (wR.setRow (w+1) #[.slice a' acc.length c',.slice p2 q.ops.length d2,.slice r3 O.length e3,L]):=below_setRow DW ak _;have L1:=bf.aM b8 (hkE.k (S:=fun b=>wc.heap.size≤b) (fun h=>by have:wc.heap.size≤w.heap.size+1:=h; omega)) R1.out;have L2:=bf.aM fv (hkE.k (S:=S0) (fun h=>by have:=HS.out _ h; omega)) R2.out;have L3:=aJ.k1 hkE (by show ¬ w.heap.size+1+1<w.heap.size+1; omega) R3.out;generalize wR.setRow (w+1) #[.slice a' acc.length c',.slice p2 q.ops.length d2,.slice r3 O.length e3,L]=wE at *
    refine I7 (v:=.agg #[.slice a' acc.length c',.slice p2 q.ops.length d2,.slice r3 O.length e3,L]) (results_cell_row Tryz.results31 _ _ _ _ _ _ _ rfl QE Tryz.underlying50 rfl AR) rfl ?_;rw [HB.out,← HE.out];exact ⟨hbE,a',c',p2,d2,r3,e3,rfl,L1.mono b8 (fun b h _=>.inr (by have:wc.heap.size≤b:=h; omega)),L2.mono fv (fun b h _=>.inl h),L3.ls.mono b9 (fun b h _=>.inr (by have:w.heap.size+1+1<b:=h; omega))⟩
set_option maxHeartbeats 4000000
def ky:List dO→List Int→List ByteArray
 | x :: r,o :: os=>j9 o ++ gR x ++ ky r os
 | _,_=>[]
theorem zT:∀ (r:List dO) (x:dO) (os:List Int),r.length=os.length→∀ n,n≤r.length→gP (x :: r) os (n+1)=gR x ++ ky (r.take n) (os.take n)
 | r,x,os,h,0,_=>by simp [gP,ky]
 | r,x,os,h,n+1,hn=>by
  have h1:n<r.length:=by omega
  have h2:n<os.length:=by omega
  have happ:∀ (a:List dO) (b:List Int) (y:dO) (o:Int),a.length=b.length→ky (a ++ [y]) (b ++ [o])=ky a b ++ (j9 o ++ gR y):=by
   intro a
   induction a with
   | nil=>intro b y o hl; cases b with
    | nil=>simp [ky]
    | cons c b=>simp at hl
   | cons z a ih=>intro b y o hl; cases b with
    | nil=>simp at hl
    | cons c b=>rw [Ju,Ju,ky,ky,ih b y o (by simpa using hl)]; simp
  rw [gP,zT r x os h n ak];have e1:os.getD (n+1 - 1) 0=os[n]:=by simp [List.getD,h2]
  have e2:(x :: r)[n+1]? = some r[n]:=by simp [h1]
  rw [if_neg ak,e1,e2,JC,JC,Je h1,Je h2];show _=gR x ++ ky (r.take n ++ [r[n]]) (os.take n ++ [os[n]]);rw [happ _ _ _ _ (by simp; omega)];simp
theorem vs {o:Int} (ho:1≤o∧o≤4) {ts rest:List Tk} (ht:TW (j9 o) ts) (hr:Fs [⟨#[115,101,108,101,99,116]⟩] rest):bo (ts ++ rest)=(o,rest):=by
 have:o=1∨o=2∨o=3∨o=4:=by omega
 have hall:=hr.bK (s:=⟨#[97,108,108]⟩) (by decide);rcases this with rfl | rfl | rfl | rfl
 ·change TW [js,⟨#[97,108,108]⟩] ts at ht;replace ht:=ht.cons;obtain ⟨p,t1,rfl,ht⟩:=ht;replace ht:=ht.cons;obtain ⟨q,t2,rfl,ht⟩:=ht;obtain rfl:=ht.nil;show bo (bQ js p :: bQ ⟨#[97,108,108]⟩ q :: rest)=_;rw [bo,if_pos (by rw [aZ]; decide),bB,if_pos (by rw [aZ]; decide),bB]
 ·change TW [js] ts at ht;replace ht:=ht.cons;obtain ⟨p,t1,rfl,ht⟩:=ht;obtain rfl:=ht.nil;show bo (bQ js p :: rest)=_;rw [bo,if_pos (by rw [aZ]; decide),bB,if_neg (by rw [hall]; decide)]
 ·change TW [gg,⟨#[97,108,108]⟩] ts at ht;replace ht:=ht.cons;obtain ⟨p,t1,rfl,ht⟩:=ht;replace ht:=ht.cons;obtain ⟨q,t2,rfl,ht⟩:=ht;obtain rfl:=ht.nil;show bo (bQ gg p :: bQ ⟨#[97,108,108]⟩ q :: rest)=_;rw [bo,if_neg (by rw [aZ]; decide),if_pos (by rw [aZ]; decide),bB,if_pos (by rw [aZ]; decide),bB]
 ·change TW [gg] ts at ht;replace ht:=ht.cons;obtain ⟨p,t1,rfl,ht⟩:=ht;obtain rfl:=ht.nil;show bo (bQ gg p :: rest)=_;rw [bo,if_neg (by rw [aZ]; decide),if_pos (by rw [aZ]; decide),bB,if_neg (by rw [hall]; decide)]
theorem vg {rest:List Tk} (h:Fs [iw,dm] rest):bo rest=(0,rest):=by
 rw [bo,if_neg (by rw [h.bK (by decide)]; decide),if_neg (by rw [h.bK (by decide)]; decide)]
theorem DE {o:Int} (ho:1≤o∧o≤4):∃ w r,j9 o=w :: r∧w ∈ [js,gg]:=by
 have:o=1∨o=2∨o=3∨o=4:=by omega
 rcases this with rfl | rfl | rfl | rfl
 ·exact ⟨_,_,rfl,by simp⟩
 ·exact ⟨_,_,rfl,by simp⟩
 ·exact ⟨gg,_,rfl,by simp⟩
 ·exact ⟨gg,_,rfl,by simp⟩
theorem Fs.parts {rest:List Tk} (h:Fs [iw,dm] rest) {r:List dO} {os:List Int} (ho:∀ o ∈ os,1≤o∧o≤4) {ts:List Tk} (ht:TW (ky r os) ts):Fs [js,gg,iw,dm] (ts ++ rest):=by
 have hnil:∀ ts,TW [] ts→Fs [js,gg,iw,dm] (ts ++ rest):=by
  intro ts ht;rw [ht.nil];exact h.mono fun w hw=>JM _ (JM _ hw)
 cases r with
 | nil=>exact hnil ts ht
 | cons x r=>cases os with
  | nil=>exact hnil ts ht
  | cons o os =>
   obtain ⟨w,q,e,hw⟩:=DE (ho o (by simp));rw [ky,e] at ht;replace ht:=TW.cons (w:=w) (ws:=q ++ gR x ++ ky r os) (by simpa using ht);obtain ⟨p,t1,rfl,_⟩:=ht;exact ⟨w,p,t1 ++ rest,rfl,by simp at hw ⊢; rcases hw with rfl | rfl <;> simp⟩
theorem Ei {x:dO} {ts:List Tk} (ht:TW (gR x) ts) (rest:List Tk):Fs [⟨#[115,101,108,101,99,116]⟩] (ts ++ rest):=by
 have e:∃ r,gR x=⟨#[115,101,108,101,99,116]⟩ :: r:=by unfold gR; exact ⟨_,by simp only [Jg,List.singleton_append]; rfl⟩
 obtain ⟨r,e⟩:=e;rw [e] at ht;replace ht:=ht.cons;obtain ⟨p,t1,rfl,_⟩:=ht;exact Fs.lit _ p _
theorem oH:∀ (r:List dO) (os:List Int) (n:Nat) (ps:List dO) (acc:List Int) (ts rest:List Tk),r.length=os.length→(∀ x ∈ r,lZ x)→(∀ o ∈ os,1≤o∧o≤4)→r.length<n→ps.length+r.length≤4→TW (ky r os) ts→Fs [iw,dm] rest→cD n ps acc (ts ++ rest) = .ok ((ps ++ r.map dq,acc ++ os),rest)
 | [],os,n,ps,acc,ts,rest,hl,_,_,hn,_,ht,hr=>by
  obtain rfl:os = []:=List.length_eq_zero_iff.1 hl.symm
  obtain ⟨m,rfl⟩:∃ m,n=m+1:=⟨n - 1,by simp at hn; omega⟩
  rw [TW.nil ht,Jq,cD,vg hr,if_pos rfl]
  simp
 | x :: r,[],n,ps,acc,ts,rest,hl,_,_,_,_,_,_=>by simp at hl
 | x :: r,o :: os,n,ps,acc,ts,rest,hl,h1,ho,hn,hm,ht,hr=>by
  simp only [Jo] at hl hn hm
  obtain ⟨m,rfl⟩:∃ m,n=m+1:=⟨n - 1,by omega⟩
  rw [ky,Jg] at ht
  replace ht:=ht.app
  obtain ⟨tb,t1,rfl,hb,ht⟩:=ht
  replace ht:=ht.app
  obtain ⟨tsx,tr,rfl,hx,ht⟩:=ht
  have hoo:=ho o (by simp)
  have e:tb ++ (tsx ++ tr) ++ rest=tb ++ (tsx ++ (tr ++ rest)):=by simp
  have hnext:=hr.parts (fun q hq=>ho q (by simp [hq])) ht
  rw [e,cD,vs hoo hb (Ei hx _),if_neg (show ¬ o=0 by omega),if_neg ak,bP _ (qD (h1 x (by simp)) hx hnext)]
  rw [oH r os m _ _ tr rest ak (fun y hy=>h1 y (by simp [hy])) (fun q hq=>ho q (by simp [hq])) ak (by simp only [Jf,Jo,JQ]; omega) ht hr]
  simp
structure FP (q:kf):Prop where
 parts:1≤q.parts.length∧q.parts.length≤4∧∀ x ∈ q.parts,lZ x
 ops:q.parts.length=q.ops.length+1∧∀ o ∈ q.ops,1≤o∧o≤4
 order:0≤q.aH→(∀ y ∈ q.order,eR y=0)∧1≤q.order.length∧q.order.length≤8
 aH:q.aH≤50
theorem qe {ops:List Int}:∀ {l:List dO} {j:Nat},fx ops j l=0→(∀ x ∈ l,lZ x)∧∀ i,i<l.length→j+i≠0→1≤ops.getD (j+i - 1) 0∧ops.getD (j+i - 1) 0≤4
 | [],_,_=>by simp
 | y :: r,j,h=>by
  rw [fx] at h
  obtain ⟨h1,h⟩:=eY h
  obtain ⟨h2,h3⟩:=eY h
  obtain ⟨q1,q2⟩:=qe h3
  refine ⟨?_,?_⟩
  ·intro x hx
   rcases List.mem_cons.1 hx with rfl | hx
   ·exact FZ h2
   ·exact q1 x hx
  ·intro i hi h0
   match i,hi with
   | 0,_ =>
    rw [if_neg ak] at h1
    unfold F9 at h1
    simp only [JL]
    by_cases hc:(decide (1≤ops.getD (j - 1) 0) && decide (ops.getD (j - 1) 0≤4))=true
    ·simpa using hc
    ·rw [if_neg hc] at h1; exact absurd h1 (by decide)
   | i+1,hi =>
    have:=q2 i (by simpa using hi) ak
    rw [show j+(i+1) - 1=j+1+i - 1 by omega]
    exact this
theorem IP {q:kf} (h:nD q=0):FP q:=by
 unfold nD at h;obtain ⟨h1,h⟩:=eY h;obtain ⟨h2,h⟩:=eY h;obtain ⟨h3,h⟩:=eY h;obtain ⟨h4,h⟩:=eY h;obtain ⟨h5,h⟩:=eY h;obtain ⟨h6,_⟩:=eY h;have g1:=dw h1;have g2:=dw h2;obtain ⟨p1,p2⟩:=qe h5;refine ⟨⟨by omega,by omega,p1⟩,⟨by omega,fun o ho=>?_⟩,fun hl=>?_,?_⟩
 ·obtain ⟨i,hi,rfl⟩:=List.mem_iff_getElem.1 ho;have:=p2 (i+1) ak ak
  simpa [List.getD,hi] using this
 ·unfold xX at h3;unfold qa at h6;rw [if_pos hl] at h3 h6;have:=dw h3;exact ⟨mO h6,by omega,by omega⟩
 ·unfold wG at h4;by_cases e:q.aH≤50
  ·exact e
  ·rw [if_neg e] at h4; exact absurd h4 (by decide)
theorem Ci {q:kf} {x:dO} {r:List dO} (hp:q.parts=x :: r) (hl:r.length=q.ops.length):gO q=gR x ++ ky r q.ops ++ lA q:=by
 unfold gO;rw [hp,Jo,zT r x q.ops hl r.length (I6 _),JR,hl,JR]
theorem tP {q:kf} (h:FP q) {ts rest:List Tk} (ht:TW (gO q) ts) (hr:Fs [dm] rest):gn (ts ++ rest) = .ok (iq q,rest):=by
 obtain ⟨h1,h4,hs⟩:=h.parts;cases hp:q.parts with
 | nil=>rw [hp] at h1; simp at h1
 | cons x r =>
  have hl:r.length=q.ops.length:=by have:=h.ops.1; rw [hp] at this; simpa using this
  rw [hp] at hs h4;rw [Ci hp hl] at ht;replace ht:=ht.app;obtain ⟨t1,t9,rfl,ht,ho⟩:=ht;replace ht:=ht.app;obtain ⟨tx,tr,rfl,hx,htr⟩:=ht;have hord:Fs [iw,dm] (t9 ++ rest):=hr.opt ho (by
   unfold lA
   split
   ·exact .inr ⟨_,rfl⟩
   ·exact .inl rfl)
  have hnext:=hord.parts h.ops.2 htr;have e:tx ++ tr ++ t9 ++ rest=tx ++ (tr ++ (t9 ++ rest)):=by simp
  rw [e,gn,bP _ (qD (hs x (by simp)) hx hnext),bP _ (oH r q.ops 5 [dq x] [] tr _ hl (fun y hy=>hs y (by simp [hy])) h.ops.2 (by simp at h4; omega) (by simp at h4 ⊢; omega) htr hord)];by_cases hlim:0≤q.aH
  ·have eo:lA q=iw :: ⟨#[98,121]⟩ :: (dS bY q.order ++ (⟨#[108,105,109,105,116]⟩ :: j3 q.aH)):=by
    unfold lA; rw [if_pos hlim]; simp
   rw [eo] at ho;replace ho:=ho.cons;obtain ⟨p1,t2,rfl,ho⟩:=ho;replace ho:=ho.cons;obtain ⟨p2,t3,rfl,ho⟩:=ho;replace ho:=ho.app;obtain ⟨te,t4,rfl,he,ho⟩:=ho;replace ho:=ho.cons;obtain ⟨p3,tn,rfl,hn⟩:=ho;obtain ⟨o1,o2,o3⟩:=h.order hlim;have hlt:=h.aH;have e2:bQ iw p1 :: bQ ⟨#[98,121]⟩ p2 :: (te ++ bQ ⟨#[108,105,109,105,116]⟩ p3 :: tn) ++ rest=bQ iw p1 :: bQ ⟨#[98,121]⟩ p2 :: (te ++ (bQ ⟨#[108,105,109,105,116]⟩ p3 :: (tn ++ rest))):=by simp
   rw [e2,if_pos (by rw [aZ]; decide),bB,cN (by decide)];show aK (cu eP 8 9 (te ++ (bQ ⟨#[108,105,109,105,116]⟩ p3 :: (tn ++ rest)))) _=_;rw [bP _ (iJ (L:=[⟨#[108,105,109,105,116]⟩]) (by decide) (fun y hy ts rest ht hr=>sJ (o1 y hy) ht (hr.Dy (by decide))) o2 ak ak he (Fs.lit _ _ _)),cN (by decide)];show aK (dv 0 50 (tn ++ rest)) _=_;rw [bP _ (n5 ak ak hlim hlt hn rest)];simp [iq,hp,hlim]
  ·have eo:lA q = []:=by unfold lA; rw [if_neg hlim]
   rw [eo] at ho;rw [ho.nil,Jq,if_neg (by rw [hr.bK (by decide)]; decide)];simp [iq,hp,hlim]
theorem EL {o:Int}:∀ w ∈ j9 o,GW w:=by
 unfold j9;refine cj ?_ ?_
 ·split <;> exact aU (bz (by decide)) bV
 ·split
  ·exact aU (bz (by decide)) bV
  ·exact bV
theorem zJ:∀ {r:List dO} {os:List Int},(∀ x ∈ r,lZ x)→∀ w ∈ ky r os,GW w
 | [],_,_=>bV
 | x :: r,[],_=>bV
 | x :: r,o :: os,h=>by
  rw [ky]
  exact cj (cj EL (Ca (h x (by simp)))) (zJ fun y hy=>h y (by simp [hy]))
theorem Bl {q:kf} (h:FP q):∀ w ∈ gO q,GW w:=by
 obtain ⟨h1,h4,hs⟩:=h.parts;cases hp:q.parts with
 | nil=>rw [hp] at h1; simp at h1
 | cons x r =>
  have hl:r.length=q.ops.length:=by have:=h.ops.1; rw [hp] at this; simpa using this
  rw [hp] at hs;rw [Ci hp hl];refine cj (cj (Ca (hs x (by simp))) (zJ fun y hy=>hs y (by simp [hy]))) ?_;unfold lA
  split
  ·rename_i hlim
   have hlt:=h.aH;exact cj (cj (cj (aU (bz (by decide)) (aU (bz (by decide)) bV)) (mL fun y hy=>mr ((h.order hlim).1 y hy))) (aU (bz (by decide)) bV)) (zE ak ak)
  ·exact bV
def ct (x:cM):cM :=
 if x.kind=1 then ⟨1,x.name,x.cF,iz,[],false,dM⟩
 else if x.kind=2 then ⟨2,x.name,[],iq x.query,[],false,dM⟩
 else if x.kind=3 then ⟨3,x.name,[],iz,x.rows.map (·.map eQ),false,dM⟩
 else if x.kind=4 then ⟨4,x.name,[],iz,[],x.ax,pP x.ax x.au⟩
 else ⟨5,eB,[],iq x.query,[],false,dM⟩
structure GX (x:cM):Prop where
 kind:x.kind=1∨x.kind=2∨x.kind=3∨x.kind=4∨x.kind=5
 name:x.kind≠5→dF x.name=true
 cF:x.kind=1→(∀ y ∈ x.cF,ef y.1=0∧mj y.2=0)∧1≤x.cF.length∧x.cF.length≤8
 query:x.kind=2∨x.kind=5→FP x.query
 rows:x.kind=3→(∀ l ∈ x.rows,(∀ v ∈ l,gb v=0)∧1≤l.length∧l.length≤8)∧1≤x.rows.length∧x.rows.length≤400
 au:x.kind=4→ed x.ax x.au=0
theorem uz:∀ {l:List (List Vl)},hU l=0→∀ x ∈ l,(∀ v ∈ x,gb v=0)∧1≤x.length∧x.length≤8
 | [],_=>by simp
 | y :: r,h=>by
  rw [hU] at h
  obtain ⟨h1,h⟩:=eY h
  obtain ⟨h2,h3⟩:=eY h
  have:=dw h1
  intro x hx
  rcases List.mem_cons.1 hx with rfl | hx
  ·exact ⟨sc h2,by omega,by omega⟩
  ·exact uz h3 x hx
theorem FA {x:cM} (h:iQ x=0):GX x:=by
 unfold iQ at h;obtain ⟨h1,h⟩:=eY h;obtain ⟨h2,h⟩:=eY h;obtain ⟨h3,_⟩:=eY h;have hk:1≤x.kind∧x.kind≤5:=by
  unfold Cn at h1;by_cases hc:(decide (1≤x.kind) && decide (x.kind≤5))=true
  ·simpa using hc
  ·rw [if_neg hc] at h1; exact absurd h1 (by decide)
 unfold jy at h3;refine ⟨by omega,fun e=>?_,fun e=>?_,fun e=>?_,fun e=>?_,fun e=>?_⟩
 ·unfold ll at h2; rw [if_neg e] at h2; exact gJ h2
 ·rw [if_pos e] at h3;unfold oK at h3;obtain ⟨g1,g2⟩:=eY h3;have:=dw g1;exact ⟨uC (eY g2).1,by omega,by omega⟩
 ·rw [if_neg ak,if_neg ak,if_neg ak] at h3;exact IP h3
 ·rw [if_neg ak,if_pos e] at h3;unfold mZ at h3;obtain ⟨g1,g2⟩:=eY h3;have:=dw g1;exact ⟨uz (eY g2).1,by omega,by omega⟩
 ·rw [if_neg ak,if_neg ak,if_pos e] at h3;exact h3
abbrev jc:ByteArray:=⟨#[99,114,101,97,116,101]⟩
theorem EG {x:cM} (h:GX x) {ts rest:List Tk} (ht:TW (dr x) ts):∃ p r,ts ++ rest=p :: r∧p.1≠5∧∃ u,cZ (ts ++ rest) = .ok (ct x,bQ dm u :: rest):=by
 rcases h.kind with hk | hk | hk | hk | hk
 ·have e:dr x=jc :: ⟨#[116,97,98,108,101]⟩ :: x.name :: ⟨#[40]⟩ :: (dS dH x.cF ++ (⟨#[41]⟩ :: [dm])):=by unfold dr; rw [if_pos hk]; simp
  rw [e] at ht;replace ht:=ht.cons;obtain ⟨p1,t1,rfl,ht⟩:=ht;replace ht:=ht.cons;obtain ⟨p2,t2,rfl,ht⟩:=ht;replace ht:=ht.cons;obtain ⟨p3,t3,rfl,ht⟩:=ht;replace ht:=ht.cons;obtain ⟨p4,t4,rfl,ht⟩:=ht;replace ht:=ht.app;obtain ⟨tc,t5,rfl,hc,ht⟩:=ht;replace ht:=ht.cons;obtain ⟨p5,t6,rfl,ht⟩:=ht;replace ht:=ht.cons;obtain ⟨p6,t7,rfl,ht⟩:=ht;obtain rfl:=ht.nil;obtain ⟨c1,c2,c3⟩:=h.cF hk;have hn:=h.name ak
  have e:bQ jc p1 :: bQ ⟨#[116,97,98,108,101]⟩ p2 :: bQ x.name p3 :: bQ ⟨#[40]⟩ p4 :: (tc ++ bQ ⟨#[41]⟩ p5 :: [bQ dm p6]) ++ rest=bQ jc p1 :: bQ ⟨#[116,97,98,108,101]⟩ p2 :: bQ x.name p3 :: bQ ⟨#[40]⟩ p4 :: (tc ++ (bQ ⟨#[41]⟩ p5 :: bQ dm p6 :: rest)):=by simp
  rw [e];refine ⟨_,_,rfl,(by decide:¬ (wk jc).1=5),p6,?_⟩;rw [cZ,if_pos (by rw [aZ]; decide),bB,fZ,if_neg (by rw [aZ]; decide),cN (by decide)];show aK (dt (bQ x.name p3 :: _)) _=_;rw [bP _ (fV hn p3 _),cN (by decide)];show aK (cu eD 8 9 (tc ++ (bQ ⟨#[41]⟩ p5 :: bQ dm p6 :: rest))) _=_;rw [bP _ (iJ (X:=fun x=>x) (L:=[⟨#[41]⟩]) (by decide) (fun y hy ts rest ht _=>Fp (c1 y hy).1 (c1 y hy).2 ht) c2 ak ak hc (Fs.lit _ _ _)),cN (by decide)];rw [ct,if_pos hk,List.map_id'];rfl
 ·have e:dr x=jc :: ⟨#[118,105,101,119]⟩ :: x.name :: ⟨#[97,115]⟩ :: (gO x.query ++ [dm]):=by unfold dr; rw [if_neg ak,if_pos hk]; simp
  rw [e] at ht;replace ht:=ht.cons;obtain ⟨p1,t1,rfl,ht⟩:=ht;replace ht:=ht.cons;obtain ⟨p2,t2,rfl,ht⟩:=ht;replace ht:=ht.cons;obtain ⟨p3,t3,rfl,ht⟩:=ht;replace ht:=ht.cons;obtain ⟨p4,t4,rfl,ht⟩:=ht;replace ht:=ht.app;obtain ⟨tc,t5,rfl,hc,ht⟩:=ht;replace ht:=ht.cons;obtain ⟨p6,t7,rfl,ht⟩:=ht;obtain rfl:=ht.nil;have hn:=h.name ak;have e:bQ jc p1 :: bQ ⟨#[118,105,101,119]⟩ p2 :: bQ x.name p3 :: bQ ⟨#[97,115]⟩ p4 :: (tc ++ [bQ dm p6]) ++ rest=bQ jc p1 :: bQ ⟨#[118,105,101,119]⟩ p2 :: bQ x.name p3 :: bQ ⟨#[97,115]⟩ p4 :: (tc ++ (bQ dm p6 :: rest)):=by simp
  rw [e];refine ⟨_,_,rfl,(by decide:¬ (wk jc).1=5),p6,?_⟩;rw [cZ,if_pos (by rw [aZ]; decide),bB,fZ,if_pos (by rw [aZ]; decide),bB,bP _ (fV hn p3 _),cN (by decide)];show aK (gn (tc ++ (bQ dm p6 :: rest))) _=_;rw [bP _ (tP (h.query (.inl hk)) hc (Fs.lit _ _ _)),ct,if_neg ak,if_pos hk]
 ·have e:dr x=⟨#[105,110,115,101,114,116]⟩ :: ⟨#[105,110,116,111]⟩ :: x.name :: ⟨#[118,97,108,117,101,115]⟩ :: (dS gd x.rows ++ [dm]):=by unfold dr; rw [if_neg ak,if_neg ak,if_pos hk]; simp
  rw [e] at ht;replace ht:=ht.cons;obtain ⟨p1,t1,rfl,ht⟩:=ht;replace ht:=ht.cons;obtain ⟨p2,t2,rfl,ht⟩:=ht;replace ht:=ht.cons;obtain ⟨p3,t3,rfl,ht⟩:=ht;replace ht:=ht.cons;obtain ⟨p4,t4,rfl,ht⟩:=ht;replace ht:=ht.app;obtain ⟨tc,t5,rfl,hc,ht⟩:=ht;replace ht:=ht.cons;obtain ⟨p6,t7,rfl,ht⟩:=ht;obtain rfl:=ht.nil;have hn:=h.name ak;obtain ⟨c1,c2,c3⟩:=h.rows hk
  have e:bQ ⟨#[105,110,115,101,114,116]⟩ p1 :: bQ ⟨#[105,110,116,111]⟩ p2 :: bQ x.name p3 :: bQ ⟨#[118,97,108,117,101,115]⟩ p4 :: (tc ++ [bQ dm p6]) ++ rest=bQ ⟨#[105,110,115,101,114,116]⟩ p1 :: bQ ⟨#[105,110,116,111]⟩ p2 :: bQ x.name p3 :: bQ ⟨#[118,97,108,117,101,115]⟩ p4 :: (tc ++ (bQ dm p6 :: rest)):=by simp
  rw [e];refine ⟨_,_,rfl,(by decide:¬ (wk ⟨#[105,110,115,101,114,116]⟩).1=5),p6,?_⟩;rw [cZ,if_neg (by rw [aZ]; decide),if_pos (by rw [aZ]; decide),bB,fD,cN (by decide)];show aK (dt (bQ x.name p3 :: _)) _=_;rw [bP _ (fV hn p3 _),cN (by decide)];show aK (cu jJ 400 401 (tc ++ (bQ dm p6 :: rest))) _=_;rw [bP _ (iJ (L:=[dm]) (by decide) (fun y hy ts rest ht _=>Eg (c1 y hy).1 (c1 y hy).2.1 (c1 y hy).2.2 ht) c2 ak ak hc (Fs.lit _ _ _)),ct,if_neg ak,if_neg ak,if_pos hk]
 ·have e:dr x=⟨#[100,101,108,101,116,101]⟩ :: ⟨#[102,114,111,109]⟩ :: x.name :: (fH rN x.ax x.au ++ [dm]):=by unfold dr; rw [if_neg ak,if_neg ak,if_neg ak,if_pos hk]; simp
  rw [e] at ht;replace ht:=ht.cons;obtain ⟨p1,t1,rfl,ht⟩:=ht;replace ht:=ht.cons;obtain ⟨p2,t2,rfl,ht⟩:=ht;replace ht:=ht.cons;obtain ⟨p3,t3,rfl,ht⟩:=ht;replace ht:=ht.app;obtain ⟨tc,t5,rfl,hc,ht⟩:=ht;replace ht:=ht.cons;obtain ⟨p6,t7,rfl,ht⟩:=ht;obtain rfl:=ht.nil;have hn:=h.name ak;have e:bQ ⟨#[100,101,108,101,116,101]⟩ p1 :: bQ ⟨#[102,114,111,109]⟩ p2 :: bQ x.name p3 :: (tc ++ [bQ dm p6]) ++ rest=bQ ⟨#[100,101,108,101,116,101]⟩ p1 :: bQ ⟨#[102,114,111,109]⟩ p2 :: bQ x.name p3 :: (tc ++ (bQ dm p6 :: rest)):=by simp
  rw [e];refine ⟨_,_,rfl,(by decide:¬ (wk ⟨#[100,101,108,101,116,101]⟩).1=5),p6,?_⟩;rw [cZ,if_neg (by rw [aZ]; decide),if_neg (by rw [aZ]; decide),if_pos (by rw [aZ]; decide),bB,gL,cN (by decide)];show aK (dt (bQ x.name p3 :: _)) _=_;rw [bP _ (fV hn p3 _),bP _ (vJ (by decide) (h.au hk) hc (L:=[dm]) (by decide) (Fs.lit _ _ _)),ct,if_neg ak,if_neg ak,if_neg ak,if_pos hk]
 ·have e:dr x=⟨#[115,104,111,119]⟩ :: (gO x.query ++ [dm]):=by unfold dr; rw [if_neg ak,if_neg ak,if_neg ak,if_neg ak,if_pos hk]; simp
  rw [e] at ht;replace ht:=ht.cons;obtain ⟨p1,t1,rfl,ht⟩:=ht;replace ht:=ht.app;obtain ⟨tc,t5,rfl,hc,ht⟩:=ht;replace ht:=ht.cons;obtain ⟨p6,t7,rfl,ht⟩:=ht;obtain rfl:=ht.nil;have e:bQ ⟨#[115,104,111,119]⟩ p1 :: (tc ++ [bQ dm p6]) ++ rest=bQ ⟨#[115,104,111,119]⟩ p1 :: (tc ++ (bQ dm p6 :: rest)):=by simp
  rw [e];refine ⟨_,_,rfl,(by decide:¬ (wk ⟨#[115,104,111,119]⟩).1=5),p6,?_⟩;rw [cZ,if_neg (by rw [aZ]; decide),if_neg (by rw [aZ]; decide),if_neg (by rw [aZ]; decide),if_pos (by rw [aZ]; decide),bB,bP _ (tP (h.query (.inr hk)) hc (Fs.lit _ _ _)),ct,if_neg ak,if_neg ak,if_neg ak,if_neg ak]
theorem Af {x:cM} (h:GX x):(∀ w ∈ dr x,GW w)∧dr x ≠ []:=by
 rcases h.kind with hk | hk | hk | hk | hk
 ·unfold dr; rw [if_pos hk];obtain ⟨c1,_,_⟩:=h.cF hk;exact ⟨cj (cj (cj (aU (bz (by decide)) (aU (bz (by decide)) (aU (gE (h.name ak)) (aU (bz (by decide)) bV)))) (mL fun y hy=>Em (c1 y hy).1 (c1 y hy).2)) (aU (bz (by decide)) bV)) (aU (bz (by decide)) bV),by simp⟩
 ·unfold dr; rw [if_neg ak,if_pos hk];exact ⟨cj (cj (aU (bz (by decide)) (aU (bz (by decide)) (aU (gE (h.name ak)) (aU (bz (by decide)) bV)))) (Bl (h.query (.inl hk)))) (aU (bz (by decide)) bV),by simp⟩
 ·unfold dr; rw [if_neg ak,if_neg ak,if_pos hk];obtain ⟨c1,_,_⟩:=h.rows hk;exact ⟨cj (cj (aU (bz (by decide)) (aU (bz (by decide)) (aU (gE (h.name ak)) (aU (bz (by decide)) bV)))) (mL fun y hy=>EH (c1 y hy).1)) (aU (bz (by decide)) bV),by simp⟩
 ·unfold dr; rw [if_neg ak,if_neg ak,if_neg ak,if_pos hk];exact ⟨cj (cj (aU (bz (by decide)) (aU (bz (by decide)) (aU (gE (h.name ak)) bV))) (rJ (by decide) (h.au hk))) (aU (bz (by decide)) bV),by simp⟩
 ·unfold dr; rw [if_neg ak,if_neg ak,if_neg ak,if_neg ak,if_pos hk];exact ⟨cj (cj (aU (bz (by decide)) bV) (Bl (h.query (.inr hk)))) (aU (bz (by decide)) bV),by simp⟩
theorem qs:∀ (l:List cM) (n:Nat) (acc:List cM) (ts:List Tk) (q:Int),(∀ x ∈ l,GX x)→l.length<n→acc.length+l.length≤60→TW (l.flatMap dr) ts→∃ r,bM n acc (ts ++ [(5,eB,q)]) = .ok (acc ++ l.map ct,r)
 | [],n,acc,ts,q,_,hn,_,ht=>by
  obtain ⟨m,rfl⟩:∃ m,n=m+1:=⟨n - 1,by simp at hn; omega⟩
  rw [TW.nil ht,Jq,bM,if_pos (show (cg [((5:Int),eB,q)]).1=5 from rfl)]
  exact ⟨[(5,eB,q)],by simp⟩
 | x :: l,n,acc,ts,q,h1,hn,hm,ht=>by
  simp only [Jo] at hn hm
  obtain ⟨m,rfl⟩:∃ m,n=m+1:=⟨n - 1,by omega⟩
  rw [JN] at ht
  replace ht:=ht.app
  obtain ⟨ta,tb,rfl,ha,hb⟩:=ht
  obtain ⟨p,r,e,hp,u,hs⟩:=EG (h1 x (by simp)) ha (rest:=tb ++ [(5,eB,q)])
  obtain ⟨r2,hr2⟩:=qs l m (acc ++ [ct x]) tb q (fun y hy=>h1 y (by simp [hy])) ak (by simp only [Jf,Jo,JQ]; omega) hb
  refine ⟨r2,?_⟩
  have hnow:(cg (ta ++ (tb ++ [(5,eB,q)]))).1≠5:=by rw [e]; exact hp
  rw [Jg,bM,if_neg hnow,if_neg ak,bP _ hs,cN (by decide)]
  show bM m (acc ++ [ct x]) (tb ++ [(5,eB,q)])=_
  rw [hr2]
  simp
theorem tO (v:Vl):gb (eQ v)=gb v:=by
 unfold gb eQ;by_cases h1:v.1=1
 ·simp [h1]
 by_cases h2:v.1=2
 ·simp [h2]
 by_cases h3:v.1=3
 ·simp [h3]
 by_cases h4:v.1=4
 ·simp [h4]
 ·simp [h1,h2,h3,h4]
theorem wW (x:SX):(aO x).k=x.k∧(aO x).ks=x.ks.map aO:=by
 obtain ⟨k,v,t,n,ks⟩:=x;rw [aO,jF];exact ⟨rfl,rfl⟩
theorem yy (x:SX):ij (aO x)=ij x:=by
 obtain ⟨k,v,t,n,ks⟩:=x;rw [aO];by_cases h1:k=1
 ·subst h1;exact tO v
 ·by_cases h2:k=2
  ·subst h2; rfl
  ·unfold ij;show (if k=1 then _ else if k=2 then _ else _)=(if k=1 then _ else if k=2 then _ else _)
   rw [if_neg h1,if_neg h2,if_neg h1,if_neg h2]
theorem rq {g:SX→Int→Int × Int} (hg:∀ y m,g (aO y) m=g y m):∀ (ks:List SX) (n:Int),gS g (ks.map aO) n=gS g ks n
 | [],n=>rfl
 | y :: r,n=>by
  rw [JI,gS,gS,hg,rq hg r]
theorem ri:∀ (f:Nat) (x:SX) (d n:Int),fe f (aO x) d n=fe f x d n
 | 0,_,_,_=>rfl
 | f+1,x,d,n=>by
  rw [fe,fe,(wW x).1,(wW x).2,yy,JB,rq (fun y m=>ri f y (d+1) m)]
theorem kS (x:SX):eR (aO x)=eR x:=by unfold eR; rw [ri]
theorem nj (b:Bool) (x:SX):ed b (pP b x)=ed b x:=by
 cases b
 ·rfl
 ·exact kS x
theorem lC:∀ l:List SX,eZ (l.map aO)=eZ l
 | []=>rfl
 | x :: r=>by rw [JI,eZ,eZ,kS,lC r]
theorem px:∀ l:List kx,gr (l.map fun i=>(aO i.1,i.2))=gr l
 | []=>rfl
 | x :: r=>by rw [JI,gr,gr,kS,px r]
theorem uM:∀ (l:List Src) (b:Bool),(bF b l).length=l.length
 | [],_=>rfl
 | x :: r,b=>by rw [bF,Jo,Jo,uM r]
theorem lS:∀ (l:List Src) (b:Bool),dc b (bF b l)=dc b l
 | [],_=>rfl
 | x :: r,b=>by
  rw [bF,dc,dc,lS r]
  congr 1
  unfold eI eN
  cases b
  ·simp only [Bool.not_false,Jd,if_false]
   show dY _ (dY _ (dY _ (dY (eR (aO x.on)) 0)))=dY _ (dY _ (dY _ (dY (eR x.on) 0)))
   rw [kS]
  ·rfl
theorem BF (x:dO):lL (dq x)=lL x:=by
 unfold lL dq uI;simp only [uM,JB,lS,nj,lC]
 congr 2
 unfold lW kz;cases x.star
 ·simp only [Jd,if_false,JB,px]
 ·rfl
theorem pj (ops:List Int):∀ (l:List dO) (j:Nat),fx ops j (l.map dq)=fx ops j l
 | [],_=>rfl
 | x :: r,j=>by rw [JI,fx,fx,BF,pj ops r]
theorem tX (q:kf):nD (iq q)=nD q:=by
 unfold nD iq xX qa wG;simp only [JB,pj];by_cases h:0≤q.aH
 ·simp only [h,if_true,JB,lC]
 ·have h1:¬ (0:Int) ≤ -1:=by decide
  have h2:(-1:Int)≤50:=by decide
  have h3:q.aH≤50:=by omega
  simp only [h,h1,h2,h3,if_true,if_false]
theorem qY:∀ l:List Vl,jo (l.map eQ)=jo l
 | []=>rfl
 | x :: r=>by rw [JI,jo,jo,tO,qY r]
theorem rl:∀ l:List (List Vl),hU (l.map (·.map eQ))=hU l
 | []=>rfl
 | x :: r=>by rw [JI,hU,hU,qY,rl r,JB]
theorem BE {x:cM} (h:x.kind=1∨x.kind=2∨x.kind=3∨x.kind=4∨x.kind=5):iQ (ct x)=iQ x:=by
 rcases h with hk | hk | hk | hk | hk
 ·rw [ct,if_pos hk]; unfold iQ Cn ll jy; simp [hk]
 ·rw [ct,if_neg ak,if_pos hk]; unfold iQ Cn ll jy; simp [hk,tX]
 ·rw [ct,if_neg ak,if_neg ak,if_pos hk]; unfold iQ Cn ll jy mZ; simp [hk,rl]
 ·rw [ct,if_neg ak,if_neg ak,if_neg ak,if_pos hk]; unfold iQ Cn ll jy; simp [hk,nj]
 ·rw [ct,if_neg ak,if_neg ak,if_neg ak,if_neg ak]; unfold iQ Cn ll jy; simp [hk,tX]
theorem sU:∀ {l:List cM} {i:Int},(kZ l i).1=0→∀ x ∈ l,iQ x=0
 | [],_,_=>by simp
 | y :: r,i,h=>by
  rw [kZ] at h
  by_cases e:iQ y=0
  ·rw [if_pos e] at h
   intro x hx
   rcases List.mem_cons.1 hx with rfl | hx
   ·exact e
   ·exact sU h x hx
  ·rw [if_neg e] at h; exact absurd h e
theorem tN:∀ {l:List cM} {i:Int},(∀ x ∈ l,iQ x=0)→kZ (l.map ct) i=kZ l i
 | [],_,_=>rfl
 | y :: r,i,h=>by
  have h1:=h y (by simp)
  rw [JI,kZ,kZ,BE (FA h1).kind,if_pos h1,if_pos h1,tN fun x hx=>h x (by simp [hx])]
theorem fE {l:List cM} (h:(cL l).1=0):l.length≤60∧∀ x ∈ l,iQ x=0:=by
 unfold cL at h;by_cases e:fi l.length 0 60=0
 ·rw [if_pos e] at h;have:=dw e;exact ⟨by omega,sU h⟩
 ·rw [if_neg e] at h; exact absurd h (by decide)
theorem pb {l:List cM} (h:(cL l).1=0):(cL (l.map ct))=cL l:=by
 have:=(fE h).2;unfold cL;rw [JB,tN this]
theorem sC (v:Vl):dK (eQ v)=dK v:=by
 unfold dK eQ;by_cases h1:v.1=1
 ·simp [h1]
 by_cases h2:v.1=2
 ·simp [h2]
 by_cases h3:v.1=3
 ·simp [h3]
 by_cases h4:v.1=4
 ·simp [h4]
 ·simp [h1,h2,h3,h4]
mutual
theorem qn:∀ x:SX,bg (aO x)=bg x
 | .mk k v t n ks=>by
  rw [aO,fm,fm,oA ks]
  by_cases h1:k=1
  ·subst h1; exact sC v
  ·by_cases h2:k=2
   ·subst h2; rfl
   ·unfold ic
    rw [if_neg h1,if_neg h2,if_neg h1,if_neg h2]
theorem oA:∀ ks:List SX,(kh ks).map (fun y=>(bN y.k,bg y))=ks.map fun y=>(bN y.k,bg y)
 | []=>by rw [kh]
 | x :: r=>by rw [kh,JI,JI,qn x,oA r,(wW x).1]
end
theorem jG (x:SX):bY (aO x)=bY x:=by unfold bY; rw [qn,(wW x).1]
theorem ot (wd:ByteArray) (b:Bool) (x:SX):fH wd b (pP b x)=fH wd b x:=by
 cases b
 ·rfl
 ·show [wd] ++ bY (aO x) = [wd] ++ bY x;rw [jG]
theorem lY {α:Type} {ew:α→List ByteArray} {f:α→α} (h:∀ x,ew (f x)=ew x) (l:List α):dS ew (l.map f)=dS ew l:=by
 rw [nV,nV];cases l with
 | nil=>rfl
 | cons x r =>
  show ew (f x) ++ (r.map f).flatMap (fun y=>⟨#[44]⟩ :: ew y)=ew x ++ r.flatMap fun y=>⟨#[44]⟩ :: ew y
  rw [h,List.flatMap_map]
  congr 1
  congr 1
  funext y
  show ⟨#[44]⟩ :: ew (f y)=⟨#[44]⟩ :: ew y;rw [h]
theorem tl:∀ l:List Src,im (bF false l)=im l
 | []=>rfl
 | x :: r=>by
  rw [bF,im,im,tl r]
  show EP x.kind ++ ([x.name] ++ kR x.alias ++ ([Fq] ++ bY (aO x.on))) ++ im r=_
  rw [jG]
theorem Av (l:List Src):ft (bF true l) (bF true l).length=ft l l.length:=by
 cases l with
 | nil=>rfl
 | cons x r=>rw [bF,me,me,tl]; rfl
theorem Cd (x:dO):gR (dq x)=gR x:=by
 unfold gR;have e1:gu (dq x)=gu x:=by
  unfold gu dq;cases x.star
  ·simp only [Jd,if_false];exact lY (fun y=>by unfold fw; rw [jG]) _
  ·rfl
 have e2:j5 (dq x).group=j5 x.group:=by
  unfold j5 dq;simp only [JB];rw [lY jG]
 rw [e1,e2];show _ ++ lJ x.distinct _ ++ gu x ++ _ ++ ft (bF true x.sources) (bF true x.sources).length ++ fH _ x.ax (pP x.ax x.au) ++ j5 x.group ++ fH _ x.aG (pP x.aG x.az)=_;rw [Av,ot,ot]
theorem tR (l:List dO) (ops:List Int):∀ n,gP (l.map dq) ops n=gP l ops n
 | 0=>rfl
 | n+1=>by
  rw [gP,gP,tR l ops n,List.getElem?_map]
  cases l[n]? with
  | none=>rfl
  | some x=>show _ ++ gR (dq x)=_ ++ gR x; rw [Cd]
theorem uE (q:kf):gO (iq q)=gO q:=by
 unfold gO lA iq;simp only [JB,tR];by_cases h:0≤q.aH
 ·simp only [h,if_true];rw [lY jG]
 ·have h1:¬ (0:Int) ≤ -1:=by decide
  simp only [h,h1,if_false]
theorem Ab {x:cM} (h:x.kind=1∨x.kind=2∨x.kind=3∨x.kind=4∨x.kind=5):dr (ct x)=dr x:=by
 rcases h with hk | hk | hk | hk | hk
 ·rw [ct,if_pos hk]; unfold dr; simp [hk]
 ·rw [ct,if_neg ak,if_pos hk]; unfold dr; simp [hk,uE]
 ·rw [ct,if_neg ak,if_neg ak,if_pos hk]; unfold dr; simp only [hk]; rw [lY (fun y=>by unfold gd; rw [lY sC])]; rfl
 ·rw [ct,if_neg ak,if_neg ak,if_neg ak,if_pos hk]; unfold dr; simp [hk,ot]
 ·rw [ct,if_neg ak,if_neg ak,if_neg ak,if_neg ak]; unfold dr; simp [hk,uE]
theorem uy:∀ (l:List cM) (bs bs':List UInt8),bs.length≤4000→iZ bs l=some bs'→bs'=aE bs (l.flatMap dr)∧bs'.length≤4000
 | [],bs,bs',hb,h=>by rw [iZ] at h; cases h; exact ⟨rfl,hb⟩
 | x :: r,bs,bs',hb,h=>by
  rw [iZ] at h
  by_cases hc:4000<(aE bs (dr x)).length
  ·rw [if_pos hc] at h; cases h
  ·rw [if_neg hc] at h
   obtain ⟨h1,h2⟩:=uy r _ _ ak h
   exact ⟨by rw [h1,JN,an],h2⟩
theorem iX {l:List cM} (h:(bW l).2.1=0):(cL l).1=0∧(bW l).1=⟨(fy (l.flatMap dr)).toArray⟩∧(fy (l.flatMap dr)).length≤4000:=by
 unfold bW at h ⊢;by_cases hw:(cL l).1≠0
 ·rw [if_pos hw] at h; exact absurd h hw
 ·rw [if_neg hw] at h ⊢;have hw0:(cL l).1=0:=by simpa using hw
  have hs:=(fE hw0).2;cases e:iZ [] l with
  | none=>rw [e] at h; exact absurd h (by decide)
  | some bs =>
   obtain ⟨h1,h2⟩:=uy l [] bs (by decide) e;have hb:bs=fy (l.flatMap dr):=by
    rw [h1];cases l with
    | nil=>rfl
    | cons x r =>
     obtain ⟨g1,g2⟩:=Af (FA (hs x (by simp)));cases ew:dr x with
     | nil=>exact absurd ew g2
     | cons w ws =>
      rw [ew] at g1;obtain ⟨c,t,hc,_⟩:=(g1 w (by simp)).head;rw [JN,ew,Ju];exact yH (by rw [hc]; simp)
   exact ⟨hw0,by rw [← hb],by rw [← hb]; exact h2⟩
theorem jR {l:List cM} (h:(bW l).2.1=0):da (bW l).1 = .ok (l.map ct):=by
 obtain ⟨h1,h2,h3⟩:=iX h;obtain ⟨c1,c2⟩:=fE h1;have hgw:∀ w ∈ l.flatMap dr,GW w:=by
  intro w hw;obtain ⟨x,hx,hw⟩:=List.mem_flatMap.1 hw;exact (Af (FA (c2 x hx))).1 w hw
 obtain ⟨ts,q,t1,t2⟩:=pQ hgw;obtain ⟨r,hr⟩:=qs l 61 [] ts q (fun x hx=>FA (c2 x hx)) ak (by simpa using c1) t2;rw [h2,da,if_neg (by show ¬ (fy (l.flatMap dr)).toArray.size > 4000; simpa using h3),t1];simp only;rw [hr];simp only [Jq];rw [pb h1,if_pos h1]
theorem AU {x:cM} (h:(bW [x]).2.1=0):bW [ct x]=bW [x]:=by
 obtain ⟨h1,_⟩:=iX h;have hk:=(FA ((fE h1).2 x (by simp))).kind;have e:=pb h1;unfold bW;rw [show [ct x] = [x].map ct from rfl,e];show (if _ then _ else match iZ [] [ct x] with | none=>_ | some bs=>_)=_;rw [iZ,iZ,Ab hk];rfl
theorem rR {x:cM} (h:(bW [x]).2.1=0):jL (da (bW [x]).1)=(0,0)∧fN (da (bW [x]).1) = [ct x]:=by
 rw [jR h]; exact ⟨rfl,rfl⟩
def Du:Array Value:=#[aB,(),aL,aL,aL,aL,aB,aL,false,aB,aB,aB,(),(),(),aL]
theorem Ez (w:World):(Instr.alloc 57 true (.tuple #[])).run Tryz.prog w = .ok (af w 0) (w.alloc (.cells Du 57)):=by
 unfold Du;go_simp
theorem Dn:(Tryz.prog.info? 57).map (·.size)=some Du.size:=by kernel_rfl
theorem oP (l:List cM) (hl1:l.length≤100000) (hl2:∀ x ∈ l,sQ x) (a b:Option Addr) (ca cb:Nat) (w:World) (h:pI cy 16 w a b l):Calls Tryz.prog 13 #[.slice a l.length ca,.slice b l.length cb] w (Cm w):=by
 have h1000:=hl1;have H1:Hid (pI cy 16 w a b l):=h;have HL:Hid (∀ x ∈ l,sQ x):=hl2;clear h hl1 hl2;go_enter Tryz.func13,Tryz.ntmps13;go_wp2_with fail
 go_loopw [18] (fun i wr=>∃ j:Nat,j≤l.length∧i = .int .i64 j∧Below w w wr) (fun i _=>l.length - (RowKit.intOf i).toNat)
 case atStart=>exact ⟨0,Jc _,rfl,I8 _ _⟩
 case round =>
  obtain ⟨m,hm,rfl,hbr⟩:=hrel;by_cases hlt:m<l.length
  ·as_aux_lemma =>
    have hB:=HL.out _ (Jk hlt);obtain ⟨ba,oa,_,rfl,ta,a1,c1,p1,d1,p2,d2,p3,d3,a2,c2,a3,c3,rfl,l1,l2,l3,l4,l5,l6⟩:=(H1.out.1.nx bJ hbr).get hlt;obtain ⟨bb,ob,_,rfl,tb,b1,f1,r1,e1,r2,e2,r3,e3,b2,f2,b3,f3,rfl,m1,m2,m3,m4,m5,m6⟩:=(H1.out.2.nx bJ hbr).get hlt;have hjz:(m:Int)<(l.length:Int):=by omega
    generalize l[m]=x at *;have L1:Hid (pI pO 2 wr a1 b1 x.cF):=⟨l1,m1⟩
    have L2:Hid (pI eS 21 wr p1 r1 x.query.parts):=⟨l2,m2⟩
    have L3:Hid (pI lD 1 wr p2 r2 x.query.ops):=⟨l3,m3⟩
    have L4:Hid (pI fu 7 wr p3 r3 x.query.order):=⟨l4,m4⟩
    have L5:Hid (pI (iB jQ 3) 1 wr a2 b2 x.rows):=⟨l5,m5⟩
    have L6:Hid (Dd wr a3 b3 x.au.ks):=⟨l6,m6⟩
    have HB:Hid (sQ x):=hB;clear l1 m1 l2 m2 l3 m3 l4 m4 l5 m5 l6 m6 hB;go_upto_region 6 with fail
    obtain ⟨C,hCC,hCP,hC0⟩:∃ C:World→Prop,(∀ W W':World,C W→Below W W W'→C W')∧(∀ W,C W→ix W ba (oa+m*16) [.int .i64 x.kind,x.name,.slice a1 x.cF.length c1,.slice p1 x.query.parts.length d1,.slice p2 x.query.ops.length d2,.slice p3 x.query.order.length d3,x.query.aH,.slice a2 x.rows.length c2,x.ax,x.au.k,x.au.v.1,x.au.v.2.1,x.au.v.2.2,x.au.bp,x.au.name,.slice a3 x.au.ks.length c3]∧ix W bb (ob+m*16) [.int .i64 x.kind,x.name,.slice b1 x.cF.length f1,.slice r1 x.query.parts.length e1,.slice r2 x.query.ops.length e2,.slice r3 x.query.order.length e3,x.query.aH,.slice b2 x.rows.length f2,x.ax,x.au.k,x.au.v.1,x.au.v.2.1,x.au.v.2.2,x.au.bp,x.au.name,.slice b3 x.au.ks.length f3])∧C wr:=⟨fun W=>ix W ba (oa+m*16) [.int .i64 x.kind,x.name,.slice a1 x.cF.length c1,.slice p1 x.query.parts.length d1,.slice p2 x.query.ops.length d2,.slice p3 x.query.order.length d3,x.query.aH,.slice a2 x.rows.length c2,x.ax,x.au.k,x.au.v.1,x.au.v.2.1,x.au.v.2.2,x.au.bp,x.au.name,.slice a3 x.au.ks.length c3]∧ix W bb (ob+m*16) [.int .i64 x.kind,x.name,.slice b1 x.cF.length f1,.slice r1 x.query.parts.length e1,.slice r2 x.query.ops.length e2,.slice r3 x.query.order.length e3,x.query.aH,.slice b2 x.rows.length f2,x.ax,x.au.k,x.au.v.1,x.au.v.2.1,x.au.v.2.2,x.au.bp,x.au.name,.slice b3 x.au.ks.length f3],fun W W' h hb=>⟨h.1.nx hb,h.2.nx hb⟩,fun _ h=>h,⟨ta,tb⟩⟩
    have hdr:Below wr wr wr.drew:=(I8 _ _).drew;have CW:=hCC _ _ hC0 hdr;clear hC0;refine bX C bm ?_;refine cT hCC 21 0 (.slice (some (af ba oa)) l.length ca) (fun n hn=>?_) CW ?_
    ·go_simp
    simp only [Act.put,pA,pB,pC];refine cT hCC 22 1 m (fun n hn=>?_) CW ?_
    ·go_simp
    simp only [Act.put,pA,pB,pC];refine cT hCC 23 2 (.pointer (some ⟨ba,oa+m*16,none⟩)) (fun n hn=>?_) CW ?_
    ·go_simp
    simp only [Act.put,pA,pB,pC]
    refine eA hCC (some 24) (i:=3) (v:=.agg (hJ x.kind x a1 c1 p1 d1 p2 d2 p3 d3 a2 c2 a3 c3)) rfl rfl bm bm bm (fun _ _ _ h=>h) (dA rfl 57 _ rfl ba (oa+m*16) [.int .i64 x.kind,x.name,.slice a1 x.cF.length c1,.slice p1 x.query.parts.length d1,.slice p2 x.query.ops.length d2,.slice p3 x.query.order.length d3,x.query.aH,.slice a2 x.rows.length c2,x.ax,x.au.k,x.au.v.1,x.au.v.2.1,x.au.v.2.2,x.au.bp,x.au.name,.slice a3 x.au.ks.length c3] rfl Tryz.underlying57 rfl bm (fun n hn=>(hCP n hn).1)) CW ?_
    simp only [Act.put,pA,pB,pC];refine cT hCC 25 4 (.slice (some (af bb ob)) l.length cb) (fun n hn=>?_) CW ?_
    ·go_simp
    simp only [Act.put,pA,pB,pC];refine cT hCC 26 5 m (fun n hn=>?_) CW ?_
    ·go_simp
    simp only [Act.put,pA,pB,pC];refine cT hCC 27 6 (.pointer (some ⟨bb,ob+m*16,none⟩)) (fun n hn=>?_) CW ?_
    ·go_simp
    simp only [Act.put,pA,pB,pC]
    refine eA hCC (some 28) (i:=7) (v:=.agg (hJ x.kind x b1 f1 r1 e1 r2 e2 r3 e3 b2 f2 b3 f3)) rfl rfl bm bm bm (fun _ _ _ h=>h) (dA rfl 57 _ rfl bb (ob+m*16) [.int .i64 x.kind,x.name,.slice b1 x.cF.length f1,.slice r1 x.query.parts.length e1,.slice r2 x.query.ops.length e2,.slice r3 x.query.order.length e3,x.query.aH,.slice b2 x.rows.length f2,x.ax,x.au.k,x.au.v.1,x.au.v.2.1,x.au.v.2.2,x.au.bp,x.au.name,.slice b3 x.au.ks.length f3] rfl Tryz.underlying57 rfl bm (fun n hn=>(hCP n hn).2)) CW ?_
    simp only [Act.put,pA,pB,pC];refine su 8 9 10 11 (d0:=6) (d1:=7) (t0:=24) (t1:=28) (T:=57) ⟨⟨_,rfl,rfl,rfl,rfl⟩,⟨_,rfl,rfl,rfl,rfl⟩,⟨_,rfl,rfl,rfl,rfl⟩,⟨_,rfl,rfl,rfl,rfl⟩,by decide⟩ bm Du (hJ x.kind x a1 c1 p1 d1 p2 d2 p3 d3 a2 c2 a3 c3) (hJ x.kind x b1 f1 r1 e1 r2 e2 r3 e3 b2 f2 b3 f3) Ez rfl rfl (JO rfl) (JO rfl) Dn rfl rfl (eh rfl) (eh rfl) (fun w' hb=>hCC _ _ CW hb) (fun A B W hA hB hn hb qA qB=>?_);clear CW hCC hCP;simp only [ko,Act.put,List.setIfInBounds_toArray,List.set_cons_zero,List.set_cons_succ]
    have D1:=chain hdr hb;have A4:=chain hbr D1;have QA:gB W A (hJ x.kind x a1 c1 p1 d1 p2 d2 p3 d3 a2 c2 a3 c3) 57:=qA;have QB:gB W B (hJ x.kind x b1 f1 r1 e1 r2 e2 r3 e3 b2 f2 b3 f3) 57:=qB;have L1a:Hid _:=L1.out.nx iY D1;have L2a:Hid _:=L2.out.nx b8 D1;have L3a:Hid _:=L3.out.nx fv D1;have L4a:Hid _:=L4.out.nx b9 D1;have L5a:Hid _:=L5.out.nx (br eU 3) D1;have L6a:=L6.out.nx D1;clear ta tb L1 L2 L3 L4 L5 L6 hdr hb hbr D1 qA qB hn
    as_aux_lemma =>
     have con:=jB x.au a3 c3 b3 f3 _ W HB.out.au L6a.1 L6a.2;have x0:W.cell? (af A 0)=some (.int .i64 x.kind):=QA.c 0 rfl;have x1:=QA.c 1 rfl;have x2:=QA.c 2 rfl;have x7:=QA.c 7 rfl;have x8:=QA.c 8 rfl;have x9:=QA.c 9 rfl;have x10:=QA.c 10 rfl
     have x11:=QA.c 11 rfl;have x12:=QA.c 12 rfl;have x13:=QA.c 13 rfl;have x14:=QA.c 14 rfl;have x15:=QA.c 15 rfl;have y0:=QB.c 0 rfl;have y1:=QB.c 1 rfl;have y2:=QB.c 2 rfl
     have y7:=QB.c 7 rfl;have y8:=QB.c 8 rfl;have y9:=QB.c 9 rfl;have y10:=QB.c 10 rfl;have y11:=QB.c 11 rfl;have y12:=QB.c 12 rfl;have y13:=QB.c 13 rfl;have y14:=QB.c 14 rfl
     have y15:=QB.c 15 rfl;go_wp2_with fail
     refine cR con fun W2 hb=>?_;clear con L6a x0 x1 x2 x7 x8 x9 x10 x11 x12 x13 x14 x15 y0 y1 y2 y7 y8 y9 y10 y11 y12 y13 y14 y15;replace QA:=QA.nx hb;replace QB:=QB.nx hb;have A5:=chain A4 hb;have L1b:Hid _:=L1a.out.nx iY hb;have L2b:=L2a.out.nx b8 hb;have L3b:=L3a.out.nx fv hb;have L4b:=L4a.out.nx b9 hb;have L5b:Hid _:=L5a.out.nx (br eU 3) hb;clear L1a L2a L3a L4a L5a hb A4;have con:=zq x.query HB.out.query p1 p2 p3 r1 r2 r3 d1 d2 d3 e1 e2 e3 W2 L2b L3b L4b;have x3:=QA.c 3 rfl
     have x4:=QA.c 4 rfl;have x5:=QA.c 5 rfl;have x6:=QA.c 6 rfl;have y3:=QB.c 3 rfl;have y4:=QB.c 4 rfl;have y5:=QB.c 5 rfl;have y6:=QB.c 6 rfl;go_wp2_with fail
     refine cR con fun W4 hb=>?_;clear con L2b L3b L4b x3 x4 x5 x6 y3 y4 y5 y6;replace QA:=QA.nx hb;replace QB:=QB.nx hb;have A7:=chain A5 hb;have L1d:Hid _:=L1b.out.nx iY hb;have L5d:Hid _:=L5b.out.nx (br eU 3) hb;have hn1:=HB.out.cF;have hn2:=HB.out.rows.1;clear L1b L5b hb A5;have x2:=QA.c 2 rfl;go_wp2_with fail
     clear x2;go_loopw [85] (fun i wr=>∃ j:Nat,j≤x.cF.length∧i = .int .i64 j∧Below W4 W4 wr) (fun i _=>x.cF.length - (RowKit.intOf i).toNat)
     case atStart=>exact ⟨0,Jc _,rfl,I8 _ _⟩
     case round =>
      obtain ⟨j,hj,rfl,hbr⟩:=hrel;by_cases hl2:j<x.cF.length
      ·as_aux_lemma =>
        obtain ⟨bc,oc,_,rfl,tc,rfl⟩:=(L1d.out.1.nx iY hbr).get hl2;obtain ⟨bd,od,_,rfl,td,rfl⟩:=(L1d.out.2.nx iY hbr).get hl2;have hjz2:(j:Int)<(x.cF.length:Int):=by omega
        have q0:=QA.nx hbr;have q1:=QB.nx hbr;generalize x.cF[j]=y at *;go_upto_region 12 with fail
        obtain ⟨C,hCC,hCP,hC0⟩:∃ C:World→Prop,(∀ W W':World,C W→Below W W W'→C W')∧(∀ W,C W→gB W A (hJ x.kind x (some (af bc oc)) c1 p1 d1 p2 d2 p3 d3 a2 c2 a3 c3) 57∧gB W B (hJ x.kind x (some (af bd od)) f1 r1 e1 r2 e2 r3 e3 b2 f2 b3 f3) 57∧ix W bc (oc+j*2) [.string y.1,y.2]∧ix W bd (od+j*2) [.string y.1,y.2])∧C wr:=⟨fun W=>gB W A (hJ x.kind x (some (af bc oc)) c1 p1 d1 p2 d2 p3 d3 a2 c2 a3 c3) 57∧gB W B (hJ x.kind x (some (af bd od)) f1 r1 e1 r2 e2 r3 e3 b2 f2 b3 f3) 57∧ix W bc (oc+j*2) [.string y.1,y.2]∧ix W bd (od+j*2) [.string y.1,y.2],fun W W' h hb=>⟨h.1.nx hb,h.2.1.nx hb,h.2.2.1.nx hb,h.2.2.2.nx hb⟩,fun _ h=>h,⟨q0,q1,tc,td⟩⟩
        have hdr:Below wr wr wr.drew:=(I8 _ _).drew;have CW:=hCC _ _ hC0 hdr;clear hC0;refine bX C bm ?_;refine cT hCC 88 0 (af A 2) (fun n hn=>?_) CW ?_
        ·go_simp
        simp only [Act.put,pA,pB,pC];refine cT hCC 89 1 (.slice (some (af bc oc)) x.cF.length c1) (fun n hn=>?_) CW ?_
        ·have z0:=(hCP n hn).1.c 2 rfl;go_simp
        simp only [Act.put,pA,pB,pC];refine cT hCC 90 2 j (fun n hn=>?_) CW ?_
        ·go_simp
        simp only [Act.put,pA,pB,pC];refine cT hCC 91 3 (.pointer (some ⟨bc,oc+j*2,none⟩)) (fun n hn=>?_) CW ?_
        ·go_simp
        simp only [Act.put,pA,pB,pC];refine eA hCC (some 92) (i:=4) (v:=.agg #[y.1,y.2]) rfl rfl bm bm bm (fun _ _ _ h=>h) (dA rfl 69 _ rfl bc (oc+j*2) [.string y.1,y.2] rfl Tryz.underlying69 rfl bm (fun n hn=>(hCP n hn).2.2.1)) CW ?_;simp only [Act.put,pA,pB,pC];refine cT hCC 93 5 (af B 2) (fun n hn=>?_) CW ?_
        ·go_simp
        simp only [Act.put,pA,pB,pC];refine cT hCC 94 6 (.slice (some (af bd od)) x.cF.length f1) (fun n hn=>?_) CW ?_
        ·have z0:=(hCP n hn).2.1.c 2 rfl;go_simp
        simp only [Act.put,pA,pB,pC];refine cT hCC 95 7 j (fun n hn=>?_) CW ?_
        ·go_simp
        simp only [Act.put,pA,pB,pC];refine cT hCC 96 8 (.pointer (some ⟨bd,od+j*2,none⟩)) (fun n hn=>?_) CW ?_
        ·go_simp
        simp only [Act.put,pA,pB,pC];refine eA hCC (some 97) (i:=9) (v:=.agg #[y.1,y.2]) rfl rfl bm bm bm (fun _ _ _ h=>h) (dA rfl 69 _ rfl bd (od+j*2) [.string y.1,y.2] rfl Tryz.underlying69 rfl bm (fun n hn=>(hCP n hn).2.2.2)) CW ?_;simp only [Act.put,pA,pB,pC];refine cT hCC 98 10 false (fun n hn=>?_) CW ?_
        ·go_simp
        simp only [Act.put,pA,pB,pC];refine eK bm ?_;intro w7 hb7;have D7:=chain hdr hb7;clear CW hCC hCP hdr hb7;have E7:=chain hbr D7;clear q0 q1 tc td;go_wp2_with fail
        go_roundw
        case rel=>exact ⟨j+1,by omega,by go_num,E7⟩
        case measure=>simp [RowKit.intOf]; omega
      ·as_aux_lemma =>
        obtain ⟨W5,hW⟩:∃ W,W=wr:=⟨wr,rfl⟩
        subst hW;replace QA:=QA.nx hbr;replace QB:=QB.nx hbr;have A8:=chain A7 hbr;have L5e:Hid _:=L5d.out.nx (br eU 3) hbr;clear L1d L5d A7 hbr;have x7:=QA.c 7 rfl;go_wp2_with fail
        clear x7 hl2 hj;go_loopw [103] (fun i wr=>∃ j:Nat,j≤x.rows.length∧i = .int .i64 j∧Below W5 W5 wr) (fun i _=>x.rows.length - (RowKit.intOf i).toNat)
        case atStart=>exact ⟨0,Jc _,rfl,I8 _ _⟩
        case round =>
         obtain ⟨j,hj,rfl,hbr⟩:=hrel;by_cases hl2:j<x.rows.length
         ·as_aux_lemma =>
           have hB:=HB.out.rows.2 _ (Jk hl2);obtain ⟨bc,oc,_,rfl,tc,s1,g1,rfl,k1⟩:=(L5e.out.1.nx (br eU 3) hbr).get hl2;obtain ⟨bd,od,_,rfl,td,s2,g2,rfl,k2⟩:=(L5e.out.2.nx (br eU 3) hbr).get hl2;have hjz2:(j:Int)<(x.rows.length:Int):=by omega
           have q0:=QA.nx hbr;have q1:=QB.nx hbr;generalize x.rows[j]=y at *;have K1:Hid (pI jQ 3 wr s1 s2 y):=⟨k1,k2⟩
           clear k1 k2;go_upto_region 18 with fail
           simp only [Nat.mul_one] at tc td
           obtain ⟨C,hCC,hCP,hC0⟩:∃ C:World→Prop,(∀ W W':World,C W→Below W W W'→C W')∧(∀ W,C W→gB W A (hJ x.kind x a1 c1 p1 d1 p2 d2 p3 d3 (some (af bc oc)) c2 a3 c3) 57∧gB W B (hJ x.kind x b1 f1 r1 e1 r2 e2 r3 e3 (some (af bd od)) f2 b3 f3) 57∧ix W bc (oc+j) [.slice s1 y.length g1]∧ix W bd (od+j) [.slice s2 y.length g2])∧C wr:=⟨fun W=>gB W A (hJ x.kind x a1 c1 p1 d1 p2 d2 p3 d3 (some (af bc oc)) c2 a3 c3) 57∧gB W B (hJ x.kind x b1 f1 r1 e1 r2 e2 r3 e3 (some (af bd od)) f2 b3 f3) 57∧ix W bc (oc+j) [.slice s1 y.length g1]∧ix W bd (od+j) [.slice s2 y.length g2],fun W W' h hb=>⟨h.1.nx hb,h.2.1.nx hb,h.2.2.1.nx hb,h.2.2.2.nx hb⟩,fun _ h=>h,⟨q0,q1,tc,td⟩⟩
           have hdr:Below wr wr wr.drew:=(I8 _ _).drew;have CW:=hCC _ _ hC0 hdr;clear hC0;refine bX C bm ?_;refine cT hCC 106 0 (af A 7) (fun n hn=>?_) CW ?_
           ·go_simp
           simp only [Act.put,pA,pB,pC];refine cT hCC 107 1 (.slice (some (af bc oc)) x.rows.length c2) (fun n hn=>?_) CW ?_
           ·have z0:=(hCP n hn).1.c 7 rfl;go_simp
           simp only [Act.put,pA,pB,pC];refine cT hCC 108 2 j (fun n hn=>?_) CW ?_
           ·go_simp
           simp only [Act.put,pA,pB,pC];refine cT hCC 109 3 (.pointer (some ⟨bc,oc+j,none⟩)) (fun n hn=>?_) CW ?_
           ·go_simp
           simp only [Act.put,pA,pB,pC];refine cT hCC 110 4 (.slice s1 y.length g1) (fun n hn=>?_) CW ?_
           ·have z0:n.cell? ⟨bc,oc+j,none⟩=some (.slice s1 y.length g1):=(hCP n hn).2.2.1.2 0 _ rfl;go_simp
           simp only [Act.put,pA,pB,pC];refine cT hCC 111 5 y.length (fun n hn=>?_) CW ?_
           ·go_simp
           simp only [Act.put,pA,pB,pC];refine cT hCC 112 6 (af B 7) (fun n hn=>?_) CW ?_
           ·go_simp
           simp only [Act.put,pA,pB,pC];refine cT hCC 113 7 (.slice (some (af bd od)) x.rows.length f2) (fun n hn=>?_) CW ?_
           ·have z0:=(hCP n hn).2.1.c 7 rfl;go_simp
           simp only [Act.put,pA,pB,pC];refine cT hCC 114 8 j (fun n hn=>?_) CW ?_
           ·go_simp
           simp only [Act.put,pA,pB,pC];refine cT hCC 115 9 (.pointer (some ⟨bd,od+j,none⟩)) (fun n hn=>?_) CW ?_
           ·go_simp
           simp only [Act.put,pA,pB,pC];refine cT hCC 116 10 (.slice s2 y.length g2) (fun n hn=>?_) CW ?_
           ·have z0:n.cell? ⟨bd,od+j,none⟩=some (.slice s2 y.length g2):=(hCP n hn).2.2.2.2 0 _ rfl;go_simp
           simp only [Act.put,pA,pB,pC];refine cT hCC 117 11 y.length (fun n hn=>?_) CW ?_
           ·go_simp
           simp only [Act.put,pA,pB,pC];refine cT hCC 118 12 false (fun n hn=>?_) CW ?_
           ·go_simp
           simp only [Act.put,pA,pB,pC];refine eK bm ?_;intro w7 hb7;have D7:=chain hdr hb7;clear CW hCC hCP hdr hb7
           as_aux_lemma =>
            have E7:=chain hbr D7;replace q0:=q0.nx D7;replace q1:=q1.nx D7;replace tc:=tc.nx D7;replace td:=td.nx D7;have K2:Hid _:=K1.out.nx eU D7;clear K1 hbr D7;have x7:=q0.c 7 rfl;have z0:w7.cell? ⟨bc,oc+j,none⟩=some (.slice s1 y.length g1):=tc.2 0 _ rfl;go_wp2_with fail
            clear x7 z0;go_loopw [125] (fun i wr=>∃ k:Nat,k≤y.length∧i = .int .i64 k∧Below w7 w7 wr) (fun i _=>y.length - (RowKit.intOf i).toNat)
            case atStart=>exact ⟨0,Jc _,rfl,I8 _ _⟩
            case round =>
             obtain ⟨k,hk,rfl,hbr⟩:=hrel;by_cases hl3:k<y.length
             ·as_aux_lemma =>
               obtain ⟨bv,ov,_,rfl,tv,rfl⟩:=(K2.out.1.nx eU hbr).get hl3;obtain ⟨bu,ou,_,rfl,tu,rfl⟩:=(K2.out.2.nx eU hbr).get hl3;have hjz3:(k:Int)<(y.length:Int):=by omega
               have q0r:=q0.nx hbr;have q1r:=q1.nx hbr;have tcr:=tc.nx hbr;have tdr:=td.nx hbr;generalize y[k]=z at *;go_upto_region 23 with fail
               obtain ⟨C,hCC,hCP,hC0⟩:∃ C:World→Prop,(∀ W W':World,C W→Below W W W'→C W')∧(∀ W,C W→gB W A (hJ x.kind x a1 c1 p1 d1 p2 d2 p3 d3 (some (af bc oc)) c2 a3 c3) 57∧gB W B (hJ x.kind x b1 f1 r1 e1 r2 e2 r3 e3 (some (af bd od)) f2 b3 f3) 57∧ix W bc (oc+j) [.slice (some (af bv ov)) y.length g1]∧ix W bd (od+j) [.slice (some (af bu ou)) y.length g2]∧ix W bv (ov+k*3) [.int .i64 z.1,z.2.1,z.2.2]∧ix W bu (ou+k*3) [.int .i64 z.1,z.2.1,z.2.2])∧C wr:=⟨fun W=>gB W A (hJ x.kind x a1 c1 p1 d1 p2 d2 p3 d3 (some (af bc oc)) c2 a3 c3) 57∧gB W B (hJ x.kind x b1 f1 r1 e1 r2 e2 r3 e3 (some (af bd od)) f2 b3 f3) 57∧ix W bc (oc+j) [.slice (some (af bv ov)) y.length g1]∧ix W bd (od+j) [.slice (some (af bu ou)) y.length g2]∧ix W bv (ov+k*3) [.int .i64 z.1,z.2.1,z.2.2]∧ix W bu (ou+k*3) [.int .i64 z.1,z.2.1,z.2.2],fun W W' h hb=>⟨h.1.nx hb,h.2.1.nx hb,h.2.2.1.nx hb,h.2.2.2.1.nx hb,h.2.2.2.2.1.nx hb,h.2.2.2.2.2.nx hb⟩,fun _ h=>h,⟨q0r,q1r,tcr,tdr,tv,tu⟩⟩
               have hdr:Below wr wr wr.drew:=(I8 _ _).drew;have CW:=hCC _ _ hC0 hdr;clear hC0;refine bX C bm ?_;refine cT hCC 128 0 (af A 7) (fun n hn=>?_) CW ?_
               ·go_simp
               simp only [Act.put,pA,pB,pC];refine cT hCC 129 1 (.slice (some (af bc oc)) x.rows.length c2) (fun n hn=>?_) CW ?_
               ·have z0:=(hCP n hn).1.c 7 rfl;go_simp
               simp only [Act.put,pA,pB,pC];refine cT hCC 130 2 j (fun n hn=>?_) CW ?_
               ·go_simp
               simp only [Act.put,pA,pB,pC];refine cT hCC 131 3 (.pointer (some ⟨bc,oc+j,none⟩)) (fun n hn=>?_) CW ?_
               ·go_simp
               simp only [Act.put,pA,pB,pC];refine cT hCC 132 4 (.slice (some (af bv ov)) y.length g1) (fun n hn=>?_) CW ?_
               ·have z0:n.cell? ⟨bc,oc+j,none⟩=some (.slice (some (af bv ov)) y.length g1):=(hCP n hn).2.2.1.2 0 _ rfl;go_simp
               simp only [Act.put,pA,pB,pC];refine cT hCC 133 5 k (fun n hn=>?_) CW ?_
               ·go_simp
               simp only [Act.put,pA,pB,pC];refine cT hCC 134 6 (.pointer (some ⟨bv,ov+k*3,none⟩)) (fun n hn=>?_) CW ?_
               ·go_simp
               simp only [Act.put,pA,pB,pC];refine eA hCC (some 135) (i:=7) (v:=.agg #[z.1,z.2.1,z.2.2]) rfl rfl bm bm bm (fun _ _ _ h=>h) (dA rfl 53 _ rfl bv (ov+k*3) [.int .i64 z.1,z.2.1,z.2.2] rfl Tryz.underlying53 rfl bm (fun n hn=>(hCP n hn).2.2.2.2.1)) CW ?_;simp only [Act.put,pA,pB,pC];refine cT hCC 136 8 (af B 7) (fun n hn=>?_) CW ?_
               ·go_simp
               simp only [Act.put,pA,pB,pC];refine cT hCC 137 9 (.slice (some (af bd od)) x.rows.length f2) (fun n hn=>?_) CW ?_
               ·have z0:=(hCP n hn).2.1.c 7 rfl;go_simp
               simp only [Act.put,pA,pB,pC];refine cT hCC 138 10 j (fun n hn=>?_) CW ?_
               ·go_simp
               simp only [Act.put,pA,pB,pC];refine cT hCC 139 11 (.pointer (some ⟨bd,od+j,none⟩)) (fun n hn=>?_) CW ?_
               ·go_simp
               simp only [Act.put,pA,pB,pC];refine cT hCC 140 12 (.slice (some (af bu ou)) y.length g2) (fun n hn=>?_) CW ?_
               ·have z0:n.cell? ⟨bd,od+j,none⟩=some (.slice (some (af bu ou)) y.length g2):=(hCP n hn).2.2.2.1.2 0 _ rfl;go_simp
               simp only [Act.put,pA,pB,pC];refine cT hCC 141 13 k (fun n hn=>?_) CW ?_
               ·go_simp
               simp only [Act.put,pA,pB,pC];refine cT hCC 142 14 (.pointer (some ⟨bu,ou+k*3,none⟩)) (fun n hn=>?_) CW ?_
               ·go_simp
               simp only [Act.put,pA,pB,pC];refine eA hCC (some 143) (i:=15) (v:=.agg #[z.1,z.2.1,z.2.2]) rfl rfl bm bm bm (fun _ _ _ h=>h) (dA rfl 53 _ rfl bu (ou+k*3) [.int .i64 z.1,z.2.1,z.2.2] rfl Tryz.underlying53 rfl bm (fun n hn=>(hCP n hn).2.2.2.2.2)) CW ?_;simp only [Act.put,pA,pB,pC];refine cT hCC 144 16 false (fun n hn=>?_) CW ?_
               ·go_simp
               simp only [Act.put,pA,pB,pC];refine eK bm ?_;intro w8 hb7;have D7:=chain hdr hb7;clear CW hCC hCP hdr hb7;have F7:=chain hbr D7;clear q0r q1r tcr tdr tv tu;go_wp2_with fail
               go_roundw
               case rel=>exact ⟨k+1,by omega,by go_num,F7⟩
               case measure=>simp [RowKit.intOf]; omega
             ·as_aux_lemma =>
               have E8:=chain E7 hbr;clear E7 hbr K2 q0 q1 tc td;go_wp2_with fail
               go_roundw
               case rel=>exact ⟨j+1,by omega,by go_num,E8⟩
               case measure=>simp [RowKit.intOf]; omega
         ·as_aux_lemma =>
           have A9:=chain A8 hbr;clear A8 hbr L5e QA QB;go_wp2_with fail
           go_roundw
           case rel=>exact ⟨m+1,by omega,by go_num,A9⟩
           case measure=>simp [RowKit.intOf]; omega
  ·as_aux_lemma =>
    go_wp2_with fail
    exact fa rfl rfl ⟨fQ,hbr⟩
theorem xJ (l:List cM) (hl:nF sQ l) (a b:Option Addr) (ca cb:Nat) (w:World) (h:pI cy 16 w a b l):Calls Tryz.prog 13 #[.slice a l.length ca,.slice b l.length cb] w (Cm w):=oP l (Jj hl.1 (by decide)) hl.2 a b ca cb w h
structure SB where
 a1:Option Addr
 c1:Nat
 p1:Option Addr
 d1:Nat
 p2:Option Addr
 d2:Nat
 p3:Option Addr
 d3:Nat
 a2:Option Addr
 c2:Nat
 a3:Option Addr
 c3:Nat
abbrev CU (x:cM) (A:SB) (v:Value):Array Value:=#[x.kind,x.name,.slice A.a1 x.cF.length A.c1,.slice A.p1 x.query.parts.length A.d1,.slice A.p2 x.query.ops.length A.d2,.slice A.p3 x.query.order.length A.d3,x.query.aH,v,x.ax,x.au.k,x.au.v.1,x.au.v.2.1,x.au.v.2.2,x.au.bp,x.au.name,.slice A.a3 x.au.ks.length A.c3]
abbrev kt (x:cM) (A:SB):Array Value:=CU x A (.slice A.a2 x.rows.length A.c2)
structure ry (S:Nat→Prop) (W:World) (x:cM) (A:SB):Prop where
 l1:bf pO 2 S W A.a1 x.cF
 l2:bf eS 21 S W A.p1 x.query.parts
 l3:bf lD 1 S W A.p2 x.query.ops
 l4:bf fu 7 S W A.p3 x.query.order
 l5:bf (iB jQ 3) 1 S W A.a2 x.rows
 l6:aJ S W A.a3 x.au.ks
theorem ry.aM {S:Nat→Prop} {W W':World} {x:cM} {A:SB} (h:ry S W x A) (hk:ay S W W'):ry S W' x A:=⟨h.l1.aM iY hk,h.l2.aM b8 hk,h.l3.aM fv hk,h.l4.aM b9 hk,h.l5.aM (br eU 3) hk,h.l6.aM hk⟩
theorem ry.nx {S:Nat→Prop} {W W':World} {x:cM} {A:SB} (h:ry S W x A) (hb:Below W W W'):ry S W' x A:=h.aM (ay.of hb)
theorem ry.en {S:Nat→Prop} {W:World} {x:cM} {A:SB} (h:ry S W x A):cy S W x (kt x A).toList:=⟨A.a1,A.c1,A.p1,A.d1,A.p2,A.d2,A.p3,A.d3,A.a2,A.c2,A.a3,A.c3,rfl,h.l1,h.l2,h.l3,h.l4,h.l5,h.l6⟩
theorem ry.of {S:Nat→Prop} {W:World} {x:cM} {cs:List Value} (h:cy S W x cs):∃ A,cs=(kt x A).toList∧ry S W x A:=by
 obtain ⟨a1,c1,p1,d1,p2,d2,p3,d3,a2,c2,a3,c3,rfl,k1,k2,k3,k4,k5,k6⟩:=h;exact ⟨⟨a1,c1,p1,d1,p2,d2,p3,d3,a2,c2,a3,c3⟩,rfl,k1,k2,k3,k4,k5,k6⟩
theorem zt {W:World} {g:Nat} {T:TypeId} {c0 c1 c2 c3 c4 c5 c6 c7 c8 c9 c10 c11 c12 c13 c14 c15:Value} (h:W.heap[g]? = some (.cells #[c0,c1,c2,c3,c4,c5,c6,c7,c8,c9,c10,c11,c12,c13,c14,c15] T (0,0))) (v:Value):(W.setCell (af g 1) v).heap[g]? = some (.cells #[c0,v,c2,c3,c4,c5,c6,c7,c8,c9,c10,c11,c12,c13,c14,c15] T (0,0)):=I5 W g 1 _ _ v h
abbrev GY (k:Int):Array Value:=#[k,(),aL,aL,aL,aL,aB,aL,false,aB,aB,aB,(),(),(),aL]
abbrev sq (v:Vl):Array Value:=#[v.1,v.2.1,v.2.2]
abbrev IL:Array Value:=#[aB,aB,()]
theorem Hf:(Tryz.prog.info? 53).map (·.size)=some 3:=by kernel_rfl
structure yi (x:cM):Prop where
 kind:x.kind=1∨x.kind=2∨x.kind=3∨x.kind=4∨x.kind=5
 query:x.kind=2∨x.kind=5→zg x.query
 rows:x.kind=3→x.rows.length≤400∧∀ r ∈ x.rows,r.length≤8
 au:x.kind=4→x.ax=true→gA x.au
end Go.Proofs.YtoknmnngaackkaaGreatDoor
