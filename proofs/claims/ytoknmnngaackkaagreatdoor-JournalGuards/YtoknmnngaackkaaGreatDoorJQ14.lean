/- Together: JG4, JOC. -/
import Derived.Shelf.Lay
import Derived.Lib.LaidTab
import Derived.OpenShut
import Derived.Deep.Strs
import Derived.Stop.LaidErr
import Derived.LaidHandle
import Derived.Test.YtoknmnngaackkaaGreatDoorJQ13
import Derived.Test.YtoknmnngaackkaaGreatDoorJQ10
namespace Go.Proofs.YtoknmnngaackkaaGreatDoor
open Go.RowKit Go.Lib Go.Shelf Go.ChangeShapes Go.WideShapes Go.ChangeAt
set_option maxRecDepth 100000
set_option maxHeartbeats 16000000
theorem tU {H:Type} {enc:TypeId × Value→H} {W:World} {a:Option Addr} {n cap:Nat} {d:DataW H} {p:List MemPlace} (h:DataW.Trod enc Tryz.prog W 0 (fun _=>true) true 22 (.slice a n cap) d p):n≤cap:=by
 obtain ⟨fuel,hf⟩:=h;rcases DataW.trod_slice Tryz.underlying22 hf with ⟨hcs,_⟩ | ⟨a',len,cap',elems,rest,m,hm,hcs,hx,_,hc,_⟩
 ·simp [Value.cells] at hcs;omega
 ·simp [Value.cells] at hcs;obtain ⟨rfl,rfl,rfl⟩:=hcs;exact hc
end Go.Proofs.YtoknmnngaackkaaGreatDoor
namespace Go.Proofs
open Go.Shelf
set_option maxRecDepth 100000
set_option maxHeartbeats 16000000
shelf_lay LaysM.n155 Nm 155 at Tryz as Tryz.repM
end Go.Proofs
namespace Go.Proofs.YtoknmnngaackkaaGreatDoor
open Go.RowKit Go.Lib Go.Shelf
set_option maxRecDepth 100000
set_option maxHeartbeats 4000000
theorem Aq {W:World} {rest:List (String × DataW Unit)} (h:laidMet Tryz.prog (("tidemark/sql.signs",.agg (vx.map xJ)) :: ("tidemark/sql.infixes",.agg (xf.map tv)) :: rest) W):Gl W:=by
 obtain ⟨ps,⟨g0,t0,cs0,f0,p0,q0,hg0,ht0,hv0,hd0,⟨g1,t1,cs1,f1,p1,q1,hg1,ht1,hv1,hd1,_⟩,_⟩,_⟩:=h;have G0:Tryz.prog.globalNamed "tidemark/sql.signs" = some 0:=by kernel_rfl
 have G1:Tryz.prog.globalNamed "tidemark/sql.infixes" = some 1:=by kernel_rfl
 have T0:(Tryz.prog.globals[0]?).map (·.type)=some 189:=by kernel_rfl
 have T1:(Tryz.prog.globals[1]?).map (·.type)=some 232:=by kernel_rfl
 obtain rfl:=Du (G0.symm.trans hg0);obtain rfl:=Du (G1.symm.trans hg1);obtain rfl:=Du (T0.symm.trans ht0);obtain rfl:=Du (T1.symm.trans ht1);have s0:=nz Tryz.underlying189 Tryz.underlying9 (by kernel_rfl) (by kernel_rfl) hd0;have s1:=nB (ti:=3) (ts:=9) Tryz.underlying232 Tryz.underlying201 ⟨rfl,rfl⟩ ⟨rfl,rfl⟩ ⟨rfl,rfl⟩ Tryz.underlying3 Tryz.underlying9 (by kernel_rfl) (by kernel_rfl) (by kernel_rfl) hd1;refine ⟨?_,fun j hj=>?_,fun j hj=>?_⟩
 ·unfold World.var? at hv1;rw [G1] at hv1;simp only [Option.bind_some] at hv1;rcases DF 1 W.heap.size with h | h
  ·exact h
  ·simp [DM h] at hv1
 ·have:=World.var?_cell G1 hv1 j;rw [this];have e:=s1 j (by omega);have ea:BN.toList=xf.flatMap tH:=rfl;rw [← ea] at e
  simpa using e
 ·have:=World.var?_cell G0 hv0 j;rw [this];have e:=s0 j (by omega);have ea:BF.toList=vx.map yV:=rfl;rw [← ea] at e
  simpa using e
theorem Bd {W:World} {n1 n2 n4 n6:String} {d1 d2 d4 d5 d6:DataW Unit} {rest:List (String × DataW Unit)} (h:laidMet Tryz.prog ((n1,d1) :: (n2,d2) :: ("internal/strconv.uint64pow10",Lib.tabData .u64 Lib.pow10Tab) :: (n4,d4) :: ("strconv.ErrRange",d5) :: (n6,d6) :: ("tidemark/sql.signs",.agg (vx.map xJ)) :: ("tidemark/sql.infixes",.agg (xf.map tv)) :: rest) W) (hsh:W.ShapedOpen Tryz.prog):GP W W.heap.size:=by
 have h9:9<W.heap.size:=by
  obtain ⟨ps,⟨g0,t0,cs0,f0,p0,q0,hg0,ht0,hv0,_⟩,_⟩:=h.tail.tail.tail.tail;have G0:Tryz.prog.globalNamed "strconv.ErrRange" = some 9:=by kernel_rfl
  unfold World.var? at hv0;rw [G0] at hv0;simp only [Option.bind_some] at hv0;rcases DF 9 W.heap.size with h | h
  ·exact h
  ·simp [DM h] at hv0
 refine ⟨Aq h.tail.tail.tail.tail.tail.tail,?_,Tryz.repM.s1_3 W hsh,h9⟩;exact Lib.tabIs_of_head (g:=2) (t:=234) (by kernel_rfl) (by kernel_rfl) Tryz.underlying234 Tryz.underlying206 (by kernel_rfl) (by kernel_rfl) h.tail.tail
end Go.Proofs.YtoknmnngaackkaaGreatDoor
