import Derived.Test.YtoefpglknaiaeaaGreatProg
import Derived.Lib.SmallJoins
import Derived.OrdersHeld
import Derived.Laws.AppendOwnNone
import Derived.Laws.CopyOwn
import Derived.Deep.Cut
import Derived.Deep.RegionWith
import Derived.Shelf.Abstract
import Derived.KernelRfl
import Derived.RowKit
import Derived.Tactics
import Derived.Calls
import Derived.WalkKit
import Derived.Test.YtoefpglknaiaeaaGreatRows
import Derived.WalkSpells
import Derived.WalkLawsBesides
set_option maxHeartbeats 16000000
set_option maxRecDepth 100000
namespace Go.Proofs.YtoefpglknaiaeaaGreat
open Go.RowKit Go.Lib Go.Shelf
theorem aa (w:World) (o:Obj):Below w.heap.size w (w.alloc o):=(Below.refl _ _).alloc (Nat.le_refl _) _
theorem Mx:type_of% @Nat.le_refl:=@Nat.le_refl
theorem My:type_of% @Nat.lt_of_lt_of_le:=@Nat.lt_of_lt_of_le
theorem Mz:type_of% @Below.refl:=@Below.refl
theorem MA:type_of% @bodyPost_ret:=@bodyPost_ret
theorem MB:type_of% @frozen_of_row:=@frozen_of_row
theorem MC:type_of% @List.getElem_mem:=@List.getElem_mem
theorem MD:type_of% @Nat.zero_le:=@Nat.zero_le
theorem ME:type_of% @List.length_append:=@List.length_append
theorem MG:type_of% @Nat.zero_add:=@Nat.zero_add
theorem MH:type_of% @List.eq_nil_of_length_eq_zero:=@List.eq_nil_of_length_eq_zero
theorem MI:type_of% @List.drop_eq_getElem_cons:=@List.drop_eq_getElem_cons
theorem MJ:type_of% @List.take_succ_eq_append_getElem:=@List.take_succ_eq_append_getElem
theorem ML:type_of% @World.block_lt_of_cell?:=@World.block_lt_of_cell?
theorem MM:type_of% @List.take_length:=@List.take_length
theorem MN:type_of% @World.cell?_setCell_other:=@World.cell?_setCell_other
theorem MO:type_of% @Nat.le_trans:=@Nat.le_trans
theorem MP:type_of% @World.cell?_of_block:=@World.cell?_of_block
theorem MQ:type_of% @List.getElem?_set_ne:=@List.getElem?_set_ne
theorem MR:type_of% @List.length_take:=@List.length_take
theorem MT:type_of% @List.getElem?_append_left:=@List.getElem?_append_left
theorem MU:type_of% @List.getElem?_append_right:=@List.getElem?_append_right
theorem MV:type_of% @List.getElem_append_left:=@List.getElem_append_left
theorem MW:type_of% @List.pairwise_cons:=@List.pairwise_cons
theorem MX:type_of% @wpList_append_own:=@wpList_append_own
theorem MY:type_of% @List.mem_singleton:=@List.mem_singleton
theorem MZ:type_of% @World.size_alloc:=@World.size_alloc
theorem M0:type_of% @List.mem_cons:=@List.mem_cons
theorem M1:type_of% @List.getElem?_eq_getElem:=@List.getElem?_eq_getElem
theorem M3:type_of% @List.mem_append:=@List.mem_append
theorem M4:type_of% @World.ownsRow_nil:=@World.ownsRow_nil
theorem M5:type_of% @Nat.le_of_lt:=@Nat.le_of_lt
theorem M6:type_of% @List.setIfInBounds_toArray:=@List.setIfInBounds_toArray
theorem M7:type_of% @List.drop_eq_nil_of_le:=@List.drop_eq_nil_of_le
theorem M8:type_of% @List.append_nil:=@List.append_nil
theorem M9:type_of% @Nat.not_lt_zero:=@Nat.not_lt_zero
theorem Na:type_of% @World.frozen?_setCell:=@World.frozen?_setCell
theorem Nb:type_of% @List.length_singleton:=@List.length_singleton
theorem Nc:type_of% @List.map_append:=@List.map_append
theorem Nd:type_of% @World.ownsRow_made:=@World.ownsRow_made
theorem Nf:type_of% @Below.heap_setCell:=@Below.heap_setCell
theorem Ng:type_of% @List.length_cons:=@List.length_cons
theorem Nh:type_of% @List.append_assoc:=@List.append_assoc
theorem Ni:type_of% @List.set_cons_zero:=@List.set_cons_zero
theorem Nj:type_of% @List.set_cons_succ:=@List.set_cons_succ
theorem Nk:type_of% @Option.some.inj:=@Option.some.inj
theorem Nl:type_of% @Nat.lt_or_ge:=@Nat.lt_or_ge
theorem Nn:type_of% @List.length_filter_le:=@List.length_filter_le
theorem No:type_of% @List.getElem_of_mem:=@List.getElem_of_mem
theorem Np:type_of% @List.mem_map:=@List.mem_map
theorem Nq:type_of% @List.mem_filter:=@List.mem_filter
theorem Nr:type_of% @List.getElem?_eq_none:=@List.getElem?_eq_none
theorem Ns:type_of% @List.pairwise_iff_getElem:=@List.pairwise_iff_getElem
theorem Nt:type_of% @List.length_map:=@List.length_map
theorem Nu:type_of% @List.cons_append:=@List.cons_append
theorem Nv:type_of% @World.cell?_alloc_at:=@World.cell?_alloc_at
theorem Nw:type_of% @List.getElem_cons_zero:=@List.getElem_cons_zero
theorem Nx:type_of% @List.getElem_append_right:=@List.getElem_append_right
theorem Ny:type_of% @Array.getElem?_eq_getElem:=@Array.getElem?_eq_getElem
theorem Nz:type_of% @Array.getElem?_eq_none:=@Array.getElem?_eq_none
theorem NA:type_of% @List.foldl_cons:=@List.foldl_cons
theorem NB:type_of% @World.cell?_setCell_same:=@World.cell?_setCell_same
theorem NC:type_of% @List.getElem_map:=@List.getElem_map
theorem NF:type_of% @List.getElem_set_ne:=@List.getElem_set_ne
theorem NG:type_of% @Option.bind_eq_some_iff:=@Option.bind_eq_some_iff
theorem NH:type_of% @wp_loop_rounds:=@wp_loop_rounds
theorem NI:type_of% @List.getD_eq_getElem?_getD:=@List.getD_eq_getElem?_getD
theorem NJ:type_of% @List.getElem_cons_succ:=@List.getElem_cons_succ
theorem NK:type_of% @rounds_succ:=@rounds_succ
theorem NL:type_of% @Nat.le_succ:=@Nat.le_succ
theorem NM:type_of% @List.getElem_range:=@List.getElem_range
theorem NN:type_of% @Bool.false_eq_true:=@Bool.false_eq_true
theorem NO:type_of% @Bool.and_eq_true:=@Bool.and_eq_true
theorem NP:type_of% @Array.getElem_toList:=@Array.getElem_toList
theorem NQ:type_of% @Option.some.injEq:=@Option.some.injEq
theorem NR:type_of% @Int.tmod_eq_emod_of_nonneg:=@Int.tmod_eq_emod_of_nonneg
theorem NS:type_of% @World.cell?_setCell_same':=@World.cell?_setCell_same'
theorem NT:type_of% @List.length_drop:=@List.length_drop
theorem NU:type_of% @World.frozen?_of_block:=@World.frozen?_of_block
theorem NV:type_of% @World.frozen?_alloc_at:=@World.frozen?_alloc_at
theorem NW:type_of% @Nat.add_zero:=@Nat.add_zero
theorem NX:type_of% @World.cell?_spot:=@World.cell?_spot
theorem NY:type_of% @List.drop_length:=@List.drop_length
theorem NZ:type_of% @List.all_eq_true:=@List.all_eq_true
theorem N0:type_of% @List.getElem_concat_length:=@List.getElem_concat_length
theorem N1:type_of% @Int.tdiv_eq_ediv_of_nonneg:=@Int.tdiv_eq_ediv_of_nonneg
theorem N2:type_of% @Array.getElem?_toList:=@Array.getElem?_toList
theorem N3:type_of% @World.cells?_some:=@World.cells?_some
theorem N4:type_of% @List.pairwise_map:=@List.pairwise_map
theorem N5:type_of% @List.pairwise_append:=@List.pairwise_append
theorem N6:type_of% @List.mem_of_mem_take:=@List.mem_of_mem_take
theorem N7:type_of% @Int.mul_le_mul_of_nonneg_right:=@Int.mul_le_mul_of_nonneg_right
theorem N8:type_of% @Int.mul_le_mul_of_nonneg_left:=@Int.mul_le_mul_of_nonneg_left
theorem N9:type_of% @World.size_setCell:=@World.size_setCell
theorem Oa:type_of% @Nat.zero_mul:=@Nat.zero_mul
theorem Ob:type_of% @List.filter_append:=@List.filter_append
theorem Oc:type_of% @Array.append_empty:=@Array.append_empty
theorem Od:type_of% @List.length_nil:=@List.length_nil
theorem Oe:type_of% @List.map_cons:=@List.map_cons
theorem Og:type_of% @List.concat_eq_append:=@List.concat_eq_append
theorem Oi:type_of% @List.foldl_append:=@List.foldl_append
theorem Ol:type_of% @List.flatMap_cons:=@List.flatMap_cons
theorem Om:type_of% @List.Pairwise.nil:=@List.Pairwise.nil
instance:Coe Int Value:=⟨.int .i64⟩
instance:Coe ByteArray Value:=⟨.string⟩
instance:Coe Bool Value:=⟨.bool⟩
instance:Coe Nat Value:=⟨fun n=>.int .i64 n⟩
instance:Coe World Nat:=⟨fun w=>w.heap.size⟩
structure LJ where
def ah (_ _:Nat):LJ:=⟨⟩
instance {b o:Nat}:CoeDep LJ (ah b o) Addr:=⟨⟨b,o,none⟩⟩
instance {b o:Nat}:CoeDep LJ (ah b o) Value:=⟨.pointer (some ⟨b,o,none⟩)⟩
instance:Coe Unit Value:=⟨fun _=>.string ⟨#[]⟩⟩
structure Ml where
structure Mf where
def bX:Ml:=⟨⟩
def aD:Mf:=⟨⟩
instance:Coe Ml Value:=⟨fun _=>.slice none 0 0⟩
instance:Coe Mf Value:=⟨fun _=>.int .i64 0⟩
theorem aG {p:Prop} (h:p:=by kernel_rfl):p:=h
theorem ag {p:Prop} (h:p:=by omega):p:=h
theorem LR {p:Prop} (h:p:=by first | rfl | trivial):p:=h
theorem aN (w:World) (o:Obj):Below w.heap.size w (w.alloc o):=(Mz _ _).alloc (Mx _) _
theorem iX {w v:World} {b:Nat} {x:Obj} (h:Below w.heap.size w v) (r:w.heap[b]? = some x):v.heap[b]? = some x:=by
 rcases Nl b w.heap.size with l | l
 ·exact (h.block _ l).trans r
 ·rw [Nz l] at r;cases r
theorem pX:(∀ (a:Act) (t:Tmp) (v:Value),a.put (some t) v={a with tmps:=a.tmps.setIfInBounds t v})∧(∀ (l:List Value) (i:Nat) (a:Value),l.toArray.setIfInBounds i a=(l.set i a).toArray)∧(∀ (x:Value) (xs:List Value) (a:Value),(x::xs).set 0 a=a::xs)∧(∀ (x:Value) (xs:List Value) (i:Nat) (a:Value),(x::xs).set (i+1) a=x::xs.set i a):=⟨fun _ _ _=>rfl,fun _ _ _=>M6 ..,fun _ _ _=>rfl,fun _ _ _ _=>rfl⟩
theorem bJ {P:Program} {fn:Func} {R:Ending→World→Prop} {a:Act} {w:World} {t u:Tmp} (h:fn.results=#[.tmp t,.tmp u]) (hd:a.defers=[]) (hR:R (.returned (.tuple #[a.tmps.getD t undef,a.tmps.getD u undef])) w):bodyPost P fn R .ret a w:=MA (results_tmp2 h _ _ _) hd hR
theorem JX {P:Program} {fn:Func} {R:Ending→World→Prop} {a:Act} {w:World} {t u v:Tmp} (h:fn.results=#[.tmp t,.tmp u,.tmp v]) (hd:a.defers=[]) (hR:R (.returned (.tuple #[a.tmps.getD t undef,a.tmps.getD u undef,a.tmps.getD v undef])) w):bodyPost P fn R .ret a w:=MA (v:=.tuple #[a.tmps.getD t undef,a.tmps.getD u undef,a.tmps.getD v undef]) (by simp [results,h]) hd hR
theorem aB {p:Prop} (h:p):Hid p:=h
theorem iV (w:World) (c:Array Value) (t:TypeId):Below w.heap.size w (w.alloc (.cells c t))∧(w.alloc (.cells c t)).heap[w.heap.size]? = some (.cells c t (0,0)):=⟨(Mz _ _).alloc (Mx _) _,Array.getElem?_push_size⟩
theorem bC {P:Program} {f:FuncId} {a:Array Value} {w:World} {v:Value} {B:World→Prop} {R:Ending→World→Prop} (h:Calls P f a w fun e w'=>e=.returned v∧B w') (k:∀ w',B w'→R (.returned v) w'):Calls P f a w R:=h.mono fun _ w' p=>p.1 ▸ k w' p.2
theorem Mw {P:Program} {fn:Func} {R:Ending→World→Prop} {a:Act} {w:World} {t:Tmp} (h:fn.results=#[.tmp t]) (hd:a.defers=[]) (hR:R (.returned (a.tmps.getD t undef)) w):bodyPost P fn R .ret a w:=MA (results_tmp h _ _ _) hd hR
end Go.Proofs.YtoefpglknaiaeaaGreat
namespace Go.Proofs.YtoefpglknaiaeaaGreat
def cls (k n:Int):Option Bool:=if k=2 then (if n=1 then some true else if n=0 then some false else none) else none
def tk:Option Bool→Int | none=>1 | some _=>2
def tn:Option Bool→Int | some true=>1 | _=>0
def AV:Option Bool→Option Bool→Option Bool
 | some false,_=>some false
 | _,some false=>some false
 | some true,some true=>some true
 | _,_=>none
def Kw:Option Bool→Option Bool→Option Bool
 | some true,_=>some true
 | _,some true=>some true
 | some false,some false=>some false
 | _,_=>none
def nY:Option Bool→Option Bool
 | some b=>some (!b)
 | none=>none
theorem H7 (k n:Int):(k == 2 && n == 1)=(cls k n == some true):=by
 unfold cls;by_cases h:k=2
 ·by_cases h1:n=1
  ·simp [h,h1]
  ·by_cases h0:n=0 <;> simp [h,h1,h0]
 ·simp [h]
theorem DL (k n:Int):(k == 2 && n == 0)=(cls k n == some false):=by
 unfold cls;by_cases h:k=2
 ·by_cases h1:n=1
  ·simp [h,h1]
  ·by_cases h0:n=0 <;> simp [h,h1,h0]
 ·simp [h]
def aO (k n:Int) (s:ByteArray):Int :=
 if k=1 then 0
 else if k=2 then (if n=0∨n=1 then 0 else 3)
 else if k=3 then (if -1000000000000000≤n∧n≤1000000000000000 then 0 else 3)
 else if k=4 then (if s.size≤60 then 0 else 4)
 else 1
def jq (a b:Int):Int:=if a<b then -1 else if b<a then 1 else 0
def jg (a b:ByteArray):Int:=if Op.bytesLess a.toList b.toList then -1 else if a.toList == b.toList then 0 else 1
def cR (k n:Int) (s:ByteArray) (k' n':Int) (s':ByteArray):Int :=
 if k≠k' then jq k k' else if k=2∨k=3 then jq n n' else if k=4 then jg s s' else 0
theorem pA {α : Type} (l : List α) (i : Nat) (a : α) : l.toArray.setIfInBounds i a = (l.set i a).toArray := M6 ..
theorem pB {α : Type} {x : α} {xs : List α} {a : α} : (x :: xs).set 0 a = a :: xs := Ni ..
theorem pC {α : Type} {x : α} {xs : List α} {i : Nat} {a : α} : (x :: xs).set (i + 1) a = x :: xs.set i a := Nj ..
open Go.RowKit _root_.Go.Proofs.Tryz
theorem ma {w w1:World} {o1:Obj} (hb:Below (w.alloc o1).heap.size (w.alloc o1) w1):Below w w w1 :=
 (aN ..).trans (hb.mono (by simp))
theorem AM {w w1:World} {o1 o2:Obj} (hb:Below ((w.alloc o1).alloc o2).heap.size ((w.alloc o1).alloc o2) w1):Below w w w1 :=
 ((aN ..).alloc (by simp) _).trans (hb.mono (by simp; omega))
theorem gw {w w1:World} {o1 o2 o3:Obj} (hb:Below (((w.alloc o1).alloc o2).alloc o3).heap.size (((w.alloc o1).alloc o2).alloc o3) w1):Below w w w1 :=
 (((aN ..).alloc (by simp) _).alloc (by simp; omega) _).trans (hb.mono (by simp; omega))
theorem au {B b:Nat} {w w2:World} {x y z:Value} (h:Below B w w2) (hB:B≤b) :
  Below B w (((w2.setCell (ah b 0) x).setCell (ah b 1) y).setCell (ah b 2) z) :=
 ((h.setCell hB _).setCell hB _).setCell hB _
structure cS (W:World) (b:Nat) (x y z:Value):Prop where
 lt:b<W.heap.size
 c0:W.cell? (ah b 0)=some x
 c1:W.cell? (ah b 1)=some y
 c2:W.cell? (ah b 2)=some z
 f0:W.frozen? (ah b 0)=false
 f1:W.frozen? (ah b 1)=false
 f2:W.frozen? (ah b 2)=false
theorem cS.next {W w1:World} {b:Nat} {x y z:Value} (h:cS W b x y z) (hb:Below W W w1):cS w1 b x y z :=
 ⟨My h.lt hb.size,(hb.cell (p:=ah b 0) h.lt).trans h.c0,(hb.cell (p:=ah b 1) h.lt).trans h.c1,(hb.cell (p:=ah b 2) h.lt).trans h.c2,
  (hb.frozen (p:=ah b 0) h.lt).trans h.f0,(hb.frozen (p:=ah b 1) h.lt).trans h.f1,(hb.frozen (p:=ah b 2) h.lt).trans h.f2⟩
theorem cS.alloc {W:World} {b:Nat} {x y z:Value} (h:cS W b x y z) (o:Obj):cS (W.alloc o) b x y z :=
 h.next (aN ..)
theorem cS.new (w:World) (x y z:Value) (t:Nat):cS (w.alloc (.cells #[x,y,z] t)) w x y z :=
 ⟨by simp,by simp,by simp,by simp,by simp,by simp,by simp⟩
theorem fV {a b:Bool} (h:a=b):Ending.returned a = .returned b:=by rw [h]
theorem eI (w:World) :
  Calls prog 186 #[] w fun e w'=>e = .returned (.agg #[(1:Int),aD,()])∧Below w w w':=by
 go_enter func186,ntmps186;go_wp2
 exact MA (v:=.agg #[(1:Int),aD,()]) (by simp [results,results186,go_sem]) rfl ⟨rfl,aN ..⟩
theorem kv (w:World) :
  Calls prog 207 #[true] w fun e w'=>e = .returned (.agg #[(2:Int),(1:Int),()])∧Below w w w':=by
 go_enter func207,ntmps207;go_wp2
 exact MA (v:=.agg #[(2:Int),(1:Int),()]) (by simp [results,results207,go_sem]) rfl ⟨rfl,aN ..⟩
theorem lp (w:World) :
  Calls prog 207 #[false] w fun e w'=>e = .returned (.agg #[(2:Int),aD,()])∧Below w w w':=by
 go_enter func207,ntmps207;go_wp2
 exact MA (v:=.agg #[(2:Int),aD,()]) (by simp [results,results207,go_sem]) rfl ⟨rfl,aN ..⟩
theorem tH (b:Bool) (w:World) :
  Calls prog 207 #[b] w fun e w'=>e = .returned (.agg #[(2:Int),.int .i64 (tn (some b)),()])∧Below w w w':=by
 cases b
 ·exact lp w
 ·exact kv w
theorem kB (k n:Int) (s:ByteArray) (w:World) :
  Calls prog 171 #[.agg #[k,n,s]] w fun e w'=>e = .returned (.bool (cls k n == some true))∧Below w w w':=by
 rw [← H7];go_enter func171,ntmps171;go_wp2_with fail
 all_goals go_ret
 ·exact ⟨fV (by simp [*]),aN ..⟩
 ·exact ⟨fV (by simp [*]),aN ..⟩
theorem mo (k n:Int) (s:ByteArray) (w:World) :
  Calls prog 258 #[.agg #[k,n,s]] w fun e w'=>e = .returned (.bool (cls k n == some false))∧Below w w w':=by
 rw [← DL];go_enter func258,ntmps258;go_wp2_with fail
 all_goals go_ret
 ·exact ⟨fV (by simp [*]),aN ..⟩
 ·exact ⟨fV (by simp [*]),aN ..⟩
structure Wr (p:Prop):Prop where
 o:p
end Go.Proofs.YtoefpglknaiaeaaGreat
