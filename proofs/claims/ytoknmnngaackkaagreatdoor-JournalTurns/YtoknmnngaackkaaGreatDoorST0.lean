/- Together: Al, Plain, W1, A1, A2, A3, A4, A5, A6. -/
import Derived.Test.YtoknmnngaackkaaGreatDoorProg
import Derived.Lib.SmallJoins
import Derived.OrdersHeld
import Derived.Laws.AppendOwnNone
import Derived.Laws.CopyOwn
import Derived.Deep.Cut
import Derived.Deep.RegionWith
import Derived.Shelf.Abstract
import Derived.KernelRfl
import Derived.RowKit
import Derived.Tactics
import Derived.Calls
import Derived.WalkKit
import Derived.Test.YtoknmnngaackkaaGreatDoorRows
import Derived.WalkSpells
import Derived.WalkLawsBesides
import Derived.Laws.EntriesVeiled
namespace Go.Proofs.YtoknmnngaackkaaGreatDoor
open Go.RowKit Go.Lib Go.Shelf
theorem ab (w:World) (o:Obj):Below w.heap.size w (w.alloc o):=(Below.refl _ _).alloc (Nat.le_refl _) _
theorem I0:type_of% @frozen_of_row:=@frozen_of_row
theorem I5:type_of% @heap_setCell_same:=@heap_setCell_same
theorem I6:type_of% @Nat.le_refl:=@Nat.le_refl
theorem I7:type_of% @bodyPost_ret:=@bodyPost_ret
theorem I8:type_of% @Below.refl:=@Below.refl
theorem I9:type_of% @List.drop_eq_getElem_cons:=@List.drop_eq_getElem_cons
theorem Ja:type_of% @Nat.lt_of_lt_of_le:=@Nat.lt_of_lt_of_le
theorem Jb:type_of% @Nat.le_of_lt:=@Nat.le_of_lt
theorem Jc:type_of% @Nat.zero_le:=@Nat.zero_le
theorem Jd:type_of% @Bool.false_eq_true:=@Bool.false_eq_true
theorem Je:type_of% @List.getElem?_eq_getElem:=@List.getElem?_eq_getElem
theorem Jf:type_of% @List.length_append:=@List.length_append
theorem Jg:type_of% @List.append_assoc:=@List.append_assoc
theorem Jh:type_of% @List.drop_eq_nil_of_le:=@List.drop_eq_nil_of_le
theorem Ji:type_of% @Array.length_toList:=@Array.length_toList
theorem Jj:type_of% @Nat.le_trans:=@Nat.le_trans
theorem Jk:type_of% @List.getElem_mem:=@List.getElem_mem
theorem Jl:type_of% @Int.le_refl:=@Int.le_refl
theorem Jm:type_of% @Nat.zero_add:=@Nat.zero_add
theorem Jn:type_of% @List.mem_cons:=@List.mem_cons
theorem Jo:type_of% @List.length_cons:=@List.length_cons
theorem Jp:type_of% @World.cell?_of_block:=@World.cell?_of_block
theorem Jq:type_of% @List.nil_append:=@List.nil_append
theorem Jr:type_of% @List.length_take:=@List.length_take
theorem Js:type_of% @List.all_eq_true:=@List.all_eq_true
theorem Jt:type_of% @Option.some.inj:=@Option.some.inj
theorem Ju:type_of% @List.cons_append:=@List.cons_append
theorem Jv:type_of% @Bool.and_eq_true:=@Bool.and_eq_true
theorem Jw:type_of% @Nat.lt_or_ge:=@Nat.lt_or_ge
theorem Jx:type_of% @List.take_of_length_le:=@List.take_of_length_le
theorem Jy:type_of% @List.getElem?_eq_none:=@List.getElem?_eq_none
theorem Jz:type_of% @List.length_drop:=@List.length_drop
theorem JA:type_of% @List.mem_singleton:=@List.mem_singleton
theorem JB:type_of% @List.length_map:=@List.length_map
theorem JC:type_of% @List.take_add_one:=@List.take_add_one
theorem JD:type_of% @Below.heap_setCell:=@Below.heap_setCell
theorem JE:type_of% @List.length_eq_zero_iff:=@List.length_eq_zero_iff
theorem JF:type_of% @Array.getElem?_eq_none:=@Array.getElem?_eq_none
theorem JG:type_of% @List.mem_append:=@List.mem_append
theorem JH:type_of% @Nat.mul_le_mul_right:=@Nat.mul_le_mul_right
theorem JI:type_of% @List.map_cons:=@List.map_cons
theorem JJ:type_of% @List.drop_zero:=@List.drop_zero
theorem JK:type_of% @List.drop_of_length_le:=@List.drop_of_length_le
theorem JL:type_of% @Nat.add_zero:=@Nat.add_zero
theorem JM:type_of% @List.mem_cons_of_mem:=@List.mem_cons_of_mem
theorem JN:type_of% @List.flatMap_cons:=@List.flatMap_cons
theorem JO:type_of% @Nat.le_of_ble_eq_true:=@Nat.le_of_ble_eq_true
theorem JP:type_of% @List.map_append:=@List.map_append
theorem JQ:type_of% @List.length_nil:=@List.length_nil
theorem JR:type_of% @List.take_length:=@List.take_length
instance:Coe Int Value:=⟨.int .i64⟩
instance:Coe ByteArray Value:=⟨.string⟩
instance:Coe Bool Value:=⟨.bool⟩
instance:Coe Nat Value:=⟨fun n=>.int .i64 n⟩
instance:Coe World Nat:=⟨fun w=>w.heap.size⟩
structure Io where
def af (_ _:Nat):Io:=⟨⟩
instance {b o:Nat}:CoeDep Io (af b o) Addr:=⟨⟨b,o,none⟩⟩
instance {b o:Nat}:CoeDep Io (af b o) Value:=⟨.pointer (some ⟨b,o,none⟩)⟩
instance:Coe Unit Value:=⟨fun _=>.string ⟨#[]⟩⟩
structure ID where
structure IA where
def aL:ID:=⟨⟩
def aB:IA:=⟨⟩
instance:Coe ID Value:=⟨fun _=>.slice none 0 0⟩
instance:Coe IA Value:=⟨fun _=>.int .i64 0⟩
theorem bm {p:Prop} (h:p:=by kernel_rfl):p:=h
theorem ak {p:Prop} (h:p:=by omega):p:=h
theorem fQ {p:Prop} (h:p:=by first | rfl | trivial):p:=h
theorem bR (w:World) (o:Obj):Below w.heap.size w (w.alloc o):=(I8 _ _).alloc (I6 _) _
theorem bH {w v:World} {b:Nat} {x:Obj} (h:Below w.heap.size w v) (r:w.heap[b]? = some x):v.heap[b]? = some x:=by
 rcases Jw b w.heap.size with l | l
 ·exact (h.block _ l).trans r
 ·rw [JF l] at r;cases r
theorem ah {p:Prop} (h:p):Hid p:=h
theorem dZ (w:World) (c:Array Value) (t:TypeId):Below w.heap.size w (w.alloc (.cells c t))∧(w.alloc (.cells c t)).heap[w.heap.size]? = some (.cells c t (0,0)):=⟨(I8 _ _).alloc (I6 _) _,Array.getElem?_push_size⟩
theorem cR {P:Program} {f:FuncId} {a:Array Value} {w:World} {v:Value} {B:World→Prop} {R:Ending→World→Prop} (h:Calls P f a w fun e w'=>e=.returned v∧B w') (k:∀ w',B w'→R (.returned v) w'):Calls P f a w R:=h.mono fun _ w' p=>p.1 ▸ k w' p.2
theorem fa {P:Program} {fn:Func} {R:Ending→World→Prop} {a:Act} {w:World} {t:Tmp} (h:fn.results=#[.tmp t]) (hd:a.defers=[]) (hR:R (.returned (a.tmps.getD t undef)) w):bodyPost P fn R .ret a w:=I7 (results_tmp h _ _ _) hd hR
end Go.Proofs.YtoknmnngaackkaaGreatDoor
namespace Go.Proofs.YtoknmnngaackkaaGreatDoor
set_option maxRecDepth 100000
set_option maxHeartbeats 16000000
def cls (k n:Int):Option Bool:=if k=2 then (if n=1 then some true else if n=0 then some false else none) else none
def tn:Option Bool→Int | some true=>1 | _=>0
theorem pA {α : Type} (l : List α) (i : Nat) (a : α) : l.toArray.setIfInBounds i a = (l.set i a).toArray := List.setIfInBounds_toArray ..
theorem pB {α : Type} {x : α} {xs : List α} {a : α} : (x :: xs).set 0 a = a :: xs := List.set_cons_zero ..
theorem pC {α : Type} {x : α} {xs : List α} {i : Nat} {a : α} : (x :: xs).set (i + 1) a = x :: xs.set i a := List.set_cons_succ ..
end Go.Proofs.YtoknmnngaackkaaGreatDoor
namespace Go.Proofs.YtoknmnngaackkaaGreatDoor
open Go.RowKit
set_option maxRecDepth 100000
set_option maxHeartbeats 16000000
structure Ed (W:World) (b:Nat) (x y z:Value):Prop where
 lt:b<W.heap.size
 c0:W.cell? (af b 0)=some x
 c1:W.cell? (af b 1)=some y
 c2:W.cell? (af b 2)=some z
 f0:W.frozen? (af b 0)=false
 f1:W.frozen? (af b 1)=false
 f2:W.frozen? (af b 2)=false
theorem Ed.next {W w1:World} {b:Nat} {x y z:Value} (h:Ed W b x y z) (hb:Below W W w1):Ed w1 b x y z :=
 ⟨Ja h.lt hb.size,(hb.cell (p:=af b 0) h.lt).trans h.c0,(hb.cell (p:=af b 1) h.lt).trans h.c1,(hb.cell (p:=af b 2) h.lt).trans h.c2,
  (hb.frozen (p:=af b 0) h.lt).trans h.f0,(hb.frozen (p:=af b 1) h.lt).trans h.f1,(hb.frozen (p:=af b 2) h.lt).trans h.f2⟩
theorem Ed.alloc {W:World} {b:Nat} {x y z:Value} (h:Ed W b x y z) (o:Obj):Ed (W.alloc o) b x y z :=
 h.next (bR ..)
theorem Ed.new (w:World) (x y z:Value) (t:Nat):Ed (w.alloc (.cells #[x,y,z] t)) w x y z :=
 ⟨by simp,by simp,by simp,by simp,by simp,by simp,by simp⟩
theorem Bp (w:World) :
  Calls Tryz.prog 212 #[] w fun e w'=>e = .returned (.agg #[(1:Int),aB,()])∧Below w w w':=by
 go_enter Tryz.func212,Tryz.ntmps212;go_wp2
 exact I7 (v:=.agg #[(1:Int),aB,()]) (by simp [results,Tryz.results212,go_sem]) rfl ⟨rfl,bR ..⟩
theorem xT (w:World) :
  Calls Tryz.prog 213 #[true] w fun e w'=>e = .returned (.agg #[(2:Int),(1:Int),()])∧Below w w w':=by
 go_enter Tryz.func213,Tryz.ntmps213;go_wp2
 exact I7 (v:=.agg #[(2:Int),(1:Int),()]) (by simp [results,Tryz.results213,go_sem]) rfl ⟨rfl,bR ..⟩
theorem vM (w:World) :
  Calls Tryz.prog 213 #[false] w fun e w'=>e = .returned (.agg #[(2:Int),aB,()])∧Below w w w':=by
 go_enter Tryz.func213,Tryz.ntmps213;go_wp2
 exact I7 (v:=.agg #[(2:Int),aB,()]) (by simp [results,Tryz.results213,go_sem]) rfl ⟨rfl,bR ..⟩
end Go.Proofs.YtoknmnngaackkaaGreatDoor
namespace Go.Proofs.YtoknmnngaackkaaGreatDoor
open Go.RowKit Go.Lib Go.Shelf
set_option maxRecDepth 100000
set_option maxHeartbeats 16000000
set_option maxRecDepth 100000
set_option maxHeartbeats 4000000
def aj (t:Nat) (w w':World):Prop:=Below t w w'∧∀ k,k<w.heap.size→k≠t→w'.heap[k]? = w.heap[k]?
theorem aj.refl (t:Nat) (w:World):aj t w w:=⟨I8 _ _,fun _ _ _=>rfl⟩
theorem aj.size {t:Nat} {a b:World} (h:aj t a b):a.heap.size≤b.heap.size:=h.1.size
theorem aj.trans {t:Nat} {a b c:World} (h:aj t a b) (k:aj t b c):aj t a c :=
 ⟨h.1.trans k.1,fun i hi hn=>(k.2 i (Ja hi h.size) hn).trans (h.2 i hi hn)⟩
theorem aj.of {t:Nat} {a b:World} (h:Below a a b) (ht:t≤a.heap.size):aj t a b:=⟨h.mono ht,fun k hk _=>h.block k hk⟩
theorem aj.set {t:Nat} {a b:World} (h:aj t a b) (o:Nat) (u:Value):aj t a (b.setCell (af t o) u) :=
 ⟨h.1.setCell (I6 _) _,fun k hk hn=>by rw [heap_setCell_other _ _ _ _ (by simpa using hn)]; exact h.2 k hk hn⟩
theorem aj.aW {t:Nat} {a b:World} (h:aj t a b) (g o:Nat) (u:Value) (hg:a.heap.size≤g) (ht:t≤a.heap.size):aj t a (b.setCell (af g o) u) :=
 ⟨h.1.setCell (p:=af g o) (by show t≤g; omega) _,fun k hk hn=>by rw [heap_setCell_other _ _ _ _ (by show k≠g; omega)]; exact h.2 k hk hn⟩
theorem aj.cell {t:Nat} {a b:World} (h:aj t a b) {p:Addr} (hp:p.block<a.heap.size) (hn:p.block≠t):b.cell? p=a.cell? p:=Jp (h.2 _ hp hn)
theorem cell_of {W:World} {b:Nat} {xs:Array Value} {T:TypeId} {i:Nat} {v:Value} (h:W.heap[b]? = some (.cells xs T (0,0))) (hv:xs[i]? = some v):W.cell? (af b i)=some v:=by
 simp [World.cell?,h,hv]
theorem aD (W:World) (xs:Array Value) (T:TypeId):(W.alloc (.cells xs T)).heap[W.heap.size]? = some (.cells xs T (0,0)):=by
 show (W.heap.push (.cells xs T (0,0)))[W.heap.size]? = _;exact Array.getElem?_push_size
theorem chain {w a b:World} (h:Below w w a) (k:Below a a b):Below w w b:=h.trans (k.mono h.size)
abbrev Tk:Type:=Int × ByteArray × Int
structure oT (W:World) (b off:Nat) (l:List Tk):Prop where
 lt:b<W.heap.size
 c0:∀ i (h:i<l.length),W.cell? ⟨b,off+i*3,none⟩=some (.int .i64 l[i].1)
 c1:∀ i (h:i<l.length),W.cell? ⟨b,off+i*3+1,none⟩=some (.string l[i].2.1)
 c2:∀ i (h:i<l.length),W.cell? ⟨b,off+i*3+2,none⟩=some (.int .i64 l[i].2.2)
theorem oT.kF {W w1:World} {t b off:Nat} {l:List Tk} (h:oT W b off l) (hb:aj t W w1) (hn:b≠t):oT w1 b off l :=
 ⟨Ja h.lt hb.size,fun i hi=>(hb.cell (p:=⟨b,_,none⟩) h.lt hn).trans (h.c0 i hi),fun i hi=>(hb.cell (p:=⟨b,_,none⟩) h.lt hn).trans (h.c1 i hi),fun i hi=>(hb.cell (p:=⟨b,_,none⟩) h.lt hn).trans (h.c2 i hi)⟩
theorem oT.next {W w1:World} {b off:Nat} {l:List Tk} (h:oT W b off l) (hb:Below W W w1):oT w1 b off l :=
 h.kF (.of hb (I6 _)) (Nat.ne_of_lt h.lt)
theorem oT.tail {W:World} {b off:Nat} {t:Tk} {l:List Tk} (h:oT W b off (t :: l)):oT W b (off+3) l :=
 ⟨h.lt,fun i hi=>by have:=h.c0 (i+1) (by simpa using hi); rw [show off+(i+1)*3=off+3+i*3 by omega] at this; simpa using this,
  fun i hi=>by have:=h.c1 (i+1) (by simpa using hi); rw [show off+(i+1)*3=off+3+i*3 by omega] at this; simpa using this,
  fun i hi=>by have:=h.c2 (i+1) (by simpa using hi); rw [show off+(i+1)*3=off+3+i*3 by omega] at this; simpa using this⟩
def Dl (t:Tk):Prop:=t.2.1.size≤4000∧(t.1=2→1≤t.2.1.size∧t.2.1.size≤16∧∀ c ∈ t.2.1.data.toList,48≤c.toNat∧c.toNat≤57)
inductive lP:List Tk→Prop
 | last (a:Int):lP [(5,⟨#[]⟩,a)]
 | cons (t:Tk) (r:List Tk):t.1≠5→Dl t→lP r→lP (t :: r)
theorem lP.ok {t:Tk} {r:List Tk} (h:lP (t :: r)):Dl t:=by
 cases h with
 | last a=>exact ⟨by show (0:Nat)≤4000; omega,fun h=>by cases h⟩
 | cons _ _ _ h1 _=>exact h1
def FQ:Array Value:=#[.int .i64 5,.string ⟨#[111,114]⟩,.int .i64 1,.int .i64 4,.string ⟨#[97,110,100]⟩,.int .i64 2,.int .i64 6,.string ⟨#[61]⟩,.int .i64 4,.int .i64 7,.string ⟨#[60,62]⟩,.int .i64 4,.int .i64 8,.string ⟨#[60]⟩,.int .i64 4,.int .i64 9,.string ⟨#[60,61]⟩,.int .i64 4,.int .i64 10,.string ⟨#[62]⟩,.int .i64 4,.int .i64 11,.string ⟨#[62,61]⟩,.int .i64 4,.int .i64 12,.string ⟨#[43]⟩,.int .i64 5,.int .i64 13,.string ⟨#[45]⟩,.int .i64 5,.int .i64 14,.string ⟨#[42]⟩,.int .i64 6,.int .i64 15,.string ⟨#[124,124]⟩,.int .i64 7]
def GG:Array Value:=#[.string ⟨#[60,62]⟩,.string ⟨#[60,61]⟩,.string ⟨#[62,61]⟩,.string ⟨#[124,124]⟩,.string ⟨#[60]⟩,.string ⟨#[62]⟩,.string ⟨#[61]⟩,.string ⟨#[43]⟩,.string ⟨#[45]⟩,.string ⟨#[42]⟩,.string ⟨#[40]⟩,.string ⟨#[41]⟩,.string ⟨#[44]⟩,.string ⟨#[46]⟩,.string ⟨#[59]⟩]
structure Gl (W:World):Prop where
 lt:1<W.heap.size
 inf:∀ j,j<36→W.cell? ⟨1,j,none⟩=FQ[j]?
 sig:∀ j,j<15→W.cell? ⟨0,j,none⟩=GG[j]?
theorem Gl.kF {t:Nat} {W w1:World} (h:Gl W) (hb:aj t W w1) (ht:1<t):Gl w1 :=
 ⟨Ja h.lt hb.size,fun j hj=>(hb.cell (p:=⟨1,j,none⟩) h.lt (by show 1≠t; omega)).trans (h.inf j hj),fun j hj=>(hb.cell (p:=⟨0,j,none⟩) (by show 0<_; have:=h.lt; omega) (by show 0≠t; omega)).trans (h.sig j hj)⟩
theorem Gl.next {W w1:World} (h:Gl W) (hb:Below W W w1):Gl w1:=h.kF (.of hb (I6 _)) h.lt
structure aR (W:World) (R tb:Nat) (ts:List Tk) (o:Int):Prop where
 ex:∃ off cap,W.heap[R]? = some (.cells #[.slice (some (af tb off)) ts.length cap,o] 121 (0,0))∧ts.length≤cap∧oT W tb off ts
 ne:tb≠R
 iU:lP ts
 small:ts.length≤4001
 gl:Gl W
 r2:1<R
theorem lt_of_heap {W:World} {b:Nat} {x:Obj} (h:W.heap[b]? = some x):b<W.heap.size:=by
 rcases Jw b W with h1 | h1
 ·exact h1
 ·rw [JF h1] at h; cases h
theorem aR.lt {W:World} {R tb:Nat} {ts:List Tk} {o:Int} (h:aR W R tb ts o):R<W.heap.size:=by
 obtain ⟨_,_,h,_⟩:=h.ex;exact lt_of_heap h
theorem aR.next {W w1:World} {R tb:Nat} {ts:List Tk} {o:Int} (h:aR W R tb ts o) (hb:Below W W w1):aR w1 R tb ts o:=by
 obtain ⟨off,cap,h1,h2,h3⟩:=h.ex;exact ⟨⟨off,cap,(hb.block _ (lt_of_heap h1)).trans h1,h2,h3.next hb⟩,h.ne,h.iU,h.small,h.gl.next hb,h.r2⟩
def aC:List Tk→List Tk
 | []=>[]
 | t :: r=>if t.1=5 then t :: r else r
theorem lP.pass {l:List Tk} (h:lP l):lP (aC l):=by
 cases h with
 | last a=>exact .last a
 | cons t r h1 _ h2=>rw [aC,if_neg h1]; exact h2
theorem lP.ne {l:List Tk} (h:lP l):∃ t r,l=t :: r:=by
 cases h with
 | last a=>exact ⟨_,_,rfl⟩
 | cons t r h1 _ h2=>exact ⟨_,_,rfl⟩
def ie (e a:Int):PanicEntry:={ v:=.iface 115 (.agg #[e,a]),recovered:=false }
theorem fg (e a:Int) (w:World):Calls Tryz.prog 65 #[e,a] w fun x w'=>x = .returned (.agg #[e,a])∧Below w w w':=by
 go_enter Tryz.func65,Tryz.ntmps65;go_wp2_with fail
 exact I7 (v:=.agg #[e,a]) (by simp [results,Tryz.results65,go_sem]) rfl ⟨rfl,bR ..⟩
theorem j8 {w:World} {R tb:Nat} {t:Tk} {r:List Tk} {o:Int} (h:aR w R tb (t :: r) o):Calls Tryz.prog 98 #[af R 0] w fun x w'=>x = .returned (.agg #[t.1,t.2.1,t.2.2])∧Below w w w':=by
 obtain ⟨off,cap,h1,h2,h3⟩:=h.ex;have a0:=cell_of (i:=0) h1 rfl;have b0:=h3.c0 0 (by simp);have b1:=h3.c1 0 (by simp);have b2:=h3.c2 0 (by simp);simp only [List.getElem_cons_zero,Nat.zero_mul,JL] at b0 b1 b2;have hR:=lt_of_heap h1;have hT:=h3.lt;have hl:(0:Int)<((t :: r).length:Int):=by simp
 go_enter Tryz.func98,Tryz.ntmps98;go_wp2_with fail
 exact I7 (v:=.agg #[t.1,t.2.1,t.2.2]) (by simp [results,Tryz.results98,go_sem]) rfl ⟨rfl,bR ..⟩
theorem AS (a b:Value) (n:Int) (w:World):(Instr.field 152 (.agg #[a,b,n]) 2).run Tryz.prog w = .ok n w:=by kernel_rfl
theorem nP (a c:Value) (b:ByteArray) (w:World):(Instr.field 152 (.agg #[a,b,c]) 1).run Tryz.prog w = .ok b w:=by kernel_rfl
theorem eL (b c:Value) (n:Int) (w:World):(Instr.field 152 (.agg #[n,b,c]) 0).run Tryz.prog w = .ok n w:=by kernel_rfl
theorem fj {w:World} {R tb:Nat} {t:Tk} {r:List Tk} {o:Int} (h:aR w R tb (t :: r) o) (e:Int):Calls Tryz.prog 128 #[af R 0,e] w fun x w'=>x = .returned (.agg #[e,t.2.2])∧Below w w w':=by
 obtain ⟨hal,hn⟩:=dZ w #[aB,aB] 115;have con:=j8 (h.next hal);go_enter Tryz.func128,Tryz.ntmps128;go_wp2_with fail
 generalize w.alloc _=w1 at *;refine con.mono ?_;rintro x w2 ⟨rfl,hb2⟩;have con2:=fg e t.2.2 w2;have hfl:=AS t.1 t.2.1 t.2.2 w2;go_wp2_with fail
 refine con2.mono ?_;rintro x w3 ⟨rfl,hb3⟩;have hb:=chain hb2 hb3;have q:=bH hb hn;have c0:=cell_of (i:=0) q rfl;have c1:=cell_of (i:=1) q rfl;have f0:=I0 w3 w 0 _ _ q;have f1:=I0 w3 w 1 _ _ q;go_wp2_with fail
 exact I7 (v:=.agg #[e,t.2.2]) (by simp [results,Tryz.results128,go_sem,c0,c1]) rfl ⟨rfl,((chain hal hb).setCell (I6 _) _).setCell (I6 _) _⟩
theorem aR.FR {w:World} {R tb:Nat} {t:Tk} {r:List Tk} {o:Int} (h:aR w R tb (t :: r) o):t.1=5∧r = []∨t.1≠5∧lP r:=by
 have:=h.iU;cases this with
 | last a=>exact .inl ⟨rfl,rfl⟩
 | cons _ _ h1 _ h2=>exact .inr ⟨h1,h2⟩
theorem mw {w:World} {R tb:Nat} {t:Tk} {r:List Tk} {o:Int} (h:aR w R tb (t :: r) o):Calls Tryz.prog 154 #[af R 0] w fun x w'=>x = .returned (.agg #[t.1,t.2.1,t.2.2])∧aR w' R tb (aC (t :: r)) o∧aj R w w':=by
 obtain ⟨off,cap,h1,h2,h3⟩:=h.ex;have a0:=cell_of (i:=0) h1 rfl;have f0:=I0 w R 0 _ _ h1;have b0:=h3.c0 0 (by simp);have b1:=h3.c1 0 (by simp);have b2:=h3.c2 0 (by simp);simp only [List.getElem_cons_zero,Nat.zero_mul,JL] at b0 b1 b2;have hR:=lt_of_heap h1;have hT:=h3.lt;have hl:(0:Int)<((t :: r).length:Int):=by simp
 have HS:=h.FR;rcases HS with ⟨e5,rfl⟩ | ⟨e5,hr⟩
 ·have b5:(t.1 != 5)=false:=by simpa using e5
  go_enter Tryz.func154,Tryz.ntmps154;go_wp2_with fail
  have hb:Below w w ((w.alloc (.cells #[(5:Int),t.2.1,t.2.2] 152)).alloc (.cells #[(5:Int),t.2.1,t.2.2] 152)):=(bR ..).alloc (by simp) _;refine I7 (v:=.agg #[t.1,t.2.1,t.2.2]) (by simp [results,Tryz.results154,go_sem,e5]) rfl ⟨rfl,?_,.of hb ak⟩;rw [aC,if_pos e5];exact h.next hb
 ·have b5:(t.1 != 5)=true:=by simpa using e5
  have hne:r ≠ []:=by obtain ⟨_,_,rfl⟩:=hr.ne; simp
  have hcap:¬ cap=1:=by
   have:0<r.length:=List.length_pos_iff.2 hne;simp at h2;omega
  have HR:=ah h;clear h;go_enter Tryz.func154,Tryz.ntmps154;go_wp2_with fail
  have H1:=I5 w R 0 _ _ (.slice (some ⟨tb,off+3,none⟩) r.length (cap - 1)) h1;have hb:aj R w (w.setCell (af R 0) (.slice (some ⟨tb,off+3,none⟩) r.length (cap - 1))):=(aj.refl _ _).set _ _;have hz:(w.setCell (af R 0) (.slice (some ⟨tb,off+3,none⟩) r.length (cap - 1))).heap.size=w.heap.size:=World.size_setCell ..;generalize w.setCell _ _=w1 at *
  have hb2:Below w1 w1 ((w1.alloc (.cells #[t.1,t.2.1,t.2.2] 152)).alloc (.cells #[t.1,t.2.1,t.2.2] 152)):=(bR ..).alloc (by simp) _;have hR1:aR w1 R tb r o:=⟨⟨off+3,cap - 1,H1,by simp at h2; omega,(h3.kF hb HR.out.ne).tail⟩,HR.out.ne,hr,by have:=HR.out.small; simp at this; omega,HR.out.gl.kF hb HR.out.r2,HR.out.r2⟩
  refine I7 (v:=.agg #[t.1,t.2.1,t.2.2]) (by simp [results,Tryz.results154,go_sem,hz]) rfl ⟨rfl,?_,hb.trans (.of hb2 ak)⟩;rw [aC,if_neg e5];exact hR1.next hb2
end Go.Proofs.YtoknmnngaackkaaGreatDoor
namespace Go.Proofs.YtoknmnngaackkaaGreatDoor
set_option maxRecDepth 100000
set_option maxHeartbeats 16000000
abbrev Vl:Type:=Int × Int × ByteArray
inductive SX where
 | mk (k:Int) (v:Vl) (bp name:ByteArray) (ks:List SX)
namespace SX
set_option maxRecDepth 100000
set_option maxHeartbeats 16000000
def k:SX→Int | .mk k _ _ _ _=>k
def v:SX→Vl | .mk _ v _ _ _=>v
def bp:SX→ByteArray | .mk _ _ t _ _=>t
def name:SX→ByteArray | .mk _ _ _ n _=>n
def ks:SX→List SX | .mk _ _ _ _ ks=>ks
end SX
abbrev eB:ByteArray:=⟨#[]⟩
abbrev v0:Vl:=(0,0,eB)
def dM:SX:=.mk 0 v0 eB eB []
def nd (k:Int) (l:List SX):SX:=.mk k v0 eB eB l
abbrev kx:Type:=SX × ByteArray
structure Src where
 kind:Int
 name:ByteArray
 alias:ByteArray
 on:SX
abbrev kj (x:Src) (a:Option Addr) (c:Nat):Array Value:=#[x.kind,x.name,x.alias,x.on.k,x.on.v.1,x.on.v.2.1,x.on.v.2.2,x.on.bp,x.on.name,.slice a x.on.ks.length c]
structure dO where
 distinct:Bool
 star:Bool
 items:List kx
 sources:List Src
 ax:Bool
 aG:Bool
 au:SX
 az:SX
 group:List SX
abbrev iE (x:dO) (a1 a2 a3 a4 a5:Option Addr) (c1 c2 c3 c4 c5:Nat):Array Value:=#[x.distinct,x.star,.slice a1 x.items.length c1,.slice a2 x.sources.length c2,x.ax,x.aG,x.au.k,x.au.v.1,x.au.v.2.1,x.au.v.2.2,x.au.bp,x.au.name,.slice a3 x.au.ks.length c3,x.az.k,x.az.v.1,x.az.v.2.1,x.az.v.2.2,x.az.bp,x.az.name,.slice a4 x.az.ks.length c4,.slice a5 x.group.length c5]
structure kf where
 parts:List dO
 ops:List Int
 order:List SX
 aH:Int
def iz:kf:=⟨[],[],[],0⟩
abbrev tG:Type:=ByteArray × Int
structure cM where
 kind:Int
 name:ByteArray
 cF:List tG
 query:kf
 rows:List (List Vl)
 ax:Bool
 au:SX
abbrev hJ (k:Int) (x:cM) (a1:Option Addr) (c1:Nat) (p1:Option Addr) (d1:Nat) (p2:Option Addr) (d2:Nat) (p3:Option Addr) (d3:Nat) (a2:Option Addr) (c2:Nat) (a3:Option Addr) (c3:Nat):Array Value:=#[k,x.name,.slice a1 x.cF.length c1,.slice p1 x.query.parts.length d1,.slice p2 x.query.ops.length d2,.slice p3 x.query.order.length d3,x.query.aH,.slice a2 x.rows.length c2,x.ax,x.au.k,x.au.v.1,x.au.v.2.1,x.au.v.2.2,x.au.bp,x.au.name,.slice a3 x.au.ks.length c3]
abbrev Er:Type:=Int × Int
abbrev PR (α:Type):Type:=Except Er (α × List Tk)
def cg:List Tk→Tk
 | []=>(5,eB,0)
 | t :: _=>t
def bK (s:ByteArray) (ts:List Tk):Bool:=((cg ts).1 == 1 || (cg ts).1 == 4) && ((cg ts).2.1.toList == s.toList)
def iI (ts:List Tk):Int:=(cg ts).2.2
def aK {α β:Type} (r:PR α) (k:α→List Tk→PR β):PR β :=
 match r with
 | .error e=>.error e
 | .ok (x,ts)=>k x ts
theorem bP {α β:Type} {r:PR α} {x:α} {ts:List Tk} (k:α→List Tk→PR β) (h:r = .ok (x,ts)):aK r k=k x ts:=by rw [h]; rfl
def aV:List ByteArray→List Tk→PR Unit
 | [],ts=>.ok ((),ts)
 | s :: l,ts=>if bK s ts then aV l (aC ts) else .error (2,iI ts)
def iO (c:Int):Bool:=decide (97≤c) && decide (c≤122) || c == 95
def gp (c:Int):Bool:=decide (48≤c) && decide (c≤57)
def eW (c:Int):Bool:=c == 32 || c == 9 || c == 10
def ig (c:Int):Bool:=iO c || gp c
def nb (s:ByteArray):List Int:=s.data.toList.map fun c=>(c.toNat:Int)
def fk (f:Int→Bool):List Int→Nat
 | []=>0
 | c :: r=>if f c then fk f r+1 else 0
def wU:List (List UInt8):=[[99,114,101,97,116,101],[116,97,98,108,101],[118,105,101,119],[97,115],[105,110,115,101,114,116],[105,110,116,111],[118,97,108,117,101,115],[100,101,108,101,116,101],[102,114,111,109],[119,104,101,114,101],[115,104,111,119],[115,101,108,101,99,116],[100,105,115,116,105,110,99,116],[103,114,111,117,112],[98,121],[104,97,118,105,110,103],[117,110,105,111,110],[97,108,108],[101,120,99,101,112,116],[111,114,100,101,114],[108,105,109,105,116],[106,111,105,110],[108,101,102,116],[115,101,109,105],[97,110,116,105],[111,110],[97,110,100],[111,114],[110,111,116],[105,115],[110,117,108,108],[116,114,117,101],[102,97,108,115,101],[99,97,115,101],[119,104,101,110],[116,104,101,110],[101,108,115,101],[101,110,100],[99,111,97,108,101,115,99,101],[99,111,117,110,116],[115,117,109],[109,105,110],[109,97,120],[105,110,116],[116,101,120,116],[98,111,111,108]]
def ny (s:ByteArray):Bool:=wU.any fun k=>s.toList == k
def dF (s:ByteArray):Bool:=decide (1≤s.size) && decide (s.size≤12) && iO ((nb s).getD 0 0) && (nb s).all ig && !ny s
def dt (ts:List Tk):PR ByteArray :=
 if (cg ts).1≠1 then .error (2,iI ts) else if dF (cg ts).2.1=false then .error (7,iI ts) else .ok ((cg ts).2.1,aC ts)
def eH (ts:List Tk):PR ByteArray:=if bK ⟨#[97,115]⟩ ts then dt (aC ts) else .ok (eB,ts)
def bS (s:ByteArray):Int:=(nb s).foldl (fun n c=>n*10+(c - 48)) 0
def dv (least most:Int) (ts:List Tk):PR Int :=
 let sg:=bK ⟨#[45]⟩ ts
 let ts1:=if sg then aC ts else ts
 if (cg ts1).1≠2 then .error (2,iI ts1)
 else
  let n:=bS (cg ts1).2.1
  let m:=if sg then -n else n
  if m<least∨most<m then .error (3,iI ts) else .ok (m,aC ts1)
def dG (ts:List Tk):Bool:=(cg ts).1 == 2 || (cg ts).1 == 3 || bK ⟨#[45]⟩ ts || bK ⟨#[110,117,108,108]⟩ ts || bK ⟨#[116,114,117,101]⟩ ts || bK ⟨#[102,97,108,115,101]⟩ ts
def cY (ts:List Tk):PR Vl :=
 if (cg ts).1=3 then .ok ((4,0,(cg ts).2.1),aC ts)
 else if bK ⟨#[110,117,108,108]⟩ ts then .ok ((1,0,eB),aC ts)
 else if bK ⟨#[116,114,117,101]⟩ ts then .ok ((2,1,eB),aC ts)
 else if bK ⟨#[102,97,108,115,101]⟩ ts then .ok ((2,0,eB),aC ts)
 else aK (dv (-1000000000000000) 1000000000000000 ts) fun n r=>.ok ((3,n,eB),r)
def dV:List (Int × ByteArray × Int):=[(5,⟨#[111,114]⟩,1),(4,⟨#[97,110,100]⟩,2),(6,⟨#[61]⟩,4),(7,⟨#[60,62]⟩,4),(8,⟨#[60]⟩,4),(9,⟨#[60,61]⟩,4),(10,⟨#[62]⟩,4),(11,⟨#[62,61]⟩,4),(12,⟨#[43]⟩,5),(13,⟨#[45]⟩,5),(14,⟨#[42]⟩,6),(15,⟨#[124,124]⟩,7)]
def dP (lvl:Int) (ts:List Tk):List (Int × ByteArray × Int)→Int × List Tk
 | []=>(0,ts)
 | i :: r=>if i.2.2=lvl∧bK i.2.1 ts=true then (i.1,aC ts) else dP lvl ts r
def cC (lvl:Int) (ts:List Tk):Int × List Tk:=dP lvl ts dV
def fF (x:SX) (ts:List Tk):PR SX :=
 aK (aV [⟨#[110,117,108,108]⟩] (if bK ⟨#[110,111,116]⟩ ts then aC ts else ts)) fun _ r=>.ok (if bK ⟨#[110,111,116]⟩ ts then nd 3 [nd 16 [x]] else nd 16 [x],r)
def dD (ts:List Tk):PR SX :=
 aK (dt ts) fun n r=>if bK ⟨#[46]⟩ r then aK (dt (aC r)) fun m r2=>.ok (.mk 2 v0 n m [],r2) else .ok (.mk 2 v0 eB n [],r)
abbrev eG {α:Type}:PR α:=.error (-1,0)
mutual
def dy:Nat→Int→List Tk→PR SX
 | 0,_,_=>eG
 | n+1,o,ts=>if o+1 > 100 then .error (4,iI ts) else cd n 1 (o+1) ts
def dj:Nat→Int→Int→List Tk→PR SX
 | 0,_,_,_=>eG
 | n+1,lvl,o,ts=>if lvl=3 then cJ n o ts else if lvl=8 then cI n o ts else cd n lvl o ts
def cd:Nat→Int→Int→List Tk→PR SX
 | 0,_,_,_=>eG
 | n+1,lvl,o,ts=>aK (dj n (lvl+1) o ts) fun x r=>fI n lvl o x r
def fI:Nat→Int→Int→SX→List Tk→PR SX
 | 0,_,_,_,_=>eG
 | n+1,lvl,o,x,ts=>if (cC lvl ts).1=0 then .ok (x,ts) else aK (dj n (lvl+1) o (cC lvl ts).2) fun y r=>fI n lvl o (nd (cC lvl ts).1 [x,y]) r
def cJ:Nat→Int→List Tk→PR SX
 | 0,_,_=>eG
 | n+1,o,ts=>if bK ⟨#[110,111,116]⟩ ts then aK (if o+1 > 100 then .error (4,iI (aC ts)) else cJ n (o+1) (aC ts)) fun x r=>.ok (nd 3 [x],r) else b7 n o ts
def b7:Nat→Int→List Tk→PR SX
 | 0,_,_=>eG
 | n+1,o,ts=>aK (cd n 5 o ts) fun x r=>if bK ⟨#[105,115]⟩ r then fF x (aC r) else if (cC 4 r).1=0 then .ok (x,r) else aK (cd n 5 o (cC 4 r).2) fun y r2=>.ok (nd (cC 4 r).1 [x,y],r2)
def cI:Nat→Int→List Tk→PR SX
 | 0,_,_=>eG
 | n+1,o,ts =>
  if dG ts then aK (cY ts) fun v r=>.ok (.mk 1 v eB eB [],r)
  else if bK ⟨#[40]⟩ ts then aK (dy n o (aC ts)) fun x r=>aK (aV [⟨#[41]⟩] r) fun _ r2=>.ok (x,r2)
  else if bK ⟨#[99,97,115,101]⟩ ts then aK (cB n o [⟨#[119,104,101,110]⟩,⟨#[116,104,101,110]⟩,⟨#[101,108,115,101]⟩,⟨#[101,110,100]⟩] (aC ts)) fun l r=>.ok (nd 17 l,r)
  else if bK ⟨#[99,111,97,108,101,115,99,101]⟩ ts then aK (cB n o [⟨#[40]⟩,⟨#[44]⟩,⟨#[41]⟩] (aC ts)) fun l r=>.ok (nd 18 l,r)
  else if bK ⟨#[99,111,117,110,116]⟩ ts then ia n 20 o (aC ts)
  else if bK ⟨#[115,117,109]⟩ ts then ia n 21 o (aC ts)
  else if bK ⟨#[109,105,110]⟩ ts then ia n 22 o (aC ts)
  else if bK ⟨#[109,97,120]⟩ ts then ia n 23 o (aC ts)
  else dD ts
def cB:Nat→Int→List ByteArray→List Tk→PR (List SX)
 | 0,_,_,_=>eG
 | _+1,_,[],_=>eG
 | n+1,o,s :: l,ts=>aK (aV [s] ts) fun _ r=>dk n o l [] r
def dk:Nat→Int→List ByteArray→List SX→List Tk→PR (List SX)
 | 0,_,_,_,_=>eG
 | _+1,_,[],acc,ts=>.ok (acc,ts)
 | n+1,o,s :: l,acc,ts=>aK (dy n o ts) fun x r=>aK (aV [s] r) fun _ r2=>dk n o l (acc ++ [x]) r2
def ia:Nat→Int→Int→List Tk→PR SX
 | 0,_,_,_=>eG
 | n+1,kind,o,ts=>aK (aV [⟨#[40]⟩] ts) fun _ r=>if kind=20∧bK ⟨#[42]⟩ r=true then aK (aV [⟨#[41]⟩] (aC r)) fun _ r2=>.ok (nd 19 [],r2)
   else aK (dy n o r) fun x r2=>aK (aV [⟨#[41]⟩] r2) fun _ r3=>.ok (nd kind [x],r3)
end
def bL {α:Type} (one:List Tk→PR α) (most:Int):Nat→List α→List Tk→PR (List α)
 | 0,_,_=>eG
 | n+1,acc,ts=>if bK ⟨#[44]⟩ ts then (if (acc.length:Int) ≥ most then .error (5,iI (aC ts)) else aK (one (aC ts)) fun x r=>bL one most n (acc ++ [x]) r)
  else .ok (acc,ts)
def cu {α:Type} (one:List Tk→PR α) (most:Int) (n:Nat) (ts:List Tk):PR (List α) :=
 aK (one ts) fun x r=>bL one most n [x] r
def DZ:Nat:=100000
def eP (ts:List Tk):PR SX:=dy DZ 0 ts
def dE (ts:List Tk):PR Int :=
 if bK ⟨#[98,111,111,108]⟩ ts then .ok (2,aC ts) else if bK ⟨#[105,110,116]⟩ ts then .ok (3,aC ts) else if bK ⟨#[116,101,120,116]⟩ ts then .ok (4,aC ts) else .error (2,iI ts)
def eD (ts:List Tk):PR tG:=aK (dt ts) fun n r=>aK (dE r) fun t r2=>.ok ((n,t),r2)
def jJ (ts:List Tk):PR (List Vl) :=
 aK (aV [⟨#[40]⟩] ts) fun _ r=>aK (cu cY 8 9 r) fun l r2=>aK (aV [⟨#[41]⟩] r2) fun _ r3=>.ok (l,r3)
def bO (s:ByteArray) (ts:List Tk):PR (Bool × SX) :=
 if bK s ts then aK (eP (aC ts)) fun x r=>.ok ((true,x),r) else .ok ((false,dM),ts)
def gH (ts:List Tk):PR kx:=aK (eP ts) fun x r=>aK (eH r) fun s r2=>.ok ((x,s),r2)
def fC (kind:Int) (ts:List Tk):PR Src:=aK (dt ts) fun n r=>aK (eH r) fun s r2=>.ok (⟨kind,n,s,dM⟩,r2)
def dQ (ts:List Tk):PR Int :=
 if bK ⟨#[106,111,105,110]⟩ ts then .ok (2,aC ts)
 else if bK ⟨#[115,101,109,105]⟩ ts then aK (aV [⟨#[106,111,105,110]⟩] (aC ts)) fun _ r=>.ok (3,r)
 else if bK ⟨#[97,110,116,105]⟩ ts then aK (aV [⟨#[106,111,105,110]⟩] (aC ts)) fun _ r=>.ok (4,r)
 else if bK ⟨#[108,101,102,116]⟩ ts then aK (aV [⟨#[106,111,105,110]⟩] (aC ts)) fun _ r=>.ok (5,r)
 else .ok (0,ts)
def cz:Nat→List Src→List Tk→PR (List Src)
 | 0,_,_=>eG
 | n+1,acc,ts=>aK (dQ ts) fun kind r=>if kind=0 then .ok (acc,r) else if (acc.length:Int) ≥ 4 then .error (5,iI r) else
   aK (fC kind r) fun s r2=>aK (aV [⟨#[111,110]⟩] r2) fun _ r3=>aK (eP r3) fun x r4=>cz n (acc ++ [{ s with on:=x }]) r4
def ez (ts:List Tk):PR (List Src):=aK (fC 1 ts) fun s r=>cz 5 [s] r
def gV (ts:List Tk):PR (List SX) :=
 if bK ⟨#[103,114,111,117,112]⟩ ts then aK (aV [⟨#[98,121]⟩] (aC ts)) fun _ r=>cu eP 8 9 r else .ok ([],ts)
def gU (st:Bool) (ts:List Tk):PR (List kx):=if st then .ok ([],ts) else cu gH 8 9 ts
def db (ts:List Tk):PR dO :=
 aK (aV [⟨#[115,101,108,101,99,116]⟩] ts) fun _ r0 =>
  let di:=bK ⟨#[100,105,115,116,105,110,99,116]⟩ r0
  let r1:=if di then aC r0 else r0
  let st:=bK ⟨#[42]⟩ r1
  let r2:=if st then aC r1 else r1
  aK (gU st r2) fun its r3=>aK (aV [⟨#[102,114,111,109]⟩] r3) fun _ r4=>aK (ez r4) fun fs r5=>aK (bO ⟨#[119,104,101,114,101]⟩ r5) fun hw r6=>aK (gV r6) fun gs r8=>aK (bO ⟨#[104,97,118,105,110,103]⟩ r8) fun hh r9 =>
   .ok (⟨di,st,its,fs,hw.1,hh.1,hw.2,hh.2,gs⟩,r9)
def bo (ts:List Tk):Int × List Tk :=
 if bK ⟨#[117,110,105,111,110]⟩ ts then (if bK ⟨#[97,108,108]⟩ (aC ts) then (1,aC (aC ts)) else (2,aC ts))
 else if bK ⟨#[101,120,99,101,112,116]⟩ ts then (if bK ⟨#[97,108,108]⟩ (aC ts) then (3,aC (aC ts)) else (4,aC ts))
 else (0,ts)
def cD:Nat→List dO→List Int→List Tk→PR (List dO × List Int)
 | 0,_,_,_=>eG
 | n+1,ps,ops,ts=>if (bo ts).1=0 then .ok ((ps,ops),ts) else if (ps.length:Int) ≥ 4 then .error (5,iI (bo ts).2) else
   aK (db (bo ts).2) fun s r=>cD n (ps ++ [s]) (ops ++ [(bo ts).1]) r
def gn (ts:List Tk):PR kf :=
 aK (db ts) fun s r=>aK (cD 5 [s] [] r) fun po r2 =>
  if bK ⟨#[111,114,100,101,114]⟩ r2 then aK (aV [⟨#[98,121]⟩] (aC r2)) fun _ r3=>aK (cu eP 8 9 r3) fun l r4=>aK (aV [⟨#[108,105,109,105,116]⟩] r4) fun _ r5=>aK (dv 0 50 r5) fun n r6=>.ok (⟨po.1,po.2,l,n⟩,r6)
  else .ok (⟨po.1,po.2,[],-1⟩,r2)
def fZ (ts:List Tk):PR cM :=
 if bK ⟨#[118,105,101,119]⟩ ts then aK (dt (aC ts)) fun n r=>aK (aV [⟨#[97,115]⟩] r) fun _ r2=>aK (gn r2) fun q r3=>.ok (⟨2,n,[],q,[],false,dM⟩,r3)
 else aK (aV [⟨#[116,97,98,108,101]⟩] ts) fun _ r=>aK (dt r) fun n r2=>aK (aV [⟨#[40]⟩] r2) fun _ r3=>aK (cu eD 8 9 r3) fun l r4=>aK (aV [⟨#[41]⟩] r4) fun _ r5=>.ok (⟨1,n,l,iz,[],false,dM⟩,r5)
def fD (ts:List Tk):PR cM :=
 aK (aV [⟨#[105,110,116,111]⟩] ts) fun _ r=>aK (dt r) fun n r2=>aK (aV [⟨#[118,97,108,117,101,115]⟩] r2) fun _ r3=>aK (cu jJ 400 401 r3) fun l r4=>.ok (⟨3,n,[],iz,l,false,dM⟩,r4)
def gL (ts:List Tk):PR cM :=
 aK (aV [⟨#[102,114,111,109]⟩] ts) fun _ r=>aK (dt r) fun n r2=>aK (bO ⟨#[119,104,101,114,101]⟩ r2) fun hw r3=>.ok (⟨4,n,[],iz,[],hw.1,hw.2⟩,r3)
def cZ (ts:List Tk):PR cM :=
 if bK ⟨#[99,114,101,97,116,101]⟩ ts then fZ (aC ts)
 else if bK ⟨#[105,110,115,101,114,116]⟩ ts then fD (aC ts)
 else if bK ⟨#[100,101,108,101,116,101]⟩ ts then gL (aC ts)
 else if bK ⟨#[115,104,111,119]⟩ ts then aK (gn (aC ts)) fun q r=>.ok (⟨5,eB,[],q,[],false,dM⟩,r)
 else .error (2,iI ts)
def bM:Nat→List cM→List Tk→PR (List cM)
 | 0,_,_=>eG
 | n+1,acc,ts=>if (cg ts).1=5 then .ok (acc,ts) else if (acc.length:Int) ≥ 60 then .error (5,iI ts) else
   aK (cZ ts) fun s r=>aK (aV [⟨#[59]⟩] r) fun _ r2=>bM n (acc ++ [s]) r2
end Go.Proofs.YtoknmnngaackkaaGreatDoor
namespace Go.Proofs.YtoknmnngaackkaaGreatDoor
open Go.RowKit Go.Lib Go.Shelf
set_option maxRecDepth 100000
set_option maxHeartbeats 16000000
set_option maxRecDepth 100000
set_option maxHeartbeats 4000000
def Ends {α:Type} (R tb:Nat) (o:Int) (w:World) (V:World→Value→α→Prop) (r:PR α) (e:Ending) (w':World):Prop :=
 aj R w w'∧match r with
  | .ok (x,ts)=>∃ v,e = .returned v∧V w' v x∧aR w' R tb ts o
  | .error c=>e = .panicked [ie c.1 c.2]∧∃ ts,aR w' R tb ts o
theorem iV {w:World} {R tb:Nat} {ts:List Tk} {o:Int} (h:aR w R tb ts o) (s:ByteArray):Calls Tryz.prog 153 #[af R 0,s] w fun e w'=>e = .returned (.bool (bK s ts))∧Below w w w':=by
 obtain ⟨t,r,rfl⟩:=h.iU.ne;have con:=j8 h;unfold bK cg;go_enter Tryz.func153,Tryz.ntmps153;go_wp2_with fail
 refine cR con fun w1 hb1=>?_;clear con;have hb2:∀ x,Below w w (w1.alloc x):=fun x=>chain hb1 (bR ..)
 by_cases h1:t.1=1
 ·have b1:(t.1 == 1)=true:=by simpa using h1
  go_wp2_with fail
  exact fa rfl rfl ⟨by simp [b1],hb2 _⟩
 ·have b1:(t.1 == 1)=false:=by simpa using h1
  by_cases h4:t.1=4
  ·have b4:(t.1 == 4)=true:=by simpa using h4
   go_wp2_with fail
   exact fa rfl rfl ⟨by simp [b1,b4],hb2 _⟩
  ·have b4:(t.1 == 4)=false:=by simpa using h4
   go_wp2_with fail
   exact fa rfl rfl ⟨by simp [b1,b4],hb2 _⟩
def fL (s:ByteArray) (ts:List Tk):List Tk:=if bK s ts then aC ts else ts
theorem cG {s:ByteArray} {ts:List Tk} (h:bK s ts=true):fL s ts=aC ts:=by rw [fL,h]; rfl
theorem bT {s:ByteArray} {ts:List Tk} (h:bK s ts=false):fL s ts=ts:=by rw [fL,h]; rfl
theorem aY {w:World} {R tb:Nat} {ts:List Tk} {o:Int} (h:aR w R tb ts o) (s:ByteArray):Calls Tryz.prog 129 #[af R 0,s] w fun e w'=>e = .returned (.bool (bK s ts))∧aR w' R tb (fL s ts) o∧aj R w w':=by
 have con:=iV h s;have hR:=h.lt;have HR:=ah h;clear h;unfold fL;rcases hi:bK s ts with _ | _
 ·rw [hi] at con;go_enter Tryz.func129,Tryz.ntmps129;go_wp2_with fail
  refine cR con fun w1 hb1=>?_;go_wp2_with fail
  exact fa rfl rfl ⟨rfl,by simpa using HR.out.next hb1,.of hb1 ak⟩
 ·rw [hi] at con;obtain ⟨t,r,rfl⟩:=HR.out.iU.ne;go_enter Tryz.func129,Tryz.ntmps129;go_wp2_with fail
  refine cR con fun w1 hb1=>?_;have con2:=mw (HR.out.next hb1);go_wp2_with fail
  refine con2.mono ?_;rintro e w2 ⟨rfl,h2,hb2⟩;have hx:aj R w w2:=(aj.of hb1 ak).trans hb2;go_wp2_with fail
  exact fa rfl rfl ⟨rfl,by simpa using h2,hx⟩
theorem gy {w:World} {R tb:Nat} {ts:List Tk} {o:Int} (h:aR w R tb ts o) {n most:Int} (hn:n ≥ most):Calls Tryz.prog 99 #[af R 0,n,most] w fun e w'=>e = .panicked [ie 5 (iI ts)]∧Below w w w':=by
 obtain ⟨t,r,rfl⟩:=h.iU.ne;have con:=fj h 5;have hn':most≤n:=hn;clear h;go_enter Tryz.func99,Tryz.ntmps99;go_wp2_with fail
 refine cR con fun w1 hb1=>?_;go_wp2_with fail
 exact ⟨rfl,rfl,hb1⟩
theorem je {w:World} {R:Nat} {n most:Int} (hn:n<most):Calls Tryz.prog 99 #[af R 0,n,most] w fun e w'=>e = .returned (.tuple #[])∧Below w w w':=by
 have hn':¬ most≤n:=by omega
 go_enter Tryz.func99,Tryz.ntmps99;go_wp2_with fail
 go_end0
 exact ⟨rfl,I8 _ _⟩
structure dh (W:World) (b off:Nat) (l:List ByteArray):Prop where
 lt:b<W.heap.size
 c:∀ i (h:i<l.length),W.cell? ⟨b,off+i,none⟩=some (.string l[i])
theorem dh.kF {W w1:World} {t b off:Nat} {l:List ByteArray} (h:dh W b off l) (hb:aj t W w1) (hn:b≠t):dh w1 b off l :=
 ⟨Ja h.lt hb.size,fun i hi=>(hb.cell (p:=⟨b,_,none⟩) h.lt hn).trans (h.c i hi)⟩
theorem dh.one (w:World) (s:ByteArray) (T:TypeId):dh (w.alloc (.cells #[s] T)) w 0 [s] :=
 ⟨by simp,fun i hi=>by
  obtain rfl:i=0:=by simpa using hi
  exact cell_of (i:=0) (aD w _ T) rfl⟩
def IK (_:World) (v:Value) (_:Unit):Prop:=v = .tuple #[]
theorem de {w:World} {R tb:Nat} {ts:List Tk} {o:Int} (h:aR w R tb ts o) {b off cap:Nat} {l:List ByteArray} (hs:dh w b off l) (hb:b≠R) (hl:l.length≤100):Calls Tryz.prog 101 #[af R 0,.slice (some (af b off)) l.length cap] w (Ends R tb o w IK (aV l ts)):=by
 have HR:=ah h;have HS:=ah hs;generalize hM:aV l ts=M;have HM:=ah hM;clear h hs hM;go_enter Tryz.func101,Tryz.ntmps101;go_wp2_with fail
 go_loopw [8] (fun i wr=>∃ k:Nat,k≤l.length∧i = .int .i64 k∧aj R w wr∧Hid (∃ us,aR wr R tb us o∧aV (l.drop k) us=M)) (fun i _=>l.length - (intOf i).toNat)
 case atStart=>exact ⟨0,Jc _,rfl,aj.refl _ _,ts,HR.out,by simpa using HM.out⟩
 case round =>
  obtain ⟨k,hk,rfl,hx,HU⟩:=hrel;by_cases hlt:k<l.length
  ·have c0:=(HS.out.kF hx hb).c k hlt;have hkz:(k:Int)<(l.length:Int):=by omega
   obtain ⟨us,hu,hm⟩:=HU.out;have HD:Hid (aV (l[k] :: l.drop (k+1)) us=M):=by show _=_; rw [← hm,I9 hlt]
   have HUS:=ah hu;have con:=aY hu l[k];clear HU hm hu;rcases hi:bK l[k] us with _ | _
   ·rw [hi] at con;have e:M = .error (2,iI us):=by rw [← HD.out,aV,hi]; rfl
    subst e;clear HD;go_wp2_with fail
    refine con.mono ?_;rintro e w1 ⟨rfl,h1,hx1⟩;unfold fL at h1;rw [hi] at h1;obtain ⟨t,r,rfl⟩:=HUS.out.iU.ne;have con2:=fj h1 2;have H1:=ah h1;clear con h1;go_wp2_with fail
    refine cR con2 fun w2 hb2=>?_;go_wp2_with fail
    exact ⟨rfl,(hx.trans hx1).trans (.of hb2 (Jj (Jb HUS.out.lt) hx1.size)),rfl,_,H1.out.next hb2⟩
   ·rw [hi] at con;have HD2:Hid (aV (l.drop (k+1)) (aC us)=M):=by show _=_; rw [← HD.out]; simp only [aV,hi,if_true]
    clear HD;go_wp2_with fail
    refine con.mono ?_;rintro e w1 ⟨rfl,h1,hx1⟩;unfold fL at h1;rw [hi] at h1;have H1:=ah h1;clear con h1;go_wp2_with fail
    go_roundw
    case rel=>exact ⟨k+1,by omega,by go_num,hx.trans hx1,_,H1.out,HD2.out⟩
    case measure=>simp [intOf]; omega
  ·have hkz:¬ (k:Int)<(l.length:Int):=by omega
   obtain ⟨us,hu,hm⟩:=HU.out;rw [Jh ak,aV] at hm;subst hm;have HUS:=ah hu;clear HU hu;go_wp2_with fail
   go_end0
   exact ⟨hx,_,rfl,rfl,HUS.out⟩
theorem mg (s:ByteArray):(nb s).length=s.size:=by rw [nb,JB]; exact Ji
theorem xF {s:ByteArray} {k:Nat} (h:k<s.size):(nb s)[k]'(by rw [mg]; exact h)=((s[k].toNat:Nat):Int):=by
 simp only [nb,List.getElem_map,Array.getElem_toList];rfl
theorem Aj {s:ByteArray} {k:Nat} (h:k<s.size):(nb s).drop k=((s[k].toNat:Nat):Int) :: (nb s).drop (k+1):=by
 rw [I9 (by rw [mg]; exact h),xF h]
theorem lF (c:Int) (w:World):Calls Tryz.prog 46 #[.int .u8 c] w fun e w'=>e = .returned (.bool (iO c))∧w'=w:=by
 generalize hr:iO c=r;have HR:=ah hr;clear hr;by_cases h1:97≤c
 ·by_cases h2:c≤122
  ·go_enter Tryz.func46,Tryz.ntmps46;go_wp2_with fail
   exact fa rfl rfl ⟨by rw [← HR.out]; simp [iO,h1,h2],rfl⟩
  ·go_enter Tryz.func46,Tryz.ntmps46;go_wp2_with fail
   exact fa rfl rfl ⟨by rw [← HR.out,iO,decide_eq_false (show ¬ c≤122 by omega)]; simp,rfl⟩
 ·go_enter Tryz.func46,Tryz.ntmps46;go_wp2_with fail
  exact fa rfl rfl ⟨by rw [← HR.out,iO,decide_eq_false (show ¬ 97≤c by omega)]; simp,rfl⟩
theorem mM (c:Int) (w:World):Calls Tryz.prog 85 #[.int .u8 c] w fun e w'=>e = .returned (.bool (gp c))∧w'=w:=by
 generalize hr:gp c=r;have HR:=ah hr;clear hr;by_cases h1:48≤c
 ·go_enter Tryz.func85,Tryz.ntmps85;go_wp2_with fail
  exact fa rfl rfl ⟨by rw [← HR.out,gp,decide_eq_true (show 48≤c by omega)]; simp,rfl⟩
 ·go_enter Tryz.func85,Tryz.ntmps85;go_wp2_with fail
  exact fa rfl rfl ⟨by rw [← HR.out,gp,decide_eq_false (show ¬ 48≤c by omega)]; simp,rfl⟩
theorem qO (c:Int) (w:World):Calls Tryz.prog 96 #[.int .u8 c] w fun e w'=>e = .returned (.bool (eW c))∧w'=w:=by
 generalize hr:eW c=r;have HR:=ah hr;clear hr;rcases h1:c == 32 with _ | _
 ·rcases h2:c == 9 with _ | _
  ·go_enter Tryz.func96,Tryz.ntmps96;go_wp2_with fail
   exact fa rfl rfl ⟨by rw [← HR.out,eW,h1,h2]; simp,rfl⟩
  ·go_enter Tryz.func96,Tryz.ntmps96;go_wp2_with fail
   exact fa rfl rfl ⟨by rw [← HR.out,eW,h1,h2]; simp,rfl⟩
 ·go_enter Tryz.func96,Tryz.ntmps96;go_wp2_with fail
  exact fa rfl rfl ⟨by rw [← HR.out,eW,h1]; simp,rfl⟩
theorem zy (c:Int) (w:World):Calls Tryz.prog 84 #[.int .u8 c] w fun e w'=>e = .returned (.bool (ig c))∧w'=w:=by
 generalize hr:ig c=r;have HR:=ah hr;clear hr;have con:=lF c w;rcases h1:iO c with _ | _ <;> rw [h1] at con
 ·go_enter Tryz.func84,Tryz.ntmps84;go_wp2_with fail
  refine con.mono ?_;rintro e w1 ⟨rfl,rfl⟩;have con2:=mM c w1;go_wp2_with fail
  refine con2.mono ?_;rintro e w2 ⟨rfl,rfl⟩;go_wp2_with fail
  exact fa rfl rfl ⟨by rw [← HR.out,ig,h1]; simp,rfl⟩
 ·go_enter Tryz.func84,Tryz.ntmps84;go_wp2_with fail
  refine con.mono ?_;rintro e w1 ⟨rfl,rfl⟩;go_wp2_with fail
  exact fa rfl rfl ⟨by rw [← HR.out,ig,h1]; simp,rfl⟩
def HJ (g:Nat) (f:Int→Bool):Prop:=∀ (c:Int) (w:World),Calls Tryz.prog g #[.int .u8 c] w fun e w'=>e = .returned (.bool (f c))∧w'=w
theorem nJ (g:Nat) (eg:∀ (args:Array Value) (w:World),Sem.run Tryz.prog (callFunc g args) w=Result.ok (Next.enter g args) w) (f:Int→Bool) (hf:HJ g f) (s:ByteArray) (i:Nat) (hi:i≤s.size) (hs:s.size≤4000) (w:World) :
  Calls Tryz.prog 83 #[s,i,.func (.func g) #[] #[]] w fun e w'=>e = .returned (.int .i64 ((i+fk f ((nb s).drop i):Nat):Int))∧w'=w:=by
 generalize hr:i+fk f ((nb s).drop i)=r;have HR:=ah hr;clear hr;go_enter Tryz.func83,Tryz.ntmps83;go_wp2_with fail
 go_loopw [1] (fun x wr=>∃ k:Nat,k≤s.size∧x = .int .i64 k∧wr=w∧Hid (k+fk f ((nb s).drop k)=r)) (fun x _=>s.size - (intOf x).toNat)
 case atStart=>exact ⟨i,hi,rfl,rfl,HR⟩
 case round =>
  obtain ⟨k,hk,rfl,rfl,HK⟩:=hrel;by_cases hlt:k<s.size
  ·have hkz:(k:Int)<(s.size:Int):=by omega
   have HD:Hid (k+(if f ((s[k].toNat:Nat):Int) then fk f ((nb s).drop (k+1))+1 else 0)=r):=by show _=_; rw [← HK.out,Aj hlt,fk]
   have con:=hf ((s[k].toNat:Nat):Int) wr;clear HK;rcases hc:f ((s[k].toNat:Nat):Int) with _ | _ <;> rw [hc] at con HD
   ·obtain rfl:k=r:=by simpa using HD.out
    go_wp2_with fail
    refine con.mono ?_;rintro e w1 ⟨rfl,rfl⟩;go_wp2_with fail
    exact fa rfl rfl ⟨fQ,fQ⟩
   ·have HD2:Hid (k+1+fk f ((nb s).drop (k+1))=r):=by show _=_; rw [← HD.out,if_pos rfl]; omega
    clear HD;go_wp2_with fail
    refine con.mono ?_;rintro e w1 ⟨rfl,rfl⟩;go_wp2_with fail
    go_roundw
    case rel=>exact ⟨k+1,by omega,by go_num,fQ,HD2⟩
    case measure=>simp [intOf]; omega
  ·have hkz:¬ (k:Int)<(s.size:Int):=by omega
   obtain rfl:k=r:=by
    have:=HK.out;rw [Jh (by rw [mg]; omega)] at this
    simpa [fk] using this
   go_wp2_with fail
   exact fa rfl rfl ⟨fQ,fQ⟩
theorem oD (s:ByteArray) (i:Nat) (hi:i≤s.size) (hs:s.size≤4000) (w:World):Calls Tryz.prog 47 #[s,i] w fun e w'=>e = .returned (.int .i64 ((i+fk ig ((nb s).drop i):Nat):Int))∧w'=w:=by
 have con:=nJ 84 (fun _ _=>by kernel_rfl) ig (fun c w=>zy c w) s i hi hs w;generalize i+fk ig ((nb s).drop i)=r at *;go_enter Tryz.func47,Tryz.ntmps47;go_wp2_with fail
 refine con.mono ?_;rintro e w1 ⟨rfl,rfl⟩;go_wp2_with fail
 exact fa rfl rfl ⟨fQ,fQ⟩
theorem Au (s:ByteArray) (w:World):Calls Tryz.prog 48 #[s] w fun e w'=>e = .returned (.bool (ny s))∧w'=w:=by
 generalize hr:ny s=r;have HR:=ah hr;clear hr;rcases h0:s.toList == [99,114,101,97,116,101] with _ | _
 rcases h1:s.toList == [116,97,98,108,101] with _ | _
 rcases h2:s.toList == [118,105,101,119] with _ | _
 rcases h3:s.toList == [97,115] with _ | _
 rcases h4:s.toList == [105,110,115,101,114,116] with _ | _
 rcases h5:s.toList == [105,110,116,111] with _ | _
 rcases h6:s.toList == [118,97,108,117,101,115] with _ | _
 rcases h7:s.toList == [100,101,108,101,116,101] with _ | _
 rcases h8:s.toList == [102,114,111,109] with _ | _
 rcases h9:s.toList == [119,104,101,114,101] with _ | _
 rcases h10:s.toList == [115,104,111,119] with _ | _
 rcases h11:s.toList == [115,101,108,101,99,116] with _ | _
 rcases h12:s.toList == [100,105,115,116,105,110,99,116] with _ | _
 rcases h13:s.toList == [103,114,111,117,112] with _ | _
 rcases h14:s.toList == [98,121] with _ | _
 rcases h15:s.toList == [104,97,118,105,110,103] with _ | _
 rcases h16:s.toList == [117,110,105,111,110] with _ | _
 rcases h17:s.toList == [97,108,108] with _ | _
 rcases h18:s.toList == [101,120,99,101,112,116] with _ | _
 rcases h19:s.toList == [111,114,100,101,114] with _ | _
 rcases h20:s.toList == [108,105,109,105,116] with _ | _
 rcases h21:s.toList == [106,111,105,110] with _ | _
 rcases h22:s.toList == [108,101,102,116] with _ | _
 rcases h23:s.toList == [115,101,109,105] with _ | _
 rcases h24:s.toList == [97,110,116,105] with _ | _
 rcases h25:s.toList == [111,110] with _ | _
 rcases h26:s.toList == [97,110,100] with _ | _
 rcases h27:s.toList == [111,114] with _ | _
 rcases h28:s.toList == [110,111,116] with _ | _
 rcases h29:s.toList == [105,115] with _ | _
 rcases h30:s.toList == [110,117,108,108] with _ | _
 rcases h31:s.toList == [116,114,117,101] with _ | _
 rcases h32:s.toList == [102,97,108,115,101] with _ | _
 rcases h33:s.toList == [99,97,115,101] with _ | _
 rcases h34:s.toList == [119,104,101,110] with _ | _
 rcases h35:s.toList == [116,104,101,110] with _ | _
 rcases h36:s.toList == [101,108,115,101] with _ | _
 rcases h37:s.toList == [101,110,100] with _ | _
 rcases h38:s.toList == [99,111,97,108,101,115,99,101] with _ | _
 rcases h39:s.toList == [99,111,117,110,116] with _ | _
 rcases h40:s.toList == [115,117,109] with _ | _
 rcases h41:s.toList == [109,105,110] with _ | _
 rcases h42:s.toList == [109,97,120] with _ | _
 rcases h43:s.toList == [105,110,116] with _ | _
 rcases h44:s.toList == [116,101,120,116] with _ | _
 rcases h45:s.toList == [98,111,111,108] with _ | _
 all_goals
  simp only [ny,wU,List.any_cons,List.any_nil, *,Bool.true_or,Bool.or_true,Bool.or_false] at HR;have e:=HR.out;clear HR;subst e;go_enter Tryz.func48,Tryz.ntmps48;go_wp2_with fail
  exact fa rfl rfl ⟨fQ,fQ⟩
theorem qh (f:Int→Bool):∀ l:List Int,(fk f l == l.length)=l.all f
 | []=>rfl
 | c :: r=>by
  have:=qh f r
  rw [fk,List.all_cons,← this]
  cases f c
  ·simp
  ·simp
theorem sO (s:ByteArray) (hs:s.size≤4000) (w:World):Calls Tryz.prog 20 #[s] w fun e w'=>e = .returned (.bool (dF s))∧w'=w:=by
 generalize hr:dF s=r;have HR:=ah hr;clear hr;by_cases h1:1≤s.size
 case neg =>
  have e:r=false:=by rw [← HR.out,dF,decide_eq_false h1]; simp
  subst e;have h1':¬ (1:Int)≤(s.size:Int):=by omega
  clear HR;go_enter Tryz.func20,Tryz.ntmps20;go_wp2_with fail
  exact fa rfl rfl ⟨fQ,fQ⟩
 have h1':(1:Int)≤(s.size:Int):=by omega
 by_cases h2:s.size≤12
 case neg =>
  have e:r=false:=by rw [← HR.out,dF,decide_eq_false h2]; simp
  subst e;have h2':¬ (s.size:Int)≤12:=by omega
  clear HR;go_enter Tryz.func20,Tryz.ntmps20;go_wp2_with fail
  exact fa rfl rfl ⟨fQ,fQ⟩
 have h2':(s.size:Int)≤12:=by omega
 have h0:0<s.size:=by omega
 have h0':(0:Int)<(s.size:Int):=by omega
 have HR2:Hid ((iO ((s[0].toNat:Nat):Int) && (nb s).all ig && !ny s)=r):=by
  show _=_;rw [← HR.out,dF,decide_eq_true h1,decide_eq_true h2,Bool.true_and,Bool.true_and,List.getD_eq_getElem?_getD,Je (by rw [mg]; exact h0),Option.getD_some,xF h0]
 clear HR;have con:=lF ((s[0].toNat:Nat):Int) w;rcases h3:iO ((s[0].toNat:Nat):Int) with _ | _ <;> rw [h3] at con HR2
 ·have e:r=false:=by rw [← HR2.out]; simp
  subst e;clear HR2;go_enter Tryz.func20,Tryz.ntmps20;go_wp2_with fail
  refine con.mono ?_;rintro e w1 ⟨rfl,rfl⟩;go_wp2_with fail
  exact fa rfl rfl ⟨fQ,fQ⟩
 ·have con2:=oD s 0 (Jc _) hs w;have HA:Hid ((fk ig (nb s) == s.size)=(nb s).all ig):=by show _=_; rw [← qh,mg]
  rw [JJ,Jm] at con2;generalize fk ig (nb s)=m at *;rcases h4:(nb s).all ig with _ | _ <;> rw [h4] at HR2 HA
  ·have e:r=false:=by rw [← HR2.out]; simp
   subst e;have hm:((m:Int) == (s.size:Int))=false:=by
    have:=HA.out;simp only [beq_eq_false_iff_ne] at this ⊢;omega
   clear HR2;go_enter Tryz.func20,Tryz.ntmps20;go_wp2_with fail
   refine con.mono ?_;rintro e w1 ⟨rfl,rfl⟩;go_wp2_with fail
   refine con2.mono ?_;rintro e w2 ⟨rfl,rfl⟩;go_wp2_with fail
   exact fa rfl rfl ⟨fQ,fQ⟩
  ·have hm:m=s.size:=by simpa using HA.out
   have con3:=Au s w;have HR3:Hid ((!ny s)=r):=by show _=_; rw [← HR2.out]; simp
   subst hm;clear HR2;generalize ny s=kp at *;go_enter Tryz.func20,Tryz.ntmps20;go_wp2_with fail
   refine con.mono ?_;rintro e w1 ⟨rfl,rfl⟩;go_wp2_with fail
   refine con2.mono ?_;rintro e w2 ⟨rfl,rfl⟩;go_wp2_with fail
   refine con3.mono ?_;rintro e w3 ⟨rfl,rfl⟩;go_wp2_with fail
   exact fa rfl rfl ⟨by rw [← HR3.out]; rfl,fQ⟩
def Gr (_:World) (v:Value) (s:ByteArray):Prop:=v = .string s
theorem Ends.err {α:Type} {R tb:Nat} {o:Int} {w w':World} {V:World→Value→α→Prop} {r:PR α} {c:Er} {ts:List Tk} (hr:r = .error c) (hb:aj R w w') (h:aR w' R tb ts o):Ends R tb o w V r (.panicked [ie c.1 c.2]) w':=by
 subst hr;exact ⟨hb,rfl,_,h⟩
theorem Ends.cK {α:Type} {R tb:Nat} {o:Int} {w w':World} {V:World→Value→α→Prop} {r:PR α} {x:α} {ts:List Tk} {v:Value} (hr:r = .ok (x,ts)) (hb:aj R w w') (hv:V w' v x) (h:aR w' R tb ts o):Ends R tb o w V r (.returned v) w':=by
 subst hr;exact ⟨hb,v,rfl,hv,h⟩
theorem iA {w:World} {R tb:Nat} {ts:List Tk} {o:Int} (h:aR w R tb ts o):Calls Tryz.prog 155 #[af R 0] w (Ends R tb o w Gr (dt ts)):=by
 obtain ⟨t,r,rfl⟩:=h.iU.ne;have con:=j8 h;have hR:=h.lt;have HR:=ah h;generalize hM:dt (t :: r)=M;have HM:=ah hM;have hal:∀ {W:World} (x:Obj),Below W W (W.alloc x):=fun x=>bR ..
 clear h hM;by_cases h1:t.1=1
 case neg =>
  have b1:(t.1 != 1)=true:=by simpa using h1
  go_enter Tryz.func155,Tryz.ntmps155;go_wp2_with fail
  refine cR con fun w1 hb1=>?_;clear con;have hb2:=chain hb1 (hal (.cells #[t.1,t.2.1,t.2.2] 152));have con2:=fj (HR.out.next hb2) 2;go_wp2_with fail
  generalize w1.alloc _=w2 at *;refine cR con2 fun w3 hb3=>?_;go_wp2_with fail
  exact ⟨rfl,Ends.err (c:=(2,t.2.2)) (by rw [← HM.out,dt,if_pos (by simpa [cg] using h1)]; rfl) (.of (chain hb2 hb3) ak) (HR.out.next (chain hb2 hb3))⟩
 have b1:(t.1 != 1)=false:=by simpa using h1
 have con3:=fun w=>sO t.2.1 HR.out.iU.ok.1 w
 rcases hn:dF t.2.1 with _ | _ <;> rw [hn] at con3
 ·go_enter Tryz.func155,Tryz.ntmps155;go_wp2_with fail
  refine cR con fun w1 hb1=>?_;clear con;have hb2:=chain hb1 (hal (.cells #[(1:Int),t.2.1,t.2.2] 152));have con2:=fj (HR.out.next hb2) 7;have con3:=con3 (w1.alloc (.cells #[(1:Int),t.2.1,t.2.2] 152));go_wp2_with fail
  generalize w1.alloc _=w2 at *;refine con3.mono ?_;rintro e w4 ⟨rfl,rfl⟩;go_wp2_with fail
  refine con2.mono ?_;rintro e w3 ⟨rfl,hb3⟩;go_wp2_with fail
  exact ⟨rfl,Ends.err (c:=(7,t.2.2)) (by rw [← HM.out,dt,if_neg (by simpa [cg] using h1),if_pos (by simpa [cg] using hn)]; rfl) (.of (chain hb2 hb3) ak) (HR.out.next (chain hb2 hb3))⟩
 ·go_enter Tryz.func155,Tryz.ntmps155;go_wp2_with fail
  refine cR con fun w1 hb1=>?_;clear con;have hb2:=chain hb1 (hal (.cells #[(1:Int),t.2.1,t.2.2] 152));have con2:=mw (HR.out.next hb2);have con3:=con3 (w1.alloc (.cells #[(1:Int),t.2.1,t.2.2] 152));go_wp2_with fail
  generalize w1.alloc _=w2 at *;refine con3.mono ?_;rintro e w4 ⟨rfl,rfl⟩;go_wp2_with fail
  refine con2.mono ?_;rintro e w3 ⟨rfl,h3,hb3⟩;have hfl:=nP (1:Int) t.2.2 t.2.1 w3;go_wp2_with fail
  refine I7 (v:=.string t.2.1) (by simp [results,Tryz.results155,go_sem]) rfl ?_;exact (Ends.cK (x:=t.2.1) (by rw [← HM.out,dt,if_neg (by simpa [cg] using h1),if_neg (by simp [cg,hn])]; rfl) ((aj.of hb2 ak).trans hb3) rfl h3)
theorem qW {w:World} {R tb:Nat} {ts:List Tk} {o:Int} (h:aR w R tb ts o):Calls Tryz.prog 215 #[af R 0] w (Ends R tb o w Gr (eH ts)):=by
 have con:=aY h ⟨#[97,115]⟩;generalize hM:eH ts=M;have HM:=ah hM;clear h hM;rcases hi:bK ⟨#[97,115]⟩ ts with _ | _
 ·rw [hi,bT hi] at con;go_enter Tryz.func215,Tryz.ntmps215;go_wp2_with fail
  refine con.mono ?_;rintro e w1 ⟨rfl,h1,hb1⟩;have H1:=ah h1;clear con h1;go_wp2_with fail
  refine fa rfl rfl ?_;exact (Ends.cK (x:=eB) (by rw [← HM.out,eH,hi]; rfl) hb1 rfl H1.out)
 ·rw [hi,cG hi] at con;have HM2:Hid (dt (aC ts)=M):=by show _=_; rw [← HM.out,eH,hi]; rfl
  clear HM;go_enter Tryz.func215,Tryz.ntmps215;go_wp2_with fail
  refine con.mono ?_;rintro e w1 ⟨rfl,h1,hb1⟩;have con2:=iA h1;rw [HM2.out] at con2;clear con h1;go_wp2_with fail
  refine con2.mono ?_;rintro e w2 ⟨hb2,h2⟩;rcases M with c | ⟨x,r⟩
  ·obtain ⟨rfl,us,h2⟩:=h2;have H2:=ah h2;clear h2;go_wp2_with fail
   exact ⟨rfl,Ends.err rfl (hb1.trans hb2) H2.out⟩
  ·obtain ⟨v,rfl,rfl,h3⟩:=h2;have H3:=ah h3;clear h3;go_wp2_with fail
   refine fa rfl rfl ?_;exact (Ends.cK rfl (hb1.trans hb2) rfl H3.out)
end Go.Proofs.YtoknmnngaackkaaGreatDoor
