/- Together: Al, Plain, W1, A1, A2, A3, A4, A5, A6. -/
import Derived.Test.YtoknmnngaackkaaGreatDoorProg
import Derived.Lib.SmallJoins
import Derived.OrdersHeld
import Derived.Laws.AppendOwnNone
import Derived.Laws.CopyOwn
import Derived.Deep.Cut
import Derived.Deep.RegionWith
import Derived.Shelf.Abstract
import Derived.WalkKit
import Derived.Test.YtoknmnngaackkaaGreatDoorRows
import Derived.WalkSpells
import Derived.WalkLawsBesides
import Derived.Laws.EntriesVeiled
namespace Go.Proofs.YtoknmnngaackkaaGreatDoor
open Go.RowKit Go.Lib Go.Shelf
theorem ab (w:World) (o:Obj):Below w.heap.size w (w.alloc o):=(Below.refl _ _).alloc (Nat.le_refl _) _
theorem CX:type_of% @Nat.le_refl:=@Nat.le_refl
theorem CY:type_of% @Below.refl:=@Below.refl
theorem C0:type_of% @bodyPost_ret:=@bodyPost_ret
theorem C1:type_of% @heap_setCell_same:=@heap_setCell_same
theorem C3:type_of% @frozen_of_row:=@frozen_of_row
theorem Da:type_of% @List.drop_eq_getElem_cons:=@List.drop_eq_getElem_cons
theorem Db:type_of% @List.any_cons:=@List.any_cons
theorem Dc:type_of% @List.append_assoc:=@List.append_assoc
theorem Dd:type_of% @Nat.le_of_lt:=@Nat.le_of_lt
theorem De:type_of% @Bool.false_eq_true:=@Bool.false_eq_true
theorem Df:type_of% @Bool.true_or:=@Bool.true_or
theorem Dg:type_of% @Nat.lt_of_lt_of_le:=@Nat.lt_of_lt_of_le
theorem Dh:type_of% @List.drop_eq_nil_of_le:=@List.drop_eq_nil_of_le
theorem Di:type_of% @Bool.or_true:=@Bool.or_true
theorem Dj:type_of% @List.getElem?_eq_getElem:=@List.getElem?_eq_getElem
theorem Dk:type_of% @List.length_append:=@List.length_append
theorem Dl:type_of% @Array.length_toList:=@Array.length_toList
theorem Dm:type_of% @Nat.zero_le:=@Nat.zero_le
theorem Dn:type_of% @List.length_cons:=@List.length_cons
theorem Dp:type_of% @Int.le_refl:=@Int.le_refl
theorem Dq:type_of% @World.cell?_of_block:=@World.cell?_of_block
theorem Dr:type_of% @Nat.zero_add:=@Nat.zero_add
theorem Ds:type_of% @List.nil_append:=@List.nil_append
theorem Dt:type_of% @Nat.le_trans:=@Nat.le_trans
theorem Du:type_of% @Option.some.inj:=@Option.some.inj
theorem Dv:type_of% @List.mem_cons:=@List.mem_cons
theorem Dw:type_of% @List.cons_append:=@List.cons_append
theorem Dx:type_of% @Bool.and_eq_true:=@Bool.and_eq_true
theorem Dy:type_of% @Nat.mul_le_mul_right:=@Nat.mul_le_mul_right
theorem Dz:type_of% @List.length_take:=@List.length_take
theorem DA:type_of% @List.length_drop:=@List.length_drop
theorem DC:type_of% @List.getElem_mem:=@List.getElem_mem
theorem DD:type_of% @List.mem_singleton:=@List.mem_singleton
theorem DE:type_of% @List.all_eq_true:=@List.all_eq_true
theorem DF:type_of% @Nat.lt_or_ge:=@Nat.lt_or_ge
theorem DG:type_of% @List.length_map:=@List.length_map
theorem DH:type_of% @List.getElem?_append_left:=@List.getElem?_append_left
theorem DI:type_of% @List.length_eq_zero_iff:=@List.length_eq_zero_iff
theorem DJ:type_of% @Nat.add_zero:=@Nat.add_zero
theorem DK:type_of% @List.getD_eq_getElem?_getD:=@List.getD_eq_getElem?_getD
theorem DL:type_of% @List.drop_zero:=@List.drop_zero
theorem DM:type_of% @Array.getElem?_eq_none:=@Array.getElem?_eq_none
theorem DN:type_of% @Below.heap_setCell:=@Below.heap_setCell
theorem DO:type_of% @List.map_cons:=@List.map_cons
theorem DP:type_of% @List.mem_cons_of_mem:=@List.mem_cons_of_mem
theorem DQ:type_of% @List.length_nil:=@List.length_nil
theorem DR:type_of% @List.getElem?_append_right:=@List.getElem?_append_right
theorem DS:type_of% @List.getElem?_eq_none:=@List.getElem?_eq_none
theorem DT:type_of% @Nat.one_mul:=@Nat.one_mul
theorem DU:type_of% @Nat.xor_assoc:=@Nat.xor_assoc
theorem DV:type_of% @List.flatMap_cons:=@List.flatMap_cons
end Go.Proofs.YtoknmnngaackkaaGreatDoor
namespace Go.Proofs.YtoknmnngaackkaaGreatDoor
set_option maxRecDepth 100000
set_option maxHeartbeats 16000000
def cls (k n:Int):Option Bool:=if k=2 then (if n=1 then some true else if n=0 then some false else none) else none
def tn:Option Bool→Int | some true=>1 | _=>0
theorem pA {α : Type} (l : List α) (i : Nat) (a : α) : l.toArray.setIfInBounds i a = (l.set i a).toArray := List.setIfInBounds_toArray ..
theorem pB {α : Type} {x : α} {xs : List α} {a : α} : (x :: xs).set 0 a = a :: xs := List.set_cons_zero ..
theorem pC {α : Type} {x : α} {xs : List α} {i : Nat} {a : α} : (x :: xs).set (i + 1) a = x :: xs.set i a := List.set_cons_succ ..
end Go.Proofs.YtoknmnngaackkaaGreatDoor
namespace Go.Proofs.YtoknmnngaackkaaGreatDoor
open Go.RowKit
set_option maxRecDepth 100000
set_option maxHeartbeats 16000000
structure zh (W:World) (b:Nat) (x y z:Value):Prop where
 lt:b<W.heap.size
 c0:W.cell? ⟨b,0,none⟩=some x
 c1:W.cell? ⟨b,1,none⟩=some y
 c2:W.cell? ⟨b,2,none⟩=some z
 f0:W.frozen? ⟨b,0,none⟩=false
 f1:W.frozen? ⟨b,1,none⟩=false
 f2:W.frozen? ⟨b,2,none⟩=false
theorem zh.next {W w1:World} {b:Nat} {x y z:Value} (h:zh W b x y z) (hb:Below W.heap.size W w1):zh w1 b x y z :=
 ⟨Dg h.lt hb.size,(hb.cell (p:=⟨b,0,none⟩) h.lt).trans h.c0,(hb.cell (p:=⟨b,1,none⟩) h.lt).trans h.c1,(hb.cell (p:=⟨b,2,none⟩) h.lt).trans h.c2,
  (hb.frozen (p:=⟨b,0,none⟩) h.lt).trans h.f0,(hb.frozen (p:=⟨b,1,none⟩) h.lt).trans h.f1,(hb.frozen (p:=⟨b,2,none⟩) h.lt).trans h.f2⟩
theorem zh.alloc {W:World} {b:Nat} {x y z:Value} (h:zh W b x y z) (o:Obj):zh (W.alloc o) b x y z :=
 h.next ((CY _ _).alloc (CX _) _)
theorem zh.new (w:World) (x y z:Value) (t:Nat):zh (w.alloc (.cells #[x,y,z] t)) w.heap.size x y z :=
 ⟨by simp,by simp,by simp,by simp,by simp,by simp,by simp⟩
theorem vy (w:World) :
  Calls Tryz.prog 212 #[] w fun e w'=>e = .returned (.agg #[.int .i64 1,.int .i64 0,.string ⟨#[]⟩])∧Below w.heap.size w w':=by
 go_enter Tryz.func212,Tryz.ntmps212;go_wp2
 exact C0 (v:=.agg #[.int .i64 1,.int .i64 0,.string ⟨#[]⟩]) (by simp [results,Tryz.results212,go_sem]) rfl ⟨rfl,(CY _ _).alloc (CX _) _⟩
theorem tq (w:World) :
  Calls Tryz.prog 213 #[.bool true] w fun e w'=>e = .returned (.agg #[.int .i64 2,.int .i64 1,.string ⟨#[]⟩])∧Below w.heap.size w w':=by
 go_enter Tryz.func213,Tryz.ntmps213;go_wp2
 exact C0 (v:=.agg #[.int .i64 2,.int .i64 1,.string ⟨#[]⟩]) (by simp [results,Tryz.results213,go_sem]) rfl ⟨rfl,(CY _ _).alloc (CX _) _⟩
theorem rN (w:World) :
  Calls Tryz.prog 213 #[.bool false] w fun e w'=>e = .returned (.agg #[.int .i64 2,.int .i64 0,.string ⟨#[]⟩])∧Below w.heap.size w w':=by
 go_enter Tryz.func213,Tryz.ntmps213;go_wp2
 exact C0 (v:=.agg #[.int .i64 2,.int .i64 0,.string ⟨#[]⟩]) (by simp [results,Tryz.results213,go_sem]) rfl ⟨rfl,(CY _ _).alloc (CX _) _⟩
end Go.Proofs.YtoknmnngaackkaaGreatDoor
namespace Go.Proofs.YtoknmnngaackkaaGreatDoor
open Go.RowKit Go.Lib Go.Shelf
set_option maxRecDepth 100000
set_option maxHeartbeats 16000000
set_option maxRecDepth 100000
set_option maxHeartbeats 4000000
def af (t:Nat) (w w':World):Prop:=Below t w w'∧∀ k,k<w.heap.size→k≠t→w'.heap[k]? = w.heap[k]?
theorem af.refl (t:Nat) (w:World):af t w w:=⟨CY _ _,fun _ _ _=>rfl⟩
theorem af.size {t:Nat} {a b:World} (h:af t a b):a.heap.size≤b.heap.size:=h.1.size
theorem af.trans {t:Nat} {a b c:World} (h:af t a b) (k:af t b c):af t a c :=
 ⟨h.1.trans k.1,fun i hi hn=>(k.2 i (Dg hi h.size) hn).trans (h.2 i hi hn)⟩
theorem af.of {t:Nat} {a b:World} (h:Below a.heap.size a b) (ht:t≤a.heap.size):af t a b:=⟨h.mono ht,fun k hk _=>h.block k hk⟩
theorem af.set {t:Nat} {a b:World} (h:af t a b) (o:Nat) (u:Value):af t a (b.setCell ⟨t,o,none⟩ u) :=
 ⟨h.1.setCell (CX _) _,fun k hk hn=>by rw [heap_setCell_other _ _ _ _ (by simpa using hn)]; exact h.2 k hk hn⟩
theorem af.aL {t:Nat} {a b:World} (h:af t a b) (g o:Nat) (u:Value) (hg:a.heap.size≤g) (ht:t≤a.heap.size):af t a (b.setCell ⟨g,o,none⟩ u) :=
 ⟨h.1.setCell (p:=⟨g,o,none⟩) (by show t≤g; omega) _,fun k hk hn=>by rw [heap_setCell_other _ _ _ _ (by show k≠g; omega)]; exact h.2 k hk hn⟩
theorem af.cell {t:Nat} {a b:World} (h:af t a b) {p:Addr} (hp:p.block<a.heap.size) (hn:p.block≠t):b.cell? p=a.cell? p:=Dq (h.2 _ hp hn)
theorem cell_of {W:World} {b:Nat} {xs:Array Value} {T:TypeId} {i:Nat} {v:Value} (h:W.heap[b]? = some (.cells xs T (0,0))) (hv:xs[i]? = some v):W.cell? ⟨b,i,none⟩=some v:=by
 simp [World.cell?,h,hv]
theorem ar (W:World) (xs:Array Value) (T:TypeId):(W.alloc (.cells xs T)).heap[W.heap.size]? = some (.cells xs T (0,0)):=by
 show (W.heap.push (.cells xs T (0,0)))[W.heap.size]? = _;exact Array.getElem?_push_size
theorem chain {w a b:World} (h:Below w.heap.size w a) (k:Below a.heap.size a b):Below w.heap.size w b:=h.trans (k.mono h.size)
abbrev Tk:Type:=Int × ByteArray × Int
structure l5 (W:World) (b off:Nat) (l:List Tk):Prop where
 lt:b<W.heap.size
 c0:∀ i (h:i<l.length),W.cell? ⟨b,off+i*3,none⟩=some (.int .i64 l[i].1)
 c1:∀ i (h:i<l.length),W.cell? ⟨b,off+i*3+1,none⟩=some (.string l[i].2.1)
 c2:∀ i (h:i<l.length),W.cell? ⟨b,off+i*3+2,none⟩=some (.int .i64 l[i].2.2)
theorem l5.jo {W w1:World} {t b off:Nat} {l:List Tk} (h:l5 W b off l) (hb:af t W w1) (hn:b≠t):l5 w1 b off l :=
 ⟨Dg h.lt hb.size,fun i hi=>(hb.cell (p:=⟨b,_,none⟩) h.lt hn).trans (h.c0 i hi),fun i hi=>(hb.cell (p:=⟨b,_,none⟩) h.lt hn).trans (h.c1 i hi),fun i hi=>(hb.cell (p:=⟨b,_,none⟩) h.lt hn).trans (h.c2 i hi)⟩
theorem l5.next {W w1:World} {b off:Nat} {l:List Tk} (h:l5 W b off l) (hb:Below W.heap.size W w1):l5 w1 b off l :=
 h.jo (.of hb (CX _)) (Nat.ne_of_lt h.lt)
theorem l5.tail {W:World} {b off:Nat} {t:Tk} {l:List Tk} (h:l5 W b off (t :: l)):l5 W b (off+3) l :=
 ⟨h.lt,fun i hi=>by have:=h.c0 (i+1) (by simpa using hi); rw [show off+(i+1)*3=off+3+i*3 by omega] at this; simpa using this,
  fun i hi=>by have:=h.c1 (i+1) (by simpa using hi); rw [show off+(i+1)*3=off+3+i*3 by omega] at this; simpa using this,
  fun i hi=>by have:=h.c2 (i+1) (by simpa using hi); rw [show off+(i+1)*3=off+3+i*3 by omega] at this; simpa using this⟩
def xZ (t:Tk):Prop:=t.2.1.size≤4000∧(t.1=2→1≤t.2.1.size∧t.2.1.size≤16∧∀ c ∈ t.2.1.data.toList,48≤c.toNat∧c.toNat≤57)
inductive kx:List Tk→Prop
 | last (a:Int):kx [(5,⟨#[]⟩,a)]
 | cons (t:Tk) (r:List Tk):t.1≠5→xZ t→kx r→kx (t :: r)
theorem kx.ok {t:Tk} {r:List Tk} (h:kx (t :: r)):xZ t:=by
 cases h with
 | last a=>exact ⟨by show (0:Nat)≤4000; omega,fun h=>by cases h⟩
 | cons _ _ _ h1 _=>exact h1
def BN:Array Value:=#[.int .i64 5,.string ⟨#[111,114]⟩,.int .i64 1,.int .i64 4,.string ⟨#[97,110,100]⟩,.int .i64 2,.int .i64 6,.string ⟨#[61]⟩,.int .i64 4,.int .i64 7,.string ⟨#[60,62]⟩,.int .i64 4,.int .i64 8,.string ⟨#[60]⟩,.int .i64 4,.int .i64 9,.string ⟨#[60,61]⟩,.int .i64 4,.int .i64 10,.string ⟨#[62]⟩,.int .i64 4,.int .i64 11,.string ⟨#[62,61]⟩,.int .i64 4,.int .i64 12,.string ⟨#[43]⟩,.int .i64 5,.int .i64 13,.string ⟨#[45]⟩,.int .i64 5,.int .i64 14,.string ⟨#[42]⟩,.int .i64 6,.int .i64 15,.string ⟨#[124,124]⟩,.int .i64 7]
def BF:Array Value:=#[.string ⟨#[60,62]⟩,.string ⟨#[60,61]⟩,.string ⟨#[62,61]⟩,.string ⟨#[124,124]⟩,.string ⟨#[60]⟩,.string ⟨#[62]⟩,.string ⟨#[61]⟩,.string ⟨#[43]⟩,.string ⟨#[45]⟩,.string ⟨#[42]⟩,.string ⟨#[40]⟩,.string ⟨#[41]⟩,.string ⟨#[44]⟩,.string ⟨#[46]⟩,.string ⟨#[59]⟩]
structure Gl (W:World):Prop where
 lt:1<W.heap.size
 inf:∀ j,j<36→W.cell? ⟨1,j,none⟩=BN[j]?
 sig:∀ j,j<15→W.cell? ⟨0,j,none⟩=BF[j]?
theorem Gl.jo {t:Nat} {W w1:World} (h:Gl W) (hb:af t W w1) (ht:1<t):Gl w1 :=
 ⟨Dg h.lt hb.size,fun j hj=>(hb.cell (p:=⟨1,j,none⟩) h.lt (by show 1≠t; omega)).trans (h.inf j hj),fun j hj=>(hb.cell (p:=⟨0,j,none⟩) (by show 0<_; have:=h.lt; omega) (by show 0≠t; omega)).trans (h.sig j hj)⟩
theorem Gl.next {W w1:World} (h:Gl W) (hb:Below W.heap.size W w1):Gl w1:=h.jo (.of hb (CX _)) h.lt
structure au (W:World) (R tb:Nat) (ts:List Tk) (o:Int):Prop where
 ex:∃ off cap,W.heap[R]? = some (.cells #[.slice (some ⟨tb,off,none⟩) ts.length cap,.int .i64 o] 121 (0,0))∧ts.length≤cap∧l5 W tb off ts
 ne:tb≠R
 gQ:kx ts
 small:ts.length≤4001
 gl:Gl W
 r2:1<R
theorem lt_of_heap {W:World} {b:Nat} {x:Obj} (h:W.heap[b]? = some x):b<W.heap.size:=by
 rcases DF b W.heap.size with h1 | h1
 ·exact h1
 ·rw [DM h1] at h; cases h
theorem au.lt {W:World} {R tb:Nat} {ts:List Tk} {o:Int} (h:au W R tb ts o):R<W.heap.size:=by
 obtain ⟨_,_,h,_⟩:=h.ex;exact lt_of_heap h
theorem au.next {W w1:World} {R tb:Nat} {ts:List Tk} {o:Int} (h:au W R tb ts o) (hb:Below W.heap.size W w1):au w1 R tb ts o:=by
 obtain ⟨off,cap,h1,h2,h3⟩:=h.ex;exact ⟨⟨off,cap,(hb.block _ (lt_of_heap h1)).trans h1,h2,h3.next hb⟩,h.ne,h.gQ,h.small,h.gl.next hb,h.r2⟩
def az:List Tk→List Tk
 | []=>[]
 | t :: r=>if t.1=5 then t :: r else r
theorem kx.pass {l:List Tk} (h:kx l):kx (az l):=by
 cases h with
 | last a=>exact .last a
 | cons t r h1 _ h2=>rw [az,if_neg h1]; exact h2
theorem kx.ne {l:List Tk} (h:kx l):∃ t r,l=t :: r:=by
 cases h with
 | last a=>exact ⟨_,_,rfl⟩
 | cons t r h1 _ h2=>exact ⟨_,_,rfl⟩
def gn (e a:Int):PanicEntry:={ v:=.iface 115 (.agg #[.int .i64 e,.int .i64 a]),recovered:=false }
theorem eG (e a:Int) (w:World):Calls Tryz.prog 65 #[.int .i64 e,.int .i64 a] w fun x w'=>x = .returned (.agg #[.int .i64 e,.int .i64 a])∧Below w.heap.size w w':=by
 go_enter Tryz.func65,Tryz.ntmps65;go_wp2_with fail
 exact C0 (v:=.agg #[.int .i64 e,.int .i64 a]) (by simp [results,Tryz.results65,go_sem]) rfl ⟨rfl,(CY _ _).alloc (CX _) _⟩
theorem iT {w:World} {R tb:Nat} {t:Tk} {r:List Tk} {o:Int} (h:au w R tb (t :: r) o):Calls Tryz.prog 98 #[.pointer (some ⟨R,0,none⟩)] w fun x w'=>x = .returned (.agg #[.int .i64 t.1,.string t.2.1,.int .i64 t.2.2])∧Below w.heap.size w w':=by
 obtain ⟨off,cap,h1,h2,h3⟩:=h.ex;have a0:w.cell? ⟨R,0,none⟩=some (.slice (some ⟨tb,off,none⟩) (t :: r).length cap):=cell_of (i:=0) h1 rfl;have b0:=h3.c0 0 (by simp);have b1:=h3.c1 0 (by simp);have b2:=h3.c2 0 (by simp);simp only [List.getElem_cons_zero,Nat.zero_mul,DJ] at b0 b1 b2;have hR:=lt_of_heap h1;have hT:=h3.lt;have hl:(0:Int)<((t :: r).length:Int):=by simp
 go_enter Tryz.func98,Tryz.ntmps98;go_wp2_with fail
 exact C0 (v:=.agg #[.int .i64 t.1,.string t.2.1,.int .i64 t.2.2]) (by simp [results,Tryz.results98,go_sem]) rfl ⟨rfl,(CY _ _).alloc (CX _) _⟩
theorem wY (a b:Value) (n:Int) (w:World):(Instr.field 152 (.agg #[a,b,.int .i64 n]) 2).run Tryz.prog w = .ok (.int .i64 n) w:=by kernel_rfl
theorem lL (a c:Value) (b:ByteArray) (w:World):(Instr.field 152 (.agg #[a,.string b,c]) 1).run Tryz.prog w = .ok (.string b) w:=by kernel_rfl
theorem dR (b c:Value) (n:Int) (w:World):(Instr.field 152 (.agg #[.int .i64 n,b,c]) 0).run Tryz.prog w = .ok (.int .i64 n) w:=by kernel_rfl
theorem eN {w:World} {R tb:Nat} {t:Tk} {r:List Tk} {o:Int} (h:au w R tb (t :: r) o) (e:Int):Calls Tryz.prog 128 #[.pointer (some ⟨R,0,none⟩),.int .i64 e] w fun x w'=>x = .returned (.agg #[.int .i64 e,.int .i64 t.2.2])∧Below w.heap.size w w':=by
 have hal:=ab w (.cells #[.int .i64 0,.int .i64 0] 115);have hn:=ar w #[.int .i64 0,.int .i64 0] 115;have con:=iT (h.next hal);go_enter Tryz.func128,Tryz.ntmps128;go_wp2_with fail
 generalize w.alloc (.cells #[.int .i64 0,.int .i64 0] 115)=w1 at *;refine con.mono ?_;rintro x w2 ⟨rfl,hb2⟩;have con2:=eG e t.2.2 w2;have hfl:=wY (.int .i64 t.1) (.string t.2.1) t.2.2 w2;go_wp2_with fail
 refine con2.mono ?_;rintro x w3 ⟨rfl,hb3⟩;have hb:=chain hb2 hb3;have q:=(hb.block _ (lt_of_heap hn)).trans hn;have c0:w3.cell? ⟨w.heap.size,0,none⟩=some (.int .i64 0):=cell_of (i:=0) q rfl;have c1:w3.cell? ⟨w.heap.size,1,none⟩=some (.int .i64 0):=cell_of (i:=1) q rfl;have f0:=C3 w3 w.heap.size 0 _ _ q;have f1:=C3 w3 w.heap.size 1 _ _ q;go_wp2_with fail
 exact C0 (v:=.agg #[.int .i64 e,.int .i64 t.2.2]) (by simp [results,Tryz.results128,go_sem,c0,c1]) rfl ⟨rfl,((chain hal hb).setCell (CX _) _).setCell (CX _) _⟩
theorem au.AS {w:World} {R tb:Nat} {t:Tk} {r:List Tk} {o:Int} (h:au w R tb (t :: r) o):t.1=5∧r = []∨t.1≠5∧kx r:=by
 have:=h.gQ;cases this with
 | last a=>exact .inl ⟨rfl,rfl⟩
 | cons _ _ h1 _ h2=>exact .inr ⟨h1,h2⟩
theorem kA {w:World} {R tb:Nat} {t:Tk} {r:List Tk} {o:Int} (h:au w R tb (t :: r) o):Calls Tryz.prog 154 #[.pointer (some ⟨R,0,none⟩)] w fun x w'=>x = .returned (.agg #[.int .i64 t.1,.string t.2.1,.int .i64 t.2.2])∧au w' R tb (az (t :: r)) o∧af R w w':=by
 obtain ⟨off,cap,h1,h2,h3⟩:=h.ex;have a0:w.cell? ⟨R,0,none⟩=some (.slice (some ⟨tb,off,none⟩) (t :: r).length cap):=cell_of (i:=0) h1 rfl;have f0:=C3 w R 0 _ _ h1;have b0:=h3.c0 0 (by simp);have b1:=h3.c1 0 (by simp);have b2:=h3.c2 0 (by simp);simp only [List.getElem_cons_zero,Nat.zero_mul,DJ] at b0 b1 b2;have hR:=lt_of_heap h1;have hT:=h3.lt;have hl:(0:Int)<((t :: r).length:Int):=by simp
 have HS:=h.AS;rcases HS with ⟨e5,rfl⟩ | ⟨e5,hr⟩
 ·have b5:(t.1 != 5)=false:=by simpa using e5
  go_enter Tryz.func154,Tryz.ntmps154;go_wp2_with fail
  have hb:Below w.heap.size w ((w.alloc (.cells #[.int .i64 5,.string t.2.1,.int .i64 t.2.2] 152)).alloc (.cells #[.int .i64 5,.string t.2.1,.int .i64 t.2.2] 152)):=((CY _ _).alloc (CX _) _).alloc (by simp) _;refine C0 (v:=.agg #[.int .i64 t.1,.string t.2.1,.int .i64 t.2.2]) (by simp [results,Tryz.results154,go_sem,e5]) rfl ⟨rfl,?_,.of hb (by omega)⟩;rw [az,if_pos e5];exact h.next hb
 ·have b5:(t.1 != 5)=true:=by simpa using e5
  have hne:r ≠ []:=by obtain ⟨_,_,rfl⟩:=hr.ne; simp
  have hcap:¬ cap=1:=by
   have:0<r.length:=List.length_pos_iff.2 hne;simp at h2;omega
  have HR:Hid (au w R tb (t :: r) o):=h;clear h;go_enter Tryz.func154,Tryz.ntmps154;go_wp2_with fail
  have H1:=C1 w R 0 _ _ (.slice (some ⟨tb,off+3,none⟩) r.length (cap - 1)) h1;have hb:af R w (w.setCell ⟨R,0,none⟩ (.slice (some ⟨tb,off+3,none⟩) r.length (cap - 1))):=(af.refl _ _).set _ _;have hz:(w.setCell ⟨R,0,none⟩ (.slice (some ⟨tb,off+3,none⟩) r.length (cap - 1))).heap.size=w.heap.size:=World.size_setCell ..;generalize w.setCell ⟨R,0,none⟩ (.slice (some ⟨tb,off+3,none⟩) r.length (cap - 1))=w1 at *
  have hb2:Below w1.heap.size w1 ((w1.alloc (.cells #[.int .i64 t.1,.string t.2.1,.int .i64 t.2.2] 152)).alloc (.cells #[.int .i64 t.1,.string t.2.1,.int .i64 t.2.2] 152)):=((CY _ _).alloc (CX _) _).alloc (by simp) _;have hR1:au w1 R tb r o:=⟨⟨off+3,cap - 1,H1,by simp at h2; omega,(h3.jo hb HR.out.ne).tail⟩,HR.out.ne,hr,by have:=HR.out.small; simp at this; omega,HR.out.gl.jo hb HR.out.r2,HR.out.r2⟩
  refine C0 (v:=.agg #[.int .i64 t.1,.string t.2.1,.int .i64 t.2.2]) (by simp [results,Tryz.results154,go_sem,hz]) rfl ⟨rfl,?_,hb.trans (.of hb2 (by omega))⟩;rw [az,if_neg e5];exact hR1.next hb2
end Go.Proofs.YtoknmnngaackkaaGreatDoor
namespace Go.Proofs.YtoknmnngaackkaaGreatDoor
set_option maxRecDepth 100000
set_option maxHeartbeats 16000000
abbrev Vl:Type:=Int × Int × ByteArray
inductive SX where
 | mk (k:Int) (v:Vl) (aH name:ByteArray) (ks:List SX)
namespace SX
set_option maxRecDepth 100000
set_option maxHeartbeats 16000000
def k:SX→Int | .mk k _ _ _ _=>k
def v:SX→Vl | .mk _ v _ _ _=>v
def aH:SX→ByteArray | .mk _ _ t _ _=>t
def name:SX→ByteArray | .mk _ _ _ n _=>n
def ks:SX→List SX | .mk _ _ _ _ ks=>ks
end SX
abbrev eB:ByteArray:=⟨#[]⟩
abbrev v0:Vl:=(0,0,eB)
def jN:SX:=.mk 0 v0 eB eB []
def nd (k:Int) (l:List SX):SX:=.mk k v0 eB eB l
abbrev kQ:Type:=SX × ByteArray
structure Src where
 kind:Int
 name:ByteArray
 alias:ByteArray
 on:SX
abbrev fB (x:Src) (a:Option Addr) (c:Nat):Array Value:=#[.int .i64 x.kind,.string x.name,.string x.alias,.int .i64 x.on.k,.int .i64 x.on.v.1,.int .i64 x.on.v.2.1,.string x.on.v.2.2,.string x.on.aH,.string x.on.name,.slice a x.on.ks.length c]
structure fD where
 distinct:Bool
 star:Bool
 items:List kQ
 sources:List Src
 aB:Bool
 aG:Bool
 ah:SX
 aj:SX
 group:List SX
abbrev eE (x:fD) (a1 a2 a3 a4 a5:Option Addr) (c1 c2 c3 c4 c5:Nat):Array Value:=#[.bool x.distinct,.bool x.star,.slice a1 x.items.length c1,.slice a2 x.sources.length c2,.bool x.aB,.bool x.aG,.int .i64 x.ah.k,.int .i64 x.ah.v.1,.int .i64 x.ah.v.2.1,.string x.ah.v.2.2,.string x.ah.aH,.string x.ah.name,.slice a3 x.ah.ks.length c3,.int .i64 x.aj.k,.int .i64 x.aj.v.1,.int .i64 x.aj.v.2.1,.string x.aj.v.2.2,.string x.aj.aH,.string x.aj.name,.slice a4 x.aj.ks.length c4,.slice a5 x.group.length c5]
structure j3 where
 parts:List fD
 ops:List Int
 order:List SX
 aE:Int
def mF:j3:=⟨[],[],[],0⟩
abbrev qs:Type:=ByteArray × Int
structure cW where
 kind:Int
 name:ByteArray
 bx:List qs
 query:j3
 rows:List (List Vl)
 aB:Bool
 ah:SX
abbrev du (k:Int) (x:cW) (a1:Option Addr) (c1:Nat) (p1:Option Addr) (d1:Nat) (p2:Option Addr) (d2:Nat) (p3:Option Addr) (d3:Nat) (a2:Option Addr) (c2:Nat) (a3:Option Addr) (c3:Nat):Array Value:=#[.int .i64 k,.string x.name,.slice a1 x.bx.length c1,.slice p1 x.query.parts.length d1,.slice p2 x.query.ops.length d2,.slice p3 x.query.order.length d3,.int .i64 x.query.aE,.slice a2 x.rows.length c2,.bool x.aB,.int .i64 x.ah.k,.int .i64 x.ah.v.1,.int .i64 x.ah.v.2.1,.string x.ah.v.2.2,.string x.ah.aH,.string x.ah.name,.slice a3 x.ah.ks.length c3]
abbrev Er:Type:=Int × Int
abbrev PR (α:Type):Type:=Except Er (α × List Tk)
def cy:List Tk→Tk
 | []=>(5,eB,0)
 | t :: _=>t
def bu (s:ByteArray) (ts:List Tk):Bool:=((cy ts).1 == 1 || (cy ts).1 == 4) && ((cy ts).2.1.toList == s.toList)
def gY (ts:List Tk):Int:=(cy ts).2.2
def bf {α β:Type} (r:PR α) (k:α→List Tk→PR β):PR β :=
 match r with
 | .error e=>.error e
 | .ok (x,ts)=>k x ts
theorem bq {α β:Type} {r:PR α} {x:α} {ts:List Tk} (k:α→List Tk→PR β) (h:r = .ok (x,ts)):bf r k=k x ts:=by rw [h]; rfl
def aS:List ByteArray→List Tk→PR Unit
 | [],ts=>.ok ((),ts)
 | s :: l,ts=>if bu s ts then aS l (az ts) else .error (2,gY ts)
def gK (c:Int):Bool:=decide (97≤c) && decide (c≤122) || c == 95
def fx (c:Int):Bool:=decide (48≤c) && decide (c≤57)
def ez (c:Int):Bool:=c == 32 || c == 9 || c == 10
def gd (c:Int):Bool:=gK c || fx c
def lb (s:ByteArray):List Int:=s.data.toList.map fun c=>(c.toNat:Int)
def eM (f:Int→Bool):List Int→Nat
 | []=>0
 | c :: r=>if f c then eM f r+1 else 0
def bW:List (List UInt8):=[[99,114,101,97,116,101],[116,97,98,108,101],[118,105,101,119],[97,115],[105,110,115,101,114,116],[105,110,116,111],[118,97,108,117,101,115],[100,101,108,101,116,101],[102,114,111,109],[119,104,101,114,101],[115,104,111,119],[115,101,108,101,99,116],[100,105,115,116,105,110,99,116],[103,114,111,117,112],[98,121],[104,97,118,105,110,103],[117,110,105,111,110],[97,108,108],[101,120,99,101,112,116],[111,114,100,101,114],[108,105,109,105,116],[106,111,105,110],[108,101,102,116],[115,101,109,105],[97,110,116,105],[111,110],[97,110,100],[111,114],[110,111,116],[105,115],[110,117,108,108],[116,114,117,101],[102,97,108,115,101],[99,97,115,101],[119,104,101,110],[116,104,101,110],[101,108,115,101],[101,110,100],[99,111,97,108,101,115,99,101],[99,111,117,110,116],[115,117,109],[109,105,110],[109,97,120],[105,110,116],[116,101,120,116],[98,111,111,108]]
def bN (s:ByteArray):Bool:=bW.any fun k=>s.toList == k
def cN (s:ByteArray):Bool:=decide (1≤s.size) && decide (s.size≤12) && gK ((lb s).getD 0 0) && (lb s).all gd && !bN s
def cV (ts:List Tk):PR ByteArray :=
 if (cy ts).1≠1 then .error (2,gY ts) else if cN (cy ts).2.1=false then .error (7,gY ts) else .ok ((cy ts).2.1,az ts)
def dO (ts:List Tk):PR ByteArray:=if bu ⟨#[97,115]⟩ ts then cV (az ts) else .ok (eB,ts)
def cx (s:ByteArray):Int:=(lb s).foldl (fun n c=>n*10+(c - 48)) 0
def dp (least most:Int) (ts:List Tk):PR Int :=
 let sg:=bu ⟨#[45]⟩ ts
 let ts1:=if sg then az ts else ts
 if (cy ts1).1≠2 then .error (2,gY ts1)
 else
  let n:=cx (cy ts1).2.1
  let m:=if sg then -n else n
  if m<least∨most<m then .error (3,gY ts) else .ok (m,az ts1)
def dI (ts:List Tk):Bool:=(cy ts).1 == 2 || (cy ts).1 == 3 || bu ⟨#[45]⟩ ts || bu ⟨#[110,117,108,108]⟩ ts || bu ⟨#[116,114,117,101]⟩ ts || bu ⟨#[102,97,108,115,101]⟩ ts
def bU (ts:List Tk):PR Vl :=
 if (cy ts).1=3 then .ok ((4,0,(cy ts).2.1),az ts)
 else if bu ⟨#[110,117,108,108]⟩ ts then .ok ((1,0,eB),az ts)
 else if bu ⟨#[116,114,117,101]⟩ ts then .ok ((2,1,eB),az ts)
 else if bu ⟨#[102,97,108,115,101]⟩ ts then .ok ((2,0,eB),az ts)
 else bf (dp (-1000000000000000) 1000000000000000 ts) fun n r=>.ok ((3,n,eB),r)
def cJ:List (Int × ByteArray × Int):=[(5,⟨#[111,114]⟩,1),(4,⟨#[97,110,100]⟩,2),(6,⟨#[61]⟩,4),(7,⟨#[60,62]⟩,4),(8,⟨#[60]⟩,4),(9,⟨#[60,61]⟩,4),(10,⟨#[62]⟩,4),(11,⟨#[62,61]⟩,4),(12,⟨#[43]⟩,5),(13,⟨#[45]⟩,5),(14,⟨#[42]⟩,6),(15,⟨#[124,124]⟩,7)]
def cU (lvl:Int) (ts:List Tk):List (Int × ByteArray × Int)→Int × List Tk
 | []=>(0,ts)
 | i :: r=>if i.2.2=lvl∧bu i.2.1 ts=true then (i.1,az ts) else cU lvl ts r
def bT (lvl:Int) (ts:List Tk):Int × List Tk:=cU lvl ts cJ
def hU (x:SX) (ts:List Tk):PR SX :=
 bf (aS [⟨#[110,117,108,108]⟩] (if bu ⟨#[110,111,116]⟩ ts then az ts else ts)) fun _ r=>.ok (if bu ⟨#[110,111,116]⟩ ts then nd 3 [nd 16 [x]] else nd 16 [x],r)
def dP (ts:List Tk):PR SX :=
 bf (cV ts) fun n r=>if bu ⟨#[46]⟩ r then bf (cV (az r)) fun m r2=>.ok (.mk 2 v0 n m [],r2) else .ok (.mk 2 v0 eB n [],r)
abbrev dm {α:Type}:PR α:=.error (-1,0)
mutual
def cY:Nat→Int→List Tk→PR SX
 | 0,_,_=>dm
 | n+1,o,ts=>if o+1 > 100 then .error (4,gY ts) else b9 n 1 (o+1) ts
def dG:Nat→Int→Int→List Tk→PR SX
 | 0,_,_,_=>dm
 | n+1,lvl,o,ts=>if lvl=3 then dz n o ts else if lvl=8 then cE n o ts else b9 n lvl o ts
def b9:Nat→Int→Int→List Tk→PR SX
 | 0,_,_,_=>dm
 | n+1,lvl,o,ts=>bf (dG n (lvl+1) o ts) fun x r=>gE n lvl o x r
def gE:Nat→Int→Int→SX→List Tk→PR SX
 | 0,_,_,_,_=>dm
 | n+1,lvl,o,x,ts=>if (bT lvl ts).1=0 then .ok (x,ts) else bf (dG n (lvl+1) o (bT lvl ts).2) fun y r=>gE n lvl o (nd (bT lvl ts).1 [x,y]) r
def dz:Nat→Int→List Tk→PR SX
 | 0,_,_=>dm
 | n+1,o,ts=>if bu ⟨#[110,111,116]⟩ ts then bf (if o+1 > 100 then .error (4,gY (az ts)) else dz n (o+1) (az ts)) fun x r=>.ok (nd 3 [x],r) else cO n o ts
def cO:Nat→Int→List Tk→PR SX
 | 0,_,_=>dm
 | n+1,o,ts=>bf (b9 n 5 o ts) fun x r=>if bu ⟨#[105,115]⟩ r then hU x (az r) else if (bT 4 r).1=0 then .ok (x,r) else bf (b9 n 5 o (bT 4 r).2) fun y r2=>.ok (nd (bT 4 r).1 [x,y],r2)
def cE:Nat→Int→List Tk→PR SX
 | 0,_,_=>dm
 | n+1,o,ts =>
  if dI ts then bf (bU ts) fun v r=>.ok (.mk 1 v eB eB [],r)
  else if bu ⟨#[40]⟩ ts then bf (cY n o (az ts)) fun x r=>bf (aS [⟨#[41]⟩] r) fun _ r2=>.ok (x,r2)
  else if bu ⟨#[99,97,115,101]⟩ ts then bf (dc n o [⟨#[119,104,101,110]⟩,⟨#[116,104,101,110]⟩,⟨#[101,108,115,101]⟩,⟨#[101,110,100]⟩] (az ts)) fun l r=>.ok (nd 17 l,r)
  else if bu ⟨#[99,111,97,108,101,115,99,101]⟩ ts then bf (dc n o [⟨#[40]⟩,⟨#[44]⟩,⟨#[41]⟩] (az ts)) fun l r=>.ok (nd 18 l,r)
  else if bu ⟨#[99,111,117,110,116]⟩ ts then iC n 20 o (az ts)
  else if bu ⟨#[115,117,109]⟩ ts then iC n 21 o (az ts)
  else if bu ⟨#[109,105,110]⟩ ts then iC n 22 o (az ts)
  else if bu ⟨#[109,97,120]⟩ ts then iC n 23 o (az ts)
  else dP ts
def dc:Nat→Int→List ByteArray→List Tk→PR (List SX)
 | 0,_,_,_=>dm
 | _+1,_,[],_=>dm
 | n+1,o,s :: l,ts=>bf (aS [s] ts) fun _ r=>dA n o l [] r
def dA:Nat→Int→List ByteArray→List SX→List Tk→PR (List SX)
 | 0,_,_,_,_=>dm
 | _+1,_,[],acc,ts=>.ok (acc,ts)
 | n+1,o,s :: l,acc,ts=>bf (cY n o ts) fun x r=>bf (aS [s] r) fun _ r2=>dA n o l (acc ++ [x]) r2
def iC:Nat→Int→Int→List Tk→PR SX
 | 0,_,_,_=>dm
 | n+1,kind,o,ts=>bf (aS [⟨#[40]⟩] ts) fun _ r=>if kind=20∧bu ⟨#[42]⟩ r=true then bf (aS [⟨#[41]⟩] (az r)) fun _ r2=>.ok (nd 19 [],r2)
   else bf (cY n o r) fun x r2=>bf (aS [⟨#[41]⟩] r2) fun _ r3=>.ok (nd kind [x],r3)
end
def aY {α:Type} (one:List Tk→PR α) (most:Int):Nat→List α→List Tk→PR (List α)
 | 0,_,_=>dm
 | n+1,acc,ts=>if bu ⟨#[44]⟩ ts then (if (acc.length:Int) ≥ most then .error (5,gY (az ts)) else bf (one (az ts)) fun x r=>aY one most n (acc ++ [x]) r)
  else .ok (acc,ts)
def bS {α:Type} (one:List Tk→PR α) (most:Int) (n:Nat) (ts:List Tk):PR (List α) :=
 bf (one ts) fun x r=>aY one most n [x] r
def BH:Nat:=100000
def eP (ts:List Tk):PR SX:=cY BH 0 ts
def de (ts:List Tk):PR Int :=
 if bu ⟨#[98,111,111,108]⟩ ts then .ok (2,az ts) else if bu ⟨#[105,110,116]⟩ ts then .ok (3,az ts) else if bu ⟨#[116,101,120,116]⟩ ts then .ok (4,az ts) else .error (2,gY ts)
def db (ts:List Tk):PR qs:=bf (cV ts) fun n r=>bf (de r) fun t r2=>.ok ((n,t),r2)
def im (ts:List Tk):PR (List Vl) :=
 bf (aS [⟨#[40]⟩] ts) fun _ r=>bf (bS bU 8 9 r) fun l r2=>bf (aS [⟨#[41]⟩] r2) fun _ r3=>.ok (l,r3)
def bE (s:ByteArray) (ts:List Tk):PR (Bool × SX) :=
 if bu s ts then bf (eP (az ts)) fun x r=>.ok ((true,x),r) else .ok ((false,jN),ts)
def fI (ts:List Tk):PR kQ:=bf (eP ts) fun x r=>bf (dO r) fun s r2=>.ok ((x,s),r2)
def gm (kind:Int) (ts:List Tk):PR Src:=bf (cV ts) fun n r=>bf (dO r) fun s r2=>.ok (⟨kind,n,s,jN⟩,r2)
def dj (ts:List Tk):PR Int :=
 if bu ⟨#[106,111,105,110]⟩ ts then .ok (2,az ts)
 else if bu ⟨#[115,101,109,105]⟩ ts then bf (aS [⟨#[106,111,105,110]⟩] (az ts)) fun _ r=>.ok (3,r)
 else if bu ⟨#[97,110,116,105]⟩ ts then bf (aS [⟨#[106,111,105,110]⟩] (az ts)) fun _ r=>.ok (4,r)
 else if bu ⟨#[108,101,102,116]⟩ ts then bf (aS [⟨#[106,111,105,110]⟩] (az ts)) fun _ r=>.ok (5,r)
 else .ok (0,ts)
def dN:Nat→List Src→List Tk→PR (List Src)
 | 0,_,_=>dm
 | n+1,acc,ts=>bf (dj ts) fun kind r=>if kind=0 then .ok (acc,r) else if (acc.length:Int) ≥ 4 then .error (5,gY r) else
   bf (gm kind r) fun s r2=>bf (aS [⟨#[111,110]⟩] r2) fun _ r3=>bf (eP r3) fun x r4=>dN n (acc ++ [{ s with on:=x }]) r4
def eH (ts:List Tk):PR (List Src):=bf (gm 1 ts) fun s r=>dN 5 [s] r
def iy (ts:List Tk):PR (List SX) :=
 if bu ⟨#[103,114,111,117,112]⟩ ts then bf (aS [⟨#[98,121]⟩] (az ts)) fun _ r=>bS eP 8 9 r else .ok ([],ts)
def jg (st:Bool) (ts:List Tk):PR (List kQ):=if st then .ok ([],ts) else bS fI 8 9 ts
def ef (ts:List Tk):PR fD :=
 bf (aS [⟨#[115,101,108,101,99,116]⟩] ts) fun _ r0 =>
  let di:=bu ⟨#[100,105,115,116,105,110,99,116]⟩ r0
  let r1:=if di then az r0 else r0
  let st:=bu ⟨#[42]⟩ r1
  let r2:=if st then az r1 else r1
  bf (jg st r2) fun its r3=>bf (aS [⟨#[102,114,111,109]⟩] r3) fun _ r4=>bf (eH r4) fun fs r5=>bf (bE ⟨#[119,104,101,114,101]⟩ r5) fun hw r6=>bf (iy r6) fun gs r8=>bf (bE ⟨#[104,97,118,105,110,103]⟩ r8) fun hh r9 =>
   .ok (⟨di,st,its,fs,hw.1,hh.1,hw.2,hh.2,gs⟩,r9)
def bp (ts:List Tk):Int × List Tk :=
 if bu ⟨#[117,110,105,111,110]⟩ ts then (if bu ⟨#[97,108,108]⟩ (az ts) then (1,az (az ts)) else (2,az ts))
 else if bu ⟨#[101,120,99,101,112,116]⟩ ts then (if bu ⟨#[97,108,108]⟩ (az ts) then (3,az (az ts)) else (4,az ts))
 else (0,ts)
def fa:Nat→List fD→List Int→List Tk→PR (List fD × List Int)
 | 0,_,_,_=>dm
 | n+1,ps,ops,ts=>if (bp ts).1=0 then .ok ((ps,ops),ts) else if (ps.length:Int) ≥ 4 then .error (5,gY (bp ts).2) else
   bf (ef (bp ts).2) fun s r=>fa n (ps ++ [s]) (ops ++ [(bp ts).1]) r
def iA (ts:List Tk):PR j3 :=
 bf (ef ts) fun s r=>bf (fa 5 [s] [] r) fun po r2 =>
  if bu ⟨#[111,114,100,101,114]⟩ r2 then bf (aS [⟨#[98,121]⟩] (az r2)) fun _ r3=>bf (bS eP 8 9 r3) fun l r4=>bf (aS [⟨#[108,105,109,105,116]⟩] r4) fun _ r5=>bf (dp 0 50 r5) fun n r6=>.ok (⟨po.1,po.2,l,n⟩,r6)
  else .ok (⟨po.1,po.2,[],-1⟩,r2)
def gV (ts:List Tk):PR cW :=
 if bu ⟨#[118,105,101,119]⟩ ts then bf (cV (az ts)) fun n r=>bf (aS [⟨#[97,115]⟩] r) fun _ r2=>bf (iA r2) fun q r3=>.ok (⟨2,n,[],q,[],false,jN⟩,r3)
 else bf (aS [⟨#[116,97,98,108,101]⟩] ts) fun _ r=>bf (cV r) fun n r2=>bf (aS [⟨#[40]⟩] r2) fun _ r3=>bf (bS db 8 9 r3) fun l r4=>bf (aS [⟨#[41]⟩] r4) fun _ r5=>.ok (⟨1,n,l,mF,[],false,jN⟩,r5)
def gP (ts:List Tk):PR cW :=
 bf (aS [⟨#[105,110,116,111]⟩] ts) fun _ r=>bf (cV r) fun n r2=>bf (aS [⟨#[118,97,108,117,101,115]⟩] r2) fun _ r3=>bf (bS im 400 401 r3) fun l r4=>.ok (⟨3,n,[],mF,l,false,jN⟩,r4)
def iF (ts:List Tk):PR cW :=
 bf (aS [⟨#[102,114,111,109]⟩] ts) fun _ r=>bf (cV r) fun n r2=>bf (bE ⟨#[119,104,101,114,101]⟩ r2) fun hw r3=>.ok (⟨4,n,[],mF,[],hw.1,hw.2⟩,r3)
def dD (ts:List Tk):PR cW :=
 if bu ⟨#[99,114,101,97,116,101]⟩ ts then gV (az ts)
 else if bu ⟨#[105,110,115,101,114,116]⟩ ts then gP (az ts)
 else if bu ⟨#[100,101,108,101,116,101]⟩ ts then iF (az ts)
 else if bu ⟨#[115,104,111,119]⟩ ts then bf (iA (az ts)) fun q r=>.ok (⟨5,eB,[],q,[],false,jN⟩,r)
 else .error (2,gY ts)
def cT:Nat→List cW→List Tk→PR (List cW)
 | 0,_,_=>dm
 | n+1,acc,ts=>if (cy ts).1=5 then .ok (acc,ts) else if (acc.length:Int) ≥ 60 then .error (5,gY ts) else
   bf (dD ts) fun s r=>bf (aS [⟨#[59]⟩] r) fun _ r2=>cT n (acc ++ [s]) r2
end Go.Proofs.YtoknmnngaackkaaGreatDoor
namespace Go.Proofs.YtoknmnngaackkaaGreatDoor
open Go.RowKit Go.Lib Go.Shelf
set_option maxRecDepth 100000
set_option maxHeartbeats 16000000
set_option maxRecDepth 100000
set_option maxHeartbeats 4000000
def Ends {α:Type} (R tb:Nat) (o:Int) (w:World) (V:World→Value→α→Prop) (r:PR α) (e:Ending) (w':World):Prop :=
 af R w w'∧match r with
  | .ok (x,ts)=>∃ v,e = .returned v∧V w' v x∧au w' R tb ts o
  | .error c=>e = .panicked [gn c.1 c.2]∧∃ ts,au w' R tb ts o
theorem gX {w:World} {R tb:Nat} {ts:List Tk} {o:Int} (h:au w R tb ts o) (s:ByteArray):Calls Tryz.prog 153 #[.pointer (some ⟨R,0,none⟩),.string s] w fun e w'=>e = .returned (.bool (bu s ts))∧Below w.heap.size w w':=by
 obtain ⟨t,r,rfl⟩:=h.gQ.ne;have con:=iT h;unfold bu cy;go_enter Tryz.func153,Tryz.ntmps153;go_wp2_with fail
 refine con.mono ?_;rintro e w1 ⟨rfl,hb1⟩;clear con;have hb2:∀ x,Below w.heap.size w (w1.alloc x):=fun x=>chain hb1 ((CY _ _).alloc (CX _) _)
 by_cases h1:t.1=1
 ·have b1:(t.1 == 1)=true:=by simpa using h1
  go_wp2_with fail
  exact C0 (results_tmp rfl _ _ _) rfl ⟨by simp [b1],hb2 _⟩
 ·have b1:(t.1 == 1)=false:=by simpa using h1
  by_cases h4:t.1=4
  ·have b4:(t.1 == 4)=true:=by simpa using h4
   go_wp2_with fail
   exact C0 (results_tmp rfl _ _ _) rfl ⟨by simp [b1,b4],hb2 _⟩
  ·have b4:(t.1 == 4)=false:=by simpa using h4
   go_wp2_with fail
   exact C0 (results_tmp rfl _ _ _) rfl ⟨by simp [b1,b4],hb2 _⟩
def dM (s:ByteArray) (ts:List Tk):List Tk:=if bu s ts then az ts else ts
theorem bP {s:ByteArray} {ts:List Tk} (h:bu s ts=true):dM s ts=az ts:=by rw [dM,h]; rfl
theorem bC {s:ByteArray} {ts:List Tk} (h:bu s ts=false):dM s ts=ts:=by rw [dM,h]; rfl
theorem aM {w:World} {R tb:Nat} {ts:List Tk} {o:Int} (h:au w R tb ts o) (s:ByteArray):Calls Tryz.prog 129 #[.pointer (some ⟨R,0,none⟩),.string s] w fun e w'=>e = .returned (.bool (bu s ts))∧au w' R tb (dM s ts) o∧af R w w':=by
 have con:=gX h s;have hR:=h.lt;have HR:Hid (au w R tb ts o):=h;clear h;unfold dM;rcases hi:bu s ts with _ | _
 ·rw [hi] at con;go_enter Tryz.func129,Tryz.ntmps129;go_wp2_with fail
  refine con.mono ?_;rintro e w1 ⟨rfl,hb1⟩;go_wp2_with fail
  exact C0 (results_tmp rfl _ _ _) rfl ⟨rfl,by simpa using HR.out.next hb1,.of hb1 (by omega)⟩
 ·rw [hi] at con;obtain ⟨t,r,rfl⟩:=HR.out.gQ.ne;go_enter Tryz.func129,Tryz.ntmps129;go_wp2_with fail
  refine con.mono ?_;rintro e w1 ⟨rfl,hb1⟩;have con2:=kA (HR.out.next hb1);go_wp2_with fail
  refine con2.mono ?_;rintro e w2 ⟨rfl,h2,hb2⟩;have hx:af R w w2:=(af.of hb1 (by omega)).trans hb2;go_wp2_with fail
  exact C0 (results_tmp rfl _ _ _) rfl ⟨rfl,by simpa using h2,hx⟩
theorem fH {w:World} {R tb:Nat} {ts:List Tk} {o:Int} (h:au w R tb ts o) {n most:Int} (hn:n ≥ most):Calls Tryz.prog 99 #[.pointer (some ⟨R,0,none⟩),.int .i64 n,.int .i64 most] w fun e w'=>e = .panicked [gn 5 (gY ts)]∧Below w.heap.size w w':=by
 obtain ⟨t,r,rfl⟩:=h.gQ.ne;have con:=eN h 5;have hn':most≤n:=hn;clear h;go_enter Tryz.func99,Tryz.ntmps99;go_wp2_with fail
 refine con.mono ?_;rintro e w1 ⟨rfl,hb1⟩;go_wp2_with fail
 exact ⟨rfl,rfl,hb1⟩
theorem hX {w:World} {R:Nat} {n most:Int} (hn:n<most):Calls Tryz.prog 99 #[.pointer (some ⟨R,0,none⟩),.int .i64 n,.int .i64 most] w fun e w'=>e = .returned (.tuple #[])∧Below w.heap.size w w':=by
 have hn':¬ most≤n:=by omega
 go_enter Tryz.func99,Tryz.ntmps99;go_wp2_with fail
 go_end0
 exact ⟨rfl,CY _ _⟩
structure cj (W:World) (b off:Nat) (l:List ByteArray):Prop where
 lt:b<W.heap.size
 c:∀ i (h:i<l.length),W.cell? ⟨b,off+i,none⟩=some (.string l[i])
theorem cj.jo {W w1:World} {t b off:Nat} {l:List ByteArray} (h:cj W b off l) (hb:af t W w1) (hn:b≠t):cj w1 b off l :=
 ⟨Dg h.lt hb.size,fun i hi=>(hb.cell (p:=⟨b,_,none⟩) h.lt hn).trans (h.c i hi)⟩
theorem cj.one (w:World) (s:ByteArray) (T:TypeId):cj (w.alloc (.cells #[.string s] T)) w.heap.size 0 [s] :=
 ⟨by simp,fun i hi=>by
  obtain rfl:i=0:=by simpa using hi
  exact cell_of (i:=0) (ar w _ T) rfl⟩
def CI (_:World) (v:Value) (_:Unit):Prop:=v = .tuple #[]
theorem cz {w:World} {R tb:Nat} {ts:List Tk} {o:Int} (h:au w R tb ts o) {b off cap:Nat} {l:List ByteArray} (hs:cj w b off l) (hb:b≠R) (hl:l.length≤100):Calls Tryz.prog 101 #[.pointer (some ⟨R,0,none⟩),.slice (some ⟨b,off,none⟩) l.length cap] w (Ends R tb o w CI (aS l ts)):=by
 have HR:Hid (au w R tb ts o):=h;have HS:Hid (cj w b off l):=hs;generalize hM:aS l ts=M;have HM:Hid (aS l ts=M):=hM;clear h hs hM;go_enter Tryz.func101,Tryz.ntmps101;go_wp2_with fail
 go_loopw [8] (fun i wr=>∃ k:Nat,k≤l.length∧i = .int .i64 k∧af R w wr∧Hid (∃ us,au wr R tb us o∧aS (l.drop k) us=M)) (fun i _=>l.length - (intOf i).toNat)
 case atStart=>exact ⟨0,Dm _,rfl,af.refl _ _,ts,HR.out,by simpa using HM.out⟩
 case round =>
  obtain ⟨k,hk,rfl,hx,HU⟩:=hrel;by_cases hlt:k<l.length
  ·have c0:=(HS.out.jo hx hb).c k hlt;have hkz:(k:Int)<(l.length:Int):=by omega
   obtain ⟨us,hu,hm⟩:=HU.out;have HD:Hid (aS (l[k] :: l.drop (k+1)) us=M):=by show _=_; rw [← hm,Da hlt]
   have HUS:Hid (au wr R tb us o):=hu;have con:=aM hu l[k];clear HU hm hu;rcases hi:bu l[k] us with _ | _
   ·rw [hi] at con;have e:M = .error (2,gY us):=by rw [← HD.out,aS,hi]; rfl
    subst e;clear HD;go_wp2_with fail
    refine con.mono ?_;rintro e w1 ⟨rfl,h1,hx1⟩;unfold dM at h1;rw [hi] at h1;obtain ⟨t,r,rfl⟩:=HUS.out.gQ.ne;have con2:=eN h1 2;have H1:Hid (au w1 R tb (t :: r) o):=h1;clear con h1;go_wp2_with fail
    refine con2.mono ?_;rintro e w2 ⟨rfl,hb2⟩;go_wp2_with fail
    exact ⟨rfl,(hx.trans hx1).trans (.of hb2 (Dt (Dd HUS.out.lt) hx1.size)),rfl,_,H1.out.next hb2⟩
   ·rw [hi] at con;have HD2:Hid (aS (l.drop (k+1)) (az us)=M):=by show _=_; rw [← HD.out]; simp only [aS,hi,if_true]
    clear HD;go_wp2_with fail
    refine con.mono ?_;rintro e w1 ⟨rfl,h1,hx1⟩;unfold dM at h1;rw [hi] at h1;have H1:Hid (au w1 R tb (az us) o):=h1;clear con h1;go_wp2_with fail
    go_roundw
    case rel=>exact ⟨k+1,by omega,by go_num,hx.trans hx1,_,H1.out,HD2.out⟩
    case measure=>simp [intOf]; omega
  ·have hkz:¬ (k:Int)<(l.length:Int):=by omega
   obtain ⟨us,hu,hm⟩:=HU.out;rw [Dh (by omega),aS] at hm;subst hm;have HUS:Hid (au wr R tb us o):=hu;clear HU hu;go_wp2_with fail
   go_end0
   exact ⟨hx,_,rfl,rfl,HUS.out⟩
theorem ko (s:ByteArray):(lb s).length=s.size:=by rw [lb,DG]; exact Dl
theorem sK {s:ByteArray} {k:Nat} (h:k<s.size):(lb s)[k]'(by rw [ko]; exact h)=((s[k].toNat:Nat):Int):=by
 simp only [lb,List.getElem_map,Array.getElem_toList];rfl
theorem xy {s:ByteArray} {k:Nat} (h:k<s.size):(lb s).drop k=((s[k].toNat:Nat):Int) :: (lb s).drop (k+1):=by
 rw [Da (by rw [ko]; exact h),sK h]
theorem jT (c:Int) (w:World):Calls Tryz.prog 46 #[.int .u8 c] w fun e w'=>e = .returned (.bool (gK c))∧w'=w:=by
 generalize hr:gK c=r;have HR:Hid (gK c=r):=hr;clear hr;by_cases h1:97≤c
 ·by_cases h2:c≤122
  ·go_enter Tryz.func46,Tryz.ntmps46;go_wp2_with fail
   exact C0 (results_tmp rfl _ _ _) rfl ⟨by rw [← HR.out]; simp [gK,h1,h2],rfl⟩
  ·go_enter Tryz.func46,Tryz.ntmps46;go_wp2_with fail
   exact C0 (results_tmp rfl _ _ _) rfl ⟨by rw [← HR.out,gK,decide_eq_false (show ¬ c≤122 by omega)]; simp,rfl⟩
 ·go_enter Tryz.func46,Tryz.ntmps46;go_wp2_with fail
  exact C0 (results_tmp rfl _ _ _) rfl ⟨by rw [← HR.out,gK,decide_eq_false (show ¬ 97≤c by omega)]; simp,rfl⟩
theorem kY (c:Int) (w:World):Calls Tryz.prog 85 #[.int .u8 c] w fun e w'=>e = .returned (.bool (fx c))∧w'=w:=by
 generalize hr:fx c=r;have HR:Hid (fx c=r):=hr;clear hr;by_cases h1:48≤c
 ·go_enter Tryz.func85,Tryz.ntmps85;go_wp2_with fail
  exact C0 (results_tmp rfl _ _ _) rfl ⟨by rw [← HR.out,fx,decide_eq_true (show 48≤c by omega)]; simp,rfl⟩
 ·go_enter Tryz.func85,Tryz.ntmps85;go_wp2_with fail
  exact C0 (results_tmp rfl _ _ _) rfl ⟨by rw [← HR.out,fx,decide_eq_false (show ¬ 48≤c by omega)]; simp,rfl⟩
theorem nD (c:Int) (w:World):Calls Tryz.prog 96 #[.int .u8 c] w fun e w'=>e = .returned (.bool (ez c))∧w'=w:=by
 generalize hr:ez c=r;have HR:Hid (ez c=r):=hr;clear hr;rcases h1:c == 32 with _ | _
 ·rcases h2:c == 9 with _ | _
  ·go_enter Tryz.func96,Tryz.ntmps96;go_wp2_with fail
   exact C0 (results_tmp rfl _ _ _) rfl ⟨by rw [← HR.out,ez,h1,h2]; simp,rfl⟩
  ·go_enter Tryz.func96,Tryz.ntmps96;go_wp2_with fail
   exact C0 (results_tmp rfl _ _ _) rfl ⟨by rw [← HR.out,ez,h1,h2]; simp,rfl⟩
 ·go_enter Tryz.func96,Tryz.ntmps96;go_wp2_with fail
  exact C0 (results_tmp rfl _ _ _) rfl ⟨by rw [← HR.out,ez,h1]; simp,rfl⟩
theorem xp (c:Int) (w:World):Calls Tryz.prog 84 #[.int .u8 c] w fun e w'=>e = .returned (.bool (gd c))∧w'=w:=by
 generalize hr:gd c=r;have HR:Hid (gd c=r):=hr;clear hr;have con:=jT c w;rcases h1:gK c with _ | _ <;> rw [h1] at con
 ·go_enter Tryz.func84,Tryz.ntmps84;go_wp2_with fail
  refine con.mono ?_;rintro e w1 ⟨rfl,rfl⟩;have con2:=kY c w1;go_wp2_with fail
  refine con2.mono ?_;rintro e w2 ⟨rfl,rfl⟩;go_wp2_with fail
  exact C0 (results_tmp rfl _ _ _) rfl ⟨by rw [← HR.out,gd,h1]; simp,rfl⟩
 ·go_enter Tryz.func84,Tryz.ntmps84;go_wp2_with fail
  refine con.mono ?_;rintro e w1 ⟨rfl,rfl⟩;go_wp2_with fail
  exact C0 (results_tmp rfl _ _ _) rfl ⟨by rw [← HR.out,gd,h1]; simp,rfl⟩
def Cf (g:Nat) (f:Int→Bool):Prop:=∀ (c:Int) (w:World),Calls Tryz.prog g #[.int .u8 c] w fun e w'=>e = .returned (.bool (f c))∧w'=w
theorem lP (g:Nat) (eg:∀ (args:Array Value) (w:World),Sem.run Tryz.prog (callFunc g args) w=Result.ok (Next.enter g args) w) (f:Int→Bool) (hf:Cf g f) (s:ByteArray) (i:Nat) (hi:i≤s.size) (hs:s.size≤4000) (w:World) :
  Calls Tryz.prog 83 #[.string s,.int .i64 i,.func (.func g) #[] #[]] w fun e w'=>e = .returned (.int .i64 ((i+eM f ((lb s).drop i):Nat):Int))∧w'=w:=by
 generalize hr:i+eM f ((lb s).drop i)=r;have HR:Hid (i+eM f ((lb s).drop i)=r):=hr;clear hr;go_enter Tryz.func83,Tryz.ntmps83;go_wp2_with fail
 go_loopw [1] (fun x wr=>∃ k:Nat,k≤s.size∧x = .int .i64 k∧wr=w∧Hid (k+eM f ((lb s).drop k)=r)) (fun x _=>s.size - (intOf x).toNat)
 case atStart=>exact ⟨i,hi,rfl,rfl,HR⟩
 case round =>
  obtain ⟨k,hk,rfl,rfl,HK⟩:=hrel;by_cases hlt:k<s.size
  ·have hkz:(k:Int)<(s.size:Int):=by omega
   have HD:Hid (k+(if f ((s[k].toNat:Nat):Int) then eM f ((lb s).drop (k+1))+1 else 0)=r):=by show _=_; rw [← HK.out,xy hlt,eM]
   have con:=hf ((s[k].toNat:Nat):Int) wr;clear HK;rcases hc:f ((s[k].toNat:Nat):Int) with _ | _ <;> rw [hc] at con HD
   ·obtain rfl:k=r:=by simpa using HD.out
    go_wp2_with fail
    refine con.mono ?_;rintro e w1 ⟨rfl,rfl⟩;go_wp2_with fail
    exact C0 (results_tmp rfl _ _ _) rfl ⟨by first | rfl | trivial,by first | rfl | trivial⟩
   ·have HD2:Hid (k+1+eM f ((lb s).drop (k+1))=r):=by show _=_; rw [← HD.out,if_pos rfl]; omega
    clear HD;go_wp2_with fail
    refine con.mono ?_;rintro e w1 ⟨rfl,rfl⟩;go_wp2_with fail
    go_roundw
    case rel=>exact ⟨k+1,by omega,by go_num,by first | rfl | trivial,HD2⟩
    case measure=>simp [intOf]; omega
  ·have hkz:¬ (k:Int)<(s.size:Int):=by omega
   obtain rfl:k=r:=by
    have:=HK.out;rw [Dh (by rw [ko]; omega)] at this
    simpa [eM] using this
   go_wp2_with fail
   exact C0 (results_tmp rfl _ _ _) rfl ⟨by first | rfl | trivial,by first | rfl | trivial⟩
theorem mN (s:ByteArray) (i:Nat) (hi:i≤s.size) (hs:s.size≤4000) (w:World):Calls Tryz.prog 47 #[.string s,.int .i64 i] w fun e w'=>e = .returned (.int .i64 ((i+eM gd ((lb s).drop i):Nat):Int))∧w'=w:=by
 have con:=lP 84 (fun _ _=>by kernel_rfl) gd (fun c w=>xp c w) s i hi hs w;generalize i+eM gd ((lb s).drop i)=r at *;go_enter Tryz.func47,Tryz.ntmps47;go_wp2_with fail
 refine con.mono ?_;rintro e w1 ⟨rfl,rfl⟩;go_wp2_with fail
 exact C0 (results_tmp rfl _ _ _) rfl ⟨by first | rfl | trivial,by first | rfl | trivial⟩
theorem xk (s:ByteArray) (w:World):Calls Tryz.prog 48 #[.string s] w fun e w'=>e = .returned (.bool (bN s))∧w'=w:=by
 generalize hr:bN s=r;have HR:Hid (bN s=r):=hr;clear hr;rcases h0:s.toList == [99,114,101,97,116,101] with _ | _
 case true =>
  have e:r=true:=by rw [← HR.out]; simp only [bN,bW,Db,h0,Df]
  subst e;clear HR;go_enter Tryz.func48,Tryz.ntmps48;go_wp2_with fail
  exact C0 (results_tmp rfl _ _ _) rfl ⟨by first | rfl | trivial,by first | rfl | trivial⟩
 rcases h1:s.toList == [116,97,98,108,101] with _ | _
 case true =>
  have e:r=true:=by rw [← HR.out]; simp only [bN,bW,Db,h0,h1,Df,Di]
  subst e;clear HR;go_enter Tryz.func48,Tryz.ntmps48;go_wp2_with fail
  exact C0 (results_tmp rfl _ _ _) rfl ⟨by first | rfl | trivial,by first | rfl | trivial⟩
 rcases h2:s.toList == [118,105,101,119] with _ | _
 case true =>
  have e:r=true:=by rw [← HR.out]; simp only [bN,bW,Db,h0,h1,h2,Df,Di]
  subst e;clear HR;go_enter Tryz.func48,Tryz.ntmps48;go_wp2_with fail
  exact C0 (results_tmp rfl _ _ _) rfl ⟨by first | rfl | trivial,by first | rfl | trivial⟩
 rcases h3:s.toList == [97,115] with _ | _
 case true =>
  have e:r=true:=by rw [← HR.out]; simp only [bN,bW,Db,h0,h1,h2,h3,Df,Di]
  subst e;clear HR;go_enter Tryz.func48,Tryz.ntmps48;go_wp2_with fail
  exact C0 (results_tmp rfl _ _ _) rfl ⟨by first | rfl | trivial,by first | rfl | trivial⟩
 rcases h4:s.toList == [105,110,115,101,114,116] with _ | _
 case true =>
  have e:r=true:=by rw [← HR.out]; simp only [bN,bW,Db,h0,h1,h2,h3,h4,Df,Di]
  subst e;clear HR;go_enter Tryz.func48,Tryz.ntmps48;go_wp2_with fail
  exact C0 (results_tmp rfl _ _ _) rfl ⟨by first | rfl | trivial,by first | rfl | trivial⟩
 rcases h5:s.toList == [105,110,116,111] with _ | _
 case true =>
  have e:r=true:=by rw [← HR.out]; simp only [bN,bW,Db,h0,h1,h2,h3,h4,h5,Df,Di]
  subst e;clear HR;go_enter Tryz.func48,Tryz.ntmps48;go_wp2_with fail
  exact C0 (results_tmp rfl _ _ _) rfl ⟨by first | rfl | trivial,by first | rfl | trivial⟩
 rcases h6:s.toList == [118,97,108,117,101,115] with _ | _
 case true =>
  have e:r=true:=by rw [← HR.out]; simp only [bN,bW,Db,h0,h1,h2,h3,h4,h5,h6,Df,Di]
  subst e;clear HR;go_enter Tryz.func48,Tryz.ntmps48;go_wp2_with fail
  exact C0 (results_tmp rfl _ _ _) rfl ⟨by first | rfl | trivial,by first | rfl | trivial⟩
 rcases h7:s.toList == [100,101,108,101,116,101] with _ | _
 case true =>
  have e:r=true:=by rw [← HR.out]; simp only [bN,bW,Db,h0,h1,h2,h3,h4,h5,h6,h7,Df,Di]
  subst e;clear HR;go_enter Tryz.func48,Tryz.ntmps48;go_wp2_with fail
  exact C0 (results_tmp rfl _ _ _) rfl ⟨by first | rfl | trivial,by first | rfl | trivial⟩
 rcases h8:s.toList == [102,114,111,109] with _ | _
 case true =>
  have e:r=true:=by rw [← HR.out]; simp only [bN,bW,Db,h0,h1,h2,h3,h4,h5,h6,h7,h8,Df,Di]
  subst e;clear HR;go_enter Tryz.func48,Tryz.ntmps48;go_wp2_with fail
  exact C0 (results_tmp rfl _ _ _) rfl ⟨by first | rfl | trivial,by first | rfl | trivial⟩
 rcases h9:s.toList == [119,104,101,114,101] with _ | _
 case true =>
  have e:r=true:=by rw [← HR.out]; simp only [bN,bW,Db,h0,h1,h2,h3,h4,h5,h6,h7,h8,h9,Df,Di]
  subst e;clear HR;go_enter Tryz.func48,Tryz.ntmps48;go_wp2_with fail
  exact C0 (results_tmp rfl _ _ _) rfl ⟨by first | rfl | trivial,by first | rfl | trivial⟩
 rcases h10:s.toList == [115,104,111,119] with _ | _
 case true =>
  have e:r=true:=by rw [← HR.out]; simp only [bN,bW,Db,h0,h1,h2,h3,h4,h5,h6,h7,h8,h9,h10,Df,Di]
  subst e;clear HR;go_enter Tryz.func48,Tryz.ntmps48;go_wp2_with fail
  exact C0 (results_tmp rfl _ _ _) rfl ⟨by first | rfl | trivial,by first | rfl | trivial⟩
 rcases h11:s.toList == [115,101,108,101,99,116] with _ | _
 case true =>
  have e:r=true:=by rw [← HR.out]; simp only [bN,bW,Db,h0,h1,h2,h3,h4,h5,h6,h7,h8,h9,h10,h11,Df,Di]
  subst e;clear HR;go_enter Tryz.func48,Tryz.ntmps48;go_wp2_with fail
  exact C0 (results_tmp rfl _ _ _) rfl ⟨by first | rfl | trivial,by first | rfl | trivial⟩
 rcases h12:s.toList == [100,105,115,116,105,110,99,116] with _ | _
 case true =>
  have e:r=true:=by rw [← HR.out]; simp only [bN,bW,Db,h0,h1,h2,h3,h4,h5,h6,h7,h8,h9,h10,h11,h12,Df,Di]
  subst e;clear HR;go_enter Tryz.func48,Tryz.ntmps48;go_wp2_with fail
  exact C0 (results_tmp rfl _ _ _) rfl ⟨by first | rfl | trivial,by first | rfl | trivial⟩
 rcases h13:s.toList == [103,114,111,117,112] with _ | _
 case true =>
  have e:r=true:=by rw [← HR.out]; simp only [bN,bW,Db,h0,h1,h2,h3,h4,h5,h6,h7,h8,h9,h10,h11,h12,h13,Df,Di]
  subst e;clear HR;go_enter Tryz.func48,Tryz.ntmps48;go_wp2_with fail
  exact C0 (results_tmp rfl _ _ _) rfl ⟨by first | rfl | trivial,by first | rfl | trivial⟩
 rcases h14:s.toList == [98,121] with _ | _
 case true =>
  have e:r=true:=by rw [← HR.out]; simp only [bN,bW,Db,h0,h1,h2,h3,h4,h5,h6,h7,h8,h9,h10,h11,h12,h13,h14,Df,Di]
  subst e;clear HR;go_enter Tryz.func48,Tryz.ntmps48;go_wp2_with fail
  exact C0 (results_tmp rfl _ _ _) rfl ⟨by first | rfl | trivial,by first | rfl | trivial⟩
 rcases h15:s.toList == [104,97,118,105,110,103] with _ | _
 case true =>
  have e:r=true:=by rw [← HR.out]; simp only [bN,bW,Db,h0,h1,h2,h3,h4,h5,h6,h7,h8,h9,h10,h11,h12,h13,h14,h15,Df,Di]
  subst e;clear HR;go_enter Tryz.func48,Tryz.ntmps48;go_wp2_with fail
  exact C0 (results_tmp rfl _ _ _) rfl ⟨by first | rfl | trivial,by first | rfl | trivial⟩
 rcases h16:s.toList == [117,110,105,111,110] with _ | _
 case true =>
  have e:r=true:=by rw [← HR.out]; simp only [bN,bW,Db,h0,h1,h2,h3,h4,h5,h6,h7,h8,h9,h10,h11,h12,h13,h14,h15,h16,Df,Di]
  subst e;clear HR;go_enter Tryz.func48,Tryz.ntmps48;go_wp2_with fail
  exact C0 (results_tmp rfl _ _ _) rfl ⟨by first | rfl | trivial,by first | rfl | trivial⟩
 rcases h17:s.toList == [97,108,108] with _ | _
 case true =>
  have e:r=true:=by rw [← HR.out]; simp only [bN,bW,Db,h0,h1,h2,h3,h4,h5,h6,h7,h8,h9,h10,h11,h12,h13,h14,h15,h16,h17,Df,Di]
  subst e;clear HR;go_enter Tryz.func48,Tryz.ntmps48;go_wp2_with fail
  exact C0 (results_tmp rfl _ _ _) rfl ⟨by first | rfl | trivial,by first | rfl | trivial⟩
 rcases h18:s.toList == [101,120,99,101,112,116] with _ | _
 case true =>
  have e:r=true:=by rw [← HR.out]; simp only [bN,bW,Db,h0,h1,h2,h3,h4,h5,h6,h7,h8,h9,h10,h11,h12,h13,h14,h15,h16,h17,h18,Df,Di]
  subst e;clear HR;go_enter Tryz.func48,Tryz.ntmps48;go_wp2_with fail
  exact C0 (results_tmp rfl _ _ _) rfl ⟨by first | rfl | trivial,by first | rfl | trivial⟩
 rcases h19:s.toList == [111,114,100,101,114] with _ | _
 case true =>
  have e:r=true:=by rw [← HR.out]; simp only [bN,bW,Db,h0,h1,h2,h3,h4,h5,h6,h7,h8,h9,h10,h11,h12,h13,h14,h15,h16,h17,h18,h19,Df,Di]
  subst e;clear HR;go_enter Tryz.func48,Tryz.ntmps48;go_wp2_with fail
  exact C0 (results_tmp rfl _ _ _) rfl ⟨by first | rfl | trivial,by first | rfl | trivial⟩
 rcases h20:s.toList == [108,105,109,105,116] with _ | _
 case true =>
  have e:r=true:=by rw [← HR.out]; simp only [bN,bW,Db,h0,h1,h2,h3,h4,h5,h6,h7,h8,h9,h10,h11,h12,h13,h14,h15,h16,h17,h18,h19,h20,Df,Di]
  subst e;clear HR;go_enter Tryz.func48,Tryz.ntmps48;go_wp2_with fail
  exact C0 (results_tmp rfl _ _ _) rfl ⟨by first | rfl | trivial,by first | rfl | trivial⟩
 rcases h21:s.toList == [106,111,105,110] with _ | _
 case true =>
  have e:r=true:=by rw [← HR.out]; simp only [bN,bW,Db,h0,h1,h2,h3,h4,h5,h6,h7,h8,h9,h10,h11,h12,h13,h14,h15,h16,h17,h18,h19,h20,h21,Df,Di]
  subst e;clear HR;go_enter Tryz.func48,Tryz.ntmps48;go_wp2_with fail
  exact C0 (results_tmp rfl _ _ _) rfl ⟨by first | rfl | trivial,by first | rfl | trivial⟩
 rcases h22:s.toList == [108,101,102,116] with _ | _
 case true =>
  have e:r=true:=by rw [← HR.out]; simp only [bN,bW,Db,h0,h1,h2,h3,h4,h5,h6,h7,h8,h9,h10,h11,h12,h13,h14,h15,h16,h17,h18,h19,h20,h21,h22,Df,Di]
  subst e;clear HR;go_enter Tryz.func48,Tryz.ntmps48;go_wp2_with fail
  exact C0 (results_tmp rfl _ _ _) rfl ⟨by first | rfl | trivial,by first | rfl | trivial⟩
 rcases h23:s.toList == [115,101,109,105] with _ | _
 case true =>
  have e:r=true:=by rw [← HR.out]; simp only [bN,bW,Db,h0,h1,h2,h3,h4,h5,h6,h7,h8,h9,h10,h11,h12,h13,h14,h15,h16,h17,h18,h19,h20,h21,h22,h23,Df,Di]
  subst e;clear HR;go_enter Tryz.func48,Tryz.ntmps48;go_wp2_with fail
  exact C0 (results_tmp rfl _ _ _) rfl ⟨by first | rfl | trivial,by first | rfl | trivial⟩
 rcases h24:s.toList == [97,110,116,105] with _ | _
 case true =>
  have e:r=true:=by rw [← HR.out]; simp only [bN,bW,Db,h0,h1,h2,h3,h4,h5,h6,h7,h8,h9,h10,h11,h12,h13,h14,h15,h16,h17,h18,h19,h20,h21,h22,h23,h24,Df,Di]
  subst e;clear HR;go_enter Tryz.func48,Tryz.ntmps48;go_wp2_with fail
  exact C0 (results_tmp rfl _ _ _) rfl ⟨by first | rfl | trivial,by first | rfl | trivial⟩
 rcases h25:s.toList == [111,110] with _ | _
 case true =>
  have e:r=true:=by rw [← HR.out]; simp only [bN,bW,Db,h0,h1,h2,h3,h4,h5,h6,h7,h8,h9,h10,h11,h12,h13,h14,h15,h16,h17,h18,h19,h20,h21,h22,h23,h24,h25,Df,Di]
  subst e;clear HR;go_enter Tryz.func48,Tryz.ntmps48;go_wp2_with fail
  exact C0 (results_tmp rfl _ _ _) rfl ⟨by first | rfl | trivial,by first | rfl | trivial⟩
 rcases h26:s.toList == [97,110,100] with _ | _
 case true =>
  have e:r=true:=by rw [← HR.out]; simp only [bN,bW,Db,h0,h1,h2,h3,h4,h5,h6,h7,h8,h9,h10,h11,h12,h13,h14,h15,h16,h17,h18,h19,h20,h21,h22,h23,h24,h25,h26,Df,Di]
  subst e;clear HR;go_enter Tryz.func48,Tryz.ntmps48;go_wp2_with fail
  exact C0 (results_tmp rfl _ _ _) rfl ⟨by first | rfl | trivial,by first | rfl | trivial⟩
 rcases h27:s.toList == [111,114] with _ | _
 case true =>
  have e:r=true:=by rw [← HR.out]; simp only [bN,bW,Db,h0,h1,h2,h3,h4,h5,h6,h7,h8,h9,h10,h11,h12,h13,h14,h15,h16,h17,h18,h19,h20,h21,h22,h23,h24,h25,h26,h27,Df,Di]
  subst e;clear HR;go_enter Tryz.func48,Tryz.ntmps48;go_wp2_with fail
  exact C0 (results_tmp rfl _ _ _) rfl ⟨by first | rfl | trivial,by first | rfl | trivial⟩
 rcases h28:s.toList == [110,111,116] with _ | _
 case true =>
  have e:r=true:=by rw [← HR.out]; simp only [bN,bW,Db,h0,h1,h2,h3,h4,h5,h6,h7,h8,h9,h10,h11,h12,h13,h14,h15,h16,h17,h18,h19,h20,h21,h22,h23,h24,h25,h26,h27,h28,Df,Di]
  subst e;clear HR;go_enter Tryz.func48,Tryz.ntmps48;go_wp2_with fail
  exact C0 (results_tmp rfl _ _ _) rfl ⟨by first | rfl | trivial,by first | rfl | trivial⟩
 rcases h29:s.toList == [105,115] with _ | _
 case true =>
  have e:r=true:=by rw [← HR.out]; simp only [bN,bW,Db,h0,h1,h2,h3,h4,h5,h6,h7,h8,h9,h10,h11,h12,h13,h14,h15,h16,h17,h18,h19,h20,h21,h22,h23,h24,h25,h26,h27,h28,h29,Df,Di]
  subst e;clear HR;go_enter Tryz.func48,Tryz.ntmps48;go_wp2_with fail
  exact C0 (results_tmp rfl _ _ _) rfl ⟨by first | rfl | trivial,by first | rfl | trivial⟩
 rcases h30:s.toList == [110,117,108,108] with _ | _
 case true =>
  have e:r=true:=by rw [← HR.out]; simp only [bN,bW,Db,h0,h1,h2,h3,h4,h5,h6,h7,h8,h9,h10,h11,h12,h13,h14,h15,h16,h17,h18,h19,h20,h21,h22,h23,h24,h25,h26,h27,h28,h29,h30,Df,Di]
  subst e;clear HR;go_enter Tryz.func48,Tryz.ntmps48;go_wp2_with fail
  exact C0 (results_tmp rfl _ _ _) rfl ⟨by first | rfl | trivial,by first | rfl | trivial⟩
 rcases h31:s.toList == [116,114,117,101] with _ | _
 case true =>
  have e:r=true:=by rw [← HR.out]; simp only [bN,bW,Db,h0,h1,h2,h3,h4,h5,h6,h7,h8,h9,h10,h11,h12,h13,h14,h15,h16,h17,h18,h19,h20,h21,h22,h23,h24,h25,h26,h27,h28,h29,h30,h31,Df,Di]
  subst e;clear HR;go_enter Tryz.func48,Tryz.ntmps48;go_wp2_with fail
  exact C0 (results_tmp rfl _ _ _) rfl ⟨by first | rfl | trivial,by first | rfl | trivial⟩
 rcases h32:s.toList == [102,97,108,115,101] with _ | _
 case true =>
  have e:r=true:=by rw [← HR.out]; simp only [bN,bW,Db,h0,h1,h2,h3,h4,h5,h6,h7,h8,h9,h10,h11,h12,h13,h14,h15,h16,h17,h18,h19,h20,h21,h22,h23,h24,h25,h26,h27,h28,h29,h30,h31,h32,Df,Di]
  subst e;clear HR;go_enter Tryz.func48,Tryz.ntmps48;go_wp2_with fail
  exact C0 (results_tmp rfl _ _ _) rfl ⟨by first | rfl | trivial,by first | rfl | trivial⟩
 rcases h33:s.toList == [99,97,115,101] with _ | _
 case true =>
  have e:r=true:=by rw [← HR.out]; simp only [bN,bW,Db,h0,h1,h2,h3,h4,h5,h6,h7,h8,h9,h10,h11,h12,h13,h14,h15,h16,h17,h18,h19,h20,h21,h22,h23,h24,h25,h26,h27,h28,h29,h30,h31,h32,h33,Df,Di]
  subst e;clear HR;go_enter Tryz.func48,Tryz.ntmps48;go_wp2_with fail
  exact C0 (results_tmp rfl _ _ _) rfl ⟨by first | rfl | trivial,by first | rfl | trivial⟩
 rcases h34:s.toList == [119,104,101,110] with _ | _
 case true =>
  have e:r=true:=by rw [← HR.out]; simp only [bN,bW,Db,h0,h1,h2,h3,h4,h5,h6,h7,h8,h9,h10,h11,h12,h13,h14,h15,h16,h17,h18,h19,h20,h21,h22,h23,h24,h25,h26,h27,h28,h29,h30,h31,h32,h33,h34,Df,Di]
  subst e;clear HR;go_enter Tryz.func48,Tryz.ntmps48;go_wp2_with fail
  exact C0 (results_tmp rfl _ _ _) rfl ⟨by first | rfl | trivial,by first | rfl | trivial⟩
 rcases h35:s.toList == [116,104,101,110] with _ | _
 case true =>
  have e:r=true:=by rw [← HR.out]; simp only [bN,bW,Db,h0,h1,h2,h3,h4,h5,h6,h7,h8,h9,h10,h11,h12,h13,h14,h15,h16,h17,h18,h19,h20,h21,h22,h23,h24,h25,h26,h27,h28,h29,h30,h31,h32,h33,h34,h35,Df,Di]
  subst e;clear HR;go_enter Tryz.func48,Tryz.ntmps48;go_wp2_with fail
  exact C0 (results_tmp rfl _ _ _) rfl ⟨by first | rfl | trivial,by first | rfl | trivial⟩
 rcases h36:s.toList == [101,108,115,101] with _ | _
 case true =>
  have e:r=true:=by rw [← HR.out]; simp only [bN,bW,Db,h0,h1,h2,h3,h4,h5,h6,h7,h8,h9,h10,h11,h12,h13,h14,h15,h16,h17,h18,h19,h20,h21,h22,h23,h24,h25,h26,h27,h28,h29,h30,h31,h32,h33,h34,h35,h36,Df,Di]
  subst e;clear HR;go_enter Tryz.func48,Tryz.ntmps48;go_wp2_with fail
  exact C0 (results_tmp rfl _ _ _) rfl ⟨by first | rfl | trivial,by first | rfl | trivial⟩
 rcases h37:s.toList == [101,110,100] with _ | _
 case true =>
  have e:r=true:=by rw [← HR.out]; simp only [bN,bW,Db,h0,h1,h2,h3,h4,h5,h6,h7,h8,h9,h10,h11,h12,h13,h14,h15,h16,h17,h18,h19,h20,h21,h22,h23,h24,h25,h26,h27,h28,h29,h30,h31,h32,h33,h34,h35,h36,h37,Df,Di]
  subst e;clear HR;go_enter Tryz.func48,Tryz.ntmps48;go_wp2_with fail
  exact C0 (results_tmp rfl _ _ _) rfl ⟨by first | rfl | trivial,by first | rfl | trivial⟩
 rcases h38:s.toList == [99,111,97,108,101,115,99,101] with _ | _
 case true =>
  have e:r=true:=by rw [← HR.out]; simp only [bN,bW,Db,h0,h1,h2,h3,h4,h5,h6,h7,h8,h9,h10,h11,h12,h13,h14,h15,h16,h17,h18,h19,h20,h21,h22,h23,h24,h25,h26,h27,h28,h29,h30,h31,h32,h33,h34,h35,h36,h37,h38,Df,Di]
  subst e;clear HR;go_enter Tryz.func48,Tryz.ntmps48;go_wp2_with fail
  exact C0 (results_tmp rfl _ _ _) rfl ⟨by first | rfl | trivial,by first | rfl | trivial⟩
 rcases h39:s.toList == [99,111,117,110,116] with _ | _
 case true =>
  have e:r=true:=by rw [← HR.out]; simp only [bN,bW,Db,h0,h1,h2,h3,h4,h5,h6,h7,h8,h9,h10,h11,h12,h13,h14,h15,h16,h17,h18,h19,h20,h21,h22,h23,h24,h25,h26,h27,h28,h29,h30,h31,h32,h33,h34,h35,h36,h37,h38,h39,Df,Di]
  subst e;clear HR;go_enter Tryz.func48,Tryz.ntmps48;go_wp2_with fail
  exact C0 (results_tmp rfl _ _ _) rfl ⟨by first | rfl | trivial,by first | rfl | trivial⟩
 rcases h40:s.toList == [115,117,109] with _ | _
 case true =>
  have e:r=true:=by rw [← HR.out]; simp only [bN,bW,Db,h0,h1,h2,h3,h4,h5,h6,h7,h8,h9,h10,h11,h12,h13,h14,h15,h16,h17,h18,h19,h20,h21,h22,h23,h24,h25,h26,h27,h28,h29,h30,h31,h32,h33,h34,h35,h36,h37,h38,h39,h40,Df,Di]
  subst e;clear HR;go_enter Tryz.func48,Tryz.ntmps48;go_wp2_with fail
  exact C0 (results_tmp rfl _ _ _) rfl ⟨by first | rfl | trivial,by first | rfl | trivial⟩
 rcases h41:s.toList == [109,105,110] with _ | _
 case true =>
  have e:r=true:=by rw [← HR.out]; simp only [bN,bW,Db,h0,h1,h2,h3,h4,h5,h6,h7,h8,h9,h10,h11,h12,h13,h14,h15,h16,h17,h18,h19,h20,h21,h22,h23,h24,h25,h26,h27,h28,h29,h30,h31,h32,h33,h34,h35,h36,h37,h38,h39,h40,h41,Df,Di]
  subst e;clear HR;go_enter Tryz.func48,Tryz.ntmps48;go_wp2_with fail
  exact C0 (results_tmp rfl _ _ _) rfl ⟨by first | rfl | trivial,by first | rfl | trivial⟩
 rcases h42:s.toList == [109,97,120] with _ | _
 case true =>
  have e:r=true:=by rw [← HR.out]; simp only [bN,bW,Db,h0,h1,h2,h3,h4,h5,h6,h7,h8,h9,h10,h11,h12,h13,h14,h15,h16,h17,h18,h19,h20,h21,h22,h23,h24,h25,h26,h27,h28,h29,h30,h31,h32,h33,h34,h35,h36,h37,h38,h39,h40,h41,h42,Df,Di]
  subst e;clear HR;go_enter Tryz.func48,Tryz.ntmps48;go_wp2_with fail
  exact C0 (results_tmp rfl _ _ _) rfl ⟨by first | rfl | trivial,by first | rfl | trivial⟩
 rcases h43:s.toList == [105,110,116] with _ | _
 case true =>
  have e:r=true:=by rw [← HR.out]; simp only [bN,bW,Db,h0,h1,h2,h3,h4,h5,h6,h7,h8,h9,h10,h11,h12,h13,h14,h15,h16,h17,h18,h19,h20,h21,h22,h23,h24,h25,h26,h27,h28,h29,h30,h31,h32,h33,h34,h35,h36,h37,h38,h39,h40,h41,h42,h43,Df,Di]
  subst e;clear HR;go_enter Tryz.func48,Tryz.ntmps48;go_wp2_with fail
  exact C0 (results_tmp rfl _ _ _) rfl ⟨by first | rfl | trivial,by first | rfl | trivial⟩
 rcases h44:s.toList == [116,101,120,116] with _ | _
 case true =>
  have e:r=true:=by rw [← HR.out]; simp only [bN,bW,Db,h0,h1,h2,h3,h4,h5,h6,h7,h8,h9,h10,h11,h12,h13,h14,h15,h16,h17,h18,h19,h20,h21,h22,h23,h24,h25,h26,h27,h28,h29,h30,h31,h32,h33,h34,h35,h36,h37,h38,h39,h40,h41,h42,h43,h44,Df,Di]
  subst e;clear HR;go_enter Tryz.func48,Tryz.ntmps48;go_wp2_with fail
  exact C0 (results_tmp rfl _ _ _) rfl ⟨by first | rfl | trivial,by first | rfl | trivial⟩
 rcases h45:s.toList == [98,111,111,108] with _ | _
 case true =>
  have e:r=true:=by rw [← HR.out]; simp only [bN,bW,Db,h0,h1,h2,h3,h4,h5,h6,h7,h8,h9,h10,h11,h12,h13,h14,h15,h16,h17,h18,h19,h20,h21,h22,h23,h24,h25,h26,h27,h28,h29,h30,h31,h32,h33,h34,h35,h36,h37,h38,h39,h40,h41,h42,h43,h44,h45,Df,Di]
  subst e;clear HR;go_enter Tryz.func48,Tryz.ntmps48;go_wp2_with fail
  exact C0 (results_tmp rfl _ _ _) rfl ⟨by first | rfl | trivial,by first | rfl | trivial⟩
 have e:r=false:=by rw [← HR.out]; simp only [bN,bW,Db,List.any_nil,h0,h1,h2,h3,h4,h5,h6,h7,h8,h9,h10,h11,h12,h13,h14,h15,h16,h17,h18,h19,h20,h21,h22,h23,h24,h25,h26,h27,h28,h29,h30,h31,h32,h33,h34,h35,h36,h37,h38,h39,h40,h41,h42,h43,h44,h45,Bool.or_false]
 subst e;clear HR;go_enter Tryz.func48,Tryz.ntmps48;go_wp2_with fail
 exact C0 (results_tmp rfl _ _ _) rfl ⟨by first | rfl | trivial,by first | rfl | trivial⟩
theorem ou (f:Int→Bool):∀ l:List Int,(eM f l == l.length)=l.all f
 | []=>rfl
 | c :: r=>by
  have:=ou f r
  rw [eM,List.all_cons,← this]
  cases f c
  ·simp
  ·simp
theorem qf (s:ByteArray) (hs:s.size≤4000) (w:World):Calls Tryz.prog 20 #[.string s] w fun e w'=>e = .returned (.bool (cN s))∧w'=w:=by
 generalize hr:cN s=r;have HR:Hid (cN s=r):=hr;clear hr;by_cases h1:1≤s.size
 case neg =>
  have e:r=false:=by rw [← HR.out,cN,decide_eq_false h1]; simp
  subst e;have h1':¬ (1:Int)≤(s.size:Int):=by omega
  clear HR;go_enter Tryz.func20,Tryz.ntmps20;go_wp2_with fail
  exact C0 (results_tmp rfl _ _ _) rfl ⟨by first | rfl | trivial,by first | rfl | trivial⟩
 have h1':(1:Int)≤(s.size:Int):=by omega
 by_cases h2:s.size≤12
 case neg =>
  have e:r=false:=by rw [← HR.out,cN,decide_eq_false h2]; simp
  subst e;have h2':¬ (s.size:Int)≤12:=by omega
  clear HR;go_enter Tryz.func20,Tryz.ntmps20;go_wp2_with fail
  exact C0 (results_tmp rfl _ _ _) rfl ⟨by first | rfl | trivial,by first | rfl | trivial⟩
 have h2':(s.size:Int)≤12:=by omega
 have h0:0<s.size:=by omega
 have h0':(0:Int)<(s.size:Int):=by omega
 have HR2:Hid ((gK ((s[0].toNat:Nat):Int) && (lb s).all gd && !bN s)=r):=by
  show _=_;rw [← HR.out,cN,decide_eq_true h1,decide_eq_true h2,Bool.true_and,Bool.true_and,DK,Dj (by rw [ko]; exact h0),Option.getD_some,sK h0]
 clear HR;have con:=jT ((s[0].toNat:Nat):Int) w;rcases h3:gK ((s[0].toNat:Nat):Int) with _ | _ <;> rw [h3] at con HR2
 ·have e:r=false:=by rw [← HR2.out]; simp
  subst e;clear HR2;go_enter Tryz.func20,Tryz.ntmps20;go_wp2_with fail
  refine con.mono ?_;rintro e w1 ⟨rfl,rfl⟩;go_wp2_with fail
  exact C0 (results_tmp rfl _ _ _) rfl ⟨by first | rfl | trivial,by first | rfl | trivial⟩
 ·have con2:=mN s 0 (Dm _) hs w;have HA:Hid ((eM gd (lb s) == s.size)=(lb s).all gd):=by show _=_; rw [← ou,ko]
  rw [DL,Dr] at con2;generalize eM gd (lb s)=m at *;rcases h4:(lb s).all gd with _ | _ <;> rw [h4] at HR2 HA
  ·have e:r=false:=by rw [← HR2.out]; simp
   subst e;have hm:((m:Int) == (s.size:Int))=false:=by
    have:=HA.out;simp only [beq_eq_false_iff_ne] at this ⊢;omega
   clear HR2;go_enter Tryz.func20,Tryz.ntmps20;go_wp2_with fail
   refine con.mono ?_;rintro e w1 ⟨rfl,rfl⟩;go_wp2_with fail
   refine con2.mono ?_;rintro e w2 ⟨rfl,rfl⟩;go_wp2_with fail
   exact C0 (results_tmp rfl _ _ _) rfl ⟨by first | rfl | trivial,by first | rfl | trivial⟩
  ·have hm:m=s.size:=by simpa using HA.out
   have con3:=xk s w;have HR3:Hid ((!bN s)=r):=by show _=_; rw [← HR2.out]; simp
   subst hm;clear HR2;generalize bN s=kp at *;go_enter Tryz.func20,Tryz.ntmps20;go_wp2_with fail
   refine con.mono ?_;rintro e w1 ⟨rfl,rfl⟩;go_wp2_with fail
   refine con2.mono ?_;rintro e w2 ⟨rfl,rfl⟩;go_wp2_with fail
   refine con3.mono ?_;rintro e w3 ⟨rfl,rfl⟩;go_wp2_with fail
   exact C0 (results_tmp rfl _ _ _) rfl ⟨by rw [← HR3.out]; rfl,by first | rfl | trivial⟩
def Bl (_:World) (v:Value) (s:ByteArray):Prop:=v = .string s
theorem Ends.err {α:Type} {R tb:Nat} {o:Int} {w w':World} {V:World→Value→α→Prop} {r:PR α} {c:Er} {ts:List Tk} (hr:r = .error c) (hb:af R w w') (h:au w' R tb ts o):Ends R tb o w V r (.panicked [gn c.1 c.2]) w':=by
 subst hr;exact ⟨hb,rfl,_,h⟩
theorem Ends.bV {α:Type} {R tb:Nat} {o:Int} {w w':World} {V:World→Value→α→Prop} {r:PR α} {x:α} {ts:List Tk} {v:Value} (hr:r = .ok (x,ts)) (hb:af R w w') (hv:V w' v x) (h:au w' R tb ts o):Ends R tb o w V r (.returned v) w':=by
 subst hr;exact ⟨hb,v,rfl,hv,h⟩
theorem gG {w:World} {R tb:Nat} {ts:List Tk} {o:Int} (h:au w R tb ts o):Calls Tryz.prog 155 #[.pointer (some ⟨R,0,none⟩)] w (Ends R tb o w Bl (cV ts)):=by
 obtain ⟨t,r,rfl⟩:=h.gQ.ne;have con:=iT h;have hR:=h.lt;have HR:Hid (au w R tb (t :: r) o):=h;generalize hM:cV (t :: r)=M;have HM:Hid (cV (t :: r)=M):=hM;have hal:∀ {W:World} (x:Obj),Below W.heap.size W (W.alloc x):=fun x=>(CY _ _).alloc (CX _) _
 clear h hM;by_cases h1:t.1=1
 case neg =>
  have b1:(t.1 != 1)=true:=by simpa using h1
  go_enter Tryz.func155,Tryz.ntmps155;go_wp2_with fail
  refine con.mono ?_;rintro e w1 ⟨rfl,hb1⟩;clear con;have hb2:=chain hb1 (hal (.cells #[.int .i64 t.1,.string t.2.1,.int .i64 t.2.2] 152));have con2:=eN (HR.out.next hb2) 2;go_wp2_with fail
  generalize w1.alloc (.cells #[.int .i64 t.1,.string t.2.1,.int .i64 t.2.2] 152)=w2 at *;refine con2.mono ?_;rintro e w3 ⟨rfl,hb3⟩;go_wp2_with fail
  exact ⟨rfl,Ends.err (c:=(2,t.2.2)) (by rw [← HM.out,cV,if_pos (by simpa [cy] using h1)]; rfl) (.of (chain hb2 hb3) (by omega)) (HR.out.next (chain hb2 hb3))⟩
 have b1:(t.1 != 1)=false:=by simpa using h1
 have con3:=fun w=>qf t.2.1 HR.out.gQ.ok.1 w
 rcases hn:cN t.2.1 with _ | _ <;> rw [hn] at con3
 ·go_enter Tryz.func155,Tryz.ntmps155;go_wp2_with fail
  refine con.mono ?_;rintro e w1 ⟨rfl,hb1⟩;clear con;have hb2:=chain hb1 (hal (.cells #[.int .i64 1,.string t.2.1,.int .i64 t.2.2] 152));have con2:=eN (HR.out.next hb2) 7;have con3:=con3 (w1.alloc (.cells #[.int .i64 1,.string t.2.1,.int .i64 t.2.2] 152));go_wp2_with fail
  generalize w1.alloc (.cells #[.int .i64 1,.string t.2.1,.int .i64 t.2.2] 152)=w2 at *;refine con3.mono ?_;rintro e w4 ⟨rfl,rfl⟩;go_wp2_with fail
  refine con2.mono ?_;rintro e w3 ⟨rfl,hb3⟩;go_wp2_with fail
  exact ⟨rfl,Ends.err (c:=(7,t.2.2)) (by rw [← HM.out,cV,if_neg (by simpa [cy] using h1),if_pos (by simpa [cy] using hn)]; rfl) (.of (chain hb2 hb3) (by omega)) (HR.out.next (chain hb2 hb3))⟩
 ·go_enter Tryz.func155,Tryz.ntmps155;go_wp2_with fail
  refine con.mono ?_;rintro e w1 ⟨rfl,hb1⟩;clear con;have hb2:=chain hb1 (hal (.cells #[.int .i64 1,.string t.2.1,.int .i64 t.2.2] 152));have con2:=kA (HR.out.next hb2);have con3:=con3 (w1.alloc (.cells #[.int .i64 1,.string t.2.1,.int .i64 t.2.2] 152));go_wp2_with fail
  generalize w1.alloc (.cells #[.int .i64 1,.string t.2.1,.int .i64 t.2.2] 152)=w2 at *;refine con3.mono ?_;rintro e w4 ⟨rfl,rfl⟩;go_wp2_with fail
  refine con2.mono ?_;rintro e w3 ⟨rfl,h3,hb3⟩;have hfl:=lL (.int .i64 1) (.int .i64 t.2.2) t.2.1 w3;go_wp2_with fail
  refine C0 (v:=.string t.2.1) (by simp [results,Tryz.results155,go_sem]) rfl ?_;exact (Ends.bV (x:=t.2.1) (by rw [← HM.out,cV,if_neg (by simpa [cy] using h1),if_neg (by simp [cy,hn])]; rfl) ((af.of hb2 (by omega)).trans hb3) rfl h3)
theorem nP {w:World} {R tb:Nat} {ts:List Tk} {o:Int} (h:au w R tb ts o):Calls Tryz.prog 215 #[.pointer (some ⟨R,0,none⟩)] w (Ends R tb o w Bl (dO ts)):=by
 have con:=aM h ⟨#[97,115]⟩;generalize hM:dO ts=M;have HM:Hid (dO ts=M):=hM;clear h hM;rcases hi:bu ⟨#[97,115]⟩ ts with _ | _
 ·rw [hi,bC hi] at con;go_enter Tryz.func215,Tryz.ntmps215;go_wp2_with fail
  refine con.mono ?_;rintro e w1 ⟨rfl,h1,hb1⟩;have H1:Hid (au w1 R tb ts o):=h1;clear con h1;go_wp2_with fail
  refine C0 (results_tmp rfl _ _ _) rfl ?_;exact (Ends.bV (x:=eB) (by rw [← HM.out,dO,hi]; rfl) hb1 rfl H1.out)
 ·rw [hi,bP hi] at con;have HM2:Hid (cV (az ts)=M):=by show _=_; rw [← HM.out,dO,hi]; rfl
  clear HM;go_enter Tryz.func215,Tryz.ntmps215;go_wp2_with fail
  refine con.mono ?_;rintro e w1 ⟨rfl,h1,hb1⟩;have con2:=gG h1;rw [HM2.out] at con2;clear con h1;go_wp2_with fail
  refine con2.mono ?_;rintro e w2 ⟨hb2,h2⟩;rcases M with c | ⟨x,r⟩
  ·obtain ⟨rfl,us,h2⟩:=h2;have H2:Hid (au w2 R tb us o):=h2;clear h2;go_wp2_with fail
   exact ⟨rfl,Ends.err rfl (hb1.trans hb2) H2.out⟩
  ·obtain ⟨v,rfl,rfl,h3⟩:=h2;have H3:Hid (au w2 R tb r o):=h3;clear h3;go_wp2_with fail
   refine C0 (results_tmp rfl _ _ _) rfl ?_;exact (Ends.bV rfl (hb1.trans hb2) rfl H3.out)
end Go.Proofs.YtoknmnngaackkaaGreatDoor
