/- Together: W1, A1, A2, A3, A4, A5, A6, A7, A8. -/
import Derived.Test.YtoknmnngaackkaaGreatDoorRows
import Derived.WalkKit
import Derived.WalkSpells
import Derived.WalkLawsBesides
import Derived.Laws.EntriesVeiled
import Derived.Shelf.Abstract
import Derived.Defers
import Derived.Recover
namespace Go.Proofs.YtoknmnngaackkaaGreatDoor
open Go.RowKit
theorem pA {α : Type} (l : List α) (i : Nat) (a : α) : l.toArray.setIfInBounds i a = (l.set i a).toArray := List.setIfInBounds_toArray ..
theorem pB {α : Type} {x : α} {xs : List α} {a : α} : (x :: xs).set 0 a = a :: xs := List.set_cons_zero ..
theorem pC {α : Type} {x : α} {xs : List α} {i : Nat} {a : α} : (x :: xs).set (i + 1) a = x :: xs.set i a := List.set_cons_succ ..

/-- Block b of the world W holds just these three cells, and they may be written. -/
structure Box (W:World) (b:Nat) (x y z:Value):Prop where
 lt:b<W.heap.size
 c0:W.cell? ⟨b,0,none⟩=some x
 c1:W.cell? ⟨b,1,none⟩=some y
 c2:W.cell? ⟨b,2,none⟩=some z
 f0:W.frozen? ⟨b,0,none⟩=false
 f1:W.frozen? ⟨b,1,none⟩=false
 f2:W.frozen? ⟨b,2,none⟩=false
theorem Box.next {W w1:World} {b:Nat} {x y z:Value} (h:Box W b x y z) (hb:Below W.heap.size W w1):Box w1 b x y z :=
 ⟨Nat.lt_of_lt_of_le h.lt hb.size,(hb.cell (p:=⟨b,0,none⟩) h.lt).trans h.c0,(hb.cell (p:=⟨b,1,none⟩) h.lt).trans h.c1,(hb.cell (p:=⟨b,2,none⟩) h.lt).trans h.c2,
  (hb.frozen (p:=⟨b,0,none⟩) h.lt).trans h.f0,(hb.frozen (p:=⟨b,1,none⟩) h.lt).trans h.f1,(hb.frozen (p:=⟨b,2,none⟩) h.lt).trans h.f2⟩
theorem Box.alloc {W:World} {b:Nat} {x y z:Value} (h:Box W b x y z) (o:Obj):Box (W.alloc o) b x y z :=
 h.next ((Below.refl _ _).alloc (Nat.le_refl _) _)
theorem Box.new (w:World) (x y z:Value) (t:Nat):Box (w.alloc (.cells #[x,y,z] t)) w.heap.size x y z :=
 ⟨by simp,by simp,by simp,by simp,by simp,by simp,by simp⟩

set_option maxHeartbeats 400000 in
theorem null_any (w:World) :
  Calls Tryz.prog 212 #[] w fun e w'=>e = .returned (.agg #[.int .i64 1,.int .i64 0,.string ⟨#[]⟩])∧Below w.heap.size w w':=by
 go_enter Tryz.func212,Tryz.ntmps212;go_wp2
 exact bodyPost_ret (v:=.agg #[.int .i64 1,.int .i64 0,.string ⟨#[]⟩]) (by simp [results,Tryz.results212,go_sem]) rfl ⟨rfl,(Below.refl _ _).alloc (Nat.le_refl _) _⟩
set_option maxHeartbeats 400000 in
theorem bool_true (w:World) :
  Calls Tryz.prog 213 #[.bool true] w fun e w'=>e = .returned (.agg #[.int .i64 2,.int .i64 1,.string ⟨#[]⟩])∧Below w.heap.size w w':=by
 go_enter Tryz.func213,Tryz.ntmps213;go_wp2
 exact bodyPost_ret (v:=.agg #[.int .i64 2,.int .i64 1,.string ⟨#[]⟩]) (by simp [results,Tryz.results213,go_sem]) rfl ⟨rfl,(Below.refl _ _).alloc (Nat.le_refl _) _⟩
set_option maxHeartbeats 400000 in
theorem bool_false (w:World) :
  Calls Tryz.prog 213 #[.bool false] w fun e w'=>e = .returned (.agg #[.int .i64 2,.int .i64 0,.string ⟨#[]⟩])∧Below w.heap.size w w':=by
 go_enter Tryz.func213,Tryz.ntmps213;go_wp2
 exact bodyPost_ret (v:=.agg #[.int .i64 2,.int .i64 0,.string ⟨#[]⟩]) (by simp [results,Tryz.results213,go_sem]) rfl ⟨rfl,(Below.refl _ _).alloc (Nat.le_refl _) _⟩
end Go.Proofs.YtoknmnngaackkaaGreatDoor
namespace Go.Proofs.YtoknmnngaackkaaGreatDoor
open Go.RowKit Go.Lib Go.Shelf
set_option maxRecDepth 100000
set_option maxHeartbeats 4000000

def BelowX (t:Nat) (w w':World):Prop:=Below t w w'∧∀ k,k<w.heap.size→k≠t→w'.heap[k]? = w.heap[k]?
theorem BelowX.refl (t:Nat) (w:World):BelowX t w w:=⟨Below.refl _ _,fun _ _ _=>rfl⟩
theorem BelowX.size {t:Nat} {a b:World} (h:BelowX t a b):a.heap.size≤b.heap.size:=h.1.size
theorem BelowX.trans {t:Nat} {a b c:World} (h:BelowX t a b) (k:BelowX t b c):BelowX t a c :=
 ⟨h.1.trans k.1,fun i hi hn=>(k.2 i (Nat.lt_of_lt_of_le hi h.size) hn).trans (h.2 i hi hn)⟩
theorem BelowX.of {t:Nat} {a b:World} (h:Below a.heap.size a b) (ht:t≤a.heap.size):BelowX t a b:=⟨h.mono ht,fun k hk _=>h.block k hk⟩
theorem BelowX.set {t:Nat} {a b:World} (h:BelowX t a b) (o:Nat) (u:Value):BelowX t a (b.setCell ⟨t,o,none⟩ u) :=
 ⟨h.1.setCell (Nat.le_refl _) _,fun k hk hn=>by rw [heap_setCell_other _ _ _ _ (by simpa using hn)]; exact h.2 k hk hn⟩
theorem BelowX.setNew {t:Nat} {a b:World} (h:BelowX t a b) (g o:Nat) (u:Value) (hg:a.heap.size≤g) (ht:t≤a.heap.size):BelowX t a (b.setCell ⟨g,o,none⟩ u) :=
 ⟨h.1.setCell (p:=⟨g,o,none⟩) (by show t≤g; omega) _,fun k hk hn=>by rw [heap_setCell_other _ _ _ _ (by show k≠g; omega)]; exact h.2 k hk hn⟩
theorem BelowX.cell {t:Nat} {a b:World} (h:BelowX t a b) {p:Addr} (hp:p.block<a.heap.size) (hn:p.block≠t):b.cell? p=a.cell? p:=World.cell?_of_block (h.2 _ hp hn)

theorem cell_of {W:World} {b:Nat} {xs:Array Value} {T:TypeId} {i:Nat} {v:Value} (h:W.heap[b]? = some (.cells xs T (0,0))) (hv:xs[i]? = some v):W.cell? ⟨b,i,none⟩=some v:=by
 simp [World.cell?,h,hv]
theorem heap_new (W:World) (xs:Array Value) (T:TypeId):(W.alloc (.cells xs T)).heap[W.heap.size]? = some (.cells xs T (0,0)):=by
 show (W.heap.push (.cells xs T (0,0)))[W.heap.size]? = _;exact Array.getElem?_push_size
theorem chain {w a b:World} (h:Below w.heap.size w a) (k:Below a.heap.size a b):Below w.heap.size w b:=h.trans (k.mono h.size)
abbrev Tk:Type:=Int × ByteArray × Int
structure TkAt (W:World) (b off:Nat) (l:List Tk):Prop where
 lt:b<W.heap.size
 c0:∀ i (h:i<l.length),W.cell? ⟨b,off+i*3,none⟩=some (.int .i64 l[i].1)
 c1:∀ i (h:i<l.length),W.cell? ⟨b,off+i*3+1,none⟩=some (.string l[i].2.1)
 c2:∀ i (h:i<l.length),W.cell? ⟨b,off+i*3+2,none⟩=some (.int .i64 l[i].2.2)
theorem TkAt.nextX {W w1:World} {t b off:Nat} {l:List Tk} (h:TkAt W b off l) (hb:BelowX t W w1) (hn:b≠t):TkAt w1 b off l :=
 ⟨Nat.lt_of_lt_of_le h.lt hb.size,fun i hi=>(hb.cell (p:=⟨b,_,none⟩) h.lt hn).trans (h.c0 i hi),fun i hi=>(hb.cell (p:=⟨b,_,none⟩) h.lt hn).trans (h.c1 i hi),fun i hi=>(hb.cell (p:=⟨b,_,none⟩) h.lt hn).trans (h.c2 i hi)⟩
theorem TkAt.next {W w1:World} {b off:Nat} {l:List Tk} (h:TkAt W b off l) (hb:Below W.heap.size W w1):TkAt w1 b off l :=
 h.nextX (.of hb (Nat.le_refl _)) (Nat.ne_of_lt h.lt)
theorem TkAt.tail {W:World} {b off:Nat} {t:Tk} {l:List Tk} (h:TkAt W b off (t :: l)):TkAt W b (off+3) l :=
 ⟨h.lt,fun i hi=>by have:=h.c0 (i+1) (by simpa using hi); rw [show off+(i+1)*3=off+3+i*3 by omega] at this; simpa using this,
  fun i hi=>by have:=h.c1 (i+1) (by simpa using hi); rw [show off+(i+1)*3=off+3+i*3 by omega] at this; simpa using this,
  fun i hi=>by have:=h.c2 (i+1) (by simpa using hi); rw [show off+(i+1)*3=off+3+i*3 by omega] at this; simpa using this⟩
/-- Tokens: the last one is the end. -/
def TkOk (t:Tk):Prop:=t.2.1.size≤4000∧(t.1=2→1≤t.2.1.size∧t.2.1.size≤16∧∀ c ∈ t.2.1.data.toList,48≤c.toNat∧c.toNat≤57)
inductive Toks:List Tk→Prop
 | last (a:Int):Toks [(5,⟨#[]⟩,a)]
 | cons (t:Tk) (r:List Tk):t.1≠5→TkOk t→Toks r→Toks (t :: r)
theorem Toks.ok {t:Tk} {r:List Tk} (h:Toks (t :: r)):TkOk t:=by
 cases h with
 | last a=>exact ⟨by show (0:Nat)≤4000; omega,fun h=>by cases h⟩
 | cons _ _ _ h1 _=>exact h1
def infA:Array Value:=#[.int .i64 5,.string ⟨#[111,114]⟩,.int .i64 1,.int .i64 4,.string ⟨#[97,110,100]⟩,.int .i64 2,.int .i64 6,.string ⟨#[61]⟩,.int .i64 4,.int .i64 7,.string ⟨#[60,62]⟩,.int .i64 4,.int .i64 8,.string ⟨#[60]⟩,.int .i64 4,.int .i64 9,.string ⟨#[60,61]⟩,.int .i64 4,.int .i64 10,.string ⟨#[62]⟩,.int .i64 4,.int .i64 11,.string ⟨#[62,61]⟩,.int .i64 4,.int .i64 12,.string ⟨#[43]⟩,.int .i64 5,.int .i64 13,.string ⟨#[45]⟩,.int .i64 5,.int .i64 14,.string ⟨#[42]⟩,.int .i64 6,.int .i64 15,.string ⟨#[124,124]⟩,.int .i64 7]
def sigA:Array Value:=#[.string ⟨#[60,62]⟩,.string ⟨#[60,61]⟩,.string ⟨#[62,61]⟩,.string ⟨#[124,124]⟩,.string ⟨#[60]⟩,.string ⟨#[62]⟩,.string ⟨#[61]⟩,.string ⟨#[43]⟩,.string ⟨#[45]⟩,.string ⟨#[42]⟩,.string ⟨#[40]⟩,.string ⟨#[41]⟩,.string ⟨#[44]⟩,.string ⟨#[46]⟩,.string ⟨#[59]⟩]
/-- The program's two tables. -/
structure Gl (W:World):Prop where
 lt:1<W.heap.size
 inf:∀ j,j<36→W.cell? ⟨1,j,none⟩=infA[j]?
 sig:∀ j,j<15→W.cell? ⟨0,j,none⟩=sigA[j]?
theorem Gl.nextX {t:Nat} {W w1:World} (h:Gl W) (hb:BelowX t W w1) (ht:1<t):Gl w1 :=
 ⟨Nat.lt_of_lt_of_le h.lt hb.size,fun j hj=>(hb.cell (p:=⟨1,j,none⟩) h.lt (by show 1≠t; omega)).trans (h.inf j hj),fun j hj=>(hb.cell (p:=⟨0,j,none⟩) (by show 0<_; have:=h.lt; omega) (by show 0≠t; omega)).trans (h.sig j hj)⟩
theorem Gl.next {W w1:World} (h:Gl W) (hb:Below W.heap.size W w1):Gl w1:=h.nextX (.of hb (Nat.le_refl _)) h.lt
structure RdAt (W:World) (R tb:Nat) (ts:List Tk) (o:Int):Prop where
 ex:∃ off cap,W.heap[R]? = some (.cells #[.slice (some ⟨tb,off,none⟩) ts.length cap,.int .i64 o] 121 (0,0))∧ts.length≤cap∧TkAt W tb off ts
 ne:tb≠R
 toks:Toks ts
 small:ts.length≤4001
 gl:Gl W
 r2:1<R
theorem lt_of_heap {W:World} {b:Nat} {x:Obj} (h:W.heap[b]? = some x):b<W.heap.size:=by
 rcases Nat.lt_or_ge b W.heap.size with h1 | h1
 ·exact h1
 ·rw [Array.getElem?_eq_none h1] at h; cases h
theorem RdAt.lt {W:World} {R tb:Nat} {ts:List Tk} {o:Int} (h:RdAt W R tb ts o):R<W.heap.size:=by
 obtain ⟨_,_,h,_⟩:=h.ex;exact lt_of_heap h
theorem RdAt.next {W w1:World} {R tb:Nat} {ts:List Tk} {o:Int} (h:RdAt W R tb ts o) (hb:Below W.heap.size W w1):RdAt w1 R tb ts o:=by
 obtain ⟨off,cap,h1,h2,h3⟩:=h.ex;exact ⟨⟨off,cap,(hb.block _ (lt_of_heap h1)).trans h1,h2,h3.next hb⟩,h.ne,h.toks,h.small,h.gl.next hb,h.r2⟩
def passP:List Tk→List Tk
 | []=>[]
 | t :: r=>if t.1=5 then t :: r else r
theorem Toks.pass {l:List Tk} (h:Toks l):Toks (passP l):=by
 cases h with
 | last a=>exact .last a
 | cons t r h1 _ h2=>rw [passP,if_neg h1]; exact h2
theorem Toks.ne {l:List Tk} (h:Toks l):∃ t r,l=t :: r:=by
 cases h with
 | last a=>exact ⟨_,_,rfl⟩
 | cons t r h1 _ h2=>exact ⟨_,_,rfl⟩
/-- The fault as it is thrown. -/
def thrV (e a:Int):PanicEntry:={ v:=.iface 115 (.agg #[.int .i64 e,.int .i64 a]),recovered:=false }
theorem fault_at (e a:Int) (w:World):Calls Tryz.prog 65 #[.int .i64 e,.int .i64 a] w fun x w'=>x = .returned (.agg #[.int .i64 e,.int .i64 a])∧Below w.heap.size w w':=by
 go_enter Tryz.func65,Tryz.ntmps65;go_wp2_with fail
 exact bodyPost_ret (v:=.agg #[.int .i64 e,.int .i64 a]) (by simp [results,Tryz.results65,go_sem]) rfl ⟨rfl,(Below.refl _ _).alloc (Nat.le_refl _) _⟩
theorem now_at {w:World} {R tb:Nat} {t:Tk} {r:List Tk} {o:Int} (h:RdAt w R tb (t :: r) o):Calls Tryz.prog 98 #[.pointer (some ⟨R,0,none⟩)] w fun x w'=>x = .returned (.agg #[.int .i64 t.1,.string t.2.1,.int .i64 t.2.2])∧Below w.heap.size w w':=by
 obtain ⟨off,cap,h1,h2,h3⟩:=h.ex;have a0:w.cell? ⟨R,0,none⟩=some (.slice (some ⟨tb,off,none⟩) (t :: r).length cap):=cell_of (i:=0) h1 rfl;have b0:=h3.c0 0 (by simp);have b1:=h3.c1 0 (by simp);have b2:=h3.c2 0 (by simp);simp only [List.getElem_cons_zero,Nat.zero_mul,Nat.add_zero] at b0 b1 b2;have hR:=lt_of_heap h1;have hT:=h3.lt;have hl:(0:Int)<((t :: r).length:Int):=by simp
 go_enter Tryz.func98,Tryz.ntmps98;go_wp2_with fail
 exact bodyPost_ret (v:=.agg #[.int .i64 t.1,.string t.2.1,.int .i64 t.2.2]) (by simp [results,Tryz.results98,go_sem]) rfl ⟨rfl,(Below.refl _ _).alloc (Nat.le_refl _) _⟩
theorem tk_at (a b:Value) (n:Int) (w:World):(Instr.field 152 (.agg #[a,b,.int .i64 n]) 2).run Tryz.prog w = .ok (.int .i64 n) w:=by kernel_rfl
theorem tk_text (a c:Value) (b:ByteArray) (w:World):(Instr.field 152 (.agg #[a,.string b,c]) 1).run Tryz.prog w = .ok (.string b) w:=by kernel_rfl
theorem tk_sort (b c:Value) (n:Int) (w:World):(Instr.field 152 (.agg #[.int .i64 n,b,c]) 0).run Tryz.prog w = .ok (.int .i64 n) w:=by kernel_rfl
theorem rfault_at {w:World} {R tb:Nat} {t:Tk} {r:List Tk} {o:Int} (h:RdAt w R tb (t :: r) o) (e:Int):Calls Tryz.prog 128 #[.pointer (some ⟨R,0,none⟩),.int .i64 e] w fun x w'=>x = .returned (.agg #[.int .i64 e,.int .i64 t.2.2])∧Below w.heap.size w w':=by
 have hal:Below w.heap.size w (w.alloc (.cells #[.int .i64 0,.int .i64 0] 115)):=(Below.refl _ _).alloc (Nat.le_refl _) _;have hn:=heap_new w #[.int .i64 0,.int .i64 0] 115;have con:=now_at (h.next hal);go_enter Tryz.func128,Tryz.ntmps128;go_wp2_with fail
 generalize w.alloc (.cells #[.int .i64 0,.int .i64 0] 115)=w1 at *;refine con.mono ?_;rintro x w2 ⟨rfl,hb2⟩;have con2:=fault_at e t.2.2 w2;have hfl:=tk_at (.int .i64 t.1) (.string t.2.1) t.2.2 w2;go_wp2_with fail
 refine con2.mono ?_;rintro x w3 ⟨rfl,hb3⟩;have hb:=chain hb2 hb3;have q:=(hb.block _ (lt_of_heap hn)).trans hn;have c0:w3.cell? ⟨w.heap.size,0,none⟩=some (.int .i64 0):=cell_of (i:=0) q rfl;have c1:w3.cell? ⟨w.heap.size,1,none⟩=some (.int .i64 0):=cell_of (i:=1) q rfl;have f0:=frozen_of_row w3 w.heap.size 0 _ _ q;have f1:=frozen_of_row w3 w.heap.size 1 _ _ q;go_wp2_with fail
 exact bodyPost_ret (v:=.agg #[.int .i64 e,.int .i64 t.2.2]) (by simp [results,Tryz.results128,go_sem,c0,c1]) rfl ⟨rfl,((chain hal hb).setCell (Nat.le_refl _) _).setCell (Nat.le_refl _) _⟩
theorem RdAt.sort5 {w:World} {R tb:Nat} {t:Tk} {r:List Tk} {o:Int} (h:RdAt w R tb (t :: r) o):t.1=5∧r = []∨t.1≠5∧Toks r:=by
 have:=h.toks;cases this with
 | last a=>exact .inl ⟨rfl,rfl⟩
 | cons _ _ h1 _ h2=>exact .inr ⟨h1,h2⟩
theorem pass_at {w:World} {R tb:Nat} {t:Tk} {r:List Tk} {o:Int} (h:RdAt w R tb (t :: r) o):Calls Tryz.prog 154 #[.pointer (some ⟨R,0,none⟩)] w fun x w'=>x = .returned (.agg #[.int .i64 t.1,.string t.2.1,.int .i64 t.2.2])∧RdAt w' R tb (passP (t :: r)) o∧BelowX R w w':=by
 obtain ⟨off,cap,h1,h2,h3⟩:=h.ex;have a0:w.cell? ⟨R,0,none⟩=some (.slice (some ⟨tb,off,none⟩) (t :: r).length cap):=cell_of (i:=0) h1 rfl;have f0:=frozen_of_row w R 0 _ _ h1;have b0:=h3.c0 0 (by simp);have b1:=h3.c1 0 (by simp);have b2:=h3.c2 0 (by simp);simp only [List.getElem_cons_zero,Nat.zero_mul,Nat.add_zero] at b0 b1 b2;have hR:=lt_of_heap h1;have hT:=h3.lt;have hl:(0:Int)<((t :: r).length:Int):=by simp
 have HS:=h.sort5;rcases HS with ⟨e5,rfl⟩ | ⟨e5,hr⟩
 ·have b5:(t.1 != 5)=false:=by simpa using e5
  go_enter Tryz.func154,Tryz.ntmps154;go_wp2_with fail
  have hb:Below w.heap.size w ((w.alloc (.cells #[.int .i64 5,.string t.2.1,.int .i64 t.2.2] 152)).alloc (.cells #[.int .i64 5,.string t.2.1,.int .i64 t.2.2] 152)):=((Below.refl _ _).alloc (Nat.le_refl _) _).alloc (by simp) _;refine bodyPost_ret (v:=.agg #[.int .i64 t.1,.string t.2.1,.int .i64 t.2.2]) (by simp [results,Tryz.results154,go_sem,e5]) rfl ⟨rfl,?_,.of hb (by omega)⟩;rw [passP,if_pos e5];exact h.next hb
 ·have b5:(t.1 != 5)=true:=by simpa using e5
  have hne:r ≠ []:=by obtain ⟨_,_,rfl⟩:=hr.ne; simp
  have hcap:¬ cap=1:=by
   have:0<r.length:=List.length_pos_iff.2 hne;simp at h2;omega
  have HR:Hid (RdAt w R tb (t :: r) o):=h;clear h;go_enter Tryz.func154,Tryz.ntmps154;go_wp2_with fail
  have H1:=heap_setCell_same w R 0 _ _ (.slice (some ⟨tb,off+3,none⟩) r.length (cap - 1)) h1;have hb:BelowX R w (w.setCell ⟨R,0,none⟩ (.slice (some ⟨tb,off+3,none⟩) r.length (cap - 1))):=(BelowX.refl _ _).set _ _;have hz:(w.setCell ⟨R,0,none⟩ (.slice (some ⟨tb,off+3,none⟩) r.length (cap - 1))).heap.size=w.heap.size:=World.size_setCell ..;generalize w.setCell ⟨R,0,none⟩ (.slice (some ⟨tb,off+3,none⟩) r.length (cap - 1))=w1 at *
  have hb2:Below w1.heap.size w1 ((w1.alloc (.cells #[.int .i64 t.1,.string t.2.1,.int .i64 t.2.2] 152)).alloc (.cells #[.int .i64 t.1,.string t.2.1,.int .i64 t.2.2] 152)):=((Below.refl _ _).alloc (Nat.le_refl _) _).alloc (by simp) _;have hR1:RdAt w1 R tb r o:=⟨⟨off+3,cap - 1,H1,by simp at h2; omega,(h3.nextX hb HR.out.ne).tail⟩,HR.out.ne,hr,by have:=HR.out.small; simp at this; omega,HR.out.gl.nextX hb HR.out.r2,HR.out.r2⟩
  refine bodyPost_ret (v:=.agg #[.int .i64 t.1,.string t.2.1,.int .i64 t.2.2]) (by simp [results,Tryz.results154,go_sem,hz]) rfl ⟨rfl,?_,hb.trans (.of hb2 (by omega))⟩;rw [passP,if_neg e5];exact hR1.next hb2
end Go.Proofs.YtoknmnngaackkaaGreatDoor
namespace Go.Proofs.YtoknmnngaackkaaGreatDoor

abbrev Vl:Type:=Int × Int × ByteArray
inductive SX where
 | mk (k:Int) (v:Vl) (tab name:ByteArray) (ks:List SX)
namespace SX
def k:SX→Int | .mk k _ _ _ _=>k
def v:SX→Vl | .mk _ v _ _ _=>v
def tab:SX→ByteArray | .mk _ _ t _ _=>t
def name:SX→ByteArray | .mk _ _ _ n _=>n
def ks:SX→List SX | .mk _ _ _ _ ks=>ks
end SX
abbrev eB:ByteArray:=⟨#[]⟩
abbrev v0:Vl:=(0,0,eB)
def sx0:SX:=.mk 0 v0 eB eB []
def nd (k:Int) (l:List SX):SX:=.mk k v0 eB eB l
abbrev Itm:Type:=SX × ByteArray
structure Src where
 kind:Int
 name:ByteArray
 alias:ByteArray
 on:SX
structure Sel where
 distinct:Bool
 star:Bool
 items:List Itm
 sources:List Src
 hasWhere:Bool
 hasHaving:Bool
 wher:SX
 having:SX
 group:List SX
structure Qry where
 parts:List Sel
 ops:List Int
 order:List SX
 limit:Int
def qry0:Qry:=⟨[],[],[],0⟩
abbrev Col:Type:=ByteArray × Int
structure Stm where
 kind:Int
 name:ByteArray
 cols:List Col
 query:Qry
 rows:List (List Vl)
 hasWhere:Bool
 wher:SX

abbrev Er:Type:=Int × Int
abbrev PR (α:Type):Type:=Except Er (α × List Tk)
def nowP:List Tk→Tk
 | []=>(5,eB,0)
 | t :: _=>t
def isP (s:ByteArray) (ts:List Tk):Bool:=((nowP ts).1 == 1 || (nowP ts).1 == 4) && ((nowP ts).2.1.toList == s.toList)
def atP (ts:List Tk):Int:=(nowP ts).2.2
def bnd {α β:Type} (r:PR α) (k:α→List Tk→PR β):PR β :=
 match r with
 | .error e=>.error e
 | .ok (x,ts)=>k x ts
def mustP:List ByteArray→List Tk→PR Unit
 | [],ts=>.ok ((),ts)
 | s :: l,ts=>if isP s ts then mustP l (passP ts) else .error (2,atP ts)
def letB (c:Int):Bool:=decide (97≤c) && decide (c≤122) || c == 95
def digB (c:Int):Bool:=decide (48≤c) && decide (c≤57)
def blaB (c:Int):Bool:=c == 32 || c == 9 || c == 10
def worB (c:Int):Bool:=letB c || digB c
/-- The bytes of a text, as numbers. -/
def btL (s:ByteArray):List Int:=s.data.toList.map fun c=>(c.toNat:Int)
/-- Where a class ends. -/
def spanL (f:Int→Bool):List Int→Nat
 | []=>0
 | c :: r=>if f c then spanL f r+1 else 0
def keptL:List (List UInt8):=[[99,114,101,97,116,101],[116,97,98,108,101],[118,105,101,119],[97,115],[105,110,115,101,114,116],[105,110,116,111],[118,97,108,117,101,115],[100,101,108,101,116,101],[102,114,111,109],[119,104,101,114,101],[115,104,111,119],[115,101,108,101,99,116],[100,105,115,116,105,110,99,116],[103,114,111,117,112],[98,121],[104,97,118,105,110,103],[117,110,105,111,110],[97,108,108],[101,120,99,101,112,116],[111,114,100,101,114],[108,105,109,105,116],[106,111,105,110],[108,101,102,116],[115,101,109,105],[97,110,116,105],[111,110],[97,110,100],[111,114],[110,111,116],[105,115],[110,117,108,108],[116,114,117,101],[102,97,108,115,101],[99,97,115,101],[119,104,101,110],[116,104,101,110],[101,108,115,101],[101,110,100],[99,111,97,108,101,115,99,101],[99,111,117,110,116],[115,117,109],[109,105,110],[109,97,120],[105,110,116],[116,101,120,116],[98,111,111,108]]
def keptP (s:ByteArray):Bool:=keptL.any fun k=>s.toList == k
def namedP (s:ByteArray):Bool:=decide (1≤s.size) && decide (s.size≤12) && letB ((btL s).getD 0 0) && (btL s).all worB && !keptP s
def nameP (ts:List Tk):PR ByteArray :=
 if (nowP ts).1≠1 then .error (2,atP ts) else if namedP (nowP ts).2.1=false then .error (7,atP ts) else .ok ((nowP ts).2.1,passP ts)
def byNameP (ts:List Tk):PR ByteArray:=if isP ⟨#[97,115]⟩ ts then nameP (passP ts) else .ok (eB,ts)
def digitsP (s:ByteArray):Int:=(btL s).foldl (fun n c=>n*10+(c - 48)) 0
def numberP (least most:Int) (ts:List Tk):PR Int :=
 let sg:=isP ⟨#[45]⟩ ts
 let ts1:=if sg then passP ts else ts
 if (nowP ts1).1≠2 then .error (2,atP ts1)
 else
  let n:=digitsP (nowP ts1).2.1
  let m:=if sg then -n else n
  if m<least∨most<m then .error (3,atP ts) else .ok (m,passP ts1)
def beginsP (ts:List Tk):Bool:=(nowP ts).1 == 2 || (nowP ts).1 == 3 || isP ⟨#[45]⟩ ts || isP ⟨#[110,117,108,108]⟩ ts || isP ⟨#[116,114,117,101]⟩ ts || isP ⟨#[102,97,108,115,101]⟩ ts
def valueP (ts:List Tk):PR Vl :=
 if (nowP ts).1=3 then .ok ((4,0,(nowP ts).2.1),passP ts)
 else if isP ⟨#[110,117,108,108]⟩ ts then .ok ((1,0,eB),passP ts)
 else if isP ⟨#[116,114,117,101]⟩ ts then .ok ((2,1,eB),passP ts)
 else if isP ⟨#[102,97,108,115,101]⟩ ts then .ok ((2,0,eB),passP ts)
 else bnd (numberP (-1000000000000000) 1000000000000000 ts) fun n r=>.ok ((3,n,eB),r)
/-- The signs between: kind, sign, level. -/
def infL:List (Int × ByteArray × Int):=[(5,⟨#[111,114]⟩,1),(4,⟨#[97,110,100]⟩,2),(6,⟨#[61]⟩,4),(7,⟨#[60,62]⟩,4),(8,⟨#[60]⟩,4),(9,⟨#[60,61]⟩,4),(10,⟨#[62]⟩,4),(11,⟨#[62,61]⟩,4),(12,⟨#[43]⟩,5),(13,⟨#[45]⟩,5),(14,⟨#[42]⟩,6),(15,⟨#[124,124]⟩,7)]
def signF (lvl:Int) (ts:List Tk):List (Int × ByteArray × Int)→Int × List Tk
 | []=>(0,ts)
 | i :: r=>if i.2.2=lvl∧isP i.2.1 ts=true then (i.1,passP ts) else signF lvl ts r
def signP (lvl:Int) (ts:List Tk):Int × List Tk:=signF lvl ts infL
def isNullP (x:SX) (ts:List Tk):PR SX :=
 bnd (mustP [⟨#[110,117,108,108]⟩] (if isP ⟨#[110,111,116]⟩ ts then passP ts else ts)) fun _ r=>.ok (if isP ⟨#[110,111,116]⟩ ts then nd 3 [nd 16 [x]] else nd 16 [x],r)
def columnNameP (ts:List Tk):PR SX :=
 bnd (nameP ts) fun n r=>if isP ⟨#[46]⟩ r then bnd (nameP (passP r)) fun m r2=>.ok (.mk 2 v0 n m [],r2) else .ok (.mk 2 v0 eB n [],r)
/-- Out of fuel: it is never told. -/
abbrev fuelE {α:Type}:PR α:=.error (-1,0)
mutual
def exprP:Nat→Int→List Tk→PR SX
 | 0,_,_=>fuelE
 | n+1,o,ts=>if o+1 > 100 then .error (4,atP ts) else chainP n 1 (o+1) ts
def levelP:Nat→Int→Int→List Tk→PR SX
 | 0,_,_,_=>fuelE
 | n+1,lvl,o,ts=>if lvl=3 then deniedP n o ts else if lvl=8 then pieceP n o ts else chainP n lvl o ts
def chainP:Nat→Int→Int→List Tk→PR SX
 | 0,_,_,_=>fuelE
 | n+1,lvl,o,ts=>bnd (levelP n (lvl+1) o ts) fun x r=>loopP n lvl o x r
def loopP:Nat→Int→Int→SX→List Tk→PR SX
 | 0,_,_,_,_=>fuelE
 | n+1,lvl,o,x,ts=>if (signP lvl ts).1=0 then .ok (x,ts) else bnd (levelP n (lvl+1) o (signP lvl ts).2) fun y r=>loopP n lvl o (nd (signP lvl ts).1 [x,y]) r
def deniedP:Nat→Int→List Tk→PR SX
 | 0,_,_=>fuelE
 | n+1,o,ts=>if isP ⟨#[110,111,116]⟩ ts then bnd (if o+1 > 100 then .error (4,atP (passP ts)) else deniedP n (o+1) (passP ts)) fun x r=>.ok (nd 3 [x],r) else comparedP n o ts
def comparedP:Nat→Int→List Tk→PR SX
 | 0,_,_=>fuelE
 | n+1,o,ts=>bnd (chainP n 5 o ts) fun x r=>if isP ⟨#[105,115]⟩ r then isNullP x (passP r) else if (signP 4 r).1=0 then .ok (x,r) else bnd (chainP n 5 o (signP 4 r).2) fun y r2=>.ok (nd (signP 4 r).1 [x,y],r2)
def pieceP:Nat→Int→List Tk→PR SX
 | 0,_,_=>fuelE
 | n+1,o,ts =>
  if beginsP ts then bnd (valueP ts) fun v r=>.ok (.mk 1 v eB eB [],r)
  else if isP ⟨#[40]⟩ ts then bnd (exprP n o (passP ts)) fun x r=>bnd (mustP [⟨#[41]⟩] r) fun _ r2=>.ok (x,r2)
  else if isP ⟨#[99,97,115,101]⟩ ts then bnd (behindP n o [⟨#[119,104,101,110]⟩,⟨#[116,104,101,110]⟩,⟨#[101,108,115,101]⟩,⟨#[101,110,100]⟩] (passP ts)) fun l r=>.ok (nd 17 l,r)
  else if isP ⟨#[99,111,97,108,101,115,99,101]⟩ ts then bnd (behindP n o [⟨#[40]⟩,⟨#[44]⟩,⟨#[41]⟩] (passP ts)) fun l r=>.ok (nd 18 l,r)
  else if isP ⟨#[99,111,117,110,116]⟩ ts then aggP n 20 o (passP ts)
  else if isP ⟨#[115,117,109]⟩ ts then aggP n 21 o (passP ts)
  else if isP ⟨#[109,105,110]⟩ ts then aggP n 22 o (passP ts)
  else if isP ⟨#[109,97,120]⟩ ts then aggP n 23 o (passP ts)
  else columnNameP ts
def behindP:Nat→Int→List ByteArray→List Tk→PR (List SX)
 | 0,_,_,_=>fuelE
 | _+1,_,[],_=>fuelE
 | n+1,o,s :: l,ts=>bnd (mustP [s] ts) fun _ r=>exprsP n o l [] r
def exprsP:Nat→Int→List ByteArray→List SX→List Tk→PR (List SX)
 | 0,_,_,_,_=>fuelE
 | _+1,_,[],acc,ts=>.ok (acc,ts)
 | n+1,o,s :: l,acc,ts=>bnd (exprP n o ts) fun x r=>bnd (mustP [s] r) fun _ r2=>exprsP n o l (acc ++ [x]) r2
def aggP:Nat→Int→Int→List Tk→PR SX
 | 0,_,_,_=>fuelE
 | n+1,kind,o,ts=>bnd (mustP [⟨#[40]⟩] ts) fun _ r=>if kind=20∧isP ⟨#[42]⟩ r=true then bnd (mustP [⟨#[41]⟩] (passP r)) fun _ r2=>.ok (nd 19 [],r2)
   else bnd (exprP n o r) fun x r2=>bnd (mustP [⟨#[41]⟩] r2) fun _ r3=>.ok (nd kind [x],r3)
end
/-- One or more, with commas between. -/
def comLoopP {α:Type} (one:List Tk→PR α) (most:Int):Nat→List α→List Tk→PR (List α)
 | 0,_,_=>fuelE
 | n+1,acc,ts=>if isP ⟨#[44]⟩ ts then (if (acc.length:Int) ≥ most then .error (5,atP (passP ts)) else bnd (one (passP ts)) fun x r=>comLoopP one most n (acc ++ [x]) r)
  else .ok (acc,ts)
def commasP {α:Type} (one:List Tk→PR α) (most:Int) (n:Nat) (ts:List Tk):PR (List α) :=
 bnd (one ts) fun x r=>comLoopP one most n [x] r
/-- Fuel of an expression. -/
def exF:Nat:=100000
def eP (ts:List Tk):PR SX:=exprP exF 0 ts
def columnTypeP (ts:List Tk):PR Int :=
 if isP ⟨#[98,111,111,108]⟩ ts then .ok (2,passP ts) else if isP ⟨#[105,110,116]⟩ ts then .ok (3,passP ts) else if isP ⟨#[116,101,120,116]⟩ ts then .ok (4,passP ts) else .error (2,atP ts)
def columnP (ts:List Tk):PR Col:=bnd (nameP ts) fun n r=>bnd (columnTypeP r) fun t r2=>.ok ((n,t),r2)
def rowP (ts:List Tk):PR (List Vl) :=
 bnd (mustP [⟨#[40]⟩] ts) fun _ r=>bnd (commasP valueP 8 9 r) fun l r2=>bnd (mustP [⟨#[41]⟩] r2) fun _ r3=>.ok (l,r3)
def exprBehindP (s:ByteArray) (ts:List Tk):PR (Bool × SX) :=
 if isP s ts then bnd (eP (passP ts)) fun x r=>.ok ((true,x),r) else .ok ((false,sx0),ts)
def itemP (ts:List Tk):PR Itm:=bnd (eP ts) fun x r=>bnd (byNameP r) fun s r2=>.ok ((x,s),r2)
def sourceP (kind:Int) (ts:List Tk):PR Src:=bnd (nameP ts) fun n r=>bnd (byNameP r) fun s r2=>.ok (⟨kind,n,s,sx0⟩,r2)
def joinedP (ts:List Tk):PR Int :=
 if isP ⟨#[106,111,105,110]⟩ ts then .ok (2,passP ts)
 else if isP ⟨#[115,101,109,105]⟩ ts then bnd (mustP [⟨#[106,111,105,110]⟩] (passP ts)) fun _ r=>.ok (3,r)
 else if isP ⟨#[97,110,116,105]⟩ ts then bnd (mustP [⟨#[106,111,105,110]⟩] (passP ts)) fun _ r=>.ok (4,r)
 else if isP ⟨#[108,101,102,116]⟩ ts then bnd (mustP [⟨#[106,111,105,110]⟩] (passP ts)) fun _ r=>.ok (5,r)
 else .ok (0,ts)
def sourcesLoopP:Nat→List Src→List Tk→PR (List Src)
 | 0,_,_=>fuelE
 | n+1,acc,ts=>bnd (joinedP ts) fun kind r=>if kind=0 then .ok (acc,r) else if (acc.length:Int) ≥ 4 then .error (5,atP r) else
   bnd (sourceP kind r) fun s r2=>bnd (mustP [⟨#[111,110]⟩] r2) fun _ r3=>bnd (eP r3) fun x r4=>sourcesLoopP n (acc ++ [{ s with on:=x }]) r4
def sourcesP (ts:List Tk):PR (List Src):=bnd (sourceP 1 ts) fun s r=>sourcesLoopP 5 [s] r
def groupP (ts:List Tk):PR (List SX) :=
 if isP ⟨#[103,114,111,117,112]⟩ ts then bnd (mustP [⟨#[98,121]⟩] (passP ts)) fun _ r=>commasP eP 8 9 r else .ok ([],ts)
def itemsP (st:Bool) (ts:List Tk):PR (List Itm):=if st then .ok ([],ts) else commasP itemP 8 9 ts
def selectedP (ts:List Tk):PR Sel :=
 bnd (mustP [⟨#[115,101,108,101,99,116]⟩] ts) fun _ r0 =>
  let di:=isP ⟨#[100,105,115,116,105,110,99,116]⟩ r0
  let r1:=if di then passP r0 else r0
  let st:=isP ⟨#[42]⟩ r1
  let r2:=if st then passP r1 else r1
  bnd (itemsP st r2) fun its r3=>bnd (mustP [⟨#[102,114,111,109]⟩] r3) fun _ r4=>bnd (sourcesP r4) fun fs r5=>bnd (exprBehindP ⟨#[119,104,101,114,101]⟩ r5) fun hw r6=>bnd (groupP r6) fun gs r8=>bnd (exprBehindP ⟨#[104,97,118,105,110,103]⟩ r8) fun hh r9 =>
   .ok (⟨di,st,its,fs,hw.1,hh.1,hw.2,hh.2,gs⟩,r9)
def betweenP (ts:List Tk):Int × List Tk :=
 if isP ⟨#[117,110,105,111,110]⟩ ts then (if isP ⟨#[97,108,108]⟩ (passP ts) then (1,passP (passP ts)) else (2,passP ts))
 else if isP ⟨#[101,120,99,101,112,116]⟩ ts then (if isP ⟨#[97,108,108]⟩ (passP ts) then (3,passP (passP ts)) else (4,passP ts))
 else (0,ts)
def partsLoopP:Nat→List Sel→List Int→List Tk→PR (List Sel × List Int)
 | 0,_,_,_=>fuelE
 | n+1,ps,ops,ts=>if (betweenP ts).1=0 then .ok ((ps,ops),ts) else if (ps.length:Int) ≥ 4 then .error (5,atP (betweenP ts).2) else
   bnd (selectedP (betweenP ts).2) fun s r=>partsLoopP n (ps ++ [s]) (ops ++ [(betweenP ts).1]) r
def queryP (ts:List Tk):PR Qry :=
 bnd (selectedP ts) fun s r=>bnd (partsLoopP 5 [s] [] r) fun po r2 =>
  if isP ⟨#[111,114,100,101,114]⟩ r2 then bnd (mustP [⟨#[98,121]⟩] (passP r2)) fun _ r3=>bnd (commasP eP 8 9 r3) fun l r4=>bnd (mustP [⟨#[108,105,109,105,116]⟩] r4) fun _ r5=>bnd (numberP 0 50 r5) fun n r6=>.ok (⟨po.1,po.2,l,n⟩,r6)
  else .ok (⟨po.1,po.2,[],-1⟩,r2)
def createdP (ts:List Tk):PR Stm :=
 if isP ⟨#[118,105,101,119]⟩ ts then bnd (nameP (passP ts)) fun n r=>bnd (mustP [⟨#[97,115]⟩] r) fun _ r2=>bnd (queryP r2) fun q r3=>.ok (⟨2,n,[],q,[],false,sx0⟩,r3)
 else bnd (mustP [⟨#[116,97,98,108,101]⟩] ts) fun _ r=>bnd (nameP r) fun n r2=>bnd (mustP [⟨#[40]⟩] r2) fun _ r3=>bnd (commasP columnP 8 9 r3) fun l r4=>bnd (mustP [⟨#[41]⟩] r4) fun _ r5=>.ok (⟨1,n,l,qry0,[],false,sx0⟩,r5)
def insertedP (ts:List Tk):PR Stm :=
 bnd (mustP [⟨#[105,110,116,111]⟩] ts) fun _ r=>bnd (nameP r) fun n r2=>bnd (mustP [⟨#[118,97,108,117,101,115]⟩] r2) fun _ r3=>bnd (commasP rowP 400 401 r3) fun l r4=>.ok (⟨3,n,[],qry0,l,false,sx0⟩,r4)
def deletedP (ts:List Tk):PR Stm :=
 bnd (mustP [⟨#[102,114,111,109]⟩] ts) fun _ r=>bnd (nameP r) fun n r2=>bnd (exprBehindP ⟨#[119,104,101,114,101]⟩ r2) fun hw r3=>.ok (⟨4,n,[],qry0,[],hw.1,hw.2⟩,r3)
def statementP (ts:List Tk):PR Stm :=
 if isP ⟨#[99,114,101,97,116,101]⟩ ts then createdP (passP ts)
 else if isP ⟨#[105,110,115,101,114,116]⟩ ts then insertedP (passP ts)
 else if isP ⟨#[100,101,108,101,116,101]⟩ ts then deletedP (passP ts)
 else if isP ⟨#[115,104,111,119]⟩ ts then bnd (queryP (passP ts)) fun q r=>.ok (⟨5,eB,[],q,[],false,sx0⟩,r)
 else .error (2,atP ts)
def statementsP:Nat→List Stm→List Tk→PR (List Stm)
 | 0,_,_=>fuelE
 | n+1,acc,ts=>if (nowP ts).1=5 then .ok (acc,ts) else if (acc.length:Int) ≥ 60 then .error (5,atP ts) else
   bnd (statementP ts) fun s r=>bnd (mustP [⟨#[59]⟩] r) fun _ r2=>statementsP n (acc ++ [s]) r2
end Go.Proofs.YtoknmnngaackkaaGreatDoor
namespace Go.Proofs.YtoknmnngaackkaaGreatDoor
open Go.RowKit Go.Lib Go.Shelf
set_option maxRecDepth 100000
set_option maxHeartbeats 4000000

/-- How a reading ends. -/
def Ends {α:Type} (R tb:Nat) (o:Int) (w:World) (V:World→Value→α→Prop) (r:PR α) (e:Ending) (w':World):Prop :=
 BelowX R w w'∧match r with
  | .ok (x,ts)=>∃ v,e = .returned v∧V w' v x∧RdAt w' R tb ts o
  | .error c=>e = .panicked [thrV c.1 c.2]∧∃ ts,RdAt w' R tb ts o
theorem is_at {w:World} {R tb:Nat} {ts:List Tk} {o:Int} (h:RdAt w R tb ts o) (s:ByteArray):Calls Tryz.prog 153 #[.pointer (some ⟨R,0,none⟩),.string s] w fun e w'=>e = .returned (.bool (isP s ts))∧Below w.heap.size w w':=by
 obtain ⟨t,r,rfl⟩:=h.toks.ne;have con:=now_at h;unfold isP nowP;go_enter Tryz.func153,Tryz.ntmps153;go_wp2_with fail
 refine con.mono ?_;rintro e w1 ⟨rfl,hb1⟩;clear con;have hb2:∀ x,Below w.heap.size w (w1.alloc x):=fun x=>chain hb1 ((Below.refl _ _).alloc (Nat.le_refl _) _)
 by_cases h1:t.1=1
 ·have b1:(t.1 == 1)=true:=by simpa using h1
  go_wp2_with fail
  exact bodyPost_ret (results_tmp rfl _ _ _) rfl ⟨by simp [b1],hb2 _⟩
 ·have b1:(t.1 == 1)=false:=by simpa using h1
  by_cases h4:t.1=4
  ·have b4:(t.1 == 4)=true:=by simpa using h4
   go_wp2_with fail
   exact bodyPost_ret (results_tmp rfl _ _ _) rfl ⟨by simp [b1,b4],hb2 _⟩
  ·have b4:(t.1 == 4)=false:=by simpa using h4
   go_wp2_with fail
   exact bodyPost_ret (results_tmp rfl _ _ _) rfl ⟨by simp [b1,b4],hb2 _⟩
def tookP (s:ByteArray) (ts:List Tk):List Tk:=if isP s ts then passP ts else ts
theorem tookP_t {s:ByteArray} {ts:List Tk} (h:isP s ts=true):tookP s ts=passP ts:=by rw [tookP,h]; rfl
theorem tookP_f {s:ByteArray} {ts:List Tk} (h:isP s ts=false):tookP s ts=ts:=by rw [tookP,h]; rfl
theorem took_at {w:World} {R tb:Nat} {ts:List Tk} {o:Int} (h:RdAt w R tb ts o) (s:ByteArray):Calls Tryz.prog 129 #[.pointer (some ⟨R,0,none⟩),.string s] w fun e w'=>e = .returned (.bool (isP s ts))∧RdAt w' R tb (tookP s ts) o∧BelowX R w w':=by
 have con:=is_at h s;have hR:=h.lt;have HR:Hid (RdAt w R tb ts o):=h;clear h;unfold tookP;rcases hi:isP s ts with _ | _
 ·rw [hi] at con;go_enter Tryz.func129,Tryz.ntmps129;go_wp2_with fail
  refine con.mono ?_;rintro e w1 ⟨rfl,hb1⟩;go_wp2_with fail
  exact bodyPost_ret (results_tmp rfl _ _ _) rfl ⟨rfl,by simpa using HR.out.next hb1,.of hb1 (by omega)⟩
 ·rw [hi] at con;obtain ⟨t,r,rfl⟩:=HR.out.toks.ne;go_enter Tryz.func129,Tryz.ntmps129;go_wp2_with fail
  refine con.mono ?_;rintro e w1 ⟨rfl,hb1⟩;have con2:=pass_at (HR.out.next hb1);go_wp2_with fail
  refine con2.mono ?_;rintro e w2 ⟨rfl,h2,hb2⟩;have hx:BelowX R w w2:=(BelowX.of hb1 (by omega)).trans hb2;go_wp2_with fail
  exact bodyPost_ret (results_tmp rfl _ _ _) rfl ⟨rfl,by simpa using h2,hx⟩
theorem room_full {w:World} {R tb:Nat} {ts:List Tk} {o:Int} (h:RdAt w R tb ts o) {n most:Int} (hn:n ≥ most):Calls Tryz.prog 99 #[.pointer (some ⟨R,0,none⟩),.int .i64 n,.int .i64 most] w fun e w'=>e = .panicked [thrV 5 (atP ts)]∧Below w.heap.size w w':=by
 obtain ⟨t,r,rfl⟩:=h.toks.ne;have con:=rfault_at h 5;have hn':most≤n:=hn;clear h;go_enter Tryz.func99,Tryz.ntmps99;go_wp2_with fail
 refine con.mono ?_;rintro e w1 ⟨rfl,hb1⟩;go_wp2_with fail
 exact ⟨rfl,rfl,hb1⟩
theorem room_ok {w:World} {R:Nat} {n most:Int} (hn:n<most):Calls Tryz.prog 99 #[.pointer (some ⟨R,0,none⟩),.int .i64 n,.int .i64 most] w fun e w'=>e = .returned (.tuple #[])∧Below w.heap.size w w':=by
 have hn':¬ most≤n:=by omega
 go_enter Tryz.func99,Tryz.ntmps99;go_wp2_with fail
 go_end0
 exact ⟨rfl,Below.refl _ _⟩
/-- Texts in a row. -/
structure StrAt (W:World) (b off:Nat) (l:List ByteArray):Prop where
 lt:b<W.heap.size
 c:∀ i (h:i<l.length),W.cell? ⟨b,off+i,none⟩=some (.string l[i])
theorem StrAt.nextX {W w1:World} {t b off:Nat} {l:List ByteArray} (h:StrAt W b off l) (hb:BelowX t W w1) (hn:b≠t):StrAt w1 b off l :=
 ⟨Nat.lt_of_lt_of_le h.lt hb.size,fun i hi=>(hb.cell (p:=⟨b,_,none⟩) h.lt hn).trans (h.c i hi)⟩
theorem StrAt.one (w:World) (s:ByteArray) (T:TypeId):StrAt (w.alloc (.cells #[.string s] T)) w.heap.size 0 [s] :=
 ⟨by simp,fun i hi=>by
  obtain rfl:i=0:=by simpa using hi
  exact cell_of (i:=0) (heap_new w _ T) rfl⟩
/-- Nothing as it is told. -/
def VUn (_:World) (v:Value) (_:Unit):Prop:=v = .tuple #[]
theorem must_at {w:World} {R tb:Nat} {ts:List Tk} {o:Int} (h:RdAt w R tb ts o) {b off cap:Nat} {l:List ByteArray} (hs:StrAt w b off l) (hb:b≠R) (hl:l.length≤100):Calls Tryz.prog 101 #[.pointer (some ⟨R,0,none⟩),.slice (some ⟨b,off,none⟩) l.length cap] w (Ends R tb o w VUn (mustP l ts)):=by
 have HR:Hid (RdAt w R tb ts o):=h;have HS:Hid (StrAt w b off l):=hs;generalize hM:mustP l ts=M;have HM:Hid (mustP l ts=M):=hM;clear h hs hM;go_enter Tryz.func101,Tryz.ntmps101;go_wp2_with fail
 go_loopw [8] (fun i wr=>∃ k:Nat,k≤l.length∧i = .int .i64 k∧BelowX R w wr∧Hid (∃ us,RdAt wr R tb us o∧mustP (l.drop k) us=M)) (fun i _=>l.length - (intOf i).toNat)
 case atStart=>exact ⟨0,Nat.zero_le _,rfl,BelowX.refl _ _,ts,HR.out,by simpa using HM.out⟩
 case round =>
  obtain ⟨k,hk,rfl,hx,HU⟩:=hrel;by_cases hlt:k<l.length
  ·have c0:=(HS.out.nextX hx hb).c k hlt;have hkz:(k:Int)<(l.length:Int):=by omega
   obtain ⟨us,hu,hm⟩:=HU.out;have HD:Hid (mustP (l[k] :: l.drop (k+1)) us=M):=by show _=_; rw [← hm,List.drop_eq_getElem_cons hlt]
   have HUS:Hid (RdAt wr R tb us o):=hu;have con:=took_at hu l[k];clear HU hm hu;rcases hi:isP l[k] us with _ | _
   ·rw [hi] at con;have e:M = .error (2,atP us):=by rw [← HD.out,mustP,hi]; rfl
    subst e;clear HD;go_wp2_with fail
    refine con.mono ?_;rintro e w1 ⟨rfl,h1,hx1⟩;unfold tookP at h1;rw [hi] at h1;obtain ⟨t,r,rfl⟩:=HUS.out.toks.ne;have con2:=rfault_at h1 2;have H1:Hid (RdAt w1 R tb (t :: r) o):=h1;clear con h1;go_wp2_with fail
    refine con2.mono ?_;rintro e w2 ⟨rfl,hb2⟩;go_wp2_with fail
    exact ⟨rfl,(hx.trans hx1).trans (.of hb2 (Nat.le_trans (Nat.le_of_lt HUS.out.lt) hx1.size)),rfl,_,H1.out.next hb2⟩
   ·rw [hi] at con;have HD2:Hid (mustP (l.drop (k+1)) (passP us)=M):=by show _=_; rw [← HD.out]; simp only [mustP,hi,if_true]
    clear HD;go_wp2_with fail
    refine con.mono ?_;rintro e w1 ⟨rfl,h1,hx1⟩;unfold tookP at h1;rw [hi] at h1;have H1:Hid (RdAt w1 R tb (passP us) o):=h1;clear con h1;go_wp2_with fail
    go_roundw
    case rel=>exact ⟨k+1,by omega,by go_num,hx.trans hx1,_,H1.out,HD2.out⟩
    case measure=>simp [intOf]; omega
  ·have hkz:¬ (k:Int)<(l.length:Int):=by omega
   obtain ⟨us,hu,hm⟩:=HU.out;rw [List.drop_eq_nil_of_le (by omega),mustP] at hm;subst hm;have HUS:Hid (RdAt wr R tb us o):=hu;clear HU hu;go_wp2_with fail
   go_end0
   exact ⟨hx,_,rfl,rfl,HUS.out⟩

theorem btL_len (s:ByteArray):(btL s).length=s.size:=by rw [btL,List.length_map]; exact Array.length_toList
theorem btL_get {s:ByteArray} {k:Nat} (h:k<s.size):(btL s)[k]'(by rw [btL_len]; exact h)=((s[k].toNat:Nat):Int):=by
 simp only [btL,List.getElem_map,Array.getElem_toList];rfl
theorem btL_drop {s:ByteArray} {k:Nat} (h:k<s.size):(btL s).drop k=((s[k].toNat:Nat):Int) :: (btL s).drop (k+1):=by
 rw [List.drop_eq_getElem_cons (by rw [btL_len]; exact h),btL_get h]
theorem letter_any (c:Int) (w:World):Calls Tryz.prog 46 #[.int .u8 c] w fun e w'=>e = .returned (.bool (letB c))∧w'=w:=by
 generalize hr:letB c=r;have HR:Hid (letB c=r):=hr;clear hr;by_cases h1:97≤c
 ·by_cases h2:c≤122
  ·go_enter Tryz.func46,Tryz.ntmps46;go_wp2_with fail
   exact bodyPost_ret (results_tmp rfl _ _ _) rfl ⟨by rw [← HR.out]; simp [letB,h1,h2],rfl⟩
  ·go_enter Tryz.func46,Tryz.ntmps46;go_wp2_with fail
   exact bodyPost_ret (results_tmp rfl _ _ _) rfl ⟨by rw [← HR.out,letB,decide_eq_false (show ¬ c≤122 by omega)]; simp,rfl⟩
 ·go_enter Tryz.func46,Tryz.ntmps46;go_wp2_with fail
  exact bodyPost_ret (results_tmp rfl _ _ _) rfl ⟨by rw [← HR.out,letB,decide_eq_false (show ¬ 97≤c by omega)]; simp,rfl⟩
theorem digit_any (c:Int) (w:World):Calls Tryz.prog 85 #[.int .u8 c] w fun e w'=>e = .returned (.bool (digB c))∧w'=w:=by
 generalize hr:digB c=r;have HR:Hid (digB c=r):=hr;clear hr;by_cases h1:48≤c
 ·go_enter Tryz.func85,Tryz.ntmps85;go_wp2_with fail
  exact bodyPost_ret (results_tmp rfl _ _ _) rfl ⟨by rw [← HR.out,digB,decide_eq_true (show 48≤c by omega)]; simp,rfl⟩
 ·go_enter Tryz.func85,Tryz.ntmps85;go_wp2_with fail
  exact bodyPost_ret (results_tmp rfl _ _ _) rfl ⟨by rw [← HR.out,digB,decide_eq_false (show ¬ 48≤c by omega)]; simp,rfl⟩
theorem blank_any (c:Int) (w:World):Calls Tryz.prog 96 #[.int .u8 c] w fun e w'=>e = .returned (.bool (blaB c))∧w'=w:=by
 generalize hr:blaB c=r;have HR:Hid (blaB c=r):=hr;clear hr;rcases h1:c == 32 with _ | _
 ·rcases h2:c == 9 with _ | _
  ·go_enter Tryz.func96,Tryz.ntmps96;go_wp2_with fail
   exact bodyPost_ret (results_tmp rfl _ _ _) rfl ⟨by rw [← HR.out,blaB,h1,h2]; simp,rfl⟩
  ·go_enter Tryz.func96,Tryz.ntmps96;go_wp2_with fail
   exact bodyPost_ret (results_tmp rfl _ _ _) rfl ⟨by rw [← HR.out,blaB,h1,h2]; simp,rfl⟩
 ·go_enter Tryz.func96,Tryz.ntmps96;go_wp2_with fail
  exact bodyPost_ret (results_tmp rfl _ _ _) rfl ⟨by rw [← HR.out,blaB,h1]; simp,rfl⟩
theorem word_any (c:Int) (w:World):Calls Tryz.prog 84 #[.int .u8 c] w fun e w'=>e = .returned (.bool (worB c))∧w'=w:=by
 generalize hr:worB c=r;have HR:Hid (worB c=r):=hr;clear hr;have con:=letter_any c w;rcases h1:letB c with _ | _ <;> rw [h1] at con
 ·go_enter Tryz.func84,Tryz.ntmps84;go_wp2_with fail
  refine con.mono ?_;rintro e w1 ⟨rfl,rfl⟩;have con2:=digit_any c w1;go_wp2_with fail
  refine con2.mono ?_;rintro e w2 ⟨rfl,rfl⟩;go_wp2_with fail
  exact bodyPost_ret (results_tmp rfl _ _ _) rfl ⟨by rw [← HR.out,worB,h1]; simp,rfl⟩
 ·go_enter Tryz.func84,Tryz.ntmps84;go_wp2_with fail
  refine con.mono ?_;rintro e w1 ⟨rfl,rfl⟩;go_wp2_with fail
  exact bodyPost_ret (results_tmp rfl _ _ _) rfl ⟨by rw [← HR.out,worB,h1]; simp,rfl⟩
/-- A function value that tells a class. -/
def ClsF (g:Nat) (f:Int→Bool):Prop:=∀ (c:Int) (w:World),Calls Tryz.prog g #[.int .u8 c] w fun e w'=>e = .returned (.bool (f c))∧w'=w
theorem span_at (g:Nat) (eg:∀ (args:Array Value) (w:World),Sem.run Tryz.prog (callFunc g args) w=Result.ok (Next.enter g args) w) (f:Int→Bool) (hf:ClsF g f) (s:ByteArray) (i:Nat) (hi:i≤s.size) (hs:s.size≤4000) (w:World) :
  Calls Tryz.prog 83 #[.string s,.int .i64 i,.func (.func g) #[] #[]] w fun e w'=>e = .returned (.int .i64 ((i+spanL f ((btL s).drop i):Nat):Int))∧w'=w:=by
 generalize hr:i+spanL f ((btL s).drop i)=r;have HR:Hid (i+spanL f ((btL s).drop i)=r):=hr;clear hr;go_enter Tryz.func83,Tryz.ntmps83;go_wp2_with fail
 go_loopw [1] (fun x wr=>∃ k:Nat,k≤s.size∧x = .int .i64 k∧wr=w∧Hid (k+spanL f ((btL s).drop k)=r)) (fun x _=>s.size - (intOf x).toNat)
 case atStart=>exact ⟨i,hi,rfl,rfl,HR⟩
 case round =>
  obtain ⟨k,hk,rfl,rfl,HK⟩:=hrel;by_cases hlt:k<s.size
  ·have hkz:(k:Int)<(s.size:Int):=by omega
   have HD:Hid (k+(if f ((s[k].toNat:Nat):Int) then spanL f ((btL s).drop (k+1))+1 else 0)=r):=by show _=_; rw [← HK.out,btL_drop hlt,spanL]
   have con:=hf ((s[k].toNat:Nat):Int) wr;clear HK;rcases hc:f ((s[k].toNat:Nat):Int) with _ | _ <;> rw [hc] at con HD
   ·obtain rfl:k=r:=by simpa using HD.out
    go_wp2_with fail
    refine con.mono ?_;rintro e w1 ⟨rfl,rfl⟩;go_wp2_with fail
    exact bodyPost_ret (results_tmp rfl _ _ _) rfl ⟨by first | rfl | trivial,by first | rfl | trivial⟩
   ·have HD2:Hid (k+1+spanL f ((btL s).drop (k+1))=r):=by show _=_; rw [← HD.out,if_pos rfl]; omega
    clear HD;go_wp2_with fail
    refine con.mono ?_;rintro e w1 ⟨rfl,rfl⟩;go_wp2_with fail
    go_roundw
    case rel=>exact ⟨k+1,by omega,by go_num,by first | rfl | trivial,HD2⟩
    case measure=>simp [intOf]; omega
  ·have hkz:¬ (k:Int)<(s.size:Int):=by omega
   obtain rfl:k=r:=by
    have:=HK.out;rw [List.drop_eq_nil_of_le (by rw [btL_len]; omega)] at this
    simpa [spanL] using this
   go_wp2_with fail
   exact bodyPost_ret (results_tmp rfl _ _ _) rfl ⟨by first | rfl | trivial,by first | rfl | trivial⟩
theorem wordEnd_at (s:ByteArray) (i:Nat) (hi:i≤s.size) (hs:s.size≤4000) (w:World):Calls Tryz.prog 47 #[.string s,.int .i64 i] w fun e w'=>e = .returned (.int .i64 ((i+spanL worB ((btL s).drop i):Nat):Int))∧w'=w:=by
 have con:=span_at 84 (fun _ _=>by kernel_rfl) worB (fun c w=>word_any c w) s i hi hs w;generalize i+spanL worB ((btL s).drop i)=r at *;go_enter Tryz.func47,Tryz.ntmps47;go_wp2_with fail
 refine con.mono ?_;rintro e w1 ⟨rfl,rfl⟩;go_wp2_with fail
 exact bodyPost_ret (results_tmp rfl _ _ _) rfl ⟨by first | rfl | trivial,by first | rfl | trivial⟩
set_option maxHeartbeats 16000000

theorem kept_any (s:ByteArray) (w:World):Calls Tryz.prog 48 #[.string s] w fun e w'=>e = .returned (.bool (keptP s))∧w'=w:=by
 generalize hr:keptP s=r;have HR:Hid (keptP s=r):=hr;clear hr;rcases h0:s.toList == [99,114,101,97,116,101] with _ | _
 case true =>
  have e:r=true:=by rw [← HR.out]; simp only [keptP,keptL,List.any_cons,h0,Bool.true_or]
  subst e;clear HR;go_enter Tryz.func48,Tryz.ntmps48;go_wp2_with fail
  exact bodyPost_ret (results_tmp rfl _ _ _) rfl ⟨by first | rfl | trivial,by first | rfl | trivial⟩
 rcases h1:s.toList == [116,97,98,108,101] with _ | _
 case true =>
  have e:r=true:=by rw [← HR.out]; simp only [keptP,keptL,List.any_cons,h0,h1,Bool.true_or,Bool.or_true]
  subst e;clear HR;go_enter Tryz.func48,Tryz.ntmps48;go_wp2_with fail
  exact bodyPost_ret (results_tmp rfl _ _ _) rfl ⟨by first | rfl | trivial,by first | rfl | trivial⟩
 rcases h2:s.toList == [118,105,101,119] with _ | _
 case true =>
  have e:r=true:=by rw [← HR.out]; simp only [keptP,keptL,List.any_cons,h0,h1,h2,Bool.true_or,Bool.or_true]
  subst e;clear HR;go_enter Tryz.func48,Tryz.ntmps48;go_wp2_with fail
  exact bodyPost_ret (results_tmp rfl _ _ _) rfl ⟨by first | rfl | trivial,by first | rfl | trivial⟩
 rcases h3:s.toList == [97,115] with _ | _
 case true =>
  have e:r=true:=by rw [← HR.out]; simp only [keptP,keptL,List.any_cons,h0,h1,h2,h3,Bool.true_or,Bool.or_true]
  subst e;clear HR;go_enter Tryz.func48,Tryz.ntmps48;go_wp2_with fail
  exact bodyPost_ret (results_tmp rfl _ _ _) rfl ⟨by first | rfl | trivial,by first | rfl | trivial⟩
 rcases h4:s.toList == [105,110,115,101,114,116] with _ | _
 case true =>
  have e:r=true:=by rw [← HR.out]; simp only [keptP,keptL,List.any_cons,h0,h1,h2,h3,h4,Bool.true_or,Bool.or_true]
  subst e;clear HR;go_enter Tryz.func48,Tryz.ntmps48;go_wp2_with fail
  exact bodyPost_ret (results_tmp rfl _ _ _) rfl ⟨by first | rfl | trivial,by first | rfl | trivial⟩
 rcases h5:s.toList == [105,110,116,111] with _ | _
 case true =>
  have e:r=true:=by rw [← HR.out]; simp only [keptP,keptL,List.any_cons,h0,h1,h2,h3,h4,h5,Bool.true_or,Bool.or_true]
  subst e;clear HR;go_enter Tryz.func48,Tryz.ntmps48;go_wp2_with fail
  exact bodyPost_ret (results_tmp rfl _ _ _) rfl ⟨by first | rfl | trivial,by first | rfl | trivial⟩
 rcases h6:s.toList == [118,97,108,117,101,115] with _ | _
 case true =>
  have e:r=true:=by rw [← HR.out]; simp only [keptP,keptL,List.any_cons,h0,h1,h2,h3,h4,h5,h6,Bool.true_or,Bool.or_true]
  subst e;clear HR;go_enter Tryz.func48,Tryz.ntmps48;go_wp2_with fail
  exact bodyPost_ret (results_tmp rfl _ _ _) rfl ⟨by first | rfl | trivial,by first | rfl | trivial⟩
 rcases h7:s.toList == [100,101,108,101,116,101] with _ | _
 case true =>
  have e:r=true:=by rw [← HR.out]; simp only [keptP,keptL,List.any_cons,h0,h1,h2,h3,h4,h5,h6,h7,Bool.true_or,Bool.or_true]
  subst e;clear HR;go_enter Tryz.func48,Tryz.ntmps48;go_wp2_with fail
  exact bodyPost_ret (results_tmp rfl _ _ _) rfl ⟨by first | rfl | trivial,by first | rfl | trivial⟩
 rcases h8:s.toList == [102,114,111,109] with _ | _
 case true =>
  have e:r=true:=by rw [← HR.out]; simp only [keptP,keptL,List.any_cons,h0,h1,h2,h3,h4,h5,h6,h7,h8,Bool.true_or,Bool.or_true]
  subst e;clear HR;go_enter Tryz.func48,Tryz.ntmps48;go_wp2_with fail
  exact bodyPost_ret (results_tmp rfl _ _ _) rfl ⟨by first | rfl | trivial,by first | rfl | trivial⟩
 rcases h9:s.toList == [119,104,101,114,101] with _ | _
 case true =>
  have e:r=true:=by rw [← HR.out]; simp only [keptP,keptL,List.any_cons,h0,h1,h2,h3,h4,h5,h6,h7,h8,h9,Bool.true_or,Bool.or_true]
  subst e;clear HR;go_enter Tryz.func48,Tryz.ntmps48;go_wp2_with fail
  exact bodyPost_ret (results_tmp rfl _ _ _) rfl ⟨by first | rfl | trivial,by first | rfl | trivial⟩
 rcases h10:s.toList == [115,104,111,119] with _ | _
 case true =>
  have e:r=true:=by rw [← HR.out]; simp only [keptP,keptL,List.any_cons,h0,h1,h2,h3,h4,h5,h6,h7,h8,h9,h10,Bool.true_or,Bool.or_true]
  subst e;clear HR;go_enter Tryz.func48,Tryz.ntmps48;go_wp2_with fail
  exact bodyPost_ret (results_tmp rfl _ _ _) rfl ⟨by first | rfl | trivial,by first | rfl | trivial⟩
 rcases h11:s.toList == [115,101,108,101,99,116] with _ | _
 case true =>
  have e:r=true:=by rw [← HR.out]; simp only [keptP,keptL,List.any_cons,h0,h1,h2,h3,h4,h5,h6,h7,h8,h9,h10,h11,Bool.true_or,Bool.or_true]
  subst e;clear HR;go_enter Tryz.func48,Tryz.ntmps48;go_wp2_with fail
  exact bodyPost_ret (results_tmp rfl _ _ _) rfl ⟨by first | rfl | trivial,by first | rfl | trivial⟩
 rcases h12:s.toList == [100,105,115,116,105,110,99,116] with _ | _
 case true =>
  have e:r=true:=by rw [← HR.out]; simp only [keptP,keptL,List.any_cons,h0,h1,h2,h3,h4,h5,h6,h7,h8,h9,h10,h11,h12,Bool.true_or,Bool.or_true]
  subst e;clear HR;go_enter Tryz.func48,Tryz.ntmps48;go_wp2_with fail
  exact bodyPost_ret (results_tmp rfl _ _ _) rfl ⟨by first | rfl | trivial,by first | rfl | trivial⟩
 rcases h13:s.toList == [103,114,111,117,112] with _ | _
 case true =>
  have e:r=true:=by rw [← HR.out]; simp only [keptP,keptL,List.any_cons,h0,h1,h2,h3,h4,h5,h6,h7,h8,h9,h10,h11,h12,h13,Bool.true_or,Bool.or_true]
  subst e;clear HR;go_enter Tryz.func48,Tryz.ntmps48;go_wp2_with fail
  exact bodyPost_ret (results_tmp rfl _ _ _) rfl ⟨by first | rfl | trivial,by first | rfl | trivial⟩
 rcases h14:s.toList == [98,121] with _ | _
 case true =>
  have e:r=true:=by rw [← HR.out]; simp only [keptP,keptL,List.any_cons,h0,h1,h2,h3,h4,h5,h6,h7,h8,h9,h10,h11,h12,h13,h14,Bool.true_or,Bool.or_true]
  subst e;clear HR;go_enter Tryz.func48,Tryz.ntmps48;go_wp2_with fail
  exact bodyPost_ret (results_tmp rfl _ _ _) rfl ⟨by first | rfl | trivial,by first | rfl | trivial⟩
 rcases h15:s.toList == [104,97,118,105,110,103] with _ | _
 case true =>
  have e:r=true:=by rw [← HR.out]; simp only [keptP,keptL,List.any_cons,h0,h1,h2,h3,h4,h5,h6,h7,h8,h9,h10,h11,h12,h13,h14,h15,Bool.true_or,Bool.or_true]
  subst e;clear HR;go_enter Tryz.func48,Tryz.ntmps48;go_wp2_with fail
  exact bodyPost_ret (results_tmp rfl _ _ _) rfl ⟨by first | rfl | trivial,by first | rfl | trivial⟩
 rcases h16:s.toList == [117,110,105,111,110] with _ | _
 case true =>
  have e:r=true:=by rw [← HR.out]; simp only [keptP,keptL,List.any_cons,h0,h1,h2,h3,h4,h5,h6,h7,h8,h9,h10,h11,h12,h13,h14,h15,h16,Bool.true_or,Bool.or_true]
  subst e;clear HR;go_enter Tryz.func48,Tryz.ntmps48;go_wp2_with fail
  exact bodyPost_ret (results_tmp rfl _ _ _) rfl ⟨by first | rfl | trivial,by first | rfl | trivial⟩
 rcases h17:s.toList == [97,108,108] with _ | _
 case true =>
  have e:r=true:=by rw [← HR.out]; simp only [keptP,keptL,List.any_cons,h0,h1,h2,h3,h4,h5,h6,h7,h8,h9,h10,h11,h12,h13,h14,h15,h16,h17,Bool.true_or,Bool.or_true]
  subst e;clear HR;go_enter Tryz.func48,Tryz.ntmps48;go_wp2_with fail
  exact bodyPost_ret (results_tmp rfl _ _ _) rfl ⟨by first | rfl | trivial,by first | rfl | trivial⟩
 rcases h18:s.toList == [101,120,99,101,112,116] with _ | _
 case true =>
  have e:r=true:=by rw [← HR.out]; simp only [keptP,keptL,List.any_cons,h0,h1,h2,h3,h4,h5,h6,h7,h8,h9,h10,h11,h12,h13,h14,h15,h16,h17,h18,Bool.true_or,Bool.or_true]
  subst e;clear HR;go_enter Tryz.func48,Tryz.ntmps48;go_wp2_with fail
  exact bodyPost_ret (results_tmp rfl _ _ _) rfl ⟨by first | rfl | trivial,by first | rfl | trivial⟩
 rcases h19:s.toList == [111,114,100,101,114] with _ | _
 case true =>
  have e:r=true:=by rw [← HR.out]; simp only [keptP,keptL,List.any_cons,h0,h1,h2,h3,h4,h5,h6,h7,h8,h9,h10,h11,h12,h13,h14,h15,h16,h17,h18,h19,Bool.true_or,Bool.or_true]
  subst e;clear HR;go_enter Tryz.func48,Tryz.ntmps48;go_wp2_with fail
  exact bodyPost_ret (results_tmp rfl _ _ _) rfl ⟨by first | rfl | trivial,by first | rfl | trivial⟩
 rcases h20:s.toList == [108,105,109,105,116] with _ | _
 case true =>
  have e:r=true:=by rw [← HR.out]; simp only [keptP,keptL,List.any_cons,h0,h1,h2,h3,h4,h5,h6,h7,h8,h9,h10,h11,h12,h13,h14,h15,h16,h17,h18,h19,h20,Bool.true_or,Bool.or_true]
  subst e;clear HR;go_enter Tryz.func48,Tryz.ntmps48;go_wp2_with fail
  exact bodyPost_ret (results_tmp rfl _ _ _) rfl ⟨by first | rfl | trivial,by first | rfl | trivial⟩
 rcases h21:s.toList == [106,111,105,110] with _ | _
 case true =>
  have e:r=true:=by rw [← HR.out]; simp only [keptP,keptL,List.any_cons,h0,h1,h2,h3,h4,h5,h6,h7,h8,h9,h10,h11,h12,h13,h14,h15,h16,h17,h18,h19,h20,h21,Bool.true_or,Bool.or_true]
  subst e;clear HR;go_enter Tryz.func48,Tryz.ntmps48;go_wp2_with fail
  exact bodyPost_ret (results_tmp rfl _ _ _) rfl ⟨by first | rfl | trivial,by first | rfl | trivial⟩
 rcases h22:s.toList == [108,101,102,116] with _ | _
 case true =>
  have e:r=true:=by rw [← HR.out]; simp only [keptP,keptL,List.any_cons,h0,h1,h2,h3,h4,h5,h6,h7,h8,h9,h10,h11,h12,h13,h14,h15,h16,h17,h18,h19,h20,h21,h22,Bool.true_or,Bool.or_true]
  subst e;clear HR;go_enter Tryz.func48,Tryz.ntmps48;go_wp2_with fail
  exact bodyPost_ret (results_tmp rfl _ _ _) rfl ⟨by first | rfl | trivial,by first | rfl | trivial⟩
 rcases h23:s.toList == [115,101,109,105] with _ | _
 case true =>
  have e:r=true:=by rw [← HR.out]; simp only [keptP,keptL,List.any_cons,h0,h1,h2,h3,h4,h5,h6,h7,h8,h9,h10,h11,h12,h13,h14,h15,h16,h17,h18,h19,h20,h21,h22,h23,Bool.true_or,Bool.or_true]
  subst e;clear HR;go_enter Tryz.func48,Tryz.ntmps48;go_wp2_with fail
  exact bodyPost_ret (results_tmp rfl _ _ _) rfl ⟨by first | rfl | trivial,by first | rfl | trivial⟩
 rcases h24:s.toList == [97,110,116,105] with _ | _
 case true =>
  have e:r=true:=by rw [← HR.out]; simp only [keptP,keptL,List.any_cons,h0,h1,h2,h3,h4,h5,h6,h7,h8,h9,h10,h11,h12,h13,h14,h15,h16,h17,h18,h19,h20,h21,h22,h23,h24,Bool.true_or,Bool.or_true]
  subst e;clear HR;go_enter Tryz.func48,Tryz.ntmps48;go_wp2_with fail
  exact bodyPost_ret (results_tmp rfl _ _ _) rfl ⟨by first | rfl | trivial,by first | rfl | trivial⟩
 rcases h25:s.toList == [111,110] with _ | _
 case true =>
  have e:r=true:=by rw [← HR.out]; simp only [keptP,keptL,List.any_cons,h0,h1,h2,h3,h4,h5,h6,h7,h8,h9,h10,h11,h12,h13,h14,h15,h16,h17,h18,h19,h20,h21,h22,h23,h24,h25,Bool.true_or,Bool.or_true]
  subst e;clear HR;go_enter Tryz.func48,Tryz.ntmps48;go_wp2_with fail
  exact bodyPost_ret (results_tmp rfl _ _ _) rfl ⟨by first | rfl | trivial,by first | rfl | trivial⟩
 rcases h26:s.toList == [97,110,100] with _ | _
 case true =>
  have e:r=true:=by rw [← HR.out]; simp only [keptP,keptL,List.any_cons,h0,h1,h2,h3,h4,h5,h6,h7,h8,h9,h10,h11,h12,h13,h14,h15,h16,h17,h18,h19,h20,h21,h22,h23,h24,h25,h26,Bool.true_or,Bool.or_true]
  subst e;clear HR;go_enter Tryz.func48,Tryz.ntmps48;go_wp2_with fail
  exact bodyPost_ret (results_tmp rfl _ _ _) rfl ⟨by first | rfl | trivial,by first | rfl | trivial⟩
 rcases h27:s.toList == [111,114] with _ | _
 case true =>
  have e:r=true:=by rw [← HR.out]; simp only [keptP,keptL,List.any_cons,h0,h1,h2,h3,h4,h5,h6,h7,h8,h9,h10,h11,h12,h13,h14,h15,h16,h17,h18,h19,h20,h21,h22,h23,h24,h25,h26,h27,Bool.true_or,Bool.or_true]
  subst e;clear HR;go_enter Tryz.func48,Tryz.ntmps48;go_wp2_with fail
  exact bodyPost_ret (results_tmp rfl _ _ _) rfl ⟨by first | rfl | trivial,by first | rfl | trivial⟩
 rcases h28:s.toList == [110,111,116] with _ | _
 case true =>
  have e:r=true:=by rw [← HR.out]; simp only [keptP,keptL,List.any_cons,h0,h1,h2,h3,h4,h5,h6,h7,h8,h9,h10,h11,h12,h13,h14,h15,h16,h17,h18,h19,h20,h21,h22,h23,h24,h25,h26,h27,h28,Bool.true_or,Bool.or_true]
  subst e;clear HR;go_enter Tryz.func48,Tryz.ntmps48;go_wp2_with fail
  exact bodyPost_ret (results_tmp rfl _ _ _) rfl ⟨by first | rfl | trivial,by first | rfl | trivial⟩
 rcases h29:s.toList == [105,115] with _ | _
 case true =>
  have e:r=true:=by rw [← HR.out]; simp only [keptP,keptL,List.any_cons,h0,h1,h2,h3,h4,h5,h6,h7,h8,h9,h10,h11,h12,h13,h14,h15,h16,h17,h18,h19,h20,h21,h22,h23,h24,h25,h26,h27,h28,h29,Bool.true_or,Bool.or_true]
  subst e;clear HR;go_enter Tryz.func48,Tryz.ntmps48;go_wp2_with fail
  exact bodyPost_ret (results_tmp rfl _ _ _) rfl ⟨by first | rfl | trivial,by first | rfl | trivial⟩
 rcases h30:s.toList == [110,117,108,108] with _ | _
 case true =>
  have e:r=true:=by rw [← HR.out]; simp only [keptP,keptL,List.any_cons,h0,h1,h2,h3,h4,h5,h6,h7,h8,h9,h10,h11,h12,h13,h14,h15,h16,h17,h18,h19,h20,h21,h22,h23,h24,h25,h26,h27,h28,h29,h30,Bool.true_or,Bool.or_true]
  subst e;clear HR;go_enter Tryz.func48,Tryz.ntmps48;go_wp2_with fail
  exact bodyPost_ret (results_tmp rfl _ _ _) rfl ⟨by first | rfl | trivial,by first | rfl | trivial⟩
 rcases h31:s.toList == [116,114,117,101] with _ | _
 case true =>
  have e:r=true:=by rw [← HR.out]; simp only [keptP,keptL,List.any_cons,h0,h1,h2,h3,h4,h5,h6,h7,h8,h9,h10,h11,h12,h13,h14,h15,h16,h17,h18,h19,h20,h21,h22,h23,h24,h25,h26,h27,h28,h29,h30,h31,Bool.true_or,Bool.or_true]
  subst e;clear HR;go_enter Tryz.func48,Tryz.ntmps48;go_wp2_with fail
  exact bodyPost_ret (results_tmp rfl _ _ _) rfl ⟨by first | rfl | trivial,by first | rfl | trivial⟩
 rcases h32:s.toList == [102,97,108,115,101] with _ | _
 case true =>
  have e:r=true:=by rw [← HR.out]; simp only [keptP,keptL,List.any_cons,h0,h1,h2,h3,h4,h5,h6,h7,h8,h9,h10,h11,h12,h13,h14,h15,h16,h17,h18,h19,h20,h21,h22,h23,h24,h25,h26,h27,h28,h29,h30,h31,h32,Bool.true_or,Bool.or_true]
  subst e;clear HR;go_enter Tryz.func48,Tryz.ntmps48;go_wp2_with fail
  exact bodyPost_ret (results_tmp rfl _ _ _) rfl ⟨by first | rfl | trivial,by first | rfl | trivial⟩
 rcases h33:s.toList == [99,97,115,101] with _ | _
 case true =>
  have e:r=true:=by rw [← HR.out]; simp only [keptP,keptL,List.any_cons,h0,h1,h2,h3,h4,h5,h6,h7,h8,h9,h10,h11,h12,h13,h14,h15,h16,h17,h18,h19,h20,h21,h22,h23,h24,h25,h26,h27,h28,h29,h30,h31,h32,h33,Bool.true_or,Bool.or_true]
  subst e;clear HR;go_enter Tryz.func48,Tryz.ntmps48;go_wp2_with fail
  exact bodyPost_ret (results_tmp rfl _ _ _) rfl ⟨by first | rfl | trivial,by first | rfl | trivial⟩
 rcases h34:s.toList == [119,104,101,110] with _ | _
 case true =>
  have e:r=true:=by rw [← HR.out]; simp only [keptP,keptL,List.any_cons,h0,h1,h2,h3,h4,h5,h6,h7,h8,h9,h10,h11,h12,h13,h14,h15,h16,h17,h18,h19,h20,h21,h22,h23,h24,h25,h26,h27,h28,h29,h30,h31,h32,h33,h34,Bool.true_or,Bool.or_true]
  subst e;clear HR;go_enter Tryz.func48,Tryz.ntmps48;go_wp2_with fail
  exact bodyPost_ret (results_tmp rfl _ _ _) rfl ⟨by first | rfl | trivial,by first | rfl | trivial⟩
 rcases h35:s.toList == [116,104,101,110] with _ | _
 case true =>
  have e:r=true:=by rw [← HR.out]; simp only [keptP,keptL,List.any_cons,h0,h1,h2,h3,h4,h5,h6,h7,h8,h9,h10,h11,h12,h13,h14,h15,h16,h17,h18,h19,h20,h21,h22,h23,h24,h25,h26,h27,h28,h29,h30,h31,h32,h33,h34,h35,Bool.true_or,Bool.or_true]
  subst e;clear HR;go_enter Tryz.func48,Tryz.ntmps48;go_wp2_with fail
  exact bodyPost_ret (results_tmp rfl _ _ _) rfl ⟨by first | rfl | trivial,by first | rfl | trivial⟩
 rcases h36:s.toList == [101,108,115,101] with _ | _
 case true =>
  have e:r=true:=by rw [← HR.out]; simp only [keptP,keptL,List.any_cons,h0,h1,h2,h3,h4,h5,h6,h7,h8,h9,h10,h11,h12,h13,h14,h15,h16,h17,h18,h19,h20,h21,h22,h23,h24,h25,h26,h27,h28,h29,h30,h31,h32,h33,h34,h35,h36,Bool.true_or,Bool.or_true]
  subst e;clear HR;go_enter Tryz.func48,Tryz.ntmps48;go_wp2_with fail
  exact bodyPost_ret (results_tmp rfl _ _ _) rfl ⟨by first | rfl | trivial,by first | rfl | trivial⟩
 rcases h37:s.toList == [101,110,100] with _ | _
 case true =>
  have e:r=true:=by rw [← HR.out]; simp only [keptP,keptL,List.any_cons,h0,h1,h2,h3,h4,h5,h6,h7,h8,h9,h10,h11,h12,h13,h14,h15,h16,h17,h18,h19,h20,h21,h22,h23,h24,h25,h26,h27,h28,h29,h30,h31,h32,h33,h34,h35,h36,h37,Bool.true_or,Bool.or_true]
  subst e;clear HR;go_enter Tryz.func48,Tryz.ntmps48;go_wp2_with fail
  exact bodyPost_ret (results_tmp rfl _ _ _) rfl ⟨by first | rfl | trivial,by first | rfl | trivial⟩
 rcases h38:s.toList == [99,111,97,108,101,115,99,101] with _ | _
 case true =>
  have e:r=true:=by rw [← HR.out]; simp only [keptP,keptL,List.any_cons,h0,h1,h2,h3,h4,h5,h6,h7,h8,h9,h10,h11,h12,h13,h14,h15,h16,h17,h18,h19,h20,h21,h22,h23,h24,h25,h26,h27,h28,h29,h30,h31,h32,h33,h34,h35,h36,h37,h38,Bool.true_or,Bool.or_true]
  subst e;clear HR;go_enter Tryz.func48,Tryz.ntmps48;go_wp2_with fail
  exact bodyPost_ret (results_tmp rfl _ _ _) rfl ⟨by first | rfl | trivial,by first | rfl | trivial⟩
 rcases h39:s.toList == [99,111,117,110,116] with _ | _
 case true =>
  have e:r=true:=by rw [← HR.out]; simp only [keptP,keptL,List.any_cons,h0,h1,h2,h3,h4,h5,h6,h7,h8,h9,h10,h11,h12,h13,h14,h15,h16,h17,h18,h19,h20,h21,h22,h23,h24,h25,h26,h27,h28,h29,h30,h31,h32,h33,h34,h35,h36,h37,h38,h39,Bool.true_or,Bool.or_true]
  subst e;clear HR;go_enter Tryz.func48,Tryz.ntmps48;go_wp2_with fail
  exact bodyPost_ret (results_tmp rfl _ _ _) rfl ⟨by first | rfl | trivial,by first | rfl | trivial⟩
 rcases h40:s.toList == [115,117,109] with _ | _
 case true =>
  have e:r=true:=by rw [← HR.out]; simp only [keptP,keptL,List.any_cons,h0,h1,h2,h3,h4,h5,h6,h7,h8,h9,h10,h11,h12,h13,h14,h15,h16,h17,h18,h19,h20,h21,h22,h23,h24,h25,h26,h27,h28,h29,h30,h31,h32,h33,h34,h35,h36,h37,h38,h39,h40,Bool.true_or,Bool.or_true]
  subst e;clear HR;go_enter Tryz.func48,Tryz.ntmps48;go_wp2_with fail
  exact bodyPost_ret (results_tmp rfl _ _ _) rfl ⟨by first | rfl | trivial,by first | rfl | trivial⟩
 rcases h41:s.toList == [109,105,110] with _ | _
 case true =>
  have e:r=true:=by rw [← HR.out]; simp only [keptP,keptL,List.any_cons,h0,h1,h2,h3,h4,h5,h6,h7,h8,h9,h10,h11,h12,h13,h14,h15,h16,h17,h18,h19,h20,h21,h22,h23,h24,h25,h26,h27,h28,h29,h30,h31,h32,h33,h34,h35,h36,h37,h38,h39,h40,h41,Bool.true_or,Bool.or_true]
  subst e;clear HR;go_enter Tryz.func48,Tryz.ntmps48;go_wp2_with fail
  exact bodyPost_ret (results_tmp rfl _ _ _) rfl ⟨by first | rfl | trivial,by first | rfl | trivial⟩
 rcases h42:s.toList == [109,97,120] with _ | _
 case true =>
  have e:r=true:=by rw [← HR.out]; simp only [keptP,keptL,List.any_cons,h0,h1,h2,h3,h4,h5,h6,h7,h8,h9,h10,h11,h12,h13,h14,h15,h16,h17,h18,h19,h20,h21,h22,h23,h24,h25,h26,h27,h28,h29,h30,h31,h32,h33,h34,h35,h36,h37,h38,h39,h40,h41,h42,Bool.true_or,Bool.or_true]
  subst e;clear HR;go_enter Tryz.func48,Tryz.ntmps48;go_wp2_with fail
  exact bodyPost_ret (results_tmp rfl _ _ _) rfl ⟨by first | rfl | trivial,by first | rfl | trivial⟩
 rcases h43:s.toList == [105,110,116] with _ | _
 case true =>
  have e:r=true:=by rw [← HR.out]; simp only [keptP,keptL,List.any_cons,h0,h1,h2,h3,h4,h5,h6,h7,h8,h9,h10,h11,h12,h13,h14,h15,h16,h17,h18,h19,h20,h21,h22,h23,h24,h25,h26,h27,h28,h29,h30,h31,h32,h33,h34,h35,h36,h37,h38,h39,h40,h41,h42,h43,Bool.true_or,Bool.or_true]
  subst e;clear HR;go_enter Tryz.func48,Tryz.ntmps48;go_wp2_with fail
  exact bodyPost_ret (results_tmp rfl _ _ _) rfl ⟨by first | rfl | trivial,by first | rfl | trivial⟩
 rcases h44:s.toList == [116,101,120,116] with _ | _
 case true =>
  have e:r=true:=by rw [← HR.out]; simp only [keptP,keptL,List.any_cons,h0,h1,h2,h3,h4,h5,h6,h7,h8,h9,h10,h11,h12,h13,h14,h15,h16,h17,h18,h19,h20,h21,h22,h23,h24,h25,h26,h27,h28,h29,h30,h31,h32,h33,h34,h35,h36,h37,h38,h39,h40,h41,h42,h43,h44,Bool.true_or,Bool.or_true]
  subst e;clear HR;go_enter Tryz.func48,Tryz.ntmps48;go_wp2_with fail
  exact bodyPost_ret (results_tmp rfl _ _ _) rfl ⟨by first | rfl | trivial,by first | rfl | trivial⟩
 rcases h45:s.toList == [98,111,111,108] with _ | _
 case true =>
  have e:r=true:=by rw [← HR.out]; simp only [keptP,keptL,List.any_cons,h0,h1,h2,h3,h4,h5,h6,h7,h8,h9,h10,h11,h12,h13,h14,h15,h16,h17,h18,h19,h20,h21,h22,h23,h24,h25,h26,h27,h28,h29,h30,h31,h32,h33,h34,h35,h36,h37,h38,h39,h40,h41,h42,h43,h44,h45,Bool.true_or,Bool.or_true]
  subst e;clear HR;go_enter Tryz.func48,Tryz.ntmps48;go_wp2_with fail
  exact bodyPost_ret (results_tmp rfl _ _ _) rfl ⟨by first | rfl | trivial,by first | rfl | trivial⟩
 have e:r=false:=by rw [← HR.out]; simp only [keptP,keptL,List.any_cons,List.any_nil,h0,h1,h2,h3,h4,h5,h6,h7,h8,h9,h10,h11,h12,h13,h14,h15,h16,h17,h18,h19,h20,h21,h22,h23,h24,h25,h26,h27,h28,h29,h30,h31,h32,h33,h34,h35,h36,h37,h38,h39,h40,h41,h42,h43,h44,h45,Bool.or_false]
 subst e;clear HR;go_enter Tryz.func48,Tryz.ntmps48;go_wp2_with fail
 exact bodyPost_ret (results_tmp rfl _ _ _) rfl ⟨by first | rfl | trivial,by first | rfl | trivial⟩
theorem spanL_all (f:Int→Bool):∀ l:List Int,(spanL f l == l.length)=l.all f
 | []=>rfl
 | c :: r=>by
  have:=spanL_all f r
  rw [spanL,List.all_cons,← this]
  cases f c
  ·simp
  ·simp
theorem named_at (s:ByteArray) (hs:s.size≤4000) (w:World):Calls Tryz.prog 20 #[.string s] w fun e w'=>e = .returned (.bool (namedP s))∧w'=w:=by
 generalize hr:namedP s=r;have HR:Hid (namedP s=r):=hr;clear hr;by_cases h1:1≤s.size
 case neg =>
  have e:r=false:=by rw [← HR.out,namedP,decide_eq_false h1]; simp
  subst e;have h1':¬ (1:Int)≤(s.size:Int):=by omega
  clear HR;go_enter Tryz.func20,Tryz.ntmps20;go_wp2_with fail
  exact bodyPost_ret (results_tmp rfl _ _ _) rfl ⟨by first | rfl | trivial,by first | rfl | trivial⟩
 have h1':(1:Int)≤(s.size:Int):=by omega
 by_cases h2:s.size≤12
 case neg =>
  have e:r=false:=by rw [← HR.out,namedP,decide_eq_false h2]; simp
  subst e;have h2':¬ (s.size:Int)≤12:=by omega
  clear HR;go_enter Tryz.func20,Tryz.ntmps20;go_wp2_with fail
  exact bodyPost_ret (results_tmp rfl _ _ _) rfl ⟨by first | rfl | trivial,by first | rfl | trivial⟩
 have h2':(s.size:Int)≤12:=by omega
 have h0:0<s.size:=by omega
 have h0':(0:Int)<(s.size:Int):=by omega
 have HR2:Hid ((letB ((s[0].toNat:Nat):Int) && (btL s).all worB && !keptP s)=r):=by
  show _=_;rw [← HR.out,namedP,decide_eq_true h1,decide_eq_true h2,Bool.true_and,Bool.true_and,List.getD_eq_getElem?_getD,List.getElem?_eq_getElem (by rw [btL_len]; exact h0),Option.getD_some,btL_get h0]
 clear HR;have con:=letter_any ((s[0].toNat:Nat):Int) w;rcases h3:letB ((s[0].toNat:Nat):Int) with _ | _ <;> rw [h3] at con HR2
 ·have e:r=false:=by rw [← HR2.out]; simp
  subst e;clear HR2;go_enter Tryz.func20,Tryz.ntmps20;go_wp2_with fail
  refine con.mono ?_;rintro e w1 ⟨rfl,rfl⟩;go_wp2_with fail
  exact bodyPost_ret (results_tmp rfl _ _ _) rfl ⟨by first | rfl | trivial,by first | rfl | trivial⟩
 ·have con2:=wordEnd_at s 0 (Nat.zero_le _) hs w;have HA:Hid ((spanL worB (btL s) == s.size)=(btL s).all worB):=by show _=_; rw [← spanL_all,btL_len]
  rw [List.drop_zero,Nat.zero_add] at con2;generalize spanL worB (btL s)=m at *;rcases h4:(btL s).all worB with _ | _ <;> rw [h4] at HR2 HA
  ·have e:r=false:=by rw [← HR2.out]; simp
   subst e;have hm:((m:Int) == (s.size:Int))=false:=by
    have:=HA.out;simp only [beq_eq_false_iff_ne] at this ⊢;omega
   clear HR2;go_enter Tryz.func20,Tryz.ntmps20;go_wp2_with fail
   refine con.mono ?_;rintro e w1 ⟨rfl,rfl⟩;go_wp2_with fail
   refine con2.mono ?_;rintro e w2 ⟨rfl,rfl⟩;go_wp2_with fail
   exact bodyPost_ret (results_tmp rfl _ _ _) rfl ⟨by first | rfl | trivial,by first | rfl | trivial⟩
  ·have hm:m=s.size:=by simpa using HA.out
   have con3:=kept_any s w;have HR3:Hid ((!keptP s)=r):=by show _=_; rw [← HR2.out]; simp
   subst hm;clear HR2;generalize keptP s=kp at *;go_enter Tryz.func20,Tryz.ntmps20;go_wp2_with fail
   refine con.mono ?_;rintro e w1 ⟨rfl,rfl⟩;go_wp2_with fail
   refine con2.mono ?_;rintro e w2 ⟨rfl,rfl⟩;go_wp2_with fail
   refine con3.mono ?_;rintro e w3 ⟨rfl,rfl⟩;go_wp2_with fail
   exact bodyPost_ret (results_tmp rfl _ _ _) rfl ⟨by rw [← HR3.out]; rfl,by first | rfl | trivial⟩

/-- A text as it is told. -/
def VStr (_:World) (v:Value) (s:ByteArray):Prop:=v = .string s
theorem Ends.err {α:Type} {R tb:Nat} {o:Int} {w w':World} {V:World→Value→α→Prop} {r:PR α} {c:Er} {ts:List Tk} (hr:r = .error c) (hb:BelowX R w w') (h:RdAt w' R tb ts o):Ends R tb o w V r (.panicked [thrV c.1 c.2]) w':=by
 subst hr;exact ⟨hb,rfl,_,h⟩
theorem Ends.good {α:Type} {R tb:Nat} {o:Int} {w w':World} {V:World→Value→α→Prop} {r:PR α} {x:α} {ts:List Tk} {v:Value} (hr:r = .ok (x,ts)) (hb:BelowX R w w') (hv:V w' v x) (h:RdAt w' R tb ts o):Ends R tb o w V r (.returned v) w':=by
 subst hr;exact ⟨hb,v,rfl,hv,h⟩
theorem name_at {w:World} {R tb:Nat} {ts:List Tk} {o:Int} (h:RdAt w R tb ts o):Calls Tryz.prog 155 #[.pointer (some ⟨R,0,none⟩)] w (Ends R tb o w VStr (nameP ts)):=by
 obtain ⟨t,r,rfl⟩:=h.toks.ne;have con:=now_at h;have hR:=h.lt;have HR:Hid (RdAt w R tb (t :: r) o):=h;generalize hM:nameP (t :: r)=M;have HM:Hid (nameP (t :: r)=M):=hM;have hal:∀ {W:World} (x:Obj),Below W.heap.size W (W.alloc x):=fun x=>(Below.refl _ _).alloc (Nat.le_refl _) _
 clear h hM;by_cases h1:t.1=1
 case neg =>
  have b1:(t.1 != 1)=true:=by simpa using h1
  go_enter Tryz.func155,Tryz.ntmps155;go_wp2_with fail
  refine con.mono ?_;rintro e w1 ⟨rfl,hb1⟩;clear con;have hb2:=chain hb1 (hal (.cells #[.int .i64 t.1,.string t.2.1,.int .i64 t.2.2] 152));have con2:=rfault_at (HR.out.next hb2) 2;go_wp2_with fail
  generalize w1.alloc (.cells #[.int .i64 t.1,.string t.2.1,.int .i64 t.2.2] 152)=w2 at *;refine con2.mono ?_;rintro e w3 ⟨rfl,hb3⟩;go_wp2_with fail
  exact ⟨rfl,Ends.err (c:=(2,t.2.2)) (by rw [← HM.out,nameP,if_pos (by simpa [nowP] using h1)]; rfl) (.of (chain hb2 hb3) (by omega)) (HR.out.next (chain hb2 hb3))⟩
 have b1:(t.1 != 1)=false:=by simpa using h1
 have con3:=fun w=>named_at t.2.1 HR.out.toks.ok.1 w
 rcases hn:namedP t.2.1 with _ | _ <;> rw [hn] at con3
 ·go_enter Tryz.func155,Tryz.ntmps155;go_wp2_with fail
  refine con.mono ?_;rintro e w1 ⟨rfl,hb1⟩;clear con;have hb2:=chain hb1 (hal (.cells #[.int .i64 1,.string t.2.1,.int .i64 t.2.2] 152));have con2:=rfault_at (HR.out.next hb2) 7;have con3:=con3 (w1.alloc (.cells #[.int .i64 1,.string t.2.1,.int .i64 t.2.2] 152));go_wp2_with fail
  generalize w1.alloc (.cells #[.int .i64 1,.string t.2.1,.int .i64 t.2.2] 152)=w2 at *;refine con3.mono ?_;rintro e w4 ⟨rfl,rfl⟩;go_wp2_with fail
  refine con2.mono ?_;rintro e w3 ⟨rfl,hb3⟩;go_wp2_with fail
  exact ⟨rfl,Ends.err (c:=(7,t.2.2)) (by rw [← HM.out,nameP,if_neg (by simpa [nowP] using h1),if_pos (by simpa [nowP] using hn)]; rfl) (.of (chain hb2 hb3) (by omega)) (HR.out.next (chain hb2 hb3))⟩
 ·go_enter Tryz.func155,Tryz.ntmps155;go_wp2_with fail
  refine con.mono ?_;rintro e w1 ⟨rfl,hb1⟩;clear con;have hb2:=chain hb1 (hal (.cells #[.int .i64 1,.string t.2.1,.int .i64 t.2.2] 152));have con2:=pass_at (HR.out.next hb2);have con3:=con3 (w1.alloc (.cells #[.int .i64 1,.string t.2.1,.int .i64 t.2.2] 152));go_wp2_with fail
  generalize w1.alloc (.cells #[.int .i64 1,.string t.2.1,.int .i64 t.2.2] 152)=w2 at *;refine con3.mono ?_;rintro e w4 ⟨rfl,rfl⟩;go_wp2_with fail
  refine con2.mono ?_;rintro e w3 ⟨rfl,h3,hb3⟩;have hfl:=tk_text (.int .i64 1) (.int .i64 t.2.2) t.2.1 w3;go_wp2_with fail
  refine bodyPost_ret (v:=.string t.2.1) (by simp [results,Tryz.results155,go_sem]) rfl ?_;exact (Ends.good (x:=t.2.1) (by rw [← HM.out,nameP,if_neg (by simpa [nowP] using h1),if_neg (by simp [nowP,hn])]; rfl) ((BelowX.of hb2 (by omega)).trans hb3) rfl h3)
theorem byName_at {w:World} {R tb:Nat} {ts:List Tk} {o:Int} (h:RdAt w R tb ts o):Calls Tryz.prog 215 #[.pointer (some ⟨R,0,none⟩)] w (Ends R tb o w VStr (byNameP ts)):=by
 have con:=took_at h ⟨#[97,115]⟩;generalize hM:byNameP ts=M;have HM:Hid (byNameP ts=M):=hM;clear h hM;rcases hi:isP ⟨#[97,115]⟩ ts with _ | _
 ·rw [hi,tookP_f hi] at con;go_enter Tryz.func215,Tryz.ntmps215;go_wp2_with fail
  refine con.mono ?_;rintro e w1 ⟨rfl,h1,hb1⟩;have H1:Hid (RdAt w1 R tb ts o):=h1;clear con h1;go_wp2_with fail
  refine bodyPost_ret (results_tmp rfl _ _ _) rfl ?_;exact (Ends.good (x:=eB) (by rw [← HM.out,byNameP,hi]; rfl) hb1 rfl H1.out)
 ·rw [hi,tookP_t hi] at con;have HM2:Hid (nameP (passP ts)=M):=by show _=_; rw [← HM.out,byNameP,hi]; rfl
  clear HM;go_enter Tryz.func215,Tryz.ntmps215;go_wp2_with fail
  refine con.mono ?_;rintro e w1 ⟨rfl,h1,hb1⟩;have con2:=name_at h1;rw [HM2.out] at con2;clear con h1;go_wp2_with fail
  refine con2.mono ?_;rintro e w2 ⟨hb2,h2⟩;rcases M with c | ⟨x,r⟩
  ·obtain ⟨rfl,us,h2⟩:=h2;have H2:Hid (RdAt w2 R tb us o):=h2;clear h2;go_wp2_with fail
   exact ⟨rfl,Ends.err rfl (hb1.trans hb2) H2.out⟩
  ·obtain ⟨v,rfl,rfl,h3⟩:=h2;have H3:Hid (RdAt w2 R tb r o):=h3;clear h3;go_wp2_with fail
   refine bodyPost_ret (results_tmp rfl _ _ _) rfl ?_;exact (Ends.good rfl (hb1.trans hb2) rfl H3.out)

theorem begins_at {w:World} {R tb:Nat} {ts:List Tk} {o:Int} (h:RdAt w R tb ts o):Calls Tryz.prog 244 #[.pointer (some ⟨R,0,none⟩)] w fun e w'=>e = .returned (.bool (beginsP ts))∧Below w.heap.size w w':=by
 obtain ⟨t,r,rfl⟩:=h.toks.ne;have con:=now_at h;have HR:Hid (RdAt w R tb (t :: r) o):=h;generalize hM:beginsP (t :: r)=M;have HM:Hid (((t.1 == 2) || (t.1 == 3) || isP ⟨#[45]⟩ (t :: r) || isP ⟨#[110,117,108,108]⟩ (t :: r) || isP ⟨#[116,114,117,101]⟩ (t :: r) || isP ⟨#[102,97,108,115,101]⟩ (t :: r))=M):=hM;clear h hM;rcases g1:t.1 == 2 with _ | _
 case true =>
  go_enter Tryz.func244,Tryz.ntmps244;go_wp2_with fail
  refine con.mono ?_;rintro e w1 ⟨rfl,hb1⟩;have hf:=tk_sort (.string t.2.1) (.int .i64 t.2.2) t.1 w1;go_wp2_with fail
  exact bodyPost_ret (results_tmp rfl _ _ _) rfl ⟨by rw [← HM.out,g1]; rfl,hb1⟩
 rcases g2:t.1 == 3 with _ | _
 case true =>
  go_enter Tryz.func244,Tryz.ntmps244;go_wp2_with fail
  refine con.mono ?_;rintro e w1 ⟨rfl,hb1⟩;have hf:=tk_sort (.string t.2.1) (.int .i64 t.2.2) t.1 w1;go_wp2_with fail
  exact bodyPost_ret (results_tmp rfl _ _ _) rfl ⟨by rw [← HM.out,g1,g2]; rfl,hb1⟩
 rcases k0:isP ⟨#[45]⟩ (t :: r) with _ | _
 case true =>
  go_enter Tryz.func244,Tryz.ntmps244;go_wp2_with fail
  refine con.mono ?_;rintro e w1 ⟨rfl,hb1⟩;have hf:=tk_sort (.string t.2.1) (.int .i64 t.2.2) t.1 w1;have con0:=is_at (HR.out.next (hb1)) ⟨#[45]⟩;rw [k0] at con0;go_wp2_with fail
  refine con0.mono ?_;rintro e v0 ⟨rfl,c0⟩;go_wp2_with fail
  exact bodyPost_ret (results_tmp rfl _ _ _) rfl ⟨by rw [← HM.out,g1,g2,k0]; rfl,chain (hb1) c0⟩
 rcases k1:isP ⟨#[110,117,108,108]⟩ (t :: r) with _ | _
 case true =>
  go_enter Tryz.func244,Tryz.ntmps244;go_wp2_with fail
  refine con.mono ?_;rintro e w1 ⟨rfl,hb1⟩;have hf:=tk_sort (.string t.2.1) (.int .i64 t.2.2) t.1 w1;have con0:=is_at (HR.out.next (hb1)) ⟨#[45]⟩;rw [k0] at con0;go_wp2_with fail
  refine con0.mono ?_;rintro e v0 ⟨rfl,c0⟩;have con1:=is_at (HR.out.next (chain (hb1) c0)) ⟨#[110,117,108,108]⟩;rw [k1] at con1;go_wp2_with fail
  refine con1.mono ?_;rintro e v1 ⟨rfl,c1⟩;go_wp2_with fail
  exact bodyPost_ret (results_tmp rfl _ _ _) rfl ⟨by rw [← HM.out,g1,g2,k0,k1]; rfl,chain (chain (hb1) c0) c1⟩
 rcases k2:isP ⟨#[116,114,117,101]⟩ (t :: r) with _ | _
 case true =>
  go_enter Tryz.func244,Tryz.ntmps244;go_wp2_with fail
  refine con.mono ?_;rintro e w1 ⟨rfl,hb1⟩;have hf:=tk_sort (.string t.2.1) (.int .i64 t.2.2) t.1 w1;have con0:=is_at (HR.out.next (hb1)) ⟨#[45]⟩;rw [k0] at con0;go_wp2_with fail
  refine con0.mono ?_;rintro e v0 ⟨rfl,c0⟩;have con1:=is_at (HR.out.next (chain (hb1) c0)) ⟨#[110,117,108,108]⟩;rw [k1] at con1;go_wp2_with fail
  refine con1.mono ?_;rintro e v1 ⟨rfl,c1⟩;have con2:=is_at (HR.out.next (chain (chain (hb1) c0) c1)) ⟨#[116,114,117,101]⟩;rw [k2] at con2;go_wp2_with fail
  refine con2.mono ?_;rintro e v2 ⟨rfl,c2⟩;go_wp2_with fail
  exact bodyPost_ret (results_tmp rfl _ _ _) rfl ⟨by rw [← HM.out,g1,g2,k0,k1,k2]; rfl,chain (chain (chain (hb1) c0) c1) c2⟩
 rcases k3:isP ⟨#[102,97,108,115,101]⟩ (t :: r) with _ | _
 case true =>
  go_enter Tryz.func244,Tryz.ntmps244;go_wp2_with fail
  refine con.mono ?_;rintro e w1 ⟨rfl,hb1⟩;have hf:=tk_sort (.string t.2.1) (.int .i64 t.2.2) t.1 w1;have con0:=is_at (HR.out.next (hb1)) ⟨#[45]⟩;rw [k0] at con0;go_wp2_with fail
  refine con0.mono ?_;rintro e v0 ⟨rfl,c0⟩;have con1:=is_at (HR.out.next (chain (hb1) c0)) ⟨#[110,117,108,108]⟩;rw [k1] at con1;go_wp2_with fail
  refine con1.mono ?_;rintro e v1 ⟨rfl,c1⟩;have con2:=is_at (HR.out.next (chain (chain (hb1) c0) c1)) ⟨#[116,114,117,101]⟩;rw [k2] at con2;go_wp2_with fail
  refine con2.mono ?_;rintro e v2 ⟨rfl,c2⟩;have con3:=is_at (HR.out.next (chain (chain (chain (hb1) c0) c1) c2)) ⟨#[102,97,108,115,101]⟩;rw [k3] at con3;go_wp2_with fail
  refine con3.mono ?_;rintro e v3 ⟨rfl,c3⟩;go_wp2_with fail
  exact bodyPost_ret (results_tmp rfl _ _ _) rfl ⟨by rw [← HM.out,g1,g2,k0,k1,k2,k3]; rfl,chain (chain (chain (chain (hb1) c0) c1) c2) c3⟩
 go_enter Tryz.func244,Tryz.ntmps244;go_wp2_with fail
 refine con.mono ?_;rintro e w1 ⟨rfl,hb1⟩;have hf:=tk_sort (.string t.2.1) (.int .i64 t.2.2) t.1 w1;have con0:=is_at (HR.out.next (hb1)) ⟨#[45]⟩;rw [k0] at con0;go_wp2_with fail
 refine con0.mono ?_;rintro e v0 ⟨rfl,c0⟩;have con1:=is_at (HR.out.next (chain (hb1) c0)) ⟨#[110,117,108,108]⟩;rw [k1] at con1;go_wp2_with fail
 refine con1.mono ?_;rintro e v1 ⟨rfl,c1⟩;have con2:=is_at (HR.out.next (chain (chain (hb1) c0) c1)) ⟨#[116,114,117,101]⟩;rw [k2] at con2;go_wp2_with fail
 refine con2.mono ?_;rintro e v2 ⟨rfl,c2⟩;have con3:=is_at (HR.out.next (chain (chain (chain (hb1) c0) c1) c2)) ⟨#[102,97,108,115,101]⟩;rw [k3] at con3;go_wp2_with fail
 refine con3.mono ?_;rintro e v3 ⟨rfl,c3⟩;go_wp2_with fail
 exact bodyPost_ret (results_tmp rfl _ _ _) rfl ⟨by rw [← HM.out,g1,g2,k0,k1,k2,k3]; rfl,chain (chain (chain (chain (hb1) c0) c1) c2) c3⟩

/-- The seven cells of an expression. -/
structure Sev (W:World) (b off:Nat) (x:SX) (a:Option Addr) (cap:Nat):Prop where
 c0:W.cell? ⟨b,off,none⟩=some (.int .i64 x.k)
 c1:W.cell? ⟨b,off+1,none⟩=some (.int .i64 x.v.1)
 c2:W.cell? ⟨b,off+2,none⟩=some (.int .i64 x.v.2.1)
 c3:W.cell? ⟨b,off+3,none⟩=some (.string x.v.2.2)
 c4:W.cell? ⟨b,off+4,none⟩=some (.string x.tab)
 c5:W.cell? ⟨b,off+5,none⟩=some (.string x.name)
 c6:W.cell? ⟨b,off+6,none⟩=some (.slice a x.ks.length cap)
theorem Sev.nextX {t:Nat} {W W':World} {b off:Nat} {x:SX} {a:Option Addr} {cap:Nat} (h:Sev W b off x a cap) (hb:BelowX t W W') (hl:b<W.heap.size) (hn:b≠t):Sev W' b off x a cap :=
 have f:∀ o,W'.cell? ⟨b,o,none⟩=W.cell? ⟨b,o,none⟩:=fun o=>hb.cell (p:=⟨b,o,none⟩) hl hn
 ⟨(f _).trans h.c0,(f _).trans h.c1,(f _).trans h.c2,(f _).trans h.c3,(f _).trans h.c4,(f _).trans h.c5,(f _).trans h.c6⟩
/-- All but one block is as it was. -/
def Keeps1 (g:Nat) (W W':World):Prop:=W.heap.size≤W'.heap.size∧∀ k,k<W.heap.size→k≠g→W'.heap[k]? = W.heap[k]?
theorem BelowX.k1 {t:Nat} {W W':World} (h:BelowX t W W'):Keeps1 t W W':=⟨h.size,h.2⟩
theorem Keeps1.of {g:Nat} {W W':World} (h:Below W.heap.size W W'):Keeps1 g W W':=⟨h.size,fun k hk _=>h.block k hk⟩
theorem Keeps1.trans {g:Nat} {a b c:World} (h:Keeps1 g a b) (k:Keeps1 g b c):Keeps1 g a c:=⟨Nat.le_trans h.1 k.1,fun i hi hn=>(k.2 i (Nat.lt_of_lt_of_le hi h.1) hn).trans (h.2 i hi hn)⟩
theorem Keeps1.refl (g:Nat) (a:World):Keeps1 g a a:=⟨Nat.le_refl _,fun _ _ _=>rfl⟩
theorem Keeps1.set {g:Nat} {a b:World} (h:Keeps1 g a b) (o:Nat) (u:Value):Keeps1 g a (b.setCell ⟨g,o,none⟩ u) :=
 ⟨by simpa using h.1,fun k hk hn=>(Below.heap_setCell b ⟨g,o,none⟩ u k hn).trans (h.2 k hk hn)⟩
theorem Sev.k1 {t:Nat} {W W':World} {b off:Nat} {x:SX} {a:Option Addr} {cap:Nat} (h:Sev W b off x a cap) (hb:Keeps1 t W W') (hl:b<W.heap.size) (hn:b≠t):Sev W' b off x a cap :=
 have f:∀ o,W'.cell? ⟨b,o,none⟩=W.cell? ⟨b,o,none⟩:=fun o=>World.cell?_of_block (a:=⟨b,o,none⟩) (hb.2 b hl hn)
 ⟨(f _).trans h.c0,(f _).trans h.c1,(f _).trans h.c2,(f _).trans h.c3,(f _).trans h.c4,(f _).trans h.c5,(f _).trans h.c6⟩
/-- Expressions in a slice, in blocks of S. -/
inductive SsS (S:Nat→Prop) (W:World):Option Addr→List SX→Prop
 | nil (a:Option Addr):SsS S W a []
 | some (b off:Nat) (l:List SX) (ai:Nat→Option Addr) (cap:Nat→Nat) (hb:S b) (hlt:b<W.heap.size)
   (hc:∀ (i:Nat) (h:i<l.length),Sev W b (off+i*7) l[i] (ai i) (cap i))
   (hk:∀ (i:Nat) (h:i<l.length),SsS S W (ai i) l[i].ks):SsS S W (some ⟨b,off,none⟩) l
theorem SsS.k1 {S:Nat→Prop} {g:Nat} {W W':World} (hb:Keeps1 g W W') (hg:¬ S g) {a:Option Addr} {l:List SX} (h:SsS S W a l):SsS S W' a l:=by
 induction h with
 | nil a=>exact .nil a
 | some b off l ai cap hR hlt hc _ ih=>exact .some b off l ai cap hR (Nat.lt_of_lt_of_le hlt hb.1) (fun i hi=>(hc i hi).k1 hb hlt (by rintro rfl; exact hg hR)) ih
theorem SsS.next {S:Nat→Prop} {W W':World} (hb:Below W.heap.size W W') {a:Option Addr} {l:List SX} (h:SsS S W a l):SsS S W' a l:=by
 induction h with
 | nil a=>exact .nil a
 | some b off l ai cap hR hlt hc _ ih=>exact .some b off l ai cap hR (Nat.lt_of_lt_of_le hlt hb.size) (fun i hi=>(hc i hi).k1 (Keeps1.of (g:=W.heap.size) hb) hlt (by omega)) ih
theorem SsS.mono {S S':Nat→Prop} {W:World} (hs:∀ b,S b→b<W.heap.size→S' b) {a:Option Addr} {l:List SX} (h:SsS S W a l):SsS S' W a l:=by
 induction h with
 | nil a=>exact .nil a
 | some b off l ai cap hR hlt hc _ ih=>exact .some b off l ai cap (hs b hR hlt) hlt hc ih
theorem SsS.elem {S:Nat→Prop} {W:World} {a:Option Addr} {l:List SX} (h:SsS S W a l) {k:Nat} (hk:k<l.length) :
  ∃ b off ai cap,a=Option.some ⟨b,off,none⟩∧S b∧b<W.heap.size∧Sev W b (off+k*7) l[k] ai cap∧SsS S W ai l[k].ks:=by
 cases h with
 | nil=>simp at hk
 | some b off l ai cap hb hlt hc hh=>exact ⟨b,off,ai k,cap k,rfl,hb,hlt,hc k hk,hh k hk⟩
/-- In blocks from B on. -/
abbrev SsAt (B:Nat) (W:World) (a:Option Addr) (l:List SX):Prop:=SsS (fun b=>B≤b) W a l
theorem SsAt.k1 {B g:Nat} {W W':World} (hb:Keeps1 g W W') (hg:g<B) {a:Option Addr} {l:List SX} (h:SsAt B W a l):SsAt B W' a l:=SsS.k1 hb (by show ¬ B≤g; omega) h
theorem SsAt.next {B:Nat} {W W':World} (hb:Below W.heap.size W W') {a:Option Addr} {l:List SX} (h:SsAt B W a l):SsAt B W' a l:=SsS.next hb h
theorem SsAt.mono {B B':Nat} {W:World} (hB:B'≤B) {a:Option Addr} {l:List SX} (h:SsAt B W a l):SsAt B' W a l:=SsS.mono (fun _ h _=>Nat.le_trans hB h) h
abbrev sxA (x:SX) (a:Option Addr) (cap:Nat):Array Value:=#[.int .i64 x.k,.int .i64 x.v.1,.int .i64 x.v.2.1,.string x.v.2.2,.string x.tab,.string x.name,.slice a x.ks.length cap]
/-- An expression as it is told. -/
def VX (B:Nat) (W:World) (v:Value) (x:SX):Prop:=∃ a cap,v = .agg (sxA x a cap)∧SsAt B W a x.ks
theorem VX.k1 {B g:Nat} {W W':World} (hb:Keeps1 g W W') (hg:g<B) {v:Value} {x:SX} (h:VX B W v x):VX B W' v x:=by
 obtain ⟨a,cap,h1,h2⟩:=h;exact ⟨a,cap,h1,h2.k1 hb hg⟩
theorem VX.mono {B B':Nat} {W:World} (hB:B'≤B) {v:Value} {x:SX} (h:VX B W v x):VX B' W v x:=by
 obtain ⟨a,cap,h1,h2⟩:=h;exact ⟨a,cap,h1,h2.mono hB⟩
theorem RdAt.k1 {W w1:World} {R tb g:Nat} {ts:List Tk} {o:Int} (h:RdAt W R tb ts o) (hk:Keeps1 g W w1) (h1:g≠R) (h2:g≠tb) (h3:1<g):RdAt w1 R tb ts o:=by
 obtain ⟨off,cap,e1,e2,e3⟩:=h.ex;have f:∀ o,w1.cell? ⟨tb,o,none⟩=W.cell? ⟨tb,o,none⟩:=fun o=>World.cell?_of_block (a:=⟨tb,o,none⟩) (hk.2 tb e3.lt (Ne.symm h2))
 exact ⟨⟨off,cap,(hk.2 _ (lt_of_heap e1) (Ne.symm h1)).trans e1,e2,⟨Nat.lt_of_lt_of_le e3.lt hk.1,fun i hi=>(f _).trans (e3.c0 i hi),fun i hi=>(f _).trans (e3.c1 i hi),fun i hi=>(f _).trans (e3.c2 i hi)⟩⟩,h.ne,h.toks,h.small,⟨Nat.lt_of_lt_of_le h.gl.lt hk.1,fun j hj=>(World.cell?_of_block (a:=⟨1,j,none⟩) (hk.2 1 h.gl.lt (by omega))).trans (h.gl.inf j hj),fun j hj=>(World.cell?_of_block (a:=⟨0,j,none⟩) (hk.2 0 (by have:=h.gl.lt; omega) (by omega))).trans (h.gl.sig j hj)⟩,h.r2⟩
theorem RdAt.ltb {W:World} {R tb:Nat} {ts:List Tk} {o:Int} (h:RdAt W R tb ts o):tb<W.heap.size:=by
 obtain ⟨_,_,_,_,h⟩:=h.ex;exact h.lt
theorem node_at (k:Int) (a:Option Addr) (n cap:Nat) (w:World):Calls Tryz.prog 221 #[.int .i64 k,.slice a n cap] w fun e w'=>e = .returned (.agg #[.int .i64 k,.int .i64 0,.int .i64 0,.string ⟨#[]⟩,.string ⟨#[]⟩,.string ⟨#[]⟩,.slice a n cap])∧Below w.heap.size w w':=by
 go_enter Tryz.func221,Tryz.ntmps221;go_wp2_with fail
 exact bodyPost_ret (v:=.agg #[.int .i64 k,.int .i64 0,.int .i64 0,.string ⟨#[]⟩,.string ⟨#[]⟩,.string ⟨#[]⟩,.slice a n cap]) (by simp [results,Tryz.results221,go_sem]) rfl ⟨rfl,(Below.refl _ _).alloc (Nat.le_refl _) _⟩
theorem RdAt.setOpen {W:World} {R tb:Nat} {ts:List Tk} {o:Int} (h:RdAt W R tb ts o) (o':Int):RdAt (W.setCell ⟨R,1,none⟩ (.int .i64 o')) R tb ts o'∧BelowX R W (W.setCell ⟨R,1,none⟩ (.int .i64 o')):=by
 obtain ⟨off,cap,e1,e2,e3⟩:=h.ex;have hb:BelowX R W (W.setCell ⟨R,1,none⟩ (.int .i64 o')):=(BelowX.refl _ _).set _ _;exact ⟨⟨⟨off,cap,heap_setCell_same W R 1 _ _ (.int .i64 o') e1,e2,e3.nextX hb h.ne⟩,h.ne,h.toks,h.small,h.gl.nextX hb h.r2,h.r2⟩,hb⟩
end Go.Proofs.YtoknmnngaackkaaGreatDoor
