/- Together: BX, CD, CE, CF, DA, DB, DC, DD, DE. -/
import Derived.Deep.LoopGhost
import Derived.Deep.MidRow
import Derived.Lib.AppendStr
import Derived.Deep.AppendSrc
import Derived.Deep.DeepCutAuto
import Derived.Deep.CutBlock
import Derived.Shelf.Strconv.Itoa4
import Derived.Shelf.Strings.Replace
import Derived.Test.YtoknmnngaackkaaGreatDoorJJ7
import Derived.Test.YtoknmnngaackkaaGreatDoorJJ0
import Derived.Test.YtoknmnngaackkaaGreatDoorJJ4
import Derived.Test.YtoknmnngaackkaaGreatDoorJJ3
/- Read. -/
namespace Go.Proofs.YtoknmnngaackkaaGreatDoor
open Go.RowKit Go.Lib Go.Shelf
set_option maxRecDepth 100000
set_option maxHeartbeats 8000000

def listOf (r:Except Er (List Stm)):List Stm:=match r with | .ok l=>l | .error _=>[]
theorem CEnds2.all {w:World} {OB:Nat} {r:Except Er (List Stm)} {w':World} (h:CEnds2 w OB r w'):∃ a cap,w'.heap[OB]? = some (.cells #[.slice a (listOf r).length cap] 22 (0,0))∧LsE En16 16 (fun b=>w.heap.size≤b) w' a (listOf r):=by
 rcases r with c | l
 ·exact ⟨none,0,h.2,.inl rfl⟩
 ·exact h.2
theorem Read_at (s:ByteArray) {w:World} (hg:Gl w):Calls Tryz.prog 17 #[.string s] w fun e w'=>Below w.heap.size w w'∧∃ a cap,e = .returned (.tuple #[.slice a (listOf (readP s)).length cap,.agg #[.int .i64 (errOf (readP s)).1,.int .i64 (errOf (readP s)).2]])∧LsE En16 16 (fun b=>w.heap.size≤b) w' a (listOf (readP s)):=by
 have hmf:∀ (fn:Fn) (first cap:Array Value) (w:World),(Instr.makeFunc fn first cap).run Tryz.prog w = .ok (.func fn first cap) w:=fun _ _ _ _=>rfl
 have hal1:Below w.heap.size w (w.alloc (.cells #[.string s] 9)):=(Below.refl _ _).alloc (Nat.le_refl _) _;have Q1:=heap_new w #[.string s] 9;have e1:(w.alloc (.cells #[.string s] 9)).heap.size=w.heap.size+1:=by simp
 have hal2:Below (w.alloc (.cells #[.string s] 9)).heap.size (w.alloc (.cells #[.string s] 9)) ((w.alloc (.cells #[.string s] 9)).alloc (.cells #[.slice none 0 0] 22)):=(Below.refl _ _).alloc (Nat.le_refl _) _;have Q2:=heap_new (w.alloc (.cells #[.string s] 9)) #[.slice none 0 0] 22;have e2:((w.alloc (.cells #[.string s] 9)).alloc (.cells #[.slice none 0 0] 22)).heap.size=w.heap.size+2:=by simp
 have hal3:Below ((w.alloc (.cells #[.string s] 9)).alloc (.cells #[.slice none 0 0] 22)).heap.size ((w.alloc (.cells #[.string s] 9)).alloc (.cells #[.slice none 0 0] 22)) (((w.alloc (.cells #[.string s] 9)).alloc (.cells #[.slice none 0 0] 22)).alloc (.cells #[.int .i64 0,.int .i64 0] 27)):=(Below.refl _ _).alloc (Nat.le_refl _) _;have Q3:=heap_new ((w.alloc (.cells #[.string s] 9)).alloc (.cells #[.slice none 0 0] 22)) #[.int .i64 0,.int .i64 0] 27;have QS:=((hal3.block _ (by omega)).trans ((hal2.block _ (lt_of_heap Q1)).trans Q1))
 have QO:=(hal3.block _ (lt_of_heap Q2)).trans Q2;rw [e1] at QO;have QF:=Q3;rw [e2] at QF;have hal:=chain hal1 (chain hal2 hal3);have HG:Hid _:=hg.next hal;clear hal1 hal2 hal3 Q1 Q2 Q3 e1 e2 hg;generalize hM:readP s=M;have HM:Hid (readP s=M):=hM;generalize hl:listOf M=l;generalize hr:errOf M=r;have HLl:Hid (listOf M=l):=hl;have HRr:Hid (errOf M=r):=hr;clear hM hl hr;go_enter Tryz.func17,Tryz.ntmps17;go_upto_region 1 with fail
 generalize ((w.alloc (.cells #[.string s] 9)).alloc (.cells #[.slice none 0 0] 22)).alloc (.cells #[.int .i64 0,.int .i64 0] 27)=w1 at *;have con:=caught_r s HG.out QS QO;rw [HM.out,HRr.out] at con;have hl1:=lt_of_heap QF;clear HG QS;go_wp2_with fail
 refine con.mono ?_;rintro e w2 ⟨rfl,hE⟩;have hx:=hE.1;have hall:=hE.all;rw [HLl.out] at hall;obtain ⟨a,cap,QO2,hls⟩:=hall;have QF2:=(hx.2 _ hl1 (by omega)).trans QF;have HL:Hid (LsE En16 16 (fun b=>w1.heap.size≤b) w2 a l):=hls;have hb2:Below w.heap.size w w2:=hal.trans (hx.1.mono (by omega));obtain ⟨c0,c1⟩:=cells2 QF2;obtain ⟨f0,f1⟩:=froz2 QF2;clear con hE hls;go_upto_region 2 with fail
 have QE:=st2_heap QF2 (.int .i64 r.1) (.int .i64 r.2);have hbE:=st2_b (g:=w.heap.size+2) hb2 (by omega) (.int .i64 r.1) (.int .i64 r.2);have hkE:Keeps1 (w.heap.size+2) w2 ((w2.setCell ⟨w.heap.size+2,0,none⟩ (.int .i64 r.1)).setCell ⟨w.heap.size+2,1,none⟩ (.int .i64 r.2)):=((Keeps1.refl _ _).set 0 _).set 1 _;have QOE:=(hkE.2 _ (lt_of_heap QO2) (by omega)).trans QO2;have HLE:Hid (LsE En16 16 (fun b=>w1.heap.size≤b) ((w2.setCell ⟨w.heap.size+2,0,none⟩ (.int .i64 r.1)).setCell ⟨w.heap.size+2,1,none⟩ (.int .i64 r.2)) a l):=HL.out.keep en16 (hkE.k (by show ¬ _≤w.heap.size+2; omega))
 generalize ((w2.setCell ⟨w.heap.size+2,0,none⟩ (.int .i64 r.1)).setCell ⟨w.heap.size+2,1,none⟩ (.int .i64 r.2))=w3 at *;clear c0 c1 f0 f1 QF2 QO2 hkE HL
 have hCC:∀ W W':World,W.heap[w.heap.size+1]? = some (.cells #[.slice a l.length cap] 22 (0,0))∧W.heap[w.heap.size+2]? = some (.cells #[.int .i64 r.1,.int .i64 r.2] 27 (0,0))→Below W.heap.size W W'→W'.heap[w.heap.size+1]? = some (.cells #[.slice a l.length cap] 22 (0,0))∧W'.heap[w.heap.size+2]? = some (.cells #[.int .i64 r.1,.int .i64 r.2] 27 (0,0)):=fun W W' h hb=>⟨(hb.block _ (lt_of_heap h.1)).trans h.1,(hb.block _ (lt_of_heap h.2)).trans h.2⟩
 have hdr:Below w3.heap.size w3 w3.drew:=(Below.refl _ _).drew;have CW:=hCC _ _ ⟨QOE,QE⟩ hdr;have hl3:=lt_of_heap QE;refine wp_region_z (fun W=>W.heap[w.heap.size+1]? = some (.cells #[.slice a l.length cap] 22 (0,0))∧W.heap[w.heap.size+2]? = some (.cells #[.int .i64 r.1,.int .i64 r.2] 27 (0,0))) 3 (by kernel_rfl) ?_;refine wpZ_take hCC (some 6) (i:=0) (v:=.slice a l.length cap) rfl rfl (by kernel_rfl) (by kernel_rfl) (by kernel_rfl) (by kernel_rfl) (by kernel_rfl) rfl (fun _ _ _ h=>h) (Or.inl ⟨rfl,fun n hn=>?_⟩) (fun _=>CW) ?_
 ·have c0:=cell_of (i:=0) hn.1 rfl;go_simp
 simp only [Act.put,pA,pB,pC];refine wpZ_take hCC (some 7) (i:=1) (v:=.agg #[.int .i64 r.1,.int .i64 r.2]) rfl rfl (by kernel_rfl) (by kernel_rfl) (by kernel_rfl) (by kernel_rfl) (by kernel_rfl) rfl (fun _ _ _ h=>h) (Or.inl ⟨rfl,fun n hn=>?_⟩) (fun _=>CW) ?_
 ·obtain ⟨c0,c1⟩:=cells2 hn.2;go_simp
 simp only [Act.put,pA,pB,pC];refine wpZ_step (rs:=[2]) (by kernel_rfl) (by simp) ?_;intro w5 hb5 jj hj;obtain rfl:jj=2:=by simpa using hj
 clear hj;have C5:=hCC _ _ CW hb5;have D5:=chain hdr hb5;have c0:=cell_of (i:=0) C5.1 rfl;have f0:=frozen_of_row w5 (w.heap.size+1) 0 _ _ C5.1;have O6:=heap_setCell_same w5 (w.heap.size+1) 0 _ _ (.slice a l.length cap) C5.1;have k6:Keeps1 (w.heap.size+1) w5 ((w5.setCell ⟨w.heap.size+1,0,none⟩ (.slice a l.length cap))):=(Keeps1.refl _ _).set 0 _;have F6:=(k6.2 _ (lt_of_heap C5.2) (by omega)).trans C5.2;have hb6:Below w.heap.size w ((w5.setCell ⟨w.heap.size+1,0,none⟩ (.slice a l.length cap))):=(chain hbE D5).setCell (p:=⟨w.heap.size+1,0,none⟩) (by show _≤w.heap.size+1; omega) _
 have HL6:Hid (LsE En16 16 (fun b=>w1.heap.size≤b) ((w5.setCell ⟨w.heap.size+1,0,none⟩ (.slice a l.length cap))) a l):=(HLE.out.keep en16 (Keeps'.of D5)).keep en16 (k6.k (by show ¬ _≤w.heap.size+1; omega));refine wpOp_step rfl (fun K hK=>?_);go_simp;generalize ((w5.setCell ⟨w.heap.size+1,0,none⟩ (.slice a l.length cap)))=w5' at *;refine hK _ _ ⟨fun _=>⟨O6,F6⟩,?_⟩;clear hK K c0 f0;refine wpZ_step (rs:=[3]) (by kernel_rfl) (by simp) ?_;intro w6 hb7 jj hj;obtain rfl:jj=3:=by simpa using hj
 clear hj;have F7:=(hb7.block _ (lt_of_heap F6)).trans F6;have O7:=(hb7.block _ (lt_of_heap O6)).trans O6;have QE7:=st2_heap F7 (.int .i64 r.1) (.int .i64 r.2);have hbE7:=st2_b (g:=w.heap.size+2) (chain hb6 hb7) (by omega) (.int .i64 r.1) (.int .i64 r.2);have k7:Keeps1 (w.heap.size+2) w6 ((w6.setCell ⟨w.heap.size+2,0,none⟩ (.int .i64 r.1)).setCell ⟨w.heap.size+2,1,none⟩ (.int .i64 r.2)):=((Keeps1.refl _ _).set 0 _).set 1 _;have OE:=(k7.2 _ (lt_of_heap O7) (by omega)).trans O7
 have HL7:Hid (LsE En16 16 (fun b=>w1.heap.size≤b) ((w6.setCell ⟨w.heap.size+2,0,none⟩ (.int .i64 r.1)).setCell ⟨w.heap.size+2,1,none⟩ (.int .i64 r.2)) a l):=(HL6.out.keep en16 (Keeps'.of hb7)).keep en16 (k7.k (by show ¬ _≤w.heap.size+2; omega));obtain ⟨c0,c1⟩:=cells2 F7;obtain ⟨f0,f1⟩:=froz2 F7;refine wpOp_step rfl (fun K hK=>?_);go_simp;generalize ((w6.setCell ⟨w.heap.size+2,0,none⟩ (.int .i64 r.1)).setCell ⟨w.heap.size+2,1,none⟩ (.int .i64 r.2))=w7 at *;refine hK _ _ ⟨fun h=>by simp at h,?_⟩;clear hK K;refine wpZ_done (by kernel_rfl) ?_;intro w8 hb8
 have O8:=(hb8.block _ (lt_of_heap OE)).trans OE;have F8:=(hb8.block _ (lt_of_heap QE7)).trans QE7;have o0:w8.cell? ⟨w.heap.size+1,0,none⟩=some (.slice a l.length cap):=cell_of (i:=0) O8 rfl;obtain ⟨y0,y1⟩:=cells2 F8;have HL8:Hid (LsE En16 16 (fun b=>w.heap.size≤b) w8 a l):=(HL7.out.keep en16 (Keeps'.of hb8)).mono en16 (fun b h _=>by have:w1.heap.size≤b:=h; show w.heap.size≤b; omega);go_wp2_with fail
 exact bodyPost_ret (v:=.tuple #[.slice a l.length cap,.agg #[.int .i64 r.1,.int .i64 r.2]]) (by simp [results,Tryz.results17,go_sem,o0,y0,y1]) rfl ⟨chain hbE7 hb8,a,cap,rfl,HL8.out⟩
end Go.Proofs.YtoknmnngaackkaaGreatDoor
namespace Go.Proofs.YtoknmnngaackkaaGreatDoor
set_option maxRecDepth 100000
set_option maxHeartbeats 1000000

inductive BdX:SX→Prop
 | mk {k:Int} {v:Vl} {t n:ByteArray} {ks:List SX}:ks.length≤1000→(∀ y ∈ ks,BdX y)→BdX (.mk k v t n ks)
theorem BdX.ks {x:SX} (h:BdX x):x.ks.length≤1000∧∀ y ∈ x.ks,BdX y:=by cases h with | mk h1 h2=>exact ⟨h1,h2⟩
def BdL {α:Type} (P:α→Prop) (l:List α):Prop:=l.length≤1000∧∀ x ∈ l,P x
abbrev Any {α:Type} (_:α):Prop:=True
structure BdSel (s:Sel):Prop where
 items:BdL (fun x:Itm=>BdX x.1) s.items
 sources:BdL (fun x:Src=>BdX x.on) s.sources
 wher:BdX s.wher
 having:BdX s.having
 group:BdL BdX s.group
structure BdQ (q:Qry):Prop where
 parts:BdL BdSel q.parts
 ops:q.ops.length≤1000
 order:BdL BdX q.order
structure BdS (s:Stm):Prop where
 cols:s.cols.length≤1000
 query:BdQ s.query
 rows:BdL (fun r:List Vl=>r.length≤1000) s.rows
 wher:BdX s.wher
/-- All that is told is so. -/
structure Al2 {α:Type} (P:α→Prop) (f:List Tk→PR α):Prop where
 h:∀ {ts x r},f ts = .ok (x,r)→P x
section
variable {α β:Type} {P:α→Prop} {Q:β→Prop}
theorem Al2.err {g:List Tk→Er}:Al2 P (fun ts=>.error (g ts)):=⟨fun h=>by cases h⟩
theorem Al2.ok {g:List Tk→α} {p:List Tk→List Tk} (h:∀ ts,P (g ts)):Al2 P (fun ts=>.ok (g ts,p ts)):=⟨fun H=>by cases H; exact h _⟩
theorem Al2.one {x:α} (h:P x):Al2 P (fun ts=>.ok (x,ts)):=⟨fun H=>by cases H; exact h⟩
theorem Al2.pass {f:List Tk→PR α} {p:List Tk→List Tk} (h:Al2 P f):Al2 P (fun ts=>f (p ts)):=⟨fun H=>h.h H⟩
theorem Al2.bnd {f:List Tk→PR β} {k:β→List Tk→PR α} (h:Al2 Q f) (hk:∀ x,Q x→Al2 P (k x)):Al2 P (fun ts=>Go.Proofs.YtoknmnngaackkaaGreatDoor.bnd (f ts) k):=⟨fun {ts x r} H=>by
 rcases hf:f ts with e | ⟨y,r1⟩
 ·rw [hf] at H; cases H
 ·rw [hf] at H; exact (hk y (h.h hf)).h H⟩
theorem Al2.any {f:List Tk→PR α}:Al2 Any f:=⟨fun _=>trivial⟩
theorem Al2.ifc {c:List Tk→Prop} [DecidablePred c] {f g:List Tk→PR α} (hf:Al2 P f) (hg:Al2 P g):Al2 P (fun ts=>if c ts then f ts else g ts):=⟨fun {ts x r} H=>by
 split at H
 ·exact hf.h H
 ·exact hg.h H⟩
theorem Al2.of {f g:List Tk→PR α} (h:∀ ts,f ts=g ts) (hg:Al2 P g):Al2 P f:=⟨fun {ts _x _r} H=>hg.h ((h ts) ▸ H)⟩
end
structure BdE (n:Nat):Prop where
 expr:∀ o,Al2 BdX (exprP n o)
 level:∀ l o,Al2 BdX (levelP n l o)
 chain:∀ l o,Al2 BdX (chainP n l o)
 loop:∀ l o x,BdX x→Al2 BdX (loopP n l o x)
 denied:∀ o,Al2 BdX (deniedP n o)
 compared:∀ o,Al2 BdX (comparedP n o)
 piece:∀ o,Al2 BdX (pieceP n o)
 behind:∀ o l,l.length≤5→Al2 (BdL BdX) (behindP n o l)
 exprs:∀ o l acc,l.length+acc.length≤5→(∀ x ∈ acc,BdX x)→Al2 (BdL BdX) (exprsP n o l acc)
 agg:∀ k o,Al2 BdX (aggP n k o)
end Go.Proofs.YtoknmnngaackkaaGreatDoor
namespace Go.Proofs.YtoknmnngaackkaaGreatDoor
open Go.RowKit Go.Lib Go.Shelf
section
variable {P:Program} {md:Region.Mode} {ops:Array Oper} {Q:Exit→Act→World→Prop} {C:World→Prop}
structure TwoOk (P:Program) (ops:Array Oper) (i j k l d0 d1 t0 t1:Nat) (T:TypeId):Prop where
 a0:∃ o,ops[i]? = some o∧o.guard=none∧o.op = .alloc T∧o.dst=some d0
 a1:∃ o,ops[j]? = some o∧o.guard=none∧o.op = .alloc T∧o.dst=some d1
 s0:∃ o,ops[k]? = some o∧o.guard=none∧o.op = .store T (.tmp d0) (.tmp t0)∧o.dst=none
 s1:∃ o,ops[l]? = some o∧o.guard=none∧o.op = .store T (.tmp d1) (.tmp t1)∧o.dst=none
 ne:d0≠d1∧t0≠d0∧t0≠d1∧t1≠d0∧t1≠d1
end
set_option maxRecDepth 100000
set_option maxHeartbeats 8000000

def Blk (W:World) (g:Nat) (cs:Array Value) (T:TypeId):Prop:=W.heap[g]? = some (.cells cs T (0,0))
theorem Blk.nx {W W':World} {g:Nat} {cs:Array Value} {T:TypeId} (h:Blk W g cs T) (hb:Below W.heap.size W W'):Blk W' g cs T:=(hb.block _ (lt_of_heap h)).trans h
theorem Blk.c {W:World} {g:Nat} {cs:Array Value} {T:TypeId} (h:Blk W g cs T) (i:Nat) {u:Value} (hu:cs[i]? = some u):W.cell? ⟨g,i,none⟩=some u:=cell_of (i:=i) h hu
def AtL (W:World) (b off:Nat) (cs:List Value):Prop:=b<W.heap.size∧∀ j u,cs[j]? = some u→W.cell? ⟨b,off+j,none⟩=some u
theorem AtL.nx {W W':World} {b off:Nat} {cs:List Value} (h:AtL W b off cs) (hb:Below W.heap.size W W'):AtL W' b off cs:=⟨Nat.lt_of_lt_of_le h.1 hb.size,fun j u hj=>(hb.cell (p:=⟨b,off+j,none⟩) h.1).trans (h.2 j u hj)⟩
theorem LsE.get {α:Type} {En:EnT α} {size:Nat} {S:Nat→Prop} {W:World} {a:Option Addr} {l:List α} (h:LsE En size S W a l) {i:Nat} (hi:i<l.length):∃ b off cs,a=some ⟨b,off,none⟩∧AtL W b (off+i*size) cs∧En S W l[i] cs:=by
 rcases h with rfl | ⟨b,off,e,_,h2,h3⟩
 ·simp at hi
 ·obtain ⟨cs,_,c2,c3⟩:=h3 i hi;exact ⟨b,off,cs,e,⟨h2,c2⟩,c3⟩
theorem LsE.nx {α:Type} {En:EnT α} (ok:EnOk En) {size:Nat} {S:Nat→Prop} {W W':World} {a:Option Addr} {l:List α} (h:LsE En size S W a l) (hb:Below W.heap.size W W'):LsE En size S W' a l:=h.keep ok (Keeps'.of hb)
/-- A pair of lists, the same ones. -/
structure Ls2 {α:Type} (En:EnT α) (size:Nat) (W:World) (a b:Option Addr) (l:List α):Prop where
 one:LsE En size (fun _=>True) W a l
 two:LsE En size (fun _=>True) W b l
theorem Ls2.nx {α:Type} {En:EnT α} (ok:EnOk En) {size:Nat} {W W':World} {a b:Option Addr} {l:List α} (h:Ls2 En size W a b l) (hb:Below W.heap.size W W'):Ls2 En size W' a b l:=⟨h.1.nx ok hb,h.2.nx ok hb⟩
structure Ss2 (W:World) (a b:Option Addr) (l:List SX):Prop where
 one:SsS (fun _=>True) W a l
 two:SsS (fun _=>True) W b l
theorem Ss2.nx {W W':World} {a b:Option Addr} {l:List SX} (h:Ss2 W a b l) (hb:Below W.heap.size W W'):Ss2 W' a b l:=⟨SsS.next hb h.1,SsS.next hb h.2⟩
theorem Ls2.ss {W:World} {a b:Option Addr} {l:List SX} (h:Ls2 En7 7 W a b l):Ss2 W a b l:=⟨h.1.sxs,h.2.sxs⟩
/-- A whole struct, loaded in whatever order. -/
theorem grows_load {P:Program} {ops:Array Oper} {C:World→Prop} {o:Oper} {a:Act} (hw:Region.wanted o (yielded ops a.tmps)=true) (ty:TypeId) (x:Operand) (ho:o.op = .load ty x) (b off:Nat) (cs:List Value) (hx:a.eval x = .pointer (some ⟨b,off,none⟩)) {d:TypeDesc} (hu:P.underlying ty=some d) (hd:d.isRow=true) (hi:(P.info? ty).map (·.size)=some cs.length) (h:∀ n,C n→AtL n b off cs):GrowsC P ops C o (.agg cs.toArray) a:=Or.inl ⟨hw,fun n hn=>by
 have hr:=run_loadAt_mid (P:=P) n b off ty cs d (h n hn).2 hu hd hi
 unfold execOp
 simp only [ho,hx,hr,Sem.run_bind,Sem.run_pure,Result.andThen_ok]
 exact ⟨rfl,rfl⟩⟩

/-- Text with a word more, a blank ahead of it if it is not the first one. -/
def say1 (bs:List UInt8) (s:ByteArray):List UInt8:=bs ++ (if bs = [] then [] else [32]) ++ s.data.toList
def sayL (bs:List UInt8) (ws:List ByteArray):List UInt8:=ws.foldl say1 bs
def u8L (bs:List UInt8):List Value:=bs.map fun b=>.int .u8 ((b.toNat:Nat):Int)
theorem say1_len (bs:List UInt8) (s:ByteArray):bs.length≤(say1 bs s).length:=by unfold say1; simp
theorem sayL_len:∀ (ws:List ByteArray) (bs:List UInt8),bs.length≤(sayL bs ws).length
 | [],_bs=>Nat.le_refl _
 | s :: ws,bs=>Nat.le_trans (say1_len bs s) (sayL_len ws (say1 bs s))
theorem sayL_app (bs:List UInt8) (a b:List ByteArray):sayL bs (a ++ b)=sayL (sayL bs a) b:=List.foldl_append ..
theorem sayL_take (bs:List UInt8) (ws:List ByteArray) (j:Nat) (h:j<ws.length):sayL bs (ws.take (j+1))=say1 (sayL bs (ws.take j)) ws[j]:=by
 rw [List.take_add_one,List.getElem?_eq_getElem h,sayL_app];rfl
theorem sayL_pre (bs:List UInt8) (ws:List ByteArray) (j:Nat):(sayL bs (ws.take j)).length≤(sayL bs ws).length:=by
 conv=>rhs; rw [← List.take_append_drop j ws,sayL_app]
 exact sayL_len _ _
/-- The printer's block holds text bs. -/
structure PrAt (W:World) (PB:Nat) (v:Value) (bs:List UInt8):Prop where
 q:W.heap[PB]? = some (.cells #[v] 81 (0,0))
 own:W.ownsRow (PB+1) 5 1 v bs.length (u8L bs)
/-- All but the printer's block, and its text's own one, is as it was. -/
structure St (PB:Nat) (v:Value) (w:World) (v':Value) (w':World):Prop where
 bel:Below PB w w'
 keep:∀ k,k<w.heap.size→k≠PB→v.ownBlock≠some k→w'.heap[k]? = w.heap[k]?
 own:v'.ownBlock=v.ownBlock∨∃ g,w.heap.size≤g∧v'.ownBlock=some g
theorem St.refl (PB:Nat) (v:Value) (w:World):St PB v w v w:=⟨Below.refl _ _,fun _ _ _ _=>rfl,.inl rfl⟩
theorem St.of {PB:Nat} {v:Value} {w w':World} (h:Below w.heap.size w w') (hp:PB<w.heap.size):St PB v w v w':=⟨h.mono (Nat.le_of_lt hp),fun k hk _ _=>h.block k hk,.inl rfl⟩
theorem St.trans {PB:Nat} {v v1 v2:Value} {w w1 w2:World} (h:St PB v w v1 w1) (k:St PB v1 w1 v2 w2):St PB v w v2 w2:=by
 refine ⟨h.bel.trans k.bel,fun i hi hn ho=>(k.keep i (Nat.lt_of_lt_of_le hi h.bel.size) hn ?_).trans (h.keep i hi hn ho),?_⟩
 ·rcases h.own with e | ⟨g,hg,e⟩
  ·rw [e]; exact ho
  ·rw [e]; intro e2; have:=Option.some.inj e2; omega
 ·rcases k.own with e | ⟨g,hg,e⟩
  ·rw [e]; exact h.own
  ·exact .inr ⟨g,Nat.le_trans h.bel.size hg,e⟩
theorem PrAt.lt {W:World} {PB:Nat} {v:Value} {bs:List UInt8} (h:PrAt W PB v bs):PB<W.heap.size:=lt_of_heap h.q
theorem PrAt.val {W:World} {PB:Nat} {v:Value} {bs:List UInt8} (h:PrAt W PB v bs):∃ a cap,v = .slice a bs.length cap:=by
 obtain ⟨_,⟨h1,h2⟩ | ⟨k,cap,cur,h1,_⟩⟩:=h.own
 ·exact ⟨none,0,by rw [h1,h2]⟩
 ·exact ⟨_,cap,h1⟩
theorem PrAt.next {W W':World} {PB:Nat} {v:Value} {bs:List UInt8} (h:PrAt W PB v bs) (hb:Below W.heap.size W W'):PrAt W' PB v bs:=⟨(hb.block _ h.lt).trans h.q,own_next h.own hb⟩
/-- How it ends. -/
def PEnds (w:World) (PB:Nat) (v:Value) (bs:List UInt8) (e:Ending) (w':World):Prop:=e = .returned (.tuple #[])∧∃ v',PrAt w' PB v' bs∧St PB v w v' w'
theorem own_set {W:World} {PB:Nat} {v u:Value} {n:Nat} {xs:List Value} (h:W.ownsRow (PB+1) 5 1 v n xs):(W.setCell ⟨PB,0,none⟩ u).ownsRow (PB+1) 5 1 v n xs:=by
 obtain ⟨h0,h | ⟨k,cap,cur,e,hb,hq,hr⟩⟩:=h
 ·exact ⟨h0,.inl h⟩
 ·exact ⟨h0,.inr ⟨k,cap,cur,e,hb,(Below.heap_setCell W ⟨PB,0,none⟩ u k (by show k≠PB; omega)).trans hq,hr⟩⟩
/-- Behind an append and a store. -/
theorem PrAt.put {w w1:World} {PB:Nat} {v v1:Value} {bs cs:List UInt8} (h:PrAt w PB v bs) (hg:w.grownBy w1 v.ownBlock) (ho:w1.ownsRow (PB+1) 5 1 v1 (bs.length+cs.length) (u8L bs ++ u8L cs)) (hd:v1.ownBlock=v.ownBlock∨v1.ownBlock=some w.heap.size) :
  PrAt (w1.setCell ⟨PB,0,none⟩ v1) PB v1 (bs ++ cs)∧St PB v w v1 (w1.setCell ⟨PB,0,none⟩ v1):=by
 have hlt:=h.lt;have hpb:v.ownBlock≠some PB:=fun e=>by have:=(h.own.lt PB e).1; omega
 have q1:=(hg.block PB hlt (fun e=>hpb e.symm)).trans h.q;refine ⟨⟨heap_setCell_same w1 PB 0 _ _ _ q1,?_⟩,?_,fun k hk hn ho'=>(Below.heap_setCell w1 ⟨PB,0,none⟩ v1 k hn).trans (hg.block k hk (fun e=>ho' e.symm)),?_⟩
 ·have e:u8L (bs ++ cs)=u8L bs ++ u8L cs:=by simp [u8L]
  rw [List.length_append,e];exact own_set ho
 ·exact ((Below.refl PB w).grown hg (Nat.le_of_lt hlt) (fun k e=>by have:=(h.own.lt k e).1; omega)).setCell (p:=⟨PB,0,none⟩) (Nat.le_refl _) _
 ·rcases hd with e | e
  ·exact .inl e
  ·exact .inr ⟨_,Nat.le_refl _,e⟩
def EnS:EnT ByteArray:=fun _ _ x cs=>cs = [.string x]
theorem enS:EnOk EnS:=⟨fun _ h=>h,fun _ h=>h⟩
theorem run_append_str (w:World) (PB:Nat) (v:Value) (n:Nat) (xs:List Value) (hown:w.ownsRow (PB+1) 5 1 v n xs) (s:ByteArray) (ty:TypeId) (hb:n+s.size≤1099511627776) (hbase:PB+1≤w.heap.size) :
  ∃ v' w',(Builtin.append_ #[24,9] ty #[v,.string s]).run Tryz.prog w = .ok v' w'∧w'.ownsRow (PB+1) 5 1 v' (n+s.size) (xs ++ u8L s.data.toList)∧w.grownBy w' v.ownBlock∧(v'.ownBlock=v.ownBlock∨v'.ownBlock=some w.heap.size):=by
 obtain ⟨i,hi,hz,hs,hby⟩:=info_parts infoB;obtain ⟨v',w',hr,h1,h2,h3⟩:=run_append_own_string (P:=Tryz.prog) w (PB+1) 24 9 ty 5 i Tryz.underlying24 Tryz.underlying9 hi hz hs hby v n xs hown s (by unfold maxLen; omega) (by omega) hbase;refine ⟨v',w',hr,h1,h2,?_⟩;have hxl:xs.length=n:=by simpa using hown.1
 obtain ⟨_,⟨e1,e2⟩ | ⟨g,cap,cur,e1,hgb,q,hc,hm,hcs,htk⟩⟩:=hown
 ·subst e1;by_cases hz0:s.size=0
  ·rw [h3.2 ⟨rfl,hz0⟩]; exact .inl rfl
  ·right;subst e2;have hg:=run_append_grow_src (P:=Tryz.prog) w 24 9 ty 5 i (.int .u8 0) Tryz.underlying24 hi hz none 0 0 [] (run_firstCells_none w.drew i.size 0 0 0) (.string s) s.size _ (hs ▸ _root_.Go.Src.ofString w Tryz.underlying9 s) (by omega) (by omega) (growslice_fits (by omega) (by rw [hby]; omega));rw [hr] at hg;have:=(Result.ok.inj hg).1;rw [this];rfl
 ·subst e1;by_cases hroom:n+s.size≤cap
  ·left;have hg:=run_append_room_string (P:=Tryz.prog) w 24 9 ty 5 i Tryz.underlying24 Tryz.underlying9 hi hs g n cap cur q s hroom (by rw [hcs]; omega);rw [hr] at hg;have:=(Result.ok.inj hg).1;rw [this];rfl
  ·right;have hg:=run_append_grow_string (P:=Tryz.prog) w 24 9 ty 5 i (.int .u8 0) Tryz.underlying24 Tryz.underlying9 hi hz ⟨g,0,none⟩ n cap xs (by rw [hs]; omega) (fun j u hj=>World.ownsRow.cells ⟨by simpa using hxl,.inr ⟨g,cap,cur,rfl,hgb,q,hc,hm,hcs,htk⟩⟩ rfl j u hj) s (by omega) (by omega) (growslice_fits (by omega) (by rw [hby]; omega));rw [hr] at hg;have:=(Result.ok.inj hg).1;rw [this];rfl
theorem wpList_append_str {ops:Array Oper} {rest:List Oper} {w:World} {o:Oper} {a:Act} {Q:Exit→Act→World→Prop} (hgd:o.guard=none) (x y:Operand)
  (ho:o.op = .call { callee:=.builtin .append,args:=#[x,y],argTypes:=#[24,9] }) {PB:Nat} {v:Value} {bs:List UInt8} (hs:a.eval x=v) (hown:w.ownsRow (PB+1) 5 1 v bs.length (u8L bs)) (s:ByteArray) (hy:a.eval y = .string s) (hb:bs.length+s.size≤1099511627776) (hbase:PB+1≤w.heap.size)
  (h:∀ v' w',w'.ownsRow (PB+1) 5 1 v' (bs.length+s.data.toList.length) (u8L bs ++ u8L s.data.toList)→w.grownBy w' v.ownBlock→(v'.ownBlock=v.ownBlock∨v'.ownBlock=some w.heap.size)→wpList Tryz.prog ops Q rest (a.put o.dst v') w'):wpList Tryz.prog ops Q (o :: rest) a w:=by
 refine wpList_plain hgd fun K hK=>?_
 obtain ⟨v',w',hr,h1,h2,h3⟩:=run_append_str w PB v bs.length (u8L bs) hown s o.type hb hbase;unfold Oper.wp;simp [execOp,ho,resolve,invoke,builtin,hs,hy,hr,Result.andThen];exact hK _ _ (h v' w' (by rw [show s.data.toList.length=s.size from Array.length_toList]; exact h1) h2 h3)
theorem say_at (ws:List ByteArray) {a:Option Addr} {cap PB:Nat} {v:Value} {bs:List UInt8} {w:World} (hP:PrAt w PB v bs) (hl:LsE EnS 1 (fun b=>b≠PB∧v.ownBlock≠some b) w a ws) (hb:(sayL bs ws).length≤1099511627776) (hn:ws.length≤1000):Calls Tryz.prog 57 #[.pointer (some ⟨PB,0,none⟩),.slice a ws.length cap] w (PEnds w PB v (sayL bs ws)):=by
 obtain ⟨i0,hi0,hj0,hj1,hj2⟩:=info_parts infoB;have HL:Hid (LsE EnS 1 (fun b=>b≠PB∧v.ownBlock≠some b) w a ws):=hl;have HB:Hid ((sayL bs ws).length≤1099511627776):=hb;have HP:Hid (PrAt w PB v bs):=hP;clear hl hb hP;go_enter Tryz.func57,Tryz.ntmps57;go_wp2_with fail
 go_loopw [8] (fun i wr=>∃ (j:Nat) (v':Value),j≤ws.length∧i = .int .i64 j∧Hid (PrAt wr PB v' (sayL bs (ws.take j)))∧Hid (St PB v w v' wr)) (fun i _=>ws.length - (RowKit.intOf i).toNat)
 case atStart=>exact ⟨0,v,Nat.zero_le _,rfl,HP,St.refl _ _ _⟩
 case round =>
  obtain ⟨j,v1,hj,rfl,hP1,hS1⟩:=hrel;by_cases hlt:j<ws.length
  ·have hk:LsE EnS 1 (fun b=>b≠PB∧v.ownBlock≠some b) wr a ws:=HL.out.keep enS ⟨hS1.out.bel.size,fun k hk hl=>hS1.out.keep k hl hk.1 hk.2⟩;obtain ⟨b,off,_,rfl,t1,rfl⟩:=hk.get hlt;have hne:b≠PB∧v1.ownBlock≠some b:=by
    rcases HL.out with h | ⟨b',off',e,h1,h2,_⟩
    ·rw [h] at hlt; simp at hlt
    ·have e:=Option.some.inj e;injection e with e1 _
     subst e1;refine ⟨h1.1,?_⟩;rcases hS1.out.own with e | ⟨g,hg,e⟩
     ·rw [e]; exact h1.2
     ·rw [e]; intro e2; have:=Option.some.inj e2; omega
   have y0:wr.cell? ⟨b,off+j,none⟩=some (.string ws[j]):=by have:=t1.2 0 _ rfl; simpa using this
   have hjz:(j:Int)<(ws.length:Int):=by omega
   have hle:=sayL_pre bs ws (j+1);have hst:=sayL_take bs ws j hlt;rw [hst] at hle;have hB2:(say1 (sayL bs (ws.take j)) ws[j]).length≤1099511627776:=Nat.le_trans hle HB.out;have HST:Hid (sayL bs (ws.take (j+1))=say1 (sayL bs (ws.take j)) ws[j]):=hst;generalize sayL bs (ws.take j)=cs at *;generalize ws[j]=s at *;have hq:=hP1.out.q;obtain ⟨a1,c1,hv1⟩:=hP1.out.val;have p0:wr.cell? ⟨PB,0,none⟩=some (.slice a1 cs.length c1):=by rw [← hv1]; exact cell_of (i:=0) hq rfl
   have f0:=frozen_of_row wr PB 0 _ _ hq;have hlt1:=hP1.out.lt;have ho1:=hP1.out.own;clear hk t1 hst hle;subst hv1;by_cases hcs:cs = []
   ·have hl0:cs.length=0:=by rw [hcs]; rfl
    have es:say1 cs s=cs ++ s.data.toList:=by rw [say1,if_pos hcs,List.append_nil]
    rw [es] at hB2 HST;have hbb:cs.length+s.size≤1099511627776:=by rw [List.length_append,show s.data.toList.length=s.size from Array.length_toList] at hB2; exact hB2
    have hz0:¬ (0:Int)<(cs.length:Int):=by omega
    clear hB2 es hcs hl0;go_wp2_with (first | (at_builtin; refine wpList_append_str rfl _ _ rfl rfl ho1 s rfl hbb hlt1 ?_))
    intro v2 w2 o2 g2 d2;have q2:=(g2.block PB hlt1 (fun e=>by have:=(ho1.lt PB e.symm).1; omega)).trans hq;obtain ⟨P2,S2⟩:=hP1.out.put g2 o2 d2;have p2:w2.cell? ⟨PB,0,none⟩=some (.slice a1 cs.length c1):=cell_of (i:=0) q2 rfl;have f2:=frozen_of_row w2 PB 0 _ _ q2;have HP2:Hid (PrAt (w2.setCell ⟨PB,0,none⟩ v2) PB v2 (sayL bs (ws.take (j+1)))):=by show PrAt _ _ _ _; rw [HST.out]; exact P2
    have HS2:Hid (St PB v w v2 (w2.setCell ⟨PB,0,none⟩ v2)):=hS1.out.trans S2;obtain ⟨a2,n2,c2,e2⟩:∃ a n c,v2 = .slice a n c:=by obtain ⟨a,c,e⟩:=P2.val; exact ⟨a,_,c,e⟩
    clear P2 S2 o2 g2 d2 ho1 p0 f0 hq hP1 hS1 y0;subst e2;go_wp2_with fail
    go_roundw
    case rel=>exact ⟨j+1,_,by omega,by go_num,HP2,HS2⟩
    case measure=>simp [RowKit.intOf]; omega
   ·have hl0:0<cs.length:=List.length_pos_iff.2 hcs;have es:say1 cs s=(cs ++ [32]) ++ s.data.toList:=by rw [say1,if_neg hcs]
    rw [es] at hB2 HST;have hbb:cs.length+1+s.size≤1099511627776:=by
     have:cs.length+(s.size+1)≤1099511627776:=by simpa using hB2
     omega
    have hz0:(0:Int)<(cs.length:Int):=by omega
    have hal:Below wr.heap.size wr (wr.alloc (.cells #[.int .u8 32] 5)):=(Below.refl _ _).alloc (Nat.le_refl _) _;have q4:=heap_new wr #[.int .u8 32] 5;have hPa:=hP1.out.next hal;have y1:=(hal.cell (p:=⟨b,off+j,none⟩) (cell_lt y0)).trans y0;have hSa:St PB v w _ (wr.alloc (.cells #[.int .u8 32] 5)):=hS1.out.trans (St.of hal hlt1);have ho2:=hPa.own;have hq2:=hPa.q;have hlt2:=hPa.lt;clear hB2 es hcs hl0
    go_wp2_with (first | (at_builtin; refine wpList_append_at rfl _ _ 24 rfl (PB+1) 5 i0 _ 1 1 Tryz.underlying24 hi0 hj0 hj1 hj2 rfl (by decide) _ _ _ rfl ho2 ⟨wr.heap.size,0,none⟩ 1 1 [.int .u8 32] rfl rfl ?Ac1 ?Ac2 ?Ac3 ?Ac4 ?Ac5 ?_))
    case Ac1 =>
     intro i u hu;rw [addr_addS,Nat.zero_add];exact cell_of (i:=i) q4 (by rw [← hu]; simp)
    case Ac2=>intro u hu; simp at hu; subst hu; rfl
    case Ac3=>unfold maxLen; omega
    case Ac4=>omega
    case Ac5=>omega
    intro v2 w2 o2 g2 d2;have q2:=(g2.block PB hlt2 (fun e=>by have:=(ho2.lt PB e.symm).1; omega)).trans hq2;obtain ⟨P2,S2⟩:=hPa.put (cs:=[32]) g2 o2 (by simpa using d2);have p2:w2.cell? ⟨PB,0,none⟩=some (.slice a1 cs.length c1):=cell_of (i:=0) q2 rfl;have f2:=frozen_of_row w2 PB 0 _ _ q2;obtain ⟨a2,n2,c2,e2⟩:∃ a n c,v2 = .slice a n c:=by obtain ⟨a,c,e⟩:=P2.val; exact ⟨a,_,c,e⟩
    have S3:=hSa.trans S2;have hlt3:=P2.lt;have HP3:Hid _:=P2;have y2:(w2.setCell ⟨PB,0,none⟩ v2).cell? ⟨b,off+j,none⟩=some (.string s):=by
     rw [World.cell?_of_block (a:=⟨b,off+j,none⟩) (S2.keep b (cell_lt y1) hne.1 hne.2)];exact y1
    clear S2 o2 g2 d2 ho1 ho2 p0 f0 hq hq2 hP1 hS1 y0 y1 hPa hSa q4 hal P2;subst e2;go_upto_region 5 with fail
    generalize w2.setCell ⟨PB,0,none⟩ (.slice a2 n2 c2)=w3 at *;obtain ⟨a3,c3,e3⟩:=HP3.out.val;injection e3 with e4 e5 e6
    have hq3:=HP3.out.q;have ho3:=HP3.out.own;have p3:w3.cell? ⟨PB,0,none⟩=some (.slice a2 n2 c2):=cell_of (i:=0) hq3 rfl;have f3:=frozen_of_row w3 PB 0 _ _ hq3;have hbb3:(cs ++ [32]).length+s.size≤1099511627776:=by simpa using hbb
    have HS3:Hid _:=S3;clear e4 e5 e6 S3;go_wp2_with (first | (at_builtin; refine wpList_append_str rfl _ _ rfl rfl ho3 s rfl hbb3 hlt3 ?_))
    intro v4 w4 o4 g4 d4;have q4:=(g4.block PB hlt3 (fun e=>by have:=(ho3.lt PB e.symm).1; omega)).trans hq3;obtain ⟨P4,S4⟩:=HP3.out.put (cs:=s.data.toList) g4 (by simpa using o4) d4;have p4:w4.cell? ⟨PB,0,none⟩=some (.slice a2 n2 c2):=cell_of (i:=0) q4 rfl;have f4:=frozen_of_row w4 PB 0 _ _ q4;have HP4:Hid (PrAt (w4.setCell ⟨PB,0,none⟩ v4) PB v4 (sayL bs (ws.take (j+1)))):=by show PrAt _ _ _ _; rw [HST.out]; exact P4
    have HS4:Hid (St PB v w v4 (w4.setCell ⟨PB,0,none⟩ v4)):=HS3.out.trans S4;obtain ⟨a4,n4,c4,e7⟩:∃ a n c,v4 = .slice a n c:=by obtain ⟨a,c,e⟩:=P4.val; exact ⟨a,_,c,e⟩
    clear P4 S4 o4 g4 d4 ho3 p3 f3 hq3 HP3 HS3 y2;subst e7;go_wp2_with fail
    go_roundw
    case rel=>exact ⟨j+1,_,by omega,by go_num,HP4,HS4⟩
    case measure=>simp [RowKit.intOf]; omega
  ·have e:ws.take j=ws:=List.take_of_length_le (by omega);rw [e] at hP1;go_wp2_with fail
   go_end0
   exact ⟨rfl,v1,hP1.out,hS1.out⟩

abbrev Lim:Nat:=1099511627776
theorem PrAt.nown {W:World} {PB:Nat} {v:Value} {bs:List UInt8} (h:PrAt W PB v bs) {g:Nat} (hg:W.heap.size≤g):v.ownBlock≠some g:=fun e=>by have:=(h.own.lt g e).2; omega
theorem St.nown {PB:Nat} {v v':Value} {w w':World} (h:St PB v w v' w') {g:Nat} (hg:g<w.heap.size) (hn:v.ownBlock≠some g):v'.ownBlock≠some g:=by
 rcases h.own with e | ⟨k,hk,e⟩
 ·rw [e]; exact hn
 ·rw [e]; intro e2; have:=Option.some.inj e2; omega
/-- A block of one's own beside the printer's. -/
structure Bx (W:World) (PB:Nat) (v:Value) (g:Nat) (cs:Array Value) (T:TypeId):Prop where
 q:Blk W g cs T
 ne:g≠PB
 no:v.ownBlock≠some g
theorem Bx.st {W W':World} {PB:Nat} {v v':Value} {g:Nat} {cs:Array Value} {T:TypeId} (h:Bx W PB v g cs T) (s:St PB v W v' W'):Bx W' PB v' g cs T:=⟨(s.keep g (lt_of_heap h.q) h.ne h.no).trans h.q,h.ne,s.nown (lt_of_heap h.q) h.no⟩
theorem Bx.nx {W W':World} {PB:Nat} {v:Value} {g:Nat} {cs:Array Value} {T:TypeId} (h:Bx W PB v g cs T) (hb:Below W.heap.size W W'):Bx W' PB v g cs T:=⟨h.q.nx hb,h.ne,h.no⟩
theorem Bx.new {W:World} {PB:Nat} {v:Value} {bs:List UInt8} (h:PrAt W PB v bs) (cs:Array Value) (T:TypeId):Bx (W.alloc (.cells cs T)) PB v W.heap.size cs T:=⟨heap_new W cs T,by have:=h.lt; omega,h.nown (Nat.le_refl _)⟩
theorem Bx.c {W:World} {PB:Nat} {v:Value} {g:Nat} {cs:Array Value} {T:TypeId} (h:Bx W PB v g cs T) (i:Nat) {u:Value} (hu:cs[i]? = some u):W.cell? ⟨g,i,none⟩=some u:=h.q.c i hu
/-- Below the printer's block all is as it was. -/
theorem LsE.stp {α:Type} {En:EnT α} (ok:EnOk En) {size PB:Nat} {W W':World} {v v':Value} {a:Option Addr} {l:List α} (h:LsE En size (fun b=>b<PB) W a l) (s:St PB v W v' W'):LsE En size (fun b=>b<PB) W' a l:=h.keep ok ⟨s.bel.size,fun b hb _=>s.bel.block b hb⟩
theorem SsS.stp {PB:Nat} {W W':World} {v v':Value} {a:Option Addr} {l:List SX} (h:SsS (fun b=>b<PB) W a l) (s:St PB v W v' W'):SsS (fun b=>b<PB) W' a l:=SsS.keep ⟨s.bel.size,fun b hb _=>s.bel.block b hb⟩ h
theorem say_new (ws:List ByteArray) {PB:Nat} {v:Value} {bs:List UInt8} {w:World} (hP:PrAt w PB v bs) (hb:(sayL bs ws).length≤Lim) (hn:ws.length≤1000):Calls Tryz.prog 57 #[.pointer (some ⟨PB,0,none⟩),.slice (some ⟨w.heap.size,0,none⟩) ws.length ws.length] (w.alloc (.cells (ws.map Value.string).toArray 9)) (PEnds w PB v (sayL bs ws)):=by
 have hal:Below w.heap.size w (w.alloc (.cells (ws.map Value.string).toArray 9)):=(Below.refl _ _).alloc (Nat.le_refl _) _;have hl:LsE EnS 1 (fun b=>b≠PB∧v.ownBlock≠some b) (w.alloc (.cells (ws.map Value.string).toArray 9)) (some ⟨w.heap.size,0,none⟩) ws:=by
  refine .inr ⟨w.heap.size,0,rfl,⟨by have:=hP.lt; omega,hP.nown (Nat.le_refl _)⟩,by simp,fun i hi=>⟨[.string ws[i]],rfl,fun j u hu=>?_,rfl⟩⟩
  match j,hu with
  | 0,hu =>
   cases hu;have:(0+i*1+0)=i:=by omega
   rw [this];exact cell_of (i:=i) (heap_new w _ _) (by simp [hi])
  | j+1,hu=>simp at hu
 refine (say_at ws (cap:=ws.length) (hP.next hal) hl hb hn).mono ?_;rintro e w' ⟨rfl,v',P',S'⟩;exact ⟨rfl,v',P',(St.of hal hP.lt).trans S'⟩
theorem sayIf_at (has:Bool) (s:ByteArray) {PB:Nat} {v:Value} {bs:List UInt8} {w:World} (hP:PrAt w PB v bs) (hb:(sayL bs (if has then [s] else [])).length≤Lim):Calls Tryz.prog 86 #[.pointer (some ⟨PB,0,none⟩),.bool has,.string s] w (PEnds w PB v (sayL bs (if has then [s] else []))):=by
 cases has
 ·have HP:Hid (PrAt w PB v bs):=hP;clear hP hb;go_enter Tryz.func86,Tryz.ntmps86;go_wp2_with fail
  go_end0
  exact ⟨rfl,v,HP.out,St.refl _ _ _⟩
 ·have con:Calls Tryz.prog 57 #[.pointer (some ⟨PB,0,none⟩),.slice (some ⟨w.heap.size,0,none⟩) 1 1] (w.alloc (.cells #[.string s] 9)) (PEnds w PB v (sayL bs [s])):=say_new [s] hP hb (by simp);clear hP hb;go_enter Tryz.func86,Tryz.ntmps86;go_wp2_with fail
  refine con.mono ?_;rintro e w1 ⟨rfl,v1,P1,S1⟩;have HE:Hid (∃ v',PrAt w1 PB v' (sayL bs [s])∧St PB v w v' w1):=⟨v1,P1,S1⟩
  clear con P1 S1;go_wp2_with fail
  go_end0
  exact ⟨rfl,HE.out⟩
def byW (s:ByteArray):List ByteArray:=if s.size=0 then [] else [⟨#[97,115]⟩,s]
theorem byName2_at (s:ByteArray) {PB:Nat} {v:Value} {bs:List UInt8} {w:World} (hP:PrAt w PB v bs) (hb:(sayL bs (byW s)).length≤Lim):Calls Tryz.prog 143 #[.pointer (some ⟨PB,0,none⟩),.string s] w (PEnds w PB v (sayL bs (byW s))):=by
 by_cases hs:s.size=0
 ·have es:s=⟨#[]⟩:=by
   apply ByteArray.ext;exact Array.eq_empty_of_size_eq_zero hs
  rw [byW,if_pos hs];subst es;have HP:Hid (PrAt w PB v bs):=hP;clear hP hb;go_enter Tryz.func143,Tryz.ntmps143;go_wp2_with fail
  go_end0
  exact ⟨rfl,v,HP.out,St.refl _ _ _⟩
 ·rw [byW,if_neg hs] at hb ⊢;have con:Calls Tryz.prog 57 #[.pointer (some ⟨PB,0,none⟩),.slice (some ⟨w.heap.size,0,none⟩) 2 2] (w.alloc (.cells #[.string ⟨#[97,115]⟩,.string s] 9)) (PEnds w PB v (sayL bs [⟨#[97,115]⟩,s])):=say_new [⟨#[97,115]⟩,s] hP hb (by simp);have hne:s.toList.isEmpty=false:=by
   rw [Lib.toList_data];cases h:s.data.toList with
   | nil=>exact absurd (show s.data.size=0 by rw [← Array.length_toList (xs:=s.data),h]; rfl) hs
   | cons _ _=>rfl
  clear hP hb;go_enter Tryz.func143,Tryz.ntmps143;go_wp2_with fail
  refine con.mono ?_;rintro e w1 ⟨rfl,v1,P1,S1⟩;have HE:Hid (∃ v',PrAt w1 PB v' (sayL bs [⟨#[97,115]⟩,s])∧St PB v w v' w1):=⟨v1,P1,S1⟩
  clear con P1 S1;go_wp2_with fail
  go_end0
  exact ⟨rfl,HE.out⟩

abbrev inf0:Int × ByteArray × Int:=(0,⟨#[]⟩,0)
def infF (k:Int):List (Int × ByteArray × Int)→Int × ByteArray × Int
 | []=>inf0
 | i :: r=>if i.1=k then i else infF k r
def infO (k:Int):Int × ByteArray × Int:=infF k infL
theorem infF_get (k:Int) (j:Nat) (h:j<infL.length):infF k (infL.drop j)=if infL[j].1=k then infL[j] else infF k (infL.drop (j+1)):=by
 rw [List.drop_eq_getElem_cons h,infF]
abbrev infAg (i:Int × ByteArray × Int):Array Value:=#[.int .i64 i.1,.string i.2.1,.int .i64 i.2.2]
theorem infixOf_at (kk:Int) {w:World} (hg:Gl w):Calls Tryz.prog 172 #[.int .i64 kk] w fun e w'=>e = .returned (.agg (infAg (infO kk)))∧Below w.heap.size w w':=by
 generalize hM:infO kk=M;have HM:Hid (infF kk (infL.drop 0)=M):=hM;have hal:Below w.heap.size w (w.alloc (.cells #[.int .i64 0,.string ⟨#[]⟩,.int .i64 0] 201)):=(Below.refl _ _).alloc (Nat.le_refl _) _;have hr:=(hg.next hal).range;have Q0:Blk (w.alloc (.cells #[.int .i64 0,.string ⟨#[]⟩,.int .i64 0] 201)) w.heap.size #[.int .i64 0,.string ⟨#[]⟩,.int .i64 0] 201:=heap_new w _ _;clear hM hg;go_enter Tryz.func172,Tryz.ntmps172;go_upto_region 1 with fail
 generalize w.alloc (.cells #[.int .i64 0,.string ⟨#[]⟩,.int .i64 0] 201)=w1 at *;refine wp_region_lit ?_;refine wpList_load_mid rfl 232 _ rfl 1 0 rfl infC (.array 12 201) hr (by kernel_rfl) rfl (by kernel_rfl) ?_;simp only [Act.put,pA,pB,pC];go_wp2_with fail
 clear hr;go_loopw [6] (fun i wr=>∃ k:Nat,k≤12∧i = .int .i64 k∧Hid (infF kk (infL.drop k)=M)∧Below w1.heap.size w1 wr) (fun i _=>12 - (RowKit.intOf i).toNat)
 case atStart=>exact ⟨0,by omega,rfl,HM,Below.refl _ _⟩
 case round =>
  obtain ⟨k,hk,rfl,HK,hx⟩:=hrel;have Q1:=Q0.nx hx;by_cases hlt:k<12
  ·have hkz:(k:Int)<12:=by omega
   have hid:=infA_at k hlt wr;have hkl:k<infL.length:=by simpa [infL] using hlt
   have HG:=infF_get kk k hkl;have HG2:Hid ((if infL[k].1=kk then infL[k] else infF kk (infL.drop (k+1)))=M):=HG.symm.trans HK.out;clear HG HK;generalize infL[k]=e at *;have hal2:Below wr.heap.size wr (wr.alloc (.cells #[.int .i64 e.1,.string e.2.1,.int .i64 e.2.2] 201)):=(Below.refl _ _).alloc (Nat.le_refl _) _;have hq:Blk (wr.alloc (.cells #[.int .i64 e.1,.string e.2.1,.int .i64 e.2.2] 201)) wr.heap.size #[.int .i64 e.1,.string e.2.1,.int .i64 e.2.2] 201:=heap_new wr _ _;have Q2:=Q1.nx hal2;rcases hl:e.1 == kk with _ | _
   ·have HG3:Hid (infF kk (infL.drop (k+1))=M):=by
     show _=_;rw [← HG2.out,if_neg (fun c=>by rw [c] at hl; simp at hl)]
    clear HG2;go_wp2_with fail
    go_roundw
    case rel=>exact ⟨k+1,by omega,by go_num,HG3,chain hx hal2⟩
    case measure=>simp [RowKit.intOf]; omega
   ·have hle:e.1=kk:=by simpa using hl
    have HG3:Hid (e=M):=by
     show _=_;rw [← HG2.out,if_pos hle]
    clear HG2 hl;subst hle;go_upto_region 4 with fail
    generalize wr.alloc (.cells #[.int .i64 e.1,.string e.2.1,.int .i64 e.2.2] 201)=w2 at *;have x0:w2.cell? ⟨wr.heap.size,0,none⟩=some (.int .i64 e.1):=hq.c 0 rfl;have x1:w2.cell? ⟨wr.heap.size,1,none⟩=some (.string e.2.1):=hq.c 1 rfl;have x2:w2.cell? ⟨wr.heap.size,2,none⟩=some (.int .i64 e.2.2):=hq.c 2 rfl;obtain ⟨z0,z1,z2⟩:=cells3 Q2;obtain ⟨y0,y1,y2⟩:=froz3 Q2;go_wp2_with fail
    have QE:=st3_heap Q2 (.int .i64 e.1) (.string e.2.1) (.int .i64 e.2.2);have hbE:=st3_b (g:=w.heap.size) (chain hal (chain hx hal2)) (Nat.le_refl _) (.int .i64 e.1) (.string e.2.1) (.int .i64 e.2.2);generalize (((w2.setCell ⟨w.heap.size,0,none⟩ (.int .i64 e.1)).setCell ⟨w.heap.size,1,none⟩ (.string e.2.1)).setCell ⟨w.heap.size,2,none⟩ (.int .i64 e.2.2))=wE at *;obtain ⟨u0,u1,u2⟩:=cells3 QE;exact bodyPost_ret (v:=.agg #[.int .i64 e.1,.string e.2.1,.int .i64 e.2.2]) (by simp [results,Tryz.results172,go_sem,u0,u1,u2]) rfl ⟨by rw [← HG3.out],hbE⟩
  ·have e12:k=12:=by omega
   subst e12;have HG3:Hid (inf0=M):=HK.out;obtain ⟨z0,z1,z2⟩:=cells3 Q1;obtain ⟨y0,y1,y2⟩:=froz3 Q1;clear HK;go_wp2_with fail
   have QE:=st3_heap Q1 (.int .i64 0) (.string ⟨#[]⟩) (.int .i64 0);have hbE:=st3_b (g:=w.heap.size) (chain hal hx) (Nat.le_refl _) (.int .i64 0) (.string ⟨#[]⟩) (.int .i64 0);generalize (((wr.setCell ⟨w.heap.size,0,none⟩ (.int .i64 0)).setCell ⟨w.heap.size,1,none⟩ (.string ⟨#[]⟩)).setCell ⟨w.heap.size,2,none⟩ (.int .i64 0))=wE at *;obtain ⟨u0,u1,u2⟩:=cells3 QE;exact bodyPost_ret (v:=.agg #[.int .i64 0,.string ⟨#[]⟩,.int .i64 0]) (by simp [results,Tryz.results172,go_sem,u0,u1,u2]) rfl ⟨by rw [← HG3.out],hbE⟩
def levC (k:Int):Int:=if k=3 then 3 else if k=16 then 4 else if (infO k).2.2=0 then 8 else (infO k).2.2
theorem levelOf_at (k:Int) {w:World} (hg:Gl w):Calls Tryz.prog 145 #[.int .i64 k] w fun e w'=>e = .returned (.int .i64 (levC k))∧Below w.heap.size w w':=by
 have con:=infixOf_at k hg;generalize hM:levC k=M;rw [levC] at hM;clear hg;by_cases h3:k=3
 ·rw [if_pos h3] at hM;subst hM;subst h3;clear con;go_enter Tryz.func145,Tryz.ntmps145;go_wp2_with fail
  exact bodyPost_ret (results_tmp rfl _ _ _) rfl ⟨by first | rfl | trivial,Below.refl _ _⟩
 rw [if_neg h3] at hM;by_cases h16:k=16
 ·rw [if_pos h16] at hM;subst hM;subst h16;clear con;go_enter Tryz.func145,Tryz.ntmps145;go_wp2_with fail
  exact bodyPost_ret (results_tmp rfl _ _ _) rfl ⟨by first | rfl | trivial,Below.refl _ _⟩
 rw [if_neg h16] at hM;have b3:(k == 3)=false:=by simpa using h3
 have b16:(k == 16)=false:=by simpa using h16
 generalize infO k=i at *;simp only [infAg] at con;by_cases h0:i.2.2=0
 ·rw [if_pos h0] at hM;subst hM;have b0:(i.2.2 != 0)=false:=by simpa using h0
  clear h0 h3 h16;go_enter Tryz.func145,Tryz.ntmps145;go_wp2_with fail
  refine con.mono ?_;rintro e w1 ⟨rfl,hb1⟩;have hfd:(Instr.field 201 (.agg #[.int .i64 i.1,.string i.2.1,.int .i64 i.2.2]) 2).run Tryz.prog w1 = .ok (.int .i64 i.2.2) w1:=by kernel_rfl
  go_wp2_with fail
  exact bodyPost_ret (results_tmp rfl _ _ _) rfl ⟨by first | rfl | trivial,hb1⟩
 ·rw [if_neg h0] at hM;subst hM;have b0:(i.2.2 != 0)=true:=by simpa using h0
  clear h0 h3 h16;go_enter Tryz.func145,Tryz.ntmps145;go_wp2_with fail
  refine con.mono ?_;rintro e w1 ⟨rfl,hb1⟩;have hfd:(Instr.field 201 (.agg #[.int .i64 i.1,.string i.2.1,.int .i64 i.2.2]) 2).run Tryz.prog w1 = .ok (.int .i64 i.2.2) w1:=by kernel_rfl
  go_wp2_with fail
  exact bodyPost_ret (results_tmp rfl _ _ _) rfl ⟨by first | rfl | trivial,hb1⟩

theorem lea {bs:List UInt8} {a b:List ByteArray} (h:(sayL bs (a ++ b)).length≤Lim):(sayL bs a).length≤Lim:=by rw [sayL_app] at h; exact Nat.le_trans (sayL_len _ _) h
theorem tab_keep {W W':World} (h:Lib.TabIs Tryz.prog W "internal/strconv.uint64pow10" .u64 Lib.pow10Tab) (hb:W'.heap[2]? = W.heap[2]?):Lib.TabIs Tryz.prog W' "internal/strconv.uint64pow10" .u64 Lib.pow10Tab:=by
 have hg:Tryz.prog.globalNamed "internal/strconv.uint64pow10" = some 2:=by kernel_rfl
 unfold Lib.TabIs World.var? at h ⊢;rw [hg] at h ⊢;simp only [Option.bind_some] at h ⊢;rw [hb];exact h
/-- The tables, and where the printer's block may lie. -/
structure GP (W:World) (PB:Nat):Prop where
 gl:Gl W
 tab:Lib.TabIs Tryz.prog W "internal/strconv.uint64pow10" .u64 Lib.pow10Tab
 mx:∃ m,W.cell? ⟨3,0,none⟩=some (.int .i64 m)
 p:9<PB
theorem GP.nx {W W':World} {PB:Nat} (h:GP W PB) (hb:Below W.heap.size W W') (hp:PB<W.heap.size):GP W' PB:=by
 have:=h.p;exact ⟨h.gl.next hb,tab_keep h.tab (hb.block 2 (by omega)),by obtain ⟨m,hm⟩:=h.mx; exact ⟨m,(World.cell?_of_block (a:=⟨3,0,none⟩) (hb.block 3 (by omega))).trans hm⟩,h.p⟩
theorem GP.st {W W':World} {PB:Nat} {v v':Value} (h:GP W PB) (s:St PB v W v' W'):GP W' PB:=by
 have:=h.p;exact ⟨⟨Nat.lt_of_lt_of_le h.gl.lt s.bel.size,fun j hj=>(World.cell?_of_block (a:=⟨1,j,none⟩) (s.bel.block 1 (by omega))).trans (h.gl.inf j hj),fun j hj=>(World.cell?_of_block (a:=⟨0,j,none⟩) (s.bel.block 0 (by omega))).trans (h.gl.sig j hj)⟩,tab_keep h.tab (s.bel.block 2 (by omega)),by obtain ⟨m,hm⟩:=h.mx; exact ⟨m,(World.cell?_of_block (a:=⟨3,0,none⟩) (s.bel.block 3 (by omega))).trans hm⟩,h.p⟩
def colW (t n:ByteArray):List ByteArray:=if t.size=0 then [n] else [t,⟨#[46]⟩] ++ [n]
theorem isE_t {s : ByteArray} (h : s.size = 0) : s.toList.isEmpty = true := by
  rw [Lib.toList_data]
  cases hc : s.data.toList with
  | nil => rfl
  | cons a l => have : s.data.toList.length = 0 := by rw [Array.length_toList]; exact h
                rw [hc] at this; simp at this
theorem isE_f {s:ByteArray} (h:s.size≠0):s.toList.isEmpty=false:=by
 rw [Lib.toList_data];cases hc:s.data.toList with
 | nil=>exact absurd (show s.data.size=0 by rw [← Array.length_toList (xs:=s.data),hc]; rfl) h
 | cons _ _=>rfl
theorem columnName2_at (x:SX) (a:Option Addr) (c:Nat) {PB:Nat} {v:Value} {bs:List UInt8} {w:World} (hG:GP w PB) (hP:PrAt w PB v bs) (hb:(sayL bs (colW x.tab x.name)).length≤Lim):Calls Tryz.prog 173 #[.pointer (some ⟨PB,0,none⟩),.agg (sxA x a c)] w (PEnds w PB v (sayL bs (colW x.tab x.name))):=by
 by_cases hs:x.tab.size=0
 ·rw [colW,if_pos hs] at hb ⊢;have he:=isE_t hs;have Hb:Hid _:=hb;clear hb;have hal:Below w.heap.size w (w.alloc (.cells #[.int .i64 x.k,.int .i64 x.v.1,.int .i64 x.v.2.1,.string x.v.2.2,.string x.tab,.string x.name,.slice a x.ks.length c] 55)):=(Below.refl _ _).alloc (Nat.le_refl _) _
  have B0:Hid (Bx (w.alloc (.cells #[.int .i64 x.k,.int .i64 x.v.1,.int .i64 x.v.2.1,.string x.v.2.2,.string x.tab,.string x.name,.slice a x.ks.length c] 55)) PB v w.heap.size #[.int .i64 x.k,.int .i64 x.v.1,.int .i64 x.v.2.1,.string x.v.2.2,.string x.tab,.string x.name,.slice a x.ks.length c] 55):=Bx.new hP #[.int .i64 x.k,.int .i64 x.v.1,.int .i64 x.v.2.1,.string x.v.2.2,.string x.tab,.string x.name,.slice a x.ks.length c] 55
  have P0:Hid (PrAt (w.alloc (.cells #[.int .i64 x.k,.int .i64 x.v.1,.int .i64 x.v.2.1,.string x.v.2.2,.string x.tab,.string x.name,.slice a x.ks.length c] 55)) PB v bs):=hP.next hal;have S0:Hid (St PB v w v (w.alloc (.cells #[.int .i64 x.k,.int .i64 x.v.1,.int .i64 x.v.2.1,.string x.v.2.2,.string x.tab,.string x.name,.slice a x.ks.length c] 55))):=St.of hal hP.lt;have G0:Hid (GP (w.alloc (.cells #[.int .i64 x.k,.int .i64 x.v.1,.int .i64 x.v.2.1,.string x.v.2.2,.string x.tab,.string x.name,.slice a x.ks.length c] 55)) PB):=hG.nx hal hP.lt;clear hP hG hal;go_enter Tryz.func173,Tryz.ntmps173
  go_upto_region 1 with fail
  generalize (w.alloc (.cells #[.int .i64 x.k,.int .i64 x.v.1,.int .i64 x.v.2.1,.string x.v.2.2,.string x.tab,.string x.name,.slice a x.ks.length c] 55))=w0 at *;have f1:w0.cell? ⟨w.heap.size,4,none⟩=some (.string x.tab):=B0.out.c 4 rfl;have f2:w0.cell? ⟨w.heap.size,5,none⟩=some (.string x.name):=B0.out.c 5 rfl;have con3:Calls Tryz.prog 57 #[.pointer (some ⟨PB,0,none⟩),.slice (some ⟨w0.heap.size,0,none⟩) 1 1] (w0.alloc (.cells #[.string x.name] 9)) (PEnds w0 PB v (sayL bs ([x.name]))):=say_new [x.name] P0.out (Hb.out) (by simp);go_wp2_with fail
  refine con3.mono ?_;rintro e w4 ⟨rfl,v5,P_,S_⟩;have P6:Hid (PrAt w4 PB v5 (sayL bs ([x.name]))):=P_;have S7:Hid (St PB v w v5 w4):=S0.out.trans S_;have G8:Hid (GP w4 PB):=G0.out.st S_;have B9:Hid (Bx w4 PB v5 (w.heap.size) #[.int .i64 x.k,.int .i64 x.v.1,.int .i64 x.v.2.1,.string x.v.2.2,.string x.tab,.string x.name,.slice a x.ks.length c] 55):=B0.out.st S_;clear con3 P_ S_ f2 f1 P0 S0 G0 B0;go_wp2_with fail
  go_end0
  exact ⟨rfl,v5,P6.out,S7.out⟩
 ·rw [colW,if_neg hs] at hb ⊢;have he:=isE_f hs;have Hb:Hid _:=hb;clear hb;have hal:Below w.heap.size w (w.alloc (.cells #[.int .i64 x.k,.int .i64 x.v.1,.int .i64 x.v.2.1,.string x.v.2.2,.string x.tab,.string x.name,.slice a x.ks.length c] 55)):=(Below.refl _ _).alloc (Nat.le_refl _) _
  have B0:Hid (Bx (w.alloc (.cells #[.int .i64 x.k,.int .i64 x.v.1,.int .i64 x.v.2.1,.string x.v.2.2,.string x.tab,.string x.name,.slice a x.ks.length c] 55)) PB v w.heap.size #[.int .i64 x.k,.int .i64 x.v.1,.int .i64 x.v.2.1,.string x.v.2.2,.string x.tab,.string x.name,.slice a x.ks.length c] 55):=Bx.new hP #[.int .i64 x.k,.int .i64 x.v.1,.int .i64 x.v.2.1,.string x.v.2.2,.string x.tab,.string x.name,.slice a x.ks.length c] 55
  have P0:Hid (PrAt (w.alloc (.cells #[.int .i64 x.k,.int .i64 x.v.1,.int .i64 x.v.2.1,.string x.v.2.2,.string x.tab,.string x.name,.slice a x.ks.length c] 55)) PB v bs):=hP.next hal;have S0:Hid (St PB v w v (w.alloc (.cells #[.int .i64 x.k,.int .i64 x.v.1,.int .i64 x.v.2.1,.string x.v.2.2,.string x.tab,.string x.name,.slice a x.ks.length c] 55))):=St.of hal hP.lt;have G0:Hid (GP (w.alloc (.cells #[.int .i64 x.k,.int .i64 x.v.1,.int .i64 x.v.2.1,.string x.v.2.2,.string x.tab,.string x.name,.slice a x.ks.length c] 55)) PB):=hG.nx hal hP.lt;clear hP hG hal;go_enter Tryz.func173,Tryz.ntmps173
  go_upto_region 1 with fail
  generalize (w.alloc (.cells #[.int .i64 x.k,.int .i64 x.v.1,.int .i64 x.v.2.1,.string x.v.2.2,.string x.tab,.string x.name,.slice a x.ks.length c] 55))=w0 at *;have f10:w0.cell? ⟨w.heap.size,4,none⟩=some (.string x.tab):=B0.out.c 4 rfl;have con11:Calls Tryz.prog 57 #[.pointer (some ⟨PB,0,none⟩),.slice (some ⟨w0.heap.size,0,none⟩) 2 2] (w0.alloc (.cells #[.string x.tab,.string ⟨#[46]⟩] 9)) (PEnds w0 PB v (sayL bs ([x.tab,⟨#[46]⟩]))):=say_new [x.tab,⟨#[46]⟩] P0.out (lea (Hb.out)) (by simp);go_wp2_with fail
  refine con11.mono ?_;rintro e w12 ⟨rfl,v13,P_,S_⟩;have P14:Hid (PrAt w12 PB v13 (sayL bs ([x.tab,⟨#[46]⟩]))):=P_;have S15:Hid (St PB v w v13 w12):=S0.out.trans S_;have G16:Hid (GP w12 PB):=G0.out.st S_;have B17:Hid (Bx w12 PB v13 (w.heap.size) #[.int .i64 x.k,.int .i64 x.v.1,.int .i64 x.v.2.1,.string x.v.2.2,.string x.tab,.string x.name,.slice a x.ks.length c] 55):=B0.out.st S_;clear con11 P_ S_ f10 P0 S0 G0 B0;have f18:w12.cell? ⟨w.heap.size,5,none⟩=some (.string x.name):=B17.out.c 5 rfl
  have con19:Calls Tryz.prog 57 #[.pointer (some ⟨PB,0,none⟩),.slice (some ⟨w12.heap.size,0,none⟩) 1 1] (w12.alloc (.cells #[.string x.name] 9)) (PEnds w12 PB v13 (sayL (sayL bs ([x.tab,⟨#[46]⟩])) ([x.name]))):=say_new [x.name] P14.out (by rw [← sayL_app]; exact Hb.out) (by simp);go_wp2_with fail
  refine con19.mono ?_;rintro e w20 ⟨rfl,v21,P_,S_⟩;have P22:Hid (PrAt w20 PB v21 (sayL bs ([x.tab,⟨#[46]⟩] ++ [x.name]))):=by show PrAt _ _ _ _; rw [sayL_app]; exact P_
  have S23:Hid (St PB v w v21 w20):=S15.out.trans S_;have G24:Hid (GP w20 PB):=G16.out.st S_;have B25:Hid (Bx w20 PB v21 (w.heap.size) #[.int .i64 x.k,.int .i64 x.v.1,.int .i64 x.v.2.1,.string x.v.2.2,.string x.tab,.string x.name,.slice a x.ks.length c] 55):=B17.out.st S_;clear con19 P_ S_ f18 P14 S15 G16 B17;go_wp2_with fail
  go_end0
  exact ⟨rfl,v21,P22.out,S23.out⟩
def exW (l:Int) (p:Int × List ByteArray):List ByteArray:=if l≤p.1 then p.2 else [⟨#[40]⟩] ++ p.2 ++ [⟨#[41]⟩]
/-- What bare says. -/
def BareAt (bw:List ByteArray) (x:SX):Prop:=∀ (a:Option Addr) (c PB:Nat) (v:Value) (bs:List UInt8) (w:World),GP w PB→PrAt w PB v bs→SsS (fun b=>b<PB) w a x.ks→(sayL bs bw).length≤Lim→Calls Tryz.prog 146 #[.pointer (some ⟨PB,0,none⟩),.agg (sxA x a c)] w (PEnds w PB v (sayL bs bw))
theorem exprAt_of (l:Int) (x:SX) (bw:List ByteArray) (hB:BareAt bw x) (a:Option Addr) (c:Nat) {PB:Nat} {v:Value} {bs:List UInt8} {w:World} (hG:GP w PB) (hP:PrAt w PB v bs) (hk:SsS (fun b=>b<PB) w a x.ks) (hb:(sayL bs (exW l (levC x.k,bw))).length≤Lim):Calls Tryz.prog 120 #[.pointer (some ⟨PB,0,none⟩),.int .i64 l,.agg (sxA x a c)] w (PEnds w PB v (sayL bs (exW l (levC x.k,bw)))):=by
 have HBA:Hid (BareAt bw x):=hB;clear hB;by_cases hl:l≤levC x.k
 ·rw [exW,if_pos hl] at hb ⊢;have Hb:Hid _:=hb;clear hb;have hal:Below w.heap.size w (w.alloc (.cells #[.int .i64 x.k,.int .i64 x.v.1,.int .i64 x.v.2.1,.string x.v.2.2,.string x.tab,.string x.name,.slice a x.ks.length c] 55)):=(Below.refl _ _).alloc (Nat.le_refl _) _
  have B0:Hid (Bx (w.alloc (.cells #[.int .i64 x.k,.int .i64 x.v.1,.int .i64 x.v.2.1,.string x.v.2.2,.string x.tab,.string x.name,.slice a x.ks.length c] 55)) PB v w.heap.size #[.int .i64 x.k,.int .i64 x.v.1,.int .i64 x.v.2.1,.string x.v.2.2,.string x.tab,.string x.name,.slice a x.ks.length c] 55):=Bx.new hP #[.int .i64 x.k,.int .i64 x.v.1,.int .i64 x.v.2.1,.string x.v.2.2,.string x.tab,.string x.name,.slice a x.ks.length c] 55
  have P0:Hid (PrAt (w.alloc (.cells #[.int .i64 x.k,.int .i64 x.v.1,.int .i64 x.v.2.1,.string x.v.2.2,.string x.tab,.string x.name,.slice a x.ks.length c] 55)) PB v bs):=hP.next hal;have S0:Hid (St PB v w v (w.alloc (.cells #[.int .i64 x.k,.int .i64 x.v.1,.int .i64 x.v.2.1,.string x.v.2.2,.string x.tab,.string x.name,.slice a x.ks.length c] 55))):=St.of hal hP.lt;have G0:Hid (GP (w.alloc (.cells #[.int .i64 x.k,.int .i64 x.v.1,.int .i64 x.v.2.1,.string x.v.2.2,.string x.tab,.string x.name,.slice a x.ks.length c] 55)) PB):=hG.nx hal hP.lt
  have L00:Hid (SsS (fun b=>b<PB) (w.alloc (.cells #[.int .i64 x.k,.int .i64 x.v.1,.int .i64 x.v.2.1,.string x.v.2.2,.string x.tab,.string x.name,.slice a x.ks.length c] 55)) a x.ks):=SsS.next hal hk;clear hP hG hal hk;go_enter Tryz.func120,Tryz.ntmps120;go_upto_region 1 with fail
  generalize (w.alloc (.cells #[.int .i64 x.k,.int .i64 x.v.1,.int .i64 x.v.2.1,.string x.v.2.2,.string x.tab,.string x.name,.slice a x.ks.length c] 55))=w0 at *;have f1:w0.cell? ⟨w.heap.size,0,none⟩=some (.int .i64 x.k):=B0.out.c 0 rfl;have con2:=levelOf_at x.k (G0.out).gl;go_wp2_with fail
  refine con2.mono ?_;rintro e w3 ⟨rfl,hb4⟩;have P5:Hid (PrAt w3 PB v bs):=P0.out.next hb4;have S_:St PB v w0 v w3:=St.of hb4 P0.out.lt;have S6:Hid (St PB v w v w3):=S0.out.trans S_;have G7:Hid (GP w3 PB):=G0.out.st S_;have B8:Hid (Bx w3 PB v (w.heap.size) #[.int .i64 x.k,.int .i64 x.v.1,.int .i64 x.v.2.1,.string x.v.2.2,.string x.tab,.string x.name,.slice a x.ks.length c] 55):=B0.out.st S_;have L9:Hid (SsS (fun b=>b<PB) w3 a x.ks):=SsS.stp L00.out S_;clear con2 S_ hb4 f1 P0 S0 G0 B0 L00;have f10:w3.cell? ⟨w.heap.size,0,none⟩=some (.int .i64 x.k):=B8.out.c 0 rfl
  have f11:w3.cell? ⟨w.heap.size,1,none⟩=some (.int .i64 x.v.1):=B8.out.c 1 rfl;have f12:w3.cell? ⟨w.heap.size,2,none⟩=some (.int .i64 x.v.2.1):=B8.out.c 2 rfl;have f13:w3.cell? ⟨w.heap.size,3,none⟩=some (.string x.v.2.2):=B8.out.c 3 rfl;have f14:w3.cell? ⟨w.heap.size,4,none⟩=some (.string x.tab):=B8.out.c 4 rfl;have f15:w3.cell? ⟨w.heap.size,5,none⟩=some (.string x.name):=B8.out.c 5 rfl;have f16:w3.cell? ⟨w.heap.size,6,none⟩=some (.slice a x.ks.length c):=B8.out.c 6 rfl
  have con17:Calls Tryz.prog 146 #[.pointer (some ⟨PB,0,none⟩),.agg (sxA x a c)] w3 (PEnds w3 PB v (sayL bs (bw))):=HBA.out a c PB v bs w3 (G7.out) (P5.out) L9.out (Hb.out);go_wp2_with fail
  refine con17.mono ?_;rintro e w18 ⟨rfl,v19,P_,S_⟩;have P20:Hid (PrAt w18 PB v19 (sayL bs (bw))):=P_;have S21:Hid (St PB v w v19 w18):=S6.out.trans S_;have G22:Hid (GP w18 PB):=G7.out.st S_;have B23:Hid (Bx w18 PB v19 (w.heap.size) #[.int .i64 x.k,.int .i64 x.v.1,.int .i64 x.v.2.1,.string x.v.2.2,.string x.tab,.string x.name,.slice a x.ks.length c] 55):=B8.out.st S_;have L24:Hid (SsS (fun b=>b<PB) w18 a x.ks):=SsS.stp L9.out S_;clear con17 P_ S_ f10 f11 f12 f13 f14 f15 f16 P5 S6 G7 B8 L9;go_wp2_with fail
  go_end0
  exact ⟨rfl,v19,P20.out,S21.out⟩
 ·rw [exW,if_neg hl] at hb ⊢;have Hb:Hid _:=hb;clear hb;have hal:Below w.heap.size w (w.alloc (.cells #[.int .i64 x.k,.int .i64 x.v.1,.int .i64 x.v.2.1,.string x.v.2.2,.string x.tab,.string x.name,.slice a x.ks.length c] 55)):=(Below.refl _ _).alloc (Nat.le_refl _) _
  have B0:Hid (Bx (w.alloc (.cells #[.int .i64 x.k,.int .i64 x.v.1,.int .i64 x.v.2.1,.string x.v.2.2,.string x.tab,.string x.name,.slice a x.ks.length c] 55)) PB v w.heap.size #[.int .i64 x.k,.int .i64 x.v.1,.int .i64 x.v.2.1,.string x.v.2.2,.string x.tab,.string x.name,.slice a x.ks.length c] 55):=Bx.new hP #[.int .i64 x.k,.int .i64 x.v.1,.int .i64 x.v.2.1,.string x.v.2.2,.string x.tab,.string x.name,.slice a x.ks.length c] 55
  have P0:Hid (PrAt (w.alloc (.cells #[.int .i64 x.k,.int .i64 x.v.1,.int .i64 x.v.2.1,.string x.v.2.2,.string x.tab,.string x.name,.slice a x.ks.length c] 55)) PB v bs):=hP.next hal;have S0:Hid (St PB v w v (w.alloc (.cells #[.int .i64 x.k,.int .i64 x.v.1,.int .i64 x.v.2.1,.string x.v.2.2,.string x.tab,.string x.name,.slice a x.ks.length c] 55))):=St.of hal hP.lt;have G0:Hid (GP (w.alloc (.cells #[.int .i64 x.k,.int .i64 x.v.1,.int .i64 x.v.2.1,.string x.v.2.2,.string x.tab,.string x.name,.slice a x.ks.length c] 55)) PB):=hG.nx hal hP.lt
  have L00:Hid (SsS (fun b=>b<PB) (w.alloc (.cells #[.int .i64 x.k,.int .i64 x.v.1,.int .i64 x.v.2.1,.string x.v.2.2,.string x.tab,.string x.name,.slice a x.ks.length c] 55)) a x.ks):=SsS.next hal hk;clear hP hG hal hk;go_enter Tryz.func120,Tryz.ntmps120;go_upto_region 1 with fail
  generalize (w.alloc (.cells #[.int .i64 x.k,.int .i64 x.v.1,.int .i64 x.v.2.1,.string x.v.2.2,.string x.tab,.string x.name,.slice a x.ks.length c] 55))=w0 at *;have f25:w0.cell? ⟨w.heap.size,0,none⟩=some (.int .i64 x.k):=B0.out.c 0 rfl;have con26:=levelOf_at x.k (G0.out).gl;go_wp2_with fail
  refine con26.mono ?_;rintro e w27 ⟨rfl,hb28⟩;have P29:Hid (PrAt w27 PB v bs):=P0.out.next hb28;have S_:St PB v w0 v w27:=St.of hb28 P0.out.lt;have S30:Hid (St PB v w v w27):=S0.out.trans S_;have G31:Hid (GP w27 PB):=G0.out.st S_;have B32:Hid (Bx w27 PB v (w.heap.size) #[.int .i64 x.k,.int .i64 x.v.1,.int .i64 x.v.2.1,.string x.v.2.2,.string x.tab,.string x.name,.slice a x.ks.length c] 55):=B0.out.st S_;have L33:Hid (SsS (fun b=>b<PB) w27 a x.ks):=SsS.stp L00.out S_;clear con26 S_ hb28 f25 P0 S0 G0 B0 L00
  have con34:Calls Tryz.prog 57 #[.pointer (some ⟨PB,0,none⟩),.slice (some ⟨w27.heap.size,0,none⟩) 1 1] (w27.alloc (.cells #[.string ⟨#[40]⟩] 9)) (PEnds w27 PB v (sayL bs ([⟨#[40]⟩]))):=say_new [⟨#[40]⟩] P29.out (lea (lea (Hb.out))) (by simp);go_wp2_with fail
  refine con34.mono ?_;rintro e w35 ⟨rfl,v36,P_,S_⟩;have P37:Hid (PrAt w35 PB v36 (sayL bs ([⟨#[40]⟩]))):=P_;have S38:Hid (St PB v w v36 w35):=S30.out.trans S_;have G39:Hid (GP w35 PB):=G31.out.st S_;have B40:Hid (Bx w35 PB v36 (w.heap.size) #[.int .i64 x.k,.int .i64 x.v.1,.int .i64 x.v.2.1,.string x.v.2.2,.string x.tab,.string x.name,.slice a x.ks.length c] 55):=B32.out.st S_;have L41:Hid (SsS (fun b=>b<PB) w35 a x.ks):=SsS.stp L33.out S_;clear con34 P_ S_  P29 S30 G31 B32 L33;have f42:w35.cell? ⟨w.heap.size,0,none⟩=some (.int .i64 x.k):=B40.out.c 0 rfl
  have f43:w35.cell? ⟨w.heap.size,1,none⟩=some (.int .i64 x.v.1):=B40.out.c 1 rfl;have f44:w35.cell? ⟨w.heap.size,2,none⟩=some (.int .i64 x.v.2.1):=B40.out.c 2 rfl;have f45:w35.cell? ⟨w.heap.size,3,none⟩=some (.string x.v.2.2):=B40.out.c 3 rfl;have f46:w35.cell? ⟨w.heap.size,4,none⟩=some (.string x.tab):=B40.out.c 4 rfl;have f47:w35.cell? ⟨w.heap.size,5,none⟩=some (.string x.name):=B40.out.c 5 rfl;have f48:w35.cell? ⟨w.heap.size,6,none⟩=some (.slice a x.ks.length c):=B40.out.c 6 rfl
  have con49:Calls Tryz.prog 146 #[.pointer (some ⟨PB,0,none⟩),.agg (sxA x a c)] w35 (PEnds w35 PB v36 (sayL (sayL bs ([⟨#[40]⟩])) (bw))):=HBA.out a c PB v36 _ w35 (G39.out) (P37.out) L41.out (by rw [← sayL_app]; exact lea (Hb.out));go_wp2_with fail
  refine con49.mono ?_;rintro e w50 ⟨rfl,v51,P_,S_⟩;have P52:Hid (PrAt w50 PB v51 (sayL bs ([⟨#[40]⟩] ++ bw))):=by show PrAt _ _ _ _; rw [sayL_app]; exact P_
  have S53:Hid (St PB v w v51 w50):=S38.out.trans S_;have G54:Hid (GP w50 PB):=G39.out.st S_;have B55:Hid (Bx w50 PB v51 (w.heap.size) #[.int .i64 x.k,.int .i64 x.v.1,.int .i64 x.v.2.1,.string x.v.2.2,.string x.tab,.string x.name,.slice a x.ks.length c] 55):=B40.out.st S_;have L56:Hid (SsS (fun b=>b<PB) w50 a x.ks):=SsS.stp L41.out S_;clear con49 P_ S_ f42 f43 f44 f45 f46 f47 f48 P37 S38 G39 B40 L41
  have con57:Calls Tryz.prog 57 #[.pointer (some ⟨PB,0,none⟩),.slice (some ⟨w50.heap.size,0,none⟩) 1 1] (w50.alloc (.cells #[.string ⟨#[41]⟩] 9)) (PEnds w50 PB v51 (sayL (sayL bs ([⟨#[40]⟩] ++ bw)) ([⟨#[41]⟩]))):=say_new [⟨#[41]⟩] P52.out (by rw [← sayL_app]; exact Hb.out) (by simp);go_wp2_with fail
  refine con57.mono ?_;rintro e w58 ⟨rfl,v59,P_,S_⟩;have P60:Hid (PrAt w58 PB v59 (sayL bs ([⟨#[40]⟩] ++ bw ++ [⟨#[41]⟩]))):=by show PrAt _ _ _ _; rw [sayL_app]; exact P_
  have S61:Hid (St PB v w v59 w58):=S53.out.trans S_;have G62:Hid (GP w58 PB):=G54.out.st S_;have B63:Hid (Bx w58 PB v59 (w.heap.size) #[.int .i64 x.k,.int .i64 x.v.1,.int .i64 x.v.2.1,.string x.v.2.2,.string x.tab,.string x.name,.slice a x.ks.length c] 55):=B55.out.st S_;have L64:Hid (SsS (fun b=>b<PB) w58 a x.ks):=SsS.stp L56.out S_;clear con57 P_ S_  P52 S53 G54 B55 L56;go_wp2_with fail
  go_end0
  exact ⟨rfl,v59,P60.out,S61.out⟩

theorem expr_of (x:SX) (bw:List ByteArray) (hB:BareAt bw x) (a:Option Addr) (c:Nat) {PB:Nat} {v:Value} {bs:List UInt8} {w:World} (hG:GP w PB) (hP:PrAt w PB v bs) (hk:SsS (fun b=>b<PB) w a x.ks) (hb:(sayL bs (exW 1 (levC x.k,bw))).length≤Lim):Calls Tryz.prog 92 #[.pointer (some ⟨PB,0,none⟩),.agg (sxA x a c)] w (PEnds w PB v (sayL bs (exW 1 (levC x.k,bw)))):=by
 have HBA:Hid (BareAt bw x):=hB;clear hB;have Hb:Hid _:=hb;clear hb;have hal:Below w.heap.size w (w.alloc (.cells #[.int .i64 x.k,.int .i64 x.v.1,.int .i64 x.v.2.1,.string x.v.2.2,.string x.tab,.string x.name,.slice a x.ks.length c] 55)):=(Below.refl _ _).alloc (Nat.le_refl _) _
 have B0:Hid (Bx (w.alloc (.cells #[.int .i64 x.k,.int .i64 x.v.1,.int .i64 x.v.2.1,.string x.v.2.2,.string x.tab,.string x.name,.slice a x.ks.length c] 55)) PB v w.heap.size #[.int .i64 x.k,.int .i64 x.v.1,.int .i64 x.v.2.1,.string x.v.2.2,.string x.tab,.string x.name,.slice a x.ks.length c] 55):=Bx.new hP #[.int .i64 x.k,.int .i64 x.v.1,.int .i64 x.v.2.1,.string x.v.2.2,.string x.tab,.string x.name,.slice a x.ks.length c] 55
 have P0:Hid (PrAt (w.alloc (.cells #[.int .i64 x.k,.int .i64 x.v.1,.int .i64 x.v.2.1,.string x.v.2.2,.string x.tab,.string x.name,.slice a x.ks.length c] 55)) PB v bs):=hP.next hal;have S0:Hid (St PB v w v (w.alloc (.cells #[.int .i64 x.k,.int .i64 x.v.1,.int .i64 x.v.2.1,.string x.v.2.2,.string x.tab,.string x.name,.slice a x.ks.length c] 55))):=St.of hal hP.lt;have G0:Hid (GP (w.alloc (.cells #[.int .i64 x.k,.int .i64 x.v.1,.int .i64 x.v.2.1,.string x.v.2.2,.string x.tab,.string x.name,.slice a x.ks.length c] 55)) PB):=hG.nx hal hP.lt
 have L00:Hid (SsS (fun b=>b<PB) (w.alloc (.cells #[.int .i64 x.k,.int .i64 x.v.1,.int .i64 x.v.2.1,.string x.v.2.2,.string x.tab,.string x.name,.slice a x.ks.length c] 55)) a x.ks):=SsS.next hal hk;clear hP hG hal hk;go_enter Tryz.func92,Tryz.ntmps92;go_upto_region 1 with fail
 generalize (w.alloc (.cells #[.int .i64 x.k,.int .i64 x.v.1,.int .i64 x.v.2.1,.string x.v.2.2,.string x.tab,.string x.name,.slice a x.ks.length c] 55))=w0 at *;have f1:w0.cell? ⟨w.heap.size,0,none⟩=some (.int .i64 x.k):=B0.out.c 0 rfl;have f2:w0.cell? ⟨w.heap.size,1,none⟩=some (.int .i64 x.v.1):=B0.out.c 1 rfl;have f3:w0.cell? ⟨w.heap.size,2,none⟩=some (.int .i64 x.v.2.1):=B0.out.c 2 rfl;have f4:w0.cell? ⟨w.heap.size,3,none⟩=some (.string x.v.2.2):=B0.out.c 3 rfl;have f5:w0.cell? ⟨w.heap.size,4,none⟩=some (.string x.tab):=B0.out.c 4 rfl
 have f6:w0.cell? ⟨w.heap.size,5,none⟩=some (.string x.name):=B0.out.c 5 rfl;have f7:w0.cell? ⟨w.heap.size,6,none⟩=some (.slice a x.ks.length c):=B0.out.c 6 rfl;have con8:Calls Tryz.prog 120 #[.pointer (some ⟨PB,0,none⟩),.int .i64 1,.agg (sxA x a c)] w0 (PEnds w0 PB v (sayL bs (exW 1 (levC x.k,bw)))):=exprAt_of 1 x bw HBA.out a c (G0.out) (P0.out) L00.out (Hb.out);go_wp2_with fail
 refine con8.mono ?_;rintro e w9 ⟨rfl,v10,P_,S_⟩;have P11:Hid (PrAt w9 PB v10 (sayL bs (exW 1 (levC x.k,bw)))):=P_;have S12:Hid (St PB v w v10 w9):=S0.out.trans S_;have G13:Hid (GP w9 PB):=G0.out.st S_;have B14:Hid (Bx w9 PB v10 (w.heap.size) #[.int .i64 x.k,.int .i64 x.v.1,.int .i64 x.v.2.1,.string x.v.2.2,.string x.tab,.string x.name,.slice a x.ks.length c] 55):=B0.out.st S_;have L15:Hid (SsS (fun b=>b<PB) w9 a x.ks):=SsS.stp L00.out S_;clear con8 P_ S_ f1 f2 f3 f4 f5 f6 f7 P0 S0 G0 B0 L00;go_wp2_with fail
 go_end0
 exact ⟨rfl,v10,P11.out,S12.out⟩
abbrev pd:Int × List ByteArray:=(0,[])
def behA (ps:List (Int × List ByteArray)) (ss:List ByteArray):Nat→List ByteArray
 | 0=>[]
 | i+1=>behA ps ss i ++ [ss.getD i eB] ++ exW 1 (ps.getD i pd)
def behW (ps:List (Int × List ByteArray)) (ss:List ByteArray):List ByteArray:=behA ps ss ps.length ++ [ss.getD ps.length eB]
theorem behA_le (bs:List UInt8) (ps:List (Int × List ByteArray)) (ss:List ByteArray) (i:Nat):∀ n,i≤n→(sayL bs (behA ps ss i)).length≤(sayL bs (behA ps ss n)).length
 | 0,h=>by rw [Nat.le_zero.1 h]; exact Nat.le_refl _
 | n+1,h=>by
  by_cases e:i=n+1
  ·rw [e]; exact Nat.le_refl _
  ·refine Nat.le_trans (behA_le bs ps ss i n (by omega)) ?_
   rw [behA,sayL_app,sayL_app]
   exact Nat.le_trans (sayL_len _ _) (sayL_len _ _)
/-- The kids, each with what it says. -/
def BareL (ps:List (Int × List ByteArray)) (l:List SX):Prop:=ps.length=l.length∧∀ (i:Nat) (h:i<l.length),∃ bw,ps.getD i pd=(levC l[i].k,bw)∧BareAt bw l[i]
theorem behind_of (l:List SX) (ps:List (Int × List ByteArray)) (hB:BareL ps l) (hl3:l.length≤1000) (a:Option Addr) (c g:Nat) (ss:List ByteArray) (hss:l.length<ss.length) {PB:Nat} {v:Value} {bs:List UInt8} {w:World} (hG:GP w PB) (hP:PrAt w PB v bs) (hk:SsS (fun b=>b<PB) w a l) (hx:Bx w PB v g (ss.map Value.string).toArray 9) (hb:(sayL bs (behW ps ss)).length≤Lim):Calls Tryz.prog 174 #[.pointer (some ⟨PB,0,none⟩),.slice a l.length c,.slice (some ⟨g,0,none⟩) ss.length ss.length] w (PEnds w PB v (sayL bs (behW ps ss))):=by
 have HBL:Hid (BareL ps l):=hB;have HX:Hid (Bx w PB v g (ss.map Value.string).toArray 9):=hx;have HG:Hid (GP w PB):=hG;have HP:Hid (PrAt w PB v bs):=hP;have HK:Hid (SsS (fun b=>b<PB) w a l):=hk;have hn:=hB.1;rw [behW] at hb ⊢;rw [hn] at hb ⊢;have HB:Hid (∀ j,j<l.length→(sayL bs (behA ps ss (j+1))).length≤Lim):=fun j hj=>Nat.le_trans (behA_le bs ps ss (j+1) l.length hj) (lea hb)
 have HT:Hid ((sayL bs (behA ps ss l.length ++ [ss.getD l.length eB])).length≤Lim):=hb;clear hB hx hG hP hk hb;go_enter Tryz.func174,Tryz.ntmps174;go_wp2_with fail
 go_loopw [10] (fun i wr=>∃ (j:Nat) (v':Value),j≤l.length∧i = .int .i64 j∧Hid (PrAt wr PB v' (sayL bs (behA ps ss j)))∧Hid (St PB v w v' wr)) (fun i _=>l.length - (RowKit.intOf i).toNat)
 case atStart=>exact ⟨0,v,Nat.zero_le _,rfl,HP,St.refl _ _ _⟩
 case round =>
  obtain ⟨j,v1,hj,rfl,hP1,hS1⟩:=hrel;have hG1:Hid (GP wr PB):=HG.out.st hS1.out;have hX1:Hid (Bx wr PB v1 g (ss.map Value.string).toArray 9):=HX.out.st hS1.out;by_cases hlt:j<l.length
  ·have hBj:=HB.out j hlt;obtain ⟨b1,o1,ai,ci,rfl,_,_,sv,kk⟩:=(SsS.stp HK.out hS1.out).elem hlt;obtain ⟨bw,hbw,hba⟩:=HBL.out.2 j hlt;rw [behA,hbw] at hBj;have hgs:ss.getD j eB=ss[j]:=by simp [List.getD,show j<ss.length by omega]
   rw [hgs] at hBj;have HBJ:Hid (behA ps ss (j+1)=behA ps ss j ++ [ss[j]] ++ exW 1 (levC l[j].k,bw)):=by show _=_; rw [behA,hbw,hgs]
   have y0:wr.cell? ⟨g,j,none⟩=some (.string ss[j]):=hX1.out.c j (by simp [show j<ss.length by omega]);have hjz:(j:Int)<(l.length:Int):=by omega
   have hjs:(j:Int)<(ss.length:Int):=by omega
   generalize ss[j]=s at *;generalize l[j]=x at *;have Hb:Hid _:=hBj;have HBA:Hid (BareAt bw x):=hba;have KK:Hid (SsS (fun b=>b<PB) wr ai x.ks):=kk;clear hBj hbw hba hgs kk;have z0:=sv.c0;have z1:=sv.c1;have z2:=sv.c2;have z3:=sv.c3;have z4:=sv.c4;have z5:=sv.c5;have z6:=sv.c6;clear sv;have hal:Below wr.heap.size wr (wr.alloc (.cells (sxA x ai ci) 55)):=(Below.refl _ _).alloc (Nat.le_refl _) _;go_upto_region 3 with fail
   have B0:Hid (Bx (wr.alloc (.cells (sxA x ai ci) 55)) PB v1 wr.heap.size (sxA x ai ci) 55):=Bx.new hP1.out (sxA x ai ci) 55;have P0:Hid (PrAt (wr.alloc (.cells (sxA x ai ci) 55)) PB v1 (sayL bs (behA ps ss j))):=hP1.out.next hal;have S0:Hid (St PB v w v1 (wr.alloc (.cells (sxA x ai ci) 55))):=hS1.out.trans (St.of hal hP1.out.lt);have G0:Hid (GP (wr.alloc (.cells (sxA x ai ci) 55)) PB):=hG1.out.nx hal hP1.out.lt;have L00:Hid (SsS (fun b=>b<PB) (wr.alloc (.cells (sxA x ai ci) 55)) ai x.ks):=SsS.next hal KK.out
   have y1:(wr.alloc (.cells (sxA x ai ci) 55)).cell? ⟨g,j,none⟩=some (.string s):=(hal.cell (p:=⟨g,j,none⟩) (cell_lt y0)).trans y0;clear hP1 hS1 hG1 hX1 KK y0 hal z0 z1 z2 z3 z4 z5 z6;generalize (wr.alloc (.cells (sxA x ai ci) 55))=w0 at *;have con1:Calls Tryz.prog 57 #[.pointer (some ⟨PB,0,none⟩),.slice (some ⟨w0.heap.size,0,none⟩) 1 1] (w0.alloc (.cells #[.string s] 9)) (PEnds w0 PB v1 (sayL (sayL bs (behA ps ss j)) ([s]))):=say_new [s] P0.out (by rw [← sayL_app]; exact lea (Hb.out)) (by simp);go_wp2_with fail
   refine con1.mono ?_;rintro e w2 ⟨rfl,v3,P_,S_⟩;have P4:Hid (PrAt w2 PB v3 (sayL bs (behA ps ss j ++ [s]))):=by show PrAt _ _ _ _; rw [sayL_app]; exact P_
   have S5:Hid (St PB v w v3 w2):=S0.out.trans S_;have G6:Hid (GP w2 PB):=G0.out.st S_;have B7:Hid (Bx w2 PB v3 (wr.heap.size) (sxA x ai ci) 55):=B0.out.st S_;have L8:Hid (SsS (fun b=>b<PB) w2 ai x.ks):=SsS.stp L00.out S_;clear con1 P_ S_ y1 P0 S0 G0 B0 L00;have f9:w2.cell? ⟨wr.heap.size,0,none⟩=some (.int .i64 x.k):=B7.out.c 0 rfl;have f10:w2.cell? ⟨wr.heap.size,1,none⟩=some (.int .i64 x.v.1):=B7.out.c 1 rfl;have f11:w2.cell? ⟨wr.heap.size,2,none⟩=some (.int .i64 x.v.2.1):=B7.out.c 2 rfl;have f12:w2.cell? ⟨wr.heap.size,3,none⟩=some (.string x.v.2.2):=B7.out.c 3 rfl
   have f13:w2.cell? ⟨wr.heap.size,4,none⟩=some (.string x.tab):=B7.out.c 4 rfl;have f14:w2.cell? ⟨wr.heap.size,5,none⟩=some (.string x.name):=B7.out.c 5 rfl;have f15:w2.cell? ⟨wr.heap.size,6,none⟩=some (.slice ai x.ks.length ci):=B7.out.c 6 rfl;have con16:Calls Tryz.prog 92 #[.pointer (some ⟨PB,0,none⟩),.agg (sxA x ai ci)] w2 (PEnds w2 PB v3 (sayL (sayL bs (behA ps ss j ++ [s])) (exW 1 (levC x.k,bw)))):=expr_of x bw HBA.out ai ci (G6.out) (P4.out) L8.out (by rw [← sayL_app]; exact Hb.out);go_wp2_with fail
   refine con16.mono ?_;rintro e w17 ⟨rfl,v18,P_,S_⟩;have P19:Hid (PrAt w17 PB v18 (sayL bs (behA ps ss j ++ [s] ++ exW 1 (levC x.k,bw)))):=by show PrAt _ _ _ _; rw [sayL_app]; exact P_
   have S20:Hid (St PB v w v18 w17):=S5.out.trans S_;have G21:Hid (GP w17 PB):=G6.out.st S_;have B22:Hid (Bx w17 PB v18 (wr.heap.size) (sxA x ai ci) 55):=B7.out.st S_;have L23:Hid (SsS (fun b=>b<PB) w17 ai x.ks):=SsS.stp L8.out S_;clear con16 P_ S_ f9 f10 f11 f12 f13 f14 f15 P4 S5 G6 B7 L8;have PZ:Hid (PrAt w17 PB v18 (sayL bs (behA ps ss (j+1)))):=by show PrAt _ _ _ _; rw [HBJ.out]; exact P19.out
   clear P19;go_wp2_with fail
   go_roundw
   case rel=>exact ⟨j+1,v18,by omega,by go_num,PZ,S20⟩
   case measure=>simp [RowKit.intOf]; omega
  ·have ej:j=l.length:=by omega
   subst ej;have hgs:ss.getD l.length eB=ss[l.length]:=by simp [List.getD,hss]
   have Hb:Hid _:=HT.out;rw [hgs] at Hb;have y0:wr.cell? ⟨g,l.length,none⟩=some (.string ss[l.length]):=hX1.out.c l.length (by simp [hss]);have hjs:(l.length:Int)<(ss.length:Int):=by omega
   generalize ss[l.length]=s at *;have HGS:Hid (ss.getD l.length eB=s):=hgs;clear hgs HT hX1;have con24:Calls Tryz.prog 57 #[.pointer (some ⟨PB,0,none⟩),.slice (some ⟨wr.heap.size,0,none⟩) 1 1] (wr.alloc (.cells #[.string s] 9)) (PEnds wr PB v1 (sayL (sayL bs (behA ps ss l.length)) ([s]))):=say_new [s] hP1.out (by rw [← sayL_app]; exact Hb.out) (by simp);go_wp2_with fail
   refine con24.mono ?_;rintro e w25 ⟨rfl,v26,P_,S_⟩;have P27:Hid (PrAt w25 PB v26 (sayL bs (behA ps ss l.length ++ [s]))):=by show PrAt _ _ _ _; rw [sayL_app]; exact P_
   have S28:Hid (St PB v w v26 w25):=hS1.out.trans S_;have G29:Hid (GP w25 PB):=hG1.out.st S_;clear con24 P_ S_ y0 hP1 hS1 hG1;go_wp2_with fail
   go_end0
   exact ⟨rfl,v26,by rw [HGS.out]; exact P27.out,S28.out⟩
end Go.Proofs.YtoknmnngaackkaaGreatDoor
