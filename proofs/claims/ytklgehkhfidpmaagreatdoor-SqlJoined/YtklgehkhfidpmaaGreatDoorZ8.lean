/- Together: BX, CD, CC, CE, CF, CG, CH, CI. -/
import Derived.Deep.LoopGhost
import Derived.Deep.MidRow
import Derived.Deep.AppendSrc
import Derived.Test.YtklgehkhfidpmaaGreatDoorZ7
import Derived.Test.YtklgehkhfidpmaaGreatDoorZ0
import Derived.Test.YtklgehkhfidpmaaGreatDoorZ3
import Derived.Test.YtklgehkhfidpmaaGreatDoorZ4
/- Read. -/
namespace Go.Proofs.YtklgehkhfidpmaaGreatDoor
open Go.RowKit Go.Lib Go.Shelf
set_option maxRecDepth 100000
set_option maxHeartbeats 8000000

def listOf (r:Except Er (List Stm)):List Stm:=match r with | .ok l=>l | .error _=>[]
theorem CEnds2.all {w:World} {OB:Nat} {r:Except Er (List Stm)} {w':World} (h:CEnds2 w OB r w'):∃ a cap,w'.heap[OB]? = some (.cells #[.slice a (listOf r).length cap] 23 (0,0))∧LsE En16 16 (fun b=>w.heap.size≤b) w' a (listOf r):=by
 rcases r with c | l
 ·exact ⟨none,0,h.2,.inl rfl⟩
 ·exact h.2
theorem Read_at (s:ByteArray) {w:World} (hg:Gl w):Calls Tryz.prog 7 #[.string s] w fun e w'=>Below w.heap.size w w'∧∃ a cap,e = .returned (.tuple #[.slice a (listOf (readP s)).length cap,.agg #[.int .i64 (errOf (readP s)).1,.int .i64 (errOf (readP s)).2]])∧LsE En16 16 (fun b=>w.heap.size≤b) w' a (listOf (readP s)):=by
 have hmf:∀ (fn:Fn) (first cap:Array Value) (w:World),(Instr.makeFunc fn first cap).run Tryz.prog w = .ok (.func fn first cap) w:=fun _ _ _ _=>rfl
 have hal1:Below w.heap.size w (w.alloc (.cells #[.string s] 9)):=(Below.refl _ _).alloc (Nat.le_refl _) _
 have Q1:=heap_new w #[.string s] 9
 have e1:(w.alloc (.cells #[.string s] 9)).heap.size=w.heap.size+1:=by simp
 have hal2:Below (w.alloc (.cells #[.string s] 9)).heap.size (w.alloc (.cells #[.string s] 9)) ((w.alloc (.cells #[.string s] 9)).alloc (.cells #[.slice none 0 0] 23)):=(Below.refl _ _).alloc (Nat.le_refl _) _
 have Q2:=heap_new (w.alloc (.cells #[.string s] 9)) #[.slice none 0 0] 23
 have e2:((w.alloc (.cells #[.string s] 9)).alloc (.cells #[.slice none 0 0] 23)).heap.size=w.heap.size+2:=by simp
 have hal3:Below ((w.alloc (.cells #[.string s] 9)).alloc (.cells #[.slice none 0 0] 23)).heap.size ((w.alloc (.cells #[.string s] 9)).alloc (.cells #[.slice none 0 0] 23)) (((w.alloc (.cells #[.string s] 9)).alloc (.cells #[.slice none 0 0] 23)).alloc (.cells #[.int .i64 0,.int .i64 0] 26)):=(Below.refl _ _).alloc (Nat.le_refl _) _
 have Q3:=heap_new ((w.alloc (.cells #[.string s] 9)).alloc (.cells #[.slice none 0 0] 23)) #[.int .i64 0,.int .i64 0] 26
 have QS:=((hal3.block _ (by omega)).trans ((hal2.block _ (lt_of_heap Q1)).trans Q1))
 have QO:=(hal3.block _ (lt_of_heap Q2)).trans Q2
 rw [e1] at QO
 have QF:=Q3
 rw [e2] at QF
 have hal:=chain hal1 (chain hal2 hal3)
 have HG:Hid _:=hg.next hal
 clear hal1 hal2 hal3 Q1 Q2 Q3 e1 e2 hg
 generalize hM:readP s=M
 have HM:Hid (readP s=M):=hM
 generalize hl:listOf M=l
 generalize hr:errOf M=r
 have HLl:Hid (listOf M=l):=hl
 have HRr:Hid (errOf M=r):=hr
 clear hM hl hr
 go_enter Tryz.func7,Tryz.ntmps7
 go_upto_region 1 with fail
 generalize ((w.alloc (.cells #[.string s] 9)).alloc (.cells #[.slice none 0 0] 23)).alloc (.cells #[.int .i64 0,.int .i64 0] 26)=w1 at *
 have con:=caught_r s HG.out QS QO
 rw [HM.out,HRr.out] at con
 have hl1:=lt_of_heap QF
 clear HG QS
 go_wp2_with fail
 refine con.mono ?_
 rintro e w2 ⟨rfl,hE⟩
 have hx:=hE.1
 have hall:=hE.all
 rw [HLl.out] at hall
 obtain ⟨a,cap,QO2,hls⟩:=hall
 have QF2:=(hx.2 _ hl1 (by omega)).trans QF
 have HL:Hid (LsE En16 16 (fun b=>w1.heap.size≤b) w2 a l):=hls
 have hb2:Below w.heap.size w w2:=hal.trans (hx.1.mono (by omega))
 obtain ⟨c0,c1⟩:=cells2 QF2
 obtain ⟨f0,f1⟩:=froz2 QF2
 clear con hE hls
 go_upto_region 2 with fail
 have QE:=st2_heap QF2 (.int .i64 r.1) (.int .i64 r.2)
 have hbE:=st2_b (g:=w.heap.size+2) hb2 (by omega) (.int .i64 r.1) (.int .i64 r.2)
 have hkE:Keeps1 (w.heap.size+2) w2 ((w2.setCell ⟨w.heap.size+2,0,none⟩ (.int .i64 r.1)).setCell ⟨w.heap.size+2,1,none⟩ (.int .i64 r.2)):=((Keeps1.refl _ _).set 0 _).set 1 _
 have QOE:=(hkE.2 _ (lt_of_heap QO2) (by omega)).trans QO2
 have HLE:Hid (LsE En16 16 (fun b=>w1.heap.size≤b) ((w2.setCell ⟨w.heap.size+2,0,none⟩ (.int .i64 r.1)).setCell ⟨w.heap.size+2,1,none⟩ (.int .i64 r.2)) a l):=HL.out.keep en16 (hkE.k (by show ¬ _≤w.heap.size+2; omega))
 generalize ((w2.setCell ⟨w.heap.size+2,0,none⟩ (.int .i64 r.1)).setCell ⟨w.heap.size+2,1,none⟩ (.int .i64 r.2))=w3 at *
 clear c0 c1 f0 f1 QF2 QO2 hkE HL
 have hCC:∀ W W':World,W.heap[w.heap.size+1]? = some (.cells #[.slice a l.length cap] 23 (0,0))∧W.heap[w.heap.size+2]? = some (.cells #[.int .i64 r.1,.int .i64 r.2] 26 (0,0))→Below W.heap.size W W'→W'.heap[w.heap.size+1]? = some (.cells #[.slice a l.length cap] 23 (0,0))∧W'.heap[w.heap.size+2]? = some (.cells #[.int .i64 r.1,.int .i64 r.2] 26 (0,0)):=fun W W' h hb=>⟨(hb.block _ (lt_of_heap h.1)).trans h.1,(hb.block _ (lt_of_heap h.2)).trans h.2⟩
 have hdr:Below w3.heap.size w3 w3.drew:=(Below.refl _ _).drew
 have CW:=hCC _ _ ⟨QOE,QE⟩ hdr
 have hl3:=lt_of_heap QE
 refine wp_region_z (fun W=>W.heap[w.heap.size+1]? = some (.cells #[.slice a l.length cap] 23 (0,0))∧W.heap[w.heap.size+2]? = some (.cells #[.int .i64 r.1,.int .i64 r.2] 26 (0,0))) 3 (by kernel_rfl) ?_
 refine wpZ_take hCC (some 6) (i:=0) (v:=.slice a l.length cap) rfl rfl (by kernel_rfl) (by kernel_rfl) (by kernel_rfl) (by kernel_rfl) (by kernel_rfl) rfl (fun _ _ _ h=>h) (Or.inl ⟨rfl,fun n hn=>?_⟩) (fun _=>CW) ?_
 ·have c0:=cell_of (i:=0) hn.1 rfl
  go_simp
 simp only [Act.put,pA,pB,pC]
 refine wpZ_take hCC (some 7) (i:=1) (v:=.agg #[.int .i64 r.1,.int .i64 r.2]) rfl rfl (by kernel_rfl) (by kernel_rfl) (by kernel_rfl) (by kernel_rfl) (by kernel_rfl) rfl (fun _ _ _ h=>h) (Or.inl ⟨rfl,fun n hn=>?_⟩) (fun _=>CW) ?_
 ·obtain ⟨c0,c1⟩:=cells2 hn.2
  go_simp
 simp only [Act.put,pA,pB,pC]
 refine wpZ_step (rs:=[2]) (by kernel_rfl) (by simp) ?_
 intro w5 hb5 jj hj
 obtain rfl:jj=2:=by simpa using hj
 clear hj
 have C5:=hCC _ _ CW hb5
 have D5:=chain hdr hb5
 have c0:=cell_of (i:=0) C5.1 rfl
 have f0:=frozen_of_row w5 (w.heap.size+1) 0 _ _ C5.1
 have O6:=heap_setCell_same w5 (w.heap.size+1) 0 _ _ (.slice a l.length cap) C5.1
 have k6:Keeps1 (w.heap.size+1) w5 ((w5.setCell ⟨w.heap.size+1,0,none⟩ (.slice a l.length cap))):=(Keeps1.refl _ _).set 0 _
 have F6:=(k6.2 _ (lt_of_heap C5.2) (by omega)).trans C5.2
 have hb6:Below w.heap.size w ((w5.setCell ⟨w.heap.size+1,0,none⟩ (.slice a l.length cap))):=(chain hbE D5).setCell (p:=⟨w.heap.size+1,0,none⟩) (by show _≤w.heap.size+1; omega) _
 have HL6:Hid (LsE En16 16 (fun b=>w1.heap.size≤b) ((w5.setCell ⟨w.heap.size+1,0,none⟩ (.slice a l.length cap))) a l):=(HLE.out.keep en16 (Keeps'.of D5)).keep en16 (k6.k (by show ¬ _≤w.heap.size+1; omega))
 refine wpOp_step rfl (fun K hK=>?_)
 go_simp
 generalize ((w5.setCell ⟨w.heap.size+1,0,none⟩ (.slice a l.length cap)))=w5' at *
 refine hK _ _ ⟨fun _=>⟨O6,F6⟩,?_⟩
 clear hK K c0 f0
 refine wpZ_step (rs:=[3]) (by kernel_rfl) (by simp) ?_
 intro w6 hb7 jj hj
 obtain rfl:jj=3:=by simpa using hj
 clear hj
 have F7:=(hb7.block _ (lt_of_heap F6)).trans F6
 have O7:=(hb7.block _ (lt_of_heap O6)).trans O6
 have QE7:=st2_heap F7 (.int .i64 r.1) (.int .i64 r.2)
 have hbE7:=st2_b (g:=w.heap.size+2) (chain hb6 hb7) (by omega) (.int .i64 r.1) (.int .i64 r.2)
 have k7:Keeps1 (w.heap.size+2) w6 ((w6.setCell ⟨w.heap.size+2,0,none⟩ (.int .i64 r.1)).setCell ⟨w.heap.size+2,1,none⟩ (.int .i64 r.2)):=((Keeps1.refl _ _).set 0 _).set 1 _
 have OE:=(k7.2 _ (lt_of_heap O7) (by omega)).trans O7
 have HL7:Hid (LsE En16 16 (fun b=>w1.heap.size≤b) ((w6.setCell ⟨w.heap.size+2,0,none⟩ (.int .i64 r.1)).setCell ⟨w.heap.size+2,1,none⟩ (.int .i64 r.2)) a l):=(HL6.out.keep en16 (Keeps'.of hb7)).keep en16 (k7.k (by show ¬ _≤w.heap.size+2; omega))
 obtain ⟨c0,c1⟩:=cells2 F7
 obtain ⟨f0,f1⟩:=froz2 F7
 refine wpOp_step rfl (fun K hK=>?_)
 go_simp
 generalize ((w6.setCell ⟨w.heap.size+2,0,none⟩ (.int .i64 r.1)).setCell ⟨w.heap.size+2,1,none⟩ (.int .i64 r.2))=w7 at *
 refine hK _ _ ⟨fun h=>by simp at h,?_⟩
 clear hK K
 refine wpZ_done (by kernel_rfl) ?_
 intro w8 hb8
 have O8:=(hb8.block _ (lt_of_heap OE)).trans OE
 have F8:=(hb8.block _ (lt_of_heap QE7)).trans QE7
 have o0:w8.cell? ⟨w.heap.size+1,0,none⟩=some (.slice a l.length cap):=cell_of (i:=0) O8 rfl
 obtain ⟨y0,y1⟩:=cells2 F8
 have HL8:Hid (LsE En16 16 (fun b=>w.heap.size≤b) w8 a l):=(HL7.out.keep en16 (Keeps'.of hb8)).mono en16 (fun b h _=>by have:w1.heap.size≤b:=h; show w.heap.size≤b; omega)
 go_wp2_with fail
 exact bodyPost_ret (v:=.tuple #[.slice a l.length cap,.agg #[.int .i64 r.1,.int .i64 r.2]]) (by simp [results,Tryz.results7,go_sem,o0,y0,y1]) rfl ⟨chain hbE7 hb8,a,cap,rfl,HL8.out⟩
end Go.Proofs.YtklgehkhfidpmaaGreatDoor
namespace Go.Proofs.YtklgehkhfidpmaaGreatDoor
set_option maxRecDepth 100000
set_option maxHeartbeats 1000000

inductive BdX:SX→Prop
 | mk {k:Int} {v:Vl} {t n:ByteArray} {ks:List SX}:ks.length≤1000→(∀ y ∈ ks,BdX y)→BdX (.mk k v t n ks)
theorem BdX.ks {x:SX} (h:BdX x):x.ks.length≤1000∧∀ y ∈ x.ks,BdX y:=by cases h with | mk h1 h2=>exact ⟨h1,h2⟩
theorem bdx_0:BdX sx0:=.mk (by decide) (by simp)
theorem bdx_nd {k:Int} {l:List SX} (h:l.length≤1000) (h2:∀ y ∈ l,BdX y):BdX (nd k l):=.mk h h2
def BdL {α:Type} (P:α→Prop) (l:List α):Prop:=l.length≤1000∧∀ x ∈ l,P x
abbrev Any {α:Type} (_:α):Prop:=True
structure BdSel (s:Sel):Prop where
 items:BdL (fun x:Itm=>BdX x.1) s.items
 sources:BdL (fun x:Src=>BdX x.on) s.sources
 wher:BdX s.wher
 having:BdX s.having
 group:BdL BdX s.group
structure BdQ (q:Qry):Prop where
 parts:BdL BdSel q.parts
 ops:q.ops.length≤1000
 order:BdL BdX q.order
structure BdS (s:Stm):Prop where
 cols:s.cols.length≤1000
 query:BdQ s.query
 rows:BdL (fun r:List Vl=>r.length≤1000) s.rows
 wher:BdX s.wher
theorem bdL_nil {α:Type} {P:α→Prop}:BdL P []:=⟨by simp,by simp⟩
theorem bdq_0:BdQ qry0:=⟨bdL_nil,by simp [qry0],bdL_nil⟩
/-- All that is told is so. -/
structure Al2 {α:Type} (P:α→Prop) (f:List Tk→PR α):Prop where
 h:∀ {ts x r},f ts = .ok (x,r)→P x
section
variable {α β:Type} {P:α→Prop} {Q:β→Prop}
theorem Al2.err {g:List Tk→Er}:Al2 P (fun ts=>.error (g ts)):=⟨fun h=>by cases h⟩
theorem Al2.ok {g:List Tk→α} {p:List Tk→List Tk} (h:∀ ts,P (g ts)):Al2 P (fun ts=>.ok (g ts,p ts)):=⟨fun H=>by cases H; exact h _⟩
theorem Al2.one {x:α} (h:P x):Al2 P (fun ts=>.ok (x,ts)):=⟨fun H=>by cases H; exact h⟩
theorem Al2.pass {f:List Tk→PR α} {p:List Tk→List Tk} (h:Al2 P f):Al2 P (fun ts=>f (p ts)):=⟨fun H=>h.h H⟩
theorem Al2.bnd {f:List Tk→PR β} {k:β→List Tk→PR α} (h:Al2 Q f) (hk:∀ x,Q x→Al2 P (k x)):Al2 P (fun ts=>Go.Proofs.YtklgehkhfidpmaaGreatDoor.bnd (f ts) k):=⟨fun {ts x r} H=>by
 rcases hf:f ts with e | ⟨y,r1⟩
 ·rw [hf] at H; cases H
 ·rw [hf] at H; exact (hk y (h.h hf)).h H⟩
theorem Al2.any {f:List Tk→PR α}:Al2 Any f:=⟨fun _=>trivial⟩
theorem Al2.ifc {c:List Tk→Prop} [DecidablePred c] {f g:List Tk→PR α} (hf:Al2 P f) (hg:Al2 P g):Al2 P (fun ts=>if c ts then f ts else g ts):=⟨fun {ts x r} H=>by
 split at H
 ·exact hf.h H
 ·exact hg.h H⟩
theorem Al2.of {f g:List Tk→PR α} (h:∀ ts,f ts=g ts) (hg:Al2 P g):Al2 P f:=⟨fun {ts _x _r} H=>hg.h ((h ts) ▸ H)⟩
end
theorem bd_isNull {x:SX} (h:BdX x):Al2 BdX (isNullP x):=by
 refine ⟨fun {ts y r} H=>?_⟩
 unfold isNullP at H
 refine (Al2.bnd (f:=fun ts=>mustP [⟨#[110,117,108,108]⟩] ts) (k:=fun _ r=>.ok (if isP ⟨#[110,111,116]⟩ ts then nd 3 [nd 16 [x]] else nd 16 [x],r)) (Q:=Any) Al2.any (fun _ _=>Al2.one ?_)).h H
 have h1:BdX (nd 16 [x]):=bdx_nd (by simp) (by simpa using h)
 split
 ·exact bdx_nd (by simp) (by simpa using h1)
 ·exact h1
theorem bd_colName:Al2 BdX columnNameP:=.of (fun _=>rfl) (Al2.bnd (Q:=Any) .any fun _ _=>Al2.ifc (Al2.bnd (f:=fun r=>nameP (passP r)) (Q:=Any) .any fun _ _=>Al2.one <| .mk (by simp) (by simp)) (Al2.one <| .mk (by simp) (by simp)))
structure BdE (n:Nat):Prop where
 expr:∀ o,Al2 BdX (exprP n o)
 level:∀ l o,Al2 BdX (levelP n l o)
 chain:∀ l o,Al2 BdX (chainP n l o)
 loop:∀ l o x,BdX x→Al2 BdX (loopP n l o x)
 denied:∀ o,Al2 BdX (deniedP n o)
 compared:∀ o,Al2 BdX (comparedP n o)
 piece:∀ o,Al2 BdX (pieceP n o)
 behind:∀ o l,l.length≤5→Al2 (BdL BdX) (behindP n o l)
 exprs:∀ o l acc,l.length+acc.length≤5→(∀ x ∈ acc,BdX x)→Al2 (BdL BdX) (exprsP n o l acc)
 agg:∀ k o,Al2 BdX (aggP n k o)
theorem bd_one {k:Int} {x:SX} (h:BdX x):BdX (nd k [x]):=bdx_nd (by simp) (by simpa using h)
theorem bd_two {k:Int} {x y:SX} (h:BdX x) (h2:BdX y):BdX (nd k [x,y]):=bdx_nd (by simp) (by simpa using ⟨h,h2⟩)
theorem bdE:∀ n,BdE n
 | 0=>by
  constructor <;> intros
  ·exact .of (fun _=>by rw [exprP]) (.err (g:=fun _=>(-1,0)))
  ·exact .of (fun _=>by rw [levelP]) (.err (g:=fun _=>(-1,0)))
  ·exact .of (fun _=>by rw [chainP]) (.err (g:=fun _=>(-1,0)))
  ·exact .of (fun _=>by rw [loopP]) (.err (g:=fun _=>(-1,0)))
  ·exact .of (fun _=>by rw [deniedP]) (.err (g:=fun _=>(-1,0)))
  ·exact .of (fun _=>by rw [comparedP]) (.err (g:=fun _=>(-1,0)))
  ·exact .of (fun _=>by rw [pieceP]) (.err (g:=fun _=>(-1,0)))
  ·exact .of (fun _=>by rw [behindP]) (.err (g:=fun _=>(-1,0)))
  ·exact .of (fun _=>by rw [exprsP]) (.err (g:=fun _=>(-1,0)))
  ·exact .of (fun _=>by rw [aggP]) (.err (g:=fun _=>(-1,0)))
 | n+1=>by
  have ih:=bdE n
  constructor
  ·intro o; exact .of (fun _=>by rw [exprP]) (Al2.ifc (c:=fun _=>o+1 > 100) .err (ih.chain _ _))
  ·intro l o; exact .of (fun _=>by rw [levelP]) (Al2.ifc (c:=fun _=>l=3) (ih.denied _) (Al2.ifc (c:=fun _=>l=8) (ih.piece _) (ih.chain _ _)))
  ·intro l o; exact .of (fun _=>by rw [chainP]) (Al2.bnd (ih.level _ _) fun x hx=>ih.loop _ _ _ hx)
  ·intro l o x hx
   refine ⟨fun {ts y r} H=>?_⟩
   rw [loopP] at H
   split at H
   ·cases H; exact hx
   ·exact (Al2.bnd (f:=fun ts=>levelP n (l+1) o (signP l ts).2) (k:=fun y r=>loopP n l o (nd (signP l ts).1 [x,y]) r) (ih.level _ _).pass (fun y hy=>ih.loop _ _ _ (bd_two hx hy))).h H
  ·intro o
   refine ⟨fun {ts y r} H=>?_⟩
   rw [deniedP] at H
   exact (Al2.ifc (c:=fun ts=>isP ⟨#[110,111,116]⟩ ts=true) (f:=fun ts=>bnd (if o+1 > 100 then .error (4,atP (passP ts)) else deniedP n (o+1) (passP ts)) fun x r=>.ok (nd 3 [x],r)) (g:=fun ts=>comparedP n o ts) (Al2.bnd (f:=fun ts=>if o+1 > 100 then .error (4,atP (passP ts)) else deniedP n (o+1) (passP ts)) (Al2.ifc (c:=fun _=>o+1 > 100) .err (ih.denied _).pass) fun x hx=>Al2.one <| bd_one hx) (ih.compared _)).h H
  ·intro o
   refine ⟨fun {ts y r} H=>?_⟩
   rw [comparedP] at H
   refine (Al2.bnd (f:=fun ts=>chainP n 5 o ts) (ih.chain _ _) (fun x hx=>?_)).h H
   refine Al2.ifc (bd_isNull hx).pass ⟨fun {ts y r} H=>?_⟩
   split at H
   ·cases H; exact hx
   ·exact (Al2.bnd (f:=fun r=>chainP n 5 o (signP 4 r).2) (k:=fun y r2=>.ok (nd (signP 4 ts).1 [x,y],r2)) (ih.chain _ _).pass (fun y hy=>Al2.one <| bd_two hx hy)).h H
  ·intro o
   exact .of (fun _=>by rw [pieceP]) (Al2.ifc (Al2.bnd (Q:=Any) .any fun _ _=>Al2.one <| .mk (by simp) (by simp)) (Al2.ifc (Al2.bnd (f:=fun ts=>exprP n o (passP ts)) (ih.expr _).pass fun x hx=>Al2.bnd (Q:=Any) .any fun _ _=>Al2.one <| hx) (Al2.ifc (Al2.bnd (f:=fun ts=>behindP n o _ (passP ts)) (ih.behind _ _ (by simp)).pass fun x hx=>Al2.one <| bdx_nd hx.1 hx.2) (Al2.ifc (Al2.bnd (f:=fun ts=>behindP n o _ (passP ts)) (ih.behind _ _ (by simp)).pass fun x hx=>Al2.one <| bdx_nd hx.1 hx.2) (Al2.ifc (ih.agg _ _).pass (Al2.ifc (ih.agg _ _).pass (Al2.ifc (ih.agg _ _).pass (Al2.ifc (ih.agg _ _).pass bd_colName))))))))
  ·intro o l hl
   cases l with
   | nil=>exact .of (fun _=>by rw [behindP]) (.err (g:=fun _=>(-1,0)))
   | cons s l=>exact .of (fun _=>by rw [behindP]) (Al2.bnd (Q:=Any) .any fun _ _=>ih.exprs _ _ _ (by simp at hl ⊢; omega) (by simp))
  ·intro o l acc hl ha
   cases l with
   | nil=>exact .of (fun _=>by rw [exprsP]) (Al2.one <| ⟨by simp at hl; omega,ha⟩)
   | cons s l=>exact .of (fun _=>by rw [exprsP]) (Al2.bnd (ih.expr _) fun x hx=>Al2.bnd (Q:=Any) .any fun _ _=>ih.exprs _ _ _ (by simp at hl ⊢; omega) (fun y hy=>by rcases List.mem_append.1 hy with h | h; exact ha y h; simp at h; subst h; exact hx))
  ·intro k o
   exact .of (fun _=>by rw [aggP]) (Al2.bnd (Q:=Any) .any fun _ _=>Al2.ifc (c:=fun ts=>k=20∧isP ⟨#[42]⟩ ts=true) (Al2.bnd (f:=fun r=>mustP [⟨#[41]⟩] (passP r)) (Q:=Any) .any fun _ _=>Al2.one <| bdx_nd (by simp) (by simp)) (Al2.bnd (ih.expr _) fun x hx=>Al2.bnd (Q:=Any) .any fun _ _=>Al2.one <| bd_one hx))
theorem bd_eP:Al2 BdX eP:=(bdE exF).expr 0
theorem bd_com {α:Type} {P:α→Prop} {one:List Tk→PR α} (h:Al2 P one) {most:Int} (hm:most≤1000):∀ n acc,(acc.length:Int)≤1000→(∀ x ∈ acc,P x)→Al2 (BdL P) (comLoopP one most n acc)
 | 0,acc,_,_=>.of (fun _=>by rw [comLoopP]) (.err (g:=fun _=>(-1,0)))
 | n+1,acc,hl,ha=>by
  refine ⟨fun {ts y r} H=>?_⟩
  rw [comLoopP] at H
  split at H
  ·split at H
   ·cases H
   ·rename_i hlt
    exact (Al2.bnd (f:=fun ts=>one (passP ts)) h.pass (fun x hx=>bd_com h hm n _ (by simp; omega) (fun y hy=>by rcases List.mem_append.1 hy with h | h; exact ha y h; simp at h; subst h; exact hx))).h H
  ·cases H; exact ⟨by omega,ha⟩
theorem bd_commas {α:Type} {P:α→Prop} {one:List Tk→PR α} (h:Al2 P one) {most:Int} (hm:most≤1000) (n:Nat):Al2 (BdL P) (commasP one most n):=.of (fun _=>rfl) (Al2.bnd h fun x hx=>bd_com h hm n [x] (by simp) (by simpa using hx))
theorem bd_exprBehind (s:ByteArray):Al2 (fun x:Bool × SX=>BdX x.2) (exprBehindP s):=.of (fun _=>rfl) (Al2.ifc (Al2.bnd (f:=fun ts=>eP (passP ts)) bd_eP.pass fun _x hx=>Al2.one <| hx) (Al2.one <| bdx_0))
theorem bd_item:Al2 (fun x:Itm=>BdX x.1) itemP:=.of (fun _=>rfl) (Al2.bnd bd_eP fun _x hx=>Al2.bnd (Q:=Any) .any fun _ _=>Al2.one <| hx)
theorem bd_source (k:Int):Al2 (fun x:Src=>BdX x.on) (sourceP k):=.of (fun _=>rfl) (Al2.bnd (Q:=Any) .any fun _ _=>Al2.bnd (Q:=Any) .any fun _ _=>Al2.one <| bdx_0)
theorem bd_srcLoop:∀ n acc,(acc.length:Int)≤1000→(∀ x ∈ acc,BdX x.on)→Al2 (BdL fun x:Src=>BdX x.on) (sourcesLoopP n acc)
 | 0,acc,_,_=>.of (fun _=>by rw [sourcesLoopP]) (.err (g:=fun _=>(-1,0)))
 | n+1,acc,hl,ha=>.of (fun _=>by rw [sourcesLoopP]) (Al2.bnd (Q:=Any) .any fun kind _=>by
  by_cases hlt:(acc.length:Int) ≥ 4
  ·exact Al2.ifc (c:=fun _=>kind=0) (Al2.one <| ⟨by omega,ha⟩) (.of (fun _=>if_pos hlt) (.err (g:=fun r=>(5,atP r))))
  ·exact Al2.ifc (c:=fun _=>kind=0) (Al2.one <| ⟨by omega,ha⟩) (.of (fun _=>if_neg hlt) (Al2.bnd (Q:=Any) .any fun s _=>Al2.bnd (Q:=Any) .any fun _ _=>Al2.bnd bd_eP fun x hx=>bd_srcLoop n _ (by simp; omega) (fun y hy=>by rcases List.mem_append.1 hy with h | h; exact ha y h; simp at h; subst h; exact hx))))
theorem bd_sources:Al2 (BdL fun x:Src=>BdX x.on) sourcesP:=.of (fun _=>rfl) (Al2.bnd (bd_source 1) fun s hs=>bd_srcLoop 5 [s] (by simp) (by simpa using hs))
theorem bd_group:Al2 (BdL BdX) groupP:=.of (fun _=>rfl) (Al2.ifc (Al2.bnd (f:=fun ts=>mustP _ (passP ts)) (Q:=Any) .any fun _ _=>bd_commas bd_eP (by decide) _) (Al2.one <| bdL_nil))
theorem bd_items (st:Bool):Al2 (BdL fun x:Itm=>BdX x.1) (itemsP st):=.of (fun _=>rfl) (Al2.ifc (c:=fun _=>st=true) (Al2.one <| bdL_nil) (bd_commas bd_item (by decide) _))
theorem bd_selected:Al2 BdSel selectedP:=by
 refine .of (fun _=>rfl) (Al2.bnd (Q:=Any) .any fun _ _=>?_)
 refine ⟨fun {ts x r} H=>?_⟩
 refine (Al2.bnd (f:=fun ts=>itemsP (isP ⟨#[42]⟩ (if isP ⟨#[100,105,115,116,105,110,99,116]⟩ ts then passP ts else ts)) (if isP ⟨#[42]⟩ (if isP ⟨#[100,105,115,116,105,110,99,116]⟩ ts then passP ts else ts) then passP (if isP ⟨#[100,105,115,116,105,110,99,116]⟩ ts then passP ts else ts) else (if isP ⟨#[100,105,115,116,105,110,99,116]⟩ ts then passP ts else ts))) ⟨fun H=>(bd_items _).h H⟩ (fun its h1=>Al2.bnd (Q:=Any) .any fun _ _=>Al2.bnd bd_sources fun fs h2=>Al2.bnd (bd_exprBehind _) fun hw h3=>Al2.bnd bd_group fun gs h4=>Al2.bnd (bd_exprBehind _) fun hh h5=>Al2.one <| ⟨h1,h2,h3,h5,h4⟩)).h H
theorem bd_parts:∀ n ps (ops:List Int),ps.length≤1000→ops.length≤ps.length→(∀ x ∈ ps,BdSel x)→Al2 (fun x:List Sel × List Int=>BdL BdSel x.1∧x.2.length≤1000) (partsLoopP n ps ops)
 | 0,_,_,_,_,_=>.of (fun _=>by rw [partsLoopP]) (.err (g:=fun _=>(-1,0)))
 | n+1,ps,ops,h1,h2,h3=>by
  refine ⟨fun {ts x r} H=>?_⟩
  rw [partsLoopP] at H
  split at H
  ·cases H; exact ⟨⟨h1,h3⟩,by show ops.length≤1000; omega⟩
  ·split at H
   ·cases H
   ·rename_i hlt
    exact (Al2.bnd (f:=fun ts=>selectedP (betweenP ts).2) (k:=fun s r=>partsLoopP n (ps ++ [s]) (ops ++ [(betweenP ts).1]) r) bd_selected.pass (fun s hs=>bd_parts n _ _ (by simp; omega) (by simp; omega) (fun y hy=>by rcases List.mem_append.1 hy with h | h; exact h3 y h; simp at h; subst h; exact hs))).h H
theorem bd_query:Al2 BdQ queryP:=.of (fun _=>rfl) (Al2.bnd bd_selected fun s hs=>Al2.bnd (bd_parts _ _ _ (by simp) (by simp) (by simpa using hs)) fun po hp=>Al2.ifc (Al2.bnd (f:=fun ts=>mustP _ (passP ts)) (Q:=Any) .any fun _ _=>Al2.bnd (bd_commas bd_eP (by decide) _) fun l hl=>Al2.bnd (Q:=Any) .any fun _ _=>Al2.bnd (Q:=Any) .any fun _ _=>Al2.one <| ⟨hp.1,hp.2,hl⟩) (Al2.one <| ⟨hp.1,hp.2,bdL_nil⟩))
theorem bd_created:Al2 BdS createdP:=.of (fun _=>rfl) (Al2.ifc (Al2.bnd (f:=fun ts=>nameP (passP ts)) (Q:=Any) .any fun _ _=>Al2.bnd (Q:=Any) .any fun _ _=>Al2.bnd bd_query fun x hx=>Al2.one <| ⟨by simp,hx,bdL_nil,bdx_0⟩) (Al2.bnd (Q:=Any) .any fun _ _=>Al2.bnd (Q:=Any) .any fun _ _=>Al2.bnd (Q:=Any) .any fun _ _=>Al2.bnd (bd_commas (P:=Any) Al2.any (by decide) _) fun l hl=>Al2.bnd (Q:=Any) .any fun _ _=>Al2.one <| ⟨hl.1,bdq_0,bdL_nil,bdx_0⟩))
theorem bd_row:Al2 (fun r:List Vl=>r.length≤1000) rowP:=.of (fun _=>rfl) (Al2.bnd (Q:=Any) .any fun _ _=>Al2.bnd (bd_commas (P:=Any) Al2.any (by decide) _) fun l hl=>Al2.bnd (Q:=Any) .any fun _ _=>Al2.one <| hl.1)
theorem bd_inserted:Al2 BdS insertedP:=.of (fun _=>rfl) (Al2.bnd (Q:=Any) .any fun _ _=>Al2.bnd (Q:=Any) .any fun _ _=>Al2.bnd (Q:=Any) .any fun _ _=>Al2.bnd (bd_commas bd_row (by decide) _) fun l hl=>Al2.one <| ⟨by simp,bdq_0,hl,bdx_0⟩)
theorem bd_deleted:Al2 BdS deletedP:=.of (fun _=>rfl) (Al2.bnd (Q:=Any) .any fun _ _=>Al2.bnd (Q:=Any) .any fun _ _=>Al2.bnd (bd_exprBehind _) fun hw h=>Al2.one <| ⟨by simp,bdq_0,bdL_nil,h⟩)
theorem bd_statement:Al2 BdS statementP:=.of (fun _=>rfl) (Al2.ifc bd_created.pass (Al2.ifc bd_inserted.pass (Al2.ifc bd_deleted.pass (Al2.ifc (Al2.bnd (f:=fun ts=>queryP (passP ts)) bd_query.pass fun x hx=>Al2.one <| ⟨by simp,hx,bdL_nil,bdx_0⟩) .err))))
theorem bd_statements:∀ n acc,acc.length≤60→(∀ x ∈ acc,BdS x)→Al2 (BdL BdS) (statementsP n acc)
 | 0,_,_,_=>.of (fun _=>by rw [statementsP]) (.err (g:=fun _=>(-1,0)))
 | n+1,acc,h1,h2=>by
  refine ⟨fun {ts x r} H=>?_⟩
  rw [statementsP] at H
  split at H
  ·cases H; exact ⟨by omega,h2⟩
  ·split at H
   ·cases H
   ·exact (Al2.bnd bd_statement (fun s hs=>Al2.bnd (Q:=Any) .any fun _ _=>bd_statements n _ (by simp; omega) (fun y hy=>by rcases List.mem_append.1 hy with h | h; exact h2 y h; simp at h; subst h; exact hs))).h H
end Go.Proofs.YtklgehkhfidpmaaGreatDoor
namespace Go.Proofs.YtklgehkhfidpmaaGreatDoor
open Go.RowKit Go.Lib Go.Shelf
set_option maxRecDepth 100000
set_option maxHeartbeats 8000000

/-- It answers true, and changes nothing. -/
abbrev Yes (w:World) (e:Ending) (w':World):Prop:=e = .returned (.bool true)∧Below w.heap.size w w'
def SameT (l:List SX):Prop:=∀ (a:Option Addr) (ca:Nat) (b:Option Addr) (cb:Nat) (S:Nat→Prop) (w:World),BdL BdX l→SsS S w a l→SsS S w b l→Calls Tryz.prog 44 #[.slice a l.length ca,.slice b l.length cb] w (Yes w)
def SameX (x:SX):Prop:=∀ (a:Option Addr) (ca:Nat) (b:Option Addr) (cb:Nat) (S:Nat→Prop) (w:World),BdX x→SsS S w a x.ks→SsS S w b x.ks→Calls Tryz.prog 18 #[.agg (sxA x a ca),.agg (sxA x b cb)] w (Yes w)
theorem sameX_of (x:SX) (ht:SameT x.ks):SameX x:=by
 intro a ca b cb S w hx ha hb
 have hal1:Below w.heap.size w (w.alloc (.cells (sxA x a ca) 47)):=(Below.refl _ _).alloc (Nat.le_refl _) _
 have hal2:Below (w.alloc (.cells (sxA x a ca) 47)).heap.size (w.alloc (.cells (sxA x a ca) 47)) ((w.alloc (.cells (sxA x a ca) 47)).alloc (.cells (sxA x b cb) 47)):=(Below.refl _ _).alloc (Nat.le_refl _) _
 have Q0:((w.alloc (.cells (sxA x a ca) 47)).alloc (.cells (sxA x b cb) 47)).heap[w.heap.size]? = some (.cells (sxA x a ca) 47 (0,0)):=(hal2.block _ (lt_of_heap (heap_new w (sxA x a ca) 47))).trans (heap_new w _ _)
 have Q1:((w.alloc (.cells (sxA x a ca) 47)).alloc (.cells (sxA x b cb) 47)).heap[w.heap.size+1]? = some (.cells (sxA x b cb) 47 (0,0)):=by
  rw [show w.heap.size+1=(w.alloc (.cells (sxA x a ca) 47)).heap.size by simp]
  exact heap_new _ _ _
 have hal:=chain hal1 hal2
 have con:=ht a ca b cb S _ ⟨hx.ks.1,hx.ks.2⟩ (SsS.next hal ha) (SsS.next hal hb)
 clear hal1 hal2 ha hb
 go_enter Tryz.func18,Tryz.ntmps18
 go_upto_region 1 with fail
 generalize ((w.alloc (.cells (sxA x a ca) 47)).alloc (.cells (sxA x b cb) 47))=w1 at *
 have x0:w1.cell? ⟨w.heap.size,0,none⟩=some (.int .i64 x.k):=cell_of (i:=0) Q0 rfl
 have x1:w1.cell? ⟨w.heap.size,1,none⟩=some (.int .i64 x.v.1):=cell_of (i:=1) Q0 rfl
 have x2:w1.cell? ⟨w.heap.size,2,none⟩=some (.int .i64 x.v.2.1):=cell_of (i:=2) Q0 rfl
 have x3:w1.cell? ⟨w.heap.size,3,none⟩=some (.string x.v.2.2):=cell_of (i:=3) Q0 rfl
 have x4:w1.cell? ⟨w.heap.size,4,none⟩=some (.string x.tab):=cell_of (i:=4) Q0 rfl
 have x5:w1.cell? ⟨w.heap.size,5,none⟩=some (.string x.name):=cell_of (i:=5) Q0 rfl
 have x6:w1.cell? ⟨w.heap.size,6,none⟩=some (.slice a x.ks.length ca):=cell_of (i:=6) Q0 rfl
 have y0:w1.cell? ⟨w.heap.size+1,0,none⟩=some (.int .i64 x.k):=cell_of (i:=0) Q1 rfl
 have y1:w1.cell? ⟨w.heap.size+1,1,none⟩=some (.int .i64 x.v.1):=cell_of (i:=1) Q1 rfl
 have y2:w1.cell? ⟨w.heap.size+1,2,none⟩=some (.int .i64 x.v.2.1):=cell_of (i:=2) Q1 rfl
 have y3:w1.cell? ⟨w.heap.size+1,3,none⟩=some (.string x.v.2.2):=cell_of (i:=3) Q1 rfl
 have y4:w1.cell? ⟨w.heap.size+1,4,none⟩=some (.string x.tab):=cell_of (i:=4) Q1 rfl
 have y5:w1.cell? ⟨w.heap.size+1,5,none⟩=some (.string x.name):=cell_of (i:=5) Q1 rfl
 have y6:w1.cell? ⟨w.heap.size+1,6,none⟩=some (.slice b x.ks.length cb):=cell_of (i:=6) Q1 rfl
 clear Q0 Q1
 go_wp2_with fail
 refine con.mono ?_
 rintro e w2 ⟨rfl,hb2⟩
 go_wp2_with fail
 exact bodyPost_ret (results_tmp rfl _ _ _) rfl ⟨by first | rfl | trivial,chain hal hb2⟩
theorem sameT_of (l:List SX) (ih:∀ x ∈ l,SameX x):SameT l:=by
 intro a ca b cb S w hbd ha hb
 have h1000:=hbd.1
 have HA:Hid (SsS (fun _=>True) w a l):=SsS.mono (fun _ _ _=>trivial) ha
 have HB:Hid (SsS (fun _=>True) w b l):=SsS.mono (fun _ _ _=>trivial) hb
 have IH:Hid (∀ x ∈ l,SameX x∧BdX x):=fun x hx=>⟨ih x hx,hbd.2 x hx⟩
 clear ha hb ih hbd
 go_enter Tryz.func44,Tryz.ntmps44
 go_wp2_with fail
 go_loopw [13] (fun i wr=>∃ j:Nat,j≤l.length∧i = .int .i64 j∧Below w.heap.size w wr) (fun i _=>l.length - (RowKit.intOf i).toNat)
 case atStart=>exact ⟨0,Nat.zero_le _,rfl,Below.refl _ _⟩
 case round =>
  obtain ⟨j,hj,rfl,hbr⟩:=hrel
  by_cases hlt:j<l.length
  ·obtain ⟨ba,oa,a1,c1,rfl,_,la,sa,ka⟩:=(SsS.next hbr HA.out).elem hlt
   obtain ⟨bb,ob,a2,c2,rfl,_,lb,sb,kb⟩:=(SsS.next hbr HB.out).elem hlt
   have hjz:(j:Int)<(l.length:Int):=by omega
   have HK:Hid (SsS (fun _=>True) wr a1 l[j].ks∧SsS (fun _=>True) wr a2 l[j].ks):=⟨ka,kb⟩
   have HX:Hid (SameX l[j]∧BdX l[j]):=IH.out _ (List.getElem_mem hlt)
   clear ka kb
   go_upto_region 6 with fail
   have hCC:∀ W W':World,(Sev W ba (oa+j*7) l[j] a1 c1∧Sev W bb (ob+j*7) l[j] a2 c2∧ba<W.heap.size∧bb<W.heap.size)→Below W.heap.size W W'→(Sev W' ba (oa+j*7) l[j] a1 c1∧Sev W' bb (ob+j*7) l[j] a2 c2∧ba<W'.heap.size∧bb<W'.heap.size):=fun W W' h hb=>⟨h.1.k1 (Keeps1.of (g:=W.heap.size) hb) h.2.2.1 (by have:=h.2.2.1; omega),h.2.1.k1 (Keeps1.of (g:=W.heap.size) hb) h.2.2.2 (by have:=h.2.2.2; omega),Nat.lt_of_lt_of_le h.2.2.1 hb.size,Nat.lt_of_lt_of_le h.2.2.2 hb.size⟩
   have hdr:Below wr.heap.size wr wr.drew:=(Below.refl _ _).drew
   have CW:=hCC _ _ ⟨sa,sb,la,lb⟩ hdr
   clear sa sb la lb
   refine wp_region_cls (fun W=>Sev W ba (oa+j*7) l[j] a1 c1∧Sev W bb (ob+j*7) l[j] a2 c2∧ba<W.heap.size∧bb<W.heap.size) (by kernel_rfl) ?_
   refine wpY_take hCC (some 16) (i:=0) (v:=.slice (some ⟨ba,oa,none⟩) l.length ca) rfl rfl (by kernel_rfl) (by kernel_rfl) (by kernel_rfl) (fun _ _ _ h=>h) (Or.inl ⟨rfl,fun n hn=>?_⟩) CW ?_
   ·go_simp
   simp only [Act.put,pA,pB,pC]
   refine wpY_take hCC (some 17) (i:=1) (v:=.int .i64 j) rfl rfl (by kernel_rfl) (by kernel_rfl) (by kernel_rfl) (fun _ _ _ h=>h) (Or.inl ⟨rfl,fun n hn=>?_⟩) CW ?_
   ·go_simp
   simp only [Act.put,pA,pB,pC]
   refine wpY_take hCC (some 18) (i:=2) (v:=.pointer (some ⟨ba,oa+j*7,none⟩)) rfl rfl (by kernel_rfl) (by kernel_rfl) (by kernel_rfl) (fun _ _ _ h=>h) (Or.inl ⟨rfl,fun n hn=>?_⟩) CW ?_
   ·go_simp
   simp only [Act.put,pA,pB,pC]
   refine wpY_take hCC (some 19) (i:=3) (v:=.agg (sxA l[j] a1 c1)) rfl rfl (by kernel_rfl) (by kernel_rfl) (by kernel_rfl) (fun _ _ _ h=>h) (Or.inl ⟨rfl,fun n hn=>?_⟩) CW ?_
   ·have z0:=hn.1.c0
    have z1:=hn.1.c1
    have z2:=hn.1.c2
    have z3:=hn.1.c3
    have z4:=hn.1.c4
    have z5:=hn.1.c5
    have z6:=hn.1.c6
    go_simp
   simp only [Act.put,pA,pB,pC]
   refine wpY_take hCC (some 20) (i:=4) (v:=.slice (some ⟨bb,ob,none⟩) l.length cb) rfl rfl (by kernel_rfl) (by kernel_rfl) (by kernel_rfl) (fun _ _ _ h=>h) (Or.inl ⟨rfl,fun n hn=>?_⟩) CW ?_
   ·go_simp
   simp only [Act.put,pA,pB,pC]
   refine wpY_take hCC (some 21) (i:=5) (v:=.int .i64 j) rfl rfl (by kernel_rfl) (by kernel_rfl) (by kernel_rfl) (fun _ _ _ h=>h) (Or.inl ⟨rfl,fun n hn=>?_⟩) CW ?_
   ·go_simp
   simp only [Act.put,pA,pB,pC]
   refine wpY_take hCC (some 22) (i:=6) (v:=.pointer (some ⟨bb,ob+j*7,none⟩)) rfl rfl (by kernel_rfl) (by kernel_rfl) (by kernel_rfl) (fun _ _ _ h=>h) (Or.inl ⟨rfl,fun n hn=>?_⟩) CW ?_
   ·go_simp
   simp only [Act.put,pA,pB,pC]
   refine wpY_take hCC (some 23) (i:=7) (v:=.agg (sxA l[j] a2 c2)) rfl rfl (by kernel_rfl) (by kernel_rfl) (by kernel_rfl) (fun _ _ _ h=>h) (Or.inl ⟨rfl,fun n hn=>?_⟩) CW ?_
   ·have z0:=hn.2.1.c0
    have z1:=hn.2.1.c1
    have z2:=hn.2.1.c2
    have z3:=hn.2.1.c3
    have z4:=hn.2.1.c4
    have z5:=hn.2.1.c5
    have z6:=hn.2.1.c6
    go_simp
   simp only [Act.put,pA,pB,pC]
   refine wpY_step (rs:=[8]) (by kernel_rfl) (by simp) ?_
   intro w5 hb5 jj hj
   obtain rfl:jj=8:=by simpa using hj
   clear hj
   have D5:=chain hdr hb5
   have CW5:=hCC _ _ CW hb5
   have con:=HX.out.1 a1 c1 a2 c2 _ w5 HX.out.2 (SsS.next D5 HK.out.1) (SsS.next D5 HK.out.2)
   refine wpOp_step rfl (fun K hK=>?_)
   go_simp
   refine con.mono ?_
   rintro e w6 ⟨rfl,hb6⟩
   have CW6:=hCC _ _ CW5 hb6
   refine hK _ _ ⟨CW6,?_⟩
   clear hK K con CW CW5
   refine wpY_take hCC (some 25) (i:=9) (v:=.bool false) rfl rfl (by kernel_rfl) (by kernel_rfl) (by kernel_rfl) (fun _ _ _ h=>h) (Or.inl ⟨rfl,fun n hn=>?_⟩) CW6 ?_
   ·go_simp
   simp only [Act.put,pA,pB,pC]
   refine wpY_done (by kernel_rfl) ?_
   intro w7 hb7
   have A7:=chain hbr (chain D5 (chain hb6 hb7))
   clear CW6 hCC
   go_wp2_with fail
   go_roundw
   case rel=>exact ⟨j+1,by omega,by go_num,A7⟩
   case measure=>simp [RowKit.intOf]; omega
  ·go_wp2_with fail
   exact bodyPost_ret (results_tmp rfl _ _ _) rfl ⟨by first | rfl | trivial,hbr⟩
theorem sameX_n:∀ (n:Nat) (x:SX),SizeOf.sizeOf x≤n→SameX x
 | 0,.mk k v t m ks,h=>by simp at h
 | n+1,.mk k v t m ks,h=>sameX_of (.mk k v t m ks) (sameT_of ks fun x hx=>sameX_n n x (by have:=List.sizeOf_lt_of_mem hx; simp at h; omega))
theorem sameX_at (x:SX):SameX x:=sameX_n _ x (Nat.le_refl _)
theorem sameT_at (l:List SX):SameT l:=sameT_of l fun x _=>sameX_at x

section
variable {P:Program} {md:Region.Mode} {ops:Array Oper} {Q:Exit→Act→World→Prop} {C:World→Prop}
theorem op_alloc {i:Nat} {o:Oper} {K:Act→World→Prop} {a:Act} {w:World} (ho:ops[i]? = some o) (hg:o.guard=none) (ty:TypeId) (z:Array Value) (hop:o.op = .alloc ty) (hz:∀ w:World,(Instr.alloc ty true (.tuple #[])).run P w = .ok (.pointer (some ⟨w.heap.size,0,none⟩)) (w.alloc (.cells z ty)))
  (h:K (a.put o.dst (.pointer (some ⟨w.heap.size,0,none⟩))) (w.alloc (.cells z ty))):wpOp P ops Q i K a w:=by
 refine wpOp_step ho fun K' hK=>?_
 rw [if_pos (by simp [Region.wanted,hg])]
 unfold Oper.wp execOp
 simp only [hop,hz,Sem.run_bind,Sem.run_pure,Result.andThen_ok]
 exact hK _ _ h
theorem op_store {i:Nat} {o:Oper} {K:Act→World→Prop} {a:Act} {w:World} (ho:ops[i]? = some o) (hg:o.guard=none) (ty:TypeId) (x y:Operand) (hop:o.op = .store ty x y) (hd:o.dst=none) {g:Nat} {old c':Array Value} (hx:a.eval x = .pointer (some ⟨g,0,none⟩)) (hy:a.eval y = .agg c') (hq:w.heap[g]? = some (.cells old ty (0,0)))
  (hi:(P.info? ty).map (·.size)=some c'.size) (hs:old.size=c'.size) (h1:c'.all (·.oneCell')=true) (h:K a (w.setRow g c')):wpOp P ops Q i K a w:=by
 refine wpOp_step ho fun K' hK=>?_
 rw [if_pos (by simp [Region.wanted,hg])]
 have hrun:(Instr.storeAt ty (.pointer (some ⟨g,0,none⟩)) (.agg c')).run P w = .ok () (w.setRow g c'):=by
  simp only [Instr.storeAt,Instr.sureAddr,Sem.run_bind,Sem.run_pure,Result.andThen]
  exact run_storeVar_row w g ty ty old c' hq hi hs h1
 unfold Oper.wp execOp
 simp only [hop,hx,hy,hrun,Sem.run_bind,Sem.run_pure,Result.andThen_ok]
 refine hK _ _ ?_
 rw [hd]
 exact h
def putD (a:Act) (d:Nat) (g:Nat):Act:=a.put (some d) (.pointer (some ⟨g,0,none⟩))
theorem putD_eval {a:Act} {d g:Nat} {t:Nat} (h:t≠d):(putD a d g).eval (.tmp t)=a.eval (.tmp t):=by
 show (a.tmps.setIfInBounds d _).getD t undef=a.tmps.getD t undef
 simp only [Array.getD_eq_getD_getElem?,Array.getElem?_setIfInBounds,if_neg (Ne.symm h)]
theorem putD_self {a:Act} {d g:Nat} (h:d<a.tmps.size):(putD a d g).eval (.tmp d) = .pointer (some ⟨g,0,none⟩):=by
 show (a.tmps.setIfInBounds d _).getD d undef=_
 simp [Array.getD_eq_getD_getElem?,h]
theorem putD_comm {a:Act} {d e g k:Nat} (h:d≠e):putD (putD a d g) e k=putD (putD a e k) d g:=by
 show ({ tmps:=(a.tmps.setIfInBounds d _).setIfInBounds e _,defers:=a.defers }:Act) = { tmps:=(a.tmps.setIfInBounds e _).setIfInBounds d _,defers:=a.defers }
 congr 1
 apply Array.ext_getElem?
 intro i
 simp only [Array.getElem?_setIfInBounds,Array.size_setIfInBounds]
 split <;> split <;> simp_all
theorem putD_size {a:Act} {d g:Nat}:(putD a d g).tmps.size=a.tmps.size:=by show (a.tmps.setIfInBounds d _).size=_; simp
def setL (L:Array Bool) (l:List Nat):Array Bool:=l.foldl (fun L i=>L.setIfInBounds i true) L
/-- The two orders of two allocs; then the stores. -/
def sixL (i j k l:Nat):List (List Nat × List Nat):=[([],[i,j]),([i],[j]),([j],[i]),([i,j],[k]),([j,i],[k]),([i,j,k],[l]),([j,i,k],[l]),([i,j,k,l],[]),([j,i,k,l],[])]
def sixB (md:Region.Mode) (ops:Array Oper) (L:Array Bool) (i j k l:Nat):Bool :=
 (sixL i j k l).all fun x=>Region.ready md ops (setL L x.1) == x.2
structure TwoOk (P:Program) (ops:Array Oper) (i j k l d0 d1 t0 t1:Nat) (T:TypeId):Prop where
 a0:∃ o,ops[i]? = some o∧o.guard=none∧o.op = .alloc T∧o.dst=some d0
 a1:∃ o,ops[j]? = some o∧o.guard=none∧o.op = .alloc T∧o.dst=some d1
 s0:∃ o,ops[k]? = some o∧o.guard=none∧o.op = .store T (.tmp d0) (.tmp t0)∧o.dst=none
 s1:∃ o,ops[l]? = some o∧o.guard=none∧o.op = .store T (.tmp d1) (.tmp t1)∧o.dst=none
 ne:d0≠d1∧t0≠d0∧t0≠d1∧t1≠d0∧t1≠d1
/-- A step of one's own. -/
theorem step_two {L:Array Bool} {i j:Nat} {fuel:Nat} {a:Act} {w:World} (hr:Region.ready md ops L = [i,j]) (h0:∀ w',Below w.heap.size w w'→wpOp P ops Q i (fun a' w''=>C w''∧wpY P md ops Q C fuel (L.setIfInBounds i true) a' w'') a w') (h1:∀ w',Below w.heap.size w w'→wpOp P ops Q j (fun a' w''=>C w''∧wpY P md ops Q C fuel (L.setIfInBounds j true) a' w'') a w'):wpY P md ops Q C (fuel+1) L a w:=by
 refine wpY_step hr (by simp) fun w' hb n hn=>?_
 rcases List.mem_cons.1 hn with rfl | hn
 ·exact h0 w' hb
 ·rw [List.mem_singleton.1 hn]; exact h1 w' hb
theorem step_one {L:Array Bool} {i:Nat} {fuel:Nat} {a:Act} {w:World} (hr:Region.ready md ops L = [i]) (h0:∀ w',Below w.heap.size w w'→wpOp P ops Q i (fun a' w''=>C w''∧wpY P md ops Q C fuel (L.setIfInBounds i true) a' w'') a w'):wpY P md ops Q C (fuel+1) L a w:=by
 refine wpY_step hr (by simp) fun w' hb n hn=>?_
 rw [List.mem_singleton.1 hn]; exact h0 w' hb
theorem wpY_two {L:Array Bool} {a:Act} {w:World} (i j k l:Nat) {d0 d1 t0 t1:Nat} {T:TypeId} (ok:TwoOk P ops i j k l d0 d1 t0 t1 T) (six:sixB md ops L i j k l=true) (z c0 c1:Array Value) (hz:∀ w:World,(Instr.alloc T true (.tuple #[])).run P w = .ok (.pointer (some ⟨w.heap.size,0,none⟩)) (w.alloc (.cells z T)))
  (v0:a.eval (.tmp t0) = .agg c0) (v1:a.eval (.tmp t1) = .agg c1) (l0:d0<a.tmps.size) (l1:d1<a.tmps.size) (hi0:(P.info? T).map (·.size)=some z.size) (s0:c0.size=z.size) (s1:c1.size=z.size) (w0:c0.all (·.oneCell')=true) (w1:c1.all (·.oneCell')=true)
  (hC:∀ w',Below w.heap.size w w'→C w')
  (fin:∀ (A B:Nat) (W:World),w.heap.size≤A→w.heap.size≤B→A≠B→Below w.heap.size w W→W.heap[A]? = some (.cells c0 T (0,0))→W.heap[B]? = some (.cells c1 T (0,0))→Q .normal (putD (putD a d0 A) d1 B) W):wpY P md ops Q C 4 L a w:=by
 obtain ⟨⟨o0,e0,g0,p0,n0⟩,⟨o1,e1,g1,p1,n1⟩,⟨o2,e2,g2,p2,n2⟩,⟨o3,e3,g3,p3,n3⟩,ne1,ne2,ne3,ne4,ne5⟩:=ok
 have R:∀ x ∈ sixL i j k l,Region.ready md ops (setL L x.1)=x.2:=fun x hx=>by simpa using List.all_eq_true.1 six x hx
 have bal:∀ {W:World} {o:Obj},Below W.heap.size W (W.alloc o):=fun {W o}=>(Below.refl _ _).alloc (Nat.le_refl _) _
 -- allocs and stores,one by one
 have A0:∀ {K:Act→World→Prop} {b:Act} {W:World},K (putD b d0 W.heap.size) (W.alloc (.cells z T))→wpOp P ops Q i K b W:=fun {K b W} h=>op_alloc e0 g0 T z p0 hz (by rw [n0]; exact h)
 have A1:∀ {K:Act→World→Prop} {b:Act} {W:World},K (putD b d1 W.heap.size) (W.alloc (.cells z T))→wpOp P ops Q j K b W:=fun {K b W} h=>op_alloc e1 g1 T z p1 hz (by rw [n1]; exact h)
 have S0:∀ {K:Act→World→Prop} {b:Act} {W:World} {A:Nat},b.eval (.tmp d0) = .pointer (some ⟨A,0,none⟩)→b.eval (.tmp t0) = .agg c0→W.heap[A]? = some (.cells z T (0,0))→K b (W.setRow A c0)→wpOp P ops Q k K b W:=fun h1 h2 h3 h=>op_store e2 g2 T _ _ p2 n2 h1 h2 h3 (by rw [hi0,s0]) s0.symm w0 h
 have S1:∀ {K:Act→World→Prop} {b:Act} {W:World} {A:Nat},b.eval (.tmp d1) = .pointer (some ⟨A,0,none⟩)→b.eval (.tmp t1) = .agg c1→W.heap[A]? = some (.cells z T (0,0))→K b (W.setRow A c1)→wpOp P ops Q l K b W:=fun h1 h2 h3 h=>op_store e3 g3 T _ _ p3 n3 h1 h2 h3 (by rw [hi0,s1]) s1.symm w1 h
 -- the world in between: what is known of the blocks made
 have new:∀ {W W2:World} {o:Array Value},Below (W.alloc (.cells o T)).heap.size (W.alloc (.cells o T)) W2→W2.heap[W.heap.size]? = some (.cells o T (0,0)):=fun {W W2 o} hb=>(hb.block _ (lt_of_heap (heap_new W o T))).trans (heap_new W o T)
 have keep:∀ {W W2:World} {A:Nat} {o:Array Value},W.heap[A]? = some (.cells o T (0,0))→Below W.heap.size W W2→W2.heap[A]? = some (.cells o T (0,0)):=fun h hb=>(hb.block _ (lt_of_heap h)).trans h
 have row:∀ {W:World} {A:Nat} {o c:Array Value},W.heap[A]? = some (.cells o T (0,0))→(W.setRow A c).heap[A]? = some (.cells c T (0,0)):=fun h=>setRow_heap _ _ _ _ _ _ h
 have oth:∀ {W:World} {A B:Nat} {c o:Array Value},A≠B→W.heap[B]? = some (.cells o T (0,0))→(W.setRow A c).heap[B]? = some (.cells o T (0,0)):=fun hn h=>(setRow_other _ _ _ _ (Ne.symm hn)).trans h
 have bset:∀ {W:World} {A:Nat} {c:Array Value},Below w.heap.size w W→w.heap.size≤A→Below w.heap.size w (W.setRow A c):=fun hb ha=>below_setRow hb ha _
 have lk:∀ {W:World},Below w.heap.size w W→w.heap.size≤W.heap.size:=fun hb=>hb.size
 have fz:∀ {W:World} {A:Nat} {c:Array Value},(W.setRow A c).heap.size=W.heap.size:=by intro W A c; simp
 have ev0:∀ {b:Act} {A B:Nat},b=putD (putD a d0 A) d1 B→b.eval (.tmp d0) = .pointer (some ⟨A,0,none⟩)∧b.eval (.tmp t0) = .agg c0∧b.eval (.tmp d1) = .pointer (some ⟨B,0,none⟩)∧b.eval (.tmp t1) = .agg c1:=fun {b A B} e=>by
  subst e
  exact ⟨by rw [putD_eval ne1,putD_self l0],by rw [putD_eval ne3,putD_eval ne2,v0],putD_self (by rw [putD_size]; exact l1),by rw [putD_eval ne5,putD_eval ne4,v1]⟩
 -- both are there,neither is filled
 have both:∀ {o:List Nat} {A B:Nat} {W:World},(o = [i,j]∨o = [j,i])→w.heap.size≤A→w.heap.size≤B→A≠B→Below w.heap.size w W→W.heap[A]? = some (.cells z T (0,0))→W.heap[B]? = some (.cells z T (0,0))→wpY P md ops Q C 2 (setL L o) (putD (putD a d0 A) d1 B) W:=by
  intro o A B W ho hA hB hn hb qA qB
  obtain ⟨x0,x1,x2,x3⟩:=ev0 (A:=A) (B:=B) rfl
  have r1:Region.ready md ops (setL L o) = [k]:=by rcases ho with rfl | rfl <;> exact R (_,_) (by simp [sixL])
  have r2:Region.ready md ops (setL L (o ++ [k])) = [l]:=by rcases ho with rfl | rfl <;> exact R (_,_) (by simp [sixL])
  have r4:Region.ready md ops (setL L (o ++ [k] ++ [l])) = []:=by rcases ho with rfl | rfl <;> exact R (_,_) (by simp [sixL])
  simp only [setL,List.foldl_append,List.foldl_cons,List.foldl_nil] at r1 r2 r4 ⊢
  refine step_one r1 fun w2 hb2=>?_
  have b2:=hb.trans (hb2.mono (lk hb))
  refine S0 x0 x1 (keep qA hb2) ⟨hC _ (bset b2 hA),step_one r2 fun w3 hb3=>?_⟩
  have b3:=(bset (c:=c0) b2 hA).trans (hb3.mono (by rw [fz]; exact lk b2))
  refine S1 x2 x3 (keep (oth hn (keep qB hb2)) hb3) ⟨hC _ (bset b3 hB),wpY_done r4 fun w4 hb4=>fin A B w4 hA hB hn ((bset b3 hB).trans (hb4.mono (by rw [fz]; exact lk b3))) ?_ ?_⟩
  ·exact keep (oth (Ne.symm hn) (keep (row (keep qA hb2)) hb3)) hb4
  ·exact keep (row (keep (oth hn (keep qB hb2)) hb3)) hb4
 have e1':Region.ready md ops L = [i,j]:=R ([],[i,j]) (by simp [sixL])
 refine step_two e1' (fun w2 hb2=>A0 ?_) (fun w2 hb2=>A1 ?_)
 ·have b2:Below w.heap.size w (w2.alloc (.cells z T)):=hb2.trans (bal.mono (lk hb2))
  have hA:w.heap.size≤w2.heap.size:=lk hb2
  refine ⟨hC _ b2,step_one (R ([i],[j]) (by simp [sixL])) fun w3 hb3=>A1 ?_⟩
  have b3:=b2.trans (hb3.mono (lk b2))
  have b3':Below w.heap.size w (w3.alloc (.cells z T)):=b3.trans (bal.mono (lk b3))
  have qA:=new (o:=z) hb3
  exact ⟨hC _ b3',both (.inl rfl) hA (lk b3) (by have:=lt_of_heap qA; omega) b3' (keep qA bal) (heap_new _ _ _)⟩
 ·have b2:Below w.heap.size w (w2.alloc (.cells z T)):=hb2.trans (bal.mono (lk hb2))
  have hA:w.heap.size≤w2.heap.size:=lk hb2
  refine ⟨hC _ b2,step_one (R ([j],[i]) (by simp [sixL])) fun w3 hb3=>A0 ?_⟩
  have b3:=b2.trans (hb3.mono (lk b2))
  have b3':Below w.heap.size w (w3.alloc (.cells z T)):=b3.trans (bal.mono (lk b3))
  have qA:=new (o:=z) hb3
  rw [putD_comm (Ne.symm ne1)]
  exact ⟨hC _ b3',both (.inr rfl) (lk b3) hA (by have:=lt_of_heap qA; omega) b3' (heap_new _ _ _) (keep qA bal)⟩
end

def Blk (W:World) (g:Nat) (cs:Array Value) (T:TypeId):Prop:=W.heap[g]? = some (.cells cs T (0,0))
theorem Blk.nx {W W':World} {g:Nat} {cs:Array Value} {T:TypeId} (h:Blk W g cs T) (hb:Below W.heap.size W W'):Blk W' g cs T:=(hb.block _ (lt_of_heap h)).trans h
theorem Blk.c {W:World} {g:Nat} {cs:Array Value} {T:TypeId} (h:Blk W g cs T) (i:Nat) {u:Value} (hu:cs[i]? = some u):W.cell? ⟨g,i,none⟩=some u:=cell_of (i:=i) h hu
def AtL (W:World) (b off:Nat) (cs:List Value):Prop:=b<W.heap.size∧∀ j u,cs[j]? = some u→W.cell? ⟨b,off+j,none⟩=some u
theorem AtL.nx {W W':World} {b off:Nat} {cs:List Value} (h:AtL W b off cs) (hb:Below W.heap.size W W'):AtL W' b off cs:=⟨Nat.lt_of_lt_of_le h.1 hb.size,fun j u hj=>(hb.cell (p:=⟨b,off+j,none⟩) h.1).trans (h.2 j u hj)⟩
theorem LsE.get {α:Type} {En:EnT α} {size:Nat} {S:Nat→Prop} {W:World} {a:Option Addr} {l:List α} (h:LsE En size S W a l) {i:Nat} (hi:i<l.length):∃ b off cs,a=some ⟨b,off,none⟩∧AtL W b (off+i*size) cs∧En S W l[i] cs:=by
 rcases h with rfl | ⟨b,off,e,_,h2,h3⟩
 ·simp at hi
 ·obtain ⟨cs,_,c2,c3⟩:=h3 i hi
  exact ⟨b,off,cs,e,⟨h2,c2⟩,c3⟩
theorem LsE.nx {α:Type} {En:EnT α} (ok:EnOk En) {size:Nat} {S:Nat→Prop} {W W':World} {a:Option Addr} {l:List α} (h:LsE En size S W a l) (hb:Below W.heap.size W W'):LsE En size S W' a l:=h.keep ok (Keeps'.of hb)
/-- A pair of lists, the same ones. -/
structure Ls2 {α:Type} (En:EnT α) (size:Nat) (W:World) (a b:Option Addr) (l:List α):Prop where
 one:LsE En size (fun _=>True) W a l
 two:LsE En size (fun _=>True) W b l
theorem Ls2.nx {α:Type} {En:EnT α} (ok:EnOk En) {size:Nat} {W W':World} {a b:Option Addr} {l:List α} (h:Ls2 En size W a b l) (hb:Below W.heap.size W W'):Ls2 En size W' a b l:=⟨h.1.nx ok hb,h.2.nx ok hb⟩
structure Ss2 (W:World) (a b:Option Addr) (l:List SX):Prop where
 one:SsS (fun _=>True) W a l
 two:SsS (fun _=>True) W b l
theorem Ss2.nx {W W':World} {a b:Option Addr} {l:List SX} (h:Ss2 W a b l) (hb:Below W.heap.size W W'):Ss2 W' a b l:=⟨SsS.next hb h.1,SsS.next hb h.2⟩
theorem Ls2.ss {W:World} {a b:Option Addr} {l:List SX} (h:Ls2 En7 7 W a b l):Ss2 W a b l:=⟨h.1.sxs,h.2.sxs⟩
theorem AtL.pre {W:World} {b off:Nat} {cs:List Value} (h:AtL W b off cs) (n:Nat):AtL W b off (cs.take n):=⟨h.1,fun j u hj=>h.2 j u (by
 rw [List.getElem?_take] at hj
 split at hj
 ·exact hj
 ·cases hj)⟩
/-- A whole struct, loaded in whatever order. -/
theorem grows_load {P:Program} {ops:Array Oper} {C:World→Prop} {o:Oper} {a:Act} (hw:Region.wanted o (yielded ops a.tmps)=true) (ty:TypeId) (x:Operand) (ho:o.op = .load ty x) (b off:Nat) (cs:List Value) (hx:a.eval x = .pointer (some ⟨b,off,none⟩)) {d:TypeDesc} (hu:P.underlying ty=some d) (hd:d.isRow=true) (hi:(P.info? ty).map (·.size)=some cs.length) (h:∀ n,C n→AtL n b off cs):GrowsC P ops C o (.agg cs.toArray) a:=Or.inl ⟨hw,fun n hn=>by
 have hr:=run_loadAt_mid (P:=P) n b off ty cs d (h n hn).2 hu hd hi
 unfold execOp
 simp only [ho,hx,hr,Sem.run_bind,Sem.run_pure,Result.andThen_ok]
 exact ⟨rfl,rfl⟩⟩
set_option maxHeartbeats 32000000

def zSel:Array Value:=#[.bool false,.bool false,.slice none 0 0,.slice none 0 0,.bool false,.bool false,.int .i64 0,.int .i64 0,.int .i64 0,.string ⟨#[]⟩,.string ⟨#[]⟩,.string ⟨#[]⟩,.slice none 0 0,.int .i64 0,.int .i64 0,.int .i64 0,.string ⟨#[]⟩,.string ⟨#[]⟩,.string ⟨#[]⟩,.slice none 0 0,.slice none 0 0]
theorem al_Sel (w:World):(Instr.alloc 55 true (.tuple #[])).run Tryz.prog w = .ok (.pointer (some ⟨w.heap.size,0,none⟩)) (w.alloc (.cells zSel 55)):=by
 unfold zSel
 go_simp
theorem al_Sel2:(Tryz.prog.info? 55).map (·.size)=some zSel.size:=by kernel_rfl
def zSrc:Array Value:=#[.int .i64 0,.string ⟨#[]⟩,.string ⟨#[]⟩,.int .i64 0,.int .i64 0,.int .i64 0,.string ⟨#[]⟩,.string ⟨#[]⟩,.string ⟨#[]⟩,.slice none 0 0]
theorem al_Src (w:World):(Instr.alloc 96 true (.tuple #[])).run Tryz.prog w = .ok (.pointer (some ⟨w.heap.size,0,none⟩)) (w.alloc (.cells zSrc 96)):=by
 unfold zSrc
 go_simp
theorem al_Src2:(Tryz.prog.info? 96).map (·.size)=some zSrc.size:=by kernel_rfl
theorem sameQ_at (q:Qry) (hq:BdQ q) (p1 p2 p3 r1 r2 r3:Option Addr) (d1 d2 d3 e1 e2 e3:Nat) (w:World) (h1:Ls2 En21 21 w p1 r1 q.parts) (h2:Ls2 EnI 1 w p2 r2 q.ops) (h3:Ls2 En7 7 w p3 r3 q.order):Calls Tryz.prog 19 #[.agg #[.slice p1 q.parts.length d1,.slice p2 q.ops.length d2,.slice p3 q.order.length d3,.int .i64 q.limit],.agg #[.slice r1 q.parts.length e1,.slice r2 q.ops.length e2,.slice r3 q.order.length e3,.int .i64 q.limit]] w (Yes w):=by
 have hal1:Below w.heap.size w (w.alloc (.cells #[.slice p1 q.parts.length d1,.slice p2 q.ops.length d2,.slice p3 q.order.length d3,.int .i64 q.limit] 42)):=(Below.refl _ _).alloc (Nat.le_refl _) _
 have hal2:Below (w.alloc (.cells #[.slice p1 q.parts.length d1,.slice p2 q.ops.length d2,.slice p3 q.order.length d3,.int .i64 q.limit] 42)).heap.size (w.alloc (.cells #[.slice p1 q.parts.length d1,.slice p2 q.ops.length d2,.slice p3 q.order.length d3,.int .i64 q.limit] 42)) ((w.alloc (.cells #[.slice p1 q.parts.length d1,.slice p2 q.ops.length d2,.slice p3 q.order.length d3,.int .i64 q.limit] 42)).alloc (.cells #[.slice r1 q.parts.length e1,.slice r2 q.ops.length e2,.slice r3 q.order.length e3,.int .i64 q.limit] 42)):=(Below.refl _ _).alloc (Nat.le_refl _) _
 have Q0:Blk ((w.alloc (.cells #[.slice p1 q.parts.length d1,.slice p2 q.ops.length d2,.slice p3 q.order.length d3,.int .i64 q.limit] 42)).alloc (.cells #[.slice r1 q.parts.length e1,.slice r2 q.ops.length e2,.slice r3 q.order.length e3,.int .i64 q.limit] 42)) w.heap.size #[.slice p1 q.parts.length d1,.slice p2 q.ops.length d2,.slice p3 q.order.length d3,.int .i64 q.limit] 42:=(hal2.block _ (lt_of_heap (heap_new w #[.slice p1 q.parts.length d1,.slice p2 q.ops.length d2,.slice p3 q.order.length d3,.int .i64 q.limit] 42))).trans (heap_new w _ _)
 have Q1:Blk ((w.alloc (.cells #[.slice p1 q.parts.length d1,.slice p2 q.ops.length d2,.slice p3 q.order.length d3,.int .i64 q.limit] 42)).alloc (.cells #[.slice r1 q.parts.length e1,.slice r2 q.ops.length e2,.slice r3 q.order.length e3,.int .i64 q.limit] 42)) (w.heap.size+1) #[.slice r1 q.parts.length e1,.slice r2 q.ops.length e2,.slice r3 q.order.length e3,.int .i64 q.limit] 42:=by
  show ((w.alloc (.cells #[.slice p1 q.parts.length d1,.slice p2 q.ops.length d2,.slice p3 q.order.length d3,.int .i64 q.limit] 42)).alloc (.cells #[.slice r1 q.parts.length e1,.slice r2 q.ops.length e2,.slice r3 q.order.length e3,.int .i64 q.limit] 42)).heap[w.heap.size+1]? = _
  rw [show w.heap.size+1=(w.alloc (.cells #[.slice p1 q.parts.length d1,.slice p2 q.ops.length d2,.slice p3 q.order.length d3,.int .i64 q.limit] 42)).heap.size by simp]
  exact heap_new _ _ _
 have hal:=chain hal1 hal2
 clear hal1 hal2
 have hx1:=hq.ops
 have hx2:=hq.parts.1
 have H1:Hid (Ls2 En21 21 ((w.alloc (.cells #[.slice p1 q.parts.length d1,.slice p2 q.ops.length d2,.slice p3 q.order.length d3,.int .i64 q.limit] 42)).alloc (.cells #[.slice r1 q.parts.length e1,.slice r2 q.ops.length e2,.slice r3 q.order.length e3,.int .i64 q.limit] 42)) p1 r1 q.parts):=h1.nx en21 hal
 have H2:Hid (Ls2 EnI 1 ((w.alloc (.cells #[.slice p1 q.parts.length d1,.slice p2 q.ops.length d2,.slice p3 q.order.length d3,.int .i64 q.limit] 42)).alloc (.cells #[.slice r1 q.parts.length e1,.slice r2 q.ops.length e2,.slice r3 q.order.length e3,.int .i64 q.limit] 42)) p2 r2 q.ops):=h2.nx enI hal
 have con:=sameT_at q.order p3 d3 r3 e3 _ ((w.alloc (.cells #[.slice p1 q.parts.length d1,.slice p2 q.ops.length d2,.slice p3 q.order.length d3,.int .i64 q.limit] 42)).alloc (.cells #[.slice r1 q.parts.length e1,.slice r2 q.ops.length e2,.slice r3 q.order.length e3,.int .i64 q.limit] 42)) hq.order (h3.nx en7 hal).ss.1 (h3.nx en7 hal).ss.2
 have HQ:Hid (∀ x ∈ q.parts,BdSel x):=hq.parts.2
 clear h1 h2 h3 hq
 go_enter Tryz.func19,Tryz.ntmps19
 go_upto_region 1 with fail
 generalize ((w.alloc (.cells #[.slice p1 q.parts.length d1,.slice p2 q.ops.length d2,.slice p3 q.order.length d3,.int .i64 q.limit] 42)).alloc (.cells #[.slice r1 q.parts.length e1,.slice r2 q.ops.length e2,.slice r3 q.order.length e3,.int .i64 q.limit] 42))=w1 at *
 have x0:w1.cell? ⟨w.heap.size,0,none⟩=some (.slice p1 q.parts.length d1):=Q0.c 0 rfl
 have x1:w1.cell? ⟨w.heap.size,1,none⟩=some (.slice p2 q.ops.length d2):=Q0.c 1 rfl
 have x2:w1.cell? ⟨w.heap.size,2,none⟩=some (.slice p3 q.order.length d3):=Q0.c 2 rfl
 have x3:w1.cell? ⟨w.heap.size,3,none⟩=some (.int .i64 q.limit):=Q0.c 3 rfl
 have y0:w1.cell? ⟨w.heap.size+1,0,none⟩=some (.slice r1 q.parts.length e1):=Q1.c 0 rfl
 have y1:w1.cell? ⟨w.heap.size+1,1,none⟩=some (.slice r2 q.ops.length e2):=Q1.c 1 rfl
 have y2:w1.cell? ⟨w.heap.size+1,2,none⟩=some (.slice r3 q.order.length e3):=Q1.c 2 rfl
 have y3:w1.cell? ⟨w.heap.size+1,3,none⟩=some (.int .i64 q.limit):=Q1.c 3 rfl
 go_wp2_with fail
 refine con.mono ?_
 rintro e w2 ⟨rfl,hb2⟩
 clear con x0 x1 x2 x3 y0 y1 y2 y3
 have A2:=chain hal hb2
 replace Q0:=Q0.nx hb2
 replace Q1:=Q1.nx hb2
 have H1b:Hid _:=H1.out.nx en21 hb2
 have H2b:Hid _:=H2.out.nx enI hb2
 clear H1 H2 hal hb2
 have x1:w2.cell? ⟨w.heap.size,1,none⟩=some (.slice p2 q.ops.length d2):=Q0.c 1 rfl
 go_wp2_with fail
 clear x1
 go_loopw [47] (fun i wr=>∃ j:Nat,j≤q.ops.length∧i = .int .i64 j∧Below w2.heap.size w2 wr) (fun i _=>q.ops.length - (RowKit.intOf i).toNat)
 case atStart=>exact ⟨0,Nat.zero_le _,rfl,Below.refl _ _⟩
 case round =>
  obtain ⟨j,hj,rfl,hbr⟩:=hrel
  by_cases hlt:j<q.ops.length
  ·as_aux_lemma =>
    obtain ⟨ba,oa,_,rfl,ta,rfl⟩:=(H2b.out.1.nx enI hbr).get hlt
    obtain ⟨bb,ob,_,rfl,tb,rfl⟩:=(H2b.out.2.nx enI hbr).get hlt
    have hjz:(j:Int)<(q.ops.length:Int):=by omega
    have q0:=Q0.nx hbr
    have q1:=Q1.nx hbr
    go_upto_region 6 with fail
    simp only [Nat.mul_one] at ta tb
    obtain ⟨C,hCC,hCP,hC0⟩:∃ C:World→Prop,(∀ W W':World,C W→Below W.heap.size W W'→C W')∧(∀ W,C W→Blk W w.heap.size #[.slice p1 q.parts.length d1,.slice (some ⟨ba,oa,none⟩) q.ops.length d2,.slice p3 q.order.length d3,.int .i64 q.limit] 42∧Blk W (w.heap.size+1) #[.slice r1 q.parts.length e1,.slice (some ⟨bb,ob,none⟩) q.ops.length e2,.slice r3 q.order.length e3,.int .i64 q.limit] 42∧AtL W ba (oa+j) [.int .i64 q.ops[j]]∧AtL W bb (ob+j) [.int .i64 q.ops[j]])∧C wr:=⟨fun W=>Blk W w.heap.size #[.slice p1 q.parts.length d1,.slice (some ⟨ba,oa,none⟩) q.ops.length d2,.slice p3 q.order.length d3,.int .i64 q.limit] 42∧Blk W (w.heap.size+1) #[.slice r1 q.parts.length e1,.slice (some ⟨bb,ob,none⟩) q.ops.length e2,.slice r3 q.order.length e3,.int .i64 q.limit] 42∧AtL W ba (oa+j) [.int .i64 q.ops[j]]∧AtL W bb (ob+j) [.int .i64 q.ops[j]],fun W W' h hb=>⟨h.1.nx hb,h.2.1.nx hb,h.2.2.1.nx hb,h.2.2.2.nx hb⟩,fun _ h=>h,⟨q0,q1,ta,tb⟩⟩
    have hdr:Below wr.heap.size wr wr.drew:=(Below.refl _ _).drew
    have CW:=hCC _ _ hC0 hdr
    clear hC0
    refine wp_region_cls C (by kernel_rfl) ?_
    refine wpY_take hCC (some 50) (i:=0) (v:=.pointer (some ⟨w.heap.size,1,none⟩)) rfl rfl (by kernel_rfl) (by kernel_rfl) (by kernel_rfl) (fun _ _ _ h=>h) (Or.inl ⟨rfl,fun n hn=>?_⟩) CW ?_
    ·go_simp
    simp only [Act.put,pA,pB,pC]
    refine wpY_take hCC (some 51) (i:=1) (v:=.slice (some ⟨ba,oa,none⟩) q.ops.length d2) rfl rfl (by kernel_rfl) (by kernel_rfl) (by kernel_rfl) (fun _ _ _ h=>h) (Or.inl ⟨rfl,fun n hn=>?_⟩) CW ?_
    ·have z0:n.cell? ⟨w.heap.size,1,none⟩=some (.slice (some ⟨ba,oa,none⟩) q.ops.length d2):=(hCP n hn).1.c 1 rfl
     go_simp
    simp only [Act.put,pA,pB,pC]
    refine wpY_take hCC (some 52) (i:=2) (v:=.int .i64 j) rfl rfl (by kernel_rfl) (by kernel_rfl) (by kernel_rfl) (fun _ _ _ h=>h) (Or.inl ⟨rfl,fun n hn=>?_⟩) CW ?_
    ·go_simp
    simp only [Act.put,pA,pB,pC]
    refine wpY_take hCC (some 53) (i:=3) (v:=.pointer (some ⟨ba,oa+j,none⟩)) rfl rfl (by kernel_rfl) (by kernel_rfl) (by kernel_rfl) (fun _ _ _ h=>h) (Or.inl ⟨rfl,fun n hn=>?_⟩) CW ?_
    ·go_simp
    simp only [Act.put,pA,pB,pC]
    refine wpY_take hCC (some 54) (i:=4) (v:=.int .i64 q.ops[j]) rfl rfl (by kernel_rfl) (by kernel_rfl) (by kernel_rfl) (fun _ _ _ h=>h) (Or.inl ⟨rfl,fun n hn=>?_⟩) CW ?_
    ·have z0:n.cell? ⟨ba,oa+j,none⟩=some (.int .i64 q.ops[j]):=(hCP n hn).2.2.1.2 0 _ rfl
     go_simp
    simp only [Act.put,pA,pB,pC]
    refine wpY_take hCC (some 55) (i:=5) (v:=.pointer (some ⟨w.heap.size+1,1,none⟩)) rfl rfl (by kernel_rfl) (by kernel_rfl) (by kernel_rfl) (fun _ _ _ h=>h) (Or.inl ⟨rfl,fun n hn=>?_⟩) CW ?_
    ·go_simp
    simp only [Act.put,pA,pB,pC]
    refine wpY_take hCC (some 56) (i:=6) (v:=.slice (some ⟨bb,ob,none⟩) q.ops.length e2) rfl rfl (by kernel_rfl) (by kernel_rfl) (by kernel_rfl) (fun _ _ _ h=>h) (Or.inl ⟨rfl,fun n hn=>?_⟩) CW ?_
    ·have z0:n.cell? ⟨w.heap.size+1,1,none⟩=some (.slice (some ⟨bb,ob,none⟩) q.ops.length e2):=(hCP n hn).2.1.c 1 rfl
     go_simp
    simp only [Act.put,pA,pB,pC]
    refine wpY_take hCC (some 57) (i:=7) (v:=.int .i64 j) rfl rfl (by kernel_rfl) (by kernel_rfl) (by kernel_rfl) (fun _ _ _ h=>h) (Or.inl ⟨rfl,fun n hn=>?_⟩) CW ?_
    ·go_simp
    simp only [Act.put,pA,pB,pC]
    refine wpY_take hCC (some 58) (i:=8) (v:=.pointer (some ⟨bb,ob+j,none⟩)) rfl rfl (by kernel_rfl) (by kernel_rfl) (by kernel_rfl) (fun _ _ _ h=>h) (Or.inl ⟨rfl,fun n hn=>?_⟩) CW ?_
    ·go_simp
    simp only [Act.put,pA,pB,pC]
    refine wpY_take hCC (some 59) (i:=9) (v:=.int .i64 q.ops[j]) rfl rfl (by kernel_rfl) (by kernel_rfl) (by kernel_rfl) (fun _ _ _ h=>h) (Or.inl ⟨rfl,fun n hn=>?_⟩) CW ?_
    ·have z0:n.cell? ⟨bb,ob+j,none⟩=some (.int .i64 q.ops[j]):=(hCP n hn).2.2.2.2 0 _ rfl
     go_simp
    simp only [Act.put,pA,pB,pC]
    refine wpY_take hCC (some 60) (i:=10) (v:=.bool false) rfl rfl (by kernel_rfl) (by kernel_rfl) (by kernel_rfl) (fun _ _ _ h=>h) (Or.inl ⟨rfl,fun n hn=>?_⟩) CW ?_
    ·go_simp
    simp only [Act.put,pA,pB,pC]
    refine wpY_done (by kernel_rfl) ?_
    intro w7 hb7
    have D7:=chain hdr hb7
    clear CW hCC hCP hdr hb7
    have A7:=chain hbr D7
    clear q0 q1 ta tb
    go_wp2_with fail
    go_roundw
    case rel=>exact ⟨j+1,by omega,by go_num,A7⟩
    case measure=>simp [RowKit.intOf]; omega
  ·as_aux_lemma =>
    obtain ⟨w3,hw3⟩:∃ W,W=wr:=⟨wr,rfl⟩
    subst hw3
    replace Q0:=Q0.nx hbr
    replace Q1:=Q1.nx hbr
    have A3:=chain A2 hbr
    have H1c:Hid _:=H1b.out.nx en21 hbr
    clear H1b H2b A2 hbr
    have x0:w3.cell? ⟨w.heap.size,0,none⟩=some (.slice p1 q.parts.length d1):=Q0.c 0 rfl
    go_wp2_with fail
    clear x0 hlt hj
    go_loopw [65] (fun i wr=>∃ j:Nat,j≤q.parts.length∧i = .int .i64 j∧Below w3.heap.size w3 wr) (fun i _=>q.parts.length - (RowKit.intOf i).toNat)
    case atStart=>exact ⟨0,Nat.zero_le _,rfl,Below.refl _ _⟩
    case round =>
     obtain ⟨m,hm,rfl,hbr⟩:=hrel
     by_cases hlt:m<q.parts.length
     ·as_aux_lemma =>
       have hB:=HQ.out _ (List.getElem_mem hlt)
       obtain ⟨ba,oa,_,rfl,ta,a1,c1,a2,c2,a3,c3,a4,c4,a5,c5,rfl,l1,l2,l3,l4,l5⟩:=(H1c.out.1.nx en21 hbr).get hlt
       obtain ⟨bb,ob,_,rfl,tb,b1,f1,b2,f2,b3,f3,b4,f4,b5,f5,rfl,m1,m2,m3,m4,m5⟩:=(H1c.out.2.nx en21 hbr).get hlt
       have hjz:(m:Int)<(q.parts.length:Int):=by omega
       have q0:=Q0.nx hbr
       have q1:=Q1.nx hbr
       generalize q.parts[m]=x at *
       have L1:Hid (Ls2 En8 8 wr a1 b1 x.items):=⟨l1,m1⟩
       have L2:Hid (Ls2 En10 10 wr a2 b2 x.sources):=⟨l2,m2⟩
       have L3:Hid (Ss2 wr a3 b3 x.wher.ks):=⟨l3,m3⟩
       have L4:Hid (Ss2 wr a4 b4 x.having.ks):=⟨l4,m4⟩
       have L5:Hid (Ss2 wr a5 b5 x.group):=Ls2.ss ⟨l5,m5⟩
       have HB:Hid (BdSel x):=hB
       clear l1 m1 l2 m2 l3 m3 l4 m4 l5 m5 hB
       go_upto_region 12 with fail
       obtain ⟨C,hCC,hCP,hC0⟩:∃ C:World→Prop,(∀ W W':World,C W→Below W.heap.size W W'→C W')∧(∀ W,C W→Blk W w.heap.size #[.slice (some ⟨ba,oa,none⟩) q.parts.length d1,.slice p2 q.ops.length d2,.slice p3 q.order.length d3,.int .i64 q.limit] 42∧Blk W (w.heap.size+1) #[.slice (some ⟨bb,ob,none⟩) q.parts.length e1,.slice r2 q.ops.length e2,.slice r3 q.order.length e3,.int .i64 q.limit] 42∧AtL W ba (oa+m*21) [.bool x.distinct,.bool x.star,.slice a1 x.items.length c1,.slice a2 x.sources.length c2,.bool x.hasWhere,.bool x.hasHaving,.int .i64 x.wher.k,.int .i64 x.wher.v.1,.int .i64 x.wher.v.2.1,.string x.wher.v.2.2,.string x.wher.tab,.string x.wher.name,.slice a3 x.wher.ks.length c3,.int .i64 x.having.k,.int .i64 x.having.v.1,.int .i64 x.having.v.2.1,.string x.having.v.2.2,.string x.having.tab,.string x.having.name,.slice a4 x.having.ks.length c4,.slice a5 x.group.length c5]∧AtL W bb (ob+m*21) [.bool x.distinct,.bool x.star,.slice b1 x.items.length f1,.slice b2 x.sources.length f2,.bool x.hasWhere,.bool x.hasHaving,.int .i64 x.wher.k,.int .i64 x.wher.v.1,.int .i64 x.wher.v.2.1,.string x.wher.v.2.2,.string x.wher.tab,.string x.wher.name,.slice b3 x.wher.ks.length f3,.int .i64 x.having.k,.int .i64 x.having.v.1,.int .i64 x.having.v.2.1,.string x.having.v.2.2,.string x.having.tab,.string x.having.name,.slice b4 x.having.ks.length f4,.slice b5 x.group.length f5])∧C wr:=⟨fun W=>Blk W w.heap.size #[.slice (some ⟨ba,oa,none⟩) q.parts.length d1,.slice p2 q.ops.length d2,.slice p3 q.order.length d3,.int .i64 q.limit] 42∧Blk W (w.heap.size+1) #[.slice (some ⟨bb,ob,none⟩) q.parts.length e1,.slice r2 q.ops.length e2,.slice r3 q.order.length e3,.int .i64 q.limit] 42∧AtL W ba (oa+m*21) [.bool x.distinct,.bool x.star,.slice a1 x.items.length c1,.slice a2 x.sources.length c2,.bool x.hasWhere,.bool x.hasHaving,.int .i64 x.wher.k,.int .i64 x.wher.v.1,.int .i64 x.wher.v.2.1,.string x.wher.v.2.2,.string x.wher.tab,.string x.wher.name,.slice a3 x.wher.ks.length c3,.int .i64 x.having.k,.int .i64 x.having.v.1,.int .i64 x.having.v.2.1,.string x.having.v.2.2,.string x.having.tab,.string x.having.name,.slice a4 x.having.ks.length c4,.slice a5 x.group.length c5]∧AtL W bb (ob+m*21) [.bool x.distinct,.bool x.star,.slice b1 x.items.length f1,.slice b2 x.sources.length f2,.bool x.hasWhere,.bool x.hasHaving,.int .i64 x.wher.k,.int .i64 x.wher.v.1,.int .i64 x.wher.v.2.1,.string x.wher.v.2.2,.string x.wher.tab,.string x.wher.name,.slice b3 x.wher.ks.length f3,.int .i64 x.having.k,.int .i64 x.having.v.1,.int .i64 x.having.v.2.1,.string x.having.v.2.2,.string x.having.tab,.string x.having.name,.slice b4 x.having.ks.length f4,.slice b5 x.group.length f5],fun W W' h hb=>⟨h.1.nx hb,h.2.1.nx hb,h.2.2.1.nx hb,h.2.2.2.nx hb⟩,fun _ h=>h,⟨q0,q1,ta,tb⟩⟩
       have hdr:Below wr.heap.size wr wr.drew:=(Below.refl _ _).drew
       have CW:=hCC _ _ hC0 hdr
       clear hC0
       refine wp_region_cls C (by kernel_rfl) ?_
       refine wpY_take hCC (some 68) (i:=0) (v:=.pointer (some ⟨w.heap.size,0,none⟩)) rfl rfl (by kernel_rfl) (by kernel_rfl) (by kernel_rfl) (fun _ _ _ h=>h) (Or.inl ⟨rfl,fun n hn=>?_⟩) CW ?_
       ·go_simp
       simp only [Act.put,pA,pB,pC]
       refine wpY_take hCC (some 69) (i:=1) (v:=.slice (some ⟨ba,oa,none⟩) q.parts.length d1) rfl rfl (by kernel_rfl) (by kernel_rfl) (by kernel_rfl) (fun _ _ _ h=>h) (Or.inl ⟨rfl,fun n hn=>?_⟩) CW ?_
       ·have z0:n.cell? ⟨w.heap.size,0,none⟩=some (.slice (some ⟨ba,oa,none⟩) q.parts.length d1):=(hCP n hn).1.c 0 rfl
        go_simp
       simp only [Act.put,pA,pB,pC]
       refine wpY_take hCC (some 70) (i:=2) (v:=.int .i64 m) rfl rfl (by kernel_rfl) (by kernel_rfl) (by kernel_rfl) (fun _ _ _ h=>h) (Or.inl ⟨rfl,fun n hn=>?_⟩) CW ?_
       ·go_simp
       simp only [Act.put,pA,pB,pC]
       refine wpY_take hCC (some 71) (i:=3) (v:=.pointer (some ⟨ba,oa+m*21,none⟩)) rfl rfl (by kernel_rfl) (by kernel_rfl) (by kernel_rfl) (fun _ _ _ h=>h) (Or.inl ⟨rfl,fun n hn=>?_⟩) CW ?_
       ·go_simp
       simp only [Act.put,pA,pB,pC]
       refine wpY_take hCC (some 72) (i:=4) (v:=.agg #[.bool x.distinct,.bool x.star,.slice a1 x.items.length c1,.slice a2 x.sources.length c2,.bool x.hasWhere,.bool x.hasHaving,.int .i64 x.wher.k,.int .i64 x.wher.v.1,.int .i64 x.wher.v.2.1,.string x.wher.v.2.2,.string x.wher.tab,.string x.wher.name,.slice a3 x.wher.ks.length c3,.int .i64 x.having.k,.int .i64 x.having.v.1,.int .i64 x.having.v.2.1,.string x.having.v.2.2,.string x.having.tab,.string x.having.name,.slice a4 x.having.ks.length c4,.slice a5 x.group.length c5]) rfl rfl (by kernel_rfl) (by kernel_rfl) (by kernel_rfl) (fun _ _ _ h=>h) (grows_load rfl 55 _ rfl ba (oa+m*21) [.bool x.distinct,.bool x.star,.slice a1 x.items.length c1,.slice a2 x.sources.length c2,.bool x.hasWhere,.bool x.hasHaving,.int .i64 x.wher.k,.int .i64 x.wher.v.1,.int .i64 x.wher.v.2.1,.string x.wher.v.2.2,.string x.wher.tab,.string x.wher.name,.slice a3 x.wher.ks.length c3,.int .i64 x.having.k,.int .i64 x.having.v.1,.int .i64 x.having.v.2.1,.string x.having.v.2.2,.string x.having.tab,.string x.having.name,.slice a4 x.having.ks.length c4,.slice a5 x.group.length c5] rfl Tryz.underlying55 rfl (by kernel_rfl) (fun n hn=>(hCP n hn).2.2.1)) CW ?_
       simp only [Act.put,pA,pB,pC]
       refine wpY_take hCC (some 73) (i:=5) (v:=.pointer (some ⟨w.heap.size+1,0,none⟩)) rfl rfl (by kernel_rfl) (by kernel_rfl) (by kernel_rfl) (fun _ _ _ h=>h) (Or.inl ⟨rfl,fun n hn=>?_⟩) CW ?_
       ·go_simp
       simp only [Act.put,pA,pB,pC]
       refine wpY_take hCC (some 74) (i:=6) (v:=.slice (some ⟨bb,ob,none⟩) q.parts.length e1) rfl rfl (by kernel_rfl) (by kernel_rfl) (by kernel_rfl) (fun _ _ _ h=>h) (Or.inl ⟨rfl,fun n hn=>?_⟩) CW ?_
       ·have z0:n.cell? ⟨w.heap.size+1,0,none⟩=some (.slice (some ⟨bb,ob,none⟩) q.parts.length e1):=(hCP n hn).2.1.c 0 rfl
        go_simp
       simp only [Act.put,pA,pB,pC]
       refine wpY_take hCC (some 75) (i:=7) (v:=.int .i64 m) rfl rfl (by kernel_rfl) (by kernel_rfl) (by kernel_rfl) (fun _ _ _ h=>h) (Or.inl ⟨rfl,fun n hn=>?_⟩) CW ?_
       ·go_simp
       simp only [Act.put,pA,pB,pC]
       refine wpY_take hCC (some 76) (i:=8) (v:=.pointer (some ⟨bb,ob+m*21,none⟩)) rfl rfl (by kernel_rfl) (by kernel_rfl) (by kernel_rfl) (fun _ _ _ h=>h) (Or.inl ⟨rfl,fun n hn=>?_⟩) CW ?_
       ·go_simp
       simp only [Act.put,pA,pB,pC]
       refine wpY_take hCC (some 77) (i:=9) (v:=.agg #[.bool x.distinct,.bool x.star,.slice b1 x.items.length f1,.slice b2 x.sources.length f2,.bool x.hasWhere,.bool x.hasHaving,.int .i64 x.wher.k,.int .i64 x.wher.v.1,.int .i64 x.wher.v.2.1,.string x.wher.v.2.2,.string x.wher.tab,.string x.wher.name,.slice b3 x.wher.ks.length f3,.int .i64 x.having.k,.int .i64 x.having.v.1,.int .i64 x.having.v.2.1,.string x.having.v.2.2,.string x.having.tab,.string x.having.name,.slice b4 x.having.ks.length f4,.slice b5 x.group.length f5]) rfl rfl (by kernel_rfl) (by kernel_rfl) (by kernel_rfl) (fun _ _ _ h=>h) (grows_load rfl 55 _ rfl bb (ob+m*21) [.bool x.distinct,.bool x.star,.slice b1 x.items.length f1,.slice b2 x.sources.length f2,.bool x.hasWhere,.bool x.hasHaving,.int .i64 x.wher.k,.int .i64 x.wher.v.1,.int .i64 x.wher.v.2.1,.string x.wher.v.2.2,.string x.wher.tab,.string x.wher.name,.slice b3 x.wher.ks.length f3,.int .i64 x.having.k,.int .i64 x.having.v.1,.int .i64 x.having.v.2.1,.string x.having.v.2.2,.string x.having.tab,.string x.having.name,.slice b4 x.having.ks.length f4,.slice b5 x.group.length f5] rfl Tryz.underlying55 rfl (by kernel_rfl) (fun n hn=>(hCP n hn).2.2.2)) CW ?_
       simp only [Act.put,pA,pB,pC]
       refine wpY_two 10 11 12 13 (d0:=7) (d1:=8) (t0:=72) (t1:=77) (T:=55) ⟨⟨_,rfl,rfl,rfl,rfl⟩,⟨_,rfl,rfl,rfl,rfl⟩,⟨_,rfl,rfl,rfl,rfl⟩,⟨_,rfl,rfl,rfl,rfl⟩,by decide⟩ (by kernel_rfl) zSel #[.bool x.distinct,.bool x.star,.slice a1 x.items.length c1,.slice a2 x.sources.length c2,.bool x.hasWhere,.bool x.hasHaving,.int .i64 x.wher.k,.int .i64 x.wher.v.1,.int .i64 x.wher.v.2.1,.string x.wher.v.2.2,.string x.wher.tab,.string x.wher.name,.slice a3 x.wher.ks.length c3,.int .i64 x.having.k,.int .i64 x.having.v.1,.int .i64 x.having.v.2.1,.string x.having.v.2.2,.string x.having.tab,.string x.having.name,.slice a4 x.having.ks.length c4,.slice a5 x.group.length c5] #[.bool x.distinct,.bool x.star,.slice b1 x.items.length f1,.slice b2 x.sources.length f2,.bool x.hasWhere,.bool x.hasHaving,.int .i64 x.wher.k,.int .i64 x.wher.v.1,.int .i64 x.wher.v.2.1,.string x.wher.v.2.2,.string x.wher.tab,.string x.wher.name,.slice b3 x.wher.ks.length f3,.int .i64 x.having.k,.int .i64 x.having.v.1,.int .i64 x.having.v.2.1,.string x.having.v.2.2,.string x.having.tab,.string x.having.name,.slice b4 x.having.ks.length f4,.slice b5 x.group.length f5] al_Sel rfl rfl (Nat.le_of_ble_eq_true rfl) (Nat.le_of_ble_eq_true rfl) al_Sel2 rfl rfl (all1 rfl) (all1 rfl) (fun w' hb=>hCC _ _ CW hb) (fun A B W hA hB hn hb qA qB=>?_)
       clear CW hCC hCP
       simp only [putD,Act.put,List.setIfInBounds_toArray,List.set_cons_zero,List.set_cons_succ]
       have D1:=chain hdr hb
       have A4:=chain hbr D1
       have QA:Blk W A #[.bool x.distinct,.bool x.star,.slice a1 x.items.length c1,.slice a2 x.sources.length c2,.bool x.hasWhere,.bool x.hasHaving,.int .i64 x.wher.k,.int .i64 x.wher.v.1,.int .i64 x.wher.v.2.1,.string x.wher.v.2.2,.string x.wher.tab,.string x.wher.name,.slice a3 x.wher.ks.length c3,.int .i64 x.having.k,.int .i64 x.having.v.1,.int .i64 x.having.v.2.1,.string x.having.v.2.2,.string x.having.tab,.string x.having.name,.slice a4 x.having.ks.length c4,.slice a5 x.group.length c5] 55:=qA
       have QB:Blk W B #[.bool x.distinct,.bool x.star,.slice b1 x.items.length f1,.slice b2 x.sources.length f2,.bool x.hasWhere,.bool x.hasHaving,.int .i64 x.wher.k,.int .i64 x.wher.v.1,.int .i64 x.wher.v.2.1,.string x.wher.v.2.2,.string x.wher.tab,.string x.wher.name,.slice b3 x.wher.ks.length f3,.int .i64 x.having.k,.int .i64 x.having.v.1,.int .i64 x.having.v.2.1,.string x.having.v.2.2,.string x.having.tab,.string x.having.name,.slice b4 x.having.ks.length f4,.slice b5 x.group.length f5] 55:=qB
       have L1a:Hid _:=L1.out.nx en8 D1
       have L2a:Hid _:=L2.out.nx en10 D1
       have L3a:=L3.out.nx D1
       have L4a:Hid _:=L4.out.nx D1
       have L5a:Hid _:=L5.out.nx D1
       clear q0 q1 ta tb L1 L2 L3 L4 L5 hdr hb hbr D1 qA qB hn
       as_aux_lemma =>
        have con:=sameX_at x.wher a3 c3 b3 f3 _ W HB.out.wher L3a.1 L3a.2
        have x0:W.cell? ⟨A,0,none⟩=some (.bool x.distinct):=QA.c 0 rfl
        have x1:W.cell? ⟨A,1,none⟩=some (.bool x.star):=QA.c 1 rfl
        have x4:W.cell? ⟨A,4,none⟩=some (.bool x.hasWhere):=QA.c 4 rfl
        have x5:W.cell? ⟨A,5,none⟩=some (.bool x.hasHaving):=QA.c 5 rfl
        have x6:W.cell? ⟨A,6,none⟩=some (.int .i64 x.wher.k):=QA.c 6 rfl
        have x7:W.cell? ⟨A,7,none⟩=some (.int .i64 x.wher.v.1):=QA.c 7 rfl
        have x8:W.cell? ⟨A,8,none⟩=some (.int .i64 x.wher.v.2.1):=QA.c 8 rfl
        have x9:W.cell? ⟨A,9,none⟩=some (.string x.wher.v.2.2):=QA.c 9 rfl
        have x10:W.cell? ⟨A,10,none⟩=some (.string x.wher.tab):=QA.c 10 rfl
        have x11:W.cell? ⟨A,11,none⟩=some (.string x.wher.name):=QA.c 11 rfl
        have x12:W.cell? ⟨A,12,none⟩=some (.slice a3 x.wher.ks.length c3):=QA.c 12 rfl
        have y0:W.cell? ⟨B,0,none⟩=some (.bool x.distinct):=QB.c 0 rfl
        have y1:W.cell? ⟨B,1,none⟩=some (.bool x.star):=QB.c 1 rfl
        have y4:W.cell? ⟨B,4,none⟩=some (.bool x.hasWhere):=QB.c 4 rfl
        have y5:W.cell? ⟨B,5,none⟩=some (.bool x.hasHaving):=QB.c 5 rfl
        have y6:W.cell? ⟨B,6,none⟩=some (.int .i64 x.wher.k):=QB.c 6 rfl
        have y7:W.cell? ⟨B,7,none⟩=some (.int .i64 x.wher.v.1):=QB.c 7 rfl
        have y8:W.cell? ⟨B,8,none⟩=some (.int .i64 x.wher.v.2.1):=QB.c 8 rfl
        have y9:W.cell? ⟨B,9,none⟩=some (.string x.wher.v.2.2):=QB.c 9 rfl
        have y10:W.cell? ⟨B,10,none⟩=some (.string x.wher.tab):=QB.c 10 rfl
        have y11:W.cell? ⟨B,11,none⟩=some (.string x.wher.name):=QB.c 11 rfl
        have y12:W.cell? ⟨B,12,none⟩=some (.slice b3 x.wher.ks.length f3):=QB.c 12 rfl
        go_wp2_with fail
        refine con.mono ?_
        rintro e W2 ⟨rfl,hb⟩
        clear con L3a x0 x1 x4 x5 x6 x7 x8 x9 x10 x11 x12 y0 y1 y4 y5 y6 y7 y8 y9 y10 y11 y12
        replace QA:=QA.nx hb
        replace QB:=QB.nx hb
        have A5:=chain A4 hb
        have L4b:=L4a.out.nx hb
        have L1b:Hid _:=L1a.out.nx en8 hb
        have L2b:Hid _:=L2a.out.nx en10 hb
        have L5b:Hid _:=L5a.out.nx hb
        clear L1a L2a L4a L5a hb A4
        have con:=sameX_at x.having a4 c4 b4 f4 _ W2 HB.out.having L4b.1 L4b.2
        have x13:W2.cell? ⟨A,13,none⟩=some (.int .i64 x.having.k):=QA.c 13 rfl
        have x14:W2.cell? ⟨A,14,none⟩=some (.int .i64 x.having.v.1):=QA.c 14 rfl
        have x15:W2.cell? ⟨A,15,none⟩=some (.int .i64 x.having.v.2.1):=QA.c 15 rfl
        have x16:W2.cell? ⟨A,16,none⟩=some (.string x.having.v.2.2):=QA.c 16 rfl
        have x17:W2.cell? ⟨A,17,none⟩=some (.string x.having.tab):=QA.c 17 rfl
        have x18:W2.cell? ⟨A,18,none⟩=some (.string x.having.name):=QA.c 18 rfl
        have x19:W2.cell? ⟨A,19,none⟩=some (.slice a4 x.having.ks.length c4):=QA.c 19 rfl
        have y13:W2.cell? ⟨B,13,none⟩=some (.int .i64 x.having.k):=QB.c 13 rfl
        have y14:W2.cell? ⟨B,14,none⟩=some (.int .i64 x.having.v.1):=QB.c 14 rfl
        have y15:W2.cell? ⟨B,15,none⟩=some (.int .i64 x.having.v.2.1):=QB.c 15 rfl
        have y16:W2.cell? ⟨B,16,none⟩=some (.string x.having.v.2.2):=QB.c 16 rfl
        have y17:W2.cell? ⟨B,17,none⟩=some (.string x.having.tab):=QB.c 17 rfl
        have y18:W2.cell? ⟨B,18,none⟩=some (.string x.having.name):=QB.c 18 rfl
        have y19:W2.cell? ⟨B,19,none⟩=some (.slice b4 x.having.ks.length f4):=QB.c 19 rfl
        go_wp2_with fail
        refine con.mono ?_
        rintro e W3 ⟨rfl,hb⟩
        clear con L4b x13 x14 x15 x16 x17 x18 x19 y13 y14 y15 y16 y17 y18 y19
        replace QA:=QA.nx hb
        replace QB:=QB.nx hb
        have A6:=chain A5 hb
        have L5c:=L5b.out.nx hb
        have L1c:Hid _:=L1b.out.nx en8 hb
        have L2c:Hid _:=L2b.out.nx en10 hb
        clear L1b L2b L5b hb A5
        have con:=sameT_at x.group a5 c5 b5 f5 _ W3 HB.out.group L5c.1 L5c.2
        have x20:W3.cell? ⟨A,20,none⟩=some (.slice a5 x.group.length c5):=QA.c 20 rfl
        have y20:W3.cell? ⟨B,20,none⟩=some (.slice b5 x.group.length f5):=QB.c 20 rfl
        go_wp2_with fail
        refine con.mono ?_
        rintro e W4 ⟨rfl,hb⟩
        clear con L5c x20 y20
        replace QA:=QA.nx hb
        replace QB:=QB.nx hb
        have A7:=chain A6 hb
        have L1d:Hid _:=L1c.out.nx en8 hb
        have L2d:Hid _:=L2c.out.nx en10 hb
        have hn1:=HB.out.items.1
        have hn2:=HB.out.sources.1
        clear L1c L2c hb A6
        have x2:W4.cell? ⟨A,2,none⟩=some (.slice a1 x.items.length c1):=QA.c 2 rfl
        have x3:W4.cell? ⟨A,3,none⟩=some (.slice a2 x.sources.length c2):=QA.c 3 rfl
        have y2:W4.cell? ⟨B,2,none⟩=some (.slice b1 x.items.length f1):=QB.c 2 rfl
        have y3:W4.cell? ⟨B,3,none⟩=some (.slice b2 x.sources.length f2):=QB.c 3 rfl
        go_wp2_with fail
        clear x2 x3 y2 y3
        go_loopw [149] (fun i wr=>∃ j:Nat,j≤x.items.length∧i = .int .i64 j∧Below W4.heap.size W4 wr) (fun i _=>x.items.length - (RowKit.intOf i).toNat)
        case atStart=>exact ⟨0,Nat.zero_le _,rfl,Below.refl _ _⟩
        case round =>
         obtain ⟨j,hj,rfl,hbr⟩:=hrel
         by_cases hl2:j<x.items.length
         ·as_aux_lemma =>
           have hB:=HB.out.items.2 _ (List.getElem_mem hl2)
           obtain ⟨bc,oc,_,rfl,tc,i1,g1,rfl,k1⟩:=(L1d.out.1.nx en8 hbr).get hl2
           obtain ⟨bd,od,_,rfl,td,i2,g2,rfl,k2⟩:=(L1d.out.2.nx en8 hbr).get hl2
           have hjz2:(j:Int)<(x.items.length:Int):=by omega
           have q0:=QA.nx hbr
           have q1:=QB.nx hbr
           generalize x.items[j]=y at *
           have K1:Hid (Ss2 wr i1 i2 y.1.ks):=⟨k1,k2⟩
           clear k1 k2
           go_upto_region 18 with fail
           obtain ⟨C,hCC,hCP,hC0⟩:∃ C:World→Prop,(∀ W W':World,C W→Below W.heap.size W W'→C W')∧(∀ W,C W→Blk W A #[.bool x.distinct,.bool x.star,.slice (some ⟨bc,oc,none⟩) x.items.length c1,.slice a2 x.sources.length c2,.bool x.hasWhere,.bool x.hasHaving,.int .i64 x.wher.k,.int .i64 x.wher.v.1,.int .i64 x.wher.v.2.1,.string x.wher.v.2.2,.string x.wher.tab,.string x.wher.name,.slice a3 x.wher.ks.length c3,.int .i64 x.having.k,.int .i64 x.having.v.1,.int .i64 x.having.v.2.1,.string x.having.v.2.2,.string x.having.tab,.string x.having.name,.slice a4 x.having.ks.length c4,.slice a5 x.group.length c5] 55∧Blk W B #[.bool x.distinct,.bool x.star,.slice (some ⟨bd,od,none⟩) x.items.length f1,.slice b2 x.sources.length f2,.bool x.hasWhere,.bool x.hasHaving,.int .i64 x.wher.k,.int .i64 x.wher.v.1,.int .i64 x.wher.v.2.1,.string x.wher.v.2.2,.string x.wher.tab,.string x.wher.name,.slice b3 x.wher.ks.length f3,.int .i64 x.having.k,.int .i64 x.having.v.1,.int .i64 x.having.v.2.1,.string x.having.v.2.2,.string x.having.tab,.string x.having.name,.slice b4 x.having.ks.length f4,.slice b5 x.group.length f5] 55∧AtL W bc (oc+j*8) [.int .i64 y.1.k,.int .i64 y.1.v.1,.int .i64 y.1.v.2.1,.string y.1.v.2.2,.string y.1.tab,.string y.1.name,.slice i1 y.1.ks.length g1,.string y.2]∧AtL W bd (od+j*8) [.int .i64 y.1.k,.int .i64 y.1.v.1,.int .i64 y.1.v.2.1,.string y.1.v.2.2,.string y.1.tab,.string y.1.name,.slice i2 y.1.ks.length g2,.string y.2])∧C wr:=⟨fun W=>Blk W A #[.bool x.distinct,.bool x.star,.slice (some ⟨bc,oc,none⟩) x.items.length c1,.slice a2 x.sources.length c2,.bool x.hasWhere,.bool x.hasHaving,.int .i64 x.wher.k,.int .i64 x.wher.v.1,.int .i64 x.wher.v.2.1,.string x.wher.v.2.2,.string x.wher.tab,.string x.wher.name,.slice a3 x.wher.ks.length c3,.int .i64 x.having.k,.int .i64 x.having.v.1,.int .i64 x.having.v.2.1,.string x.having.v.2.2,.string x.having.tab,.string x.having.name,.slice a4 x.having.ks.length c4,.slice a5 x.group.length c5] 55∧Blk W B #[.bool x.distinct,.bool x.star,.slice (some ⟨bd,od,none⟩) x.items.length f1,.slice b2 x.sources.length f2,.bool x.hasWhere,.bool x.hasHaving,.int .i64 x.wher.k,.int .i64 x.wher.v.1,.int .i64 x.wher.v.2.1,.string x.wher.v.2.2,.string x.wher.tab,.string x.wher.name,.slice b3 x.wher.ks.length f3,.int .i64 x.having.k,.int .i64 x.having.v.1,.int .i64 x.having.v.2.1,.string x.having.v.2.2,.string x.having.tab,.string x.having.name,.slice b4 x.having.ks.length f4,.slice b5 x.group.length f5] 55∧AtL W bc (oc+j*8) [.int .i64 y.1.k,.int .i64 y.1.v.1,.int .i64 y.1.v.2.1,.string y.1.v.2.2,.string y.1.tab,.string y.1.name,.slice i1 y.1.ks.length g1,.string y.2]∧AtL W bd (od+j*8) [.int .i64 y.1.k,.int .i64 y.1.v.1,.int .i64 y.1.v.2.1,.string y.1.v.2.2,.string y.1.tab,.string y.1.name,.slice i2 y.1.ks.length g2,.string y.2],fun W W' h hb=>⟨h.1.nx hb,h.2.1.nx hb,h.2.2.1.nx hb,h.2.2.2.nx hb⟩,fun _ h=>h,⟨q0,q1,tc,td⟩⟩
           have hdr:Below wr.heap.size wr wr.drew:=(Below.refl _ _).drew
           have CW:=hCC _ _ hC0 hdr
           clear hC0
           refine wp_region_cls C (by kernel_rfl) ?_
           refine wpY_take hCC (some 152) (i:=0) (v:=.pointer (some ⟨A,2,none⟩)) rfl rfl (by kernel_rfl) (by kernel_rfl) (by kernel_rfl) (fun _ _ _ h=>h) (Or.inl ⟨rfl,fun n hn=>?_⟩) CW ?_
           ·go_simp
           simp only [Act.put,pA,pB,pC]
           refine wpY_take hCC (some 153) (i:=1) (v:=.slice (some ⟨bc,oc,none⟩) x.items.length c1) rfl rfl (by kernel_rfl) (by kernel_rfl) (by kernel_rfl) (fun _ _ _ h=>h) (Or.inl ⟨rfl,fun n hn=>?_⟩) CW ?_
           ·have z0:n.cell? ⟨A,2,none⟩=some (.slice (some ⟨bc,oc,none⟩) x.items.length c1):=(hCP n hn).1.c 2 rfl
            go_simp
           simp only [Act.put,pA,pB,pC]
           refine wpY_take hCC (some 154) (i:=2) (v:=.int .i64 j) rfl rfl (by kernel_rfl) (by kernel_rfl) (by kernel_rfl) (fun _ _ _ h=>h) (Or.inl ⟨rfl,fun n hn=>?_⟩) CW ?_
           ·go_simp
           simp only [Act.put,pA,pB,pC]
           refine wpY_take hCC (some 155) (i:=3) (v:=.pointer (some ⟨bc,oc+j*8,none⟩)) rfl rfl (by kernel_rfl) (by kernel_rfl) (by kernel_rfl) (fun _ _ _ h=>h) (Or.inl ⟨rfl,fun n hn=>?_⟩) CW ?_
           ·go_simp
           simp only [Act.put,pA,pB,pC]
           refine wpY_take hCC (some 156) (i:=4) (v:=.pointer (some ⟨bc,oc+j*8+7,none⟩)) rfl rfl (by kernel_rfl) (by kernel_rfl) (by kernel_rfl) (fun _ _ _ h=>h) (Or.inl ⟨rfl,fun n hn=>?_⟩) CW ?_
           ·go_simp
           simp only [Act.put,pA,pB,pC]
           refine wpY_take hCC (some 157) (i:=5) (v:=.string y.2) rfl rfl (by kernel_rfl) (by kernel_rfl) (by kernel_rfl) (fun _ _ _ h=>h) (Or.inl ⟨rfl,fun n hn=>?_⟩) CW ?_
           ·have z0:n.cell? ⟨bc,oc+j*8+7,none⟩=some (.string y.2):=(hCP n hn).2.2.1.2 7 _ rfl
            go_simp
           simp only [Act.put,pA,pB,pC]
           refine wpY_take hCC (some 158) (i:=6) (v:=.pointer (some ⟨B,2,none⟩)) rfl rfl (by kernel_rfl) (by kernel_rfl) (by kernel_rfl) (fun _ _ _ h=>h) (Or.inl ⟨rfl,fun n hn=>?_⟩) CW ?_
           ·go_simp
           simp only [Act.put,pA,pB,pC]
           refine wpY_take hCC (some 159) (i:=7) (v:=.slice (some ⟨bd,od,none⟩) x.items.length f1) rfl rfl (by kernel_rfl) (by kernel_rfl) (by kernel_rfl) (fun _ _ _ h=>h) (Or.inl ⟨rfl,fun n hn=>?_⟩) CW ?_
           ·have z0:n.cell? ⟨B,2,none⟩=some (.slice (some ⟨bd,od,none⟩) x.items.length f1):=(hCP n hn).2.1.c 2 rfl
            go_simp
           simp only [Act.put,pA,pB,pC]
           refine wpY_take hCC (some 160) (i:=8) (v:=.int .i64 j) rfl rfl (by kernel_rfl) (by kernel_rfl) (by kernel_rfl) (fun _ _ _ h=>h) (Or.inl ⟨rfl,fun n hn=>?_⟩) CW ?_
           ·go_simp
           simp only [Act.put,pA,pB,pC]
           refine wpY_take hCC (some 161) (i:=9) (v:=.pointer (some ⟨bd,od+j*8,none⟩)) rfl rfl (by kernel_rfl) (by kernel_rfl) (by kernel_rfl) (fun _ _ _ h=>h) (Or.inl ⟨rfl,fun n hn=>?_⟩) CW ?_
           ·go_simp
           simp only [Act.put,pA,pB,pC]
           refine wpY_take hCC (some 162) (i:=10) (v:=.pointer (some ⟨bd,od+j*8+7,none⟩)) rfl rfl (by kernel_rfl) (by kernel_rfl) (by kernel_rfl) (fun _ _ _ h=>h) (Or.inl ⟨rfl,fun n hn=>?_⟩) CW ?_
           ·go_simp
           simp only [Act.put,pA,pB,pC]
           refine wpY_take hCC (some 163) (i:=11) (v:=.string y.2) rfl rfl (by kernel_rfl) (by kernel_rfl) (by kernel_rfl) (fun _ _ _ h=>h) (Or.inl ⟨rfl,fun n hn=>?_⟩) CW ?_
           ·have z0:n.cell? ⟨bd,od+j*8+7,none⟩=some (.string y.2):=(hCP n hn).2.2.2.2 7 _ rfl
            go_simp
           simp only [Act.put,pA,pB,pC]
           refine wpY_take hCC (some 164) (i:=12) (v:=.bool false) rfl rfl (by kernel_rfl) (by kernel_rfl) (by kernel_rfl) (fun _ _ _ h=>h) (Or.inl ⟨rfl,fun n hn=>?_⟩) CW ?_
           ·go_simp
           simp only [Act.put,pA,pB,pC]
           refine wpY_take hCC (some 165) (i:=13) (v:=.bool false) rfl rfl (by kernel_rfl) (by kernel_rfl) (by kernel_rfl) (fun _ _ _ h=>h) (Or.inl ⟨rfl,fun n hn=>?_⟩) CW ?_
           ·go_simp
           simp only [Act.put,pA,pB,pC]
           refine wpY_take hCC (some 166) (i:=14) (v:=.pointer (some ⟨A,2,none⟩)) rfl rfl (by kernel_rfl) (by kernel_rfl) (by kernel_rfl) (fun _ _ _ h=>h) (Or.inl ⟨rfl,fun n hn=>?_⟩) CW ?_
           ·go_simp
           simp only [Act.put,pA,pB,pC]
           refine wpY_take hCC (some 167) (i:=15) (v:=.slice (some ⟨bc,oc,none⟩) x.items.length c1) rfl rfl (by kernel_rfl) (by kernel_rfl) (by kernel_rfl) (fun _ _ _ h=>h) (Or.inl ⟨rfl,fun n hn=>?_⟩) CW ?_
           ·have z0:n.cell? ⟨A,2,none⟩=some (.slice (some ⟨bc,oc,none⟩) x.items.length c1):=(hCP n hn).1.c 2 rfl
            go_simp
           simp only [Act.put,pA,pB,pC]
           refine wpY_take hCC (some 168) (i:=16) (v:=.int .i64 j) rfl rfl (by kernel_rfl) (by kernel_rfl) (by kernel_rfl) (fun _ _ _ h=>h) (Or.inl ⟨rfl,fun n hn=>?_⟩) CW ?_
           ·go_simp
           simp only [Act.put,pA,pB,pC]
           refine wpY_take hCC (some 169) (i:=17) (v:=.pointer (some ⟨bc,oc+j*8,none⟩)) rfl rfl (by kernel_rfl) (by kernel_rfl) (by kernel_rfl) (fun _ _ _ h=>h) (Or.inl ⟨rfl,fun n hn=>?_⟩) CW ?_
           ·go_simp
           simp only [Act.put,pA,pB,pC]
           refine wpY_take hCC (some 170) (i:=18) (v:=.pointer (some ⟨bc,oc+j*8,none⟩)) rfl rfl (by kernel_rfl) (by kernel_rfl) (by kernel_rfl) (fun _ _ _ h=>h) (Or.inl ⟨rfl,fun n hn=>?_⟩) CW ?_
           ·go_simp
           simp only [Act.put,pA,pB,pC]
           refine wpY_take hCC (some 171) (i:=19) (v:=.agg #[.int .i64 y.1.k,.int .i64 y.1.v.1,.int .i64 y.1.v.2.1,.string y.1.v.2.2,.string y.1.tab,.string y.1.name,.slice i1 y.1.ks.length g1]) rfl rfl (by kernel_rfl) (by kernel_rfl) (by kernel_rfl) (fun _ _ _ h=>h) (grows_load rfl 47 _ rfl bc (oc+j*8) [.int .i64 y.1.k,.int .i64 y.1.v.1,.int .i64 y.1.v.2.1,.string y.1.v.2.2,.string y.1.tab,.string y.1.name,.slice i1 y.1.ks.length g1] rfl Tryz.underlying47 rfl (by kernel_rfl) (fun n hn=>(hCP n hn).2.2.1.pre 7)) CW ?_
           simp only [Act.put,pA,pB,pC]
           refine wpY_take hCC (some 172) (i:=20) (v:=.pointer (some ⟨B,2,none⟩)) rfl rfl (by kernel_rfl) (by kernel_rfl) (by kernel_rfl) (fun _ _ _ h=>h) (Or.inl ⟨rfl,fun n hn=>?_⟩) CW ?_
           ·go_simp
           simp only [Act.put,pA,pB,pC]
           refine wpY_take hCC (some 173) (i:=21) (v:=.slice (some ⟨bd,od,none⟩) x.items.length f1) rfl rfl (by kernel_rfl) (by kernel_rfl) (by kernel_rfl) (fun _ _ _ h=>h) (Or.inl ⟨rfl,fun n hn=>?_⟩) CW ?_
           ·have z0:n.cell? ⟨B,2,none⟩=some (.slice (some ⟨bd,od,none⟩) x.items.length f1):=(hCP n hn).2.1.c 2 rfl
            go_simp
           simp only [Act.put,pA,pB,pC]
           refine wpY_take hCC (some 174) (i:=22) (v:=.int .i64 j) rfl rfl (by kernel_rfl) (by kernel_rfl) (by kernel_rfl) (fun _ _ _ h=>h) (Or.inl ⟨rfl,fun n hn=>?_⟩) CW ?_
           ·go_simp
           simp only [Act.put,pA,pB,pC]
           refine wpY_take hCC (some 175) (i:=23) (v:=.pointer (some ⟨bd,od+j*8,none⟩)) rfl rfl (by kernel_rfl) (by kernel_rfl) (by kernel_rfl) (fun _ _ _ h=>h) (Or.inl ⟨rfl,fun n hn=>?_⟩) CW ?_
           ·go_simp
           simp only [Act.put,pA,pB,pC]
           refine wpY_take hCC (some 176) (i:=24) (v:=.pointer (some ⟨bd,od+j*8,none⟩)) rfl rfl (by kernel_rfl) (by kernel_rfl) (by kernel_rfl) (fun _ _ _ h=>h) (Or.inl ⟨rfl,fun n hn=>?_⟩) CW ?_
           ·go_simp
           simp only [Act.put,pA,pB,pC]
           refine wpY_take hCC (some 177) (i:=25) (v:=.agg #[.int .i64 y.1.k,.int .i64 y.1.v.1,.int .i64 y.1.v.2.1,.string y.1.v.2.2,.string y.1.tab,.string y.1.name,.slice i2 y.1.ks.length g2]) rfl rfl (by kernel_rfl) (by kernel_rfl) (by kernel_rfl) (fun _ _ _ h=>h) (grows_load rfl 47 _ rfl bd (od+j*8) [.int .i64 y.1.k,.int .i64 y.1.v.1,.int .i64 y.1.v.2.1,.string y.1.v.2.2,.string y.1.tab,.string y.1.name,.slice i2 y.1.ks.length g2] rfl Tryz.underlying47 rfl (by kernel_rfl) (fun n hn=>(hCP n hn).2.2.2.pre 7)) CW ?_
           simp only [Act.put,pA,pB,pC]
           refine wpY_step (rs:=[26]) (by kernel_rfl) (by simp) ?_
           intro w5 hb5 jj hj
           obtain rfl:jj=26:=by simpa using hj
           clear hj
           have D5:=chain hdr hb5
           have CW5:=hCC _ _ CW hb5
           have con:=sameX_at y.1 i1 g1 i2 g2 _ w5 hB (K1.out.nx D5).1 (K1.out.nx D5).2
           refine wpOp_step rfl (fun K hK=>?_)
           go_simp
           refine con.mono ?_
           rintro e w6 ⟨rfl,hb6⟩
           have CW6:=hCC _ _ CW5 hb6
           refine hK _ _ ⟨CW6,?_⟩
           clear hK K con CW CW5
           refine wpY_take hCC (some 179) (i:=27) (v:=.bool false) rfl rfl (by kernel_rfl) (by kernel_rfl) (by kernel_rfl) (fun _ _ _ h=>h) (Or.inl ⟨rfl,fun n hn=>?_⟩) CW6 ?_
           ·go_simp
           simp only [Act.put,pA,pB,pC]
           refine wpY_take hCC (some 180) (i:=28) (v:=.bool false) rfl rfl (by kernel_rfl) (by kernel_rfl) (by kernel_rfl) (fun _ _ _ h=>h) (Or.inl ⟨rfl,fun n hn=>?_⟩) CW6 ?_
           ·go_simp
           simp only [Act.put,pA,pB,pC]
           refine wpY_done (by kernel_rfl) ?_
           intro w7 hb7
           have D7:=chain D5 (chain hb6 hb7)
           clear CW6 hCC hCP D5 hb6 hb7
           have E7:=chain hbr D7
           clear q0 q1 tc td
           go_wp2_with fail
           go_roundw
           case rel=>exact ⟨j+1,by omega,by go_num,E7⟩
           case measure=>simp [RowKit.intOf]; omega
         ·as_aux_lemma =>
           obtain ⟨W5,hw5⟩:∃ W,W=wr:=⟨wr,rfl⟩
           subst hw5
           replace QA:=QA.nx hbr
           replace QB:=QB.nx hbr
           have A8:=chain A7 hbr
           have L2e:Hid _:=L2d.out.nx en10 hbr
           clear L1d L2d A7 hbr
           have x3:W5.cell? ⟨A,3,none⟩=some (.slice a2 x.sources.length c2):=QA.c 3 rfl
           go_wp2_with fail
           clear x3 hl2 hj
           go_loopw [185] (fun i wr=>∃ j:Nat,j≤x.sources.length∧i = .int .i64 j∧Below W5.heap.size W5 wr) (fun i _=>x.sources.length - (RowKit.intOf i).toNat)
           case atStart=>exact ⟨0,Nat.zero_le _,rfl,Below.refl _ _⟩
           case round =>
            obtain ⟨j,hj,rfl,hbr⟩:=hrel
            by_cases hl2:j<x.sources.length
            ·as_aux_lemma =>
              have hB:=HB.out.sources.2 _ (List.getElem_mem hl2)
              obtain ⟨bc,oc,_,rfl,tc,i1,g1,rfl,k1⟩:=(L2e.out.1.nx en10 hbr).get hl2
              obtain ⟨bd,od,_,rfl,td,i2,g2,rfl,k2⟩:=(L2e.out.2.nx en10 hbr).get hl2
              have hjz2:(j:Int)<(x.sources.length:Int):=by omega
              have q0:=QA.nx hbr
              have q1:=QB.nx hbr
              generalize x.sources[j]=y at *
              have K1:Hid (Ss2 wr i1 i2 y.on.ks):=⟨k1,k2⟩
              clear k1 k2
              go_upto_region 24 with fail
              obtain ⟨C,hCC,hCP,hC0⟩:∃ C:World→Prop,(∀ W W':World,C W→Below W.heap.size W W'→C W')∧(∀ W,C W→Blk W A #[.bool x.distinct,.bool x.star,.slice a1 x.items.length c1,.slice (some ⟨bc,oc,none⟩) x.sources.length c2,.bool x.hasWhere,.bool x.hasHaving,.int .i64 x.wher.k,.int .i64 x.wher.v.1,.int .i64 x.wher.v.2.1,.string x.wher.v.2.2,.string x.wher.tab,.string x.wher.name,.slice a3 x.wher.ks.length c3,.int .i64 x.having.k,.int .i64 x.having.v.1,.int .i64 x.having.v.2.1,.string x.having.v.2.2,.string x.having.tab,.string x.having.name,.slice a4 x.having.ks.length c4,.slice a5 x.group.length c5] 55∧Blk W B #[.bool x.distinct,.bool x.star,.slice b1 x.items.length f1,.slice (some ⟨bd,od,none⟩) x.sources.length f2,.bool x.hasWhere,.bool x.hasHaving,.int .i64 x.wher.k,.int .i64 x.wher.v.1,.int .i64 x.wher.v.2.1,.string x.wher.v.2.2,.string x.wher.tab,.string x.wher.name,.slice b3 x.wher.ks.length f3,.int .i64 x.having.k,.int .i64 x.having.v.1,.int .i64 x.having.v.2.1,.string x.having.v.2.2,.string x.having.tab,.string x.having.name,.slice b4 x.having.ks.length f4,.slice b5 x.group.length f5] 55∧AtL W bc (oc+j*10) [.int .i64 y.kind,.string y.name,.string y.alias,.int .i64 y.on.k,.int .i64 y.on.v.1,.int .i64 y.on.v.2.1,.string y.on.v.2.2,.string y.on.tab,.string y.on.name,.slice i1 y.on.ks.length g1]∧AtL W bd (od+j*10) [.int .i64 y.kind,.string y.name,.string y.alias,.int .i64 y.on.k,.int .i64 y.on.v.1,.int .i64 y.on.v.2.1,.string y.on.v.2.2,.string y.on.tab,.string y.on.name,.slice i2 y.on.ks.length g2])∧C wr:=⟨fun W=>Blk W A #[.bool x.distinct,.bool x.star,.slice a1 x.items.length c1,.slice (some ⟨bc,oc,none⟩) x.sources.length c2,.bool x.hasWhere,.bool x.hasHaving,.int .i64 x.wher.k,.int .i64 x.wher.v.1,.int .i64 x.wher.v.2.1,.string x.wher.v.2.2,.string x.wher.tab,.string x.wher.name,.slice a3 x.wher.ks.length c3,.int .i64 x.having.k,.int .i64 x.having.v.1,.int .i64 x.having.v.2.1,.string x.having.v.2.2,.string x.having.tab,.string x.having.name,.slice a4 x.having.ks.length c4,.slice a5 x.group.length c5] 55∧Blk W B #[.bool x.distinct,.bool x.star,.slice b1 x.items.length f1,.slice (some ⟨bd,od,none⟩) x.sources.length f2,.bool x.hasWhere,.bool x.hasHaving,.int .i64 x.wher.k,.int .i64 x.wher.v.1,.int .i64 x.wher.v.2.1,.string x.wher.v.2.2,.string x.wher.tab,.string x.wher.name,.slice b3 x.wher.ks.length f3,.int .i64 x.having.k,.int .i64 x.having.v.1,.int .i64 x.having.v.2.1,.string x.having.v.2.2,.string x.having.tab,.string x.having.name,.slice b4 x.having.ks.length f4,.slice b5 x.group.length f5] 55∧AtL W bc (oc+j*10) [.int .i64 y.kind,.string y.name,.string y.alias,.int .i64 y.on.k,.int .i64 y.on.v.1,.int .i64 y.on.v.2.1,.string y.on.v.2.2,.string y.on.tab,.string y.on.name,.slice i1 y.on.ks.length g1]∧AtL W bd (od+j*10) [.int .i64 y.kind,.string y.name,.string y.alias,.int .i64 y.on.k,.int .i64 y.on.v.1,.int .i64 y.on.v.2.1,.string y.on.v.2.2,.string y.on.tab,.string y.on.name,.slice i2 y.on.ks.length g2],fun W W' h hb=>⟨h.1.nx hb,h.2.1.nx hb,h.2.2.1.nx hb,h.2.2.2.nx hb⟩,fun _ h=>h,⟨q0,q1,tc,td⟩⟩
              have hdr:Below wr.heap.size wr wr.drew:=(Below.refl _ _).drew
              have CW:=hCC _ _ hC0 hdr
              clear hC0
              refine wp_region_cls C (by kernel_rfl) ?_
              refine wpY_take hCC (some 188) (i:=0) (v:=.pointer (some ⟨A,3,none⟩)) rfl rfl (by kernel_rfl) (by kernel_rfl) (by kernel_rfl) (fun _ _ _ h=>h) (Or.inl ⟨rfl,fun n hn=>?_⟩) CW ?_
              ·go_simp
              simp only [Act.put,pA,pB,pC]
              refine wpY_take hCC (some 189) (i:=1) (v:=.slice (some ⟨bc,oc,none⟩) x.sources.length c2) rfl rfl (by kernel_rfl) (by kernel_rfl) (by kernel_rfl) (fun _ _ _ h=>h) (Or.inl ⟨rfl,fun n hn=>?_⟩) CW ?_
              ·have z0:n.cell? ⟨A,3,none⟩=some (.slice (some ⟨bc,oc,none⟩) x.sources.length c2):=(hCP n hn).1.c 3 rfl
               go_simp
              simp only [Act.put,pA,pB,pC]
              refine wpY_take hCC (some 190) (i:=2) (v:=.int .i64 j) rfl rfl (by kernel_rfl) (by kernel_rfl) (by kernel_rfl) (fun _ _ _ h=>h) (Or.inl ⟨rfl,fun n hn=>?_⟩) CW ?_
              ·go_simp
              simp only [Act.put,pA,pB,pC]
              refine wpY_take hCC (some 191) (i:=3) (v:=.pointer (some ⟨bc,oc+j*10,none⟩)) rfl rfl (by kernel_rfl) (by kernel_rfl) (by kernel_rfl) (fun _ _ _ h=>h) (Or.inl ⟨rfl,fun n hn=>?_⟩) CW ?_
              ·go_simp
              simp only [Act.put,pA,pB,pC]
              refine wpY_take hCC (some 192) (i:=4) (v:=.agg #[.int .i64 y.kind,.string y.name,.string y.alias,.int .i64 y.on.k,.int .i64 y.on.v.1,.int .i64 y.on.v.2.1,.string y.on.v.2.2,.string y.on.tab,.string y.on.name,.slice i1 y.on.ks.length g1]) rfl rfl (by kernel_rfl) (by kernel_rfl) (by kernel_rfl) (fun _ _ _ h=>h) (grows_load rfl 96 _ rfl bc (oc+j*10) [.int .i64 y.kind,.string y.name,.string y.alias,.int .i64 y.on.k,.int .i64 y.on.v.1,.int .i64 y.on.v.2.1,.string y.on.v.2.2,.string y.on.tab,.string y.on.name,.slice i1 y.on.ks.length g1] rfl Tryz.underlying96 rfl (by kernel_rfl) (fun n hn=>(hCP n hn).2.2.1)) CW ?_
              simp only [Act.put,pA,pB,pC]
              refine wpY_take hCC (some 193) (i:=5) (v:=.pointer (some ⟨B,3,none⟩)) rfl rfl (by kernel_rfl) (by kernel_rfl) (by kernel_rfl) (fun _ _ _ h=>h) (Or.inl ⟨rfl,fun n hn=>?_⟩) CW ?_
              ·go_simp
              simp only [Act.put,pA,pB,pC]
              refine wpY_take hCC (some 194) (i:=6) (v:=.slice (some ⟨bd,od,none⟩) x.sources.length f2) rfl rfl (by kernel_rfl) (by kernel_rfl) (by kernel_rfl) (fun _ _ _ h=>h) (Or.inl ⟨rfl,fun n hn=>?_⟩) CW ?_
              ·have z0:n.cell? ⟨B,3,none⟩=some (.slice (some ⟨bd,od,none⟩) x.sources.length f2):=(hCP n hn).2.1.c 3 rfl
               go_simp
              simp only [Act.put,pA,pB,pC]
              refine wpY_take hCC (some 195) (i:=7) (v:=.int .i64 j) rfl rfl (by kernel_rfl) (by kernel_rfl) (by kernel_rfl) (fun _ _ _ h=>h) (Or.inl ⟨rfl,fun n hn=>?_⟩) CW ?_
              ·go_simp
              simp only [Act.put,pA,pB,pC]
              refine wpY_take hCC (some 196) (i:=8) (v:=.pointer (some ⟨bd,od+j*10,none⟩)) rfl rfl (by kernel_rfl) (by kernel_rfl) (by kernel_rfl) (fun _ _ _ h=>h) (Or.inl ⟨rfl,fun n hn=>?_⟩) CW ?_
              ·go_simp
              simp only [Act.put,pA,pB,pC]
              refine wpY_take hCC (some 197) (i:=9) (v:=.agg #[.int .i64 y.kind,.string y.name,.string y.alias,.int .i64 y.on.k,.int .i64 y.on.v.1,.int .i64 y.on.v.2.1,.string y.on.v.2.2,.string y.on.tab,.string y.on.name,.slice i2 y.on.ks.length g2]) rfl rfl (by kernel_rfl) (by kernel_rfl) (by kernel_rfl) (fun _ _ _ h=>h) (grows_load rfl 96 _ rfl bd (od+j*10) [.int .i64 y.kind,.string y.name,.string y.alias,.int .i64 y.on.k,.int .i64 y.on.v.1,.int .i64 y.on.v.2.1,.string y.on.v.2.2,.string y.on.tab,.string y.on.name,.slice i2 y.on.ks.length g2] rfl Tryz.underlying96 rfl (by kernel_rfl) (fun n hn=>(hCP n hn).2.2.2)) CW ?_
              simp only [Act.put,pA,pB,pC]
              refine wpY_two 10 11 12 13 (d0:=11) (d1:=12) (t0:=192) (t1:=197) (T:=96) ⟨⟨_,rfl,rfl,rfl,rfl⟩,⟨_,rfl,rfl,rfl,rfl⟩,⟨_,rfl,rfl,rfl,rfl⟩,⟨_,rfl,rfl,rfl,rfl⟩,by decide⟩ (by kernel_rfl) zSrc #[.int .i64 y.kind,.string y.name,.string y.alias,.int .i64 y.on.k,.int .i64 y.on.v.1,.int .i64 y.on.v.2.1,.string y.on.v.2.2,.string y.on.tab,.string y.on.name,.slice i1 y.on.ks.length g1] #[.int .i64 y.kind,.string y.name,.string y.alias,.int .i64 y.on.k,.int .i64 y.on.v.1,.int .i64 y.on.v.2.1,.string y.on.v.2.2,.string y.on.tab,.string y.on.name,.slice i2 y.on.ks.length g2] al_Src rfl rfl (Nat.le_of_ble_eq_true rfl) (Nat.le_of_ble_eq_true rfl) al_Src2 rfl rfl (all1 rfl) (all1 rfl) (fun w' hb=>hCC _ _ CW hb) (fun A2 B2 V hA hBB hn hb qA qB=>?_)
              clear CW hCC hCP
              simp only [putD,Act.put,List.setIfInBounds_toArray,List.set_cons_zero,List.set_cons_succ]
              have D1:=chain hdr hb
              have E4:=chain hbr D1
              have QA2:Blk V A2 #[.int .i64 y.kind,.string y.name,.string y.alias,.int .i64 y.on.k,.int .i64 y.on.v.1,.int .i64 y.on.v.2.1,.string y.on.v.2.2,.string y.on.tab,.string y.on.name,.slice i1 y.on.ks.length g1] 96:=qA
              have QB2:Blk V B2 #[.int .i64 y.kind,.string y.name,.string y.alias,.int .i64 y.on.k,.int .i64 y.on.v.1,.int .i64 y.on.v.2.1,.string y.on.v.2.2,.string y.on.tab,.string y.on.name,.slice i2 y.on.ks.length g2] 96:=qB
              have K2:=K1.out.nx D1
              clear q0 q1 tc td K1 hdr hb hbr D1 qA qB hn
              as_aux_lemma =>
               have con:=sameX_at y.on i1 g1 i2 g2 _ V hB K2.1 K2.2
               have x0:V.cell? ⟨A2,0,none⟩=some (.int .i64 y.kind):=QA2.c 0 rfl
               have x1:V.cell? ⟨A2,1,none⟩=some (.string y.name):=QA2.c 1 rfl
               have x2:V.cell? ⟨A2,2,none⟩=some (.string y.alias):=QA2.c 2 rfl
               have x3:V.cell? ⟨A2,3,none⟩=some (.int .i64 y.on.k):=QA2.c 3 rfl
               have x4:V.cell? ⟨A2,4,none⟩=some (.int .i64 y.on.v.1):=QA2.c 4 rfl
               have x5:V.cell? ⟨A2,5,none⟩=some (.int .i64 y.on.v.2.1):=QA2.c 5 rfl
               have x6:V.cell? ⟨A2,6,none⟩=some (.string y.on.v.2.2):=QA2.c 6 rfl
               have x7:V.cell? ⟨A2,7,none⟩=some (.string y.on.tab):=QA2.c 7 rfl
               have x8:V.cell? ⟨A2,8,none⟩=some (.string y.on.name):=QA2.c 8 rfl
               have x9:V.cell? ⟨A2,9,none⟩=some (.slice i1 y.on.ks.length g1):=QA2.c 9 rfl
               have y0:V.cell? ⟨B2,0,none⟩=some (.int .i64 y.kind):=QB2.c 0 rfl
               have y1:V.cell? ⟨B2,1,none⟩=some (.string y.name):=QB2.c 1 rfl
               have y2:V.cell? ⟨B2,2,none⟩=some (.string y.alias):=QB2.c 2 rfl
               have y3:V.cell? ⟨B2,3,none⟩=some (.int .i64 y.on.k):=QB2.c 3 rfl
               have y4:V.cell? ⟨B2,4,none⟩=some (.int .i64 y.on.v.1):=QB2.c 4 rfl
               have y5:V.cell? ⟨B2,5,none⟩=some (.int .i64 y.on.v.2.1):=QB2.c 5 rfl
               have y6:V.cell? ⟨B2,6,none⟩=some (.string y.on.v.2.2):=QB2.c 6 rfl
               have y7:V.cell? ⟨B2,7,none⟩=some (.string y.on.tab):=QB2.c 7 rfl
               have y8:V.cell? ⟨B2,8,none⟩=some (.string y.on.name):=QB2.c 8 rfl
               have y9:V.cell? ⟨B2,9,none⟩=some (.slice i2 y.on.ks.length g2):=QB2.c 9 rfl
               go_wp2_with fail
               refine con.mono ?_
               rintro e V2 ⟨rfl,hb⟩
               clear con K2 x0 x1 x2 x3 x4 x5 x6 x7 x8 x9 y0 y1 y2 y3 y4 y5 y6 y7 y8 y9
               have E5:=chain E4 hb
               clear QA2 QB2 E4 hb
               go_wp2_with fail
               go_roundw
               case rel=>exact ⟨j+1,by omega,by go_num,E5⟩
               case measure=>simp [RowKit.intOf]; omega
            ·as_aux_lemma =>
              have A9:=chain A8 hbr
              clear A8 hbr L2e QA QB
              go_wp2_with fail
              go_roundw
              case rel=>exact ⟨m+1,by omega,by go_num,A9⟩
              case measure=>simp [RowKit.intOf]; omega
     ·as_aux_lemma =>
       have A4:=chain A3 hbr
       go_wp2_with fail
       exact bodyPost_ret (results_tmp rfl _ _ _) rfl ⟨by first | rfl | trivial,A4⟩

def zStm:Array Value:=#[.int .i64 0,.string ⟨#[]⟩,.slice none 0 0,.slice none 0 0,.slice none 0 0,.slice none 0 0,.int .i64 0,.slice none 0 0,.bool false,.int .i64 0,.int .i64 0,.int .i64 0,.string ⟨#[]⟩,.string ⟨#[]⟩,.string ⟨#[]⟩,.slice none 0 0]
theorem al_Stm (w:World):(Instr.alloc 49 true (.tuple #[])).run Tryz.prog w = .ok (.pointer (some ⟨w.heap.size,0,none⟩)) (w.alloc (.cells zStm 49)):=by
 unfold zStm
 go_simp
theorem al_Stm2:(Tryz.prog.info? 49).map (·.size)=some zStm.size:=by kernel_rfl
theorem same_at (l:List Stm) (hl:BdL BdS l) (a b:Option Addr) (ca cb:Nat) (w:World) (h:Ls2 En16 16 w a b l):Calls Tryz.prog 8 #[.slice a l.length ca,.slice b l.length cb] w (Yes w):=by
 have h1000:=hl.1
 have H1:Hid (Ls2 En16 16 w a b l):=h
 have HL:Hid (∀ x ∈ l,BdS x):=hl.2
 clear h hl
 go_enter Tryz.func8,Tryz.ntmps8
 go_wp2_with fail
 go_loopw [18] (fun i wr=>∃ j:Nat,j≤l.length∧i = .int .i64 j∧Below w.heap.size w wr) (fun i _=>l.length - (RowKit.intOf i).toNat)
 case atStart=>exact ⟨0,Nat.zero_le _,rfl,Below.refl _ _⟩
 case round =>
  obtain ⟨m,hm,rfl,hbr⟩:=hrel
  by_cases hlt:m<l.length
  ·as_aux_lemma =>
    have hB:=HL.out _ (List.getElem_mem hlt)
    obtain ⟨ba,oa,_,rfl,ta,a1,c1,p1,d1,p2,d2,p3,d3,a2,c2,a3,c3,rfl,l1,l2,l3,l4,l5,l6⟩:=(H1.out.1.nx en16 hbr).get hlt
    obtain ⟨bb,ob,_,rfl,tb,b1,f1,r1,e1,r2,e2,r3,e3,b2,f2,b3,f3,rfl,m1,m2,m3,m4,m5,m6⟩:=(H1.out.2.nx en16 hbr).get hlt
    have hjz:(m:Int)<(l.length:Int):=by omega
    generalize l[m]=x at *
    have L1:Hid (Ls2 En2 2 wr a1 b1 x.cols):=⟨l1,m1⟩
    have L2:Hid (Ls2 En21 21 wr p1 r1 x.query.parts):=⟨l2,m2⟩
    have L3:Hid (Ls2 EnI 1 wr p2 r2 x.query.ops):=⟨l3,m3⟩
    have L4:Hid (Ls2 En7 7 wr p3 r3 x.query.order):=⟨l4,m4⟩
    have L5:Hid (Ls2 (EnL En3 3) 1 wr a2 b2 x.rows):=⟨l5,m5⟩
    have L6:Hid (Ss2 wr a3 b3 x.wher.ks):=⟨l6,m6⟩
    have HB:Hid (BdS x):=hB
    clear l1 m1 l2 m2 l3 m3 l4 m4 l5 m5 l6 m6 hB
    go_upto_region 6 with fail
    obtain ⟨C,hCC,hCP,hC0⟩:∃ C:World→Prop,(∀ W W':World,C W→Below W.heap.size W W'→C W')∧(∀ W,C W→AtL W ba (oa+m*16) [.int .i64 x.kind,.string x.name,.slice a1 x.cols.length c1,.slice p1 x.query.parts.length d1,.slice p2 x.query.ops.length d2,.slice p3 x.query.order.length d3,.int .i64 x.query.limit,.slice a2 x.rows.length c2,.bool x.hasWhere,.int .i64 x.wher.k,.int .i64 x.wher.v.1,.int .i64 x.wher.v.2.1,.string x.wher.v.2.2,.string x.wher.tab,.string x.wher.name,.slice a3 x.wher.ks.length c3]∧AtL W bb (ob+m*16) [.int .i64 x.kind,.string x.name,.slice b1 x.cols.length f1,.slice r1 x.query.parts.length e1,.slice r2 x.query.ops.length e2,.slice r3 x.query.order.length e3,.int .i64 x.query.limit,.slice b2 x.rows.length f2,.bool x.hasWhere,.int .i64 x.wher.k,.int .i64 x.wher.v.1,.int .i64 x.wher.v.2.1,.string x.wher.v.2.2,.string x.wher.tab,.string x.wher.name,.slice b3 x.wher.ks.length f3])∧C wr:=⟨fun W=>AtL W ba (oa+m*16) [.int .i64 x.kind,.string x.name,.slice a1 x.cols.length c1,.slice p1 x.query.parts.length d1,.slice p2 x.query.ops.length d2,.slice p3 x.query.order.length d3,.int .i64 x.query.limit,.slice a2 x.rows.length c2,.bool x.hasWhere,.int .i64 x.wher.k,.int .i64 x.wher.v.1,.int .i64 x.wher.v.2.1,.string x.wher.v.2.2,.string x.wher.tab,.string x.wher.name,.slice a3 x.wher.ks.length c3]∧AtL W bb (ob+m*16) [.int .i64 x.kind,.string x.name,.slice b1 x.cols.length f1,.slice r1 x.query.parts.length e1,.slice r2 x.query.ops.length e2,.slice r3 x.query.order.length e3,.int .i64 x.query.limit,.slice b2 x.rows.length f2,.bool x.hasWhere,.int .i64 x.wher.k,.int .i64 x.wher.v.1,.int .i64 x.wher.v.2.1,.string x.wher.v.2.2,.string x.wher.tab,.string x.wher.name,.slice b3 x.wher.ks.length f3],fun W W' h hb=>⟨h.1.nx hb,h.2.nx hb⟩,fun _ h=>h,⟨ta,tb⟩⟩
    have hdr:Below wr.heap.size wr wr.drew:=(Below.refl _ _).drew
    have CW:=hCC _ _ hC0 hdr
    clear hC0
    refine wp_region_cls C (by kernel_rfl) ?_
    refine wpY_take hCC (some 21) (i:=0) (v:=.slice (some ⟨ba,oa,none⟩) l.length ca) rfl rfl (by kernel_rfl) (by kernel_rfl) (by kernel_rfl) (fun _ _ _ h=>h) (Or.inl ⟨rfl,fun n hn=>?_⟩) CW ?_
    ·go_simp
    simp only [Act.put,pA,pB,pC]
    refine wpY_take hCC (some 22) (i:=1) (v:=.int .i64 m) rfl rfl (by kernel_rfl) (by kernel_rfl) (by kernel_rfl) (fun _ _ _ h=>h) (Or.inl ⟨rfl,fun n hn=>?_⟩) CW ?_
    ·go_simp
    simp only [Act.put,pA,pB,pC]
    refine wpY_take hCC (some 23) (i:=2) (v:=.pointer (some ⟨ba,oa+m*16,none⟩)) rfl rfl (by kernel_rfl) (by kernel_rfl) (by kernel_rfl) (fun _ _ _ h=>h) (Or.inl ⟨rfl,fun n hn=>?_⟩) CW ?_
    ·go_simp
    simp only [Act.put,pA,pB,pC]
    refine wpY_take hCC (some 24) (i:=3) (v:=.agg #[.int .i64 x.kind,.string x.name,.slice a1 x.cols.length c1,.slice p1 x.query.parts.length d1,.slice p2 x.query.ops.length d2,.slice p3 x.query.order.length d3,.int .i64 x.query.limit,.slice a2 x.rows.length c2,.bool x.hasWhere,.int .i64 x.wher.k,.int .i64 x.wher.v.1,.int .i64 x.wher.v.2.1,.string x.wher.v.2.2,.string x.wher.tab,.string x.wher.name,.slice a3 x.wher.ks.length c3]) rfl rfl (by kernel_rfl) (by kernel_rfl) (by kernel_rfl) (fun _ _ _ h=>h) (grows_load rfl 49 _ rfl ba (oa+m*16) [.int .i64 x.kind,.string x.name,.slice a1 x.cols.length c1,.slice p1 x.query.parts.length d1,.slice p2 x.query.ops.length d2,.slice p3 x.query.order.length d3,.int .i64 x.query.limit,.slice a2 x.rows.length c2,.bool x.hasWhere,.int .i64 x.wher.k,.int .i64 x.wher.v.1,.int .i64 x.wher.v.2.1,.string x.wher.v.2.2,.string x.wher.tab,.string x.wher.name,.slice a3 x.wher.ks.length c3] rfl Tryz.underlying49 rfl (by kernel_rfl) (fun n hn=>(hCP n hn).1)) CW ?_
    simp only [Act.put,pA,pB,pC]
    refine wpY_take hCC (some 25) (i:=4) (v:=.slice (some ⟨bb,ob,none⟩) l.length cb) rfl rfl (by kernel_rfl) (by kernel_rfl) (by kernel_rfl) (fun _ _ _ h=>h) (Or.inl ⟨rfl,fun n hn=>?_⟩) CW ?_
    ·go_simp
    simp only [Act.put,pA,pB,pC]
    refine wpY_take hCC (some 26) (i:=5) (v:=.int .i64 m) rfl rfl (by kernel_rfl) (by kernel_rfl) (by kernel_rfl) (fun _ _ _ h=>h) (Or.inl ⟨rfl,fun n hn=>?_⟩) CW ?_
    ·go_simp
    simp only [Act.put,pA,pB,pC]
    refine wpY_take hCC (some 27) (i:=6) (v:=.pointer (some ⟨bb,ob+m*16,none⟩)) rfl rfl (by kernel_rfl) (by kernel_rfl) (by kernel_rfl) (fun _ _ _ h=>h) (Or.inl ⟨rfl,fun n hn=>?_⟩) CW ?_
    ·go_simp
    simp only [Act.put,pA,pB,pC]
    refine wpY_take hCC (some 28) (i:=7) (v:=.agg #[.int .i64 x.kind,.string x.name,.slice b1 x.cols.length f1,.slice r1 x.query.parts.length e1,.slice r2 x.query.ops.length e2,.slice r3 x.query.order.length e3,.int .i64 x.query.limit,.slice b2 x.rows.length f2,.bool x.hasWhere,.int .i64 x.wher.k,.int .i64 x.wher.v.1,.int .i64 x.wher.v.2.1,.string x.wher.v.2.2,.string x.wher.tab,.string x.wher.name,.slice b3 x.wher.ks.length f3]) rfl rfl (by kernel_rfl) (by kernel_rfl) (by kernel_rfl) (fun _ _ _ h=>h) (grows_load rfl 49 _ rfl bb (ob+m*16) [.int .i64 x.kind,.string x.name,.slice b1 x.cols.length f1,.slice r1 x.query.parts.length e1,.slice r2 x.query.ops.length e2,.slice r3 x.query.order.length e3,.int .i64 x.query.limit,.slice b2 x.rows.length f2,.bool x.hasWhere,.int .i64 x.wher.k,.int .i64 x.wher.v.1,.int .i64 x.wher.v.2.1,.string x.wher.v.2.2,.string x.wher.tab,.string x.wher.name,.slice b3 x.wher.ks.length f3] rfl Tryz.underlying49 rfl (by kernel_rfl) (fun n hn=>(hCP n hn).2)) CW ?_
    simp only [Act.put,pA,pB,pC]
    refine wpY_two 8 9 10 11 (d0:=6) (d1:=7) (t0:=24) (t1:=28) (T:=49) ⟨⟨_,rfl,rfl,rfl,rfl⟩,⟨_,rfl,rfl,rfl,rfl⟩,⟨_,rfl,rfl,rfl,rfl⟩,⟨_,rfl,rfl,rfl,rfl⟩,by decide⟩ (by kernel_rfl) zStm #[.int .i64 x.kind,.string x.name,.slice a1 x.cols.length c1,.slice p1 x.query.parts.length d1,.slice p2 x.query.ops.length d2,.slice p3 x.query.order.length d3,.int .i64 x.query.limit,.slice a2 x.rows.length c2,.bool x.hasWhere,.int .i64 x.wher.k,.int .i64 x.wher.v.1,.int .i64 x.wher.v.2.1,.string x.wher.v.2.2,.string x.wher.tab,.string x.wher.name,.slice a3 x.wher.ks.length c3] #[.int .i64 x.kind,.string x.name,.slice b1 x.cols.length f1,.slice r1 x.query.parts.length e1,.slice r2 x.query.ops.length e2,.slice r3 x.query.order.length e3,.int .i64 x.query.limit,.slice b2 x.rows.length f2,.bool x.hasWhere,.int .i64 x.wher.k,.int .i64 x.wher.v.1,.int .i64 x.wher.v.2.1,.string x.wher.v.2.2,.string x.wher.tab,.string x.wher.name,.slice b3 x.wher.ks.length f3] al_Stm rfl rfl (Nat.le_of_ble_eq_true rfl) (Nat.le_of_ble_eq_true rfl) al_Stm2 rfl rfl (all1 rfl) (all1 rfl) (fun w' hb=>hCC _ _ CW hb) (fun A B W hA hB hn hb qA qB=>?_)
    clear CW hCC hCP
    simp only [putD,Act.put,List.setIfInBounds_toArray,List.set_cons_zero,List.set_cons_succ]
    have D1:=chain hdr hb
    have A4:=chain hbr D1
    have QA:Blk W A #[.int .i64 x.kind,.string x.name,.slice a1 x.cols.length c1,.slice p1 x.query.parts.length d1,.slice p2 x.query.ops.length d2,.slice p3 x.query.order.length d3,.int .i64 x.query.limit,.slice a2 x.rows.length c2,.bool x.hasWhere,.int .i64 x.wher.k,.int .i64 x.wher.v.1,.int .i64 x.wher.v.2.1,.string x.wher.v.2.2,.string x.wher.tab,.string x.wher.name,.slice a3 x.wher.ks.length c3] 49:=qA
    have QB:Blk W B #[.int .i64 x.kind,.string x.name,.slice b1 x.cols.length f1,.slice r1 x.query.parts.length e1,.slice r2 x.query.ops.length e2,.slice r3 x.query.order.length e3,.int .i64 x.query.limit,.slice b2 x.rows.length f2,.bool x.hasWhere,.int .i64 x.wher.k,.int .i64 x.wher.v.1,.int .i64 x.wher.v.2.1,.string x.wher.v.2.2,.string x.wher.tab,.string x.wher.name,.slice b3 x.wher.ks.length f3] 49:=qB
    have L1a:Hid _:=L1.out.nx en2 D1
    have L2a:Hid _:=L2.out.nx en21 D1
    have L3a:Hid _:=L3.out.nx enI D1
    have L4a:Hid _:=L4.out.nx en7 D1
    have L5a:Hid _:=L5.out.nx (enL en3 3) D1
    have L6a:=L6.out.nx D1
    clear ta tb L1 L2 L3 L4 L5 L6 hdr hb hbr D1 qA qB hn
    as_aux_lemma =>
     have con:=sameX_at x.wher a3 c3 b3 f3 _ W HB.out.wher L6a.1 L6a.2
     have x0:W.cell? ⟨A,0,none⟩=some (.int .i64 x.kind):=QA.c 0 rfl
     have x1:W.cell? ⟨A,1,none⟩=some (.string x.name):=QA.c 1 rfl
     have x2:W.cell? ⟨A,2,none⟩=some (.slice a1 x.cols.length c1):=QA.c 2 rfl
     have x7:W.cell? ⟨A,7,none⟩=some (.slice a2 x.rows.length c2):=QA.c 7 rfl
     have x8:W.cell? ⟨A,8,none⟩=some (.bool x.hasWhere):=QA.c 8 rfl
     have x9:W.cell? ⟨A,9,none⟩=some (.int .i64 x.wher.k):=QA.c 9 rfl
     have x10:W.cell? ⟨A,10,none⟩=some (.int .i64 x.wher.v.1):=QA.c 10 rfl
     have x11:W.cell? ⟨A,11,none⟩=some (.int .i64 x.wher.v.2.1):=QA.c 11 rfl
     have x12:W.cell? ⟨A,12,none⟩=some (.string x.wher.v.2.2):=QA.c 12 rfl
     have x13:W.cell? ⟨A,13,none⟩=some (.string x.wher.tab):=QA.c 13 rfl
     have x14:W.cell? ⟨A,14,none⟩=some (.string x.wher.name):=QA.c 14 rfl
     have x15:W.cell? ⟨A,15,none⟩=some (.slice a3 x.wher.ks.length c3):=QA.c 15 rfl
     have y0:W.cell? ⟨B,0,none⟩=some (.int .i64 x.kind):=QB.c 0 rfl
     have y1:W.cell? ⟨B,1,none⟩=some (.string x.name):=QB.c 1 rfl
     have y2:W.cell? ⟨B,2,none⟩=some (.slice b1 x.cols.length f1):=QB.c 2 rfl
     have y7:W.cell? ⟨B,7,none⟩=some (.slice b2 x.rows.length f2):=QB.c 7 rfl
     have y8:W.cell? ⟨B,8,none⟩=some (.bool x.hasWhere):=QB.c 8 rfl
     have y9:W.cell? ⟨B,9,none⟩=some (.int .i64 x.wher.k):=QB.c 9 rfl
     have y10:W.cell? ⟨B,10,none⟩=some (.int .i64 x.wher.v.1):=QB.c 10 rfl
     have y11:W.cell? ⟨B,11,none⟩=some (.int .i64 x.wher.v.2.1):=QB.c 11 rfl
     have y12:W.cell? ⟨B,12,none⟩=some (.string x.wher.v.2.2):=QB.c 12 rfl
     have y13:W.cell? ⟨B,13,none⟩=some (.string x.wher.tab):=QB.c 13 rfl
     have y14:W.cell? ⟨B,14,none⟩=some (.string x.wher.name):=QB.c 14 rfl
     have y15:W.cell? ⟨B,15,none⟩=some (.slice b3 x.wher.ks.length f3):=QB.c 15 rfl
     go_wp2_with fail
     refine con.mono ?_
     rintro e W2 ⟨rfl,hb⟩
     clear con L6a x0 x1 x2 x7 x8 x9 x10 x11 x12 x13 x14 x15 y0 y1 y2 y7 y8 y9 y10 y11 y12 y13 y14 y15
     replace QA:=QA.nx hb
     replace QB:=QB.nx hb
     have A5:=chain A4 hb
     have L1b:Hid _:=L1a.out.nx en2 hb
     have L2b:=L2a.out.nx en21 hb
     have L3b:=L3a.out.nx enI hb
     have L4b:=L4a.out.nx en7 hb
     have L5b:Hid _:=L5a.out.nx (enL en3 3) hb
     clear L1a L2a L3a L4a L5a hb A4
     have con:=sameQ_at x.query HB.out.query p1 p2 p3 r1 r2 r3 d1 d2 d3 e1 e2 e3 W2 L2b L3b L4b
     have x3:W2.cell? ⟨A,3,none⟩=some (.slice p1 x.query.parts.length d1):=QA.c 3 rfl
     have x4:W2.cell? ⟨A,4,none⟩=some (.slice p2 x.query.ops.length d2):=QA.c 4 rfl
     have x5:W2.cell? ⟨A,5,none⟩=some (.slice p3 x.query.order.length d3):=QA.c 5 rfl
     have x6:W2.cell? ⟨A,6,none⟩=some (.int .i64 x.query.limit):=QA.c 6 rfl
     have y3:W2.cell? ⟨B,3,none⟩=some (.slice r1 x.query.parts.length e1):=QB.c 3 rfl
     have y4:W2.cell? ⟨B,4,none⟩=some (.slice r2 x.query.ops.length e2):=QB.c 4 rfl
     have y5:W2.cell? ⟨B,5,none⟩=some (.slice r3 x.query.order.length e3):=QB.c 5 rfl
     have y6:W2.cell? ⟨B,6,none⟩=some (.int .i64 x.query.limit):=QB.c 6 rfl
     go_wp2_with fail
     refine con.mono ?_
     rintro e W4 ⟨rfl,hb⟩
     clear con L2b L3b L4b x3 x4 x5 x6 y3 y4 y5 y6
     replace QA:=QA.nx hb
     replace QB:=QB.nx hb
     have A7:=chain A5 hb
     have L1d:Hid _:=L1b.out.nx en2 hb
     have L5d:Hid _:=L5b.out.nx (enL en3 3) hb
     have hn1:=HB.out.cols
     have hn2:=HB.out.rows.1
     clear L1b L5b hb A5
     have x2:W4.cell? ⟨A,2,none⟩=some (.slice a1 x.cols.length c1):=QA.c 2 rfl
     go_wp2_with fail
     clear x2
     go_loopw [85] (fun i wr=>∃ j:Nat,j≤x.cols.length∧i = .int .i64 j∧Below W4.heap.size W4 wr) (fun i _=>x.cols.length - (RowKit.intOf i).toNat)
     case atStart=>exact ⟨0,Nat.zero_le _,rfl,Below.refl _ _⟩
     case round =>
      obtain ⟨j,hj,rfl,hbr⟩:=hrel
      by_cases hl2:j<x.cols.length
      ·as_aux_lemma =>
        obtain ⟨bc,oc,_,rfl,tc,rfl⟩:=(L1d.out.1.nx en2 hbr).get hl2
        obtain ⟨bd,od,_,rfl,td,rfl⟩:=(L1d.out.2.nx en2 hbr).get hl2
        have hjz2:(j:Int)<(x.cols.length:Int):=by omega
        have q0:=QA.nx hbr
        have q1:=QB.nx hbr
        generalize x.cols[j]=y at *
        go_upto_region 12 with fail
        obtain ⟨C,hCC,hCP,hC0⟩:∃ C:World→Prop,(∀ W W':World,C W→Below W.heap.size W W'→C W')∧(∀ W,C W→Blk W A #[.int .i64 x.kind,.string x.name,.slice (some ⟨bc,oc,none⟩) x.cols.length c1,.slice p1 x.query.parts.length d1,.slice p2 x.query.ops.length d2,.slice p3 x.query.order.length d3,.int .i64 x.query.limit,.slice a2 x.rows.length c2,.bool x.hasWhere,.int .i64 x.wher.k,.int .i64 x.wher.v.1,.int .i64 x.wher.v.2.1,.string x.wher.v.2.2,.string x.wher.tab,.string x.wher.name,.slice a3 x.wher.ks.length c3] 49∧Blk W B #[.int .i64 x.kind,.string x.name,.slice (some ⟨bd,od,none⟩) x.cols.length f1,.slice r1 x.query.parts.length e1,.slice r2 x.query.ops.length e2,.slice r3 x.query.order.length e3,.int .i64 x.query.limit,.slice b2 x.rows.length f2,.bool x.hasWhere,.int .i64 x.wher.k,.int .i64 x.wher.v.1,.int .i64 x.wher.v.2.1,.string x.wher.v.2.2,.string x.wher.tab,.string x.wher.name,.slice b3 x.wher.ks.length f3] 49∧AtL W bc (oc+j*2) [.string y.1,.int .i64 y.2]∧AtL W bd (od+j*2) [.string y.1,.int .i64 y.2])∧C wr:=⟨fun W=>Blk W A #[.int .i64 x.kind,.string x.name,.slice (some ⟨bc,oc,none⟩) x.cols.length c1,.slice p1 x.query.parts.length d1,.slice p2 x.query.ops.length d2,.slice p3 x.query.order.length d3,.int .i64 x.query.limit,.slice a2 x.rows.length c2,.bool x.hasWhere,.int .i64 x.wher.k,.int .i64 x.wher.v.1,.int .i64 x.wher.v.2.1,.string x.wher.v.2.2,.string x.wher.tab,.string x.wher.name,.slice a3 x.wher.ks.length c3] 49∧Blk W B #[.int .i64 x.kind,.string x.name,.slice (some ⟨bd,od,none⟩) x.cols.length f1,.slice r1 x.query.parts.length e1,.slice r2 x.query.ops.length e2,.slice r3 x.query.order.length e3,.int .i64 x.query.limit,.slice b2 x.rows.length f2,.bool x.hasWhere,.int .i64 x.wher.k,.int .i64 x.wher.v.1,.int .i64 x.wher.v.2.1,.string x.wher.v.2.2,.string x.wher.tab,.string x.wher.name,.slice b3 x.wher.ks.length f3] 49∧AtL W bc (oc+j*2) [.string y.1,.int .i64 y.2]∧AtL W bd (od+j*2) [.string y.1,.int .i64 y.2],fun W W' h hb=>⟨h.1.nx hb,h.2.1.nx hb,h.2.2.1.nx hb,h.2.2.2.nx hb⟩,fun _ h=>h,⟨q0,q1,tc,td⟩⟩
        have hdr:Below wr.heap.size wr wr.drew:=(Below.refl _ _).drew
        have CW:=hCC _ _ hC0 hdr
        clear hC0
        refine wp_region_cls C (by kernel_rfl) ?_
        refine wpY_take hCC (some 88) (i:=0) (v:=.pointer (some ⟨A,2,none⟩)) rfl rfl (by kernel_rfl) (by kernel_rfl) (by kernel_rfl) (fun _ _ _ h=>h) (Or.inl ⟨rfl,fun n hn=>?_⟩) CW ?_
        ·go_simp
        simp only [Act.put,pA,pB,pC]
        refine wpY_take hCC (some 89) (i:=1) (v:=.slice (some ⟨bc,oc,none⟩) x.cols.length c1) rfl rfl (by kernel_rfl) (by kernel_rfl) (by kernel_rfl) (fun _ _ _ h=>h) (Or.inl ⟨rfl,fun n hn=>?_⟩) CW ?_
        ·have z0:n.cell? ⟨A,2,none⟩=some (.slice (some ⟨bc,oc,none⟩) x.cols.length c1):=(hCP n hn).1.c 2 rfl
         go_simp
        simp only [Act.put,pA,pB,pC]
        refine wpY_take hCC (some 90) (i:=2) (v:=.int .i64 j) rfl rfl (by kernel_rfl) (by kernel_rfl) (by kernel_rfl) (fun _ _ _ h=>h) (Or.inl ⟨rfl,fun n hn=>?_⟩) CW ?_
        ·go_simp
        simp only [Act.put,pA,pB,pC]
        refine wpY_take hCC (some 91) (i:=3) (v:=.pointer (some ⟨bc,oc+j*2,none⟩)) rfl rfl (by kernel_rfl) (by kernel_rfl) (by kernel_rfl) (fun _ _ _ h=>h) (Or.inl ⟨rfl,fun n hn=>?_⟩) CW ?_
        ·go_simp
        simp only [Act.put,pA,pB,pC]
        refine wpY_take hCC (some 92) (i:=4) (v:=.agg #[.string y.1,.int .i64 y.2]) rfl rfl (by kernel_rfl) (by kernel_rfl) (by kernel_rfl) (fun _ _ _ h=>h) (grows_load rfl 61 _ rfl bc (oc+j*2) [.string y.1,.int .i64 y.2] rfl Tryz.underlying61 rfl (by kernel_rfl) (fun n hn=>(hCP n hn).2.2.1)) CW ?_
        simp only [Act.put,pA,pB,pC]
        refine wpY_take hCC (some 93) (i:=5) (v:=.pointer (some ⟨B,2,none⟩)) rfl rfl (by kernel_rfl) (by kernel_rfl) (by kernel_rfl) (fun _ _ _ h=>h) (Or.inl ⟨rfl,fun n hn=>?_⟩) CW ?_
        ·go_simp
        simp only [Act.put,pA,pB,pC]
        refine wpY_take hCC (some 94) (i:=6) (v:=.slice (some ⟨bd,od,none⟩) x.cols.length f1) rfl rfl (by kernel_rfl) (by kernel_rfl) (by kernel_rfl) (fun _ _ _ h=>h) (Or.inl ⟨rfl,fun n hn=>?_⟩) CW ?_
        ·have z0:n.cell? ⟨B,2,none⟩=some (.slice (some ⟨bd,od,none⟩) x.cols.length f1):=(hCP n hn).2.1.c 2 rfl
         go_simp
        simp only [Act.put,pA,pB,pC]
        refine wpY_take hCC (some 95) (i:=7) (v:=.int .i64 j) rfl rfl (by kernel_rfl) (by kernel_rfl) (by kernel_rfl) (fun _ _ _ h=>h) (Or.inl ⟨rfl,fun n hn=>?_⟩) CW ?_
        ·go_simp
        simp only [Act.put,pA,pB,pC]
        refine wpY_take hCC (some 96) (i:=8) (v:=.pointer (some ⟨bd,od+j*2,none⟩)) rfl rfl (by kernel_rfl) (by kernel_rfl) (by kernel_rfl) (fun _ _ _ h=>h) (Or.inl ⟨rfl,fun n hn=>?_⟩) CW ?_
        ·go_simp
        simp only [Act.put,pA,pB,pC]
        refine wpY_take hCC (some 97) (i:=9) (v:=.agg #[.string y.1,.int .i64 y.2]) rfl rfl (by kernel_rfl) (by kernel_rfl) (by kernel_rfl) (fun _ _ _ h=>h) (grows_load rfl 61 _ rfl bd (od+j*2) [.string y.1,.int .i64 y.2] rfl Tryz.underlying61 rfl (by kernel_rfl) (fun n hn=>(hCP n hn).2.2.2)) CW ?_
        simp only [Act.put,pA,pB,pC]
        refine wpY_take hCC (some 98) (i:=10) (v:=.bool false) rfl rfl (by kernel_rfl) (by kernel_rfl) (by kernel_rfl) (fun _ _ _ h=>h) (Or.inl ⟨rfl,fun n hn=>?_⟩) CW ?_
        ·go_simp
        simp only [Act.put,pA,pB,pC]
        refine wpY_done (by kernel_rfl) ?_
        intro w7 hb7
        have D7:=chain hdr hb7
        clear CW hCC hCP hdr hb7
        have E7:=chain hbr D7
        clear q0 q1 tc td
        go_wp2_with fail
        go_roundw
        case rel=>exact ⟨j+1,by omega,by go_num,E7⟩
        case measure=>simp [RowKit.intOf]; omega
      ·as_aux_lemma =>
        obtain ⟨W5,hW⟩:∃ W,W=wr:=⟨wr,rfl⟩
        subst hW
        replace QA:=QA.nx hbr
        replace QB:=QB.nx hbr
        have A8:=chain A7 hbr
        have L5e:Hid _:=L5d.out.nx (enL en3 3) hbr
        clear L1d L5d A7 hbr
        have x7:W5.cell? ⟨A,7,none⟩=some (.slice a2 x.rows.length c2):=QA.c 7 rfl
        go_wp2_with fail
        clear x7 hl2 hj
        go_loopw [103] (fun i wr=>∃ j:Nat,j≤x.rows.length∧i = .int .i64 j∧Below W5.heap.size W5 wr) (fun i _=>x.rows.length - (RowKit.intOf i).toNat)
        case atStart=>exact ⟨0,Nat.zero_le _,rfl,Below.refl _ _⟩
        case round =>
         obtain ⟨j,hj,rfl,hbr⟩:=hrel
         by_cases hl2:j<x.rows.length
         ·as_aux_lemma =>
           have hB:=HB.out.rows.2 _ (List.getElem_mem hl2)
           obtain ⟨bc,oc,_,rfl,tc,s1,g1,rfl,k1⟩:=(L5e.out.1.nx (enL en3 3) hbr).get hl2
           obtain ⟨bd,od,_,rfl,td,s2,g2,rfl,k2⟩:=(L5e.out.2.nx (enL en3 3) hbr).get hl2
           have hjz2:(j:Int)<(x.rows.length:Int):=by omega
           have q0:=QA.nx hbr
           have q1:=QB.nx hbr
           generalize x.rows[j]=y at *
           have K1:Hid (Ls2 En3 3 wr s1 s2 y):=⟨k1,k2⟩
           clear k1 k2
           go_upto_region 18 with fail
           simp only [Nat.mul_one] at tc td
           obtain ⟨C,hCC,hCP,hC0⟩:∃ C:World→Prop,(∀ W W':World,C W→Below W.heap.size W W'→C W')∧(∀ W,C W→Blk W A #[.int .i64 x.kind,.string x.name,.slice a1 x.cols.length c1,.slice p1 x.query.parts.length d1,.slice p2 x.query.ops.length d2,.slice p3 x.query.order.length d3,.int .i64 x.query.limit,.slice (some ⟨bc,oc,none⟩) x.rows.length c2,.bool x.hasWhere,.int .i64 x.wher.k,.int .i64 x.wher.v.1,.int .i64 x.wher.v.2.1,.string x.wher.v.2.2,.string x.wher.tab,.string x.wher.name,.slice a3 x.wher.ks.length c3] 49∧Blk W B #[.int .i64 x.kind,.string x.name,.slice b1 x.cols.length f1,.slice r1 x.query.parts.length e1,.slice r2 x.query.ops.length e2,.slice r3 x.query.order.length e3,.int .i64 x.query.limit,.slice (some ⟨bd,od,none⟩) x.rows.length f2,.bool x.hasWhere,.int .i64 x.wher.k,.int .i64 x.wher.v.1,.int .i64 x.wher.v.2.1,.string x.wher.v.2.2,.string x.wher.tab,.string x.wher.name,.slice b3 x.wher.ks.length f3] 49∧AtL W bc (oc+j) [.slice s1 y.length g1]∧AtL W bd (od+j) [.slice s2 y.length g2])∧C wr:=⟨fun W=>Blk W A #[.int .i64 x.kind,.string x.name,.slice a1 x.cols.length c1,.slice p1 x.query.parts.length d1,.slice p2 x.query.ops.length d2,.slice p3 x.query.order.length d3,.int .i64 x.query.limit,.slice (some ⟨bc,oc,none⟩) x.rows.length c2,.bool x.hasWhere,.int .i64 x.wher.k,.int .i64 x.wher.v.1,.int .i64 x.wher.v.2.1,.string x.wher.v.2.2,.string x.wher.tab,.string x.wher.name,.slice a3 x.wher.ks.length c3] 49∧Blk W B #[.int .i64 x.kind,.string x.name,.slice b1 x.cols.length f1,.slice r1 x.query.parts.length e1,.slice r2 x.query.ops.length e2,.slice r3 x.query.order.length e3,.int .i64 x.query.limit,.slice (some ⟨bd,od,none⟩) x.rows.length f2,.bool x.hasWhere,.int .i64 x.wher.k,.int .i64 x.wher.v.1,.int .i64 x.wher.v.2.1,.string x.wher.v.2.2,.string x.wher.tab,.string x.wher.name,.slice b3 x.wher.ks.length f3] 49∧AtL W bc (oc+j) [.slice s1 y.length g1]∧AtL W bd (od+j) [.slice s2 y.length g2],fun W W' h hb=>⟨h.1.nx hb,h.2.1.nx hb,h.2.2.1.nx hb,h.2.2.2.nx hb⟩,fun _ h=>h,⟨q0,q1,tc,td⟩⟩
           have hdr:Below wr.heap.size wr wr.drew:=(Below.refl _ _).drew
           have CW:=hCC _ _ hC0 hdr
           clear hC0
           refine wp_region_cls C (by kernel_rfl) ?_
           refine wpY_take hCC (some 106) (i:=0) (v:=.pointer (some ⟨A,7,none⟩)) rfl rfl (by kernel_rfl) (by kernel_rfl) (by kernel_rfl) (fun _ _ _ h=>h) (Or.inl ⟨rfl,fun n hn=>?_⟩) CW ?_
           ·go_simp
           simp only [Act.put,pA,pB,pC]
           refine wpY_take hCC (some 107) (i:=1) (v:=.slice (some ⟨bc,oc,none⟩) x.rows.length c2) rfl rfl (by kernel_rfl) (by kernel_rfl) (by kernel_rfl) (fun _ _ _ h=>h) (Or.inl ⟨rfl,fun n hn=>?_⟩) CW ?_
           ·have z0:n.cell? ⟨A,7,none⟩=some (.slice (some ⟨bc,oc,none⟩) x.rows.length c2):=(hCP n hn).1.c 7 rfl
            go_simp
           simp only [Act.put,pA,pB,pC]
           refine wpY_take hCC (some 108) (i:=2) (v:=.int .i64 j) rfl rfl (by kernel_rfl) (by kernel_rfl) (by kernel_rfl) (fun _ _ _ h=>h) (Or.inl ⟨rfl,fun n hn=>?_⟩) CW ?_
           ·go_simp
           simp only [Act.put,pA,pB,pC]
           refine wpY_take hCC (some 109) (i:=3) (v:=.pointer (some ⟨bc,oc+j,none⟩)) rfl rfl (by kernel_rfl) (by kernel_rfl) (by kernel_rfl) (fun _ _ _ h=>h) (Or.inl ⟨rfl,fun n hn=>?_⟩) CW ?_
           ·go_simp
           simp only [Act.put,pA,pB,pC]
           refine wpY_take hCC (some 110) (i:=4) (v:=.slice s1 y.length g1) rfl rfl (by kernel_rfl) (by kernel_rfl) (by kernel_rfl) (fun _ _ _ h=>h) (Or.inl ⟨rfl,fun n hn=>?_⟩) CW ?_
           ·have z0:n.cell? ⟨bc,oc+j,none⟩=some (.slice s1 y.length g1):=(hCP n hn).2.2.1.2 0 _ rfl
            go_simp
           simp only [Act.put,pA,pB,pC]
           refine wpY_take hCC (some 111) (i:=5) (v:=.int .i64 y.length) rfl rfl (by kernel_rfl) (by kernel_rfl) (by kernel_rfl) (fun _ _ _ h=>h) (Or.inl ⟨rfl,fun n hn=>?_⟩) CW ?_
           ·go_simp
           simp only [Act.put,pA,pB,pC]
           refine wpY_take hCC (some 112) (i:=6) (v:=.pointer (some ⟨B,7,none⟩)) rfl rfl (by kernel_rfl) (by kernel_rfl) (by kernel_rfl) (fun _ _ _ h=>h) (Or.inl ⟨rfl,fun n hn=>?_⟩) CW ?_
           ·go_simp
           simp only [Act.put,pA,pB,pC]
           refine wpY_take hCC (some 113) (i:=7) (v:=.slice (some ⟨bd,od,none⟩) x.rows.length f2) rfl rfl (by kernel_rfl) (by kernel_rfl) (by kernel_rfl) (fun _ _ _ h=>h) (Or.inl ⟨rfl,fun n hn=>?_⟩) CW ?_
           ·have z0:n.cell? ⟨B,7,none⟩=some (.slice (some ⟨bd,od,none⟩) x.rows.length f2):=(hCP n hn).2.1.c 7 rfl
            go_simp
           simp only [Act.put,pA,pB,pC]
           refine wpY_take hCC (some 114) (i:=8) (v:=.int .i64 j) rfl rfl (by kernel_rfl) (by kernel_rfl) (by kernel_rfl) (fun _ _ _ h=>h) (Or.inl ⟨rfl,fun n hn=>?_⟩) CW ?_
           ·go_simp
           simp only [Act.put,pA,pB,pC]
           refine wpY_take hCC (some 115) (i:=9) (v:=.pointer (some ⟨bd,od+j,none⟩)) rfl rfl (by kernel_rfl) (by kernel_rfl) (by kernel_rfl) (fun _ _ _ h=>h) (Or.inl ⟨rfl,fun n hn=>?_⟩) CW ?_
           ·go_simp
           simp only [Act.put,pA,pB,pC]
           refine wpY_take hCC (some 116) (i:=10) (v:=.slice s2 y.length g2) rfl rfl (by kernel_rfl) (by kernel_rfl) (by kernel_rfl) (fun _ _ _ h=>h) (Or.inl ⟨rfl,fun n hn=>?_⟩) CW ?_
           ·have z0:n.cell? ⟨bd,od+j,none⟩=some (.slice s2 y.length g2):=(hCP n hn).2.2.2.2 0 _ rfl
            go_simp
           simp only [Act.put,pA,pB,pC]
           refine wpY_take hCC (some 117) (i:=11) (v:=.int .i64 y.length) rfl rfl (by kernel_rfl) (by kernel_rfl) (by kernel_rfl) (fun _ _ _ h=>h) (Or.inl ⟨rfl,fun n hn=>?_⟩) CW ?_
           ·go_simp
           simp only [Act.put,pA,pB,pC]
           refine wpY_take hCC (some 118) (i:=12) (v:=.bool false) rfl rfl (by kernel_rfl) (by kernel_rfl) (by kernel_rfl) (fun _ _ _ h=>h) (Or.inl ⟨rfl,fun n hn=>?_⟩) CW ?_
           ·go_simp
           simp only [Act.put,pA,pB,pC]
           refine wpY_done (by kernel_rfl) ?_
           intro w7 hb7
           have D7:=chain hdr hb7
           clear CW hCC hCP hdr hb7
           as_aux_lemma =>
            have E7:=chain hbr D7
            replace q0:=q0.nx D7
            replace q1:=q1.nx D7
            replace tc:=tc.nx D7
            replace td:=td.nx D7
            have K2:Hid _:=K1.out.nx en3 D7
            clear K1 hbr D7
            have x7:w7.cell? ⟨A,7,none⟩=some (.slice (some ⟨bc,oc,none⟩) x.rows.length c2):=q0.c 7 rfl
            have z0:w7.cell? ⟨bc,oc+j,none⟩=some (.slice s1 y.length g1):=tc.2 0 _ rfl
            go_wp2_with fail
            clear x7 z0
            go_loopw [125] (fun i wr=>∃ k:Nat,k≤y.length∧i = .int .i64 k∧Below w7.heap.size w7 wr) (fun i _=>y.length - (RowKit.intOf i).toNat)
            case atStart=>exact ⟨0,Nat.zero_le _,rfl,Below.refl _ _⟩
            case round =>
             obtain ⟨k,hk,rfl,hbr⟩:=hrel
             by_cases hl3:k<y.length
             ·as_aux_lemma =>
               obtain ⟨bv,ov,_,rfl,tv,rfl⟩:=(K2.out.1.nx en3 hbr).get hl3
               obtain ⟨bu,ou,_,rfl,tu,rfl⟩:=(K2.out.2.nx en3 hbr).get hl3
               have hjz3:(k:Int)<(y.length:Int):=by omega
               have q0r:=q0.nx hbr
               have q1r:=q1.nx hbr
               have tcr:=tc.nx hbr
               have tdr:=td.nx hbr
               generalize y[k]=z at *
               go_upto_region 23 with fail
               obtain ⟨C,hCC,hCP,hC0⟩:∃ C:World→Prop,(∀ W W':World,C W→Below W.heap.size W W'→C W')∧(∀ W,C W→Blk W A #[.int .i64 x.kind,.string x.name,.slice a1 x.cols.length c1,.slice p1 x.query.parts.length d1,.slice p2 x.query.ops.length d2,.slice p3 x.query.order.length d3,.int .i64 x.query.limit,.slice (some ⟨bc,oc,none⟩) x.rows.length c2,.bool x.hasWhere,.int .i64 x.wher.k,.int .i64 x.wher.v.1,.int .i64 x.wher.v.2.1,.string x.wher.v.2.2,.string x.wher.tab,.string x.wher.name,.slice a3 x.wher.ks.length c3] 49∧Blk W B #[.int .i64 x.kind,.string x.name,.slice b1 x.cols.length f1,.slice r1 x.query.parts.length e1,.slice r2 x.query.ops.length e2,.slice r3 x.query.order.length e3,.int .i64 x.query.limit,.slice (some ⟨bd,od,none⟩) x.rows.length f2,.bool x.hasWhere,.int .i64 x.wher.k,.int .i64 x.wher.v.1,.int .i64 x.wher.v.2.1,.string x.wher.v.2.2,.string x.wher.tab,.string x.wher.name,.slice b3 x.wher.ks.length f3] 49∧AtL W bc (oc+j) [.slice (some ⟨bv,ov,none⟩) y.length g1]∧AtL W bd (od+j) [.slice (some ⟨bu,ou,none⟩) y.length g2]∧AtL W bv (ov+k*3) [.int .i64 z.1,.int .i64 z.2.1,.string z.2.2]∧AtL W bu (ou+k*3) [.int .i64 z.1,.int .i64 z.2.1,.string z.2.2])∧C wr:=⟨fun W=>Blk W A #[.int .i64 x.kind,.string x.name,.slice a1 x.cols.length c1,.slice p1 x.query.parts.length d1,.slice p2 x.query.ops.length d2,.slice p3 x.query.order.length d3,.int .i64 x.query.limit,.slice (some ⟨bc,oc,none⟩) x.rows.length c2,.bool x.hasWhere,.int .i64 x.wher.k,.int .i64 x.wher.v.1,.int .i64 x.wher.v.2.1,.string x.wher.v.2.2,.string x.wher.tab,.string x.wher.name,.slice a3 x.wher.ks.length c3] 49∧Blk W B #[.int .i64 x.kind,.string x.name,.slice b1 x.cols.length f1,.slice r1 x.query.parts.length e1,.slice r2 x.query.ops.length e2,.slice r3 x.query.order.length e3,.int .i64 x.query.limit,.slice (some ⟨bd,od,none⟩) x.rows.length f2,.bool x.hasWhere,.int .i64 x.wher.k,.int .i64 x.wher.v.1,.int .i64 x.wher.v.2.1,.string x.wher.v.2.2,.string x.wher.tab,.string x.wher.name,.slice b3 x.wher.ks.length f3] 49∧AtL W bc (oc+j) [.slice (some ⟨bv,ov,none⟩) y.length g1]∧AtL W bd (od+j) [.slice (some ⟨bu,ou,none⟩) y.length g2]∧AtL W bv (ov+k*3) [.int .i64 z.1,.int .i64 z.2.1,.string z.2.2]∧AtL W bu (ou+k*3) [.int .i64 z.1,.int .i64 z.2.1,.string z.2.2],fun W W' h hb=>⟨h.1.nx hb,h.2.1.nx hb,h.2.2.1.nx hb,h.2.2.2.1.nx hb,h.2.2.2.2.1.nx hb,h.2.2.2.2.2.nx hb⟩,fun _ h=>h,⟨q0r,q1r,tcr,tdr,tv,tu⟩⟩
               have hdr:Below wr.heap.size wr wr.drew:=(Below.refl _ _).drew
               have CW:=hCC _ _ hC0 hdr
               clear hC0
               refine wp_region_cls C (by kernel_rfl) ?_
               refine wpY_take hCC (some 128) (i:=0) (v:=.pointer (some ⟨A,7,none⟩)) rfl rfl (by kernel_rfl) (by kernel_rfl) (by kernel_rfl) (fun _ _ _ h=>h) (Or.inl ⟨rfl,fun n hn=>?_⟩) CW ?_
               ·go_simp
               simp only [Act.put,pA,pB,pC]
               refine wpY_take hCC (some 129) (i:=1) (v:=.slice (some ⟨bc,oc,none⟩) x.rows.length c2) rfl rfl (by kernel_rfl) (by kernel_rfl) (by kernel_rfl) (fun _ _ _ h=>h) (Or.inl ⟨rfl,fun n hn=>?_⟩) CW ?_
               ·have z0:n.cell? ⟨A,7,none⟩=some (.slice (some ⟨bc,oc,none⟩) x.rows.length c2):=(hCP n hn).1.c 7 rfl
                go_simp
               simp only [Act.put,pA,pB,pC]
               refine wpY_take hCC (some 130) (i:=2) (v:=.int .i64 j) rfl rfl (by kernel_rfl) (by kernel_rfl) (by kernel_rfl) (fun _ _ _ h=>h) (Or.inl ⟨rfl,fun n hn=>?_⟩) CW ?_
               ·go_simp
               simp only [Act.put,pA,pB,pC]
               refine wpY_take hCC (some 131) (i:=3) (v:=.pointer (some ⟨bc,oc+j,none⟩)) rfl rfl (by kernel_rfl) (by kernel_rfl) (by kernel_rfl) (fun _ _ _ h=>h) (Or.inl ⟨rfl,fun n hn=>?_⟩) CW ?_
               ·go_simp
               simp only [Act.put,pA,pB,pC]
               refine wpY_take hCC (some 132) (i:=4) (v:=.slice (some ⟨bv,ov,none⟩) y.length g1) rfl rfl (by kernel_rfl) (by kernel_rfl) (by kernel_rfl) (fun _ _ _ h=>h) (Or.inl ⟨rfl,fun n hn=>?_⟩) CW ?_
               ·have z0:n.cell? ⟨bc,oc+j,none⟩=some (.slice (some ⟨bv,ov,none⟩) y.length g1):=(hCP n hn).2.2.1.2 0 _ rfl
                go_simp
               simp only [Act.put,pA,pB,pC]
               refine wpY_take hCC (some 133) (i:=5) (v:=.int .i64 k) rfl rfl (by kernel_rfl) (by kernel_rfl) (by kernel_rfl) (fun _ _ _ h=>h) (Or.inl ⟨rfl,fun n hn=>?_⟩) CW ?_
               ·go_simp
               simp only [Act.put,pA,pB,pC]
               refine wpY_take hCC (some 134) (i:=6) (v:=.pointer (some ⟨bv,ov+k*3,none⟩)) rfl rfl (by kernel_rfl) (by kernel_rfl) (by kernel_rfl) (fun _ _ _ h=>h) (Or.inl ⟨rfl,fun n hn=>?_⟩) CW ?_
               ·go_simp
               simp only [Act.put,pA,pB,pC]
               refine wpY_take hCC (some 135) (i:=7) (v:=.agg #[.int .i64 z.1,.int .i64 z.2.1,.string z.2.2]) rfl rfl (by kernel_rfl) (by kernel_rfl) (by kernel_rfl) (fun _ _ _ h=>h) (grows_load rfl 45 _ rfl bv (ov+k*3) [.int .i64 z.1,.int .i64 z.2.1,.string z.2.2] rfl Tryz.underlying45 rfl (by kernel_rfl) (fun n hn=>(hCP n hn).2.2.2.2.1)) CW ?_
               simp only [Act.put,pA,pB,pC]
               refine wpY_take hCC (some 136) (i:=8) (v:=.pointer (some ⟨B,7,none⟩)) rfl rfl (by kernel_rfl) (by kernel_rfl) (by kernel_rfl) (fun _ _ _ h=>h) (Or.inl ⟨rfl,fun n hn=>?_⟩) CW ?_
               ·go_simp
               simp only [Act.put,pA,pB,pC]
               refine wpY_take hCC (some 137) (i:=9) (v:=.slice (some ⟨bd,od,none⟩) x.rows.length f2) rfl rfl (by kernel_rfl) (by kernel_rfl) (by kernel_rfl) (fun _ _ _ h=>h) (Or.inl ⟨rfl,fun n hn=>?_⟩) CW ?_
               ·have z0:n.cell? ⟨B,7,none⟩=some (.slice (some ⟨bd,od,none⟩) x.rows.length f2):=(hCP n hn).2.1.c 7 rfl
                go_simp
               simp only [Act.put,pA,pB,pC]
               refine wpY_take hCC (some 138) (i:=10) (v:=.int .i64 j) rfl rfl (by kernel_rfl) (by kernel_rfl) (by kernel_rfl) (fun _ _ _ h=>h) (Or.inl ⟨rfl,fun n hn=>?_⟩) CW ?_
               ·go_simp
               simp only [Act.put,pA,pB,pC]
               refine wpY_take hCC (some 139) (i:=11) (v:=.pointer (some ⟨bd,od+j,none⟩)) rfl rfl (by kernel_rfl) (by kernel_rfl) (by kernel_rfl) (fun _ _ _ h=>h) (Or.inl ⟨rfl,fun n hn=>?_⟩) CW ?_
               ·go_simp
               simp only [Act.put,pA,pB,pC]
               refine wpY_take hCC (some 140) (i:=12) (v:=.slice (some ⟨bu,ou,none⟩) y.length g2) rfl rfl (by kernel_rfl) (by kernel_rfl) (by kernel_rfl) (fun _ _ _ h=>h) (Or.inl ⟨rfl,fun n hn=>?_⟩) CW ?_
               ·have z0:n.cell? ⟨bd,od+j,none⟩=some (.slice (some ⟨bu,ou,none⟩) y.length g2):=(hCP n hn).2.2.2.1.2 0 _ rfl
                go_simp
               simp only [Act.put,pA,pB,pC]
               refine wpY_take hCC (some 141) (i:=13) (v:=.int .i64 k) rfl rfl (by kernel_rfl) (by kernel_rfl) (by kernel_rfl) (fun _ _ _ h=>h) (Or.inl ⟨rfl,fun n hn=>?_⟩) CW ?_
               ·go_simp
               simp only [Act.put,pA,pB,pC]
               refine wpY_take hCC (some 142) (i:=14) (v:=.pointer (some ⟨bu,ou+k*3,none⟩)) rfl rfl (by kernel_rfl) (by kernel_rfl) (by kernel_rfl) (fun _ _ _ h=>h) (Or.inl ⟨rfl,fun n hn=>?_⟩) CW ?_
               ·go_simp
               simp only [Act.put,pA,pB,pC]
               refine wpY_take hCC (some 143) (i:=15) (v:=.agg #[.int .i64 z.1,.int .i64 z.2.1,.string z.2.2]) rfl rfl (by kernel_rfl) (by kernel_rfl) (by kernel_rfl) (fun _ _ _ h=>h) (grows_load rfl 45 _ rfl bu (ou+k*3) [.int .i64 z.1,.int .i64 z.2.1,.string z.2.2] rfl Tryz.underlying45 rfl (by kernel_rfl) (fun n hn=>(hCP n hn).2.2.2.2.2)) CW ?_
               simp only [Act.put,pA,pB,pC]
               refine wpY_take hCC (some 144) (i:=16) (v:=.bool false) rfl rfl (by kernel_rfl) (by kernel_rfl) (by kernel_rfl) (fun _ _ _ h=>h) (Or.inl ⟨rfl,fun n hn=>?_⟩) CW ?_
               ·go_simp
               simp only [Act.put,pA,pB,pC]
               refine wpY_done (by kernel_rfl) ?_
               intro w8 hb7
               have D7:=chain hdr hb7
               clear CW hCC hCP hdr hb7
               have F7:=chain hbr D7
               clear q0r q1r tcr tdr tv tu
               go_wp2_with fail
               go_roundw
               case rel=>exact ⟨k+1,by omega,by go_num,F7⟩
               case measure=>simp [RowKit.intOf]; omega
             ·as_aux_lemma =>
               have E8:=chain E7 hbr
               clear E7 hbr K2 q0 q1 tc td
               go_wp2_with fail
               go_roundw
               case rel=>exact ⟨j+1,by omega,by go_num,E8⟩
               case measure=>simp [RowKit.intOf]; omega
         ·as_aux_lemma =>
           have A9:=chain A8 hbr
           clear A8 hbr L5e QA QB
           go_wp2_with fail
           go_roundw
           case rel=>exact ⟨m+1,by omega,by go_num,A9⟩
           case measure=>simp [RowKit.intOf]; omega
  ·as_aux_lemma =>
    go_wp2_with fail
    exact bodyPost_ret (results_tmp rfl _ _ _) rfl ⟨by first | rfl | trivial,hbr⟩
set_option maxHeartbeats 4000000

/-- All cells of a list. -/
theorem LsE.flat {α:Type} {En:EnT α} {size:Nat} {S:Nat→Prop} {W:World} {b off:Nat} {l:List α} (h:∀ (i:Nat) (h:i<l.length),∃ cs,cs.length=size∧(∀ j u,cs[j]? = some u→W.cell? ⟨b,off+i*size+j,none⟩=some u)∧En S W l[i] cs) :
  ∀ k,k≤l.length→∃ news:List Value,news.length=k*size∧(∀ j u,news[j]? = some u→W.cell? ⟨b,off+j,none⟩=some u)∧∀ (i:Nat) (_:i<k) (h:i<l.length),∃ cs,cs.length=size∧(∀ j,j<size→news[i*size+j]? = cs[j]?)∧En S W l[i] cs
 | 0,_=>⟨[],by simp,by simp,fun i hi=>by omega⟩
 | k+1,hk=>by
  obtain ⟨news,h1,h2,h3⟩:=LsE.flat h k (by omega)
  obtain ⟨cs,c1,c2,c3⟩:=h k (by omega)
  refine ⟨news ++ cs,by rw [List.length_append,h1,c1,Nat.add_mul,Nat.one_mul],fun j u hj=>?_,fun i hi hl=>?_⟩
  ·by_cases hlt:j<news.length
   ·rw [List.getElem?_append_left hlt] at hj; exact h2 j u hj
   ·rw [List.getElem?_append_right (by omega)] at hj
    have:=c2 _ u hj
    rwa [show off+k*size+(j - news.length)=off+j by omega] at this
  ·by_cases hlt:i<k
   ·obtain ⟨c,d1,d2,d3⟩:=h3 i hlt hl
    refine ⟨c,d1,fun j hj=>?_,d3⟩
    rw [List.getElem?_append_left (by rw [h1]; have:(i+1)*size≤k*size:=Nat.mul_le_mul_right _ hlt; rw [Nat.add_mul,Nat.one_mul] at this; omega)]
    exact d2 j hj
   ·obtain rfl:i=k:=by omega
    refine ⟨cs,c1,fun j hj=>?_,c3⟩
    rw [List.getElem?_append_right (by omega),h1]
    congr 1
    omega
/-- Many more. -/
theorem OwnE.pushAll {α:Type} {En:EnT α} (ok:EnOk En) {e size base:Nat} {S:Nat→Prop} {W W1:World} {v v':Value} {l l2:List α} {xs news:List Value}
  (h1:W.ownsRow base e size v l.length xs) (h2:∀ (i:Nat) (h:i<l.length),∃ cs,cs.length=size∧(∀ j,j<size→xs[i*size+j]? = cs[j]?)∧En (SXb S v W) W l[i] cs)
  (hn:∀ (i:Nat) (h:i<l2.length),∃ cs,cs.length=size∧(∀ j,j<size→news[i*size+j]? = cs[j]?)∧En (SXb S v W) W l2[i] cs) (ho:W1.ownsRow base e size v' (l.length+l2.length) (xs ++ news)) (hg:W.grownBy W1 v.ownBlock) (hd:v'.ownBlock=v.ownBlock∨v'.ownBlock=some W.heap.size):OwnE En e size base S W1 v' (l ++ l2):=by
 have hk:Keeps' (SXb S v W) W W1:=⟨hg.size,fun b hb hl=>hg.block b hl (fun e=>hb.2.2 e.symm)⟩
 have mv:∀ {x:α} {cs:List Value},En (SXb S v W) W x cs→En (SXb S v' W1) W1 x cs:=fun h =>
  ok.mono (fun b hb _=>⟨hb.1,Nat.lt_of_lt_of_le hb.2.1 hg.size,fun e=>by
   rcases hd with hd | hd
   ·exact hb.2.2 (hd ▸ e)
   ·rw [hd] at e
    have e:=Option.some.inj e
    have:=hb.2.1
    omega⟩) (ok.next hk h)
 have hx:xs.length=l.length*size:=h1.1
 refine ⟨xs ++ news,by rw [List.length_append]; exact ho,fun i hi=>?_⟩
 by_cases hi':i<l.length
 ·obtain ⟨c,c1,c2,c3⟩:=h2 i hi'
  refine ⟨c,c1,fun j hj=>?_,by rw [List.getElem_append_left hi']; exact mv c3⟩
  rw [List.getElem?_append_left (by rw [hx]; have:(i+1)*size≤l.length*size:=Nat.mul_le_mul_right _ hi'; rw [Nat.add_mul,Nat.one_mul] at this; omega)]
  exact c2 j hj
 ·obtain ⟨c,c1,c2,c3⟩:=hn (i - l.length) (by rw [List.length_append] at hi; omega)
  refine ⟨c,c1,fun j hj=>?_,by rw [List.getElem_append_right (by omega)]; exact mv c3⟩
  rw [List.getElem?_append_right (by rw [hx]; have:l.length*size≤i*size:=Nat.mul_le_mul_right _ (by omega); omega),hx,← c2 j hj]
  congr 1
  rw [Nat.sub_mul]
  have:l.length*size≤i*size:=Nat.mul_le_mul_right _ (by omega)
  omega
theorem en16_one {S:Nat→Prop} {W:World} {x:Stm} {cs:List Value} (h:En16 S W x cs):∀ u ∈ cs,u.oneCell'=true:=by
 obtain ⟨a1,c1,p1,d1,p2,d2,p3,d3,a2,c2,a3,c3,rfl,_⟩:=h
 simp [Value.oneCell']
theorem mem_flat {size:Nat} {news:List Value} {k:Nat} (hl:news.length=k*size) {P:Value→Prop} (h:∀ i,i<k→∃ cs:List Value,cs.length=size∧(∀ j,j<size→news[i*size+j]? = cs[j]?)∧∀ u ∈ cs,P u):∀ u ∈ news,P u:=by
 intro u hu
 obtain ⟨n,hn,rfl⟩:=List.getElem_of_mem hu
 have hs:0<size:=by
  rcases Nat.eq_zero_or_pos size with e | e
  ·subst e; omega
  ·exact e
 have hi:n / size<k:=Nat.div_lt_of_lt_mul (by rw [Nat.mul_comm]; omega)
 obtain ⟨cs,h1,h2,h3⟩:=h (n / size) hi
 have hm:=Nat.mod_lt n hs
 have e:n / size*size+n % size=n:=by rw [Nat.mul_comm]; exact Nat.div_add_mod n size
 have:=h2 (n % size) hm
 rw [e,List.getElem?_eq_getElem hn,List.getElem?_eq_getElem (by omega)] at this
 rw [Option.some.inj this]
 exact h3 _ (List.getElem_mem _)
theorem wp_append_ls {w:World} {o:Oper} {a:Act} {K:Act→World→Prop} {Q:Exit→Act→World→Prop} (s x:Operand)
  (ho:o.op = .call { callee:=.builtin .append,args:=#[s,x],argTypes:=#[23,23] })
  {base B:Nat} {v:Value} {l1 l2:List Stm} (hs:a.eval s=v) (h1:OwnE En16 49 16 base (fun _=>True) w v l1) {k:Nat} (hv:v.ownBlock=some k) (hB:B≤k) {ad:Option Addr} {c:Nat} (hx:a.eval x = .slice ad l2.length c) (h2:LsE En16 16 (fun b=>b<B) w ad l2) (hn:l1.length+l2.length≤60) (hbase:base≤w.heap.size)
  (h:∀ v' w',OwnE En16 49 16 base (fun _=>True) w' v' (l1 ++ l2)→w.grownBy w' v.ownBlock→(v'.ownBlock=v.ownBlock∨v'.ownBlock=some w.heap.size)→K (a.put o.dst v') w'):o.wp Tryz.prog a w K Q:=by
 obtain ⟨i0,hi,hj0,hj1,hj2⟩:=info_parts infoT
 rcases h2 with rfl | ⟨b,off,rfl,h3,h4,h5⟩
 ·obtain ⟨g,cap,cur,rfl,hcap⟩:∃ g cap cur,v = .slice (some ⟨g,0,none⟩) l1.length cap∧w.heap[g]? = some (.cells cur 49 (0,0))∧l1.length≤cap:=by
   obtain ⟨xs,⟨_,⟨e,_⟩ | ⟨g,cap,cur,e,_,q,hc,_⟩⟩,_⟩:=h1
   ·subst e; simp [Value.ownBlock] at hv
   ·exact ⟨g,cap,cur,e,q,hc⟩
  have src:_root_.Go.Src Tryz.prog i0.size 23 (.slice ad 0 c) 0 [] w:=by
   rcases ad with _ | ad
   ·exact _root_.Go.Src.ofNil w Tryz.underlying23 c
   ·exact _root_.Go.Src.ofSlice w Tryz.underlying23 ad 0 c [] (by simp) (by simp) (by simp)
  rw [List.length_nil] at hx
  have hr:=run_append_room_src (P:=Tryz.prog) (w:=w) 23 23 o.type 49 i0 Tryz.underlying23 hi g 0 l1.length cap _ 0 [] src (by omega) (by simp) (by simp)
  have hset:w.setCells g (0+l1.length*i0.size) []=w:=by simp [World.setCells]
  rw [hset,Nat.add_zero] at hr
  unfold Oper.wp
  simp [execOp,ho,resolve,invoke,builtin,hs,hx,hr,Result.andThen]
  refine h _ _ (by rw [List.append_nil]; exact h1) ⟨rfl,rfl,rfl,Nat.le_refl _,fun _ _ _=>rfl⟩ (.inl rfl)
 ·obtain ⟨xs,o1,o2⟩:=h1
  obtain ⟨news,n1,n2,n3⟩:=LsE.flat h5 l2.length (Nat.le_refl _)
  refine wp_append_at s x 23 ho base 49 i0 _ 16 256 Tryz.underlying23 hi hj0 hj1 hj2 rfl (by decide) v l1.length xs hs o1 ⟨b,off,none⟩ l2.length c news hx n1 (fun j u hj=>by rw [addr_addS]; exact n2 j u hj) (mem_flat n1 fun i hi=>?_) (by unfold maxLen; omega) (by omega) hbase ?_
  ·obtain ⟨cs,c1,c2,c3⟩:=n3 i hi hi
   exact ⟨cs,c1,c2,en16_one c3⟩
  ·intro v' w' ho' hg hd
   refine h v' w' (OwnE.pushAll en16 o1 o2 (fun i hi=>?_) ho' hg hd) hg hd
   obtain ⟨cs,c1,c2,c3⟩:=n3 i hi hi
   exact ⟨cs,c1,c2,en16.mono (fun b hb hl=>⟨trivial,hl,by rw [hv]; intro e; have:=Option.some.inj e; have:b<B:=hb; omega⟩) c3⟩
end Go.Proofs.YtklgehkhfidpmaaGreatDoor
