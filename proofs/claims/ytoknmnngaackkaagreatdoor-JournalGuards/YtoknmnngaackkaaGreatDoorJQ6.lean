/- Together: BH, BI, BJ, BK, BL, BM, BN, BO, BP. -/
import Derived.Deep.DeepCutAuto
import Derived.Deep.CutBlock
import Derived.Deep.LoopGhost
import Derived.Test.YtoknmnngaackkaaGreatDoorJQ5
namespace Go.Proofs.YtoknmnngaackkaaGreatDoor
open Go.RowKit Go.Lib Go.Shelf
set_option maxRecDepth 100000
set_option maxHeartbeats 16000000
set_option maxRecDepth 100000
set_option maxHeartbeats 8000000
def oQ (n:Int):Bool:=decide (-1000000000000000≤n) && decide (n≤1000000000000000)
theorem xX {n:Int} (h:oQ n=false) (w:World):Calls Tryz.prog 166 #[.int .i64 n] w fun e w'=>e = .returned (.bool false)∧w'=w:=by
 by_cases h1:-1000000000000000≤n
 ·have h2:¬ n≤1000000000000000:=by
   intro h2;rw [oQ,decide_eq_true h1,decide_eq_true h2] at h;cases h
  clear h;go_enter Tryz.func166,Tryz.ntmps166;go_wp2_with fail
  exact C0 (v:=.bool false) (by simp [results,Tryz.results166,go_sem]; try omega) rfl ⟨by first | rfl | trivial,by first | rfl | trivial⟩
 ·clear h;go_enter Tryz.func166,Tryz.ntmps166;go_wp2_with fail
  exact C0 (v:=.bool false) (by simp [results,Tryz.results166,go_sem]; try omega) rfl ⟨by first | rfl | trivial,by first | rfl | trivial⟩
def fu (v:Vl):Int:=if v.1=1 then 0 else if v.1=2 then (if v.2.1=0∨v.2.1=1 then 0 else 3) else if v.1=3 then (if oQ v.2.1 then 0 else 3) else if v.1=4 then (if v.2.2.size > 60 then 4 else 0) else 1
theorem um (v:Vl) (w:World):Calls Tryz.prog 134 #[.agg #[.int .i64 v.1,.int .i64 v.2.1,.string v.2.2]] w fun e w'=>e = .returned (.int .i64 (fu v))∧Below w.heap.size w w':=by
 have hal:=ab w (.cells #[.int .i64 v.1,.int .i64 v.2.1,.string v.2.2] 53);have QB:=ar w #[.int .i64 v.1,.int .i64 v.2.1,.string v.2.2] 53;generalize hr:fu v=r;rw [fu] at hr;have HR:Hid _:=hr;clear hr;go_enter Tryz.func134,Tryz.ntmps134;go_upto_region 1 with fail
 generalize w.alloc (.cells #[.int .i64 v.1,.int .i64 v.2.1,.string v.2.2] 53)=w1 at *;have c0:w1.cell? ⟨w.heap.size,0,none⟩=some (.int .i64 v.1):=cell_of (i:=0) QB rfl;have c1:w1.cell? ⟨w.heap.size,1,none⟩=some (.int .i64 v.2.1):=cell_of (i:=1) QB rfl;have c2:w1.cell? ⟨w.heap.size,2,none⟩=some (.string v.2.2):=cell_of (i:=2) QB rfl;obtain ⟨k,n,t⟩:=v;simp only at c0 c1 c2 HR QB;by_cases k1:k=1
 ·subst k1;obtain rfl:0=r:=by rw [← HR.out]; simp
  clear HR;go_wp2_with fail
  exact C0 (results_tmp rfl _ _ _) rfl ⟨by first | rfl | trivial,hal⟩
 by_cases k2:k=2
 ·subst k2;by_cases n0:n=0
  ·subst n0;obtain rfl:0=r:=by rw [← HR.out]; simp
   clear HR;go_wp2_with fail
   exact C0 (results_tmp rfl _ _ _) rfl ⟨by first | rfl | trivial,hal⟩
  by_cases n1:n=1
  ·subst n1;obtain rfl:0=r:=by rw [← HR.out]; simp
   clear HR;go_wp2_with fail
   exact C0 (results_tmp rfl _ _ _) rfl ⟨by first | rfl | trivial,hal⟩
  have b0:(n != 0)=true:=by simpa using n0
  have b1:(n != 1)=true:=by simpa using n1
  obtain rfl:3=r:=by rw [← HR.out]; simp [n0,n1]
  clear HR n0 n1;go_wp2_with fail
  exact C0 (results_tmp rfl _ _ _) rfl ⟨by first | rfl | trivial,hal⟩
 by_cases k3:k=3
 ·subst k3;rcases hn:oQ n with _ | _
  ·have con:=xX hn w1;obtain rfl:3=r:=by rw [← HR.out]; simp [hn]
   clear HR;go_wp2_with fail
   refine con.mono ?_;rintro e w2 ⟨rfl,rfl⟩;go_wp2_with fail
   exact C0 (results_tmp rfl _ _ _) rfl ⟨by first | rfl | trivial,hal⟩
  ·have hn2:=hn;simp only [oQ,Dx,decide_eq_true_eq] at hn2;have con:=vQ hn2.1 hn2.2 w1;obtain rfl:0=r:=by rw [← HR.out]; simp [hn]
   clear HR hn2;go_wp2_with fail
   refine con.mono ?_;rintro e w2 ⟨rfl,rfl⟩;go_wp2_with fail
   exact C0 (results_tmp rfl _ _ _) rfl ⟨by first | rfl | trivial,hal⟩
 by_cases k4:k=4
 ·subst k4;by_cases h6:t.size > 60
  ·have hz:(60:Int)<(t.size:Int):=by omega
   obtain rfl:4=r:=by rw [← HR.out]; simp [h6]
   clear HR h6;go_wp2_with fail
   exact C0 (results_tmp rfl _ _ _) rfl ⟨by first | rfl | trivial,hal⟩
  ·have hz:¬ (60:Int)<(t.size:Int):=by omega
   obtain rfl:0=r:=by rw [← HR.out]; simp [h6]
   clear HR h6;go_wp2_with fail
   exact C0 (results_tmp rfl _ _ _) rfl ⟨by first | rfl | trivial,hal⟩
 ·have b1:(k == 1)=false:=by simpa using k1
  have b2:(k == 2)=false:=by simpa using k2
  have b3:(k == 3)=false:=by simpa using k3
  have b4:(k == 4)=false:=by simpa using k4
  obtain rfl:1=r:=by rw [← HR.out]; simp [k1,k2,k3,k4]
  clear HR k1 k2 k3 k4;go_wp2_with fail
  exact C0 (results_tmp rfl _ _ _) rfl ⟨by first | rfl | trivial,hal⟩
theorem nI (v:Vl) (at_:Int) (w:World):Calls Tryz.prog 102 #[.agg #[.int .i64 at_],.agg #[.int .i64 v.1,.int .i64 v.2.1,.string v.2.2]] w (fZ w at_ (fu v)):=by
 have hal1:=ab w (.cells #[.int .i64 at_] 86);have hal2:Below (w.alloc (.cells #[.int .i64 at_] 86)).heap.size (w.alloc (.cells #[.int .i64 at_] 86)) ((w.alloc (.cells #[.int .i64 at_] 86)).alloc (.cells #[.int .i64 v.1,.int .i64 v.2.1,.string v.2.2] 53)):=(CY _ _).alloc (CX _) _
 have QB:((w.alloc (.cells #[.int .i64 at_] 86)).alloc (.cells #[.int .i64 v.1,.int .i64 v.2.1,.string v.2.2] 53)).heap[w.heap.size]? = some (.cells #[.int .i64 at_] 86 (0,0)):=(hal2.block _ (lt_of_heap (ar w #[.int .i64 at_] 86))).trans (ar w _ _);have QV:((w.alloc (.cells #[.int .i64 at_] 86)).alloc (.cells #[.int .i64 v.1,.int .i64 v.2.1,.string v.2.2] 53)).heap[w.heap.size+1]? = some (.cells #[.int .i64 v.1,.int .i64 v.2.1,.string v.2.2] 53 (0,0)):=by
  rw [show w.heap.size+1=(w.alloc (.cells #[.int .i64 at_] 86)).heap.size by simp];exact ar _ _ _
 have hal:=chain hal1 hal2;have con:=um v ((w.alloc (.cells #[.int .i64 at_] 86)).alloc (.cells #[.int .i64 v.1,.int .i64 v.2.1,.string v.2.2] 53));generalize hr:fu v=r at *;clear hal1 hal2 hr;go_enter Tryz.func102,Tryz.ntmps102;go_upto_region 1 with fail
 generalize (w.alloc (.cells #[.int .i64 at_] 86)).alloc (.cells #[.int .i64 v.1,.int .i64 v.2.1,.string v.2.2] 53)=w1 at *;obtain ⟨v0,v1,v2⟩:=cu QV;go_wp2_with fail
 refine con.mono ?_;rintro e w2 ⟨rfl,hb2⟩;have QB2:=(hb2.block _ (lt_of_heap QB)).trans QB;have c0:w2.cell? ⟨w.heap.size,0,none⟩=some (.int .i64 at_):=cell_of (i:=0) QB2 rfl;by_cases h0:r=0
 ·subst h0;have con2:=fA 0 at_ w2;clear con;go_wp2_with fail
  refine con2.mono ?_;rintro e w3 ⟨rfl,hb3⟩;go_wp2_with fail
  go_end0
  exact .ok (chain hal (chain hb2 hb3)) rfl
 ·have b0:(r == 0)=false:=by simpa using h0
  have con2:=dv r at_ w2;clear con;go_wp2_with fail
  refine con2.mono ?_;rintro e w3 ⟨rfl,hb3⟩;go_wp2_with fail
  exact ⟨rfl,.bad (chain hal (chain hb2 hb3)) rfl h0⟩
def fv (k:Int):Nat:=if k=1∨k=2∨k=19 then 0 else if k=3∨k=16∨k=20∨k=21∨k=22∨k=23 then 1 else if k=17 then 3 else 2
theorem tE {k:Int} (h1:1≤k) (h2:k≤18) (w:World):Calls Tryz.prog 199 #[.int .i64 k] w fun e w'=>e = .returned (.int .i64 (fv k))∧w'=w:=by
 have hk:k=1∨k=2∨k=3∨k=4∨k=5∨k=6∨k=7∨k=8∨k=9∨k=10∨k=11∨k=12∨k=13∨k=14∨k=15∨k=16∨k=17∨k=18:=by omega
 clear h1 h2;rcases hk with rfl | rfl | rfl | rfl | rfl | rfl | rfl | rfl | rfl | rfl | rfl | rfl | rfl | rfl | rfl | rfl | rfl | rfl
 all_goals
  go_enter Tryz.func199,Tryz.ntmps199;go_wp2_with fail
  exact C0 (results_tmp rfl _ _ _) rfl ⟨rfl,rfl⟩
theorem uM {k:Int} (h1:1≤k) (h2:k≤23) (w:World):Calls Tryz.prog 167 #[.int .i64 k] w fun e w'=>e = .returned (.int .i64 (fv k))∧w'=w:=by
 by_cases h:k≤18
 ·have con:=tE h1 h w;have b1:(k == 19)=false:=by rw [beq_eq_false_iff_ne]; omega
  have b2:(k == 20)=false:=by rw [beq_eq_false_iff_ne]; omega
  have b3:(k == 21)=false:=by rw [beq_eq_false_iff_ne]; omega
  have b4:(k == 22)=false:=by rw [beq_eq_false_iff_ne]; omega
  have b5:(k == 23)=false:=by rw [beq_eq_false_iff_ne]; omega
  generalize fv k=r at *;clear h h1 h2;go_enter Tryz.func167,Tryz.ntmps167;go_wp2_with fail
  refine con.mono ?_;rintro e w2 ⟨rfl,rfl⟩;go_wp2_with fail
  exact C0 (results_tmp rfl _ _ _) rfl ⟨by first | rfl | trivial,by first | rfl | trivial⟩
 ·have hk:k=19∨k=20∨k=21∨k=22∨k=23:=by omega
  clear h h1 h2;rcases hk with rfl | rfl | rfl | rfl | rfl
  all_goals
   go_enter Tryz.func167,Tryz.ntmps167;go_wp2_with fail
   exact C0 (results_tmp rfl _ _ _) rfl ⟨rfl,rfl⟩
def gr (g:SX→Int→Int × Int):List SX→Int→Int × Int
 | [],n=>(0,n)
 | y :: r,n=>if (g y n).1=0 then gr g r (g y n).2 else g y n
def ga (x:SX):Int:=if x.k=1 then fu x.v else if x.k=2 then dy (dB x.name) (cM x.aH) else 0
def eX:Nat→SX→Int→Int→Int × Int
 | 0,_,_,n=>(4,n)
 | f+1,x,d,n =>
  if ¬ (n+1≤200∧d≤20) then (4,n+1)
  else if ¬ (1≤x.k∧x.k≤23) then (1,n+1)
  else if ¬ x.ks.length=fv x.k then (5,n+1)
  else if ga x≠0 then (ga x,n+1)
  else gr (fun y m=>eX f y (d+1) m) x.ks (n+1)
def vb (w:World) (NB:Nat) (at_:Int) (r:Int × Int) (e:Ending) (w':World):Prop :=
 af NB w w'∧((r.1=0∧e = .returned (.tuple #[])∧w'.heap[NB]? = some (.cells #[.int .i64 r.2] 3 (0,0))∧0≤r.2∧r.2≤200)∨(r.1≠0∧e = .panicked [gn r.1 at_]))
theorem vb.bad {w:World} {NB:Nat} {at_:Int} {r:Int × Int} {x:Int} {w':World} (hb:af NB w w') (h:r.1=x) (hx:x≠0):vb w NB at_ r (.panicked [gn x at_]) w':=by subst h; exact ⟨hb,.inr ⟨hx,rfl⟩⟩
def oO (f:Nat):Prop:=∀ (x:SX) (d n at_:Int) (a:Option Addr) (c NB:Nat) (S:Nat→Prop) (w:World),d+f=22→1≤d→0≤n→n≤200→w.heap[NB]? = some (.cells #[.int .i64 n] 3 (0,0))→aD S w a x.ks→¬ S NB →
 Calls Tryz.prog 135 #[.agg #[.int .i64 at_],.agg (aT x a c),.int .i64 d,.pointer (some ⟨NB,0,none⟩)] w (vb w NB at_ (eX f x d n))
theorem af.b {t:Nat} {a b c:World} (h:af t a b) (k:Below b.heap.size b c) (ht:t≤a.heap.size):af t a c:=h.trans (.of k (by have:=h.size; omega))
theorem nV {f:Nat} (ih:1≤f→oO f):oO (f+1):=by
 intro x d n at_ a c NB S w hdf hd1 hn0 hn1 QN0 hks hSN;have hNB:=lt_of_heap QN0;have hal1:=ab w (.cells #[.int .i64 at_] 86);have hal2:Below (w.alloc (.cells #[.int .i64 at_] 86)).heap.size (w.alloc (.cells #[.int .i64 at_] 86)) ((w.alloc (.cells #[.int .i64 at_] 86)).alloc (.cells (aT x a c) 55)):=(CY _ _).alloc (CX _) _
 have QC1:((w.alloc (.cells #[.int .i64 at_] 86)).alloc (.cells (aT x a c) 55)).heap[w.heap.size]? = some (.cells #[.int .i64 at_] 86 (0,0)):=(hal2.block _ (lt_of_heap (ar w #[.int .i64 at_] 86))).trans (ar w _ _);have QX1:((w.alloc (.cells #[.int .i64 at_] 86)).alloc (.cells (aT x a c) 55)).heap[w.heap.size+1]? = some (.cells (aT x a c) 55 (0,0)):=by
  rw [show w.heap.size+1=(w.alloc (.cells #[.int .i64 at_] 86)).heap.size by simp];exact ar _ _ _
 have hal:=chain hal1 hal2;have QN1:=(hal.block _ hNB).trans QN0;have HIH:Hid (1≤f→oO f):=ih;have HKS:Hid (aD S ((w.alloc (.cells #[.int .i64 at_] 86)).alloc (.cells (aT x a c) 55)) a x.ks):=aD.next hal hks;generalize hM:eX (f+1) x d n=M;rw [eX] at hM;have HM:Hid _:=hM;clear hM ih hks hal1 hal2 QN0;go_enter Tryz.func135,Tryz.ntmps135;go_upto_region 1 with fail
 generalize ((w.alloc (.cells #[.int .i64 at_] 86)).alloc (.cells (aT x a c) 55))=w1 at *;have n0:w1.cell? ⟨NB,0,none⟩=some (.int .i64 n):=cell_of (i:=0) QN1 rfl;have n0f:=C3 w1 NB 0 _ _ QN1;go_upto_region 2 with fail
 have QN:(w1.setCell ⟨NB,0,none⟩ (.int .i64 (n+1))).heap[NB]? = some (.cells #[.int .i64 (n+1)] 3 (0,0)):=C1 w1 NB 0 _ _ _ QN1;have hk1:aF NB w1 (w1.setCell ⟨NB,0,none⟩ (.int .i64 (n+1))):=(aF.refl _ _).set 0 _;have hx:af NB w (w1.setCell ⟨NB,0,none⟩ (.int .i64 (n+1))):=(af.of hal (by omega)).set 0 _;have QC:=(hk1.2 _ (lt_of_heap QC1) (by omega)).trans QC1;have QX:=(hk1.2 _ (lt_of_heap QX1) (by omega)).trans QX1;have HK:Hid (aD S (w1.setCell ⟨NB,0,none⟩ (.int .i64 (n+1))) a x.ks):=aD.k1 hk1 hSN HKS.out;generalize w1.setCell ⟨NB,0,none⟩ (.int .i64 (n+1))=w2 at *
 clear n0 n0f QN1 QC1 QX1 HKS hal hk1;have hCC:∀ W W':World,W.heap[w.heap.size]? = some (.cells #[.int .i64 at_] 86 (0,0))∧W.heap[NB]? = some (.cells #[.int .i64 (n+1)] 3 (0,0))→Below W.heap.size W W'→W'.heap[w.heap.size]? = some (.cells #[.int .i64 at_] 86 (0,0))∧W'.heap[NB]? = some (.cells #[.int .i64 (n+1)] 3 (0,0)):=fun W W' h hb=>⟨(hb.block _ (lt_of_heap h.1)).trans h.1,(hb.block _ (lt_of_heap h.2)).trans h.2⟩
 have hdr:Below w2.heap.size w2 w2.drew:=(CY _ _).drew;have CW:=hCC _ _ ⟨QC,QN⟩ hdr;refine ey (fun W=>W.heap[w.heap.size]? = some (.cells #[.int .i64 at_] 86 (0,0))∧W.heap[NB]? = some (.cells #[.int .i64 (n+1)] 3 (0,0))) 9 (by kernel_rfl) ?_;refine aV hCC (some 15) (i:=0) (v:=.agg #[.int .i64 at_]) rfl rfl (by kernel_rfl) (by kernel_rfl) (by kernel_rfl) (by kernel_rfl) (by kernel_rfl) rfl (fun _ _ _ h=>h) (Or.inl ⟨rfl,fun n hn=>?_⟩) (fun _=>CW) ?_
 ·have c0:=cell_of (i:=0) hn.1 rfl; go_simp
 simp only [Act.put,pA,pB,pC];refine aV hCC (some 16) (i:=1) (v:=.pointer (some ⟨NB,0,none⟩)) rfl rfl (by kernel_rfl) (by kernel_rfl) (by kernel_rfl) (by kernel_rfl) (by kernel_rfl) rfl (fun _ _ _ h=>h) (Or.inl ⟨rfl,fun n hn=>?_⟩) (fun _=>CW) ?_
 ·go_simp
 simp only [Act.put,pA,pB,pC];refine aV hCC (some 17) (i:=2) (v:=.pointer (some ⟨NB,0,none⟩)) rfl rfl (by kernel_rfl) (by kernel_rfl) (by kernel_rfl) (by kernel_rfl) (by kernel_rfl) rfl (fun _ _ _ h=>h) (Or.inl ⟨rfl,fun n hn=>?_⟩) (fun _=>CW) ?_
 ·go_simp
 simp only [Act.put,pA,pB,pC];refine aV hCC (some 18) (i:=3) (v:=.int .i64 (n+1)) rfl rfl (by kernel_rfl) (by kernel_rfl) (by kernel_rfl) (by kernel_rfl) (by kernel_rfl) rfl (fun _ _ _ h=>h) (Or.inl ⟨rfl,fun n hn=>?_⟩) (fun _=>CW) ?_
 ·have c0:=cell_of (i:=0) hn.2 rfl; go_simp
 simp only [Act.put,pA,pB,pC];by_cases h200:n+1≤200
 case neg =>
  have HR:Hid (M=(4,n+1)):=by show _=_; rw [← HM.out,if_pos (fun h=>h200 h.1)]
  have b200:¬ n+1≤200:=h200;clear HM h200;refine aV hCC (some 19) (i:=4) (v:=.bool false) rfl rfl (by kernel_rfl) (by kernel_rfl) (by kernel_rfl) (by kernel_rfl) (by kernel_rfl) rfl (fun _ _ _ h=>h) (Or.inl ⟨rfl,fun n hn=>?_⟩) (fun _=>CW) ?_
  ·go_simp
  simp only [Act.put,pA,pB,pC];refine aV hCC (some 20) (i:=5) (v:=.bool false) rfl rfl (by kernel_rfl) (by kernel_rfl) (by kernel_rfl) (by kernel_rfl) (by kernel_rfl) rfl (fun _ _ _ h=>h) (Or.inl ⟨rfl,fun n hn=>?_⟩) (fun _=>CW) ?_
  ·go_simp
  simp only [Act.put,pA,pB,pC];refine aV hCC (some 21) (i:=6) (v:=undef) rfl rfl (by kernel_rfl) (by kernel_rfl) (by kernel_rfl) (by kernel_rfl) (by kernel_rfl) rfl (fun _ _ _ h=>h) (Or.inr ⟨rfl,rfl⟩) (fun _=>CW) ?_;simp only [Act.put,pA,pB,pC];refine aV hCC (some 22) (i:=7) (v:=undef) rfl rfl (by kernel_rfl) (by kernel_rfl) (by kernel_rfl) (by kernel_rfl) (by kernel_rfl) rfl (fun _ _ _ h=>h) (Or.inr ⟨rfl,rfl⟩) (fun _=>CW) ?_;simp only [Act.put,pA,pB,pC]
  refine aV hCC (some 23) (i:=8) (v:=.bool false) rfl rfl (by kernel_rfl) (by kernel_rfl) (by kernel_rfl) (by kernel_rfl) (by kernel_rfl) rfl (fun _ _ _ h=>h) (Or.inl ⟨rfl,fun n hn=>?_⟩) (fun _=>CW) ?_
  ·go_simp
  simp only [Act.put,pA,pB,pC];refine bM (rs:=[9]) (by kernel_rfl) (by simp) ?_;intro w7 hb7 jj hj;obtain rfl:jj=9:=by simpa using hj
  clear hj;have con:=dv 4 at_ w7;refine wpOp_step rfl (fun K hK=>?_);go_simp;refine con.mono ?_;rintro e w8 ⟨rfl,hb8⟩;exact ⟨rfl,.bad (hx.b (chain hdr (chain hb7 hb8)) (by omega)) (by rw [HR.out]) (by decide)⟩
 refine aV hCC (some 19) (i:=4) (v:=.bool true) rfl rfl (by kernel_rfl) (by kernel_rfl) (by kernel_rfl) (by kernel_rfl) (by kernel_rfl) rfl (fun _ _ _ h=>h) (Or.inl ⟨rfl,fun n hn=>?_⟩) (fun _=>CW) ?_
 ·go_simp
 simp only [Act.put,pA,pB,pC];refine aV hCC (some 20) (i:=5) (v:=.bool true) rfl rfl (by kernel_rfl) (by kernel_rfl) (by kernel_rfl) (by kernel_rfl) (by kernel_rfl) rfl (fun _ _ _ h=>h) (Or.inl ⟨rfl,fun n hn=>?_⟩) (fun _=>CW) ?_
 ·go_simp
 simp only [Act.put,pA,pB,pC];refine aV hCC (some 21) (i:=6) (v:=.int .i64 d) rfl rfl (by kernel_rfl) (by kernel_rfl) (by kernel_rfl) (by kernel_rfl) (by kernel_rfl) rfl (fun _ _ _ h=>h) (Or.inl ⟨rfl,fun n hn=>?_⟩) (fun _=>CW) ?_
 ·go_simp
 simp only [Act.put,pA,pB,pC];by_cases h20:d≤20
 case neg =>
  have HR:Hid (M=(4,n+1)):=by show _=_; rw [← HM.out,if_pos (fun h=>h20 h.2)]
  clear HM;refine aV hCC (some 22) (i:=7) (v:=.bool false) rfl rfl (by kernel_rfl) (by kernel_rfl) (by kernel_rfl) (by kernel_rfl) (by kernel_rfl) rfl (fun _ _ _ h=>h) (Or.inl ⟨rfl,fun n hn=>?_⟩) (fun _=>CW) ?_
  ·go_simp
  simp only [Act.put,pA,pB,pC];refine aV hCC (some 23) (i:=8) (v:=.bool false) rfl rfl (by kernel_rfl) (by kernel_rfl) (by kernel_rfl) (by kernel_rfl) (by kernel_rfl) rfl (fun _ _ _ h=>h) (Or.inl ⟨rfl,fun n hn=>?_⟩) (fun _=>CW) ?_
  ·go_simp
  simp only [Act.put,pA,pB,pC];refine bM (rs:=[9]) (by kernel_rfl) (by simp) ?_;intro w7 hb7 jj hj;obtain rfl:jj=9:=by simpa using hj
  clear hj;have con:=dv 4 at_ w7;refine wpOp_step rfl (fun K hK=>?_);go_simp;refine con.mono ?_;rintro e w8 ⟨rfl,hb8⟩;exact ⟨rfl,.bad (hx.b (chain hdr (chain hb7 hb8)) (by omega)) (by rw [HR.out]) (by decide)⟩
 refine aV hCC (some 22) (i:=7) (v:=.bool true) rfl rfl (by kernel_rfl) (by kernel_rfl) (by kernel_rfl) (by kernel_rfl) (by kernel_rfl) rfl (fun _ _ _ h=>h) (Or.inl ⟨rfl,fun n hn=>?_⟩) (fun _=>CW) ?_
 ·go_simp
 simp only [Act.put,pA,pB,pC];refine aV hCC (some 23) (i:=8) (v:=.bool true) rfl rfl (by kernel_rfl) (by kernel_rfl) (by kernel_rfl) (by kernel_rfl) (by kernel_rfl) rfl (fun _ _ _ h=>h) (Or.inl ⟨rfl,fun n hn=>?_⟩) (fun _=>CW) ?_
 ·go_simp
 simp only [Act.put,pA,pB,pC];refine bM (rs:=[9]) (by kernel_rfl) (by simp) ?_;intro w7 hb7 jj hj;obtain rfl:jj=9:=by simpa using hj
 clear hj;have con:=fA 4 at_ w7;refine wpOp_step rfl (fun K hK=>?_);go_simp;refine con.mono ?_;rintro e w8 ⟨rfl,hb8⟩;refine hK _ _ ⟨fun h=>by simp at h,?_⟩;clear hK K con;refine gx (by kernel_rfl) ?_;intro w9 hb9;have D9:=chain hdr (chain hb7 (chain hb8 hb9));have hx9:af NB w w9:=hx.b D9 (by omega);have QC9:=(D9.block _ (lt_of_heap QC)).trans QC;have QX9:=(D9.block _ (lt_of_heap QX)).trans QX;have QN9:=(D9.block _ (lt_of_heap QN)).trans QN;have HK9:Hid (aD S w9 a x.ks):=aD.next D9 HK.out;have hM:=HM.out;rw [if_neg (fun h=>h ⟨h200,h20⟩)] at hM
 clear HM HK QN QC QX hx D9 hb7 hb8 hb9 hdr CW hCC;have x0:w9.cell? ⟨w.heap.size+1,0,none⟩=some (.int .i64 x.k):=cell_of (i:=0) QX9 rfl;have k0:w9.cell? ⟨w.heap.size,0,none⟩=some (.int .i64 at_):=cell_of (i:=0) QC9 rfl;have hcs:(1≤x.k∧x.k≤23)∨(1≤x.k∧¬ x.k≤23)∨¬ 1≤x.k:=by omega
 obtain ⟨hk1,hk2⟩ | hbad:(1≤x.k∧x.k≤23)∨((1≤x.k∧¬ x.k≤23)∨¬ 1≤x.k):=hcs
 case inr =>
  have HR:Hid (M=(1,n+1)):=by show _=_; rw [← hM,if_pos (by omega)]
  have con:=dv 1 at_ w9;clear hM;rcases hbad with ⟨g1,g2⟩ | g1
  all_goals
   go_wp2_with fail
   refine con.mono ?_;rintro e wA ⟨rfl,hbA⟩;go_wp2_with fail
   exact ⟨rfl,.bad (hx9.b hbA (by omega)) (by rw [HR.out]) (by decide)⟩
 rw [if_neg (fun h=>h ⟨hk1,hk2⟩)] at hM;have HM:Hid _:=hM;have con:=fA 1 at_ w9;clear hM;go_wp2_with fail
 refine con.mono ?_;rintro e w10 ⟨rfl,hb10⟩;have hx10:af NB w w10:=hx9.b hb10 (by omega);have QC10:=(hb10.block _ (lt_of_heap QC9)).trans QC9;have QX10:=(hb10.block _ (lt_of_heap QX9)).trans QX9;have QN10:=(hb10.block _ (lt_of_heap QN9)).trans QN9;have HK10:Hid (aD S w10 a x.ks):=aD.next hb10 HK9.out;clear con hb10 HK9 QC9 QX9 QN9 hx9 x0 k0;go_upto_region 4 with fail
 have hCC:∀ W W':World,W.heap[w.heap.size]? = some (.cells #[.int .i64 at_] 86 (0,0))∧W.heap[w.heap.size+1]? = some (.cells (aT x a c) 55 (0,0))→Below W.heap.size W W'→W'.heap[w.heap.size]? = some (.cells #[.int .i64 at_] 86 (0,0))∧W'.heap[w.heap.size+1]? = some (.cells (aT x a c) 55 (0,0)):=fun W W' h hb=>⟨(hb.block _ (lt_of_heap h.1)).trans h.1,(hb.block _ (lt_of_heap h.2)).trans h.2⟩
 have hdr:Below w10.heap.size w10 w10.drew:=(CY _ _).drew;have CW:=hCC _ _ ⟨QC10,QX10⟩ hdr;refine ey (fun W=>W.heap[w.heap.size]? = some (.cells #[.int .i64 at_] 86 (0,0))∧W.heap[w.heap.size+1]? = some (.cells (aT x a c) 55 (0,0))) 8 (by kernel_rfl) ?_;refine aV hCC (some 35) (i:=0) (v:=.agg #[.int .i64 at_]) rfl rfl (by kernel_rfl) (by kernel_rfl) (by kernel_rfl) (by kernel_rfl) (by kernel_rfl) rfl (fun _ _ _ h=>h) (Or.inl ⟨rfl,fun n hn=>?_⟩) (fun _=>CW) ?_
 ·have c0:=cell_of (i:=0) hn.1 rfl; go_simp
 simp only [Act.put,pA,pB,pC];refine aV hCC (some 36) (i:=1) (v:=.pointer (some ⟨w.heap.size+1,6,none⟩)) rfl rfl (by kernel_rfl) (by kernel_rfl) (by kernel_rfl) (by kernel_rfl) (by kernel_rfl) rfl (fun _ _ _ h=>h) (Or.inl ⟨rfl,fun n hn=>?_⟩) (fun _=>CW) ?_
 ·go_simp
 simp only [Act.put,pA,pB,pC];refine aV hCC (some 37) (i:=2) (v:=.slice a x.ks.length c) rfl rfl (by kernel_rfl) (by kernel_rfl) (by kernel_rfl) (by kernel_rfl) (by kernel_rfl) rfl (fun _ _ _ h=>h) (Or.inl ⟨rfl,fun n hn=>?_⟩) (fun _=>CW) ?_
 ·have c0:=cell_of (i:=6) hn.2 rfl; go_simp
 simp only [Act.put,pA,pB,pC];refine aV hCC (some 38) (i:=3) (v:=.int .i64 x.ks.length) rfl rfl (by kernel_rfl) (by kernel_rfl) (by kernel_rfl) (by kernel_rfl) (by kernel_rfl) rfl (fun _ _ _ h=>h) (Or.inl ⟨rfl,fun n hn=>?_⟩) (fun _=>CW) ?_
 ·go_simp
 simp only [Act.put,pA,pB,pC];refine aV hCC (some 39) (i:=4) (v:=.pointer (some ⟨w.heap.size+1,0,none⟩)) rfl rfl (by kernel_rfl) (by kernel_rfl) (by kernel_rfl) (by kernel_rfl) (by kernel_rfl) rfl (fun _ _ _ h=>h) (Or.inl ⟨rfl,fun n hn=>?_⟩) (fun _=>CW) ?_
 ·go_simp
 simp only [Act.put,pA,pB,pC];refine aV hCC (some 40) (i:=5) (v:=.int .i64 x.k) rfl rfl (by kernel_rfl) (by kernel_rfl) (by kernel_rfl) (by kernel_rfl) (by kernel_rfl) rfl (fun _ _ _ h=>h) (Or.inl ⟨rfl,fun n hn=>?_⟩) (fun _=>CW) ?_
 ·have c0:=cell_of (i:=0) hn.2 rfl; go_simp
 simp only [Act.put,pA,pB,pC];refine bM (rs:=[6]) (by kernel_rfl) (by simp) ?_;intro w11 hb11 jj hj;obtain rfl:jj=6:=by simpa using hj
 clear hj;have con:=uM hk1 hk2 w11;refine wpOp_step rfl (fun K hK=>?_);go_simp;refine con.mono ?_;rintro e w12 ⟨rfl,rfl⟩;have CW2:=hCC _ _ CW hb11;refine hK _ _ ⟨fun _=>CW2,?_⟩;clear hK K con;have D12:=chain hdr hb11;clear CW;have CW:=CW2;by_cases hkk:x.ks.length=fv x.k
 case neg =>
  have HR:Hid (M=(5,n+1)):=by show _=_; rw [← HM.out,if_pos hkk]
  have bk:(((x.ks.length:Nat):Int) == ((fv x.k:Nat):Int))=false:=by rw [beq_eq_false_iff_ne]; omega
  clear HM;generalize fv x.k=kc at *;refine aV hCC (some 42) (i:=7) (v:=.bool false) rfl rfl (by kernel_rfl) (by kernel_rfl) (by kernel_rfl) (by kernel_rfl) (by kernel_rfl) rfl (fun _ _ _ h=>h) (Or.inl ⟨rfl,fun n hn=>?_⟩) (fun _=>CW) ?_
  ·go_simp
  simp only [Act.put,pA,pB,pC];refine bM (rs:=[8]) (by kernel_rfl) (by simp) ?_;intro w7 hb7 jj hj;obtain rfl:jj=8:=by simpa using hj
  clear hj;have con:=dv 5 at_ w7;refine wpOp_step rfl (fun K hK=>?_);go_simp;refine con.mono ?_;rintro e w8 ⟨rfl,hb8⟩;exact ⟨rfl,.bad (hx10.b (chain D12 (chain hb7 hb8)) (by omega)) (by rw [HR.out]) (by decide)⟩
 have bk:(((x.ks.length:Nat):Int) == ((fv x.k:Nat):Int))=true:=by rw [hkk]; simp
 have hM:=HM.out;rw [if_neg (fun h=>h hkk)] at hM;have hk3:x.ks.length≤3:=by rw [hkk]; unfold fv; split <;> (try split) <;> (try split) <;> omega
 have HM2:Hid _:=hM;clear HM hM hkk;generalize fv x.k=kc at *;refine aV hCC (some 42) (i:=7) (v:=.bool true) rfl rfl (by kernel_rfl) (by kernel_rfl) (by kernel_rfl) (by kernel_rfl) (by kernel_rfl) rfl (fun _ _ _ h=>h) (Or.inl ⟨rfl,fun n hn=>?_⟩) (fun _=>CW) ?_
 ·go_simp
 simp only [Act.put,pA,pB,pC];refine bM (rs:=[8]) (by kernel_rfl) (by simp) ?_;intro w7 hb7 jj hj;obtain rfl:jj=8:=by simpa using hj
 clear hj;have con:=fA 5 at_ w7;refine wpOp_step rfl (fun K hK=>?_);go_simp;refine con.mono ?_;rintro e w8 ⟨rfl,hb8⟩;refine hK _ _ ⟨fun h=>by simp at h,?_⟩;clear hK K con;refine gx (by kernel_rfl) ?_;intro w13 hb13;have D13:=chain D12 (chain hb7 (chain hb8 hb13));have hx13:af NB w w13:=hx10.b D13 (by omega);have QC13:=(D13.block _ (lt_of_heap QC10)).trans QC10;have QX13:=(D13.block _ (lt_of_heap QX10)).trans QX10;have QN13:=(D13.block _ (lt_of_heap QN10)).trans QN10;have HK13:Hid (aD S w13 a x.ks):=aD.next D13 HK10.out
 clear HK10 QN10 QC10 QX10 hx10 D12 D13 hb7 hb8 hb13 hdr CW CW2 hCC hb11 bk;obtain ⟨x0,x1,x2,x3,x4,x5,x6⟩:=aK QX13;have k0:w13.cell? ⟨w.heap.size,0,none⟩=some (.int .i64 at_):=cell_of (i:=0) QC13 rfl;go_upto_block 0 with fail
 go_cut [] (fun wc=>Hid (ga x=0)∧Below w13.heap.size w13 wc)
 case first =>
  by_cases e1:x.k=1
  ·have hkd:ga x=fu x.v:=by rw [ga,if_pos e1]
   have b1:(x.k == 1)=true:=by simpa using e1
   have con:=nI x.v at_ w13;have hM:=HM2.out;have HKD:Hid _:=hkd;rw [hkd] at hM;generalize fu x.v=r at *;have HM3:Hid _:=hM;clear HM2 hM hkd e1;go_wp2_with fail
   refine con.mono ?_;rintro e w14 ⟨hb14,⟨h,rfl⟩ | ⟨h,rfl⟩⟩
   ·go_wp2_with fail
    go_meet
    case rel=>exact ⟨HKD.out.trans h,hb14⟩
   ·have HR:Hid (M=(r,n+1)):=by show _=_; rw [← HM3.out,if_pos h]
    clear HM3;go_wp2_with fail
    exact ⟨rfl,.bad (hx13.b hb14 (by omega)) (by rw [HR.out]) h⟩
  have b1:(x.k == 1)=false:=by simpa using e1
  by_cases e2:x.k=2
  ·have hkd:ga x=dy (dB x.name) (cM x.aH):=by rw [ga,if_neg e1,if_pos e2]
   have b2:(x.k == 2)=true:=by simpa using e2
   have con:=jl x.name at_ w13;have hM:=HM2.out;have HKD:Hid _:=hkd;rw [hkd] at hM;generalize dB x.name=r at *;have HM3:Hid _:=hM;have con2:=fun W=>mi x.aH at_ W
   generalize cM x.aH=r2 at *;clear HM2 hM hkd e1 e2;go_wp2_with fail
   refine con.mono ?_;rintro e w14 ⟨hb14,⟨h,rfl⟩ | ⟨h,rfl⟩⟩
   ·subst h;have QX14:=(hb14.block _ (lt_of_heap QX13)).trans QX13;have QC14:=(hb14.block _ (lt_of_heap QC13)).trans QC13;have y4:w14.cell? ⟨w.heap.size+1,4,none⟩=some (.string x.aH):=cell_of (i:=4) QX14 rfl;have y0:w14.cell? ⟨w.heap.size,0,none⟩=some (.int .i64 at_):=cell_of (i:=0) QC14 rfl;have con3:=con2 w14;clear con con2;go_wp2_with fail
    refine con3.mono ?_;rintro e w15 ⟨hb15,⟨h,rfl⟩ | ⟨h,rfl⟩⟩
    ·go_wp2_with fail
     go_meet
     case rel=>exact ⟨HKD.out.trans (by rw [cg]; exact h),chain hb14 hb15⟩
    ·have HR:Hid (M=(r2,n+1)):=by show _=_; rw [← HM3.out,cg,if_pos h]
     clear HM3;go_wp2_with fail
     exact ⟨rfl,.bad (hx13.b (chain hb14 hb15) (by omega)) (by rw [HR.out]) h⟩
   ·have HR:Hid (M=(r,n+1)):=by show _=_; rw [← HM3.out,cZ h,if_pos h]
    clear HM3;go_wp2_with fail
    exact ⟨rfl,.bad (hx13.b hb14 (by omega)) (by rw [HR.out]) h⟩
  ·have hkd:ga x=0:=by rw [ga,if_neg e1,if_neg e2]
   have HKD:Hid (ga x=0):=hkd;have b2:(x.k == 2)=false:=by simpa using e2
   clear hkd;go_wp2_with fail
   go_meet
   case rel=>exact ⟨HKD,CY _ _⟩
 case rest =>
  obtain ⟨hkd,hbc⟩:=hcut;have hM:=HM2.out;rw [if_neg (fun h=>h hkd.out)] at hM;have HL:Hid (gr (fun y m=>eX f y (d+1) m) x.ks (n+1)=M):=hM;have hxc:af NB w wc:=hx13.b hbc (by omega);have QCc:=(hbc.block _ (lt_of_heap QC13)).trans QC13;have QXc:=(hbc.block _ (lt_of_heap QX13)).trans QX13;have QNc:=(hbc.block _ (lt_of_heap QN13)).trans QN13;have HKc:Hid (aD S wc a x.ks):=aD.next hbc HK13.out;clear HM2 hM HK13 QN13 QC13 QX13 hx13 x0 x1 x2 x3 x4 x5 x6 k0;have x6:wc.cell? ⟨w.heap.size+1,6,none⟩=some (.slice a x.ks.length c):=cell_of (i:=6) QXc rfl;go_wp2_with fail
  go_loopw [65] (fun jv wr=>∃ (j:Nat) (m:Int),j≤x.ks.length∧jv = .int .i64 j∧Hid (gr (fun y m=>eX f y (d+1) m) (x.ks.drop j) m=M)∧0≤m∧m≤200∧af NB w wr∧wr.heap[w.heap.size]? = some (.cells #[.int .i64 at_] 86 (0,0))∧wr.heap[NB]? = some (.cells #[.int .i64 m] 3 (0,0))∧Hid (aD S wr a x.ks)) (fun jv _=>x.ks.length - (RowKit.intOf jv).toNat)
  case atStart=>exact ⟨0,n+1,by omega,rfl,by simpa using HL,by omega,h200,hxc,QCc,QNc,HKc⟩
  case round =>
   clear HL hxc QCc QNc HKc QXc x6;obtain ⟨j,m,hj,rfl,HL,hm0,hm1,hxr,QCr,QNr,HKr⟩:=hrel;have hzr:=hxr.size;by_cases hlt:j<x.ks.length
   ·have hjz:(j:Int)<(x.ks.length:Int):=by omega
    have hL:=HL.out;rw [Da hlt,gr] at hL;obtain ⟨b,off,ai,ci,rfl,hSb,hbl,sv,hkk⟩:=HKr.out.elem hlt;have hal:=ab wr (.cells (aT x.ks[j] ai ci) 55);have QY:=ar wr (aT x.ks[j] ai ci) 55;have QNa:=(hal.block _ (lt_of_heap QNr)).trans QNr;have QCa:=(hal.block _ (lt_of_heap QCr)).trans QCr;have con:=HIH.out (by omega) x.ks[j] (d+1) m at_ ai ci NB S (wr.alloc (.cells (aT x.ks[j] ai ci) 55)) (by omega) (by omega) hm0 hm1 QNa (aD.next hal hkk) hSN;obtain ⟨s0,s1,s2,s3,s4,s5,s6⟩:=sv
    have HL2:Hid _:=hL;generalize hr:eX f x.ks[j] (d+1) m=r at *;generalize x.ks[j]=y at *;have HKr2:Hid (aD S (wr.alloc (.cells (aT y ai ci) 55)) (some ⟨b,off,none⟩) x.ks):=aD.next hal HKr.out;clear HL hL hkk hr HKr;go_upto_region 14 with fail
    generalize wr.alloc (.cells (aT y ai ci) 55)=wa at *;obtain ⟨y0,y1,y2,y3,y4,y5,y6⟩:=aK QY;have k0:wa.cell? ⟨w.heap.size,0,none⟩=some (.int .i64 at_):=cell_of (i:=0) QCa rfl;clear s0 s1 s2 s3 s4 s5 s6;go_wp2_with fail
    refine con.mono ?_;rintro e wb ⟨hbb,⟨h,rfl,QNb,hr0,hr1⟩ | ⟨h,rfl⟩⟩
    ·have hxb:af NB w wb:=(hxr.b hal (by omega)).trans hbb;have QCb:=(hbb.2 _ (lt_of_heap QCa) (by omega)).trans QCa;have HKb:Hid (aD S wb (some ⟨b,off,none⟩) x.ks):=aD.k1 hbb.k1 hSN HKr2.out;have HL3:Hid (gr (fun y m=>eX f y (d+1) m) (x.ks.drop (j+1)) r.2=M):=by have:=HL2.out; rw [if_pos h] at this; exact this
     clear HL2 con;go_wp2_with fail
     go_roundw
     case rel=>exact ⟨j+1,r.2,by omega,by go_num,HL3,hr0,hr1,hxb,QCb,QNb,HKb⟩
     case measure=>simp [RowKit.intOf]; omega
    ·have HR:Hid (M=r):=by have:=HL2.out; rw [if_neg h] at this; exact this.symm
     clear HL2 con;go_wp2_with fail
     exact ⟨rfl,.bad ((hxr.b hal (by omega)).trans hbb) (by rw [HR.out]) h⟩
   ·have hjz:¬ (j:Int)<(x.ks.length:Int):=by omega
    have e:M=(0,m):=by rw [← HL.out,Dh (by omega)]; rfl
    subst e;clear HL;go_wp2_with fail
    go_end0
    exact ⟨hxr,.inl ⟨rfl,rfl,QNr,hm0,hm1⟩⟩
theorem su:∀ f,oO (f+1)
 | 0=>nV (fun h=>absurd h (by decide))
 | f+1=>nV (fun _=>su f)
def eh (x:SX):Int:=(eX 21 x 1 0).1
theorem mR (x:SX) (at_:Int) (a:Option Addr) (c:Nat) (S:Nat→Prop) (w:World) (hks:aD S w a x.ks):Calls Tryz.prog 103 #[.agg #[.int .i64 at_],.agg (aT x a c)] w (fZ w at_ (eh x)):=by
 have hal1:=ab w (.cells #[.int .i64 at_] 86);have hal2:Below (w.alloc (.cells #[.int .i64 at_] 86)).heap.size (w.alloc (.cells #[.int .i64 at_] 86)) ((w.alloc (.cells #[.int .i64 at_] 86)).alloc (.cells (aT x a c) 55)):=(CY _ _).alloc (CX _) _;have QC:((w.alloc (.cells #[.int .i64 at_] 86)).alloc (.cells (aT x a c) 55)).heap[w.heap.size]? = some (.cells #[.int .i64 at_] 86 (0,0)):=(hal2.block _ (lt_of_heap (ar w #[.int .i64 at_] 86))).trans (ar w _ _)
 have QX:((w.alloc (.cells #[.int .i64 at_] 86)).alloc (.cells (aT x a c) 55)).heap[w.heap.size+1]? = some (.cells (aT x a c) 55 (0,0)):=by
  rw [show w.heap.size+1=(w.alloc (.cells #[.int .i64 at_] 86)).heap.size by simp];exact ar _ _ _
 have hal:=chain hal1 hal2;clear hal1 hal2;have HKS:Hid (aD (fun b=>b<w.heap.size) ((w.alloc (.cells #[.int .i64 at_] 86)).alloc (.cells (aT x a c) 55)) a x.ks):=aD.next hal (aD.mono (fun b _ h=>h) hks);generalize hr:eh x=r;have HR:Hid ((eX 21 x 1 0).1=r):=hr;clear hr hks;go_enter Tryz.func103,Tryz.ntmps103;go_upto_region 1 with fail
 generalize ((w.alloc (.cells #[.int .i64 at_] 86)).alloc (.cells (aT x a c) 55))=w1 at *;have hl1:=lt_of_heap QX;have hal3:=ab w1 (.cells #[.int .i64 0] 3);have QN:=ar w1 #[.int .i64 0] 3;have con:=su 20 x 1 0 at_ a c w1.heap.size (fun b=>b<w.heap.size) (w1.alloc (.cells #[.int .i64 0] 3)) (by decide) (by decide) (by decide) (by decide) QN (aD.next hal3 HKS.out) (by show ¬ _<_; omega);have QC3:=(hal3.block _ (lt_of_heap QC)).trans QC;have QX3:=(hal3.block _ (lt_of_heap QX)).trans QX
 generalize eX (20+1) x 1 0=nr at *;go_upto_region 2 with fail
 generalize w1.alloc (.cells #[.int .i64 0] 3)=w2 at *;obtain ⟨x0,x1,x2,x3,x4,x5,x6⟩:=aK QX3;have k0:w2.cell? ⟨w.heap.size,0,none⟩=some (.int .i64 at_):=cell_of (i:=0) QC3 rfl;go_wp2_with fail
 refine con.mono ?_;rintro e w3 ⟨hb3,hW⟩;have hbb:Below w.heap.size w w3:=(chain hal hal3).trans (hb3.1.mono (by omega));rcases hW with ⟨h,rfl,_⟩ | ⟨h,rfl⟩
 ·go_wp2_with fail
  go_end0
  exact .ok hbb (HR.out.symm.trans h)
 ·go_wp2_with fail
  exact ⟨rfl,.bad hbb HR.out.symm h⟩
def dx (b:Bool) (x:SX):Int:=if b then eh x else 0
theorem iZ (b:Bool) (x:SX) (at_:Int) (a:Option Addr) (c:Nat) (S:Nat→Prop) (w:World) (hks:aD S w a x.ks):Calls Tryz.prog 72 #[.agg #[.int .i64 at_],.bool b,.agg (aT x a c)] w (fZ w at_ (dx b x)):=by
 have hal1:=ab w (.cells #[.int .i64 at_] 86);have hal2:Below (w.alloc (.cells #[.int .i64 at_] 86)).heap.size (w.alloc (.cells #[.int .i64 at_] 86)) ((w.alloc (.cells #[.int .i64 at_] 86)).alloc (.cells (aT x a c) 55)):=(CY _ _).alloc (CX _) _;have QC:((w.alloc (.cells #[.int .i64 at_] 86)).alloc (.cells (aT x a c) 55)).heap[w.heap.size]? = some (.cells #[.int .i64 at_] 86 (0,0)):=(hal2.block _ (lt_of_heap (ar w #[.int .i64 at_] 86))).trans (ar w _ _)
 have QX:((w.alloc (.cells #[.int .i64 at_] 86)).alloc (.cells (aT x a c) 55)).heap[w.heap.size+1]? = some (.cells (aT x a c) 55 (0,0)):=by
  rw [show w.heap.size+1=(w.alloc (.cells #[.int .i64 at_] 86)).heap.size by simp];exact ar _ _ _
 have hal:=chain hal1 hal2;clear hal1 hal2;have con:=mR x at_ a c S ((w.alloc (.cells #[.int .i64 at_] 86)).alloc (.cells (aT x a c) 55)) (aD.next hal hks);rw [dx];generalize eh x=r at *;clear hks;cases b
 ·rw [if_neg (by decide)];go_enter Tryz.func72,Tryz.ntmps72;go_wp2_with fail
  go_end0
  exact .ok hal rfl
 ·rw [if_pos rfl];go_enter Tryz.func72,Tryz.ntmps72;go_upto_region 1 with fail
  generalize ((w.alloc (.cells #[.int .i64 at_] 86)).alloc (.cells (aT x a c) 55))=w1 at *;obtain ⟨x0,x1,x2,x3,x4,x5,x6⟩:=aK QX;have k0:w1.cell? ⟨w.heap.size,0,none⟩=some (.int .i64 at_):=cell_of (i:=0) QC rfl;go_wp2_with fail
  refine con.mono ?_;rintro e w2 ⟨hb2,⟨h,rfl⟩ | ⟨h,rfl⟩⟩
  ·go_wp2_with fail
   go_end0
   exact .ok (chain hal hb2) h
  ·go_wp2_with fail
   exact ⟨rfl,.bad (chain hal hb2) rfl h⟩
def eA:List SX→Int
 | []=>0
 | x :: r=>dy (eh x) (eA r)
theorem nK (l:List SX) (hl:l.length≤1000) (at_:Int) (a:Option Addr) (c:Nat) (S:Nat→Prop) (w:World) (hks:aD S w a l):Calls Tryz.prog 105 #[.agg #[.int .i64 at_],.slice a l.length c] w (fZ w at_ (eA l)):=by
 have hal:=ab w (.cells #[.int .i64 at_] 86);have QC:=ar w #[.int .i64 at_] 86;generalize hr:eA l=r;have HR:Hid (eA (l.drop 0)=r):=by show _=_; simpa using hr
 have HKS:Hid (aD S w a l):=hks;clear hr hks;go_enter Tryz.func105,Tryz.ntmps105;go_upto_region 1 with fail
 generalize w.alloc (.cells #[.int .i64 at_] 86)=w1 at *;go_wp2_with fail
 go_loopw [8] (fun jv wr=>∃ j:Nat,j≤l.length∧jv = .int .i64 j∧Hid (eA (l.drop j)=r)∧Below w.heap.size w wr∧wr.heap[w.heap.size]? = some (.cells #[.int .i64 at_] 86 (0,0))) (fun jv _=>l.length - (RowKit.intOf jv).toNat)
 case atStart=>exact ⟨0,by omega,rfl,HR,hal,QC⟩
 case round =>
  clear HR hal QC;obtain ⟨j,hj,rfl,HL,hx,QC⟩:=hrel;by_cases hlt:j<l.length
  ·have hjz:(j:Int)<(l.length:Int):=by omega
   have hL:=HL.out;rw [Da hlt,eA] at hL;obtain ⟨b,off,ai,ci,rfl,hSb,hbl,sv,hkk⟩:=(aD.next hx HKS.out).elem hlt;have hal:=ab wr (.cells (aT l[j] ai ci) 55);have QY:=ar wr (aT l[j] ai ci) 55;have QCa:=(hal.block _ (lt_of_heap QC)).trans QC;have con:=mR l[j] at_ ai ci S (wr.alloc (.cells (aT l[j] ai ci) 55)) (aD.next hal hkk);obtain ⟨s0,s1,s2,s3,s4,s5,s6⟩:=sv;have HL2:Hid _:=hL;generalize eh l[j]=r1 at *;generalize l[j]=y at *;clear HL hL hkk;go_upto_region 4 with fail
   generalize wr.alloc (.cells (aT y ai ci) 55)=wa at *;obtain ⟨y0,y1,y2,y3,y4,y5,y6⟩:=aK QY;have k0:wa.cell? ⟨w.heap.size,0,none⟩=some (.int .i64 at_):=cell_of (i:=0) QCa rfl;clear s0 s1 s2 s3 s4 s5 s6;go_wp2_with fail
   refine con.mono ?_;rintro e wb ⟨hbb,⟨h,rfl⟩ | ⟨h,rfl⟩⟩
   ·have QCb:=(hbb.block _ (lt_of_heap QCa)).trans QCa;have HL3:Hid (eA (l.drop (j+1))=r):=by have:=HL2.out; rw [h,cg] at this; exact this
    clear HL2 con;go_wp2_with fail
    go_roundw
    case rel=>exact ⟨j+1,by omega,by go_num,HL3,chain hx (chain hal hbb),QCb⟩
    case measure=>simp [RowKit.intOf]; omega
   ·have HR:Hid (r1=r):=by have:=HL2.out; rw [cZ h] at this; exact this
    clear HL2 con;go_wp2_with fail
    exact ⟨rfl,.bad (chain hx (chain hal hbb)) HR.out.symm h⟩
  ·have hjz:¬ (j:Int)<(l.length:Int):=by omega
   have e:r=0:=by rw [← HL.out,Dh (by omega)]; rfl
   have E:Hid (r=0):=e;clear HL e;go_wp2_with fail
   go_end0
   exact .ok hx E.out
def dY (first:Bool) (x:Src):Int:=dy (if (if first then x.kind == 1 else decide (2≤x.kind) && decide (x.kind≤5)) then 0 else 1) (dy (dB x.name) (dy (cM x.alias) (dy (dx (!first) x.on) 0)))
theorem rF (first:Bool) (x:Src) (a:Option Addr) (c:Nat) (S:Nat→Prop) (at_:Int) (w:World) (hks:aD S w a x.on.ks):Calls Tryz.prog 137 #[.agg #[.int .i64 at_],.agg (fB x a c),.bool first] w (fZ w at_ (dY first x)):=by
 have hal1:=ab w (.cells #[.int .i64 at_] 86);have hal2:Below (w.alloc (.cells #[.int .i64 at_] 86)).heap.size (w.alloc (.cells #[.int .i64 at_] 86)) ((w.alloc (.cells #[.int .i64 at_] 86)).alloc (.cells (fB x a c) 105)):=(CY _ _).alloc (CX _) _;have QC:((w.alloc (.cells #[.int .i64 at_] 86)).alloc (.cells (fB x a c) 105)).heap[w.heap.size]? = some (.cells #[.int .i64 at_] 86 (0,0)):=(hal2.block _ (lt_of_heap (ar w #[.int .i64 at_] 86))).trans (ar w _ _)
 have QX:((w.alloc (.cells #[.int .i64 at_] 86)).alloc (.cells (fB x a c) 105)).heap[w.heap.size+1]? = some (.cells (fB x a c) 105 (0,0)):=by
  rw [show w.heap.size+1=(w.alloc (.cells #[.int .i64 at_] 86)).heap.size by simp];exact ar _ _ _
 have hal:=chain hal1 hal2;clear hal1 hal2;generalize hM:dY first x=M
 have HM0:Hid _:=hM;clear hM;have HK1:Hid (cQ (fun _=>True) ((w.alloc (.cells #[.int .i64 at_] 86)).alloc (.cells (fB x a c) 105)) x [.int .i64 x.kind,.string x.name,.string x.alias,.int .i64 x.on.k,.int .i64 x.on.v.1,.int .i64 x.on.v.2.1,.string x.on.v.2.2,.string x.on.aH,.string x.on.name,.slice a x.on.ks.length c]):=dq.next (ay.of hal) (dq.mono (fun _ _ _=>trivial) ⟨a,c,rfl,hks⟩);go_enter Tryz.func137,Tryz.ntmps137;go_upto_region 1 with fail
 generalize ((w.alloc (.cells #[.int .i64 at_] 86)).alloc (.cells (fB x a c) 105))=w1 at *;have hm:=HM0.out;rw [dY] at hm;have HMa:Hid _:=hm;clear hm HM0 hks;have k2:w1.cell? ⟨w.heap.size,0,none⟩=some (.int .i64 at_):=cell_of (i:=0) QC rfl;have k3:w1.cell? ⟨w.heap.size+1,0,none⟩=some (.int .i64 x.kind):=cell_of (i:=0) QX rfl;have hcut:Below w1.heap.size w1 w1:=CY _ _;obtain ⟨RR,hRR⟩:∃ r,dy (dB x.name) (dy (cM x.alias) (dy (dx (!first) x.on) 0))=r:=⟨_,rfl⟩
 have hm:=HMa.out;rw [hRR] at hm;have HMx:Hid _:=hm;clear hm HMa;have HMa:=HMx;have HRR:Hid _:=hRR;clear hRR HMx;go_upto_if 6 with fail
 go_cut [] (fun wc=>Hid (RR=M)∧Below w1.heap.size w1 wc)
 case first =>
  cases first
  ·have hcs:(2≤x.kind∧x.kind≤5)∨(2≤x.kind∧¬ x.kind≤5)∨¬ 2≤x.kind:=by omega
   rcases hcs with ⟨g1,g2⟩ | ⟨g1,g2⟩ | g1
   ·skip
    have con:=fA 1 at_ w1;have HR:Hid (RR=M):=by show _=_; have:=HMa.out; simp only [De,if_false,decide_eq_true g1,decide_eq_true g2,Bool.true_and,if_true] at this; simpa [dy] using this
    clear HMa ;go_wp2_with fail
    refine con.mono ?_;rintro e w2 ⟨rfl,hb2⟩;go_wp2_with fail
    go_meet
    case rel=>exact ⟨HR,hb2⟩
   ·skip
    have con:=dv 1 at_ w1;have HR:Hid (M=1):=by show _=_; have:=HMa.out; simp only [De,if_false,decide_eq_true g1,decide_eq_false g2,Bool.true_and] at this; simpa [dy] using this.symm
    clear HMa ;go_wp2_with fail
    refine con.mono ?_;rintro e w2 ⟨rfl,hb2⟩;go_wp2_with fail
    exact ⟨rfl,.bad (chain hal hb2) HR.out (by decide)⟩
   ·skip
    have con:=dv 1 at_ w1;have HR:Hid (M=1):=by show _=_; have:=HMa.out; simp only [De,if_false,decide_eq_false g1,Bool.false_and] at this; simpa [dy] using this.symm
    clear HMa ;go_wp2_with fail
    refine con.mono ?_;rintro e w2 ⟨rfl,hb2⟩;go_wp2_with fail
    exact ⟨rfl,.bad (chain hal hb2) HR.out (by decide)⟩
  ·by_cases g1:x.kind=1
   ·have b1:(x.kind == 1)=true:=by simpa using g1
    have con:=fA 1 at_ w1;have HR:Hid (RR=M):=by show _=_; have:=HMa.out; simp only [if_true,b1] at this; simpa [dy] using this
    clear HMa g1;go_wp2_with fail
    refine con.mono ?_;rintro e w2 ⟨rfl,hb2⟩;go_wp2_with fail
    go_meet
    case rel=>exact ⟨HR,hb2⟩
   ·have b1:(x.kind == 1)=false:=by simpa using g1
    have con:=dv 1 at_ w1;have HR:Hid (M=1):=by show _=_; have:=HMa.out; simp only [if_true,b1,De,if_false] at this; simpa [dy] using this.symm
    clear HMa g1;go_wp2_with fail
    refine con.mono ?_;rintro e w2 ⟨rfl,hb2⟩;go_wp2_with fail
    exact ⟨rfl,.bad (chain hal hb2) HR.out (by decide)⟩
 case rest =>
  clear HMa k2 k3;obtain ⟨HMb0,hbc⟩:=hcut;have hm:=HMb0.out;rw [← HRR.out] at hm;have HMb:Hid _:=hm;clear hm HMb0 HRR;have hx4:Below w.heap.size w wc:=chain hal hbc;have QC5:=(hbc.block _ (lt_of_heap QC)).trans QC;have QX6:=(hbc.block _ (lt_of_heap QX)).trans QX;have HK7:Hid (cQ (fun _=>True) wc x [.int .i64 x.kind,.string x.name,.string x.alias,.int .i64 x.on.k,.int .i64 x.on.v.1,.int .i64 x.on.v.2.1,.string x.on.v.2.2,.string x.on.aH,.string x.on.name,.slice a x.on.ks.length c]):=dq.next (ay.of hbc) HK1.out
  have k8:wc.cell? ⟨w.heap.size,0,none⟩=some (.int .i64 at_):=cell_of (i:=0) QC5 rfl;have k9:wc.cell? ⟨w.heap.size+1,1,none⟩=some (.string x.name):=cell_of (i:=1) QX6 rfl;have con10:=jl x.name at_ wc;have hm:=HMb.out;generalize dB x.name=rk at hm con10;have HM11:Hid _:=hm;clear hm HMb;go_wp2_with fail
  refine con10.mono ?_;rintro e w12 ⟨hb13,hW⟩;clear con10 k8 k9;have hx14:Below w.heap.size w w12:=chain hx4 hb13;have QC15:=(hb13.block _ (lt_of_heap QC5)).trans QC5;have QX16:=(hb13.block _ (lt_of_heap QX6)).trans QX6;have HK17:Hid (cQ (fun _=>True) w12 x [.int .i64 x.kind,.string x.name,.string x.alias,.int .i64 x.on.k,.int .i64 x.on.v.1,.int .i64 x.on.v.2.1,.string x.on.v.2.2,.string x.on.aH,.string x.on.name,.slice a x.on.ks.length c]):=dq.next (ay.of hb13) HK7.out;rcases hW with ⟨h,rfl⟩ | ⟨h,rfl⟩
  rotate_left
  ·have HR:Hid (rk=M):=by have:=HM11.out; rw [cZ h] at this; exact this
   clear HM11;go_wp2_with fail
   exact ⟨rfl,.bad hx14 HR.out.symm h⟩
  subst h;have hm:=HM11.out;rw [cg] at hm;have HM18:Hid _:=hm;clear hm HM11;have k19:w12.cell? ⟨w.heap.size,0,none⟩=some (.int .i64 at_):=cell_of (i:=0) QC15 rfl;have k20:w12.cell? ⟨w.heap.size+1,2,none⟩=some (.string x.alias):=cell_of (i:=2) QX16 rfl;have con21:=mi x.alias at_ w12;have hm:=HM18.out;generalize cM x.alias=rk at hm con21;have HM22:Hid _:=hm;clear hm HM18;go_wp2_with fail
  refine con21.mono ?_;rintro e w23 ⟨hb24,hW⟩;clear con21 k19 k20;have hx25:Below w.heap.size w w23:=chain hx14 hb24;have QC26:=(hb24.block _ (lt_of_heap QC15)).trans QC15;have QX27:=(hb24.block _ (lt_of_heap QX16)).trans QX16;have HK28:Hid (cQ (fun _=>True) w23 x [.int .i64 x.kind,.string x.name,.string x.alias,.int .i64 x.on.k,.int .i64 x.on.v.1,.int .i64 x.on.v.2.1,.string x.on.v.2.2,.string x.on.aH,.string x.on.name,.slice a x.on.ks.length c]):=dq.next (ay.of hb24) HK17.out;rcases hW with ⟨h,rfl⟩ | ⟨h,rfl⟩
  rotate_left
  ·have HR:Hid (rk=M):=by have:=HM22.out; rw [cZ h] at this; exact this
   clear HM22;go_wp2_with fail
   exact ⟨rfl,.bad hx25 HR.out.symm h⟩
  subst h;have hm:=HM22.out;rw [cg] at hm;have HM29:Hid _:=hm;clear hm HM22;have hk:=HK28.out;obtain ⟨a',c',e',hk⟩:=hk;simp only [List.cons.injEq,Value.slice.injEq] at e';obtain ⟨_,_,_,_,_,_,_,_,_,⟨rfl,_,rfl⟩,_⟩:=e';have HKO:Hid _:=hk;clear hk;have k30:w23.cell? ⟨w.heap.size,0,none⟩=some (.int .i64 at_):=cell_of (i:=0) QC26 rfl;have k31:w23.cell? ⟨w.heap.size+1,3,none⟩=some (.int .i64 x.on.k):=cell_of (i:=3) QX27 rfl;have k32:w23.cell? ⟨w.heap.size+1,4,none⟩=some (.int .i64 x.on.v.1):=cell_of (i:=4) QX27 rfl
  have k33:w23.cell? ⟨w.heap.size+1,5,none⟩=some (.int .i64 x.on.v.2.1):=cell_of (i:=5) QX27 rfl;have k34:w23.cell? ⟨w.heap.size+1,6,none⟩=some (.string x.on.v.2.2):=cell_of (i:=6) QX27 rfl;have k35:w23.cell? ⟨w.heap.size+1,7,none⟩=some (.string x.on.aH):=cell_of (i:=7) QX27 rfl;have k36:w23.cell? ⟨w.heap.size+1,8,none⟩=some (.string x.on.name):=cell_of (i:=8) QX27 rfl;have k37:w23.cell? ⟨w.heap.size+1,9,none⟩=some (.slice a x.on.ks.length c):=cell_of (i:=9) QX27 rfl;have con38:=iZ (!first) x.on at_ a c (fun _=>True) w23 HKO.out;have hm:=HM29.out
  generalize dx (!first) x.on=rk at hm con38;have HM39:Hid _:=hm;clear hm HM29;go_wp2_with fail
  refine con38.mono ?_;rintro e w40 ⟨hb41,hW⟩;clear con38 k30 k31 k32 k33 k34 k35 k36 k37;have hx42:Below w.heap.size w w40:=chain hx25 hb41;have QC43:=(hb41.block _ (lt_of_heap QC26)).trans QC26;have QX44:=(hb41.block _ (lt_of_heap QX27)).trans QX27;have HK45:Hid (cQ (fun _=>True) w40 x [.int .i64 x.kind,.string x.name,.string x.alias,.int .i64 x.on.k,.int .i64 x.on.v.1,.int .i64 x.on.v.2.1,.string x.on.v.2.2,.string x.on.aH,.string x.on.name,.slice a x.on.ks.length c]):=dq.next (ay.of hb41) HK28.out;rcases hW with ⟨h,rfl⟩ | ⟨h,rfl⟩
  rotate_left
  ·have HR:Hid (rk=M):=by have:=HM39.out; rw [cZ h] at this; exact this
   clear HM39;go_wp2_with fail
   exact ⟨rfl,.bad hx42 HR.out.symm h⟩
  subst h;have hm:=HM39.out;rw [cg] at hm;have HM46:Hid _:=hm;clear hm HM39;go_wp2_with fail
  go_end0
  exact .ok hx42 HM46.out.symm
theorem gN (a b c:Int):dy (dy a b) c=dy a (dy b c):=by unfold dy; split <;> simp_all
theorem aI.elem {α:Type} {En:ir α} {size:Nat} {S:Nat→Prop} {W:World} {a:Option Addr} {l:List α} (h:aI En size S W a l) {j:Nat} (hlt:j<l.length) :
  ∃ b off cs,a=some ⟨b,off,none⟩∧b<W.heap.size∧cs.length=size∧(∀ (i:Nat) (u:Value),cs[i]? = some u→W.cell? ⟨b,off+j*size+i,none⟩=some u)∧En S W l[j] cs:=by
 rcases h with rfl | ⟨b,off,e,_,h2,h3⟩
 ·simp at hlt
 ·obtain ⟨cs,c1,c2,c3⟩:=h3 j hlt;exact ⟨b,off,cs,e,h2,c1,c2,c3⟩
theorem cI {n least most:Int} (h:eD n least most=0):least≤n∧n≤most:=by
 unfold eD at h
 split at h
 ·rename_i hc; simpa using hc
 ·cases h
def fE:List kQ→Int
 | []=>0
 | x :: r=>dy (eh x.1) (dy (cM x.2) (fE r))
theorem qv (x:kQ) (r:List kQ):fE (x :: r)=dy (eh x.1) (dy (cM x.2) (fE r)):=rfl
def jw (l:List kQ):Int:=dy (eD l.length 1 8) (dy (fE l) 0)
theorem tl (l:List kQ) (a:Option Addr) (c:Nat) (S:Nat→Prop) (at_:Int) (w:World) (hks:aI fy 8 S w a l):Calls Tryz.prog 136 #[.agg #[.int .i64 at_],.slice a l.length c] w (fZ w at_ (jw l)):=by
 have hal:=ab w (.cells #[.int .i64 at_] 86);have QC:=ar w #[.int .i64 at_] 86;generalize hM:jw l=M;have HM0:Hid _:=hM;clear hM;have HK1:Hid ((bo fy 8) (fun _=>True) (w.alloc (.cells #[.int .i64 at_] 86)) l [.slice a l.length c]):=(bd gh 8).next (ay.of hal) ((bd gh 8).mono (fun _ _ _=>trivial) ⟨a,c,rfl,hks⟩);go_enter Tryz.func136,Tryz.ntmps136;go_upto_region 1 with fail
 generalize (w.alloc (.cells #[.int .i64 at_] 86))=w1 at *;have hm:=HM0.out;rw [jw] at hm;have HMa:Hid _:=hm;clear hm HM0 hks;have k2:w1.cell? ⟨w.heap.size,0,none⟩=some (.int .i64 at_):=cell_of (i:=0) QC rfl;have con3:=fo l.length 1 8 at_ w1;have hm:=HMa.out;obtain ⟨rk,hrk⟩:∃ r,eD l.length 1 8=r:=⟨_,rfl⟩
 rw [hrk] at hm con3;have HRK:Hid _:=hrk;clear hrk;have HM4:Hid _:=hm;clear hm HMa;go_wp2_with fail
 refine con3.mono ?_;rintro e w5 ⟨hb6,hW⟩;clear con3 k2;have hx7:Below w.heap.size w w5:=chain hal hb6;have QC8:=(hb6.block _ (lt_of_heap QC)).trans QC;have HK9:Hid ((bo fy 8) (fun _=>True) w5 l [.slice a l.length c]):=(bd gh 8).next (ay.of hb6) HK1.out;rcases hW with ⟨h,rfl⟩ | ⟨h,rfl⟩
 rotate_left
 ·have HR:Hid (rk=M):=by have:=HM4.out; rw [cZ h] at this; exact this
  clear HM4;go_wp2_with fail
  exact ⟨rfl,.bad hx7 HR.out.symm h⟩
 subst h;have hm:=HM4.out;rw [cg] at hm;have HM10:Hid _:=hm;clear hm HM4;have hcn:=cI HRK.out;clear HRK;have HKL:Hid (aI fy 8 (fun _=>True) w5 a l):=HK9.out.ls;have HM11:Hid (dy (fE (l.drop 0)) (0)=M):=by show _=_; rw [DL]; exact HM10.out
 clear HM10;go_wp2_with fail
 go_loopw [12] (fun jv wr=>∃ j:Nat,j≤l.length∧jv = .int .i64 j∧Hid (dy (fE (l.drop j)) (0)=M)∧Below w5.heap.size w5 wr) (fun jv _=>l.length - (RowKit.intOf jv).toNat)
 case atStart=>exact ⟨0,by omega,rfl,HM11,CY _ _⟩
 case round =>
  clear HM11;obtain ⟨j,hj,rfl,HL,hbr⟩:=hrel;have hx12:Below w.heap.size w wr:=chain hx7 hbr;have QC13:=(hbr.block _ (lt_of_heap QC8)).trans QC8;have HK14:Hid ((bo fy 8) (fun _=>True) wr l [.slice a l.length c]):=(bd gh 8).next (ay.of hbr) HK9.out;have hL:=HL.out;by_cases hlt:j<l.length
  ·have hjz:(j:Int)<(l.length:Int):=by omega
   rw [Da hlt,qv] at hL;simp only [gN] at hL;obtain ⟨bl,off,cs,rfl,hbl,hcl,hce,⟨ai,ci,rfl,hkk⟩⟩:=(HKL.out.bz gh (ay.of hbr)).elem hlt;have z0:=hce 0 _ rfl;have z1:=hce 1 _ rfl;have z2:=hce 2 _ rfl;have z3:=hce 3 _ rfl;have z4:=hce 4 _ rfl;have z5:=hce 5 _ rfl;have z6:=hce 6 _ rfl;have z7:=hce 7 _ rfl;rw [DJ] at z0
   have halY:=ab wr (.cells #[.int .i64 l[j].1.k,.int .i64 l[j].1.v.1,.int .i64 l[j].1.v.2.1,.string l[j].1.v.2.2,.string l[j].1.aH,.string l[j].1.name,.slice ai l[j].1.ks.length ci,.string l[j].2] 75);have QY:=ar wr #[.int .i64 l[j].1.k,.int .i64 l[j].1.v.1,.int .i64 l[j].1.v.2.1,.string l[j].1.v.2.2,.string l[j].1.aH,.string l[j].1.name,.slice ai l[j].1.ks.length ci,.string l[j].2] 75;have HMr:Hid _:=hL;generalize l[j]=y at *;clear HL hL hce hcl;go_upto_region 5 with fail
   generalize wr.alloc (.cells #[.int .i64 y.1.k,.int .i64 y.1.v.1,.int .i64 y.1.v.2.1,.string y.1.v.2.2,.string y.1.aH,.string y.1.name,.slice ai y.1.ks.length ci,.string y.2] 75)=wa at *;clear z0 z1 z2 z3 z4 z5 z6 z7;have hx1515:Below w.heap.size w wa:=chain hx12 halY;have QC1516:=(halY.block _ (lt_of_heap QC13)).trans QC13;have hB1517:Below w5.heap.size w5 wa:=chain hbr halY;have HKE:Hid (aD (fun _=>True) wa ai y.1.ks):=aD.next halY hkk;clear hkk;have k1518:wa.cell? ⟨w.heap.size,0,none⟩=some (.int .i64 at_):=cell_of (i:=0) QC1516 rfl
   have k1519:wa.cell? ⟨wr.heap.size,0,none⟩=some (.int .i64 y.1.k):=cell_of (i:=0) QY rfl;have k1520:wa.cell? ⟨wr.heap.size,1,none⟩=some (.int .i64 y.1.v.1):=cell_of (i:=1) QY rfl;have k1521:wa.cell? ⟨wr.heap.size,2,none⟩=some (.int .i64 y.1.v.2.1):=cell_of (i:=2) QY rfl;have k1522:wa.cell? ⟨wr.heap.size,3,none⟩=some (.string y.1.v.2.2):=cell_of (i:=3) QY rfl;have k1523:wa.cell? ⟨wr.heap.size,4,none⟩=some (.string y.1.aH):=cell_of (i:=4) QY rfl;have k1524:wa.cell? ⟨wr.heap.size,5,none⟩=some (.string y.1.name):=cell_of (i:=5) QY rfl
   have k1525:wa.cell? ⟨wr.heap.size,6,none⟩=some (.slice ai y.1.ks.length ci):=cell_of (i:=6) QY rfl;have con1526:=mR y.1 at_ ai ci (fun _=>True) wa HKE.out;have hm:=HMr.out;generalize eh y.1=rk at hm con1526;have HM1527:Hid _:=hm;clear hm HMr;go_wp2_with fail
   refine con1526.mono ?_;rintro e w1528 ⟨hb1529,hW⟩;clear con1526 k1518 k1519 k1520 k1521 k1522 k1523 k1524 k1525;have hx1530:Below w.heap.size w w1528:=chain hx1515 hb1529;have QC1531:=(hb1529.block _ (lt_of_heap QC1516)).trans QC1516;have QY1532:=(hb1529.block _ (lt_of_heap QY)).trans QY;have hB1533:Below w5.heap.size w5 w1528:=chain hB1517 hb1529;rcases hW with ⟨h,rfl⟩ | ⟨h,rfl⟩
   rotate_left
   ·have HR:Hid (rk=M):=by have:=HM1527.out; rw [cZ h] at this; exact this
    clear HM1527;go_wp2_with fail
    exact ⟨rfl,.bad hx1530 HR.out.symm h⟩
   subst h;have hm:=HM1527.out;rw [cg] at hm;have HM1534:Hid _:=hm;clear hm HM1527;have k1535:w1528.cell? ⟨w.heap.size,0,none⟩=some (.int .i64 at_):=cell_of (i:=0) QC1531 rfl;have k1536:w1528.cell? ⟨wr.heap.size,7,none⟩=some (.string y.2):=cell_of (i:=7) QY1532 rfl;have con1537:=mi y.2 at_ w1528;have hm:=HM1534.out;generalize cM y.2=rk at hm con1537;have HM1538:Hid _:=hm;clear hm HM1534;go_wp2_with fail
   refine con1537.mono ?_;rintro e w1539 ⟨hb1540,hW⟩;clear con1537 k1535 k1536;have hx1541:Below w.heap.size w w1539:=chain hx1530 hb1540;have QC1542:=(hb1540.block _ (lt_of_heap QC1531)).trans QC1531;have QY1543:=(hb1540.block _ (lt_of_heap QY1532)).trans QY1532;have hB1544:Below w5.heap.size w5 w1539:=chain hB1533 hb1540;rcases hW with ⟨h,rfl⟩ | ⟨h,rfl⟩
   rotate_left
   ·have HR:Hid (rk=M):=by have:=HM1538.out; rw [cZ h] at this; exact this
    clear HM1538;go_wp2_with fail
    exact ⟨rfl,.bad hx1541 HR.out.symm h⟩
   subst h;have hm:=HM1538.out;rw [cg] at hm;have HM1545:Hid _:=hm;clear hm HM1538;go_wp2_with fail
   go_roundw
   case rel=>exact ⟨j+1,by omega,by go_num,HM1545,hB1544⟩
   case measure=>simp [RowKit.intOf]; omega
  ·have hjz:¬ (j:Int)<(l.length:Int):=by omega
   rw [Dh (by omega),show fE []=0 from rfl,cg] at hL;have HMr:Hid _:=hL;clear HL hL;go_wp2_with fail
   go_end0
   exact .ok hx12 HMr.out.symm
def cL (first:Bool):List Src→Int
 | []=>0
 | x :: r=>dy (dY first x) (cL false r)
theorem ni (f:Bool) (x:Src) (r:List Src):cL f (x :: r)=dy (dY f x) (cL false r):=rfl
def kI (st:Bool) (l:List kQ):Int:=if st then 0 else jw l
def pG (x:fD):Int:=dy (dx x.aB x.ah) (dy (eA x.group) (dy (dx x.aG x.aj) 0))
def kE (x:fD):Int:=dy (eD x.sources.length 1 4) (dy (eD x.group.length 0 8) (dy (kI x.star x.items) (dy (cL true x.sources) (pG x))))
theorem oS (x:fD) (a1 a2 a3 a4 a5:Option Addr) (c1 c2 c3 c4 c5:Nat) (S:Nat→Prop) (at_:Int) (w:World) (h1:aI fy 8 S w a1 x.items) (h2:aI cQ 10 S w a2 x.sources) (h3:aD S w a3 x.ah.ks) (h4:aD S w a4 x.aj.ks) (h5:aI bO 7 S w a5 x.group):Calls Tryz.prog 104 #[.agg #[.int .i64 at_],.agg #[.bool x.distinct,.bool x.star,.slice a1 x.items.length c1,.slice a2 x.sources.length c2,.bool x.aB,.bool x.aG,.int .i64 x.ah.k,.int .i64 x.ah.v.1,.int .i64 x.ah.v.2.1,.string x.ah.v.2.2,.string x.ah.aH,.string x.ah.name,.slice a3 x.ah.ks.length c3,.int .i64 x.aj.k,.int .i64 x.aj.v.1,.int .i64 x.aj.v.2.1,.string x.aj.v.2.2,.string x.aj.aH,.string x.aj.name,.slice a4 x.aj.ks.length c4,.slice a5 x.group.length c5]] w (fZ w at_ (kE x)):=by
 have hal1:=ab w (.cells #[.int .i64 at_] 86)
 have hal2:Below (w.alloc (.cells #[.int .i64 at_] 86)).heap.size (w.alloc (.cells #[.int .i64 at_] 86)) ((w.alloc (.cells #[.int .i64 at_] 86)).alloc (.cells #[.bool x.distinct,.bool x.star,.slice a1 x.items.length c1,.slice a2 x.sources.length c2,.bool x.aB,.bool x.aG,.int .i64 x.ah.k,.int .i64 x.ah.v.1,.int .i64 x.ah.v.2.1,.string x.ah.v.2.2,.string x.ah.aH,.string x.ah.name,.slice a3 x.ah.ks.length c3,.int .i64 x.aj.k,.int .i64 x.aj.v.1,.int .i64 x.aj.v.2.1,.string x.aj.v.2.2,.string x.aj.aH,.string x.aj.name,.slice a4 x.aj.ks.length c4,.slice a5 x.group.length c5] 79)):=(CY _ _).alloc (CX _) _
 have QC:((w.alloc (.cells #[.int .i64 at_] 86)).alloc (.cells #[.bool x.distinct,.bool x.star,.slice a1 x.items.length c1,.slice a2 x.sources.length c2,.bool x.aB,.bool x.aG,.int .i64 x.ah.k,.int .i64 x.ah.v.1,.int .i64 x.ah.v.2.1,.string x.ah.v.2.2,.string x.ah.aH,.string x.ah.name,.slice a3 x.ah.ks.length c3,.int .i64 x.aj.k,.int .i64 x.aj.v.1,.int .i64 x.aj.v.2.1,.string x.aj.v.2.2,.string x.aj.aH,.string x.aj.name,.slice a4 x.aj.ks.length c4,.slice a5 x.group.length c5] 79)).heap[w.heap.size]? = some (.cells #[.int .i64 at_] 86 (0,0)):=(hal2.block _ (lt_of_heap (ar w #[.int .i64 at_] 86))).trans (ar w _ _)
 have QX:((w.alloc (.cells #[.int .i64 at_] 86)).alloc (.cells #[.bool x.distinct,.bool x.star,.slice a1 x.items.length c1,.slice a2 x.sources.length c2,.bool x.aB,.bool x.aG,.int .i64 x.ah.k,.int .i64 x.ah.v.1,.int .i64 x.ah.v.2.1,.string x.ah.v.2.2,.string x.ah.aH,.string x.ah.name,.slice a3 x.ah.ks.length c3,.int .i64 x.aj.k,.int .i64 x.aj.v.1,.int .i64 x.aj.v.2.1,.string x.aj.v.2.2,.string x.aj.aH,.string x.aj.name,.slice a4 x.aj.ks.length c4,.slice a5 x.group.length c5] 79)).heap[w.heap.size+1]? = some (.cells #[.bool x.distinct,.bool x.star,.slice a1 x.items.length c1,.slice a2 x.sources.length c2,.bool x.aB,.bool x.aG,.int .i64 x.ah.k,.int .i64 x.ah.v.1,.int .i64 x.ah.v.2.1,.string x.ah.v.2.2,.string x.ah.aH,.string x.ah.name,.slice a3 x.ah.ks.length c3,.int .i64 x.aj.k,.int .i64 x.aj.v.1,.int .i64 x.aj.v.2.1,.string x.aj.v.2.2,.string x.aj.aH,.string x.aj.name,.slice a4 x.aj.ks.length c4,.slice a5 x.group.length c5] 79 (0,0)):=by
  rw [show w.heap.size+1=(w.alloc (.cells #[.int .i64 at_] 86)).heap.size by simp];exact ar _ _ _
 have hal:=chain hal1 hal2;clear hal1 hal2;generalize hM:kE x=M;have HM0:Hid _:=hM;clear hM
 have HK1:Hid ((bo fy 8) (fun _=>True) ((w.alloc (.cells #[.int .i64 at_] 86)).alloc (.cells #[.bool x.distinct,.bool x.star,.slice a1 x.items.length c1,.slice a2 x.sources.length c2,.bool x.aB,.bool x.aG,.int .i64 x.ah.k,.int .i64 x.ah.v.1,.int .i64 x.ah.v.2.1,.string x.ah.v.2.2,.string x.ah.aH,.string x.ah.name,.slice a3 x.ah.ks.length c3,.int .i64 x.aj.k,.int .i64 x.aj.v.1,.int .i64 x.aj.v.2.1,.string x.aj.v.2.2,.string x.aj.aH,.string x.aj.name,.slice a4 x.aj.ks.length c4,.slice a5 x.group.length c5] 79)) x.items [.slice a1 x.items.length c1]):=(bd gh 8).next (ay.of hal) ((bd gh 8).mono (fun _ _ _=>trivial) ⟨a1,c1,rfl,h1⟩)
 have HK2:Hid ((bo cQ 10) (fun _=>True) ((w.alloc (.cells #[.int .i64 at_] 86)).alloc (.cells #[.bool x.distinct,.bool x.star,.slice a1 x.items.length c1,.slice a2 x.sources.length c2,.bool x.aB,.bool x.aG,.int .i64 x.ah.k,.int .i64 x.ah.v.1,.int .i64 x.ah.v.2.1,.string x.ah.v.2.2,.string x.ah.aH,.string x.ah.name,.slice a3 x.ah.ks.length c3,.int .i64 x.aj.k,.int .i64 x.aj.v.1,.int .i64 x.aj.v.2.1,.string x.aj.v.2.2,.string x.aj.aH,.string x.aj.name,.slice a4 x.aj.ks.length c4,.slice a5 x.group.length c5] 79)) x.sources [.slice a2 x.sources.length c2]):=(bd dq 10).next (ay.of hal) ((bd dq 10).mono (fun _ _ _=>trivial) ⟨a2,c2,rfl,h2⟩)
 have HK3:Hid (bO (fun _=>True) ((w.alloc (.cells #[.int .i64 at_] 86)).alloc (.cells #[.bool x.distinct,.bool x.star,.slice a1 x.items.length c1,.slice a2 x.sources.length c2,.bool x.aB,.bool x.aG,.int .i64 x.ah.k,.int .i64 x.ah.v.1,.int .i64 x.ah.v.2.1,.string x.ah.v.2.2,.string x.ah.aH,.string x.ah.name,.slice a3 x.ah.ks.length c3,.int .i64 x.aj.k,.int .i64 x.aj.v.1,.int .i64 x.aj.v.2.1,.string x.aj.v.2.2,.string x.aj.aH,.string x.aj.name,.slice a4 x.aj.ks.length c4,.slice a5 x.group.length c5] 79)) x.ah [.int .i64 x.ah.k,.int .i64 x.ah.v.1,.int .i64 x.ah.v.2.1,.string x.ah.v.2.2,.string x.ah.aH,.string x.ah.name,.slice a3 x.ah.ks.length c3]):=bX.next (ay.of hal) (bX.mono (fun _ _ _=>trivial) ⟨a3,c3,rfl,h3⟩)
 have HK4:Hid (bO (fun _=>True) ((w.alloc (.cells #[.int .i64 at_] 86)).alloc (.cells #[.bool x.distinct,.bool x.star,.slice a1 x.items.length c1,.slice a2 x.sources.length c2,.bool x.aB,.bool x.aG,.int .i64 x.ah.k,.int .i64 x.ah.v.1,.int .i64 x.ah.v.2.1,.string x.ah.v.2.2,.string x.ah.aH,.string x.ah.name,.slice a3 x.ah.ks.length c3,.int .i64 x.aj.k,.int .i64 x.aj.v.1,.int .i64 x.aj.v.2.1,.string x.aj.v.2.2,.string x.aj.aH,.string x.aj.name,.slice a4 x.aj.ks.length c4,.slice a5 x.group.length c5] 79)) x.aj [.int .i64 x.aj.k,.int .i64 x.aj.v.1,.int .i64 x.aj.v.2.1,.string x.aj.v.2.2,.string x.aj.aH,.string x.aj.name,.slice a4 x.aj.ks.length c4]):=bX.next (ay.of hal) (bX.mono (fun _ _ _=>trivial) ⟨a4,c4,rfl,h4⟩)
 have HK5:Hid ((bo bO 7) (fun _=>True) ((w.alloc (.cells #[.int .i64 at_] 86)).alloc (.cells #[.bool x.distinct,.bool x.star,.slice a1 x.items.length c1,.slice a2 x.sources.length c2,.bool x.aB,.bool x.aG,.int .i64 x.ah.k,.int .i64 x.ah.v.1,.int .i64 x.ah.v.2.1,.string x.ah.v.2.2,.string x.ah.aH,.string x.ah.name,.slice a3 x.ah.ks.length c3,.int .i64 x.aj.k,.int .i64 x.aj.v.1,.int .i64 x.aj.v.2.1,.string x.aj.v.2.2,.string x.aj.aH,.string x.aj.name,.slice a4 x.aj.ks.length c4,.slice a5 x.group.length c5] 79)) x.group [.slice a5 x.group.length c5]):=(bd bX 7).next (ay.of hal) ((bd bX 7).mono (fun _ _ _=>trivial) ⟨a5,c5,rfl,h5⟩)
 go_enter Tryz.func104,Tryz.ntmps104;go_upto_region 1 with fail
 generalize ((w.alloc (.cells #[.int .i64 at_] 86)).alloc (.cells #[.bool x.distinct,.bool x.star,.slice a1 x.items.length c1,.slice a2 x.sources.length c2,.bool x.aB,.bool x.aG,.int .i64 x.ah.k,.int .i64 x.ah.v.1,.int .i64 x.ah.v.2.1,.string x.ah.v.2.2,.string x.ah.aH,.string x.ah.name,.slice a3 x.ah.ks.length c3,.int .i64 x.aj.k,.int .i64 x.aj.v.1,.int .i64 x.aj.v.2.1,.string x.aj.v.2.2,.string x.aj.aH,.string x.aj.name,.slice a4 x.aj.ks.length c4,.slice a5 x.group.length c5] 79))=w1 at *;have hm:=HM0.out;rw [kE] at hm
 have HMa:Hid _:=hm;clear hm HM0 h1 h2 h3 h4 h5;have k6:w1.cell? ⟨w.heap.size,0,none⟩=some (.int .i64 at_):=cell_of (i:=0) QC rfl;have k7:w1.cell? ⟨w.heap.size+1,3,none⟩=some (.slice a2 x.sources.length c2):=cell_of (i:=3) QX rfl;have con8:=fo x.sources.length 1 4 at_ w1;have hm:=HMa.out;obtain ⟨rk,hrk⟩:∃ r,eD x.sources.length 1 4=r:=⟨_,rfl⟩
 rw [hrk] at hm con8;have HRK:Hid _:=hrk;clear hrk;have HM9:Hid _:=hm;clear hm HMa;go_wp2_with fail
 refine con8.mono ?_;rintro e w10 ⟨hb11,hW⟩;clear con8 k6 k7;have hx12:Below w.heap.size w w10:=chain hal hb11;have QC13:=(hb11.block _ (lt_of_heap QC)).trans QC;have QX14:=(hb11.block _ (lt_of_heap QX)).trans QX;have HK15:Hid ((bo fy 8) (fun _=>True) w10 x.items [.slice a1 x.items.length c1]):=(bd gh 8).next (ay.of hb11) HK1.out;have HK16:Hid ((bo cQ 10) (fun _=>True) w10 x.sources [.slice a2 x.sources.length c2]):=(bd dq 10).next (ay.of hb11) HK2.out
 have HK17:Hid (bO (fun _=>True) w10 x.ah [.int .i64 x.ah.k,.int .i64 x.ah.v.1,.int .i64 x.ah.v.2.1,.string x.ah.v.2.2,.string x.ah.aH,.string x.ah.name,.slice a3 x.ah.ks.length c3]):=bX.next (ay.of hb11) HK3.out;have HK18:Hid (bO (fun _=>True) w10 x.aj [.int .i64 x.aj.k,.int .i64 x.aj.v.1,.int .i64 x.aj.v.2.1,.string x.aj.v.2.2,.string x.aj.aH,.string x.aj.name,.slice a4 x.aj.ks.length c4]):=bX.next (ay.of hb11) HK4.out
 have HK19:Hid ((bo bO 7) (fun _=>True) w10 x.group [.slice a5 x.group.length c5]):=(bd bX 7).next (ay.of hb11) HK5.out;rcases hW with ⟨h,rfl⟩ | ⟨h,rfl⟩
 rotate_left
 ·have HR:Hid (rk=M):=by have:=HM9.out; rw [cZ h] at this; exact this
  clear HM9;go_wp2_with fail
  exact ⟨rfl,.bad hx12 HR.out.symm h⟩
 subst h;have hm:=HM9.out;rw [cg] at hm;have HM20:Hid _:=hm;clear hm HM9;have hcn1:=cI HRK.out;clear HRK;have k21:w10.cell? ⟨w.heap.size,0,none⟩=some (.int .i64 at_):=cell_of (i:=0) QC13 rfl;have k22:w10.cell? ⟨w.heap.size+1,20,none⟩=some (.slice a5 x.group.length c5):=cell_of (i:=20) QX14 rfl;have con23:=fo x.group.length 0 8 at_ w10;have hm:=HM20.out;obtain ⟨rk,hrk⟩:∃ r,eD x.group.length 0 8=r:=⟨_,rfl⟩
 rw [hrk] at hm con23;have HRK:Hid _:=hrk;clear hrk;have HM24:Hid _:=hm;clear hm HM20;go_wp2_with fail
 refine con23.mono ?_;rintro e w25 ⟨hb26,hW⟩;clear con23 k21 k22;have hx27:Below w.heap.size w w25:=chain hx12 hb26;have QC28:=(hb26.block _ (lt_of_heap QC13)).trans QC13;have QX29:=(hb26.block _ (lt_of_heap QX14)).trans QX14;have HK30:Hid ((bo fy 8) (fun _=>True) w25 x.items [.slice a1 x.items.length c1]):=(bd gh 8).next (ay.of hb26) HK15.out;have HK31:Hid ((bo cQ 10) (fun _=>True) w25 x.sources [.slice a2 x.sources.length c2]):=(bd dq 10).next (ay.of hb26) HK16.out
 have HK32:Hid (bO (fun _=>True) w25 x.ah [.int .i64 x.ah.k,.int .i64 x.ah.v.1,.int .i64 x.ah.v.2.1,.string x.ah.v.2.2,.string x.ah.aH,.string x.ah.name,.slice a3 x.ah.ks.length c3]):=bX.next (ay.of hb26) HK17.out;have HK33:Hid (bO (fun _=>True) w25 x.aj [.int .i64 x.aj.k,.int .i64 x.aj.v.1,.int .i64 x.aj.v.2.1,.string x.aj.v.2.2,.string x.aj.aH,.string x.aj.name,.slice a4 x.aj.ks.length c4]):=bX.next (ay.of hb26) HK18.out
 have HK34:Hid ((bo bO 7) (fun _=>True) w25 x.group [.slice a5 x.group.length c5]):=(bd bX 7).next (ay.of hb26) HK19.out;rcases hW with ⟨h,rfl⟩ | ⟨h,rfl⟩
 rotate_left
 ·have HR:Hid (rk=M):=by have:=HM24.out; rw [cZ h] at this; exact this
  clear HM24;go_wp2_with fail
  exact ⟨rfl,.bad hx27 HR.out.symm h⟩
 subst h;have hm:=HM24.out;rw [cg] at hm;have HM35:Hid _:=hm;clear hm HM24;have hcn2:=cI HRK.out;clear HRK;generalize x.star=st at *;have k36:w25.cell? ⟨w.heap.size,0,none⟩=some (.int .i64 at_):=cell_of (i:=0) QC28 rfl;have k37:w25.cell? ⟨w.heap.size+1,1,none⟩=some (.bool st):=cell_of (i:=1) QX29 rfl;go_upto_if 18 with fail
 clear k36 k37;go_cut [] (fun wc=>Hid (dy (cL true x.sources) (pG x)=M)∧Below w25.heap.size w25 wc)
 case first =>
  have hm:=HM35.out;rw [kI] at hm;have HMb:Hid _:=hm;clear hm HM35;rcases st with _ | _
  ·have hm:=HMb.out;rw [if_neg (by decide)] at hm;have HMc:Hid _:=hm;clear hm HMb;have k1538:w25.cell? ⟨w.heap.size,0,none⟩=some (.int .i64 at_):=cell_of (i:=0) QC28 rfl;have k1539:w25.cell? ⟨w.heap.size+1,2,none⟩=some (.slice a1 x.items.length c1):=cell_of (i:=2) QX29 rfl;have con:=tl x.items a1 c1 (fun _=>True) at_ w25 HK30.out.ls;have hm:=HMc.out;generalize jw x.items=rk at hm con;have HMd:Hid _:=hm;clear hm HMc;go_wp2_with fail
   refine con.mono ?_;rintro e wq ⟨hbq,⟨h,rfl⟩ | ⟨h,rfl⟩⟩
   ·subst h;have hm:=HMd.out;rw [cg] at hm;have HMe:Hid _:=hm;clear hm HMd;go_wp2_with fail
    go_meet
    case rel=>exact ⟨HMe,hbq⟩
   ·have HR:Hid (rk=M):=by have:=HMd.out; rw [cZ h] at this; exact this
    clear HMd;go_wp2_with fail
    exact ⟨rfl,.bad (chain hx27 hbq) HR.out.symm h⟩
  ·have hm:=HMb.out;rw [if_pos rfl,cg] at hm;have HMc:Hid _:=hm;clear hm HMb;go_wp2_with fail
   go_meet
   case rel=>exact ⟨HMc,CY _ _⟩
 case rest =>
  clear HM35;obtain ⟨HMb,hbc⟩:=hcut;have hx2038:Below w.heap.size w wc:=chain hx27 hbc;have QC2039:=(hbc.block _ (lt_of_heap QC28)).trans QC28;have QX2040:=(hbc.block _ (lt_of_heap QX29)).trans QX29;have HK2041:Hid ((bo fy 8) (fun _=>True) wc x.items [.slice a1 x.items.length c1]):=(bd gh 8).next (ay.of hbc) HK30.out;have HK2042:Hid ((bo cQ 10) (fun _=>True) wc x.sources [.slice a2 x.sources.length c2]):=(bd dq 10).next (ay.of hbc) HK31.out
  have HK2043:Hid (bO (fun _=>True) wc x.ah [.int .i64 x.ah.k,.int .i64 x.ah.v.1,.int .i64 x.ah.v.2.1,.string x.ah.v.2.2,.string x.ah.aH,.string x.ah.name,.slice a3 x.ah.ks.length c3]):=bX.next (ay.of hbc) HK32.out;have HK2044:Hid (bO (fun _=>True) wc x.aj [.int .i64 x.aj.k,.int .i64 x.aj.v.1,.int .i64 x.aj.v.2.1,.string x.aj.v.2.2,.string x.aj.aH,.string x.aj.name,.slice a4 x.aj.ks.length c4]):=bX.next (ay.of hbc) HK33.out
  have HK2045:Hid ((bo bO 7) (fun _=>True) wc x.group [.slice a5 x.group.length c5]):=(bd bX 7).next (ay.of hbc) HK34.out;have HKL:Hid (aI cQ 10 (fun _=>True) wc a2 x.sources):=HK2042.out.ls;have k2046:wc.cell? ⟨w.heap.size,0,none⟩=some (.int .i64 at_):=cell_of (i:=0) QC2039 rfl;have k2047:wc.cell? ⟨w.heap.size+1,3,none⟩=some (.slice a2 x.sources.length c2):=cell_of (i:=3) QX2040 rfl;have HM2048:Hid (dy (cL (((0:Nat):Int) == 0) (x.sources.drop 0)) (pG x)=M):=by show _=_; rw [DL]; exact HMb.out
  clear HMb;go_wp2_with fail
  clear k2046 k2047;go_loopw [26] (fun jv wr=>∃ j:Nat,j≤x.sources.length∧jv = .int .i64 j∧Hid (dy (cL ((j:Int) == 0) (x.sources.drop j)) (pG x)=M)∧Below wc.heap.size wc wr) (fun jv _=>x.sources.length - (RowKit.intOf jv).toNat)
  case atStart=>exact ⟨0,by omega,rfl,HM2048,CY _ _⟩
  case round =>
   clear HM2048;obtain ⟨j,hj,rfl,HL,hbr⟩:=hrel;have hx2049:Below w.heap.size w wr:=chain hx2038 hbr;have QC2050:=(hbr.block _ (lt_of_heap QC2039)).trans QC2039;have QX2051:=(hbr.block _ (lt_of_heap QX2040)).trans QX2040;have HK2052:Hid ((bo fy 8) (fun _=>True) wr x.items [.slice a1 x.items.length c1]):=(bd gh 8).next (ay.of hbr) HK2041.out;have HK2053:Hid ((bo cQ 10) (fun _=>True) wr x.sources [.slice a2 x.sources.length c2]):=(bd dq 10).next (ay.of hbr) HK2042.out
   have HK2054:Hid (bO (fun _=>True) wr x.ah [.int .i64 x.ah.k,.int .i64 x.ah.v.1,.int .i64 x.ah.v.2.1,.string x.ah.v.2.2,.string x.ah.aH,.string x.ah.name,.slice a3 x.ah.ks.length c3]):=bX.next (ay.of hbr) HK2043.out;have HK2055:Hid (bO (fun _=>True) wr x.aj [.int .i64 x.aj.k,.int .i64 x.aj.v.1,.int .i64 x.aj.v.2.1,.string x.aj.v.2.2,.string x.aj.aH,.string x.aj.name,.slice a4 x.aj.ks.length c4]):=bX.next (ay.of hbr) HK2044.out
   have HK2056:Hid ((bo bO 7) (fun _=>True) wr x.group [.slice a5 x.group.length c5]):=(bd bX 7).next (ay.of hbr) HK2045.out;have hL:=HL.out;by_cases hlt:j<x.sources.length
   ·have hjz:(j:Int)<(x.sources.length:Int):=by omega
    rw [Da hlt,ni] at hL;simp only [gN] at hL;obtain ⟨bl,off,cs,rfl,hbl,hcl,hce,⟨ai,ci,rfl,hkk⟩⟩:=(HKL.out.bz dq (ay.of hbr)).elem hlt;have z0:=hce 0 _ rfl;have z1:=hce 1 _ rfl;have z2:=hce 2 _ rfl;have z3:=hce 3 _ rfl;have z4:=hce 4 _ rfl;have z5:=hce 5 _ rfl;have z6:=hce 6 _ rfl;have z7:=hce 7 _ rfl;have z8:=hce 8 _ rfl;have z9:=hce 9 _ rfl;rw [DJ] at z0
    have halY:=ab wr (.cells #[.int .i64 x.sources[j].kind,.string x.sources[j].name,.string x.sources[j].alias,.int .i64 x.sources[j].on.k,.int .i64 x.sources[j].on.v.1,.int .i64 x.sources[j].on.v.2.1,.string x.sources[j].on.v.2.2,.string x.sources[j].on.aH,.string x.sources[j].on.name,.slice ai x.sources[j].on.ks.length ci] 105)
    have QY:=ar wr #[.int .i64 x.sources[j].kind,.string x.sources[j].name,.string x.sources[j].alias,.int .i64 x.sources[j].on.k,.int .i64 x.sources[j].on.v.1,.int .i64 x.sources[j].on.v.2.1,.string x.sources[j].on.v.2.2,.string x.sources[j].on.aH,.string x.sources[j].on.name,.slice ai x.sources[j].on.ks.length ci] 105;have HMr:Hid _:=hL;generalize x.sources[j]=y at *;clear HL hL hce hcl;go_upto_region 8 with fail
    generalize wr.alloc (.cells #[.int .i64 y.kind,.string y.name,.string y.alias,.int .i64 y.on.k,.int .i64 y.on.v.1,.int .i64 y.on.v.2.1,.string y.on.v.2.2,.string y.on.aH,.string y.on.name,.slice ai y.on.ks.length ci] 105)=wa at *;clear z0 z1 z2 z3 z4 z5 z6 z7 z8 z9;have hx3557:Below w.heap.size w wa:=chain hx2049 halY;have QC3558:=(halY.block _ (lt_of_heap QC2050)).trans QC2050;have QX3559:=(halY.block _ (lt_of_heap QX2051)).trans QX2051;have hB3560:Below wc.heap.size wc wa:=chain hbr halY;have HKE:Hid (aD (fun _=>True) wa ai y.on.ks):=aD.next halY hkk;clear hkk
    have k3561:wa.cell? ⟨w.heap.size,0,none⟩=some (.int .i64 at_):=cell_of (i:=0) QC3558 rfl;have k3562:wa.cell? ⟨wr.heap.size,0,none⟩=some (.int .i64 y.kind):=cell_of (i:=0) QY rfl;have k3563:wa.cell? ⟨wr.heap.size,1,none⟩=some (.string y.name):=cell_of (i:=1) QY rfl;have k3564:wa.cell? ⟨wr.heap.size,2,none⟩=some (.string y.alias):=cell_of (i:=2) QY rfl;have k3565:wa.cell? ⟨wr.heap.size,3,none⟩=some (.int .i64 y.on.k):=cell_of (i:=3) QY rfl;have k3566:wa.cell? ⟨wr.heap.size,4,none⟩=some (.int .i64 y.on.v.1):=cell_of (i:=4) QY rfl
    have k3567:wa.cell? ⟨wr.heap.size,5,none⟩=some (.int .i64 y.on.v.2.1):=cell_of (i:=5) QY rfl;have k3568:wa.cell? ⟨wr.heap.size,6,none⟩=some (.string y.on.v.2.2):=cell_of (i:=6) QY rfl;have k3569:wa.cell? ⟨wr.heap.size,7,none⟩=some (.string y.on.aH):=cell_of (i:=7) QY rfl;have k3570:wa.cell? ⟨wr.heap.size,8,none⟩=some (.string y.on.name):=cell_of (i:=8) QY rfl;have k3571:wa.cell? ⟨wr.heap.size,9,none⟩=some (.slice ai y.on.ks.length ci):=cell_of (i:=9) QY rfl;have con3572:=rF ((j:Int) == 0) y ai ci (fun _=>True) at_ wa HKE.out;have hm:=HMr.out
    generalize dY ((j:Int) == 0) y=rk at hm con3572;have HM3573:Hid _:=hm;clear hm HMr;go_wp2_with fail
    refine con3572.mono ?_;rintro e w3574 ⟨hb3575,hW⟩;clear con3572 k3561 k3562 k3563 k3564 k3565 k3566 k3567 k3568 k3569 k3570 k3571;have hx3576:Below w.heap.size w w3574:=chain hx3557 hb3575;have QC3577:=(hb3575.block _ (lt_of_heap QC3558)).trans QC3558;have QX3578:=(hb3575.block _ (lt_of_heap QX3559)).trans QX3559;have QY3579:=(hb3575.block _ (lt_of_heap QY)).trans QY;have hB3580:Below wc.heap.size wc w3574:=chain hB3560 hb3575;rcases hW with ⟨h,rfl⟩ | ⟨h,rfl⟩
    rotate_left
    ·have HR:Hid (rk=M):=by have:=HM3573.out; rw [cZ h] at this; exact this
     clear HM3573;go_wp2_with fail
     exact ⟨rfl,.bad hx3576 HR.out.symm h⟩
    subst h;have hm:=HM3573.out;rw [cg] at hm;have HM3581:Hid _:=hm;clear hm HM3573;go_wp2_with fail
    go_roundw
    case rel=>exact ⟨j+1,by omega,by go_num,(by show _=_; rw [show (((j+1:Nat):Int) == 0)=false by rw [beq_eq_false_iff_ne]; omega]; exact HM3581.out),hB3580⟩
    case measure=>simp [RowKit.intOf]; omega
   ·have hjz:¬ (j:Int)<(x.sources.length:Int):=by omega
    rw [Dh (by omega),show cL ((j:Int) == 0) []=0 from rfl,cg] at hL;have HMr:Hid _:=hL;clear HL hL;have hm:=HMr.out;rw [pG] at hm;have HMs:Hid _:=hm;clear hm HMr;have k4557:wr.cell? ⟨w.heap.size,0,none⟩=some (.int .i64 at_):=cell_of (i:=0) QC2050 rfl;have k4558:wr.cell? ⟨w.heap.size+1,4,none⟩=some (.bool x.aB):=cell_of (i:=4) QX2051 rfl;have k4559:wr.cell? ⟨w.heap.size+1,6,none⟩=some (.int .i64 x.ah.k):=cell_of (i:=6) QX2051 rfl;have k4560:wr.cell? ⟨w.heap.size+1,7,none⟩=some (.int .i64 x.ah.v.1):=cell_of (i:=7) QX2051 rfl
    have k4561:wr.cell? ⟨w.heap.size+1,8,none⟩=some (.int .i64 x.ah.v.2.1):=cell_of (i:=8) QX2051 rfl;have k4562:wr.cell? ⟨w.heap.size+1,9,none⟩=some (.string x.ah.v.2.2):=cell_of (i:=9) QX2051 rfl;have k4563:wr.cell? ⟨w.heap.size+1,10,none⟩=some (.string x.ah.aH):=cell_of (i:=10) QX2051 rfl;have k4564:wr.cell? ⟨w.heap.size+1,11,none⟩=some (.string x.ah.name):=cell_of (i:=11) QX2051 rfl;have k4565:wr.cell? ⟨w.heap.size+1,12,none⟩=some (.slice a3 x.ah.ks.length c3):=cell_of (i:=12) QX2051 rfl;have con4566:=iZ x.aB x.ah at_ a3 c3 (fun _=>True) wr HK2054.out.ks
    have hm:=HMs.out;generalize dx x.aB x.ah=rk at hm con4566;have HM4567:Hid _:=hm;clear hm HMs;go_wp2_with fail
    refine con4566.mono ?_;rintro e w4568 ⟨hb4569,hW⟩;clear con4566 k4557 k4558 k4559 k4560 k4561 k4562 k4563 k4564 k4565;have hx4570:Below w.heap.size w w4568:=chain hx2049 hb4569;have QC4571:=(hb4569.block _ (lt_of_heap QC2050)).trans QC2050;have QX4572:=(hb4569.block _ (lt_of_heap QX2051)).trans QX2051;have HK4573:Hid ((bo fy 8) (fun _=>True) w4568 x.items [.slice a1 x.items.length c1]):=(bd gh 8).next (ay.of hb4569) HK2052.out;have HK4574:Hid ((bo cQ 10) (fun _=>True) w4568 x.sources [.slice a2 x.sources.length c2]):=(bd dq 10).next (ay.of hb4569) HK2053.out
    have HK4575:Hid (bO (fun _=>True) w4568 x.ah [.int .i64 x.ah.k,.int .i64 x.ah.v.1,.int .i64 x.ah.v.2.1,.string x.ah.v.2.2,.string x.ah.aH,.string x.ah.name,.slice a3 x.ah.ks.length c3]):=bX.next (ay.of hb4569) HK2054.out;have HK4576:Hid (bO (fun _=>True) w4568 x.aj [.int .i64 x.aj.k,.int .i64 x.aj.v.1,.int .i64 x.aj.v.2.1,.string x.aj.v.2.2,.string x.aj.aH,.string x.aj.name,.slice a4 x.aj.ks.length c4]):=bX.next (ay.of hb4569) HK2055.out
    have HK4577:Hid ((bo bO 7) (fun _=>True) w4568 x.group [.slice a5 x.group.length c5]):=(bd bX 7).next (ay.of hb4569) HK2056.out;rcases hW with ⟨h,rfl⟩ | ⟨h,rfl⟩
    rotate_left
    ·have HR:Hid (rk=M):=by have:=HM4567.out; rw [cZ h] at this; exact this
     clear HM4567;go_wp2_with fail
     exact ⟨rfl,.bad hx4570 HR.out.symm h⟩
    subst h;have hm:=HM4567.out;rw [cg] at hm;have HM4578:Hid _:=hm;clear hm HM4567;have k4579:w4568.cell? ⟨w.heap.size,0,none⟩=some (.int .i64 at_):=cell_of (i:=0) QC4571 rfl;have k4580:w4568.cell? ⟨w.heap.size+1,20,none⟩=some (.slice a5 x.group.length c5):=cell_of (i:=20) QX4572 rfl;have con4581:=nK x.group (by omega) at_ a5 c5 (fun _=>True) w4568 (aI.zE HK4577.out.ls);have hm:=HM4578.out;generalize eA x.group=rk at hm con4581;have HM4582:Hid _:=hm;clear hm HM4578;go_wp2_with fail
    refine con4581.mono ?_;rintro e w4583 ⟨hb4584,hW⟩;clear con4581 k4579 k4580;have hx4585:Below w.heap.size w w4583:=chain hx4570 hb4584;have QC4586:=(hb4584.block _ (lt_of_heap QC4571)).trans QC4571;have QX4587:=(hb4584.block _ (lt_of_heap QX4572)).trans QX4572;have HK4588:Hid ((bo fy 8) (fun _=>True) w4583 x.items [.slice a1 x.items.length c1]):=(bd gh 8).next (ay.of hb4584) HK4573.out;have HK4589:Hid ((bo cQ 10) (fun _=>True) w4583 x.sources [.slice a2 x.sources.length c2]):=(bd dq 10).next (ay.of hb4584) HK4574.out
    have HK4590:Hid (bO (fun _=>True) w4583 x.ah [.int .i64 x.ah.k,.int .i64 x.ah.v.1,.int .i64 x.ah.v.2.1,.string x.ah.v.2.2,.string x.ah.aH,.string x.ah.name,.slice a3 x.ah.ks.length c3]):=bX.next (ay.of hb4584) HK4575.out;have HK4591:Hid (bO (fun _=>True) w4583 x.aj [.int .i64 x.aj.k,.int .i64 x.aj.v.1,.int .i64 x.aj.v.2.1,.string x.aj.v.2.2,.string x.aj.aH,.string x.aj.name,.slice a4 x.aj.ks.length c4]):=bX.next (ay.of hb4584) HK4576.out
    have HK4592:Hid ((bo bO 7) (fun _=>True) w4583 x.group [.slice a5 x.group.length c5]):=(bd bX 7).next (ay.of hb4584) HK4577.out;rcases hW with ⟨h,rfl⟩ | ⟨h,rfl⟩
    rotate_left
    ·have HR:Hid (rk=M):=by have:=HM4582.out; rw [cZ h] at this; exact this
     clear HM4582;go_wp2_with fail
     exact ⟨rfl,.bad hx4585 HR.out.symm h⟩
    subst h;have hm:=HM4582.out;rw [cg] at hm;have HM4593:Hid _:=hm;clear hm HM4582;have k4594:w4583.cell? ⟨w.heap.size,0,none⟩=some (.int .i64 at_):=cell_of (i:=0) QC4586 rfl;have k4595:w4583.cell? ⟨w.heap.size+1,5,none⟩=some (.bool x.aG):=cell_of (i:=5) QX4587 rfl;have k4596:w4583.cell? ⟨w.heap.size+1,13,none⟩=some (.int .i64 x.aj.k):=cell_of (i:=13) QX4587 rfl;have k4597:w4583.cell? ⟨w.heap.size+1,14,none⟩=some (.int .i64 x.aj.v.1):=cell_of (i:=14) QX4587 rfl;have k4598:w4583.cell? ⟨w.heap.size+1,15,none⟩=some (.int .i64 x.aj.v.2.1):=cell_of (i:=15) QX4587 rfl
    have k4599:w4583.cell? ⟨w.heap.size+1,16,none⟩=some (.string x.aj.v.2.2):=cell_of (i:=16) QX4587 rfl;have k4600:w4583.cell? ⟨w.heap.size+1,17,none⟩=some (.string x.aj.aH):=cell_of (i:=17) QX4587 rfl;have k4601:w4583.cell? ⟨w.heap.size+1,18,none⟩=some (.string x.aj.name):=cell_of (i:=18) QX4587 rfl;have k4602:w4583.cell? ⟨w.heap.size+1,19,none⟩=some (.slice a4 x.aj.ks.length c4):=cell_of (i:=19) QX4587 rfl;have con4603:=iZ x.aG x.aj at_ a4 c4 (fun _=>True) w4583 HK4591.out.ks;have hm:=HM4593.out;generalize dx x.aG x.aj=rk at hm con4603
    have HM4604:Hid _:=hm;clear hm HM4593;go_wp2_with fail
    refine con4603.mono ?_;rintro e w4605 ⟨hb4606,hW⟩;clear con4603 k4594 k4595 k4596 k4597 k4598 k4599 k4600 k4601 k4602;have hx4607:Below w.heap.size w w4605:=chain hx4585 hb4606;have QC4608:=(hb4606.block _ (lt_of_heap QC4586)).trans QC4586;have QX4609:=(hb4606.block _ (lt_of_heap QX4587)).trans QX4587;have HK4610:Hid ((bo fy 8) (fun _=>True) w4605 x.items [.slice a1 x.items.length c1]):=(bd gh 8).next (ay.of hb4606) HK4588.out;have HK4611:Hid ((bo cQ 10) (fun _=>True) w4605 x.sources [.slice a2 x.sources.length c2]):=(bd dq 10).next (ay.of hb4606) HK4589.out
    have HK4612:Hid (bO (fun _=>True) w4605 x.ah [.int .i64 x.ah.k,.int .i64 x.ah.v.1,.int .i64 x.ah.v.2.1,.string x.ah.v.2.2,.string x.ah.aH,.string x.ah.name,.slice a3 x.ah.ks.length c3]):=bX.next (ay.of hb4606) HK4590.out;have HK4613:Hid (bO (fun _=>True) w4605 x.aj [.int .i64 x.aj.k,.int .i64 x.aj.v.1,.int .i64 x.aj.v.2.1,.string x.aj.v.2.2,.string x.aj.aH,.string x.aj.name,.slice a4 x.aj.ks.length c4]):=bX.next (ay.of hb4606) HK4591.out
    have HK4614:Hid ((bo bO 7) (fun _=>True) w4605 x.group [.slice a5 x.group.length c5]):=(bd bX 7).next (ay.of hb4606) HK4592.out;rcases hW with ⟨h,rfl⟩ | ⟨h,rfl⟩
    rotate_left
    ·have HR:Hid (rk=M):=by have:=HM4604.out; rw [cZ h] at this; exact this
     clear HM4604;go_wp2_with fail
     exact ⟨rfl,.bad hx4607 HR.out.symm h⟩
    subst h;have hm:=HM4604.out;rw [cg] at hm;have HM4615:Hid _:=hm;clear hm HM4604;go_wp2_with fail
    go_end0
    exact .ok hx4607 HM4615.out.symm
def ia:List Vl→Int
 | []=>0
 | x :: r=>dy (fu x) (ia r)
theorem rH (x:Vl) (r:List Vl):ia (x :: r)=dy (fu x) (ia r):=rfl
def gv:List (List Vl)→Int
 | []=>0
 | x :: r=>dy (eD x.length 1 8) (dy (ia x) (gv r))
theorem rP (x:List Vl) (r:List (List Vl)):gv (x :: r)=dy (eD x.length 1 8) (dy (ia x) (gv r)):=rfl
def lE (l:List (List Vl)):Int:=dy (eD l.length 1 400) (dy (gv l) 0)
theorem vB (l:List (List Vl)) (a:Option Addr) (c:Nat) (S:Nat→Prop) (at_:Int) (w:World) (hks:aI (bo eU 3) 1 S w a l):Calls Tryz.prog 71 #[.agg #[.int .i64 at_],.slice a l.length c] w (fZ w at_ (lE l)):=by
 have hal:=ab w (.cells #[.int .i64 at_] 86);have QC:=ar w #[.int .i64 at_] 86;generalize hM:lE l=M;have HM0:Hid _:=hM;clear hM;have HK1:Hid ((bo (bo eU 3) 1) (fun _=>True) (w.alloc (.cells #[.int .i64 at_] 86)) l [.slice a l.length c]):=(bd (bd fP 3) 1).next (ay.of hal) ((bd (bd fP 3) 1).mono (fun _ _ _=>trivial) ⟨a,c,rfl,hks⟩);go_enter Tryz.func71,Tryz.ntmps71;go_upto_region 1 with fail
 generalize (w.alloc (.cells #[.int .i64 at_] 86))=w1 at *;have hm:=HM0.out;rw [lE] at hm;have HMa:Hid _:=hm;clear hm HM0 hks;have k2:w1.cell? ⟨w.heap.size,0,none⟩=some (.int .i64 at_):=cell_of (i:=0) QC rfl;have con3:=fo l.length 1 400 at_ w1;have hm:=HMa.out;obtain ⟨rk,hrk⟩:∃ r,eD l.length 1 400=r:=⟨_,rfl⟩
 rw [hrk] at hm con3;have HRK:Hid _:=hrk;clear hrk;have HM4:Hid _:=hm;clear hm HMa;go_wp2_with fail
 refine con3.mono ?_;rintro e w5 ⟨hb6,hW⟩;clear con3 k2;have hx7:Below w.heap.size w w5:=chain hal hb6;have QC8:=(hb6.block _ (lt_of_heap QC)).trans QC;have HK9:Hid ((bo (bo eU 3) 1) (fun _=>True) w5 l [.slice a l.length c]):=(bd (bd fP 3) 1).next (ay.of hb6) HK1.out;rcases hW with ⟨h,rfl⟩ | ⟨h,rfl⟩
 rotate_left
 ·have HR:Hid (rk=M):=by have:=HM4.out; rw [cZ h] at this; exact this
  clear HM4;go_wp2_with fail
  exact ⟨rfl,.bad hx7 HR.out.symm h⟩
 subst h;have hm:=HM4.out;rw [cg] at hm;have HM10:Hid _:=hm;clear hm HM4;have hcn:=cI HRK.out;clear HRK;have HKL:Hid (aI (bo eU 3) 1 (fun _=>True) w5 a l):=HK9.out.ls;have HM11:Hid (dy (gv (l.drop 0)) (0)=M):=by show _=_; rw [DL]; exact HM10.out
 clear HM10;go_wp2_with fail
 go_loopw [14] (fun jv wr=>∃ j:Nat,j≤l.length∧jv = .int .i64 j∧Hid (dy (gv (l.drop j)) (0)=M)∧Below w5.heap.size w5 wr) (fun jv _=>l.length - (RowKit.intOf jv).toNat)
 case atStart=>exact ⟨0,by omega,rfl,HM11,CY _ _⟩
 case round =>
  clear HM11;obtain ⟨j,hj,rfl,HL,hbr⟩:=hrel;have hx12:Below w.heap.size w wr:=chain hx7 hbr;have QC13:=(hbr.block _ (lt_of_heap QC8)).trans QC8;have HK14:Hid ((bo (bo eU 3) 1) (fun _=>True) wr l [.slice a l.length c]):=(bd (bd fP 3) 1).next (ay.of hbr) HK9.out;have hL:=HL.out;by_cases hlt:j<l.length
  ·have hjz:(j:Int)<(l.length:Int):=by omega
   rw [Da hlt,rP] at hL;simp only [gN] at hL;obtain ⟨bl,off,cs,rfl,hbl,hcl,hce,⟨ai,ci,rfl,hkk⟩⟩:=(HKL.out.bz (bd fP 3) (ay.of hbr)).elem hlt;have z0:=hce 0 _ rfl;rw [DJ,Nat.mul_one] at z0;have HMr:Hid _:=hL;generalize l[j]=y at *;clear HL hL hce hcl;have k1515:wr.cell? ⟨w.heap.size,0,none⟩=some (.int .i64 at_):=cell_of (i:=0) QC13 rfl;have con1516:=fo y.length 1 8 at_ wr;have hm:=HMr.out;obtain ⟨rk,hrk⟩:∃ r,eD y.length 1 8=r:=⟨_,rfl⟩
   rw [hrk] at hm con1516;have HRK:Hid _:=hrk;clear hrk;have HM1517:Hid _:=hm;clear hm HMr;go_wp2_with fail
   refine con1516.mono ?_;rintro e w1518 ⟨hb1519,hW⟩;clear con1516 k1515;have hx1520:Below w.heap.size w w1518:=chain hx12 hb1519;have QC1521:=(hb1519.block _ (lt_of_heap QC13)).trans QC13;have hB1522:Below w5.heap.size w5 w1518:=chain hbr hb1519;have hS1523:Below wr.heap.size wr w1518:=hb1519;rcases hW with ⟨h,rfl⟩ | ⟨h,rfl⟩
   rotate_left
   ·have HR:Hid (rk=M):=by have:=HM1517.out; rw [cZ h] at this; exact this
    clear HM1517;go_wp2_with fail
    exact ⟨rfl,.bad hx1520 HR.out.symm h⟩
   subst h;have hm:=HM1517.out;rw [cg] at hm;have HM1524:Hid _:=hm;clear hm HM1517;have hcny:=cI HRK.out;clear HRK;have HKY:Hid (aI eU 3 (fun _=>True) w1518 ai y):=hkk.bz fP (ay.of hS1523);clear hkk;have HM1525:Hid (dy (ia (y.drop 0)) (dy (gv (l.drop (j+1))) 0)=M):=by show _=_; rw [DL]; exact HM1524.out
   clear HM1524;go_wp2_with fail
   go_loopw [24] (fun jv wri=>∃ ji:Nat,ji≤y.length∧jv = .int .i64 ji∧Hid (dy (ia (y.drop ji)) (dy (gv (l.drop (j+1))) 0)=M)∧Below w1518.heap.size w1518 wri) (fun jv _=>y.length - (RowKit.intOf jv).toNat)
   case atStart=>exact ⟨0,by omega,rfl,HM1525,CY _ _⟩
   case round =>
    clear HM1525;obtain ⟨ji,hji,rfl,HL,hbri⟩:=hrel;obtain ⟨wri,ewr⟩:∃ W,W=wr:=⟨_,rfl⟩
    subst ewr;have hx1526:Below w.heap.size w wri:=chain hx1520 hbri;have QC1527:=(hbri.block _ (lt_of_heap QC1521)).trans QC1521;have hB1528:Below w5.heap.size w5 wri:=chain hB1522 hbri;have hS1529:Below wr.heap.size wr wri:=chain hS1523 hbri;have hL:=HL.out;by_cases hlti:ji<y.length
    ·have hjzi:(ji:Int)<(y.length:Int):=by omega
     rw [Da hlti,rH] at hL;simp only [gN] at hL;obtain ⟨bli,offi,cs,rfl,hbli,hcl,hce,rfl⟩:=(HKY.out.bz fP (ay.of hbri)).elem hlti;have zi0:=hce 0 _ rfl;have zi1:=hce 1 _ rfl;have zi2:=hce 2 _ rfl;rw [DJ] at zi0;have halYi:=ab wri (.cells #[.int .i64 y[ji].1,.int .i64 y[ji].2.1,.string y[ji].2.2] 53);have QYi:=ar wri #[.int .i64 y[ji].1,.int .i64 y[ji].2.1,.string y[ji].2.2] 53;have HMr:Hid _:=hL;generalize y[ji]=v at *;clear HL hL hce hcl
     go_upto_region 9 with fail
     generalize wri.alloc (.cells #[.int .i64 v.1,.int .i64 v.2.1,.string v.2.2] 53)=wai at *;clear zi0 zi1 zi2;have hx3030:Below w.heap.size w wai:=chain hx1526 halYi;have QC3031:=(halYi.block _ (lt_of_heap QC1527)).trans QC1527;have hB3032:Below w5.heap.size w5 wai:=chain hB1528 halYi;have hB3033:Below w1518.heap.size w1518 wai:=chain hbri halYi;have hS3034:Below wr.heap.size wr wai:=chain hS1529 halYi;have k3035:wai.cell? ⟨w.heap.size,0,none⟩=some (.int .i64 at_):=cell_of (i:=0) QC3031 rfl;have k3036:wai.cell? ⟨wri.heap.size,0,none⟩=some (.int .i64 v.1):=cell_of (i:=0) QYi rfl
     have k3037:wai.cell? ⟨wri.heap.size,1,none⟩=some (.int .i64 v.2.1):=cell_of (i:=1) QYi rfl;have k3038:wai.cell? ⟨wri.heap.size,2,none⟩=some (.string v.2.2):=cell_of (i:=2) QYi rfl;have con3039:=nI v at_ wai;have hm:=HMr.out;generalize fu v=rk at hm con3039;have HM3040:Hid _:=hm;clear hm HMr;go_wp2_with fail
     refine con3039.mono ?_;rintro e w3041 ⟨hb3042,hW⟩;clear con3039 k3035 k3036 k3037 k3038;have hx3043:Below w.heap.size w w3041:=chain hx3030 hb3042;have QC3044:=(hb3042.block _ (lt_of_heap QC3031)).trans QC3031;have QYi3045:=(hb3042.block _ (lt_of_heap QYi)).trans QYi;have hB3046:Below w5.heap.size w5 w3041:=chain hB3032 hb3042;have hB3047:Below w1518.heap.size w1518 w3041:=chain hB3033 hb3042;have hS3048:Below wr.heap.size wr w3041:=chain hS3034 hb3042;rcases hW with ⟨h,rfl⟩ | ⟨h,rfl⟩
     rotate_left
     ·have HR:Hid (rk=M):=by have:=HM3040.out; rw [cZ h] at this; exact this
      clear HM3040;go_wp2_with fail
      exact ⟨rfl,.bad hx3043 HR.out.symm h⟩
     subst h;have hm:=HM3040.out;rw [cg] at hm;have HM3049:Hid _:=hm;clear hm HM3040;go_wp2_with fail
     go_roundw
     case rel=>exact ⟨ji+1,by omega,by go_num,HM3049,hB3047⟩
     case measure=>simp [RowKit.intOf]; omega
    ·have hjzi:¬ (ji:Int)<(y.length:Int):=by omega
     rw [Dh (by omega),show ia []=0 from rfl,cg] at hL;have HMr:Hid _:=hL;clear HL hL;go_wp2_with fail
     go_roundw
     case rel=>exact ⟨j+1,by omega,by go_num,HMr,hB1528⟩
     case measure=>simp [RowKit.intOf]; omega
  ·have hjz:¬ (j:Int)<(l.length:Int):=by omega
   rw [Dh (by omega),show gv []=0 from rfl,cg] at hL;have HMr:Hid _:=hL;clear HL hL;go_wp2_with fail
   go_end0
   exact .ok hx12 HMr.out.symm
def bK (t:Int):List (Int × ByteArray)→ByteArray
 | []=>⟨#[]⟩
 | a :: r=>if a.1=t then a.2 else bK t r
theorem tI (t:Int) {g:Nat} {w:World} (h:w.heap[g]? = some (.cells vr 168 (0,0))):Calls Tryz.prog 87 #[.slice (some ⟨g,0,none⟩) 3 3,.int .i64 t] w fun e w'=>e = .returned (.string (bK t lM))∧Below w.heap.size w w':=by
 generalize hM:bK t lM=M;have HM:Hid (bK t (lM.drop 0)=M):=hM;clear hM;go_enter Tryz.func87,Tryz.ntmps87;go_wp2_with fail
 go_loopw [9] (fun jv wr=>∃ k:Nat,k≤3∧jv = .int .i64 k∧Hid (bK t (lM.drop k)=M)∧Below w.heap.size w wr) (fun jv _=>3 - (RowKit.intOf jv).toNat)
 case atStart=>exact ⟨0,by omega,rfl,HM,CY _ _⟩
 case round =>
  clear HM;obtain ⟨k,hk,rfl,HL,hx⟩:=hrel;by_cases hlt:k<3
  ·have hkz:(k:Int)<3:=by omega
   have hkl:k<lM.length:=hlt;have QA:=(hx.block _ (lt_of_heap h)).trans h;obtain ⟨c0,c1⟩:=uS QA k hkl;have hgl:=lt_of_heap QA;have hL:=HL.out;rw [Da hkl,bK] at hL;generalize lM[k]=y at *;have HL2:Hid _:=hL;have hal:=ab wr (.cells #[.int .i64 y.1,.string y.2] 168);have QY:=ar wr #[.int .i64 y.1,.string y.2] 168;clear HL hL QA;go_upto_region 4 with fail
   generalize wr.alloc (.cells #[.int .i64 y.1,.string y.2] 168)=wa at *;have y0:wa.cell? ⟨wr.heap.size,0,none⟩=some (.int .i64 y.1):=cell_of (i:=0) QY rfl;have y1:wa.cell? ⟨wr.heap.size,1,none⟩=some (.string y.2):=cell_of (i:=1) QY rfl;clear c0 c1;by_cases he:y.1=t
   ·have b1:(y.1 == t)=true:=by simpa using he
    have e:M=y.2:=by rw [← HL2.out,if_pos he]
    have E:Hid (M=y.2):=e;clear HL2 he e;go_wp2_with fail
    exact C0 (results_tmp rfl _ _ _) rfl ⟨by rw [E.out]; rfl,chain hx hal⟩
   ·have b1:(y.1 == t)=false:=by simpa using he
    have HL3:Hid (bK t (lM.drop (k+1))=M):=by show _=_; rw [← HL2.out,if_neg he]
    clear HL2 he;go_wp2_with fail
    go_roundw
    case rel=>exact ⟨k+1,by omega,by go_num,HL3,chain hx hal⟩
    case measure=>simp [RowKit.intOf]; omega
  ·have hkz:¬ (k:Int)<3:=by omega
   have e:M=⟨#[]⟩:=by rw [← HL.out,Dh (by show 3≤k; omega)]; rfl
   have E:Hid (M=⟨#[]⟩):=e;clear HL e;go_wp2_with fail
   exact C0 (results_tmp rfl _ _ _) rfl ⟨by rw [E.out]; rfl,hx⟩
def kn (t:Int):Int:=if (bK t lM).toList.isEmpty then 1 else 0
def ju:List qs→Int
 | []=>0
 | x :: r=>dy (dB x.1) (dy (kn x.2) (ju r))
theorem rp (x:qs) (r:List qs):ju (x :: r)=dy (dB x.1) (dy (kn x.2) (ju r)):=rfl
def mo (l:List qs):Int:=dy (eD l.length 1 8) (dy (ju l) 0)
theorem qH (l:List qs) (a:Option Addr) (c:Nat) (S:Nat→Prop) (at_:Int) (w:World) (hks:aI iq 2 S w a l):Calls Tryz.prog 70 #[.agg #[.int .i64 at_],.slice a l.length c] w (fZ w at_ (mo l)):=by
 have hal:=ab w (.cells #[.int .i64 at_] 86);have QC:=ar w #[.int .i64 at_] 86;generalize hM:mo l=M;have HM0:Hid _:=hM;clear hM;have HK1:Hid ((bo iq 2) (fun _=>True) (w.alloc (.cells #[.int .i64 at_] 86)) l [.slice a l.length c]):=(bd je 2).next (ay.of hal) ((bd je 2).mono (fun _ _ _=>trivial) ⟨a,c,rfl,hks⟩);go_enter Tryz.func70,Tryz.ntmps70;go_upto_region 1 with fail
 generalize (w.alloc (.cells #[.int .i64 at_] 86))=w1 at *;have hm:=HM0.out;rw [mo] at hm;have HMa:Hid _:=hm;clear hm HM0 hks;have k2:w1.cell? ⟨w.heap.size,0,none⟩=some (.int .i64 at_):=cell_of (i:=0) QC rfl;have con3:=fo l.length 1 8 at_ w1;have hm:=HMa.out;obtain ⟨rk,hrk⟩:∃ r,eD l.length 1 8=r:=⟨_,rfl⟩
 rw [hrk] at hm con3;have HRK:Hid _:=hrk;clear hrk;have HM4:Hid _:=hm;clear hm HMa;go_wp2_with fail
 refine con3.mono ?_;rintro e w5 ⟨hb6,hW⟩;clear con3 k2;have hx7:Below w.heap.size w w5:=chain hal hb6;have QC8:=(hb6.block _ (lt_of_heap QC)).trans QC;have HK9:Hid ((bo iq 2) (fun _=>True) w5 l [.slice a l.length c]):=(bd je 2).next (ay.of hb6) HK1.out;rcases hW with ⟨h,rfl⟩ | ⟨h,rfl⟩
 rotate_left
 ·have HR:Hid (rk=M):=by have:=HM4.out; rw [cZ h] at this; exact this
  clear HM4;go_wp2_with fail
  exact ⟨rfl,.bad hx7 HR.out.symm h⟩
 subst h;have hm:=HM4.out;rw [cg] at hm;have HM10:Hid _:=hm;clear hm HM4;have hcn:=cI HRK.out;clear HRK;have HKL:Hid (aI iq 2 (fun _=>True) w5 a l):=HK9.out.ls;have HM11:Hid (dy (ju (l.drop 0)) (0)=M):=by show _=_; rw [DL]; exact HM10.out
 clear HM10;go_wp2_with fail
 go_loopw [12] (fun jv wr=>∃ j:Nat,j≤l.length∧jv = .int .i64 j∧Hid (dy (ju (l.drop j)) (0)=M)∧Below w5.heap.size w5 wr) (fun jv _=>l.length - (RowKit.intOf jv).toNat)
 case atStart=>exact ⟨0,by omega,rfl,HM11,CY _ _⟩
 case round =>
  clear HM11;obtain ⟨j,hj,rfl,HL,hbr⟩:=hrel;have hx12:Below w.heap.size w wr:=chain hx7 hbr;have QC13:=(hbr.block _ (lt_of_heap QC8)).trans QC8;have HK14:Hid ((bo iq 2) (fun _=>True) wr l [.slice a l.length c]):=(bd je 2).next (ay.of hbr) HK9.out;have hL:=HL.out;by_cases hlt:j<l.length
  ·have hjz:(j:Int)<(l.length:Int):=by omega
   rw [Da hlt,rp] at hL;simp only [gN] at hL;obtain ⟨bl,off,cs,rfl,hbl,hcl,hce,rfl⟩:=(HKL.out.bz je (ay.of hbr)).elem hlt;have z0:=hce 0 _ rfl;have z1:=hce 1 _ rfl;rw [DJ] at z0;have halY:=ab wr (.cells #[.string l[j].1,.int .i64 l[j].2] 69);have QY:=ar wr #[.string l[j].1,.int .i64 l[j].2] 69;have HMr:Hid _:=hL;generalize l[j]=y at *;clear HL hL hce hcl;go_upto_region 5 with fail
   generalize wr.alloc (.cells #[.string y.1,.int .i64 y.2] 69)=wa at *;clear z0 z1;have hx1515:Below w.heap.size w wa:=chain hx12 halY;have QC1516:=(halY.block _ (lt_of_heap QC13)).trans QC13;have hB1517:Below w5.heap.size w5 wa:=chain hbr halY;have k1518:wa.cell? ⟨w.heap.size,0,none⟩=some (.int .i64 at_):=cell_of (i:=0) QC1516 rfl;have k1519:wa.cell? ⟨wr.heap.size,0,none⟩=some (.string y.1):=cell_of (i:=0) QY rfl;have con1520:=jl y.1 at_ wa;have hm:=HMr.out;generalize dB y.1=rk at hm con1520;have HM1521:Hid _:=hm;clear hm HMr;go_wp2_with fail
   refine con1520.mono ?_;rintro e w1522 ⟨hb1523,hW⟩;clear con1520 k1518 k1519;have hx1524:Below w.heap.size w w1522:=chain hx1515 hb1523;have QC1525:=(hb1523.block _ (lt_of_heap QC1516)).trans QC1516;have QY1526:=(hb1523.block _ (lt_of_heap QY)).trans QY;have hB1527:Below w5.heap.size w5 w1522:=chain hB1517 hb1523;rcases hW with ⟨h,rfl⟩ | ⟨h,rfl⟩
   rotate_left
   ·have HR:Hid (rk=M):=by have:=HM1521.out; rw [cZ h] at this; exact this
    clear HM1521;go_wp2_with fail
    exact ⟨rfl,.bad hx1524 HR.out.symm h⟩
   subst h;have hm:=HM1521.out;rw [cg] at hm;have HM1528:Hid _:=hm;clear hm HM1521;go_upto_region 6 with fail
   have hCC:∀ W W':World,W.heap[w.heap.size]? = some (.cells #[.int .i64 at_] 86 (0,0))∧W.heap[wr.heap.size]? = some (.cells #[.string y.1,.int .i64 y.2] 69 (0,0))→Below W.heap.size W W'→W'.heap[w.heap.size]? = some (.cells #[.int .i64 at_] 86 (0,0))∧W'.heap[wr.heap.size]? = some (.cells #[.string y.1,.int .i64 y.2] 69 (0,0)):=fun W W' h hb=>⟨(hb.block _ (lt_of_heap h.1)).trans h.1,(hb.block _ (lt_of_heap h.2)).trans h.2⟩
   have hdr:Below w1522.heap.size w1522 w1522.drew:=(CY _ _).drew;have CW:=hCC _ _ ⟨QC1525,QY1526⟩ hdr;refine ey (fun W=>W.heap[w.heap.size]? = some (.cells #[.int .i64 at_] 86 (0,0))∧W.heap[wr.heap.size]? = some (.cells #[.string y.1,.int .i64 y.2] 69 (0,0))) 6 (by kernel_rfl) ?_;refine aV hCC (some 20) (i:=0) (v:=.agg #[.int .i64 at_]) rfl rfl (by kernel_rfl) (by kernel_rfl) (by kernel_rfl) (by kernel_rfl) (by kernel_rfl) rfl (fun _ _ _ h=>h) (Or.inl ⟨rfl,fun n hn=>?_⟩) (fun _=>CW) ?_
   ·have c0:=cell_of (i:=0) hn.1 rfl; go_simp
   simp only [Act.put,pA,pB,pC];refine aV hCC (some 22) (i:=2) (v:=.pointer (some ⟨wr.heap.size,1,none⟩)) rfl rfl (by kernel_rfl) (by kernel_rfl) (by kernel_rfl) (by kernel_rfl) (by kernel_rfl) rfl (fun _ _ _ h=>h) (Or.inl ⟨rfl,fun n hn=>?_⟩) (fun _=>CW) ?_
   ·go_simp
   simp only [Act.put,pA,pB,pC];refine aV hCC (some 23) (i:=3) (v:=.int .i64 y.2) rfl rfl (by kernel_rfl) (by kernel_rfl) (by kernel_rfl) (by kernel_rfl) (by kernel_rfl) rfl (fun _ _ _ h=>h) (Or.inl ⟨rfl,fun n hn=>?_⟩) (fun _=>CW) ?_
   ·have c0:=cell_of (i:=1) hn.2 rfl; go_simp
   simp only [Act.put,pA,pB,pC];refine bM (rs:=[1]) (by kernel_rfl) (by simp) ?_;intro v1 hv1 jj hjj;obtain rfl:jj=1:=by simpa using hjj
   clear hjj;have con:=pQ v1;have hal5:=ab v1 (.cells vr 168);have QT:=ar v1 vr 168;refine wpOp_step rfl (fun K hK=>?_);go_simp;refine con.mono ?_;rintro e v2 ⟨rfl,rfl⟩;generalize v1.alloc (.cells vr 168)=v2 at *;have C2:=hCC _ _ (hCC _ _ CW hv1) hal5;refine hK _ _ ⟨fun _=>C2,?_⟩;clear hK K con;refine bM (rs:=[4]) (by kernel_rfl) (by simp) ?_;intro v3 hv3 jj hjj;obtain rfl:jj=4:=by simpa using hjj
   clear hjj;have con:=tI y.2 ((hv3.block _ (lt_of_heap QT)).trans QT);refine wpOp_step rfl (fun K hK=>?_);go_simp;refine con.mono ?_;rintro e v4 ⟨rfl,hv4⟩;have C4:=hCC _ _ (hCC _ _ C2 hv3) hv4;have D4:=chain (chain hdr hv1) (chain hal5 (chain hv3 hv4));refine hK _ _ ⟨fun _=>C4,?_⟩;clear hK K con CW C2;have CW:=C4;have hm:=HM1528.out;rw [kn] at hm;generalize bK y.2 lM=wd at *;have HMt:Hid _:=hm;clear hm HM1528;rcases hwd:wd.toList.isEmpty with _ | _
   ·have hm:=HMt.out;rw [hwd,if_neg (by decide)] at hm;refine aV hCC (some 25) (i:=5) (v:=.bool true) rfl rfl (by kernel_rfl) (by kernel_rfl) (by kernel_rfl) (by kernel_rfl) (by kernel_rfl) rfl (fun _ _ _ h=>h) (Or.inl ⟨rfl,fun n hn=>?_⟩) (fun _=>CW) ?_
    ·go_simp
    simp only [Act.put,pA,pB,pC];refine bM (rs:=[6]) (by kernel_rfl) (by simp) ?_;intro v5 hv5 jj hjj;obtain rfl:jj=6:=by simpa using hjj
    clear hjj;have con:=fA 1 at_ v5;refine wpOp_step rfl (fun K hK=>?_);go_simp;refine con.mono ?_;rintro e v6 ⟨rfl,hv6⟩;rw [cg] at hm;have HMu:Hid _:=hm;clear hm HMt;refine hK _ _ ⟨fun h=>by simp at h,?_⟩;clear hK K con;refine gx (by kernel_rfl) ?_;intro v7 hv7;have D7:=chain D4 (chain hv5 (chain hv6 hv7));have hx3029:Below w.heap.size w v7:=chain hx1524 D7;have QC3030:=(D7.block _ (lt_of_heap QC1525)).trans QC1525;have QY3031:=(D7.block _ (lt_of_heap QY1526)).trans QY1526;have hB3032:Below w5.heap.size w5 v7:=chain hB1527 D7;go_wp2_with fail
    go_roundw
    case rel=>exact ⟨j+1,by omega,by go_num,HMu,hB3032⟩
    case measure=>simp [RowKit.intOf]; omega
   ·have hm:=HMt.out;rw [hwd,if_pos rfl] at hm;refine aV hCC (some 25) (i:=5) (v:=.bool false) rfl rfl (by kernel_rfl) (by kernel_rfl) (by kernel_rfl) (by kernel_rfl) (by kernel_rfl) rfl (fun _ _ _ h=>h) (Or.inl ⟨rfl,fun n hn=>?_⟩) (fun _=>CW) ?_
    ·go_simp
    simp only [Act.put,pA,pB,pC];refine bM (rs:=[6]) (by kernel_rfl) (by simp) ?_;intro v5 hv5 jj hjj;obtain rfl:jj=6:=by simpa using hjj
    clear hjj;have con:=dv 1 at_ v5;refine wpOp_step rfl (fun K hK=>?_);go_simp;refine con.mono ?_;rintro e v6 ⟨rfl,hv6⟩;rw [cZ (by decide)] at hm;exact ⟨rfl,.bad (chain hx1524 (chain D4 (chain hv5 hv6))) hm.symm (by decide)⟩
  ·have hjz:¬ (j:Int)<(l.length:Int):=by omega
   rw [Dh (by omega),show ju []=0 from rfl,cg] at hL;have HMr:Hid _:=hL;clear HL hL;go_wp2_with fail
   go_end0
   exact .ok hx12 HMr.out.symm
def Bb (op:Int):Int:=if decide (1≤op) && decide (op≤4) then 0 else 1
def fe (ops:List Int) (j:Nat):List fD→Int
 | []=>0
 | x :: r=>dy (if j=0 then 0 else Bb (ops.getD (j - 1) 0)) (dy (kE x) (fe ops (j+1) r))
theorem ql (ops:List Int) (j:Nat) (x:fD) (r:List fD):fe ops j (x :: r)=dy (if j=0 then 0 else Bb (ops.getD (j - 1) 0)) (dy (kE x) (fe ops (j+1) r)):=rfl
def rR (n:Int):Int:=if n≤50 then 0 else 3
def uv (x:j3):Int:=if 0≤x.aE then eD x.order.length 1 8 else 0
def nj (x:j3):Int:=if 0≤x.aE then eA x.order else 0
def lG (x:j3):Int:=dy (eD x.parts.length 1 4) (dy (eD x.ops.length (x.parts.length - 1) (x.parts.length - 1)) (dy (uv x) (dy (rR x.aE) (dy (fe x.ops 0 x.parts) (dy (nj x) 0)))))
theorem b7.Cb {S:Nat→Prop} {W:World} {x:fD} {a1 a2 a3 a4 a5:Option Addr} {c1 c2 c3 c4 c5:Nat} (h:b7 S W x [.bool x.distinct,.bool x.star,.slice a1 x.items.length c1,.slice a2 x.sources.length c2,.bool x.aB,.bool x.aG,.int .i64 x.ah.k,.int .i64 x.ah.v.1,.int .i64 x.ah.v.2.1,.string x.ah.v.2.2,.string x.ah.aH,.string x.ah.name,.slice a3 x.ah.ks.length c3,.int .i64 x.aj.k,.int .i64 x.aj.v.1,.int .i64 x.aj.v.2.1,.string x.aj.v.2.2,.string x.aj.aH,.string x.aj.name,.slice a4 x.aj.ks.length c4,.slice a5 x.group.length c5]):aI fy 8 S W a1 x.items∧aI cQ 10 S W a2 x.sources∧aD S W a3 x.ah.ks∧aD S W a4 x.aj.ks∧aI bO 7 S W a5 x.group:=by
 obtain ⟨b1,d1,b2,d2,b3,d3,b4,d4,b5,d5,e,h1,h2,h3,h4,h5⟩:=h;simp only [List.cons.injEq,Value.slice.injEq] at e;obtain ⟨_,_,⟨rfl,_⟩,⟨rfl,_⟩,_,_,_,_,_,_,_,_,⟨rfl,_⟩,_,_,_,_,_,_,⟨rfl,_⟩,⟨rfl,_⟩,_⟩:=e;exact ⟨h1,h2,h3,h4,h5⟩
theorem ue (x:j3) (p1 p2 p3:Option Addr) (d1 d2 d3:Nat) (S:Nat→Prop) (at_:Int) (w:World) (h1:aI b7 21 S w p1 x.parts) (h2:aI fJ 1 S w p2 x.ops) (h3:aI bO 7 S w p3 x.order):Calls Tryz.prog 73 #[.agg #[.int .i64 at_],.agg #[.slice p1 x.parts.length d1,.slice p2 x.ops.length d2,.slice p3 x.order.length d3,.int .i64 x.aE]] w (fZ w at_ (lG x)):=by
 have hal1:=ab w (.cells #[.int .i64 at_] 86);have hal2:Below (w.alloc (.cells #[.int .i64 at_] 86)).heap.size (w.alloc (.cells #[.int .i64 at_] 86)) ((w.alloc (.cells #[.int .i64 at_] 86)).alloc (.cells #[.slice p1 x.parts.length d1,.slice p2 x.ops.length d2,.slice p3 x.order.length d3,.int .i64 x.aE] 50)):=(CY _ _).alloc (CX _) _
 have QC:((w.alloc (.cells #[.int .i64 at_] 86)).alloc (.cells #[.slice p1 x.parts.length d1,.slice p2 x.ops.length d2,.slice p3 x.order.length d3,.int .i64 x.aE] 50)).heap[w.heap.size]? = some (.cells #[.int .i64 at_] 86 (0,0)):=(hal2.block _ (lt_of_heap (ar w #[.int .i64 at_] 86))).trans (ar w _ _)
 have QX:((w.alloc (.cells #[.int .i64 at_] 86)).alloc (.cells #[.slice p1 x.parts.length d1,.slice p2 x.ops.length d2,.slice p3 x.order.length d3,.int .i64 x.aE] 50)).heap[w.heap.size+1]? = some (.cells #[.slice p1 x.parts.length d1,.slice p2 x.ops.length d2,.slice p3 x.order.length d3,.int .i64 x.aE] 50 (0,0)):=by
  rw [show w.heap.size+1=(w.alloc (.cells #[.int .i64 at_] 86)).heap.size by simp];exact ar _ _ _
 have hal:=chain hal1 hal2;clear hal1 hal2;generalize hM:lG x=M;have HM0:Hid _:=hM;clear hM;have HK1:Hid ((bo b7 21) (fun _=>True) ((w.alloc (.cells #[.int .i64 at_] 86)).alloc (.cells #[.slice p1 x.parts.length d1,.slice p2 x.ops.length d2,.slice p3 x.order.length d3,.int .i64 x.aE] 50)) x.parts [.slice p1 x.parts.length d1]):=(bd cf 21).next (ay.of hal) ((bd cf 21).mono (fun _ _ _=>trivial) ⟨p1,d1,rfl,h1⟩)
 have HK2:Hid ((bo fJ 1) (fun _=>True) ((w.alloc (.cells #[.int .i64 at_] 86)).alloc (.cells #[.slice p1 x.parts.length d1,.slice p2 x.ops.length d2,.slice p3 x.order.length d3,.int .i64 x.aE] 50)) x.ops [.slice p2 x.ops.length d2]):=(bd fV 1).next (ay.of hal) ((bd fV 1).mono (fun _ _ _=>trivial) ⟨p2,d2,rfl,h2⟩)
 have HK3:Hid ((bo bO 7) (fun _=>True) ((w.alloc (.cells #[.int .i64 at_] 86)).alloc (.cells #[.slice p1 x.parts.length d1,.slice p2 x.ops.length d2,.slice p3 x.order.length d3,.int .i64 x.aE] 50)) x.order [.slice p3 x.order.length d3]):=(bd bX 7).next (ay.of hal) ((bd bX 7).mono (fun _ _ _=>trivial) ⟨p3,d3,rfl,h3⟩);go_enter Tryz.func73,Tryz.ntmps73;go_upto_region 1 with fail
 generalize ((w.alloc (.cells #[.int .i64 at_] 86)).alloc (.cells #[.slice p1 x.parts.length d1,.slice p2 x.ops.length d2,.slice p3 x.order.length d3,.int .i64 x.aE] 50))=w1 at *;have hm:=HM0.out;rw [lG] at hm;have HMa:Hid _:=hm;clear hm HM0 h1 h2 h3;have k4:w1.cell? ⟨w.heap.size,0,none⟩=some (.int .i64 at_):=cell_of (i:=0) QC rfl;have k5:w1.cell? ⟨w.heap.size+1,0,none⟩=some (.slice p1 x.parts.length d1):=cell_of (i:=0) QX rfl;have con6:=fo x.parts.length 1 4 at_ w1;have hm:=HMa.out;obtain ⟨rk,hrk⟩:∃ r,eD x.parts.length 1 4=r:=⟨_,rfl⟩
 rw [hrk] at hm con6;have HRK:Hid _:=hrk;clear hrk;have HM7:Hid _:=hm;clear hm HMa;go_wp2_with fail
 refine con6.mono ?_;rintro e w8 ⟨hb9,hW⟩;clear con6 k4 k5;have hx10:Below w.heap.size w w8:=chain hal hb9;have QC11:=(hb9.block _ (lt_of_heap QC)).trans QC;have QX12:=(hb9.block _ (lt_of_heap QX)).trans QX;have HK13:Hid ((bo b7 21) (fun _=>True) w8 x.parts [.slice p1 x.parts.length d1]):=(bd cf 21).next (ay.of hb9) HK1.out;have HK14:Hid ((bo fJ 1) (fun _=>True) w8 x.ops [.slice p2 x.ops.length d2]):=(bd fV 1).next (ay.of hb9) HK2.out;have HK15:Hid ((bo bO 7) (fun _=>True) w8 x.order [.slice p3 x.order.length d3]):=(bd bX 7).next (ay.of hb9) HK3.out
 rcases hW with ⟨h,rfl⟩ | ⟨h,rfl⟩
 rotate_left
 ·have HR:Hid (rk=M):=by have:=HM7.out; rw [cZ h] at this; exact this
  clear HM7;go_wp2_with fail
  exact ⟨rfl,.bad hx10 HR.out.symm h⟩
 subst h;have hm:=HM7.out;rw [cg] at hm;have HM16:Hid _:=hm;clear hm HM7;have hcn1:=cI HRK.out;clear HRK;have k17:w8.cell? ⟨w.heap.size,0,none⟩=some (.int .i64 at_):=cell_of (i:=0) QC11 rfl;have k18:w8.cell? ⟨w.heap.size+1,1,none⟩=some (.slice p2 x.ops.length d2):=cell_of (i:=1) QX12 rfl;have k19:w8.cell? ⟨w.heap.size+1,0,none⟩=some (.slice p1 x.parts.length d1):=cell_of (i:=0) QX12 rfl;have con20:=fo x.ops.length ((x.parts.length:Int) - 1) ((x.parts.length:Int) - 1) at_ w8;have hm:=HM16.out
 obtain ⟨rk,hrk⟩:∃ r,eD x.ops.length ((x.parts.length:Int) - 1) ((x.parts.length:Int) - 1)=r:=⟨_,rfl⟩
 rw [hrk] at hm con20;have HRK:Hid _:=hrk;clear hrk;have HM21:Hid _:=hm;clear hm HM16;go_wp2_with fail
 refine con20.mono ?_;rintro e w22 ⟨hb23,hW⟩;clear con20 k17 k18 k19;have hx24:Below w.heap.size w w22:=chain hx10 hb23;have QC25:=(hb23.block _ (lt_of_heap QC11)).trans QC11;have QX26:=(hb23.block _ (lt_of_heap QX12)).trans QX12;have HK27:Hid ((bo b7 21) (fun _=>True) w22 x.parts [.slice p1 x.parts.length d1]):=(bd cf 21).next (ay.of hb23) HK13.out;have HK28:Hid ((bo fJ 1) (fun _=>True) w22 x.ops [.slice p2 x.ops.length d2]):=(bd fV 1).next (ay.of hb23) HK14.out
 have HK29:Hid ((bo bO 7) (fun _=>True) w22 x.order [.slice p3 x.order.length d3]):=(bd bX 7).next (ay.of hb23) HK15.out;rcases hW with ⟨h,rfl⟩ | ⟨h,rfl⟩
 rotate_left
 ·have HR:Hid (rk=M):=by have:=HM21.out; rw [cZ h] at this; exact this
  clear HM21;go_wp2_with fail
  exact ⟨rfl,.bad hx24 HR.out.symm h⟩
 subst h;have hm:=HM21.out;rw [cg] at hm;have HM30:Hid _:=hm;clear hm HM21;have hcn2:=cI HRK.out;clear HRK;have k31:w22.cell? ⟨w.heap.size,0,none⟩=some (.int .i64 at_):=cell_of (i:=0) QC25 rfl;have k32:w22.cell? ⟨w.heap.size+1,3,none⟩=some (.int .i64 x.aE):=cell_of (i:=3) QX26 rfl;have k33:w22.cell? ⟨w.heap.size+1,2,none⟩=some (.slice p3 x.order.length d3):=cell_of (i:=2) QX26 rfl;go_upto_if 27 with fail
 go_cut [] (fun wc=>Hid (dy (rR x.aE) (dy (fe x.ops 0 x.parts) (dy (nj x) 0))=M)∧Hid (0≤x.aE→x.order.length≤8)∧Below w22.heap.size w22 wc)
 case first =>
  by_cases hl:0≤x.aE
  ·have hm:=HM30.out;rw [uv,if_pos hl] at hm;have con:=fo x.order.length 1 8 at_ w22;obtain ⟨rk,hrk⟩:∃ r,eD x.order.length 1 8=r:=⟨_,rfl⟩
   rw [hrk] at hm con;have HRK:Hid _:=hrk;have HMb:Hid _:=hm;clear hm hrk HM30;go_wp2_with fail
   refine con.mono ?_;rintro e wq ⟨hbq,⟨h,rfl⟩ | ⟨h,rfl⟩⟩
   ·subst h;have hm:=HMb.out;rw [cg] at hm;have HMe:Hid _:=hm;have hle:=cI HRK.out;have HLE:Hid (0≤x.aE→x.order.length≤8):=fun _=>by omega
    clear hm HMb hle HRK;go_wp2_with fail
    go_meet
    case rel=>exact ⟨HMe,HLE,hbq⟩
   ·have HR:Hid (rk=M):=by have:=HMb.out; rw [cZ h] at this; exact this
    clear HMb HRK;go_wp2_with fail
    exact ⟨rfl,.bad (chain hx24 hbq) HR.out.symm h⟩
  ·have hm:=HM30.out;rw [uv,if_neg hl,cg] at hm;have HMb:Hid _:=hm;have HLE:Hid (0≤x.aE→x.order.length≤8):=fun h=>absurd h hl
   clear hm HM30;go_wp2_with fail
   go_meet
   case rel=>exact ⟨HMb,HLE,CY _ _⟩
 case rest =>
  clear HM30 k31 k32 k33;obtain ⟨HMb,HLE,hbc⟩:=hcut;have hx2034:Below w.heap.size w wc:=chain hx24 hbc;have QC2035:=(hbc.block _ (lt_of_heap QC25)).trans QC25;have QX2036:=(hbc.block _ (lt_of_heap QX26)).trans QX26;have HK2037:Hid ((bo b7 21) (fun _=>True) wc x.parts [.slice p1 x.parts.length d1]):=(bd cf 21).next (ay.of hbc) HK27.out;have HK2038:Hid ((bo fJ 1) (fun _=>True) wc x.ops [.slice p2 x.ops.length d2]):=(bd fV 1).next (ay.of hbc) HK28.out;have HK2039:Hid ((bo bO 7) (fun _=>True) wc x.order [.slice p3 x.order.length d3]):=(bd bX 7).next (ay.of hbc) HK29.out
  have k2040:wc.cell? ⟨w.heap.size,0,none⟩=some (.int .i64 at_):=cell_of (i:=0) QC2035 rfl;have k2041:wc.cell? ⟨w.heap.size+1,3,none⟩=some (.int .i64 x.aE):=cell_of (i:=3) QX2036 rfl;by_cases h50:x.aE≤50
  case neg =>
   have con:=dv 3 at_ wc;have HR:Hid (M=3):=by show _=_; have:=HMb.out; rw [rR,if_neg h50,cZ (by decide)] at this; exact this.symm
   clear HMb;go_wp2_with fail
   refine con.mono ?_;rintro e wq ⟨rfl,hbq⟩;go_wp2_with fail
   exact ⟨rfl,.bad (chain hx2034 hbq) HR.out (by decide)⟩
  have con:=fA 3 at_ wc;have hm:=HMb.out;rw [rR,if_pos h50,cg] at hm;have HMc:Hid _:=hm;clear hm HMb;go_wp2_with fail
  refine con.mono ?_;rintro e wd ⟨rfl,hbd⟩;clear con k2040 k2041;have hx2042:Below w.heap.size w wd:=chain hx2034 hbd;have QC2043:=(hbd.block _ (lt_of_heap QC2035)).trans QC2035;have QX2044:=(hbd.block _ (lt_of_heap QX2036)).trans QX2036;have HK2045:Hid ((bo b7 21) (fun _=>True) wd x.parts [.slice p1 x.parts.length d1]):=(bd cf 21).next (ay.of hbd) HK2037.out;have HK2046:Hid ((bo fJ 1) (fun _=>True) wd x.ops [.slice p2 x.ops.length d2]):=(bd fV 1).next (ay.of hbd) HK2038.out
  have HK2047:Hid ((bo bO 7) (fun _=>True) wd x.order [.slice p3 x.order.length d3]):=(bd bX 7).next (ay.of hbd) HK2039.out;have HKP:Hid (aI b7 21 (fun _=>True) wd p1 x.parts):=HK2045.out.ls;have HKO:Hid (aI fJ 1 (fun _=>True) wd p2 x.ops):=HK2046.out.ls;have k2048:wd.cell? ⟨w.heap.size,0,none⟩=some (.int .i64 at_):=cell_of (i:=0) QC2043 rfl;have k2049:wd.cell? ⟨w.heap.size+1,0,none⟩=some (.slice p1 x.parts.length d1):=cell_of (i:=0) QX2044 rfl;have HM2050:Hid (dy (fe x.ops (0:Nat) (x.parts.drop 0)) (dy (nj x) 0)=M):=by show _=_; rw [DL]; exact HMc.out
  clear HMc;go_wp2_with fail
  clear k2048 k2049;go_loopw [41] (fun jv wr=>∃ j:Nat,j≤x.parts.length∧jv = .int .i64 j∧Hid (dy (fe x.ops j (x.parts.drop j)) (dy (nj x) 0)=M)∧Below wd.heap.size wd wr) (fun jv _=>x.parts.length - (RowKit.intOf jv).toNat)
  case atStart=>exact ⟨0,by omega,rfl,HM2050,CY _ _⟩
  case round =>
   clear HM2050;obtain ⟨j,hj,rfl,HL,hbr⟩:=hrel;have hx2051:Below w.heap.size w wr:=chain hx2042 hbr;have QC2052:=(hbr.block _ (lt_of_heap QC2043)).trans QC2043;have QX2053:=(hbr.block _ (lt_of_heap QX2044)).trans QX2044;have HK2054:Hid ((bo b7 21) (fun _=>True) wr x.parts [.slice p1 x.parts.length d1]):=(bd cf 21).next (ay.of hbr) HK2045.out;have HK2055:Hid ((bo fJ 1) (fun _=>True) wr x.ops [.slice p2 x.ops.length d2]):=(bd fV 1).next (ay.of hbr) HK2046.out
   have HK2056:Hid ((bo bO 7) (fun _=>True) wr x.order [.slice p3 x.order.length d3]):=(bd bX 7).next (ay.of hbr) HK2047.out;have hL:=HL.out;by_cases hlt:j<x.parts.length
   ·have hjz:(j:Int)<(x.parts.length:Int):=by omega
    rw [Da hlt,ql] at hL;simp only [gN] at hL;obtain ⟨bl,off,cs,rfl,hbl,hcl,hce,⟨e1,f1,e2,f2,e3,f3,e4,f4,e5,f5,rfl,k1,k2,k3,k4,k5⟩⟩:=(HKP.out.bz cf (ay.of hbr)).elem hlt;have halY:=ab wr (.cells (eE (x.parts[j]) e1 e2 e3 e4 e5 f1 f2 f3 f4 f5) 79);have QY:=ar wr (eE (x.parts[j]) e1 e2 e3 e4 e5 f1 f2 f3 f4 f5) 79
    have hrg:wr.rangeAt bl (off+j*21) [.bool x.parts[j].distinct,.bool x.parts[j].star,.slice e1 x.parts[j].items.length f1,.slice e2 x.parts[j].sources.length f2,.bool x.parts[j].aB,.bool x.parts[j].aG,.int .i64 x.parts[j].ah.k,.int .i64 x.parts[j].ah.v.1,.int .i64 x.parts[j].ah.v.2.1,.string x.parts[j].ah.v.2.2,.string x.parts[j].ah.aH,.string x.parts[j].ah.name,.slice e3 x.parts[j].ah.ks.length f3,.int .i64 x.parts[j].aj.k,.int .i64 x.parts[j].aj.v.1,.int .i64 x.parts[j].aj.v.2.1,.string x.parts[j].aj.v.2.2,.string x.parts[j].aj.aH,.string x.parts[j].aj.name,.slice e4 x.parts[j].aj.ks.length f4,.slice e5 x.parts[j].group.length f5]:=fun i u hu=>hce i u hu
    have HMr:Hid _:=hL;generalize x.parts[j]=y at *;clear HL hL hce hcl;go_upto_region 9 with (first | (refine wpList_load_mid rfl 79 _ rfl bl (off+j*21) rfl (eE y e1 e2 e3 e4 e5 f1 f2 f3 f4 f5).toList _ hrg Tryz.underlying79 rfl l8 ?_) | (refine bB rfl 79 _ _ rfl nw (eE y e1 e2 e3 e4 e5 f1 f2 f3 f4 f5) rfl rfl l8 rfl (fX rfl) ?_))
    generalize wr.alloc (.cells (eE y e1 e2 e3 e4 e5 f1 f2 f3 f4 f5) 79)=wa at *
    skip
    have hx3557:Below w.heap.size w wa:=chain hx2051 halY;have QC3558:=(halY.block _ (lt_of_heap QC2052)).trans QC2052;have QX3559:=(halY.block _ (lt_of_heap QX2053)).trans QX2053;have hB3560:Below wd.heap.size wd wa:=chain hbr halY
    have HKy:Hid (b7 (fun _=>True) wa y [.bool y.distinct,.bool y.star,.slice e1 y.items.length f1,.slice e2 y.sources.length f2,.bool y.aB,.bool y.aG,.int .i64 y.ah.k,.int .i64 y.ah.v.1,.int .i64 y.ah.v.2.1,.string y.ah.v.2.2,.string y.ah.aH,.string y.ah.name,.slice e3 y.ah.ks.length f3,.int .i64 y.aj.k,.int .i64 y.aj.v.1,.int .i64 y.aj.v.2.1,.string y.aj.v.2.2,.string y.aj.aH,.string y.aj.name,.slice e4 y.aj.ks.length f4,.slice e5 y.group.length f5]):=cf.next (ay.of halY) ⟨e1,f1,e2,f2,e3,f3,e4,f4,e5,f5,rfl,k1,k2,k3,k4,k5⟩
    clear k1 k2 k3 k4 k5 hrg;go_upto_if 47 with fail
    go_cut [] (fun wc=>Hid (dy (kE y) (dy (fe x.ops (j+1) (x.parts.drop (j+1))) (dy (nj x) 0))=M)∧Below wa.heap.size wa wc)
    case first =>
     by_cases hj0:j=0
     ·have hm:=HMr.out;rw [if_pos hj0,cg] at hm;have HMb:Hid _:=hm;have bj:¬ (0:Int)<(j:Int):=by omega
      clear hm HMr hj0;go_wp2_with fail
      go_meet
      case rel=>exact ⟨HMb,CY _ _⟩
     ·have k6061:wa.cell? ⟨w.heap.size,0,none⟩=some (.int .i64 at_):=cell_of (i:=0) QC3558 rfl;have k6062:wa.cell? ⟨w.heap.size+1,1,none⟩=some (.slice p2 x.ops.length d2):=cell_of (i:=1) QX3559 rfl;have hm:=HMr.out;rw [if_neg hj0] at hm;obtain ⟨i,rfl⟩:∃ i,j=i+1:=⟨j - 1,by omega⟩
      have hil:i<x.ops.length:=by omega
      obtain ⟨b2,off2,cs2,ep,hb2l,_,hce2,eo⟩:=(HKO.out.bz fV (ay.of hB3560)).elem hil;subst ep eo;have zo:=hce2 0 _ rfl;rw [DJ,Nat.mul_one] at zo;have hgd:x.ops.getD (i+1 - 1) 0=x.ops[i]:=by simp [List.getD,hil]
      rw [hgd,Bb] at hm;generalize x.ops[i]=op at *;have bj:(0:Int)<((i+1:Nat):Int):=by omega
      have bi:(i:Int)<(x.ops.length:Int):=by omega
      have HMb:Hid _:=hm;clear hm HMr hj0 hce2 hgd;have hcs:(1≤op∧op≤4)∨(1≤op∧¬ op≤4)∨¬ 1≤op:=by omega
      rcases hcs with ⟨g1,g2⟩ | ⟨g1,g2⟩ | g1
      ·have hm:=HMb.out;simp only [decide_eq_true g1,decide_eq_true g2,Bool.true_and,if_true] at hm;rw [cg] at hm;have HMc:Hid _:=hm;clear hm HMb;have con:=fA 1 at_ wa;go_wp2_with fail
       refine con.mono ?_;rintro e wq ⟨rfl,hbq⟩;go_wp2_with fail
       go_meet
       case rel=>exact ⟨HMc,hbq⟩
      ·have hm:=HMb.out;simp only [decide_eq_true g1,decide_eq_false g2,Bool.true_and,De,if_false] at hm;rw [cZ (by decide)] at hm;have HMc:Hid (M=1):=hm.symm;clear hm HMb;have con:=dv 1 at_ wa;go_wp2_with fail
       refine con.mono ?_;rintro e wq ⟨rfl,hbq⟩;go_wp2_with fail
       exact ⟨rfl,.bad (chain hx3557 hbq) HMc.out (by decide)⟩
      ·have hm:=HMb.out;simp only [decide_eq_false g1,Bool.false_and,De,if_false] at hm;rw [cZ (by decide)] at hm;have HMc:Hid (M=1):=hm.symm;clear hm HMb;have con:=dv 1 at_ wa;go_wp2_with fail
       refine con.mono ?_;rintro e wq ⟨rfl,hbq⟩;go_wp2_with fail
       exact ⟨rfl,.bad (chain hx3557 hbq) HMc.out (by decide)⟩
    case rest =>
     clear HMr;obtain ⟨HMb,hbc2⟩:=hcut;obtain ⟨we,ewe⟩:∃ W,W=wc:=⟨_,rfl⟩
     subst ewe;have hx5561:Below w.heap.size w we:=chain hx3557 hbc2;have QC5562:=(hbc2.block _ (lt_of_heap QC3558)).trans QC3558;have QX5563:=(hbc2.block _ (lt_of_heap QX3559)).trans QX3559;have QY5564:=(hbc2.block _ (lt_of_heap QY)).trans QY
     have HK5565:Hid (b7 (fun _=>True) we y [.bool y.distinct,.bool y.star,.slice e1 y.items.length f1,.slice e2 y.sources.length f2,.bool y.aB,.bool y.aG,.int .i64 y.ah.k,.int .i64 y.ah.v.1,.int .i64 y.ah.v.2.1,.string y.ah.v.2.2,.string y.ah.aH,.string y.ah.name,.slice e3 y.ah.ks.length f3,.int .i64 y.aj.k,.int .i64 y.aj.v.1,.int .i64 y.aj.v.2.1,.string y.aj.v.2.2,.string y.aj.aH,.string y.aj.name,.slice e4 y.aj.ks.length f4,.slice e5 y.group.length f5]):=cf.next (ay.of hbc2) HKy.out
     have hB5566:Below wd.heap.size wd we:=chain hB3560 hbc2;obtain ⟨k1,k2,k3,k4,k5⟩:=b7.Cb HK5565.out;have k5567:we.cell? ⟨w.heap.size,0,none⟩=some (.int .i64 at_):=cell_of (i:=0) QC5562 rfl;have con5568:=oS y e1 e2 e3 e4 e5 f1 f2 f3 f4 f5 (fun _=>True) at_ we k1 k2 k3 k4 k5;have hm:=HMb.out;generalize kE y=rk at hm con5568;have HM5569:Hid _:=hm;clear hm HMb;go_wp2_with (first | (refine wpList_load_row rfl 79 _ rfl wr.heap.size rfl 79 (eE y e1 e2 e3 e4 e5 f1 f2 f3 f4 f5) (0,0) _ QY5564 Tryz.underlying79 rfl l8 ?_))
     refine con5568.mono ?_;rintro e w5570 ⟨hb5571,hW⟩;clear con5568 k5567;have hx5572:Below w.heap.size w w5570:=chain hx5561 hb5571;have QC5573:=(hb5571.block _ (lt_of_heap QC5562)).trans QC5562;have QX5574:=(hb5571.block _ (lt_of_heap QX5563)).trans QX5563;have QY5575:=(hb5571.block _ (lt_of_heap QY5564)).trans QY5564
     have HK5576:Hid (b7 (fun _=>True) w5570 y [.bool y.distinct,.bool y.star,.slice e1 y.items.length f1,.slice e2 y.sources.length f2,.bool y.aB,.bool y.aG,.int .i64 y.ah.k,.int .i64 y.ah.v.1,.int .i64 y.ah.v.2.1,.string y.ah.v.2.2,.string y.ah.aH,.string y.ah.name,.slice e3 y.ah.ks.length f3,.int .i64 y.aj.k,.int .i64 y.aj.v.1,.int .i64 y.aj.v.2.1,.string y.aj.v.2.2,.string y.aj.aH,.string y.aj.name,.slice e4 y.aj.ks.length f4,.slice e5 y.group.length f5]):=cf.next (ay.of hb5571) HK5565.out
     have hB5577:Below wd.heap.size wd w5570:=chain hB5566 hb5571;rcases hW with ⟨h,rfl⟩ | ⟨h,rfl⟩
     rotate_left
     ·have HR:Hid (rk=M):=by have:=HM5569.out; rw [cZ h] at this; exact this
      clear HM5569;go_wp2_with fail
      exact ⟨rfl,.bad hx5572 HR.out.symm h⟩
     subst h;have hm:=HM5569.out;rw [cg] at hm;have HM5578:Hid _:=hm;clear hm HM5569;go_wp2_with fail
     go_roundw
     case rel=>exact ⟨j+1,by omega,by go_num,HM5578,hB5577⟩
     case measure=>simp [RowKit.intOf]; omega
   ·have hjz:¬ (j:Int)<(x.parts.length:Int):=by omega
    rw [Dh (by omega),show fe x.ops j []=0 from rfl,cg] at hL;have HMr:Hid _:=hL;clear HL hL;by_cases hl:0≤x.aE
    ·have hm:=HMr.out;rw [nj,if_pos hl] at hm;have HMo:Hid _:=hm;have hle:=HLE.out hl;clear hm HMr;have k6057:wr.cell? ⟨w.heap.size,0,none⟩=some (.int .i64 at_):=cell_of (i:=0) QC2052 rfl;have k6058:wr.cell? ⟨w.heap.size+1,3,none⟩=some (.int .i64 x.aE):=cell_of (i:=3) QX2053 rfl;have k6059:wr.cell? ⟨w.heap.size+1,2,none⟩=some (.slice p3 x.order.length d3):=cell_of (i:=2) QX2053 rfl;have con6060:=nK x.order (by omega) at_ p3 d3 (fun _=>True) wr (aI.zE HK2056.out.ls);have hm:=HMo.out;generalize eA x.order=rk at hm con6060;have HM6061:Hid _:=hm;clear hm HMo;go_wp2_with fail
     refine con6060.mono ?_;rintro e w6062 ⟨hb6063,hW⟩;clear con6060 k6057 k6058 k6059;have hx6064:Below w.heap.size w w6062:=chain hx2051 hb6063;have QC6065:=(hb6063.block _ (lt_of_heap QC2052)).trans QC2052;have QX6066:=(hb6063.block _ (lt_of_heap QX2053)).trans QX2053;have HK6067:Hid ((bo b7 21) (fun _=>True) w6062 x.parts [.slice p1 x.parts.length d1]):=(bd cf 21).next (ay.of hb6063) HK2054.out;have HK6068:Hid ((bo fJ 1) (fun _=>True) w6062 x.ops [.slice p2 x.ops.length d2]):=(bd fV 1).next (ay.of hb6063) HK2055.out
     have HK6069:Hid ((bo bO 7) (fun _=>True) w6062 x.order [.slice p3 x.order.length d3]):=(bd bX 7).next (ay.of hb6063) HK2056.out;rcases hW with ⟨h,rfl⟩ | ⟨h,rfl⟩
     rotate_left
     ·have HR:Hid (rk=M):=by have:=HM6061.out; rw [cZ h] at this; exact this
      clear HM6061;go_wp2_with fail
      exact ⟨rfl,.bad hx6064 HR.out.symm h⟩
     subst h;have hm:=HM6061.out;rw [cg] at hm;have HM6070:Hid _:=hm;clear hm HM6061;go_wp2_with fail
     go_end0
     exact .ok hx6064 HM6070.out.symm
    ·have k7057:wr.cell? ⟨w.heap.size,0,none⟩=some (.int .i64 at_):=cell_of (i:=0) QC2052 rfl;have k7058:wr.cell? ⟨w.heap.size+1,3,none⟩=some (.int .i64 x.aE):=cell_of (i:=3) QX2053 rfl;have hm:=HMr.out;rw [nj,if_neg hl,cg] at hm;have HMo:Hid _:=hm;clear hm HMr;go_wp2_with fail
     go_end0
     exact .ok hx2051 HMo.out.symm
end Go.Proofs.YtoknmnngaackkaaGreatDoor
