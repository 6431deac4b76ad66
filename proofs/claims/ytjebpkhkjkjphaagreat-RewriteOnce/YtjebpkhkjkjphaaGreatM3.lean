/- Together: Y9, X2, K1, Ext, K2, Y2, Y3a, Y3b, Y3c. -/
import Derived.OrdersHeld
import Derived.RegionTactic
import Derived.Test.YtjebpkhkjkjphaaGreatM2
import Derived.Test.YtjebpkhkjkjphaaGreatM1
namespace Go.Proofs.YtjebpkhkjkjphaaGreat
open Go.RowKit
set_option maxRecDepth 100000
set_option maxHeartbeats 16000000
theorem vD (g:Nat) (cb:Array Value) (f:Vl→Vl→Vl) (b:Nat) (p q:Vl) (W:World) (hb:b<W.heap.size) (hc:W.cell? ⟨b,0,none⟩=some (.func (.func g) #[] cb))
  (eg:∀ args w,(callFunc g args).run Tryz.prog w = .ok (.enter g args) w) (hd:∀ W',Below W.heap.size W W'→Calls Tryz.prog g (#[fg p,fg q] ++ cb) W' fun e w'=>e = .returned (fg (f p q))∧Below W'.heap.size W' w') :
  Calls Tryz.prog 205 #[fg p,fg q,.pointer (some ⟨b,0,none⟩)] W fun e w'=>e = .returned (fg (jK (f p q)))∧Below W.heap.size W w':=by
 have e:jK (f p q)=(tk (od (cls (f p q).1 (f p q).2.1)),tn (od (cls (f p q).1 (f p q).2.1)),⟨#[]⟩):=rfl;rw [e];clear e;generalize f p q=r at *;have con:=hd _ (ig (He _ (((W.alloc (.cells #[.int .i64 p.1,.int .i64 p.2.1,.string p.2.2] 24)).alloc (.cells #[.int .i64 q.1,.int .i64 q.2.1,.string q.2.2] 24)).alloc (.cells #[.int .i64 0,.int .i64 0,.string ⟨#[]⟩] 24))));have A0:=((fy.new W (.int .i64 p.1) (.int .i64 p.2.1) (.string p.2.2) 24).alloc (.cells #[.int .i64 q.1,.int .i64 q.2.1,.string q.2.2] 24)).alloc (.cells #[.int .i64 0,.int .i64 0,.string ⟨#[]⟩] 24)
 have B0:=(fy.new (W.alloc (.cells #[.int .i64 p.1,.int .i64 p.2.1,.string p.2.2] 24)) (.int .i64 q.1) (.int .i64 q.2.1) (.string q.2.2) 24).alloc (.cells #[.int .i64 0,.int .i64 0,.string ⟨#[]⟩] 24);have R0:=fy.new ((W.alloc (.cells #[.int .i64 p.1,.int .i64 p.2.1,.string p.2.2] 24)).alloc (.cells #[.int .i64 q.1,.int .i64 q.2.1,.string q.2.2] 24)) (.int .i64 0) (.int .i64 0) (.string ⟨#[]⟩) 24
 have hA:Below W.heap.size W (((W.alloc (.cells #[.int .i64 p.1,.int .i64 p.2.1,.string p.2.2] 24)).alloc (.cells #[.int .i64 q.1,.int .i64 q.2.1,.string q.2.2] 24)).alloc (.cells #[.int .i64 0,.int .i64 0,.string ⟨#[]⟩] 24)):=ig (He _ _);have c3:=(hA.cell (p:=⟨b,0,none⟩) hb).trans hc;simp only [Hg] at B0 R0;clear hd A0 B0;go_enter Tryz.func205,Tryz.ntmps205;go_wp2_with (go_at_fn g; refine con.mono ?_)
 rintro e w1 ⟨rfl,hb1⟩;have R1:=R0.next hb1;have hb1':=chain hA hb1;have z1:=hb1.size;simp at z1;go_wp2_with fail
 refine (wW _ _ _ _).mono ?_;rintro e w2 ⟨rfl,hb2⟩;have ⟨r0,r1,r2,r3,r4,r5,r6⟩:=R1.next hb2;have hb2':=chain hb1' hb2;clear con R0 R1;go_wp2
 exact Hf (v:=.agg #[.int .i64 (tk (od (cls r.1 r.2.1))),.int .i64 (tn (od (cls r.1 r.2.1))),.string ⟨#[]⟩]) (by simp [results,Tryz.results205,go_sem,r1,r2,r3]) rfl ⟨rfl,aF hb2' (by omega)⟩
theorem vl (g:Nat) (cb:Array Value) (f:Vl→Vl→Vl) (b:Nat) (p q:Vl) (W:World) (hb:b<W.heap.size) (hc:W.cell? ⟨b,0,none⟩=some (.func (.func g) #[] cb))
  (eg:∀ args w,(callFunc g args).run Tryz.prog w = .ok (.enter g args) w) (hd:∀ W',Below W.heap.size W W'→Calls Tryz.prog g (#[fg q,fg p] ++ cb) W' fun e w'=>e = .returned (fg (f q p))∧Below W'.heap.size W' w') :
  Calls Tryz.prog 206 #[fg p,fg q,.pointer (some ⟨b,0,none⟩)] W fun e w'=>e = .returned (fg (f q p))∧Below W.heap.size W w':=by
 generalize f q p=r at *;have con:=hd _ (ig (He _ (((W.alloc (.cells #[.int .i64 p.1,.int .i64 p.2.1,.string p.2.2] 24)).alloc (.cells #[.int .i64 q.1,.int .i64 q.2.1,.string q.2.2] 24)).alloc (.cells #[.int .i64 0,.int .i64 0,.string ⟨#[]⟩] 24))));have A0:=((fy.new W (.int .i64 p.1) (.int .i64 p.2.1) (.string p.2.2) 24).alloc (.cells #[.int .i64 q.1,.int .i64 q.2.1,.string q.2.2] 24)).alloc (.cells #[.int .i64 0,.int .i64 0,.string ⟨#[]⟩] 24)
 have B0:=(fy.new (W.alloc (.cells #[.int .i64 p.1,.int .i64 p.2.1,.string p.2.2] 24)) (.int .i64 q.1) (.int .i64 q.2.1) (.string q.2.2) 24).alloc (.cells #[.int .i64 0,.int .i64 0,.string ⟨#[]⟩] 24);have R0:=fy.new ((W.alloc (.cells #[.int .i64 p.1,.int .i64 p.2.1,.string p.2.2] 24)).alloc (.cells #[.int .i64 q.1,.int .i64 q.2.1,.string q.2.2] 24)) (.int .i64 0) (.int .i64 0) (.string ⟨#[]⟩) 24
 have hA:Below W.heap.size W (((W.alloc (.cells #[.int .i64 p.1,.int .i64 p.2.1,.string p.2.2] 24)).alloc (.cells #[.int .i64 q.1,.int .i64 q.2.1,.string q.2.2] 24)).alloc (.cells #[.int .i64 0,.int .i64 0,.string ⟨#[]⟩] 24)):=ig (He _ _);have c3:=(hA.cell (p:=⟨b,0,none⟩) hb).trans hc;simp only [Hg] at B0 R0;clear hd A0 B0;go_enter Tryz.func206,Tryz.ntmps206;go_wp2_with (go_at_fn g; refine con.mono ?_)
 rintro e w1 ⟨rfl,hb1⟩;have ⟨r0,r1,r2,r3,r4,r5,r6⟩:=R0.next hb1;have hb1':=chain hA hb1;have z1:=hb1.size;simp at z1;clear con R0;go_wp2
 exact Hf (v:=fg r) (by simp [results,Tryz.results206,go_sem,r1,r2,r3]) rfl ⟨rfl,aF hb1' (by omega)⟩
theorem rC (c:Int) (b:Nat) (p q:Vl) (W:World) (hb:b<W.heap.size) (hc:W.cell? ⟨b,0,none⟩=some (.int .i32 c)) :
  Calls Tryz.prog 207 #[fg p,fg q,.pointer (some ⟨b,0,none⟩)] W fun e w'=>e = .returned (fg (kW c p q))∧Below W.heap.size W w':=by
 have e:kW c p q=(ru (nm c p.1 p.2.1 q.1 q.2.1),vx (nm c p.1 p.2.1 q.1 q.2.1),⟨#[]⟩):=rfl;rw [e];clear e;have A0:=((fy.new W (.int .i64 p.1) (.int .i64 p.2.1) (.string p.2.2) 24).alloc (.cells #[.int .i64 q.1,.int .i64 q.2.1,.string q.2.2] 24)).alloc (.cells #[.int .i64 0,.int .i64 0,.string ⟨#[]⟩] 24);have B0:=(fy.new (W.alloc (.cells #[.int .i64 p.1,.int .i64 p.2.1,.string p.2.2] 24)) (.int .i64 q.1) (.int .i64 q.2.1) (.string q.2.2) 24).alloc (.cells #[.int .i64 0,.int .i64 0,.string ⟨#[]⟩] 24)
 have R0:=fy.new ((W.alloc (.cells #[.int .i64 p.1,.int .i64 p.2.1,.string p.2.2] 24)).alloc (.cells #[.int .i64 q.1,.int .i64 q.2.1,.string q.2.2] 24)) (.int .i64 0) (.int .i64 0) (.string ⟨#[]⟩) 24;have hA:Below W.heap.size W (((W.alloc (.cells #[.int .i64 p.1,.int .i64 p.2.1,.string p.2.2] 24)).alloc (.cells #[.int .i64 q.1,.int .i64 q.2.1,.string q.2.2] 24)).alloc (.cells #[.int .i64 0,.int .i64 0,.string ⟨#[]⟩] 24)):=ig (He _ _);have c3:=(hA.cell (p:=⟨b,0,none⟩) hb).trans hc;simp only [Hg] at B0 R0;clear A0 B0;go_enter Tryz.func207,Tryz.ntmps207;go_wp2_with fail
 refine (vI _ _ _ _ _ _ _ _).mono ?_;rintro e w1 ⟨rfl,hb1⟩;have ⟨r0,r1,r2,r3,r4,r5,r6⟩:=R0.next hb1;have hb1':=chain hA hb1;have z1:=hb1.size;simp at z1;clear R0;go_wp2
 exact Hf (v:=.agg #[.int .i64 (ru (nm c p.1 p.2.1 q.1 q.2.1)),.int .i64 (vx (nm c p.1 p.2.1 q.1 q.2.1)),.string ⟨#[]⟩]) (by simp [results,Tryz.results207,go_sem,r1,r2,r3]) rfl ⟨rfl,aF hb1' (by omega)⟩
theorem lT (u:Value) (f:Vl→Vl→Vl) (w:World) (lo:Nat) (hlo:lo≤w.heap.size) (h:pe lo u f w) :
  Calls Tryz.prog 197 #[u] w fun e w'=>∃ v,e = .returned v∧pe lo v (fun a b=>jK (f a b)) w'∧Below w.heap.size w w':=by
 obtain ⟨g,cb,rfl,eg,hd⟩:=h;have hal:=aa w (.cells #[.func (.func g) #[] cb] 220);have hF:pe lo (.func (.func 205) #[] #[.pointer (some ⟨w.heap.size,0,none⟩)]) (fun a b=>jK (f a b)) (w.alloc (.cells #[.func (.func g) #[] cb] 220)) :=
  ⟨205,_,rfl,enters_of Tryz.func205 (by kernel_rfl) rfl,fun p q W hp hq hW =>
   vD g cb f w.heap.size p q W (Hi (by simp) hW.1) ((hW.cell (p:=⟨w.heap.size,0,none⟩) hlo (by simp)).trans (by simp)) eg (fun W' hW'=>hd p q W' hp hq (((Since.of hal).trans hW).trans (Since.of hW')))⟩
 clear hd;go_enter Tryz.func197,Tryz.ntmps197;go_wp2
 go_ret;exact ⟨_,rfl,hF,hal⟩
theorem qd (u:Value) (f:Vl→Vl→Vl) (w:World) (lo:Nat) (hlo:lo≤w.heap.size) (h:pe lo u f w) :
  Calls Tryz.prog 199 #[u] w fun e w'=>∃ v,e = .returned v∧pe lo v (fun a b=>f b a) w'∧Below w.heap.size w w':=by
 obtain ⟨g,cb,rfl,eg,hd⟩:=h;have hal:=aa w (.cells #[.func (.func g) #[] cb] 220);have hF:pe lo (.func (.func 206) #[] #[.pointer (some ⟨w.heap.size,0,none⟩)]) (fun a b=>f b a) (w.alloc (.cells #[.func (.func g) #[] cb] 220)) :=
  ⟨206,_,rfl,enters_of Tryz.func206 (by kernel_rfl) rfl,fun p q W hp hq hW =>
   vl g cb f w.heap.size p q W (Hi (by simp) hW.1) ((hW.cell (p:=⟨w.heap.size,0,none⟩) hlo (by simp)).trans (by simp)) eg (fun W' hW'=>hd q p W' hq hp (((Since.of hal).trans hW).trans (Since.of hW')))⟩
 clear hd;go_enter Tryz.func199,Tryz.ntmps199;go_wp2
 go_ret;exact ⟨_,rfl,hF,hal⟩
theorem jI (c:Int) (w:World) (lo:Nat) (hlo:lo≤w.heap.size) :
  Calls Tryz.prog 200 #[.int .i32 c] w fun e w'=>∃ v,e = .returned v∧pe lo v (kW c) w'∧Below w.heap.size w w':=by
 have hal:=aa w (.cells #[.int .i32 c] 21);have hF:pe lo (.func (.func 207) #[] #[.pointer (some ⟨w.heap.size,0,none⟩)]) (kW c) (w.alloc (.cells #[.int .i32 c] 21)) :=
  ⟨207,_,rfl,enters_of Tryz.func207 (by kernel_rfl) rfl,fun p q W hp hq hW =>
   rC c w.heap.size p q W (Hi (by simp) hW.1) ((hW.cell (p:=⟨w.heap.size,0,none⟩) hlo (by simp)).trans (by simp))⟩
 go_enter Tryz.func200,Tryz.ntmps200;go_wp2
 go_ret;exact ⟨_,rfl,hF,hal⟩
def hZ (k:Int):Prop:=∀ w:World,Calls Tryz.prog 176 #[.int .i64 k] w fun e w'=>∃ u,e = .returned u∧pe w.heap.size u (nv k) w'∧Below w.heap.size w w'
theorem Dx:hZ 4:=by
 intro w;go_enter Tryz.func176,Tryz.ntmps176;go_wp2
 go_ret;exact ⟨_,rfl,F8 _ w,He _ _⟩
theorem Dv:hZ 5:=by
 intro w;go_enter Tryz.func176,Tryz.ntmps176;go_wp2
 go_ret;exact ⟨_,rfl,Gp _ w,He _ _⟩
theorem Ei:hZ 6:=by
 intro w;go_enter Tryz.func176,Tryz.ntmps176;go_wp2
 go_ret;exact ⟨_,rfl,Ew _ w,He _ _⟩
theorem Ek:hZ 8:=by
 intro w;go_enter Tryz.func176,Tryz.ntmps176;go_wp2
 go_ret;exact ⟨_,rfl,xy _ w,He _ _⟩
theorem Bs:hZ 15:=by
 intro w;go_enter Tryz.func176,Tryz.ntmps176;go_wp2
 go_ret;exact ⟨_,rfl,DO _ w,He _ _⟩
theorem CA:hZ 18:=by
 intro w;go_enter Tryz.func176,Tryz.ntmps176;go_wp2
 go_ret;exact ⟨_,rfl,Dy _ w,He _ _⟩
theorem Dt:hZ 7:=by
 intro w;go_enter Tryz.func176,Tryz.ntmps176;go_wp2_with fail
 refine (lT _ _ w _ (Hd _) (Ew _ w)).mono ?_;rintro e w1 ⟨v,rfl,hF,hb1⟩;go_wp2
 go_ret;exact ⟨_,rfl,hF,hb1⟩
theorem BS:hZ 11:=by
 intro w;go_enter Tryz.func176,Tryz.ntmps176;go_wp2_with fail
 refine (lT _ _ w _ (Hd _) (xy _ w)).mono ?_;rintro e w1 ⟨v,rfl,hF,hb1⟩;go_wp2
 go_ret;exact ⟨_,rfl,hF,hb1⟩
theorem Bc:hZ 10:=by
 intro w;go_enter Tryz.func176,Tryz.ntmps176;go_wp2_with fail
 refine (qd _ _ w _ (Hd _) (xy _ w)).mono ?_;rintro e w1 ⟨v,rfl,hF,hb1⟩;go_wp2
 go_ret;exact ⟨_,rfl,hF,hb1⟩
theorem Ce:hZ 12:=by
 intro w;go_enter Tryz.func176,Tryz.ntmps176;go_wp2_with fail
 refine (jI 43 w _ (Hd _)).mono ?_;rintro e w1 ⟨v,rfl,hF,hb1⟩;go_wp2
 go_ret;exact ⟨_,rfl,hF,hb1⟩
theorem AL:hZ 13:=by
 intro w;go_enter Tryz.func176,Tryz.ntmps176;go_wp2_with fail
 refine (jI 45 w _ (Hd _)).mono ?_;rintro e w1 ⟨v,rfl,hF,hb1⟩;go_wp2
 go_ret;exact ⟨_,rfl,hF,hb1⟩
theorem Be:hZ 14:=by
 intro w;go_enter Tryz.func176,Tryz.ntmps176;go_wp2_with fail
 refine (jI 42 w _ (Hd _)).mono ?_;rintro e w1 ⟨v,rfl,hF,hb1⟩;go_wp2
 go_ret;exact ⟨_,rfl,hF,hb1⟩
theorem DV:hZ 9:=by
 intro w;go_enter Tryz.func176,Tryz.ntmps176;go_wp2_with fail
 refine (qd _ _ w _ (Hd _) (xy _ w)).mono ?_;rintro e w1 ⟨v,rfl,hF,hb1⟩;go_wp2_with fail
 refine (lT _ _ w1 _ hb1.size hF).mono ?_;rintro e w2 ⟨v2,rfl,hF2,hb2⟩;go_wp2
 go_ret;exact ⟨_,rfl,hF2,chain hb1 hb2⟩
theorem AN (k:Int) (h4:4≤k) (h18:k≤15∨k=18):hZ k:=by
 obtain rfl | rfl | rfl | rfl | rfl | rfl | rfl | rfl | rfl | rfl | rfl | rfl | rfl:k=4∨k=5∨k=6∨k=7∨k=8∨k=9∨k=10∨k=11∨k=12∨k=13∨k=14∨k=15∨k=18:=by omega
 ·exact Dx
 ·exact Dv
 ·exact Ei
 ·exact Dt
 ·exact Ek
 ·exact DV
 ·exact Bc
 ·exact BS
 ·exact Ce
 ·exact AL
 ·exact Be
 ·exact Bs
 ·exact CA
end Go.Proofs.YtjebpkhkjkjphaaGreat
namespace Go.Proofs.YtjebpkhkjkjphaaGreat
set_option maxRecDepth 100000
set_option maxHeartbeats 16000000
def fB (af:List Int):Bool:=af.all fun c=>decide (1≤c) && decide (c≤4)
def ak (af:List Int) (x:Ex):Int × Int :=
 if 16<af.length then (0,5) else if fB af=false then (0,1) else if (aV af x 0 1).2.1=0 then ((aV af x 0 1).1,0) else (0,(aV af x 0 1).2.1)
def EH (af:List Int) (x:Ex) (row:List Vl):Vl × Int :=
 if (ak af x).2≠0 then (fV,(ak af x).2) else if ei af row≠0 then (fV,ei af row) else (bq row x,0)
structure tO (af:List Int) (x:Ex) (t:Int):Prop where
 GQ:af.length≤16
 fit:fB af=true
 ty:fI af x=some t
 size:gF x≤200
 deep:nM x≤20
theorem ow (af:List Int) (x:Ex):(ak af x).2=0↔tO af x (ak af x).1:=by
 unfold ak;by_cases h1:16<af.length
 ·rw [if_pos h1];simp only [show ¬ (5:Int)=0 by decide,false_iff];exact fun h=>absurd h.GQ (by omega)
 rw [if_neg h1];by_cases h2:fB af=false
 ·rw [if_pos h2];simp only [show ¬ (1:Int)=0 by decide,false_iff];exact fun h=>absurd h.fit (by simp [h2])
 rw [if_neg h2];by_cases h3:(aV af x 0 1).2.1=0
 ·rw [if_pos h3];simp only [true_iff];obtain ⟨q1,q2,q3,q4⟩:=(iH af x 0 1 (aV af x 0 1).1 (aV af x 0 1).2.2).1 (Prod.ext rfl (Prod.ext h3 rfl));exact ⟨by omega,by simpa using h2,q1,by omega,by omega⟩
 ·rw [if_neg h3];simp only [h3,false_iff];intro h;have:=(iH af x 0 1 0 (0+gF x)).2 ⟨h.ty,rfl,by have:=h.size; omega,by have:=h.deep; omega⟩;rw [this] at h3;simp at h3
theorem tO.top {af:List Int} {x:Ex} {t:Int} (h:tO af x t):ak af x=(t,0):=by
 have:=(iH af x 0 1 t (0+gF x)).2 ⟨h.ty,rfl,by have:=h.size; omega,by have:=h.deep; omega⟩;unfold ak;rw [if_neg (by have:=h.GQ; omega),if_neg (by simp [h.fit]),this];simp
theorem tO.eval {af:List Int} {x:Ex} {t:Int} (h:tO af x t) (row:List Vl):EH af x row=if ei af row≠0 then (fV,ei af row) else (bq row x,0):=by
 unfold EH;rw [h.top];simp
def gR (k:Int) (x y:Ex):Ex:=.mk k fV 0 [x,y]
theorem not_not (o:Option Bool):jK (jK (kV o))=kV o:=by rcases o with _ | _ | _ <;> rfl
def Le (a b:Vl):Prop:=a.1=1∨a=b
theorem Le.refl (a:Vl):Le a a:=.inr rfl
theorem EV {o p:Option Bool} (h:o=none∨o=p):Le (kV o) (kV p):=by
 rcases h with rfl | rfl
 ·left; rfl
 ·right; rfl
theorem Gb {a b:Vl} (h:Le a b):kT a=none∨kT a=kT b:=by
 rcases h with h | rfl
 ·left; unfold kT cls; rw [if_neg (by omega)]
 ·right; rfl
theorem C3 {a b c d:Vl} (h:Le a c) (h':Le b d):jk a.1 b.1=false∨(a=c∧b=d):=by
 unfold jk;rcases h with h | rfl
 ·left; simp [h]
 ·rcases h' with h' | rfl
  ·left;by_cases q:a.1=1 <;> simp [h',q]
  ·right; exact ⟨rfl,rfl⟩
theorem xx {a b c d:Vl} (h:Le a c) (h':Le b d):EC a.1 a.2.1 a.2.2 b.1 b.2.1 b.2.2=none∨EC a.1 a.2.1 a.2.2 b.1 b.2.1 b.2.2=EC c.1 c.2.1 c.2.2 d.1 d.2.1 d.2.2:=by
 rcases C3 h h' with q | ⟨rfl,rfl⟩
 ·left; simp [EC,q]
 ·right; rfl
theorem not_le {a c:Vl} (h:Le a c):Le (jK a) (jK c):=by
 refine EV ?_;rcases Gb h with q | q <;> rw [q]
 ·left; rfl
 ·right; rfl
end Go.Proofs.YtjebpkhkjkjphaaGreat
namespace Go.Proofs.YtjebpkhkjkjphaaGreat
open Go.RowKit
set_option maxRecDepth 100000
set_option maxHeartbeats 16000000
def fc (af:List Int) (lo:Nat) (u:Value) (f:List Vl→Vl) (w:World):Prop :=
 ∃ g cb,u = .func (.func g) #[] cb∧(∀ args w,(callFunc g args).run Tryz.prog w = .ok (.enter g args) w) ∧
  ∀ (row:List Vl) (a:Option Addr) (cap:Nat) (W:World),et af row→aY W a row→Since lo w W →
   Calls Tryz.prog g (#[.slice a row.length cap] ++ cb) W fun e w'=>e = .returned (fg (f row))∧Below W.heap.size W w'
theorem fc.next {af:List Int} {lo:Nat} {u:Value} {f:List Vl→Vl} {w w1:World} (h:fc af lo u f w) (hb:Since lo w w1):fc af lo u f w1:=by
 obtain ⟨g,cb,e,eg,hd⟩:=h;exact ⟨g,cb,e,eg,fun row a cap W hf hs hW=>hd row a cap W hf hs (hb.trans hW)⟩
theorem fc.down {af:List Int} {lo lo':Nat} {u:Value} {f:List Vl→Vl} {w:World} (h:fc af lo u f w) (hl:lo'≤lo):fc af lo' u f w:=by
 obtain ⟨g,cb,e,eg,hd⟩:=h;exact ⟨g,cb,e,eg,fun row a cap W hf hs hW=>hd row a cap W hf hs (hW.up hl)⟩
theorem fy.Gt {W:World} {b:Nat} {x y z:Value} (h:fy W b x y z) (x' y' z':Value):fy (((W.setCell ⟨b,0,none⟩ x').setCell ⟨b,1,none⟩ y').setCell ⟨b,2,none⟩ z') b x' y' z':=by
 obtain ⟨lt,c0,c1,c2,f0,f1,f2⟩:=h;refine ⟨by simpa using lt,?_,?_,?_,by simpa using f0,by simpa using f1,by simpa using f2⟩
 ·rw [Hq _ _ _ _ (by simp),Hq _ _ _ _ (by simp)];exact IN _ _ _ (by rw [c0]; rfl)
 ·rw [Hq _ _ _ _ (by simp)];exact IN _ _ _ (by rw [Hq _ _ _ _ (by simp),c1]; rfl)
 ·exact IN _ _ _ (by rw [Hq _ _ _ _ (by simp),Hq _ _ _ _ (by simp),c2]; rfl)
theorem tV (v:Vl) (b:Nat) (a:Option Addr) (n cap:Nat) (W:World) (hb:b<W.heap.size) (h0:W.cell? ⟨b,0,none⟩=some (.int .i64 v.1)) (h1:W.cell? ⟨b,1,none⟩=some (.int .i64 v.2.1)) (h2:W.cell? ⟨b,2,none⟩=some (.string v.2.2)) :
  Calls Tryz.prog 190 #[.slice a n cap,.pointer (some ⟨b,0,none⟩)] W fun e w'=>e = .returned (fg v)∧Below W.heap.size W w':=by
 have hal:=aa W (.cells #[.int .i64 0,.int .i64 0,.string ⟨#[]⟩] 24);have c0:=(hal.cell (p:=⟨b,0,none⟩) hb).trans h0;have c1:=(hal.cell (p:=⟨b,1,none⟩) hb).trans h1;have c2:=(hal.cell (p:=⟨b,2,none⟩) hb).trans h2;go_enter Tryz.func190,Tryz.ntmps190;go_wp2
 exact Hf (v:=fg v) (by simp [results,Tryz.results190,go_sem]) rfl ⟨rfl,(He _ _).alloc (Hd _) _⟩
theorem zq (af:List Int) (v:Vl) (w:World) :
  Calls Tryz.prog 169 #[fg v] w fun e w'=>∃ u,e = .returned u∧fc af w.heap.size u (fun _=>bE v) w'∧Below w.heap.size w w':=by
 have hal:=aa w (.cells #[.int .i64 v.1,.int .i64 v.2.1,.string v.2.2] 24);have R:=fy.new w (.int .i64 v.1) (.int .i64 v.2.1) (.string v.2.2) 24;go_enter Tryz.func169,Tryz.ntmps169;go_wp2_with fail
 refine (kR _ _ _ _).mono ?_;rintro e w1 ⟨rfl,hb1⟩;have R1:=R.next hb1;have P1:=R1.Gt (.int .i64 v.1) (.int .i64 (di v.1 v.2.1)) (.string (fl v.1 v.2.2));have hb:=chain hal hb1;have ⟨r0,r1,r2,r3,r4,r5,r6⟩:=R1;go_wp2
 go_ret;refine ⟨_,rfl,⟨190,_,rfl,enters_of Tryz.func190 (by kernel_rfl) rfl,?_⟩,aF hb (Hd _)⟩;intro row a cap W _ _ hW;obtain ⟨p0,p1,p2,p3,_,_,_⟩:=P1;exact tV (bE v) w.heap.size a row.length cap W (Hi p0 hW.1) ((hW.cell (p:=⟨w.heap.size,0,none⟩) (Hd _) p0).trans p1) ((hW.cell (p:=⟨w.heap.size,1,none⟩) (Hd _) p0).trans p2) ((hW.cell (p:=⟨w.heap.size,2,none⟩) (Hd _) p0).trans p3)
theorem vG (j:Nat) (b:Nat) (a:Option Addr) (row:List Vl) (cap:Nat) (W:World) (hb:b<W.heap.size) (h0:W.cell? ⟨b,0,none⟩=some (.int .i64 j)) (hj:j<row.length) (hs:aY W a row) :
  Calls Tryz.prog 191 #[.slice a row.length cap,.pointer (some ⟨b,0,none⟩)] W fun e w'=>e = .returned (fg (bE row[j]))∧Below W.heap.size W w':=by
 have hal:=aa W (.cells #[.int .i64 0,.int .i64 0,.string ⟨#[]⟩] 24);have R:=fy.new W (.int .i64 0) (.int .i64 0) (.string ⟨#[]⟩) 24;have c0:=(hal.cell (p:=⟨b,0,none⟩) hb).trans h0;have hl:=hs.1;unfold maxLen at hl;obtain ⟨b',off,rfl,hbl,x0,x1,x2⟩:=(hs.next hal).elem hj;generalize row[j]=v at *;go_enter Tryz.func191,Tryz.ntmps191;go_wp2_with fail
 refine (kR _ _ _ _).mono ?_;rintro e w1 ⟨rfl,hb1⟩;have ⟨r0,r1,r2,r3,r4,r5,r6⟩:=R.next hb1;have hb:=chain hal hb1;clear x0 x1 x2 c0;go_wp2
 exact Hf (v:=fg (bE v)) (by simp [results,Tryz.results191,go_sem,r1,r2,r3,bE]) rfl ⟨rfl,aF hb (Hd _)⟩
theorem yW (af:List Int) (c:Int) (w:World) (h0:0≤c) (h1:c.toNat<af.length) :
  Calls Tryz.prog 170 #[.int .i64 c] w fun e w'=>∃ u,e = .returned u∧fc af w.heap.size u (fun row=>bE (row.getD c.toNat fV)) w'∧Below w.heap.size w w':=by
 have hal:=aa w (.cells #[.int .i64 c] 3);obtain ⟨j,rfl⟩:∃ j:Nat,c=j:=⟨c.toNat,by omega⟩
 go_enter Tryz.func170,Tryz.ntmps170;go_wp2
 go_ret;refine ⟨_,rfl,⟨191,_,rfl,enters_of Tryz.func191 (by kernel_rfl) rfl,?_⟩,hal⟩;intro row a cap W hf hs hW;have hj:j<row.length:=by have:=hf.len; simp at h1; omega
 have e:row.getD (j:Int).toNat fV=row[j]:=by simp [List.getD,hj]
 show Calls _ _ _ _ fun e w'=>e = .returned (fg (bE (row.getD (j:Int).toNat fV)))∧_
 rw [e];exact vG j w.heap.size a row cap W (Hi (by simp) hW.1) ((hW.cell (p:=⟨w.heap.size,0,none⟩) (Hd _) (by simp)).trans (by simp)) hj hs
theorem vZ (af:List Int) (lo:Nat) (f1 f2 f3:List Vl→Vl) (u1 u2 u3:Value) (b:Nat) (a:Option Addr) (row:List Vl) (cap:Nat) (W:World) (hb:b+2<W.heap.size)
  (h0:W.cell? ⟨b,0,none⟩=some u1) (h1:W.cell? ⟨b+1,0,none⟩=some u2) (h2:W.cell? ⟨b+2,0,none⟩=some u3) (a1:fc af lo u1 f1 W) (a2:fc af lo u2 f2 W) (a3:fc af lo u3 f3 W) (hf:et af row) (hs:aY W a row) :
  Calls Tryz.prog 193 #[.slice a row.length cap,.pointer (some ⟨b,0,none⟩),.pointer (some ⟨b+1,0,none⟩),.pointer (some ⟨b+2,0,none⟩)] W fun e w'=>e = .returned (fg (if kT (f1 row) == some true then f2 row else f3 row))∧Below W.heap.size W w':=by
 obtain ⟨g1,cb1,rfl,eg1,d1⟩:=a1;obtain ⟨g2,cb2,rfl,eg2,d2⟩:=a2;obtain ⟨g3,cb3,rfl,eg3,d3⟩:=a3;have hal:=aa W (.cells #[.int .i64 0,.int .i64 0,.string ⟨#[]⟩] 24);have R:=fy.new W (.int .i64 0) (.int .i64 0) (.string ⟨#[]⟩) 24;have c1:=(hal.cell (p:=⟨b,0,none⟩) (by show b<_; omega)).trans h0;have d1:=d1 row a cap _ hf (hs.next hal) (Since.of hal);have d2:=fun W' (h:Below W.heap.size W W')=>d2 row a cap W' hf (hs.next h) (Since.of h)
 have d3:=fun W' (h:Below W.heap.size W W')=>d3 row a cap W' hf (hs.next h) (Since.of h)
 generalize f1 row=v1 at *;generalize f2 row=v2 at *;generalize f3 row=v3 at *;by_cases q:(kT v1 == some true)=true
 ·rw [if_pos q];go_enter Tryz.func193,Tryz.ntmps193;go_wp2_with (go_at_fn g1; refine d1.mono ?_)
  rintro e w1 ⟨rfl,hb1⟩;have hA:=chain hal hb1;have R:=R.next hb1;have q':(cls v1.1 v1.2.1 == some true)=true:=q;go_wp2_with fail
  refine (dB _ _ _ _).mono ?_;rintro e w2 ⟨rfl,hb2⟩;rw [q'];have hA:=chain hA hb2;have R:=R.next hb2;have c2:=(hA.cell (p:=⟨b+1,0,none⟩) (by show b+1<_; omega)).trans h1;have d2:=d2 _ hA;clear d1 c1 d3;go_wp2_with (go_at_fn g2; refine d2.mono ?_)
  rintro e w3 ⟨rfl,hb3⟩;have hA:=chain hA hb3;have ⟨r0,r1,r2,r3,r4,r5,r6⟩:=R.next hb3;clear d2 c2;go_wp2
  exact Hf (v:=fg v2) (by simp [results,Tryz.results193,go_sem,r1,r2,r3]) rfl ⟨rfl,aF hA (Hd _)⟩
 ·rw [if_neg q];go_enter Tryz.func193,Tryz.ntmps193;go_wp2_with (go_at_fn g1; refine d1.mono ?_)
  rintro e w1 ⟨rfl,hb1⟩;have hA:=chain hal hb1;have R:=R.next hb1;have q':(cls v1.1 v1.2.1 == some true)=false:=Bool.eq_false_iff.mpr q;go_wp2_with fail
  refine (dB _ _ _ _).mono ?_;rintro e w2 ⟨rfl,hb2⟩;rw [q'];have hA:=chain hA hb2;have R:=R.next hb2;have c3:=(hA.cell (p:=⟨b+2,0,none⟩) (by show b+2<_; omega)).trans h2;have d3:=d3 _ hA;clear d1 c1 d2;go_wp2_with (go_at_fn g3; refine d3.mono ?_)
  rintro e w3 ⟨rfl,hb3⟩;have hA:=chain hA hb3;have ⟨r0,r1,r2,r3,r4,r5,r6⟩:=R.next hb3;clear d3 c3;go_wp2
  exact Hf (v:=fg v3) (by simp [results,Tryz.results193,go_sem,r1,r2,r3]) rfl ⟨rfl,aF hA (Hd _)⟩
theorem oh {w:World} {o:Obj} {p:Addr} (h:p.block<w.heap.size):(w.alloc o).cell? p=w.cell? p:=((He w.heap.size w).alloc (Hd _) o).cell h
theorem xQ (af:List Int) (lo:Nat) (f1 f2 f3:List Vl→Vl) (u1 u2 u3:Value) (w:World) (hlo:lo≤w.heap.size) (a1:fc af lo u1 f1 w) (a2:fc af lo u2 f2 w) (a3:fc af lo u3 f3 w) :
  Calls Tryz.prog 175 #[u1,u2,u3] w fun e w'=>∃ u,e = .returned u∧fc af lo u (fun row=>if kT (f1 row) == some true then f2 row else f3 row) w'∧Below w.heap.size w w':=by
 obtain ⟨x1,y1,rfl⟩:∃ x y,u1 = .func (.func x) #[] y:=by obtain ⟨x,y,e,_⟩:=a1; exact ⟨x,y,e⟩
 obtain ⟨x2,y2,rfl⟩:∃ x y,u2 = .func (.func x) #[] y:=by obtain ⟨x,y,e,_⟩:=a2; exact ⟨x,y,e⟩
 obtain ⟨x3,y3,rfl⟩:∃ x y,u3 = .func (.func x) #[] y:=by obtain ⟨x,y,e,_⟩:=a3; exact ⟨x,y,e⟩
 have h1:=aa w (.cells #[.func (.func x1) #[] y1] 156);have h2:=h1.alloc h1.size (.cells #[.func (.func x2) #[] y2] 156);have h3:=h2.alloc h2.size (.cells #[.func (.func x3) #[] y3] 156);have q1:(((w.alloc (.cells #[.func (.func x1) #[] y1] 156)).alloc (.cells #[.func (.func x2) #[] y2] 156)).alloc (.cells #[.func (.func x3) #[] y3] 156)).cell? ⟨w.heap.size,0,none⟩=some (.func (.func x1) #[] y1):=by
  rw [oh (by simp only [Hg]; omega),oh (by simp)]; simp
 have q2:(((w.alloc (.cells #[.func (.func x1) #[] y1] 156)).alloc (.cells #[.func (.func x2) #[] y2] 156)).alloc (.cells #[.func (.func x3) #[] y3] 156)).cell? ⟨w.heap.size+1,0,none⟩=some (.func (.func x2) #[] y2):=by
  rw [oh (by simp),Iv _ _ _ _ (by simp)]; rfl
 have q3:(((w.alloc (.cells #[.func (.func x1) #[] y1] 156)).alloc (.cells #[.func (.func x2) #[] y2] 156)).alloc (.cells #[.func (.func x3) #[] y3] 156)).cell? ⟨w.heap.size+2,0,none⟩=some (.func (.func x3) #[] y3):=by
  rw [Iv _ _ _ _ (by simp)]; rfl
 have z3:(((w.alloc (.cells #[.func (.func x1) #[] y1] 156)).alloc (.cells #[.func (.func x2) #[] y2] 156)).alloc (.cells #[.func (.func x3) #[] y3] 156)).heap.size=w.heap.size+3:=by simp
 have n1:=a1.next (Since.of h3);have n2:=a2.next (Since.of h3);have n3:=a3.next (Since.of h3);clear a1 a2 a3;go_enter Tryz.func175,Tryz.ntmps175;go_wp2
 go_ret;generalize ((w.alloc (.cells #[.func (.func x1) #[] y1] 156)).alloc (.cells #[.func (.func x2) #[] y2] 156)).alloc (.cells #[.func (.func x3) #[] y3] 156)=w3 at *;refine ⟨_,rfl,⟨193,_,rfl,enters_of Tryz.func193 (by kernel_rfl) rfl,?_⟩,h3⟩;intro row a cap W hf hs hW
 exact vZ af lo f1 f2 f3 _ _ _ w.heap.size a row cap W (by have:=hW.1; omega) ((hW.cell (p:=⟨w.heap.size,0,none⟩) hlo (by show w.heap.size<_; omega)).trans q1) ((hW.cell (p:=⟨w.heap.size+1,0,none⟩) (by show lo≤w.heap.size+1; omega) (by show w.heap.size+1<_; omega)).trans q2) ((hW.cell (p:=⟨w.heap.size+2,0,none⟩) (by show lo≤w.heap.size+2; omega) (by show w.heap.size+2<_; omega)).trans q3) (n1.next hW) (n2.next hW) (n3.next hW) hf hs
section
variable {P:Program} {ops:Array Oper} {Q:Exit→Act→World→Prop} {md:Region.Mode} {W0:World}
def lq (P:Program) (ops:Array Oper) (W0:World) (o:Oper) (v:Value) (a:Act):Prop :=
 (Region.wanted o (yielded ops a.tmps)=true∧∀ n:du W0,Oper.quietUpon P (fun w'=>Below n.now.heap.size n.now w') n.now v ((execOp a.eval o).run P n.now)) ∨
 (Region.wanted o (yielded ops a.tmps)=false∧v=undef)
theorem lq.of_same {o:Oper} {v:Value} {a a':Act} (hy:lq P ops W0 o v a) (he:execOp a'.eval o=execOp a.eval o)
  (hw:Region.wanted o (yielded ops a'.tmps)=Region.wanted o (yielded ops a.tmps)):lq P ops W0 o v a':=by
 unfold lq at *;rw [he,hw];exact hy
theorem lq.wpOp {i:Nat} {o:Oper} {v:Value} {a:Act} (hi:ops[i]? = some o) (hy:lq P ops W0 o v a)
  {K:Act→World→Prop} {w:World} (hB:Below W0.heap.size W0 w) (h:∀ w',Below w.heap.size w w'→K (a.put o.dst v) w'):wpOp P ops Q i K a w:=by
 unfold Go.wpOp;simp only [hi];rcases hy with ⟨hw,hv⟩ | ⟨hw,rfl⟩
 ·simp only [hw,if_true];left;have h3:=hv ⟨w,hB⟩;unfold Oper.wp;simp only at h3;generalize (execOp a.eval o).run P w=r at *;cases r with
  | ok n w' =>
   cases n <;> simp only [Oper.quietUpon] at h3 <;> simp only [Oper.upon]
   case value u =>
    obtain ⟨e1,e2⟩:=h3;rw [e1,e2];exact h _ (He _ _)
   case skip =>
    obtain ⟨e1,e2⟩:=h3;rw [e1,← e2];exact h _ (He _ _)
   case enter f args =>
    obtain ⟨e1,hc⟩:=h3;rw [e1];exact hc.mono fun e w'' ⟨he,hw''⟩=>by subst he; exact h _ hw''
  | halt x w'=>simp only [Oper.quietUpon] at h3
 ·simp only [hw,I9,if_false];exact h _ (He _ _)
theorem xZ {Φ:Act→Prop} {j:Nat} {oi oj:Oper} {v:Value} (hj:ops[j]? = some oj) (hap:oi.apart ops oj=true)
  (hsj:∀ cs b,oj.op ≠ .select cs b) (hQ:∀ c a w,Q (.panic c) (a.put oi.dst v) w→Q (.panic c) a w)
  (gD:∀ (a:Act),Φ a→∀ u,Φ (a.put oj.dst u)) (keepD:∀ (a:Act) (d:Deferred),Φ a→Φ { a with defers:=d :: a.defers })
  {K:Act→World→Prop} {a:Act} {w:World} (hy:Φ a) (h:wpOp P ops Q j K (a.put oi.dst v) w) :
  wpOp P ops Q j (fun a' w'=>Φ a'∧K (a'.put oi.dst v) w') a w:=by
 obtain ⟨h1,h2,_⟩:=Oper.apart_spec hap;unfold wpOp at *;simp only [hj] at *;rw [wanted_put oj a oi.dst v h1] at h
 split
 ·rename_i hw
  simp only [hw,if_true] at h;rcases h with h | ⟨hasks,hlets⟩
  case inr=>exact .inr ⟨by unfold Oper.asks at *; rw [execOp_put oj hsj a oi.dst v h1] at hasks; exact hasks,hlets⟩
  refine .inl ?_;unfold Oper.wp at *;rw [execOp_put oj hsj a oi.dst v h1] at h;generalize (execOp a.eval oj).run P w=r at *;cases r with
  | ok n w' =>
   cases n <;> simp only [Oper.upon] at h ⊢
   case value u=>exact ⟨gD a hy u,by rw [← Act.put_comm a v u h2]; exact h⟩
   case skip=>exact ⟨gD a hy _,by rw [← Act.put_comm a v undef h2]; exact h⟩
   case defer d =>
    refine ⟨gD _ (keepD a d hy) _,?_⟩;rw [← Act.put_comm _ v undef h2,← Act.put_defers];exact h
   case enter f args =>
    refine Calls.mono h fun e w'' he=>?_
    cases e with
    | returned u=>exact ⟨gD a hy u,by rw [← Act.put_comm a v u h2]; exact he⟩
    | panicked c=>exact hQ _ _ _ he
    | outgrown=>exact he
   case row row args=>exact Rows.mono h fun u w'' he=>⟨gD a hy u,by rw [← Act.put_comm a v u h2]; exact he⟩
  | halt x w' =>
   cases x <;> simp only [Oper.upon] at h ⊢
   case panic u=>exact hQ _ _ _ h
 ·rename_i hw
  simp only [hw] at h;exact ⟨gD a hy _,by rw [← Act.put_comm a v undef h2]; exact h⟩
def xv (P:Program) (md:Region.Mode) (ops:Array Oper) (Q:Exit→Act→World→Prop) (W0:World):Nat→Array Bool→Act→World→Prop
 | 0,listed,a,w=>Region.ready md ops listed = []∧∀ w',Below w.heap.size w w'→Q .normal a w'
 | fuel+1,listed,a,w=>∀ w',Below w.heap.size w w'→(Region.ready md ops listed = []→Q .normal a w') ∧
  ∀ i ∈ Region.ready md ops listed,wpOp P ops Q i (fun a' w''=>Below W0.heap.size W0 w''∧xv P md ops Q W0 fuel (listed.setIfInBounds i true) a' w'') a w'
theorem xv.eI:∀ (fuel:Nat) {listed:Array Bool} {a:Act} {w w1:World},xv P md ops Q W0 fuel listed a w→Below w.heap.size w w1→xv P md ops Q W0 fuel listed a w1
 | 0,_,_,_,_,h,hb=>⟨h.1,fun w' hw'=>h.2 w' (chain hb hw')⟩
 | _+1,_,_,_,_,h,hb=>fun w' hw'=>h w' (chain hb hw')
theorem iS:∀ (fuel:Nat) (listed:Array Bool) (a:Act) (w:World),xv P md ops Q W0 fuel listed a w→wpAny P md ops Q fuel listed a w
 | 0,_,_,_,h=>⟨h.1,h.2 _ (He _ _)⟩
 | fuel+1,_,_,w,h=>⟨(h w (He _ _)).1,fun i hi=>wpOp_mono (fun a' w' h'=>iS fuel _ a' w' h'.2) ((h w (He _ _)).2 i hi)⟩
theorem zc {i:Nat} {oi:Oper} {v:Value} (hi:ops[i]? = some oi) (hsel:∀ (j:Nat) (o:Oper) cs b,ops[j]? = some o→o.op ≠ .select cs b)
  (hQ:∀ c a w,Q (.panic c) (a.put oi.dst v) w→Q (.panic c) a w) :
  ∀ (fuel:Nat) (listed:Array Bool) (a:Act) (w:World),
   (∀ j oj,ops[j]? = some oj→j≠i→listed.getD j true=false→(∀ e ∈ oj.after,Region.binds md e=true→e.on≠i)→oi.apart ops oj=true) →
   i ∈ Region.ready md ops listed→lq P ops W0 oi v a→Below W0.heap.size W0 w →
   xv P md ops Q W0 fuel (listed.setIfInBounds i true) (a.put oi.dst v) w→xv P md ops Q W0 (fuel+1) listed a w:=by
 intro fuel
 induction fuel with
 | zero =>
  intro listed a w _ hr hy hB H w' hw';refine ⟨fun h=>(by rw [h] at hr; cases hr),fun j hj=>?_⟩;by_cases hji:j=i
  ·subst hji;exact hy.wpOp hi (chain hB hw') fun w'' hw''=>⟨chain (chain hB hw') hw'',H.eI 0 (chain hw' hw'')⟩
  ·have:=ready_mono hj hji;rw [H.1] at this;cases this
 | succ fuel ih =>
  intro listed a w hfree hr hy hB H w' hw';refine ⟨fun h=>(by rw [h] at hr; cases hr),fun j hj=>?_⟩;by_cases hji:j=i
  ·subst hji;exact hy.wpOp hi (chain hB hw') fun w'' hw''=>⟨chain (chain hB hw') hw'',H.eI (fuel+1) (chain hw' hw'')⟩
  ·have h1:=(H w' hw').2 j (ready_mono hj hji);obtain ⟨hjun,oj,hoj,hall⟩:=mem_ready.1 hj;have hnot:∀ e ∈ oj.after,Region.binds md e=true→e.on≠i:=fun e he hb heq=>by
    have h1:=hall e he hb;have h0:=(mem_ready.1 hr).1;rw [heq] at h1;rcases Ic i listed.size with h' | h'
    ·simp [h'] at h0 h1; rw [h0] at h1; cases h1
    ·simp [Iy h'] at h1
   have hap:=hfree j oj hoj hji hjun hnot;obtain ⟨_,_,h3⟩:=Oper.apart_spec hap;have h2:=xZ (Φ:=lq P ops W0 oi v) hoj hap (fun cs b=>hsel j oj cs b hoj) hQ
    (fun a hy u=>hy.of_same (execOp_put oi (fun cs b=>hsel i oi cs b hi) a oj.dst u h3) (wanted_put oi a oj.dst u h3)) (fun a d hy=>hy.of_same rfl rfl) hy h1
   have hfree':∀ k ok,ops[k]? = some ok→k≠i→(listed.setIfInBounds j true).getD k true=false →
     (∀ e ∈ ok.after,Region.binds md e=true→e.on≠i)→oi.apart ops ok=true:=fun k ok hk hki hun hno=>by
    refine hfree k ok hk hki ?_ hno;by_cases hjk:j=k
    ·subst hjk; exact hjun
    ·rw [getD_set_ne true hjk] at hun; exact hun
   refine wpOp_mono (fun a' w'' h4=>⟨h4.2.1,ih (listed.setIfInBounds j true) a' w'' hfree' (ready_mono hr (Ne.symm hji)) h4.1 h4.2.1 ?_⟩) h2;rw [Array.setIfInBounds_comm _ _ hji];exact h4.2.2
theorem aN {i:Nat} {oi:Oper} {v:Value} {fuel:Nat} {listed:Array Bool} {a:Act} {w:World} (d:Option Tmp) (hi:ops[i]? = some oi) (hd:oi.dst=d)
  (hs:Region.noSelect ops=true) (hf:Region.free md ops listed i=true) (hr:(Region.ready md ops listed).contains i=true)
  (hQ:∀ c a w,Q (.panic c) (a.put oi.dst v) w→Q (.panic c) a w) (hy:lq P ops W0 oi v a) (hB:Below W0.heap.size W0 w)
  (h:xv P md ops Q W0 fuel (listed.setIfInBounds i true) (a.put d v) w):xv P md ops Q W0 (fuel+1) listed a w:=by
 subst hd;exact zc hi (Region.noSelect_spec hs) hQ fuel listed a w (Region.free_spec hi hf) (by simpa using hr) hy hB h
theorem fh {rs:List Nat} {fuel:Nat} {listed:Array Bool} {a:Act} {w:World} (hr:Region.ready md ops listed=rs) (hne:rs ≠ [])
  (h:∀ w',Below w.heap.size w w'→∀ i ∈ rs,wpOp P ops Q i (fun a' w''=>Below W0.heap.size W0 w''∧xv P md ops Q W0 fuel (listed.setIfInBounds i true) a' w'') a w'):xv P md ops Q W0 (fuel+1) listed a w :=
 fun w' hw'=>⟨fun h0=>absurd (hr ▸ h0) hne,hr ▸ h w' hw'⟩
theorem lh {listed:Array Bool} {a:Act} {w:World} (hr:Region.ready md ops listed = []) (h:∀ w',Below w.heap.size w w'→Q .normal a w'):xv P md ops Q W0 0 listed a w:=⟨hr,h⟩
theorem nH {id:Nat} {a:Act} {w:World} (W0:World) (hm:P.follows .mixedOrders=true)
  (h:xv P .any ops Q W0 ops.size (Array.replicate ops.size false) a w.drew):(Code.region id ops true).wp P Q a w :=
 wp_region_any hm (iS _ _ _ _ h)
theorem ij {id:Nat} {a:Act} {w:World} (hm:P.follows .mixedOrders=true)
  (h:xv P .any ops Q w ops.size (Array.replicate ops.size false) a w.drew):(Code.region id ops true).wp P Q a w :=
 wp_region_any hm (iS _ _ _ _ h)
end
def iF (af:List Int) (lo:Nat) (W:World) (kb:Nat) (ks:List Ex):Prop :=
 ∃ K,lo≤kb∧kb<W.heap.size∧lo≤K∧K<W.heap.size∧W.cell? ⟨kb,0,none⟩=some (.slice (some ⟨K,0,none⟩) ks.length ks.length) ∧
  ∀ (i:Nat) (h:i<ks.length),∃ u,W.cell? ⟨K,i,none⟩=some u∧fc af lo u (fun row=>bq row ks[i]) W
theorem iF.next {af:List Int} {lo:Nat} {W w1:World} {kb:Nat} {ks:List Ex} (h:iF af lo W kb ks) (hb:Since lo W w1):iF af lo w1 kb ks:=by
 obtain ⟨K,h1,h2,h3,h4,h5,h6⟩:=h;refine ⟨K,h1,Hi h2 hb.1,h3,Hi h4 hb.1,(hb.cell (p:=⟨kb,0,none⟩) h1 h2).trans h5,fun i hi=>?_⟩;obtain ⟨u,c,a⟩:=h6 i hi;exact ⟨u,(hb.cell (p:=⟨K,i,none⟩) h3 h4).trans c,a.next hb⟩
theorem xN (af:List Int) (lo:Nat) (kb:Nat) (ks:List Ex) (a:Option Addr) (row:List Vl) (cap:Nat) (W:World) (hK:iF af lo W kb ks) (hn:0<ks.length) (hf:et af row) (hs:aY W a row) :
  Calls Tryz.prog 171 #[.slice a row.length cap,.pointer (some ⟨kb,0,none⟩)] W fun e w'=>e = .returned (fg (jK (bq row ks[0])))∧Below W.heap.size W w':=by
 have hal:=aa W (.cells #[.int .i64 0,.int .i64 0,.string ⟨#[]⟩] 24);have R:=fy.new W (.int .i64 0) (.int .i64 0) (.string ⟨#[]⟩) 24;obtain ⟨K,k1,k2,k3,k4,k5,k6⟩:=hK.next (Since.of hal);obtain ⟨u0,c0,a0⟩:=k6 0 hn;obtain ⟨g,cb,rfl,eg,d⟩:=a0;have d:=d row a cap _ hf (hs.next hal) (Since.refl _ _);dsimp only at d;have hn':(0:Int)<(ks.length:Int):=by omega
 have e:jK (bq row ks[0])=(tk (od (cls (bq row ks[0]).1 (bq row ks[0]).2.1)),tn (od (cls (bq row ks[0]).1 (bq row ks[0]).2.1)),⟨#[]⟩):=rfl;rw [e];clear e k6 hK;generalize bq row ks[0]=v0 at *;go_enter Tryz.func171,Tryz.ntmps171;go_wp2_with (go_at_fn g; refine d.mono ?_; rintro e w1 ⟨rfl,hb1⟩)
 have hA:=chain hal hb1;have R:=R.next hb1;clear d c0 k5;go_wp2_with fail
 refine (wW _ _ _ _).mono ?_;rintro e w2 ⟨rfl,hb2⟩;have hA:=chain hA hb2;have ⟨r0,r1,r2,r3,r4,r5,r6⟩:=R.next hb2;go_wp2
 exact Hf (v:=.agg #[.int .i64 (tk (od (cls v0.1 v0.2.1))),.int .i64 (tn (od (cls v0.1 v0.2.1))),.string ⟨#[]⟩]) (by simp [results,Tryz.results171,go_sem,r1,r2,r3]) rfl ⟨rfl,aF hA (Hd _)⟩
theorem zv (af:List Int) (lo:Nat) (kb:Nat) (ks:List Ex) (a:Option Addr) (row:List Vl) (cap:Nat) (W:World) (hK:iF af lo W kb ks) (hn:0<ks.length) (hf:et af row) (hs:aY W a row) :
  Calls Tryz.prog 173 #[.slice a row.length cap,.pointer (some ⟨kb,0,none⟩)] W fun e w'=>e = .returned (fg (kV (some ((bq row ks[0]).1 == 1))))∧Below W.heap.size W w':=by
 have hal:=aa W (.cells #[.int .i64 0,.int .i64 0,.string ⟨#[]⟩] 24);have R:=fy.new W (.int .i64 0) (.int .i64 0) (.string ⟨#[]⟩) 24;obtain ⟨K,k1,k2,k3,k4,k5,k6⟩:=hK.next (Since.of hal);obtain ⟨u0,c0,a0⟩:=k6 0 hn;obtain ⟨g,cb,rfl,eg,d⟩:=a0;have d:=d row a cap _ hf (hs.next hal) (Since.refl _ _);dsimp only at d;have hn':(0:Int)<(ks.length:Int):=by omega
 have e:kV (some ((bq row ks[0]).1 == 1))=(2,tn (some ((bq row ks[0]).1 == 1)),⟨#[]⟩):=rfl;rw [e];clear e k6 hK;generalize bq row ks[0]=v0 at *;go_enter Tryz.func173,Tryz.ntmps173;go_wp2_with (go_at_fn g; refine d.mono ?_; rintro e w1 ⟨rfl,hb1⟩)
 have hA:=chain hal hb1;have R:=R.next hb1;clear d c0 k5;go_wp2_with fail
 refine (ml _ _ _ _).mono ?_;rintro e w2 ⟨rfl,hb2⟩;have hA:=chain hA hb2;have R:=R.next hb2;go_wp2_with fail
 refine (oB _ _).mono ?_;rintro e w3 ⟨rfl,hb3⟩;have hA:=chain hA hb3;have ⟨r0,r1,r2,r3,r4,r5,r6⟩:=R.next hb3;go_wp2
 exact Hf (v:=.agg #[.int .i64 2,.int .i64 (tn (some (v0.1 == 1))),.string ⟨#[]⟩]) (by simp [results,Tryz.results173,go_sem,r1,r2,r3]) rfl ⟨rfl,aF hA (Hd _)⟩
theorem zo (af:List Int) (lo:Nat) (kb db:Nat) (k:Int) (ks:List Ex) (a:Option Addr) (row:List Vl) (cap:Nat) (W:World) (ud:Value) (cd:W.cell? ⟨db,0,none⟩=some ud) (F:pe lo ud (nv k) W)
  (hK:iF af lo W kb ks) (hn:1<ks.length) (hf:et af row) (hs:aY W a row) (g0:bh (bq row ks[0])=0) (g1:bh (bq row ks[1])=0) :
  Calls Tryz.prog 177 #[.slice a row.length cap,.pointer (some ⟨db,0,none⟩),.pointer (some ⟨kb,0,none⟩)] W fun e w'=>e = .returned (fg (nv k (bq row ks[0]) (bq row ks[1])))∧Below W.heap.size W w':=by
 have hal:=aa W (.cells #[.int .i64 0,.int .i64 0,.string ⟨#[]⟩] 24);have R:=fy.new W (.int .i64 0) (.int .i64 0) (.string ⟨#[]⟩) 24;obtain ⟨K,k1,k2,k3,k4,k5,k6⟩:=hK;obtain ⟨u0,c0,a0⟩:=k6 0 (by omega);obtain ⟨u1,c1,a1⟩:=k6 1 hn;obtain ⟨h0,cb0,rfl,eg0,d0⟩:=a0;obtain ⟨h1,cb1,rfl,eg1,d1⟩:=a1;obtain ⟨h2,cb2,rfl,eg2,d2⟩:=F;have d0:=fun n:du W=>d0 row a cap n.now hf (hs.next n.ok) (Since.of n.ok)
 have d1:=fun n:du W=>d1 row a cap n.now hf (hs.next n.ok) (Since.of n.ok)
 dsimp only at d0 d1;have d2:=fun n:du W=>d2 (bq row ks[0]) (bq row ks[1]) n.now g0 g1 (Since.of n.ok)
 have n0:0<ks.length:=by omega
 have l0:(0:Int)<(ks.length:Int):=by omega
 have l1:(1:Int)<(ks.length:Int):=by omega
 have p0:=ax cd;have p1:=ax k5;have p2:=ax c0;have p3:=ax c1;generalize hr:nv k (bq row ks[0]) (bq row ks[1])=r at *;generalize bq row ks[0]=v0 at *;generalize bq row ks[1]=v1 at *;clear k6 hr;go_enter Tryz.func177,Tryz.ntmps177;go_wp2_with fail
 generalize W.alloc (.cells #[.int .i64 0,.int .i64 0,.string ⟨#[]⟩] 24)=w0 at *;have hB0:Below W.heap.size W w0.drew:=hal.drew;refine nH W (by kernel_rfl) ?_;refine aN (some 5) (i:=0) (v:=.func (.func h2) #[] cb2) rfl rfl (by kernel_rfl) (by kernel_rfl) (by kernel_rfl) (fun _ _ _ h=>h) (Or.inl ⟨rfl,fun n=>?_⟩) hB0 ?_
 ·go_simp
 simp only [Act.put,pA,pB,pC];refine aN (some 6) (i:=1) (v:=.slice (some ⟨K,0,none⟩) ks.length ks.length) rfl rfl (by kernel_rfl) (by kernel_rfl) (by kernel_rfl) (fun _ _ _ h=>h) (Or.inl ⟨rfl,fun n=>?_⟩) hB0 ?_
 ·go_simp
 simp only [Act.put,pA,pB,pC];refine aN (some 7) (i:=2) (v:=.pointer (some ⟨K,0,none⟩)) rfl rfl (by kernel_rfl) (by kernel_rfl) (by kernel_rfl) (fun _ _ _ h=>h) (Or.inl ⟨rfl,fun n=>?_⟩) hB0 ?_
 ·go_simp
 simp only [Act.put,pA,pB,pC];refine aN (some 8) (i:=3) (v:=.func (.func h0) #[] cb0) rfl rfl (by kernel_rfl) (by kernel_rfl) (by kernel_rfl) (fun _ _ _ h=>h) (Or.inl ⟨rfl,fun n=>?_⟩) hB0 ?_
 ·go_simp
 simp only [Act.put,pA,pB,pC];refine aN (some 9) (i:=4) (v:=.slice a row.length cap) rfl rfl (by kernel_rfl) (by kernel_rfl) (by kernel_rfl) (fun _ _ _ h=>h) (Or.inl ⟨rfl,fun n=>?_⟩) hB0 ?_
 ·go_simp
 simp only [Act.put,pA,pB,pC];refine aN (some 11) (i:=6) (v:=.slice (some ⟨K,0,none⟩) ks.length ks.length) rfl rfl (by kernel_rfl) (by kernel_rfl) (by kernel_rfl) (fun _ _ _ h=>h) (Or.inl ⟨rfl,fun n=>?_⟩) hB0 ?_
 ·go_simp
 simp only [Act.put,pA,pB,pC];refine aN (some 12) (i:=7) (v:=.pointer (some ⟨K,1,none⟩)) rfl rfl (by kernel_rfl) (by kernel_rfl) (by kernel_rfl) (fun _ _ _ h=>h) (Or.inl ⟨rfl,fun n=>?_⟩) hB0 ?_
 ·go_simp
 simp only [Act.put,pA,pB,pC];refine aN (some 13) (i:=8) (v:=.func (.func h1) #[] cb1) rfl rfl (by kernel_rfl) (by kernel_rfl) (by kernel_rfl) (fun _ _ _ h=>h) (Or.inl ⟨rfl,fun n=>?_⟩) hB0 ?_
 ·go_simp
 simp only [Act.put,pA,pB,pC];refine aN (some 14) (i:=9) (v:=.slice a row.length cap) rfl rfl (by kernel_rfl) (by kernel_rfl) (by kernel_rfl) (fun _ _ _ h=>h) (Or.inl ⟨rfl,fun n=>?_⟩) hB0 ?_
 ·go_simp
 simp only [Act.put,pA,pB,pC];refine aN (some 10) (i:=5) (v:=fg v0) rfl rfl (by kernel_rfl) (by kernel_rfl) (by kernel_rfl) (fun _ _ _ h=>h) (Or.inl ⟨rfl,fun n=>?_⟩) hB0 ?_
 ·go_simp
 simp only [Act.put,pA,pB,pC];refine aN (some 15) (i:=10) (v:=fg v1) rfl rfl (by kernel_rfl) (by kernel_rfl) (by kernel_rfl) (fun _ _ _ h=>h) (Or.inl ⟨rfl,fun n=>?_⟩) hB0 ?_
 ·go_simp
 simp only [Act.put,pA,pB,pC];refine aN (some 16) (i:=11) (v:=fg r) rfl rfl (by kernel_rfl) (by kernel_rfl) (by kernel_rfl) (fun _ _ _ h=>h) (Or.inl ⟨rfl,fun n=>?_⟩) hB0 ?_
 ·go_simp
 simp only [Act.put,pA,pB,pC];clear p0 p1 p2 p3 d0 d1 d2;refine fh (rs:=[12]) (by kernel_rfl) (by simp) ?_;intro w12 hb12 j hj;obtain rfl:j=12:=by simpa using hj
 clear hj;have D12:=hB0.trans (hb12.mono hB0.size);have R12:=(R.next ((He _ _).drew)).next hb12;have P12:=R12.Gt (.int .i64 r.1) (.int .i64 r.2.1) (.string r.2.2);have ⟨b0,b1,b2,b3,b4,b5,b6⟩:=R12;refine wpOp_step rfl (fun K hK=>?_);go_simp;refine hK _ _ ⟨aF D12 (Hd _),?_⟩;clear hK K;refine lh (by kernel_rfl) ?_;intro w13 hb13;have D13:=(aF D12 (Hd _) (x:=.int .i64 r.1) (y:=.int .i64 r.2.1) (z:=.string r.2.2)).trans (hb13.mono (aF D12 (Hd _)).size);have ⟨g0,g1,g2,g3,g4,g5,g6⟩:=P12.next hb13;clear b0 b1 b2 b3 b4 b5 b6
 go_wp2
 exact Hf (v:=fg r) (by simp [results,Tryz.results177,go_sem,g1,g2,g3]) rfl ⟨rfl,D13⟩
def bo (B:Nat) (W:World) (a:Option Addr) (l:List Int):Prop :=
 l.length≤maxLen∧(l = []∨∃ b off,a=some ⟨b,off,none⟩∧b<B∧∀ (i:Nat) (h:i<l.length),W.cell? ⟨b,off+i,none⟩=some (.int .i64 l[i]))
theorem bo.next {B B':Nat} {W w1:World} {a:Option Addr} {l:List Int} (h:bo B W a l) (hb:Below B' W w1) (hB:B≤B'):bo B w1 a l:=by
 obtain ⟨h0,h | ⟨b,off,e,hlt,hr⟩⟩:=h
 ·exact ⟨h0,.inl h⟩
 ·exact ⟨h0,.inr ⟨b,off,e,hlt,fun i hi=>(hb.cell (p:=⟨b,_,none⟩) (Hi hlt hB)).trans (hr i hi)⟩⟩
theorem bo.up {B B':Nat} {W:World} {a:Option Addr} {l:List Int} (h:bo B W a l) (hB:B≤B'):bo B' W a l:=by
 obtain ⟨h0,h | ⟨b,off,e,hlt,hr⟩⟩:=h
 ·exact ⟨h0,.inl h⟩
 ·exact ⟨h0,.inr ⟨b,off,e,Hi hlt hB,hr⟩⟩
theorem bo.elem {B:Nat} {W:World} {a:Option Addr} {l:List Int} (h:bo B W a l) {k:Nat} (hk:k<l.length) :
  ∃ b off,a=some ⟨b,off,none⟩∧b<B∧W.cell? ⟨b,off+k,none⟩=some (.int .i64 l[k]):=by
 obtain ⟨_,h | ⟨b,off,e,hlt,hr⟩⟩:=h
 ·subst h; simp at hk
 ·exact ⟨b,off,e,hlt,hr k hk⟩
theorem BQ (t:Int) (l:List Int) (k:Nat) (h:l.length≤k):bV t (l.drop k)=some t:=by rw [Ig h]; simp [bV]
theorem DS (t:Int) (l:List Int) (k:Nat) (h:k<l.length) (e:kE l[k] t=none):bV t (l.drop k)=none:=by
 rw [Hk h,bV,List.all_cons,e]; rfl
theorem yr (t:Int) (l:List Int) (k:Nat) (h:k<l.length) {u:Int} (e:kE l[k] t=some u):bV t (l.drop k)=bV t (l.drop (k+1)):=by
 rw [Hk h,bV,List.all_cons,e,bV]; rfl
theorem gM (t:Int) (B:Nat) (a:Option Addr) (cap:Nat) (l:List Int) (w:World) (hB:B≤w.heap.size) (h:bo B w a l) :
  Calls Tryz.prog 160 #[.int .i64 t,.slice a l.length cap] w fun e w'=>e = .returned (.tuple #[.int .i64 (cM (bV t l)).1,.int .i64 (cM (bV t l)).2])∧Below w.heap.size w w':=by
 have hl:=h.1;unfold maxLen at hl;go_enter Tryz.func160,Tryz.ntmps160;go_wp2_with fail
 go_loopw [12] (fun i wr=>∃ k:Nat,k≤l.length∧i = .int .i64 k∧Hid (bV t l=bV t (l.drop k))∧Below w.heap.size w wr) (fun i _=>l.length - (intOf i).toNat)
 case atStart=>exact ⟨0,Hl _,rfl,rfl,He _ _⟩
 case round =>
  obtain ⟨k,hk,rfl,HE,hb⟩:=hrel;by_cases hlt:k<l.length
  ·obtain ⟨b,off,rfl,hbl,c⟩:=(h.next hb hB).elem hlt;rcases ht:kE l[k] t with _ | u
   ·have hR:bJ l[k] t=(0,9):=by simp [bJ,ht,cM]
    have HT:Hid (kE l[k] t=none):=ht;clear ht;go_wp2_with fail
    refine (bO _ _ _).mono ?_;rintro e w1 ⟨rfl,hb1⟩;simp only [hR];go_wp2
    exact Hf (v:=.tuple #[.int .i64 0,.int .i64 9]) (by simp [results,Tryz.results160,go_sem]) rfl ⟨by rw [HE.out,DS t l k hlt HT.out]; rfl,chain hb hb1⟩
   ·have hR:bJ l[k] t=(u,0):=by simp [bJ,ht,cM]
    have HT:Hid (kE l[k] t=some u):=ht;clear ht;go_wp2_with fail
    refine (bO _ _ _).mono ?_;rintro e w1 ⟨rfl,hb1⟩;simp only [hR];go_wp2
    go_roundw
    case rel=>exact ⟨k+1,by omega,by go_num,HE.out.trans (yr t l k hlt HT.out),chain hb hb1⟩
    case measure=>simp [intOf]; omega
  ·go_wp2
   exact Hf (v:=.tuple #[.int .i64 t,.int .i64 0]) (by simp [results,Tryz.results160,go_sem]) rfl ⟨by rw [HE.out,BQ t l k (by omega)]; rfl,hb⟩
theorem uY (B:Nat) (a:Option Addr) (cap:Nat) (l:List Int) (c:Int) (w:World) (h:bo B w a l) :
  Calls Tryz.prog 129 #[.slice a l.length cap,.int .i64 c] w fun e w'=>e = .returned (.tuple #[.int .i64 (j8 l c).1,.int .i64 (j8 l c).2])∧Below w.heap.size w w':=by
 by_cases h1:c<0
 ·have e:j8 l c=(0,7):=by simp [j8,h1]
  rw [e];go_enter Tryz.func129,Tryz.ntmps129;go_wp2
  exact Hf (v:=.tuple #[.int .i64 0,.int .i64 7]) (by simp [results,Tryz.results129,go_sem]) rfl ⟨rfl,He _ _⟩
 by_cases h2:l.length≤c
 ·have e:j8 l c=(0,7):=by simp [j8,h2]
  rw [e];go_enter Tryz.func129,Tryz.ntmps129;go_wp2
  exact Hf (v:=.tuple #[.int .i64 0,.int .i64 7]) (by simp [results,Tryz.results129,go_sem]) rfl ⟨rfl,He _ _⟩
 obtain ⟨j,rfl⟩:∃ j:Nat,c=j:=⟨c.toNat,by omega⟩
 have hj:j<l.length:=by omega
 have e:j8 l j=(l[j],0):=by simp [j8,h2,List.getD,hj]
 rw [e];obtain ⟨b,off,rfl,hbl,cc⟩:=h.elem hj;go_enter Tryz.func129,Tryz.ntmps129;go_wp2
 exact Hf (v:=.tuple #[.int .i64 l[j],.int .i64 0]) (by simp [results,Tryz.results129,go_sem]) rfl ⟨rfl,He _ _⟩
theorem uP (v:Vl) (w:World) :
  Calls Tryz.prog 128 #[fg v] w fun e w'=>e = .returned (.tuple #[.int .i64 (kM v).1,.int .i64 (kM v).2])∧Below w.heap.size w w':=by
 obtain ⟨k,n,s⟩:=v;by_cases h:aR k n s=0
 ·have e:kM (k,n,s)=(k,0):=by simp [kM,bh,h]
  rw [e];clear e;go_enter Tryz.func128,Tryz.ntmps128;go_wp2_with fail
  have A0:=fy.new w (.int .i64 k) (.int .i64 n) (.string s) 24;refine (gr _ _ _ _).mono ?_;rintro e w1 ⟨rfl,hb1⟩;rw [h];have ⟨a0,a1,a2,a3,a4,a5,a6⟩:=A0.next hb1;go_wp2
  exact Hf (v:=.tuple #[.int .i64 k,.int .i64 0]) (by simp [results,Tryz.results128,go_sem]) rfl ⟨rfl,jH hb1⟩
 ·have e:kM (k,n,s)=(0,aR k n s):=by simp [kM,bh,h]
  rw [e];clear e;go_enter Tryz.func128,Tryz.ntmps128;go_wp2_with fail
  refine (gr _ _ _ _).mono ?_;rintro e w1 ⟨rfl,hb1⟩;have q:(aR k n s != 0)=true:=by simpa using h
  go_wp2
  exact Hf (v:=.tuple #[.int .i64 0,.int .i64 (aR k n s)]) (by simp [results,Tryz.results128,go_sem]) rfl ⟨rfl,jH hb1⟩
theorem vy (B:Nat) (a:Option Addr) (cap:Nat) (ts:List Int) (w:World) (hB:B≤w.heap.size) (h:bo B w a ts) :
  Calls Tryz.prog 130 #[.int .i64 3,.slice a ts.length cap] w fun e w'=>e = .returned (.tuple #[.int .i64 (cM (bV 2 ts)).1,.int .i64 (cM (bV 2 ts)).2])∧Below w.heap.size w w':=by
 have con:=gM 2 B a cap ts w hB h;generalize cM (bV 2 ts)=r at *;generalize ts.length=n at *;clear h;go_enter Tryz.func130,Tryz.ntmps130;go_wp2_with fail
 refine con.mono ?_;rintro e w1 ⟨rfl,hb1⟩;go_wp2
 exact Hf (v:=.tuple #[.int .i64 r.1,.int .i64 r.2]) (by simp [results,Tryz.results130,go_sem]) rfl ⟨rfl,hb1⟩
theorem vJ (B:Nat) (a:Option Addr) (cap:Nat) (ts:List Int) (w:World) (hB:B≤w.heap.size) (h:bo B w a ts) :
  Calls Tryz.prog 130 #[.int .i64 4,.slice a ts.length cap] w fun e w'=>e = .returned (.tuple #[.int .i64 (cM (bV 2 ts)).1,.int .i64 (cM (bV 2 ts)).2])∧Below w.heap.size w w':=by
 have con:=gM 2 B a cap ts w hB h;generalize cM (bV 2 ts)=r at *;generalize ts.length=n at *;clear h;go_enter Tryz.func130,Tryz.ntmps130;go_wp2_with fail
 refine con.mono ?_;rintro e w1 ⟨rfl,hb1⟩;go_wp2
 exact Hf (v:=.tuple #[.int .i64 r.1,.int .i64 r.2]) (by simp [results,Tryz.results130,go_sem]) rfl ⟨rfl,hb1⟩
theorem vH (B:Nat) (a:Option Addr) (cap:Nat) (ts:List Int) (w:World) (hB:B≤w.heap.size) (h:bo B w a ts) :
  Calls Tryz.prog 130 #[.int .i64 5,.slice a ts.length cap] w fun e w'=>e = .returned (.tuple #[.int .i64 (cM (bV 2 ts)).1,.int .i64 (cM (bV 2 ts)).2])∧Below w.heap.size w w':=by
 have con:=gM 2 B a cap ts w hB h;generalize cM (bV 2 ts)=r at *;generalize ts.length=n at *;clear h;go_enter Tryz.func130,Tryz.ntmps130;go_wp2_with fail
 refine con.mono ?_;rintro e w1 ⟨rfl,hb1⟩;go_wp2
 exact Hf (v:=.tuple #[.int .i64 r.1,.int .i64 r.2]) (by simp [results,Tryz.results130,go_sem]) rfl ⟨rfl,hb1⟩
theorem so (B:Nat) (a:Option Addr) (cap:Nat) (ts:List Int) (w:World) (hB:B≤w.heap.size) (h:bo B w a ts) :
  Calls Tryz.prog 130 #[.int .i64 12,.slice a ts.length cap] w fun e w'=>e = .returned (.tuple #[.int .i64 (cM (bV 3 ts)).1,.int .i64 (cM (bV 3 ts)).2])∧Below w.heap.size w w':=by
 have con:=gM 3 B a cap ts w hB h;generalize cM (bV 3 ts)=r at *;generalize ts.length=n at *;clear h;go_enter Tryz.func130,Tryz.ntmps130;go_wp2_with fail
 refine con.mono ?_;rintro e w1 ⟨rfl,hb1⟩;go_wp2
 exact Hf (v:=.tuple #[.int .i64 r.1,.int .i64 r.2]) (by simp [results,Tryz.results130,go_sem]) rfl ⟨rfl,hb1⟩
theorem tu (B:Nat) (a:Option Addr) (cap:Nat) (ts:List Int) (w:World) (hB:B≤w.heap.size) (h:bo B w a ts) :
  Calls Tryz.prog 130 #[.int .i64 13,.slice a ts.length cap] w fun e w'=>e = .returned (.tuple #[.int .i64 (cM (bV 3 ts)).1,.int .i64 (cM (bV 3 ts)).2])∧Below w.heap.size w w':=by
 have con:=gM 3 B a cap ts w hB h;generalize cM (bV 3 ts)=r at *;generalize ts.length=n at *;clear h;go_enter Tryz.func130,Tryz.ntmps130;go_wp2_with fail
 refine con.mono ?_;rintro e w1 ⟨rfl,hb1⟩;go_wp2
 exact Hf (v:=.tuple #[.int .i64 r.1,.int .i64 r.2]) (by simp [results,Tryz.results130,go_sem]) rfl ⟨rfl,hb1⟩
theorem tl (B:Nat) (a:Option Addr) (cap:Nat) (ts:List Int) (w:World) (hB:B≤w.heap.size) (h:bo B w a ts) :
  Calls Tryz.prog 130 #[.int .i64 14,.slice a ts.length cap] w fun e w'=>e = .returned (.tuple #[.int .i64 (cM (bV 3 ts)).1,.int .i64 (cM (bV 3 ts)).2])∧Below w.heap.size w w':=by
 have con:=gM 3 B a cap ts w hB h;generalize cM (bV 3 ts)=r at *;generalize ts.length=n at *;clear h;go_enter Tryz.func130,Tryz.ntmps130;go_wp2_with fail
 refine con.mono ?_;rintro e w1 ⟨rfl,hb1⟩;go_wp2
 exact Hf (v:=.tuple #[.int .i64 r.1,.int .i64 r.2]) (by simp [results,Tryz.results130,go_sem]) rfl ⟨rfl,hb1⟩
theorem sN (B:Nat) (a:Option Addr) (cap:Nat) (ts:List Int) (w:World) (hB:B≤w.heap.size) (h:bo B w a ts) :
  Calls Tryz.prog 130 #[.int .i64 15,.slice a ts.length cap] w fun e w'=>e = .returned (.tuple #[.int .i64 (cM (bV 4 ts)).1,.int .i64 (cM (bV 4 ts)).2])∧Below w.heap.size w w':=by
 have con:=gM 4 B a cap ts w hB h;generalize cM (bV 4 ts)=r at *;generalize ts.length=n at *;clear h;go_enter Tryz.func130,Tryz.ntmps130;go_wp2_with fail
 refine con.mono ?_;rintro e w1 ⟨rfl,hb1⟩;go_wp2
 exact Hf (v:=.tuple #[.int .i64 r.1,.int .i64 r.2]) (by simp [results,Tryz.results130,go_sem]) rfl ⟨rfl,hb1⟩
theorem tw (a:Option Addr) (n cap:Nat) (w:World) :
  Calls Tryz.prog 130 #[.int .i64 16,.slice a n cap] w fun e w'=>e = .returned (.tuple #[.int .i64 2,.int .i64 0])∧Below w.heap.size w w':=by
 go_enter Tryz.func130,Tryz.ntmps130;go_wp2
 exact Hf (v:=.tuple #[.int .i64 2,.int .i64 0]) (by simp [results,Tryz.results130,go_sem]) rfl ⟨rfl,He _ _⟩
theorem uj (b off cap:Nat) (x y:Int) (w:World) (c0:w.cell? ⟨b,off,none⟩=some (.int .i64 x)) (c1:w.cell? ⟨b,off+1,none⟩=some (.int .i64 y)) (r:Int × Int) (er:r=if (bJ x y).2=0 then (2,0) else (0,(bJ x y).2)) :
  Calls Tryz.prog 130 #[.int .i64 6,.slice (some ⟨b,off,none⟩) 2 cap] w fun e w'=>e = .returned (.tuple #[.int .i64 r.1,.int .i64 r.2])∧Below w.heap.size w w':=by
 have p0:=ax c0;have p1:=ax c1;haveI:Nonempty (du w):=⟨⟨_,He _ _⟩⟩
 go_enter Tryz.func130,Tryz.ntmps130;go_wp2_with fail
 refine aI (by kernel_rfl) (by kernel_rfl) ?_
 repeat (go_big_quiet_step (first | (go_at_call 132; exact cS (bO x y _))))
 refine wpQuiet_nil ?_;rintro w3 ⟨⟨v3,hb3⟩,h3⟩;obtain rfl:w3=v3:=h3;clear p0 p1 c0 c1;generalize bJ x y=t at *;obtain ⟨t1,t2⟩:=t;by_cases h0:t2=0
 ·subst h0;simp only [if_true] at er;subst er;go_wp2
  exact Hf (v:=.tuple #[.int .i64 2,.int .i64 0]) (by simp [results,Tryz.results130,go_sem]) rfl ⟨rfl,hb3⟩
 ·simp only [h0,if_false] at er;subst er;have q:(t2 != 0)=true:=by simpa using h0
  go_wp2
  exact Hf (v:=.tuple #[.int .i64 0,.int .i64 t2]) (by simp [results,Tryz.results130,go_sem]) rfl ⟨rfl,hb3⟩
theorem we (b off cap:Nat) (x y:Int) (w:World) (c0:w.cell? ⟨b,off,none⟩=some (.int .i64 x)) (c1:w.cell? ⟨b,off+1,none⟩=some (.int .i64 y)) (r:Int × Int) (er:r=if (bJ x y).2=0 then (2,0) else (0,(bJ x y).2)) :
  Calls Tryz.prog 130 #[.int .i64 7,.slice (some ⟨b,off,none⟩) 2 cap] w fun e w'=>e = .returned (.tuple #[.int .i64 r.1,.int .i64 r.2])∧Below w.heap.size w w':=by
 have p0:=ax c0;have p1:=ax c1;haveI:Nonempty (du w):=⟨⟨_,He _ _⟩⟩
 go_enter Tryz.func130,Tryz.ntmps130;go_wp2_with fail
 refine aI (by kernel_rfl) (by kernel_rfl) ?_
 repeat (go_big_quiet_step (first | (go_at_call 132; exact cS (bO x y _))))
 refine wpQuiet_nil ?_;rintro w3 ⟨⟨v3,hb3⟩,h3⟩;obtain rfl:w3=v3:=h3;clear p0 p1 c0 c1;generalize bJ x y=t at *;obtain ⟨t1,t2⟩:=t;by_cases h0:t2=0
 ·subst h0;simp only [if_true] at er;subst er;go_wp2
  exact Hf (v:=.tuple #[.int .i64 2,.int .i64 0]) (by simp [results,Tryz.results130,go_sem]) rfl ⟨rfl,hb3⟩
 ·simp only [h0,if_false] at er;subst er;have q:(t2 != 0)=true:=by simpa using h0
  go_wp2
  exact Hf (v:=.tuple #[.int .i64 0,.int .i64 t2]) (by simp [results,Tryz.results130,go_sem]) rfl ⟨rfl,hb3⟩
theorem wb (b off cap:Nat) (x y:Int) (w:World) (c0:w.cell? ⟨b,off,none⟩=some (.int .i64 x)) (c1:w.cell? ⟨b,off+1,none⟩=some (.int .i64 y)) (r:Int × Int) (er:r=if (bJ x y).2=0 then (2,0) else (0,(bJ x y).2)) :
  Calls Tryz.prog 130 #[.int .i64 8,.slice (some ⟨b,off,none⟩) 2 cap] w fun e w'=>e = .returned (.tuple #[.int .i64 r.1,.int .i64 r.2])∧Below w.heap.size w w':=by
 have p0:=ax c0;have p1:=ax c1;haveI:Nonempty (du w):=⟨⟨_,He _ _⟩⟩
 go_enter Tryz.func130,Tryz.ntmps130;go_wp2_with fail
 refine aI (by kernel_rfl) (by kernel_rfl) ?_
 repeat (go_big_quiet_step (first | (go_at_call 132; exact cS (bO x y _))))
 refine wpQuiet_nil ?_;rintro w3 ⟨⟨v3,hb3⟩,h3⟩;obtain rfl:w3=v3:=h3;clear p0 p1 c0 c1;generalize bJ x y=t at *;obtain ⟨t1,t2⟩:=t;by_cases h0:t2=0
 ·subst h0;simp only [if_true] at er;subst er;go_wp2
  exact Hf (v:=.tuple #[.int .i64 2,.int .i64 0]) (by simp [results,Tryz.results130,go_sem]) rfl ⟨rfl,hb3⟩
 ·simp only [h0,if_false] at er;subst er;have q:(t2 != 0)=true:=by simpa using h0
  go_wp2
  exact Hf (v:=.tuple #[.int .i64 0,.int .i64 t2]) (by simp [results,Tryz.results130,go_sem]) rfl ⟨rfl,hb3⟩
theorem uz (b off cap:Nat) (x y:Int) (w:World) (c0:w.cell? ⟨b,off,none⟩=some (.int .i64 x)) (c1:w.cell? ⟨b,off+1,none⟩=some (.int .i64 y)) (r:Int × Int) (er:r=if (bJ x y).2=0 then (2,0) else (0,(bJ x y).2)) :
  Calls Tryz.prog 130 #[.int .i64 9,.slice (some ⟨b,off,none⟩) 2 cap] w fun e w'=>e = .returned (.tuple #[.int .i64 r.1,.int .i64 r.2])∧Below w.heap.size w w':=by
 have p0:=ax c0;have p1:=ax c1;haveI:Nonempty (du w):=⟨⟨_,He _ _⟩⟩
 go_enter Tryz.func130,Tryz.ntmps130;go_wp2_with fail
 refine aI (by kernel_rfl) (by kernel_rfl) ?_
 repeat (go_big_quiet_step (first | (go_at_call 132; exact cS (bO x y _))))
 refine wpQuiet_nil ?_;rintro w3 ⟨⟨v3,hb3⟩,h3⟩;obtain rfl:w3=v3:=h3;clear p0 p1 c0 c1;generalize bJ x y=t at *;obtain ⟨t1,t2⟩:=t;by_cases h0:t2=0
 ·subst h0;simp only [if_true] at er;subst er;go_wp2
  exact Hf (v:=.tuple #[.int .i64 2,.int .i64 0]) (by simp [results,Tryz.results130,go_sem]) rfl ⟨rfl,hb3⟩
 ·simp only [h0,if_false] at er;subst er;have q:(t2 != 0)=true:=by simpa using h0
  go_wp2
  exact Hf (v:=.tuple #[.int .i64 0,.int .i64 t2]) (by simp [results,Tryz.results130,go_sem]) rfl ⟨rfl,hb3⟩
theorem tj (b off cap:Nat) (x y:Int) (w:World) (c0:w.cell? ⟨b,off,none⟩=some (.int .i64 x)) (c1:w.cell? ⟨b,off+1,none⟩=some (.int .i64 y)) (r:Int × Int) (er:r=if (bJ x y).2=0 then (2,0) else (0,(bJ x y).2)) :
  Calls Tryz.prog 130 #[.int .i64 10,.slice (some ⟨b,off,none⟩) 2 cap] w fun e w'=>e = .returned (.tuple #[.int .i64 r.1,.int .i64 r.2])∧Below w.heap.size w w':=by
 have p0:=ax c0;have p1:=ax c1;haveI:Nonempty (du w):=⟨⟨_,He _ _⟩⟩
 go_enter Tryz.func130,Tryz.ntmps130;go_wp2_with fail
 refine aI (by kernel_rfl) (by kernel_rfl) ?_
 repeat (go_big_quiet_step (first | (go_at_call 132; exact cS (bO x y _))))
 refine wpQuiet_nil ?_;rintro w3 ⟨⟨v3,hb3⟩,h3⟩;obtain rfl:w3=v3:=h3;clear p0 p1 c0 c1;generalize bJ x y=t at *;obtain ⟨t1,t2⟩:=t;by_cases h0:t2=0
 ·subst h0;simp only [if_true] at er;subst er;go_wp2
  exact Hf (v:=.tuple #[.int .i64 2,.int .i64 0]) (by simp [results,Tryz.results130,go_sem]) rfl ⟨rfl,hb3⟩
 ·simp only [h0,if_false] at er;subst er;have q:(t2 != 0)=true:=by simpa using h0
  go_wp2
  exact Hf (v:=.tuple #[.int .i64 0,.int .i64 t2]) (by simp [results,Tryz.results130,go_sem]) rfl ⟨rfl,hb3⟩
theorem ti (b off cap:Nat) (x y:Int) (w:World) (c0:w.cell? ⟨b,off,none⟩=some (.int .i64 x)) (c1:w.cell? ⟨b,off+1,none⟩=some (.int .i64 y)) (r:Int × Int) (er:r=if (bJ x y).2=0 then (2,0) else (0,(bJ x y).2)) :
  Calls Tryz.prog 130 #[.int .i64 11,.slice (some ⟨b,off,none⟩) 2 cap] w fun e w'=>e = .returned (.tuple #[.int .i64 r.1,.int .i64 r.2])∧Below w.heap.size w w':=by
 have p0:=ax c0;have p1:=ax c1;haveI:Nonempty (du w):=⟨⟨_,He _ _⟩⟩
 go_enter Tryz.func130,Tryz.ntmps130;go_wp2_with fail
 refine aI (by kernel_rfl) (by kernel_rfl) ?_
 repeat (go_big_quiet_step (first | (go_at_call 132; exact cS (bO x y _))))
 refine wpQuiet_nil ?_;rintro w3 ⟨⟨v3,hb3⟩,h3⟩;obtain rfl:w3=v3:=h3;clear p0 p1 c0 c1;generalize bJ x y=t at *;obtain ⟨t1,t2⟩:=t;by_cases h0:t2=0
 ·subst h0;simp only [if_true] at er;subst er;go_wp2
  exact Hf (v:=.tuple #[.int .i64 2,.int .i64 0]) (by simp [results,Tryz.results130,go_sem]) rfl ⟨rfl,hb3⟩
 ·simp only [h0,if_false] at er;subst er;have q:(t2 != 0)=true:=by simpa using h0
  go_wp2
  exact Hf (v:=.tuple #[.int .i64 0,.int .i64 t2]) (by simp [results,Tryz.results130,go_sem]) rfl ⟨rfl,hb3⟩
theorem sv (b off cap:Nat) (x y:Int) (w:World) (c0:w.cell? ⟨b,off,none⟩=some (.int .i64 x)) (c1:w.cell? ⟨b,off+1,none⟩=some (.int .i64 y)) :
  Calls Tryz.prog 130 #[.int .i64 18,.slice (some ⟨b,off,none⟩) 2 cap] w fun e w'=>e = .returned (.tuple #[.int .i64 (bJ x y).1,.int .i64 (bJ x y).2])∧Below w.heap.size w w':=by
 have p0:=ax c0;have p1:=ax c1;haveI:Nonempty (du w):=⟨⟨_,He _ _⟩⟩
 go_enter Tryz.func130,Tryz.ntmps130;go_wp2_with fail
 refine aI (by kernel_rfl) (by kernel_rfl) ?_
 repeat (go_big_quiet_step (first | (go_at_call 132; exact cS (bO x y _))))
 refine wpQuiet_nil ?_;rintro w3 ⟨⟨v3,hb3⟩,h3⟩;obtain rfl:w3=v3:=h3;go_wp2
 exact Hf (v:=.tuple #[.int .i64 (bJ x y).1,.int .i64 (bJ x y).2]) (by simp [results,Tryz.results130,go_sem]) rfl ⟨rfl,hb3⟩
theorem tH (b off cap:Nat) (x y z:Int) (w:World) (hb:b<w.heap.size) (c0:w.cell? ⟨b,off,none⟩=some (.int .i64 x)) (c1:w.cell? ⟨b,off+1,none⟩=some (.int .i64 y)) (c2:w.cell? ⟨b,off+2,none⟩=some (.int .i64 z)) (r:Int × Int) (er:r=if (bJ x 2).2=0 then bJ y z else (0,(bJ x 2).2)) :
  Calls Tryz.prog 130 #[.int .i64 17,.slice (some ⟨b,off,none⟩) 3 cap] w fun e w'=>e = .returned (.tuple #[.int .i64 r.1,.int .i64 r.2])∧Below w.heap.size w w':=by
 go_enter Tryz.func130,Tryz.ntmps130;go_wp2_with fail
 refine (bO _ _ _).mono ?_;rintro e w1 ⟨rfl,hb1⟩;have d1:=(hb1.cell (p:=⟨b,off+1,none⟩) hb).trans c1;have d2:=(hb1.cell (p:=⟨b,off+2,none⟩) hb).trans c2;have p1:=ax d1;have p2:=ax d2;haveI:Nonempty (du w1):=⟨⟨_,He _ _⟩⟩
 clear c0 c1 c2;generalize bJ x 2=t at *;obtain ⟨t1,t2⟩:=t;by_cases h0:t2=0
 ·subst h0;simp only [if_true] at er;subst er;go_wp2_with fail
  refine aI (by kernel_rfl) (by kernel_rfl) ?_
  repeat (go_big_quiet_step (first | (go_at_call 132; exact cS (bO y z _))))
  refine wpQuiet_nil ?_;rintro w3 ⟨⟨v3,hb3⟩,h3⟩;obtain rfl:w3=v3:=h3;go_wp2
  exact Hf (v:=.tuple #[.int .i64 (bJ y z).1,.int .i64 (bJ y z).2]) (by simp [results,Tryz.results130,go_sem]) rfl ⟨rfl,chain hb1 hb3⟩
 ·simp only [h0,if_false] at er;subst er;have q:(t2 != 0)=true:=by simpa using h0
  go_wp2
  exact Hf (v:=.tuple #[.int .i64 0,.int .i64 t2]) (by simp [results,Tryz.results130,go_sem]) rfl ⟨rfl,hb1⟩
end Go.Proofs.YtjebpkhkjkjphaaGreat
