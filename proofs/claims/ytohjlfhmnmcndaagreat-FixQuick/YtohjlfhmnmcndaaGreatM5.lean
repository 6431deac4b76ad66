/- Together: Y9, X2, K1, Ext, K2, Y3a, Y3b, Y3c, Y3. -/
import Derived.OrdersHeld
import Derived.RegionTactic
import Derived.Test.YtohjlfhmnmcndaaGreatM4
import Derived.Test.YtohjlfhmnmcndaaGreatM0
import Derived.Test.YtohjlfhmnmcndaaGreatM1
import Derived.Test.YtohjlfhmnmcndaaGreatM2
namespace Go.Proofs.YtohjlfhmnmcndaaGreat
open Go.RowKit
set_option maxRecDepth 100000
set_option maxHeartbeats 16000000
theorem Bz (g:Nat) (cb:Array Value) (f:Vl→Vl→Vl) (b:Nat) (p q:Vl) (W:World) (hb:b<W.heap.size) (hc:W.cell? ⟨b,0,none⟩=some (.func (.func g) #[] cb))
  (eg:∀ args w,(callFunc g args).run Tryz.prog w = .ok (.enter g args) w) (hd:∀ W',Below W.heap.size W W'→Calls Tryz.prog g (#[fW p,fW q] ++ cb) W' fun e w'=>e = .returned (fW (f p q))∧Below W'.heap.size W' w') :
  Calls Tryz.prog 245 #[fW p,fW q,.pointer (some ⟨b,0,none⟩)] W fun e w'=>e = .returned (fW (oX (f p q)))∧Below W.heap.size W w':=by
 have e:oX (f p q)=(tk (rH (cls (f p q).1 (f p q).2.1)),tn (rH (cls (f p q).1 (f p q).2.1)),⟨#[]⟩):=rfl;rw [e];clear e;generalize f p q=r at *;have con:=hd _ (jE (Nk _ (((W.alloc (.cells #[.int .i64 p.1,.int .i64 p.2.1,.string p.2.2] 24)).alloc (.cells #[.int .i64 q.1,.int .i64 q.2.1,.string q.2.2] 24)).alloc (.cells #[.int .i64 0,.int .i64 0,.string ⟨#[]⟩] 24))));have A0:=((gH.new W (.int .i64 p.1) (.int .i64 p.2.1) (.string p.2.2) 24).alloc (.cells #[.int .i64 q.1,.int .i64 q.2.1,.string q.2.2] 24)).alloc (.cells #[.int .i64 0,.int .i64 0,.string ⟨#[]⟩] 24)
 have B0:=(gH.new (W.alloc (.cells #[.int .i64 p.1,.int .i64 p.2.1,.string p.2.2] 24)) (.int .i64 q.1) (.int .i64 q.2.1) (.string q.2.2) 24).alloc (.cells #[.int .i64 0,.int .i64 0,.string ⟨#[]⟩] 24);have R0:=gH.new ((W.alloc (.cells #[.int .i64 p.1,.int .i64 p.2.1,.string p.2.2] 24)).alloc (.cells #[.int .i64 q.1,.int .i64 q.2.1,.string q.2.2] 24)) (.int .i64 0) (.int .i64 0) (.string ⟨#[]⟩) 24
 have hA:Below W.heap.size W (((W.alloc (.cells #[.int .i64 p.1,.int .i64 p.2.1,.string p.2.2] 24)).alloc (.cells #[.int .i64 q.1,.int .i64 q.2.1,.string q.2.2] 24)).alloc (.cells #[.int .i64 0,.int .i64 0,.string ⟨#[]⟩] 24)):=jE (Nk _ _);have c3:=(hA.cell (p:=⟨b,0,none⟩) hb).trans hc;simp only [Oy] at B0 R0;clear hd A0 B0;go_enter Tryz.func245,Tryz.ntmps245;go_wp2_with (go_at_fn g; refine con.mono ?_)
 rintro e w1 ⟨rfl,hb1⟩;have R1:=R0.next hb1;have hb1':=chain hA hb1;have z1:=hb1.size;simp at z1;go_wp2_with fail
 refine (CL _ _ _ _).mono ?_;rintro e w2 ⟨rfl,hb2⟩;have ⟨r0,r1,r2,r3,r4,r5,r6⟩:=R1.next hb2;have hb2':=chain hb1' hb2;clear con R0 R1;go_wp2
 exact Nl (v:=.agg #[.int .i64 (tk (rH (cls r.1 r.2.1))),.int .i64 (tn (rH (cls r.1 r.2.1))),.string ⟨#[]⟩]) (by simp [results,Tryz.results245,go_sem,r1,r2,r3]) rfl ⟨rfl,aD hb2' (by omega)⟩
theorem Bm (g:Nat) (cb:Array Value) (f:Vl→Vl→Vl) (b:Nat) (p q:Vl) (W:World) (hb:b<W.heap.size) (hc:W.cell? ⟨b,0,none⟩=some (.func (.func g) #[] cb))
  (eg:∀ args w,(callFunc g args).run Tryz.prog w = .ok (.enter g args) w) (hd:∀ W',Below W.heap.size W W'→Calls Tryz.prog g (#[fW q,fW p] ++ cb) W' fun e w'=>e = .returned (fW (f q p))∧Below W'.heap.size W' w') :
  Calls Tryz.prog 246 #[fW p,fW q,.pointer (some ⟨b,0,none⟩)] W fun e w'=>e = .returned (fW (f q p))∧Below W.heap.size W w':=by
 generalize f q p=r at *;have con:=hd _ (jE (Nk _ (((W.alloc (.cells #[.int .i64 p.1,.int .i64 p.2.1,.string p.2.2] 24)).alloc (.cells #[.int .i64 q.1,.int .i64 q.2.1,.string q.2.2] 24)).alloc (.cells #[.int .i64 0,.int .i64 0,.string ⟨#[]⟩] 24))));have A0:=((gH.new W (.int .i64 p.1) (.int .i64 p.2.1) (.string p.2.2) 24).alloc (.cells #[.int .i64 q.1,.int .i64 q.2.1,.string q.2.2] 24)).alloc (.cells #[.int .i64 0,.int .i64 0,.string ⟨#[]⟩] 24)
 have B0:=(gH.new (W.alloc (.cells #[.int .i64 p.1,.int .i64 p.2.1,.string p.2.2] 24)) (.int .i64 q.1) (.int .i64 q.2.1) (.string q.2.2) 24).alloc (.cells #[.int .i64 0,.int .i64 0,.string ⟨#[]⟩] 24);have R0:=gH.new ((W.alloc (.cells #[.int .i64 p.1,.int .i64 p.2.1,.string p.2.2] 24)).alloc (.cells #[.int .i64 q.1,.int .i64 q.2.1,.string q.2.2] 24)) (.int .i64 0) (.int .i64 0) (.string ⟨#[]⟩) 24
 have hA:Below W.heap.size W (((W.alloc (.cells #[.int .i64 p.1,.int .i64 p.2.1,.string p.2.2] 24)).alloc (.cells #[.int .i64 q.1,.int .i64 q.2.1,.string q.2.2] 24)).alloc (.cells #[.int .i64 0,.int .i64 0,.string ⟨#[]⟩] 24)):=jE (Nk _ _);have c3:=(hA.cell (p:=⟨b,0,none⟩) hb).trans hc;simp only [Oy] at B0 R0;clear hd A0 B0;go_enter Tryz.func246,Tryz.ntmps246;go_wp2_with (go_at_fn g; refine con.mono ?_)
 rintro e w1 ⟨rfl,hb1⟩;have ⟨r0,r1,r2,r3,r4,r5,r6⟩:=R0.next hb1;have hb1':=chain hA hb1;have z1:=hb1.size;simp at z1;clear con R0;go_wp2
 exact Nl (v:=fW r) (by simp [results,Tryz.results246,go_sem,r1,r2,r3]) rfl ⟨rfl,aD hb1' (by omega)⟩
theorem wm (c:Int) (b:Nat) (p q:Vl) (W:World) (hb:b<W.heap.size) (hc:W.cell? ⟨b,0,none⟩=some (.int .i32 c)) :
  Calls Tryz.prog 247 #[fW p,fW q,.pointer (some ⟨b,0,none⟩)] W fun e w'=>e = .returned (fW (oG c p q))∧Below W.heap.size W w':=by
 have e:oG c p q=(wH (qL c p.1 p.2.1 q.1 q.2.1),Ah (qL c p.1 p.2.1 q.1 q.2.1),⟨#[]⟩):=rfl;rw [e];clear e;have A0:=((gH.new W (.int .i64 p.1) (.int .i64 p.2.1) (.string p.2.2) 24).alloc (.cells #[.int .i64 q.1,.int .i64 q.2.1,.string q.2.2] 24)).alloc (.cells #[.int .i64 0,.int .i64 0,.string ⟨#[]⟩] 24);have B0:=(gH.new (W.alloc (.cells #[.int .i64 p.1,.int .i64 p.2.1,.string p.2.2] 24)) (.int .i64 q.1) (.int .i64 q.2.1) (.string q.2.2) 24).alloc (.cells #[.int .i64 0,.int .i64 0,.string ⟨#[]⟩] 24)
 have R0:=gH.new ((W.alloc (.cells #[.int .i64 p.1,.int .i64 p.2.1,.string p.2.2] 24)).alloc (.cells #[.int .i64 q.1,.int .i64 q.2.1,.string q.2.2] 24)) (.int .i64 0) (.int .i64 0) (.string ⟨#[]⟩) 24;have hA:Below W.heap.size W (((W.alloc (.cells #[.int .i64 p.1,.int .i64 p.2.1,.string p.2.2] 24)).alloc (.cells #[.int .i64 q.1,.int .i64 q.2.1,.string q.2.2] 24)).alloc (.cells #[.int .i64 0,.int .i64 0,.string ⟨#[]⟩] 24)):=jE (Nk _ _);have c3:=(hA.cell (p:=⟨b,0,none⟩) hb).trans hc;simp only [Oy] at B0 R0;clear A0 B0;go_enter Tryz.func247,Tryz.ntmps247;go_wp2_with fail
 refine (zX _ _ _ _ _ _ _ _).mono ?_;rintro e w1 ⟨rfl,hb1⟩;have ⟨r0,r1,r2,r3,r4,r5,r6⟩:=R0.next hb1;have hb1':=chain hA hb1;have z1:=hb1.size;simp at z1;clear R0;go_wp2
 exact Nl (v:=.agg #[.int .i64 (wH (qL c p.1 p.2.1 q.1 q.2.1)),.int .i64 (Ah (qL c p.1 p.2.1 q.1 q.2.1)),.string ⟨#[]⟩]) (by simp [results,Tryz.results247,go_sem,r1,r2,r3]) rfl ⟨rfl,aD hb1' (by omega)⟩
theorem pF (u:Value) (f:Vl→Vl→Vl) (w:World) (lo:Nat) (hlo:lo≤w.heap.size) (h:tS lo u f w) :
  Calls Tryz.prog 235 #[u] w fun e w'=>∃ v,e = .returned v∧tS lo v (fun a b=>oX (f a b)) w'∧Below w.heap.size w w':=by
 obtain ⟨g,cb,rfl,eg,hd⟩:=h;have hal:=aa w (.cells #[.func (.func g) #[] cb] 240);have hF:tS lo (.func (.func 245) #[] #[.pointer (some ⟨w.heap.size,0,none⟩)]) (fun a b=>oX (f a b)) (w.alloc (.cells #[.func (.func g) #[] cb] 240)) :=
  ⟨245,_,rfl,enters_of Tryz.func245 (by kernel_rfl) rfl,fun p q W hp hq hW =>
   Bz g cb f w.heap.size p q W (Nn (by simp) hW.1) ((hW.cell (p:=⟨w.heap.size,0,none⟩) hlo (by simp)).trans (by simp)) eg (fun W' hW'=>hd p q W' hp hq (((ax.of hal).trans hW).trans (ax.of hW')))⟩
 clear hd;go_enter Tryz.func235,Tryz.ntmps235;go_wp2
 go_ret;exact ⟨_,rfl,hF,hal⟩
theorem uR (u:Value) (f:Vl→Vl→Vl) (w:World) (lo:Nat) (hlo:lo≤w.heap.size) (h:tS lo u f w) :
  Calls Tryz.prog 237 #[u] w fun e w'=>∃ v,e = .returned v∧tS lo v (fun a b=>f b a) w'∧Below w.heap.size w w':=by
 obtain ⟨g,cb,rfl,eg,hd⟩:=h;have hal:=aa w (.cells #[.func (.func g) #[] cb] 240);have hF:tS lo (.func (.func 246) #[] #[.pointer (some ⟨w.heap.size,0,none⟩)]) (fun a b=>f b a) (w.alloc (.cells #[.func (.func g) #[] cb] 240)) :=
  ⟨246,_,rfl,enters_of Tryz.func246 (by kernel_rfl) rfl,fun p q W hp hq hW =>
   Bm g cb f w.heap.size p q W (Nn (by simp) hW.1) ((hW.cell (p:=⟨w.heap.size,0,none⟩) hlo (by simp)).trans (by simp)) eg (fun W' hW'=>hd q p W' hq hp (((ax.of hal).trans hW).trans (ax.of hW')))⟩
 clear hd;go_enter Tryz.func237,Tryz.ntmps237;go_wp2
 go_ret;exact ⟨_,rfl,hF,hal⟩
theorem mf (c:Int) (w:World) (lo:Nat) (hlo:lo≤w.heap.size) :
  Calls Tryz.prog 238 #[.int .i32 c] w fun e w'=>∃ v,e = .returned v∧tS lo v (oG c) w'∧Below w.heap.size w w':=by
 have hal:=aa w (.cells #[.int .i32 c] 21);have hF:tS lo (.func (.func 247) #[] #[.pointer (some ⟨w.heap.size,0,none⟩)]) (oG c) (w.alloc (.cells #[.int .i32 c] 21)) :=
  ⟨247,_,rfl,enters_of Tryz.func247 (by kernel_rfl) rfl,fun p q W hp hq hW =>
   wm c w.heap.size p q W (Nn (by simp) hW.1) ((hW.cell (p:=⟨w.heap.size,0,none⟩) hlo (by simp)).trans (by simp))⟩
 go_enter Tryz.func238,Tryz.ntmps238;go_wp2
 go_ret;exact ⟨_,rfl,hF,hal⟩
def ju (k:Int):Prop:=∀ w:World,Calls Tryz.prog 210 #[.int .i64 k] w fun e w'=>∃ u,e = .returned u∧tS w.heap.size u (qD k) w'∧Below w.heap.size w w'
theorem IJ:ju 4:=by
 intro w;go_enter Tryz.func210,Tryz.ntmps210;go_wp2
 go_ret;exact ⟨_,rfl,K1 _ w,Nk _ _⟩
theorem IZ:ju 5:=by
 intro w;go_enter Tryz.func210,Tryz.ntmps210;go_wp2
 go_ret;exact ⟨_,rfl,Mn _ w,Nk _ _⟩
theorem IB:ju 6:=by
 intro w;go_enter Tryz.func210,Tryz.ntmps210;go_wp2
 go_ret;exact ⟨_,rfl,KB _ w,Nk _ _⟩
theorem Jj:ju 8:=by
 intro w;go_enter Tryz.func210,Tryz.ntmps210;go_wp2
 go_ret;exact ⟨_,rfl,BR _ w,Nk _ _⟩
theorem FB:ju 15:=by
 intro w;go_enter Tryz.func210,Tryz.ntmps210;go_wp2
 go_ret;exact ⟨_,rfl,Ke _ w,Nk _ _⟩
theorem Ib:ju 18:=by
 intro w;go_enter Tryz.func210,Tryz.ntmps210;go_wp2
 go_ret;exact ⟨_,rfl,Kj _ w,Nk _ _⟩
theorem JA:ju 7:=by
 intro w;go_enter Tryz.func210,Tryz.ntmps210;go_wp2_with fail
 refine (pF _ _ w _ (Nj _) (KB _ w)).mono ?_;rintro e w1 ⟨v,rfl,hF,hb1⟩;go_wp2
 go_ret;exact ⟨_,rfl,hF,hb1⟩
theorem GF:ju 11:=by
 intro w;go_enter Tryz.func210,Tryz.ntmps210;go_wp2_with fail
 refine (pF _ _ w _ (Nj _) (BR _ w)).mono ?_;rintro e w1 ⟨v,rfl,hF,hb1⟩;go_wp2
 go_ret;exact ⟨_,rfl,hF,hb1⟩
theorem GN:ju 10:=by
 intro w;go_enter Tryz.func210,Tryz.ntmps210;go_wp2_with fail
 refine (uR _ _ w _ (Nj _) (BR _ w)).mono ?_;rintro e w1 ⟨v,rfl,hF,hb1⟩;go_wp2
 go_ret;exact ⟨_,rfl,hF,hb1⟩
theorem G9:ju 12:=by
 intro w;go_enter Tryz.func210,Tryz.ntmps210;go_wp2_with fail
 refine (mf 43 w _ (Nj _)).mono ?_;rintro e w1 ⟨v,rfl,hF,hb1⟩;go_wp2
 go_ret;exact ⟨_,rfl,hF,hb1⟩
theorem Fz:ju 13:=by
 intro w;go_enter Tryz.func210,Tryz.ntmps210;go_wp2_with fail
 refine (mf 45 w _ (Nj _)).mono ?_;rintro e w1 ⟨v,rfl,hF,hb1⟩;go_wp2
 go_ret;exact ⟨_,rfl,hF,hb1⟩
theorem GV:ju 14:=by
 intro w;go_enter Tryz.func210,Tryz.ntmps210;go_wp2_with fail
 refine (mf 42 w _ (Nj _)).mono ?_;rintro e w1 ⟨v,rfl,hF,hb1⟩;go_wp2
 go_ret;exact ⟨_,rfl,hF,hb1⟩
theorem Kn:ju 9:=by
 intro w;go_enter Tryz.func210,Tryz.ntmps210;go_wp2_with fail
 refine (uR _ _ w _ (Nj _) (BR _ w)).mono ?_;rintro e w1 ⟨v,rfl,hF,hb1⟩;go_wp2_with fail
 refine (pF _ _ w1 _ hb1.size hF).mono ?_;rintro e w2 ⟨v2,rfl,hF2,hb2⟩;go_wp2
 go_ret;exact ⟨_,rfl,hF2,chain hb1 hb2⟩
theorem GZ (k:Int) (h4:4≤k) (h18:k≤15∨k=18):ju k:=by
 obtain rfl | rfl | rfl | rfl | rfl | rfl | rfl | rfl | rfl | rfl | rfl | rfl | rfl:k=4∨k=5∨k=6∨k=7∨k=8∨k=9∨k=10∨k=11∨k=12∨k=13∨k=14∨k=15∨k=18:=by omega
 ·exact IJ
 ·exact IZ
 ·exact IB
 ·exact JA
 ·exact Jj
 ·exact Kn
 ·exact GN
 ·exact GF
 ·exact G9
 ·exact Fz
 ·exact GV
 ·exact FB
 ·exact Ib
end Go.Proofs.YtohjlfhmnmcndaaGreat
namespace Go.Proofs.YtohjlfhmnmcndaaGreat
set_option maxRecDepth 100000
set_option maxHeartbeats 16000000
def eQ (cols:List Int):Bool:=cols.all fun c=>decide (1≤c) && decide (c≤4)
def an (cols:List Int) (x:Ex):Int × Int :=
 if 16<cols.length then (0,5) else if eQ cols=false then (0,1) else if (aU cols x 0 1).2.1=0 then ((aU cols x 0 1).1,0) else (0,(aU cols x 0 1).2.1)
def Kx (cols:List Int) (x:Ex) (row:List Vl):Vl × Int :=
 if (an cols x).2≠0 then (fH,(an cols x).2) else if di cols row≠0 then (fH,di cols row) else (bB row x,0)
structure yE (cols:List Int) (x:Ex) (t:Int):Prop where
 MX:cols.length≤16
 fit:eQ cols=true
 ty:pE cols x=some t
 size:mM x≤200
 deep:xU x≤20
theorem sV (cols:List Int) (x:Ex):(an cols x).2=0↔yE cols x (an cols x).1:=by
 unfold an;by_cases h1:16<cols.length
 ·rw [if_pos h1];simp only [show ¬ (5:Int)=0 by decide,false_iff];exact fun h=>absurd h.MX (by omega)
 rw [if_neg h1];by_cases h2:eQ cols=false
 ·rw [if_pos h2];simp only [show ¬ (1:Int)=0 by decide,false_iff];exact fun h=>absurd h.fit (by simp [h2])
 rw [if_neg h2];by_cases h3:(aU cols x 0 1).2.1=0
 ·rw [if_pos h3];simp only [true_iff];obtain ⟨q1,q2,q3,q4⟩:=(jQ cols x 0 1 (aU cols x 0 1).1 (aU cols x 0 1).2.2).1 (Prod.ext rfl (Prod.ext h3 rfl));exact ⟨by omega,by simpa using h2,q1,by omega,by omega⟩
 ·rw [if_neg h3];simp only [h3,false_iff];intro h;have:=(jQ cols x 0 1 0 (0+mM x)).2 ⟨h.ty,rfl,by have:=h.size; omega,by have:=h.deep; omega⟩;rw [this] at h3;simp at h3
theorem yE.top {cols:List Int} {x:Ex} {t:Int} (h:yE cols x t):an cols x=(t,0):=by
 have:=(jQ cols x 0 1 t (0+mM x)).2 ⟨h.ty,rfl,by have:=h.size; omega,by have:=h.deep; omega⟩;unfold an;rw [if_neg (by have:=h.MX; omega),if_neg (by simp [h.fit]),this];simp
theorem yE.eval {cols:List Int} {x:Ex} {t:Int} (h:yE cols x t) (row:List Vl):Kx cols x row=if di cols row≠0 then (fH,di cols row) else (bB row x,0):=by
 unfold Kx;rw [h.top];simp
theorem oa {cols:List Int} (h:eQ cols=true):∀ i,i<cols.length→eL (cols.getD i 0):=by
 intro i hi;unfold eQ at h;rw [OY] at h;have:=h cols[i] (Ns _);simp only [NQ,decide_eq_true_eq] at this
 simpa [List.getD,hi,eL] using this
def Le (a b:Vl):Prop:=a.1=1∨a=b
theorem Le.refl (a:Vl):Le a a:=.inr rfl
theorem J2 {a b c d:Vl} (h:Le a c) (h':Le b d):lh a.1 b.1=false∨(a=c∧b=d):=by
 unfold lh;rcases h with h | rfl
 ·left; simp [h]
 ·rcases h' with h' | rfl
  ·left;by_cases q:a.1=1 <;> simp [h',q]
  ·right; exact ⟨rfl,rfl⟩
theorem Cb {a b c d:Vl} (h:Le a c) (h':Le b d):Kw a.1 a.2.1 a.2.2 b.1 b.2.1 b.2.2=none∨Kw a.1 a.2.1 a.2.2 b.1 b.2.1 b.2.2=Kw c.1 c.2.1 c.2.2 d.1 d.2.1 d.2.2:=by
 rcases J2 h h' with q | ⟨rfl,rfl⟩
 ·left; simp [Kw,q]
 ·right; rfl
end Go.Proofs.YtohjlfhmnmcndaaGreat
namespace Go.Proofs.YtohjlfhmnmcndaaGreat
open Go.RowKit
set_option maxRecDepth 100000
set_option maxHeartbeats 16000000
def fX (cols:List Int) (lo:Nat) (u:Value) (f:List Vl→Vl) (w:World):Prop :=
 ∃ g cb,u = .func (.func g) #[] cb∧(∀ args w,(callFunc g args).run Tryz.prog w = .ok (.enter g args) w) ∧
  ∀ (row:List Vl) (a:Option Addr) (cap:Nat) (W:World),cL cols row→aM W a row→ax lo w W →
   Calls Tryz.prog g (#[.slice a row.length cap] ++ cb) W fun e w'=>e = .returned (fW (f row))∧Below W.heap.size W w'
theorem fX.next {cols:List Int} {lo:Nat} {u:Value} {f:List Vl→Vl} {w w1:World} (h:fX cols lo u f w) (hb:ax lo w w1):fX cols lo u f w1:=by
 obtain ⟨g,cb,e,eg,hd⟩:=h;exact ⟨g,cb,e,eg,fun row a cap W hf hs hW=>hd row a cap W hf hs (hb.trans hW)⟩
theorem fX.down {cols:List Int} {lo lo':Nat} {u:Value} {f:List Vl→Vl} {w:World} (h:fX cols lo u f w) (hl:lo'≤lo):fX cols lo' u f w:=by
 obtain ⟨g,cb,e,eg,hd⟩:=h;exact ⟨g,cb,e,eg,fun row a cap W hf hs hW=>hd row a cap W hf hs (hW.up hl)⟩
theorem gH.LX {W:World} {b:Nat} {x y z:Value} (h:gH W b x y z) (x' y' z':Value):gH (((W.setCell ⟨b,0,none⟩ x').setCell ⟨b,1,none⟩ y').setCell ⟨b,2,none⟩ z') b x' y' z':=by
 obtain ⟨lt,c0,c1,c2,f0,f1,f2⟩:=h;refine ⟨by simpa using lt,?_,?_,?_,by simpa using f0,by simpa using f1,by simpa using f2⟩
 ·rw [Nv _ _ _ _ (by simp),Nv _ _ _ _ (by simp)];exact ON _ _ _ (by rw [c0]; rfl)
 ·rw [Nv _ _ _ _ (by simp)];exact ON _ _ _ (by rw [Nv _ _ _ _ (by simp),c1]; rfl)
 ·exact ON _ _ _ (by rw [Nv _ _ _ _ (by simp),Nv _ _ _ _ (by simp),c2]; rfl)
theorem Bu (v:Vl) (b:Nat) (a:Option Addr) (n cap:Nat) (W:World) (hb:b<W.heap.size) (h0:W.cell? ⟨b,0,none⟩=some (.int .i64 v.1)) (h1:W.cell? ⟨b,1,none⟩=some (.int .i64 v.2.1)) (h2:W.cell? ⟨b,2,none⟩=some (.string v.2.2)) :
  Calls Tryz.prog 228 #[.slice a n cap,.pointer (some ⟨b,0,none⟩)] W fun e w'=>e = .returned (fW v)∧Below W.heap.size W w':=by
 have hal:=aa W (.cells #[.int .i64 0,.int .i64 0,.string ⟨#[]⟩] 24);have c0:=(hal.cell (p:=⟨b,0,none⟩) hb).trans h0;have c1:=(hal.cell (p:=⟨b,1,none⟩) hb).trans h1;have c2:=(hal.cell (p:=⟨b,2,none⟩) hb).trans h2;go_enter Tryz.func228,Tryz.ntmps228;go_wp2
 exact Nl (v:=fW v) (by simp [results,Tryz.results228,go_sem]) rfl ⟨rfl,(Nk _ _).alloc (Nj _) _⟩
theorem Ew (cols:List Int) (v:Vl) (w:World) :
  Calls Tryz.prog 203 #[fW v] w fun e w'=>∃ u,e = .returned u∧fX cols w.heap.size u (fun _=>cB v) w'∧Below w.heap.size w w':=by
 have hal:=aa w (.cells #[.int .i64 v.1,.int .i64 v.2.1,.string v.2.2] 24);have R:=gH.new w (.int .i64 v.1) (.int .i64 v.2.1) (.string v.2.2) 24;go_enter Tryz.func203,Tryz.ntmps203;go_wp2_with fail
 refine (rF _ _ _ _).mono ?_;rintro e w1 ⟨rfl,hb1⟩;have R1:=R.next hb1;have P1:=R1.LX (.int .i64 v.1) (.int .i64 (fF v.1 v.2.1)) (.string (kp v.1 v.2.2));have hb:=chain hal hb1;have ⟨r0,r1,r2,r3,r4,r5,r6⟩:=R1;go_wp2
 go_ret;refine ⟨_,rfl,⟨228,_,rfl,enters_of Tryz.func228 (by kernel_rfl) rfl,?_⟩,aD hb (Nj _)⟩;intro row a cap W _ _ hW;obtain ⟨p0,p1,p2,p3,_,_,_⟩:=P1;exact Bu (cB v) w.heap.size a row.length cap W (Nn p0 hW.1) ((hW.cell (p:=⟨w.heap.size,0,none⟩) (Nj _) p0).trans p1) ((hW.cell (p:=⟨w.heap.size,1,none⟩) (Nj _) p0).trans p2) ((hW.cell (p:=⟨w.heap.size,2,none⟩) (Nj _) p0).trans p3)
theorem AV (j:Nat) (b:Nat) (a:Option Addr) (row:List Vl) (cap:Nat) (W:World) (hb:b<W.heap.size) (h0:W.cell? ⟨b,0,none⟩=some (.int .i64 j)) (hj:j<row.length) (hs:aM W a row) :
  Calls Tryz.prog 229 #[.slice a row.length cap,.pointer (some ⟨b,0,none⟩)] W fun e w'=>e = .returned (fW (cB row[j]))∧Below W.heap.size W w':=by
 have hal:=aa W (.cells #[.int .i64 0,.int .i64 0,.string ⟨#[]⟩] 24);have R:=gH.new W (.int .i64 0) (.int .i64 0) (.string ⟨#[]⟩) 24;have c0:=(hal.cell (p:=⟨b,0,none⟩) hb).trans h0;have hl:=hs.1;unfold maxLen at hl;obtain ⟨b',off,rfl,hbl,x0,x1,x2⟩:=(hs.next hal).elem hj;generalize row[j]=v at *;go_enter Tryz.func229,Tryz.ntmps229;go_wp2_with fail
 refine (rF _ _ _ _).mono ?_;rintro e w1 ⟨rfl,hb1⟩;have ⟨r0,r1,r2,r3,r4,r5,r6⟩:=R.next hb1;have hb:=chain hal hb1;clear x0 x1 x2 c0;go_wp2
 exact Nl (v:=fW (cB v)) (by simp [results,Tryz.results229,go_sem,r1,r2,r3,cB]) rfl ⟨rfl,aD hb (Nj _)⟩
theorem Ez (cols:List Int) (c:Int) (w:World) (h0:0≤c) (h1:c.toNat<cols.length) :
  Calls Tryz.prog 204 #[.int .i64 c] w fun e w'=>∃ u,e = .returned u∧fX cols w.heap.size u (fun row=>cB (row.getD c.toNat fH)) w'∧Below w.heap.size w w':=by
 have hal:=aa w (.cells #[.int .i64 c] 3);obtain ⟨j,rfl⟩:∃ j:Nat,c=j:=⟨c.toNat,by omega⟩
 go_enter Tryz.func204,Tryz.ntmps204;go_wp2
 go_ret;refine ⟨_,rfl,⟨229,_,rfl,enters_of Tryz.func229 (by kernel_rfl) rfl,?_⟩,hal⟩;intro row a cap W hf hs hW;have hj:j<row.length:=by have:=hf.len; simp at h1; omega
 have e:row.getD (j:Int).toNat fH=row[j]:=by simp [List.getD,hj]
 show Calls _ _ _ _ fun e w'=>e = .returned (fW (cB (row.getD (j:Int).toNat fH)))∧_
 rw [e];exact AV j w.heap.size a row cap W (Nn (by simp) hW.1) ((hW.cell (p:=⟨w.heap.size,0,none⟩) (Nj _) (by simp)).trans (by simp)) hj hs
theorem A4 (cols:List Int) (lo:Nat) (f1 f2 f3:List Vl→Vl) (u1 u2 u3:Value) (b:Nat) (a:Option Addr) (row:List Vl) (cap:Nat) (W:World) (hb:b+2<W.heap.size)
  (h0:W.cell? ⟨b,0,none⟩=some u1) (h1:W.cell? ⟨b+1,0,none⟩=some u2) (h2:W.cell? ⟨b+2,0,none⟩=some u3) (a1:fX cols lo u1 f1 W) (a2:fX cols lo u2 f2 W) (a3:fX cols lo u3 f3 W) (hf:cL cols row) (hs:aM W a row) :
  Calls Tryz.prog 231 #[.slice a row.length cap,.pointer (some ⟨b,0,none⟩),.pointer (some ⟨b+1,0,none⟩),.pointer (some ⟨b+2,0,none⟩)] W fun e w'=>e = .returned (fW (if uw (f1 row) == some true then f2 row else f3 row))∧Below W.heap.size W w':=by
 obtain ⟨g1,cb1,rfl,eg1,d1⟩:=a1;obtain ⟨g2,cb2,rfl,eg2,d2⟩:=a2;obtain ⟨g3,cb3,rfl,eg3,d3⟩:=a3;have hal:=aa W (.cells #[.int .i64 0,.int .i64 0,.string ⟨#[]⟩] 24);have R:=gH.new W (.int .i64 0) (.int .i64 0) (.string ⟨#[]⟩) 24;have c1:=(hal.cell (p:=⟨b,0,none⟩) (by show b<_; omega)).trans h0;have d1:=d1 row a cap _ hf (hs.next hal) (ax.of hal);have d2:=fun W' (h:Below W.heap.size W W')=>d2 row a cap W' hf (hs.next h) (ax.of h)
 have d3:=fun W' (h:Below W.heap.size W W')=>d3 row a cap W' hf (hs.next h) (ax.of h)
 generalize f1 row=v1 at *;generalize f2 row=v2 at *;generalize f3 row=v3 at *;by_cases q:(uw v1 == some true)=true
 ·rw [if_pos q];go_enter Tryz.func231,Tryz.ntmps231;go_wp2_with (go_at_fn g1; refine d1.mono ?_)
  rintro e w1 ⟨rfl,hb1⟩;have hA:=chain hal hb1;have R:=R.next hb1;have q':(cls v1.1 v1.2.1 == some true)=true:=q;go_wp2_with fail
  refine (kl _ _ _ _).mono ?_;rintro e w2 ⟨rfl,hb2⟩;rw [q'];have hA:=chain hA hb2;have R:=R.next hb2;have c2:=(hA.cell (p:=⟨b+1,0,none⟩) (by show b+1<_; omega)).trans h1;have d2:=d2 _ hA;clear d1 c1 d3;go_wp2_with (go_at_fn g2; refine d2.mono ?_)
  rintro e w3 ⟨rfl,hb3⟩;have hA:=chain hA hb3;have ⟨r0,r1,r2,r3,r4,r5,r6⟩:=R.next hb3;clear d2 c2;go_wp2
  exact Nl (v:=fW v2) (by simp [results,Tryz.results231,go_sem,r1,r2,r3]) rfl ⟨rfl,aD hA (Nj _)⟩
 ·rw [if_neg q];go_enter Tryz.func231,Tryz.ntmps231;go_wp2_with (go_at_fn g1; refine d1.mono ?_)
  rintro e w1 ⟨rfl,hb1⟩;have hA:=chain hal hb1;have R:=R.next hb1;have q':(cls v1.1 v1.2.1 == some true)=false:=Bool.eq_false_iff.mpr q;go_wp2_with fail
  refine (kl _ _ _ _).mono ?_;rintro e w2 ⟨rfl,hb2⟩;rw [q'];have hA:=chain hA hb2;have R:=R.next hb2;have c3:=(hA.cell (p:=⟨b+2,0,none⟩) (by show b+2<_; omega)).trans h2;have d3:=d3 _ hA;clear d1 c1 d2;go_wp2_with (go_at_fn g3; refine d3.mono ?_)
  rintro e w3 ⟨rfl,hb3⟩;have hA:=chain hA hb3;have ⟨r0,r1,r2,r3,r4,r5,r6⟩:=R.next hb3;clear d3 c3;go_wp2
  exact Nl (v:=fW v3) (by simp [results,Tryz.results231,go_sem,r1,r2,r3]) rfl ⟨rfl,aD hA (Nj _)⟩
theorem su {w:World} {o:Obj} {p:Addr} (h:p.block<w.heap.size):(w.alloc o).cell? p=w.cell? p:=((Nk w.heap.size w).alloc (Nj _) o).cell h
theorem Dk (cols:List Int) (lo:Nat) (f1 f2 f3:List Vl→Vl) (u1 u2 u3:Value) (w:World) (hlo:lo≤w.heap.size) (a1:fX cols lo u1 f1 w) (a2:fX cols lo u2 f2 w) (a3:fX cols lo u3 f3 w) :
  Calls Tryz.prog 209 #[u1,u2,u3] w fun e w'=>∃ u,e = .returned u∧fX cols lo u (fun row=>if uw (f1 row) == some true then f2 row else f3 row) w'∧Below w.heap.size w w':=by
 obtain ⟨x1,y1,rfl⟩:∃ x y,u1 = .func (.func x) #[] y:=by obtain ⟨x,y,e,_⟩:=a1; exact ⟨x,y,e⟩
 obtain ⟨x2,y2,rfl⟩:∃ x y,u2 = .func (.func x) #[] y:=by obtain ⟨x,y,e,_⟩:=a2; exact ⟨x,y,e⟩
 obtain ⟨x3,y3,rfl⟩:∃ x y,u3 = .func (.func x) #[] y:=by obtain ⟨x,y,e,_⟩:=a3; exact ⟨x,y,e⟩
 have h1:=aa w (.cells #[.func (.func x1) #[] y1] 179);have h2:=h1.alloc h1.size (.cells #[.func (.func x2) #[] y2] 179);have h3:=h2.alloc h2.size (.cells #[.func (.func x3) #[] y3] 179);have q1:(((w.alloc (.cells #[.func (.func x1) #[] y1] 179)).alloc (.cells #[.func (.func x2) #[] y2] 179)).alloc (.cells #[.func (.func x3) #[] y3] 179)).cell? ⟨w.heap.size,0,none⟩=some (.func (.func x1) #[] y1):=by
  rw [su (by simp only [Oy]; omega),su (by simp)]; simp
 have q2:(((w.alloc (.cells #[.func (.func x1) #[] y1] 179)).alloc (.cells #[.func (.func x2) #[] y2] 179)).alloc (.cells #[.func (.func x3) #[] y3] 179)).cell? ⟨w.heap.size+1,0,none⟩=some (.func (.func x2) #[] y2):=by
  rw [su (by simp),Og _ _ _ _ (by simp)]; rfl
 have q3:(((w.alloc (.cells #[.func (.func x1) #[] y1] 179)).alloc (.cells #[.func (.func x2) #[] y2] 179)).alloc (.cells #[.func (.func x3) #[] y3] 179)).cell? ⟨w.heap.size+2,0,none⟩=some (.func (.func x3) #[] y3):=by
  rw [Og _ _ _ _ (by simp)]; rfl
 have z3:(((w.alloc (.cells #[.func (.func x1) #[] y1] 179)).alloc (.cells #[.func (.func x2) #[] y2] 179)).alloc (.cells #[.func (.func x3) #[] y3] 179)).heap.size=w.heap.size+3:=by simp
 have n1:=a1.next (ax.of h3);have n2:=a2.next (ax.of h3);have n3:=a3.next (ax.of h3);clear a1 a2 a3;go_enter Tryz.func209,Tryz.ntmps209;go_wp2
 go_ret;generalize ((w.alloc (.cells #[.func (.func x1) #[] y1] 179)).alloc (.cells #[.func (.func x2) #[] y2] 179)).alloc (.cells #[.func (.func x3) #[] y3] 179)=w3 at *;refine ⟨_,rfl,⟨231,_,rfl,enters_of Tryz.func231 (by kernel_rfl) rfl,?_⟩,h3⟩;intro row a cap W hf hs hW
 exact A4 cols lo f1 f2 f3 _ _ _ w.heap.size a row cap W (by have:=hW.1; omega) ((hW.cell (p:=⟨w.heap.size,0,none⟩) hlo (by show w.heap.size<_; omega)).trans q1) ((hW.cell (p:=⟨w.heap.size+1,0,none⟩) (by show lo≤w.heap.size+1; omega) (by show w.heap.size+1<_; omega)).trans q2) ((hW.cell (p:=⟨w.heap.size+2,0,none⟩) (by show lo≤w.heap.size+2; omega) (by show w.heap.size+2<_; omega)).trans q3) (n1.next hW) (n2.next hW) (n3.next hW) hf hs
section
variable {P:Program} {ops:Array Oper} {Q:Exit→Act→World→Prop} {md:Region.Mode} {W0:World}
def oz (P:Program) (ops:Array Oper) (W0:World) (o:Oper) (v:Value) (a:Act):Prop :=
 (Region.wanted o (yielded ops a.tmps)=true∧∀ n:bW W0,Oper.quietUpon P (fun w'=>Below n.now.heap.size n.now w') n.now v ((execOp a.eval o).run P n.now)) ∨
 (Region.wanted o (yielded ops a.tmps)=false∧v=undef)
theorem oz.of_same {o:Oper} {v:Value} {a a':Act} (hy:oz P ops W0 o v a) (he:execOp a'.eval o=execOp a.eval o)
  (hw:Region.wanted o (yielded ops a'.tmps)=Region.wanted o (yielded ops a.tmps)):oz P ops W0 o v a':=by
 unfold oz at *;rw [he,hw];exact hy
theorem oz.wpOp {i:Nat} {o:Oper} {v:Value} {a:Act} (hi:ops[i]? = some o) (hy:oz P ops W0 o v a)
  {K:Act→World→Prop} {w:World} (hB:Below W0.heap.size W0 w) (h:∀ w',Below w.heap.size w w'→K (a.put o.dst v) w'):wpOp P ops Q i K a w:=by
 unfold Go.wpOp;simp only [hi];rcases hy with ⟨hw,hv⟩ | ⟨hw,rfl⟩
 ·simp only [hw,if_true];left;have h3:=hv ⟨w,hB⟩;unfold Oper.wp;simp only at h3;generalize (execOp a.eval o).run P w=r at *;cases r with
  | ok n w' =>
   cases n <;> simp only [Oper.quietUpon] at h3 <;> simp only [Oper.upon]
   case value u =>
    obtain ⟨e1,e2⟩:=h3;rw [e1,e2];exact h _ (Nk _ _)
   case skip =>
    obtain ⟨e1,e2⟩:=h3;rw [e1,← e2];exact h _ (Nk _ _)
   case enter f args =>
    obtain ⟨e1,hc⟩:=h3;rw [e1];exact hc.mono fun e w'' ⟨he,hw''⟩=>by subst he; exact h _ hw''
  | halt x w'=>simp only [Oper.quietUpon] at h3
 ·simp only [hw,Ox,if_false];exact h _ (Nk _ _)
theorem Du {Φ:Act→Prop} {j:Nat} {oi oj:Oper} {v:Value} (hj:ops[j]? = some oj) (hap:oi.apart ops oj=true)
  (hsj:∀ cs b,oj.op ≠ .select cs b) (hQ:∀ c a w,Q (.panic c) (a.put oi.dst v) w→Q (.panic c) a w)
  (keep:∀ (a:Act),Φ a→∀ u,Φ (a.put oj.dst u)) (keepD:∀ (a:Act) (d:Deferred),Φ a→Φ { a with defers:=d :: a.defers })
  {K:Act→World→Prop} {a:Act} {w:World} (hy:Φ a) (h:wpOp P ops Q j K (a.put oi.dst v) w) :
  wpOp P ops Q j (fun a' w'=>Φ a'∧K (a'.put oi.dst v) w') a w:=by
 obtain ⟨h1,h2,_⟩:=Oper.apart_spec hap;unfold wpOp at *;simp only [hj] at *;rw [wanted_put oj a oi.dst v h1] at h
 split
 ·rename_i hw
  simp only [hw,if_true] at h;rcases h with h | ⟨hasks,hlets⟩
  case inr=>exact .inr ⟨by unfold Oper.asks at *; rw [execOp_put oj hsj a oi.dst v h1] at hasks; exact hasks,hlets⟩
  refine .inl ?_;unfold Oper.wp at *;rw [execOp_put oj hsj a oi.dst v h1] at h;generalize (execOp a.eval oj).run P w=r at *;cases r with
  | ok n w' =>
   cases n <;> simp only [Oper.upon] at h ⊢
   case value u=>exact ⟨keep a hy u,by rw [← Act.put_comm a v u h2]; exact h⟩
   case skip=>exact ⟨keep a hy _,by rw [← Act.put_comm a v undef h2]; exact h⟩
   case defer d =>
    refine ⟨keep _ (keepD a d hy) _,?_⟩;rw [← Act.put_comm _ v undef h2,← Act.put_defers];exact h
   case enter f args =>
    refine Calls.mono h fun e w'' he=>?_
    cases e with
    | returned u=>exact ⟨keep a hy u,by rw [← Act.put_comm a v u h2]; exact he⟩
    | panicked c=>exact hQ _ _ _ he
    | outgrown=>exact he
   case row row args=>exact Rows.mono h fun u w'' he=>⟨keep a hy u,by rw [← Act.put_comm a v u h2]; exact he⟩
  | halt x w' =>
   cases x <;> simp only [Oper.upon] at h ⊢
   case panic u=>exact hQ _ _ _ h
 ·rename_i hw
  simp only [hw] at h;exact ⟨keep a hy _,by rw [← Act.put_comm a v undef h2]; exact h⟩
def BN (P:Program) (md:Region.Mode) (ops:Array Oper) (Q:Exit→Act→World→Prop) (W0:World):Nat→Array Bool→Act→World→Prop
 | 0,listed,a,w=>Region.ready md ops listed = []∧∀ w',Below w.heap.size w w'→Q .normal a w'
 | fuel+1,listed,a,w=>∀ w',Below w.heap.size w w'→(Region.ready md ops listed = []→Q .normal a w') ∧
  ∀ i ∈ Region.ready md ops listed,wpOp P ops Q i (fun a' w''=>Below W0.heap.size W0 w''∧BN P md ops Q W0 fuel (listed.setIfInBounds i true) a' w'') a w'
theorem BN.dX:∀ (fuel:Nat) {listed:Array Bool} {a:Act} {w w1:World},BN P md ops Q W0 fuel listed a w→Below w.heap.size w w1→BN P md ops Q W0 fuel listed a w1
 | 0,_,_,_,_,h,hb=>⟨h.1,fun w' hw'=>h.2 w' (chain hb hw')⟩
 | _+1,_,_,_,_,h,hb=>fun w' hw'=>h w' (chain hb hw')
theorem kO:∀ (fuel:Nat) (listed:Array Bool) (a:Act) (w:World),BN P md ops Q W0 fuel listed a w→wpAny P md ops Q fuel listed a w
 | 0,_,_,_,h=>⟨h.1,h.2 _ (Nk _ _)⟩
 | fuel+1,_,_,w,h=>⟨(h w (Nk _ _)).1,fun i hi=>wpOp_mono (fun a' w' h'=>kO fuel _ a' w' h'.2) ((h w (Nk _ _)).2 i hi)⟩
theorem Ee {i:Nat} {oi:Oper} {v:Value} (hi:ops[i]? = some oi) (hsel:∀ (j:Nat) (o:Oper) cs b,ops[j]? = some o→o.op ≠ .select cs b)
  (hQ:∀ c a w,Q (.panic c) (a.put oi.dst v) w→Q (.panic c) a w) :
  ∀ (fuel:Nat) (listed:Array Bool) (a:Act) (w:World),
   (∀ j oj,ops[j]? = some oj→j≠i→listed.getD j true=false→(∀ e ∈ oj.after,Region.binds md e=true→e.on≠i)→oi.apart ops oj=true) →
   i ∈ Region.ready md ops listed→oz P ops W0 oi v a→Below W0.heap.size W0 w →
   BN P md ops Q W0 fuel (listed.setIfInBounds i true) (a.put oi.dst v) w→BN P md ops Q W0 (fuel+1) listed a w:=by
 intro fuel
 induction fuel with
 | zero =>
  intro listed a w _ hr hy hB H w' hw';refine ⟨fun h=>(by rw [h] at hr; cases hr),fun j hj=>?_⟩;by_cases hji:j=i
  ·subst hji;exact hy.wpOp hi (chain hB hw') fun w'' hw''=>⟨chain (chain hB hw') hw'',H.dX 0 (chain hw' hw'')⟩
  ·have:=ready_mono hj hji;rw [H.1] at this;cases this
 | succ fuel ih =>
  intro listed a w hfree hr hy hB H w' hw';refine ⟨fun h=>(by rw [h] at hr; cases hr),fun j hj=>?_⟩;by_cases hji:j=i
  ·subst hji;exact hy.wpOp hi (chain hB hw') fun w'' hw''=>⟨chain (chain hB hw') hw'',H.dX (fuel+1) (chain hw' hw'')⟩
  ·have h1:=(H w' hw').2 j (ready_mono hj hji);obtain ⟨hjun,oj,hoj,hall⟩:=mem_ready.1 hj;have hnot:∀ e ∈ oj.after,Region.binds md e=true→e.on≠i:=fun e he hb heq=>by
    have h1:=hall e he hb;have h0:=(mem_ready.1 hr).1;rw [heq] at h1;rcases NY i listed.size with h' | h'
    ·simp [h'] at h0 h1; rw [h0] at h1; cases h1
    ·simp [Array.getElem?_eq_none h'] at h1
   have hap:=hfree j oj hoj hji hjun hnot;obtain ⟨_,_,h3⟩:=Oper.apart_spec hap;have h2:=Du (Φ:=oz P ops W0 oi v) hoj hap (fun cs b=>hsel j oj cs b hoj) hQ
    (fun a hy u=>hy.of_same (execOp_put oi (fun cs b=>hsel i oi cs b hi) a oj.dst u h3) (wanted_put oi a oj.dst u h3)) (fun a d hy=>hy.of_same rfl rfl) hy h1
   have hfree':∀ k ok,ops[k]? = some ok→k≠i→(listed.setIfInBounds j true).getD k true=false →
     (∀ e ∈ ok.after,Region.binds md e=true→e.on≠i)→oi.apart ops ok=true:=fun k ok hk hki hun hno=>by
    refine hfree k ok hk hki ?_ hno;by_cases hjk:j=k
    ·subst hjk; exact hjun
    ·rw [getD_set_ne true hjk] at hun; exact hun
   refine wpOp_mono (fun a' w'' h4=>⟨h4.2.1,ih (listed.setIfInBounds j true) a' w'' hfree' (ready_mono hr (Ne.symm hji)) h4.1 h4.2.1 ?_⟩) h2;rw [Array.setIfInBounds_comm _ _ hji];exact h4.2.2
theorem aO {i:Nat} {oi:Oper} {v:Value} {fuel:Nat} {listed:Array Bool} {a:Act} {w:World} (d:Option Tmp) (hi:ops[i]? = some oi) (hd:oi.dst=d)
  (hs:Region.noSelect ops=true) (hf:Region.free md ops listed i=true) (hr:(Region.ready md ops listed).contains i=true)
  (hQ:∀ c a w,Q (.panic c) (a.put oi.dst v) w→Q (.panic c) a w) (hy:oz P ops W0 oi v a) (hB:Below W0.heap.size W0 w)
  (h:BN P md ops Q W0 fuel (listed.setIfInBounds i true) (a.put d v) w):BN P md ops Q W0 (fuel+1) listed a w:=by
 subst hd;exact Ee hi (Region.noSelect_spec hs) hQ fuel listed a w (Region.free_spec hi hf) (by simpa using hr) hy hB h
theorem gd {rs:List Nat} {fuel:Nat} {listed:Array Bool} {a:Act} {w:World} (hr:Region.ready md ops listed=rs) (hne:rs ≠ [])
  (h:∀ w',Below w.heap.size w w'→∀ i ∈ rs,wpOp P ops Q i (fun a' w''=>Below W0.heap.size W0 w''∧BN P md ops Q W0 fuel (listed.setIfInBounds i true) a' w'') a w'):BN P md ops Q W0 (fuel+1) listed a w :=
 fun w' hw'=>⟨fun h0=>absurd (hr ▸ h0) hne,hr ▸ h w' hw'⟩
theorem nW {listed:Array Bool} {a:Act} {w:World} (hr:Region.ready md ops listed = []) (h:∀ w',Below w.heap.size w w'→Q .normal a w'):BN P md ops Q W0 0 listed a w:=⟨hr,h⟩
theorem tq {id:Nat} {a:Act} {w:World} (W0:World) (hm:P.follows .mixedOrders=true)
  (h:BN P .any ops Q W0 ops.size (Array.replicate ops.size false) a w.drew):(Code.region id ops true).wp P Q a w :=
 wp_region_any hm (kO _ _ _ _ h)
theorem jI {id:Nat} {a:Act} {w:World} (hm:P.follows .mixedOrders=true)
  (h:BN P .any ops Q w ops.size (Array.replicate ops.size false) a w.drew):(Code.region id ops true).wp P Q a w :=
 wp_region_any hm (kO _ _ _ _ h)
end
def jP (cols:List Int) (lo:Nat) (W:World) (kb:Nat) (ks:List Ex):Prop :=
 ∃ K,lo≤kb∧kb<W.heap.size∧lo≤K∧K<W.heap.size∧W.cell? ⟨kb,0,none⟩=some (.slice (some ⟨K,0,none⟩) ks.length ks.length) ∧
  ∀ (i:Nat) (h:i<ks.length),∃ u,W.cell? ⟨K,i,none⟩=some u∧fX cols lo u (fun row=>bB row ks[i]) W
theorem jP.next {cols:List Int} {lo:Nat} {W w1:World} {kb:Nat} {ks:List Ex} (h:jP cols lo W kb ks) (hb:ax lo W w1):jP cols lo w1 kb ks:=by
 obtain ⟨K,h1,h2,h3,h4,h5,h6⟩:=h;refine ⟨K,h1,Nn h2 hb.1,h3,Nn h4 hb.1,(hb.cell (p:=⟨kb,0,none⟩) h1 h2).trans h5,fun i hi=>?_⟩;obtain ⟨u,c,a⟩:=h6 i hi;exact ⟨u,(hb.cell (p:=⟨K,i,none⟩) h3 h4).trans c,a.next hb⟩
theorem EY (cols:List Int) (lo:Nat) (kb:Nat) (ks:List Ex) (a:Option Addr) (row:List Vl) (cap:Nat) (W:World) (hK:jP cols lo W kb ks) (hn:0<ks.length) (hf:cL cols row) (hs:aM W a row) :
  Calls Tryz.prog 205 #[.slice a row.length cap,.pointer (some ⟨kb,0,none⟩)] W fun e w'=>e = .returned (fW (oX (bB row ks[0])))∧Below W.heap.size W w':=by
 have hal:=aa W (.cells #[.int .i64 0,.int .i64 0,.string ⟨#[]⟩] 24);have R:=gH.new W (.int .i64 0) (.int .i64 0) (.string ⟨#[]⟩) 24;obtain ⟨K,k1,k2,k3,k4,k5,k6⟩:=hK.next (ax.of hal);obtain ⟨u0,c0,a0⟩:=k6 0 hn;obtain ⟨g,cb,rfl,eg,d⟩:=a0;have d:=d row a cap _ hf (hs.next hal) (ax.refl _ _);dsimp only at d;have hn':(0:Int)<(ks.length:Int):=by omega
 have e:oX (bB row ks[0])=(tk (rH (cls (bB row ks[0]).1 (bB row ks[0]).2.1)),tn (rH (cls (bB row ks[0]).1 (bB row ks[0]).2.1)),⟨#[]⟩):=rfl;rw [e];clear e k6 hK;generalize bB row ks[0]=v0 at *;go_enter Tryz.func205,Tryz.ntmps205;go_wp2_with (go_at_fn g; refine d.mono ?_; rintro e w1 ⟨rfl,hb1⟩)
 have hA:=chain hal hb1;have R:=R.next hb1;clear d c0 k5;go_wp2_with fail
 refine (CL _ _ _ _).mono ?_;rintro e w2 ⟨rfl,hb2⟩;have hA:=chain hA hb2;have ⟨r0,r1,r2,r3,r4,r5,r6⟩:=R.next hb2;go_wp2
 exact Nl (v:=.agg #[.int .i64 (tk (rH (cls v0.1 v0.2.1))),.int .i64 (tn (rH (cls v0.1 v0.2.1))),.string ⟨#[]⟩]) (by simp [results,Tryz.results205,go_sem,r1,r2,r3]) rfl ⟨rfl,aD hA (Nj _)⟩
theorem Dh (cols:List Int) (lo:Nat) (kb:Nat) (ks:List Ex) (a:Option Addr) (row:List Vl) (cap:Nat) (W:World) (hK:jP cols lo W kb ks) (hn:0<ks.length) (hf:cL cols row) (hs:aM W a row) :
  Calls Tryz.prog 207 #[.slice a row.length cap,.pointer (some ⟨kb,0,none⟩)] W fun e w'=>e = .returned (fW (zT (some ((bB row ks[0]).1 == 1))))∧Below W.heap.size W w':=by
 have hal:=aa W (.cells #[.int .i64 0,.int .i64 0,.string ⟨#[]⟩] 24);have R:=gH.new W (.int .i64 0) (.int .i64 0) (.string ⟨#[]⟩) 24;obtain ⟨K,k1,k2,k3,k4,k5,k6⟩:=hK.next (ax.of hal);obtain ⟨u0,c0,a0⟩:=k6 0 hn;obtain ⟨g,cb,rfl,eg,d⟩:=a0;have d:=d row a cap _ hf (hs.next hal) (ax.refl _ _);dsimp only at d;have hn':(0:Int)<(ks.length:Int):=by omega
 have e:zT (some ((bB row ks[0]).1 == 1))=(2,tn (some ((bB row ks[0]).1 == 1)),⟨#[]⟩):=rfl;rw [e];clear e k6 hK;generalize bB row ks[0]=v0 at *;go_enter Tryz.func207,Tryz.ntmps207;go_wp2_with (go_at_fn g; refine d.mono ?_; rintro e w1 ⟨rfl,hb1⟩)
 have hA:=chain hal hb1;have R:=R.next hb1;clear d c0 k5;go_wp2_with fail
 refine (pJ _ _ _ _).mono ?_;rintro e w2 ⟨rfl,hb2⟩;have hA:=chain hA hb2;have R:=R.next hb2;go_wp2_with fail
 refine (rE _ _).mono ?_;rintro e w3 ⟨rfl,hb3⟩;have hA:=chain hA hb3;have ⟨r0,r1,r2,r3,r4,r5,r6⟩:=R.next hb3;go_wp2
 exact Nl (v:=.agg #[.int .i64 2,.int .i64 (tn (some (v0.1 == 1))),.string ⟨#[]⟩]) (by simp [results,Tryz.results207,go_sem,r1,r2,r3]) rfl ⟨rfl,aD hA (Nj _)⟩
theorem DM (cols:List Int) (lo:Nat) (kb db:Nat) (k:Int) (ks:List Ex) (a:Option Addr) (row:List Vl) (cap:Nat) (W:World) (ud:Value) (cd:W.cell? ⟨db,0,none⟩=some ud) (F:tS lo ud (qD k) W)
  (hK:jP cols lo W kb ks) (hn:1<ks.length) (hf:cL cols row) (hs:aM W a row) (g0:aY (bB row ks[0])=0) (g1:aY (bB row ks[1])=0) :
  Calls Tryz.prog 211 #[.slice a row.length cap,.pointer (some ⟨db,0,none⟩),.pointer (some ⟨kb,0,none⟩)] W fun e w'=>e = .returned (fW (qD k (bB row ks[0]) (bB row ks[1])))∧Below W.heap.size W w':=by
 have hal:=aa W (.cells #[.int .i64 0,.int .i64 0,.string ⟨#[]⟩] 24);have R:=gH.new W (.int .i64 0) (.int .i64 0) (.string ⟨#[]⟩) 24;obtain ⟨K,k1,k2,k3,k4,k5,k6⟩:=hK;obtain ⟨u0,c0,a0⟩:=k6 0 (by omega);obtain ⟨u1,c1,a1⟩:=k6 1 hn;obtain ⟨h0,cb0,rfl,eg0,d0⟩:=a0;obtain ⟨h1,cb1,rfl,eg1,d1⟩:=a1;obtain ⟨h2,cb2,rfl,eg2,d2⟩:=F;have d0:=fun n:bW W=>d0 row a cap n.now hf (hs.next n.ok) (ax.of n.ok)
 have d1:=fun n:bW W=>d1 row a cap n.now hf (hs.next n.ok) (ax.of n.ok)
 dsimp only at d0 d1;have d2:=fun n:bW W=>d2 (bB row ks[0]) (bB row ks[1]) n.now g0 g1 (ax.of n.ok)
 have n0:0<ks.length:=by omega
 have l0:(0:Int)<(ks.length:Int):=by omega
 have l1:(1:Int)<(ks.length:Int):=by omega
 have p0:=ag cd;have p1:=ag k5;have p2:=ag c0;have p3:=ag c1;generalize hr:qD k (bB row ks[0]) (bB row ks[1])=r at *;generalize bB row ks[0]=v0 at *;generalize bB row ks[1]=v1 at *;clear k6 hr;go_enter Tryz.func211,Tryz.ntmps211;go_wp2_with fail
 generalize W.alloc (.cells #[.int .i64 0,.int .i64 0,.string ⟨#[]⟩] 24)=w0 at *;have hB0:Below W.heap.size W w0.drew:=hal.drew;refine tq W (by kernel_rfl) ?_;refine aO (some 5) (i:=0) (v:=.func (.func h2) #[] cb2) rfl rfl (by kernel_rfl) (by kernel_rfl) (by kernel_rfl) (fun _ _ _ h=>h) (Or.inl ⟨rfl,fun n=>?_⟩) hB0 ?_
 ·go_simp
 simp only [Act.put,pA,pB,pC];refine aO (some 6) (i:=1) (v:=.slice (some ⟨K,0,none⟩) ks.length ks.length) rfl rfl (by kernel_rfl) (by kernel_rfl) (by kernel_rfl) (fun _ _ _ h=>h) (Or.inl ⟨rfl,fun n=>?_⟩) hB0 ?_
 ·go_simp
 simp only [Act.put,pA,pB,pC];refine aO (some 7) (i:=2) (v:=.pointer (some ⟨K,0,none⟩)) rfl rfl (by kernel_rfl) (by kernel_rfl) (by kernel_rfl) (fun _ _ _ h=>h) (Or.inl ⟨rfl,fun n=>?_⟩) hB0 ?_
 ·go_simp
 simp only [Act.put,pA,pB,pC];refine aO (some 8) (i:=3) (v:=.func (.func h0) #[] cb0) rfl rfl (by kernel_rfl) (by kernel_rfl) (by kernel_rfl) (fun _ _ _ h=>h) (Or.inl ⟨rfl,fun n=>?_⟩) hB0 ?_
 ·go_simp
 simp only [Act.put,pA,pB,pC];refine aO (some 9) (i:=4) (v:=.slice a row.length cap) rfl rfl (by kernel_rfl) (by kernel_rfl) (by kernel_rfl) (fun _ _ _ h=>h) (Or.inl ⟨rfl,fun n=>?_⟩) hB0 ?_
 ·go_simp
 simp only [Act.put,pA,pB,pC];refine aO (some 11) (i:=6) (v:=.slice (some ⟨K,0,none⟩) ks.length ks.length) rfl rfl (by kernel_rfl) (by kernel_rfl) (by kernel_rfl) (fun _ _ _ h=>h) (Or.inl ⟨rfl,fun n=>?_⟩) hB0 ?_
 ·go_simp
 simp only [Act.put,pA,pB,pC];refine aO (some 12) (i:=7) (v:=.pointer (some ⟨K,1,none⟩)) rfl rfl (by kernel_rfl) (by kernel_rfl) (by kernel_rfl) (fun _ _ _ h=>h) (Or.inl ⟨rfl,fun n=>?_⟩) hB0 ?_
 ·go_simp
 simp only [Act.put,pA,pB,pC];refine aO (some 13) (i:=8) (v:=.func (.func h1) #[] cb1) rfl rfl (by kernel_rfl) (by kernel_rfl) (by kernel_rfl) (fun _ _ _ h=>h) (Or.inl ⟨rfl,fun n=>?_⟩) hB0 ?_
 ·go_simp
 simp only [Act.put,pA,pB,pC];refine aO (some 14) (i:=9) (v:=.slice a row.length cap) rfl rfl (by kernel_rfl) (by kernel_rfl) (by kernel_rfl) (fun _ _ _ h=>h) (Or.inl ⟨rfl,fun n=>?_⟩) hB0 ?_
 ·go_simp
 simp only [Act.put,pA,pB,pC];refine aO (some 10) (i:=5) (v:=fW v0) rfl rfl (by kernel_rfl) (by kernel_rfl) (by kernel_rfl) (fun _ _ _ h=>h) (Or.inl ⟨rfl,fun n=>?_⟩) hB0 ?_
 ·go_simp
 simp only [Act.put,pA,pB,pC];refine aO (some 15) (i:=10) (v:=fW v1) rfl rfl (by kernel_rfl) (by kernel_rfl) (by kernel_rfl) (fun _ _ _ h=>h) (Or.inl ⟨rfl,fun n=>?_⟩) hB0 ?_
 ·go_simp
 simp only [Act.put,pA,pB,pC];refine aO (some 16) (i:=11) (v:=fW r) rfl rfl (by kernel_rfl) (by kernel_rfl) (by kernel_rfl) (fun _ _ _ h=>h) (Or.inl ⟨rfl,fun n=>?_⟩) hB0 ?_
 ·go_simp
 simp only [Act.put,pA,pB,pC];clear p0 p1 p2 p3 d0 d1 d2;refine gd (rs:=[12]) (by kernel_rfl) (by simp) ?_;intro w12 hb12 j hj;obtain rfl:j=12:=by simpa using hj
 clear hj;have D12:=hB0.trans (hb12.mono hB0.size);have R12:=(R.next ((Nk _ _).drew)).next hb12;have P12:=R12.LX (.int .i64 r.1) (.int .i64 r.2.1) (.string r.2.2);have ⟨b0,b1,b2,b3,b4,b5,b6⟩:=R12;refine wpOp_step rfl (fun K hK=>?_);go_simp;refine hK _ _ ⟨aD D12 (Nj _),?_⟩;clear hK K;refine nW (by kernel_rfl) ?_;intro w13 hb13;have D13:=(aD D12 (Nj _) (x:=.int .i64 r.1) (y:=.int .i64 r.2.1) (z:=.string r.2.2)).trans (hb13.mono (aD D12 (Nj _)).size);have ⟨g0,g1,g2,g3,g4,g5,g6⟩:=P12.next hb13;clear b0 b1 b2 b3 b4 b5 b6
 go_wp2
 exact Nl (v:=fW r) (by simp [results,Tryz.results211,go_sem,g1,g2,g3]) rfl ⟨rfl,D13⟩
theorem Bb (B:Nat) (a:Option Addr) (cap:Nat) (ts:List Int) (w:World) (hB:B≤w.heap.size) (h:bc B w a ts) :
  Calls Tryz.prog 226 #[.int .i64 3,.slice a ts.length cap] w fun e w'=>e = .returned (.tuple #[.int .i64 (bU (cG 2 ts)).1,.int .i64 (bU (cG 2 ts)).2])∧Below w.heap.size w w':=by
 have con:=i7 2 B a cap ts w hB h;generalize bU (cG 2 ts)=r at *;generalize ts.length=n at *;clear h;go_enter Tryz.func226,Tryz.ntmps226;go_wp2_with fail
 refine con.mono ?_;rintro e w1 ⟨rfl,hb1⟩;go_wp2
 exact Nl (v:=.tuple #[.int .i64 r.1,.int .i64 r.2]) (by simp [results,Tryz.results226,go_sem]) rfl ⟨rfl,hb1⟩
theorem Bd (B:Nat) (a:Option Addr) (cap:Nat) (ts:List Int) (w:World) (hB:B≤w.heap.size) (h:bc B w a ts) :
  Calls Tryz.prog 226 #[.int .i64 4,.slice a ts.length cap] w fun e w'=>e = .returned (.tuple #[.int .i64 (bU (cG 2 ts)).1,.int .i64 (bU (cG 2 ts)).2])∧Below w.heap.size w w':=by
 have con:=i7 2 B a cap ts w hB h;generalize bU (cG 2 ts)=r at *;generalize ts.length=n at *;clear h;go_enter Tryz.func226,Tryz.ntmps226;go_wp2_with fail
 refine con.mono ?_;rintro e w1 ⟨rfl,hb1⟩;go_wp2
 exact Nl (v:=.tuple #[.int .i64 r.1,.int .i64 r.2]) (by simp [results,Tryz.results226,go_sem]) rfl ⟨rfl,hb1⟩
theorem Bw (B:Nat) (a:Option Addr) (cap:Nat) (ts:List Int) (w:World) (hB:B≤w.heap.size) (h:bc B w a ts) :
  Calls Tryz.prog 226 #[.int .i64 5,.slice a ts.length cap] w fun e w'=>e = .returned (.tuple #[.int .i64 (bU (cG 2 ts)).1,.int .i64 (bU (cG 2 ts)).2])∧Below w.heap.size w w':=by
 have con:=i7 2 B a cap ts w hB h;generalize bU (cG 2 ts)=r at *;generalize ts.length=n at *;clear h;go_enter Tryz.func226,Tryz.ntmps226;go_wp2_with fail
 refine con.mono ?_;rintro e w1 ⟨rfl,hb1⟩;go_wp2
 exact Nl (v:=.tuple #[.int .i64 r.1,.int .i64 r.2]) (by simp [results,Tryz.results226,go_sem]) rfl ⟨rfl,hb1⟩
theorem yA (B:Nat) (a:Option Addr) (cap:Nat) (ts:List Int) (w:World) (hB:B≤w.heap.size) (h:bc B w a ts) :
  Calls Tryz.prog 226 #[.int .i64 12,.slice a ts.length cap] w fun e w'=>e = .returned (.tuple #[.int .i64 (bU (cG 3 ts)).1,.int .i64 (bU (cG 3 ts)).2])∧Below w.heap.size w w':=by
 have con:=i7 3 B a cap ts w hB h;generalize bU (cG 3 ts)=r at *;generalize ts.length=n at *;clear h;go_enter Tryz.func226,Tryz.ntmps226;go_wp2_with fail
 refine con.mono ?_;rintro e w1 ⟨rfl,hb1⟩;go_wp2
 exact Nl (v:=.tuple #[.int .i64 r.1,.int .i64 r.2]) (by simp [results,Tryz.results226,go_sem]) rfl ⟨rfl,hb1⟩
theorem yb (B:Nat) (a:Option Addr) (cap:Nat) (ts:List Int) (w:World) (hB:B≤w.heap.size) (h:bc B w a ts) :
  Calls Tryz.prog 226 #[.int .i64 13,.slice a ts.length cap] w fun e w'=>e = .returned (.tuple #[.int .i64 (bU (cG 3 ts)).1,.int .i64 (bU (cG 3 ts)).2])∧Below w.heap.size w w':=by
 have con:=i7 3 B a cap ts w hB h;generalize bU (cG 3 ts)=r at *;generalize ts.length=n at *;clear h;go_enter Tryz.func226,Tryz.ntmps226;go_wp2_with fail
 refine con.mono ?_;rintro e w1 ⟨rfl,hb1⟩;go_wp2
 exact Nl (v:=.tuple #[.int .i64 r.1,.int .i64 r.2]) (by simp [results,Tryz.results226,go_sem]) rfl ⟨rfl,hb1⟩
theorem yT (B:Nat) (a:Option Addr) (cap:Nat) (ts:List Int) (w:World) (hB:B≤w.heap.size) (h:bc B w a ts) :
  Calls Tryz.prog 226 #[.int .i64 14,.slice a ts.length cap] w fun e w'=>e = .returned (.tuple #[.int .i64 (bU (cG 3 ts)).1,.int .i64 (bU (cG 3 ts)).2])∧Below w.heap.size w w':=by
 have con:=i7 3 B a cap ts w hB h;generalize bU (cG 3 ts)=r at *;generalize ts.length=n at *;clear h;go_enter Tryz.func226,Tryz.ntmps226;go_wp2_with fail
 refine con.mono ?_;rintro e w1 ⟨rfl,hb1⟩;go_wp2
 exact Nl (v:=.tuple #[.int .i64 r.1,.int .i64 r.2]) (by simp [results,Tryz.results226,go_sem]) rfl ⟨rfl,hb1⟩
theorem yk (B:Nat) (a:Option Addr) (cap:Nat) (ts:List Int) (w:World) (hB:B≤w.heap.size) (h:bc B w a ts) :
  Calls Tryz.prog 226 #[.int .i64 15,.slice a ts.length cap] w fun e w'=>e = .returned (.tuple #[.int .i64 (bU (cG 4 ts)).1,.int .i64 (bU (cG 4 ts)).2])∧Below w.heap.size w w':=by
 have con:=i7 4 B a cap ts w hB h;generalize bU (cG 4 ts)=r at *;generalize ts.length=n at *;clear h;go_enter Tryz.func226,Tryz.ntmps226;go_wp2_with fail
 refine con.mono ?_;rintro e w1 ⟨rfl,hb1⟩;go_wp2
 exact Nl (v:=.tuple #[.int .i64 r.1,.int .i64 r.2]) (by simp [results,Tryz.results226,go_sem]) rfl ⟨rfl,hb1⟩
theorem yH (a:Option Addr) (n cap:Nat) (w:World) :
  Calls Tryz.prog 226 #[.int .i64 16,.slice a n cap] w fun e w'=>e = .returned (.tuple #[.int .i64 2,.int .i64 0])∧Below w.heap.size w w':=by
 go_enter Tryz.func226,Tryz.ntmps226;go_wp2
 exact Nl (v:=.tuple #[.int .i64 2,.int .i64 0]) (by simp [results,Tryz.results226,go_sem]) rfl ⟨rfl,Nk _ _⟩
theorem Bo (b off cap:Nat) (x y:Int) (w:World) (c0:w.cell? ⟨b,off,none⟩=some (.int .i64 x)) (c1:w.cell? ⟨b,off+1,none⟩=some (.int .i64 y)) (r:Int × Int) (er:r=if (bI x y).2=0 then (2,0) else (0,(bI x y).2)) :
  Calls Tryz.prog 226 #[.int .i64 6,.slice (some ⟨b,off,none⟩) 2 cap] w fun e w'=>e = .returned (.tuple #[.int .i64 r.1,.int .i64 r.2])∧Below w.heap.size w w':=by
 have p0:=ag c0;have p1:=ag c1;haveI:Nonempty (bW w):=⟨⟨_,Nk _ _⟩⟩
 go_enter Tryz.func226,Tryz.ntmps226;go_wp2_with fail
 refine aq (by kernel_rfl) (by kernel_rfl) ?_
 repeat (go_big_quiet_step (first | (go_at_call 173; exact bE (cA x y _))))
 refine wpQuiet_nil ?_;rintro w3 ⟨⟨v3,hb3⟩,h3⟩;obtain rfl:w3=v3:=h3;clear p0 p1 c0 c1;generalize bI x y=t at *;obtain ⟨t1,t2⟩:=t;by_cases h0:t2=0
 ·subst h0;simp only [if_true] at er;subst er;go_wp2
  exact Nl (v:=.tuple #[.int .i64 2,.int .i64 0]) (by simp [results,Tryz.results226,go_sem]) rfl ⟨rfl,hb3⟩
 ·simp only [h0,if_false] at er;subst er;have q:(t2 != 0)=true:=by simpa using h0
  go_wp2
  exact Nl (v:=.tuple #[.int .i64 0,.int .i64 t2]) (by simp [results,Tryz.results226,go_sem]) rfl ⟨rfl,hb3⟩
theorem Ac (b off cap:Nat) (x y:Int) (w:World) (c0:w.cell? ⟨b,off,none⟩=some (.int .i64 x)) (c1:w.cell? ⟨b,off+1,none⟩=some (.int .i64 y)) (r:Int × Int) (er:r=if (bI x y).2=0 then (2,0) else (0,(bI x y).2)) :
  Calls Tryz.prog 226 #[.int .i64 7,.slice (some ⟨b,off,none⟩) 2 cap] w fun e w'=>e = .returned (.tuple #[.int .i64 r.1,.int .i64 r.2])∧Below w.heap.size w w':=by
 have p0:=ag c0;have p1:=ag c1;haveI:Nonempty (bW w):=⟨⟨_,Nk _ _⟩⟩
 go_enter Tryz.func226,Tryz.ntmps226;go_wp2_with fail
 refine aq (by kernel_rfl) (by kernel_rfl) ?_
 repeat (go_big_quiet_step (first | (go_at_call 173; exact bE (cA x y _))))
 refine wpQuiet_nil ?_;rintro w3 ⟨⟨v3,hb3⟩,h3⟩;obtain rfl:w3=v3:=h3;clear p0 p1 c0 c1;generalize bI x y=t at *;obtain ⟨t1,t2⟩:=t;by_cases h0:t2=0
 ·subst h0;simp only [if_true] at er;subst er;go_wp2
  exact Nl (v:=.tuple #[.int .i64 2,.int .i64 0]) (by simp [results,Tryz.results226,go_sem]) rfl ⟨rfl,hb3⟩
 ·simp only [h0,if_false] at er;subst er;have q:(t2 != 0)=true:=by simpa using h0
  go_wp2
  exact Nl (v:=.tuple #[.int .i64 0,.int .i64 t2]) (by simp [results,Tryz.results226,go_sem]) rfl ⟨rfl,hb3⟩
theorem AY (b off cap:Nat) (x y:Int) (w:World) (c0:w.cell? ⟨b,off,none⟩=some (.int .i64 x)) (c1:w.cell? ⟨b,off+1,none⟩=some (.int .i64 y)) (r:Int × Int) (er:r=if (bI x y).2=0 then (2,0) else (0,(bI x y).2)) :
  Calls Tryz.prog 226 #[.int .i64 8,.slice (some ⟨b,off,none⟩) 2 cap] w fun e w'=>e = .returned (.tuple #[.int .i64 r.1,.int .i64 r.2])∧Below w.heap.size w w':=by
 have p0:=ag c0;have p1:=ag c1;haveI:Nonempty (bW w):=⟨⟨_,Nk _ _⟩⟩
 go_enter Tryz.func226,Tryz.ntmps226;go_wp2_with fail
 refine aq (by kernel_rfl) (by kernel_rfl) ?_
 repeat (go_big_quiet_step (first | (go_at_call 173; exact bE (cA x y _))))
 refine wpQuiet_nil ?_;rintro w3 ⟨⟨v3,hb3⟩,h3⟩;obtain rfl:w3=v3:=h3;clear p0 p1 c0 c1;generalize bI x y=t at *;obtain ⟨t1,t2⟩:=t;by_cases h0:t2=0
 ·subst h0;simp only [if_true] at er;subst er;go_wp2
  exact Nl (v:=.tuple #[.int .i64 2,.int .i64 0]) (by simp [results,Tryz.results226,go_sem]) rfl ⟨rfl,hb3⟩
 ·simp only [h0,if_false] at er;subst er;have q:(t2 != 0)=true:=by simpa using h0
  go_wp2
  exact Nl (v:=.tuple #[.int .i64 0,.int .i64 t2]) (by simp [results,Tryz.results226,go_sem]) rfl ⟨rfl,hb3⟩
theorem AI (b off cap:Nat) (x y:Int) (w:World) (c0:w.cell? ⟨b,off,none⟩=some (.int .i64 x)) (c1:w.cell? ⟨b,off+1,none⟩=some (.int .i64 y)) (r:Int × Int) (er:r=if (bI x y).2=0 then (2,0) else (0,(bI x y).2)) :
  Calls Tryz.prog 226 #[.int .i64 9,.slice (some ⟨b,off,none⟩) 2 cap] w fun e w'=>e = .returned (.tuple #[.int .i64 r.1,.int .i64 r.2])∧Below w.heap.size w w':=by
 have p0:=ag c0;have p1:=ag c1;haveI:Nonempty (bW w):=⟨⟨_,Nk _ _⟩⟩
 go_enter Tryz.func226,Tryz.ntmps226;go_wp2_with fail
 refine aq (by kernel_rfl) (by kernel_rfl) ?_
 repeat (go_big_quiet_step (first | (go_at_call 173; exact bE (cA x y _))))
 refine wpQuiet_nil ?_;rintro w3 ⟨⟨v3,hb3⟩,h3⟩;obtain rfl:w3=v3:=h3;clear p0 p1 c0 c1;generalize bI x y=t at *;obtain ⟨t1,t2⟩:=t;by_cases h0:t2=0
 ·subst h0;simp only [if_true] at er;subst er;go_wp2
  exact Nl (v:=.tuple #[.int .i64 2,.int .i64 0]) (by simp [results,Tryz.results226,go_sem]) rfl ⟨rfl,hb3⟩
 ·simp only [h0,if_false] at er;subst er;have q:(t2 != 0)=true:=by simpa using h0
  go_wp2
  exact Nl (v:=.tuple #[.int .i64 0,.int .i64 t2]) (by simp [results,Tryz.results226,go_sem]) rfl ⟨rfl,hb3⟩
theorem zo (b off cap:Nat) (x y:Int) (w:World) (c0:w.cell? ⟨b,off,none⟩=some (.int .i64 x)) (c1:w.cell? ⟨b,off+1,none⟩=some (.int .i64 y)) (r:Int × Int) (er:r=if (bI x y).2=0 then (2,0) else (0,(bI x y).2)) :
  Calls Tryz.prog 226 #[.int .i64 10,.slice (some ⟨b,off,none⟩) 2 cap] w fun e w'=>e = .returned (.tuple #[.int .i64 r.1,.int .i64 r.2])∧Below w.heap.size w w':=by
 have p0:=ag c0;have p1:=ag c1;haveI:Nonempty (bW w):=⟨⟨_,Nk _ _⟩⟩
 go_enter Tryz.func226,Tryz.ntmps226;go_wp2_with fail
 refine aq (by kernel_rfl) (by kernel_rfl) ?_
 repeat (go_big_quiet_step (first | (go_at_call 173; exact bE (cA x y _))))
 refine wpQuiet_nil ?_;rintro w3 ⟨⟨v3,hb3⟩,h3⟩;obtain rfl:w3=v3:=h3;clear p0 p1 c0 c1;generalize bI x y=t at *;obtain ⟨t1,t2⟩:=t;by_cases h0:t2=0
 ·subst h0;simp only [if_true] at er;subst er;go_wp2
  exact Nl (v:=.tuple #[.int .i64 2,.int .i64 0]) (by simp [results,Tryz.results226,go_sem]) rfl ⟨rfl,hb3⟩
 ·simp only [h0,if_false] at er;subst er;have q:(t2 != 0)=true:=by simpa using h0
  go_wp2
  exact Nl (v:=.tuple #[.int .i64 0,.int .i64 t2]) (by simp [results,Tryz.results226,go_sem]) rfl ⟨rfl,hb3⟩
theorem zP (b off cap:Nat) (x y:Int) (w:World) (c0:w.cell? ⟨b,off,none⟩=some (.int .i64 x)) (c1:w.cell? ⟨b,off+1,none⟩=some (.int .i64 y)) (r:Int × Int) (er:r=if (bI x y).2=0 then (2,0) else (0,(bI x y).2)) :
  Calls Tryz.prog 226 #[.int .i64 11,.slice (some ⟨b,off,none⟩) 2 cap] w fun e w'=>e = .returned (.tuple #[.int .i64 r.1,.int .i64 r.2])∧Below w.heap.size w w':=by
 have p0:=ag c0;have p1:=ag c1;haveI:Nonempty (bW w):=⟨⟨_,Nk _ _⟩⟩
 go_enter Tryz.func226,Tryz.ntmps226;go_wp2_with fail
 refine aq (by kernel_rfl) (by kernel_rfl) ?_
 repeat (go_big_quiet_step (first | (go_at_call 173; exact bE (cA x y _))))
 refine wpQuiet_nil ?_;rintro w3 ⟨⟨v3,hb3⟩,h3⟩;obtain rfl:w3=v3:=h3;clear p0 p1 c0 c1;generalize bI x y=t at *;obtain ⟨t1,t2⟩:=t;by_cases h0:t2=0
 ·subst h0;simp only [if_true] at er;subst er;go_wp2
  exact Nl (v:=.tuple #[.int .i64 2,.int .i64 0]) (by simp [results,Tryz.results226,go_sem]) rfl ⟨rfl,hb3⟩
 ·simp only [h0,if_false] at er;subst er;have q:(t2 != 0)=true:=by simpa using h0
  go_wp2
  exact Nl (v:=.tuple #[.int .i64 0,.int .i64 t2]) (by simp [results,Tryz.results226,go_sem]) rfl ⟨rfl,hb3⟩
theorem yn (b off cap:Nat) (x y:Int) (w:World) (c0:w.cell? ⟨b,off,none⟩=some (.int .i64 x)) (c1:w.cell? ⟨b,off+1,none⟩=some (.int .i64 y)) :
  Calls Tryz.prog 226 #[.int .i64 18,.slice (some ⟨b,off,none⟩) 2 cap] w fun e w'=>e = .returned (.tuple #[.int .i64 (bI x y).1,.int .i64 (bI x y).2])∧Below w.heap.size w w':=by
 have p0:=ag c0;have p1:=ag c1;haveI:Nonempty (bW w):=⟨⟨_,Nk _ _⟩⟩
 go_enter Tryz.func226,Tryz.ntmps226;go_wp2_with fail
 refine aq (by kernel_rfl) (by kernel_rfl) ?_
 repeat (go_big_quiet_step (first | (go_at_call 173; exact bE (cA x y _))))
 refine wpQuiet_nil ?_;rintro w3 ⟨⟨v3,hb3⟩,h3⟩;obtain rfl:w3=v3:=h3;go_wp2
 exact Nl (v:=.tuple #[.int .i64 (bI x y).1,.int .i64 (bI x y).2]) (by simp [results,Tryz.results226,go_sem]) rfl ⟨rfl,hb3⟩
theorem xG (b off cap:Nat) (x y z:Int) (w:World) (hb:b<w.heap.size) (c0:w.cell? ⟨b,off,none⟩=some (.int .i64 x)) (c1:w.cell? ⟨b,off+1,none⟩=some (.int .i64 y)) (c2:w.cell? ⟨b,off+2,none⟩=some (.int .i64 z)) (r:Int × Int) (er:r=if (bI x 2).2=0 then bI y z else (0,(bI x 2).2)) :
  Calls Tryz.prog 226 #[.int .i64 17,.slice (some ⟨b,off,none⟩) 3 cap] w fun e w'=>e = .returned (.tuple #[.int .i64 r.1,.int .i64 r.2])∧Below w.heap.size w w':=by
 go_enter Tryz.func226,Tryz.ntmps226;go_wp2_with fail
 refine (cA _ _ _).mono ?_;rintro e w1 ⟨rfl,hb1⟩;have d1:=(hb1.cell (p:=⟨b,off+1,none⟩) hb).trans c1;have d2:=(hb1.cell (p:=⟨b,off+2,none⟩) hb).trans c2;have p1:=ag d1;have p2:=ag d2;haveI:Nonempty (bW w1):=⟨⟨_,Nk _ _⟩⟩
 clear c0 c1 c2;generalize bI x 2=t at *;obtain ⟨t1,t2⟩:=t;by_cases h0:t2=0
 ·subst h0;simp only [if_true] at er;subst er;go_wp2_with fail
  refine aq (by kernel_rfl) (by kernel_rfl) ?_
  repeat (go_big_quiet_step (first | (go_at_call 173; exact bE (cA y z _))))
  refine wpQuiet_nil ?_;rintro w3 ⟨⟨v3,hb3⟩,h3⟩;obtain rfl:w3=v3:=h3;go_wp2
  exact Nl (v:=.tuple #[.int .i64 (bI y z).1,.int .i64 (bI y z).2]) (by simp [results,Tryz.results226,go_sem]) rfl ⟨rfl,chain hb1 hb3⟩
 ·simp only [h0,if_false] at er;subst er;have q:(t2 != 0)=true:=by simpa using h0
  go_wp2
  exact Nl (v:=.tuple #[.int .i64 0,.int .i64 t2]) (by simp [results,Tryz.results226,go_sem]) rfl ⟨rfl,hb1⟩
theorem fR {l:List Int} (h:l.length=2):∃ x y,l = [x,y]:=by
 match l,h with
 | [x,y],_=>exact ⟨x,y,rfl⟩
theorem KG {l:List Int} (h:l.length=3):∃ x y z,l = [x,y,z]:=by
 match l,h with
 | [x,y,z],_=>exact ⟨x,y,z,rfl⟩
theorem iM {k a b:Int} (h:6≤k) (h':k≤11):bU (cF k [a,b])=if (bI a b).2=0 then (2,0) else (0,(bI a b).2):=by
 have e:cF k [a,b]=if (gE a b).isSome then some 2 else none:=by
  unfold cF;rw [if_neg (by omega),if_pos ⟨h,h'⟩];rfl
 rw [e];unfold bI;cases gE a b <;> rfl
theorem xW {x y z:Int}:bU (cF 17 [x,y,z])=if (bI x 2).2=0 then bI y z else (0,(bI x 2).2):=by
 have e:cF 17 [x,y,z]=if (gE x 2).isSome then gE y z else none:=rfl
 rw [e];unfold bI;cases gE x 2 <;> rfl
theorem bc.two {B:Nat} {W:World} {a:Option Addr} {x y:Int} (h:bc B W a [x,y]):∃ b off,a=some ⟨b,off,none⟩∧b<B∧W.cell? ⟨b,off,none⟩=some (.int .i64 x)∧W.cell? ⟨b,off+1,none⟩=some (.int .i64 y):=by
 obtain ⟨_,h | ⟨b,off,e,hlt,hr⟩⟩:=h
 ·simp at h
 ·exact ⟨b,off,e,hlt,hr 0 (by simp),hr 1 (by simp)⟩
theorem bc.three {B:Nat} {W:World} {a:Option Addr} {x y z:Int} (h:bc B W a [x,y,z]):∃ b off,a=some ⟨b,off,none⟩∧b<B∧W.cell? ⟨b,off,none⟩=some (.int .i64 x)∧W.cell? ⟨b,off+1,none⟩=some (.int .i64 y)∧W.cell? ⟨b,off+2,none⟩=some (.int .i64 z):=by
 obtain ⟨_,h | ⟨b,off,e,hlt,hr⟩⟩:=h
 ·simp at h
 ·exact ⟨b,off,e,hlt,hr 0 (by simp),hr 1 (by simp),hr 2 (by simp)⟩
theorem yq (k:Int) (B:Nat) (a:Option Addr) (cap:Nat) (ts:List Int) (w:World) (hB:B≤w.heap.size) (h:bc B w a ts) (h3:3≤k) (h18:k≤18) (hl:ts.length=cK k) :
  Calls Tryz.prog 226 #[.int .i64 k,.slice a ts.length cap] w fun e w'=>e = .returned (.tuple #[.int .i64 (bU (cF k ts)).1,.int .i64 (bU (cF k ts)).2])∧Below w.heap.size w w':=by
 obtain rfl | rfl | rfl | rfl | rfl | rfl | rfl | rfl | rfl | rfl | rfl | rfl | rfl | rfl | rfl | rfl:k=3∨k=4∨k=5∨k=12∨k=13∨k=14∨k=15∨k=16∨k=6∨k=7∨k=8∨k=9∨k=10∨k=11∨k=17∨k=18:=by omega
 ·have e:cF 3 ts=cG 2 ts:=rfl;rw [e];exact Bb B a cap ts w hB h
 ·have e:cF 4 ts=cG 2 ts:=rfl;rw [e];exact Bd B a cap ts w hB h
 ·have e:cF 5 ts=cG 2 ts:=rfl;rw [e];exact Bw B a cap ts w hB h
 ·have e:cF 12 ts=cG 3 ts:=rfl;rw [e];exact yA B a cap ts w hB h
 ·have e:cF 13 ts=cG 3 ts:=rfl;rw [e];exact yb B a cap ts w hB h
 ·have e:cF 14 ts=cG 3 ts:=rfl;rw [e];exact yT B a cap ts w hB h
 ·have e:cF 15 ts=cG 4 ts:=rfl;rw [e];exact yk B a cap ts w hB h
 ·have e:bU (cF 16 ts)=(2,0):=rfl;rw [e];exact yH a ts.length cap w
 ·obtain ⟨x,y,rfl⟩:=fR hl;obtain ⟨b,off,rfl,hlt,c0,c1⟩:=h.two;exact Bo b off cap x y w c0 c1 _ (iM (by decide) (by decide))
 ·obtain ⟨x,y,rfl⟩:=fR hl;obtain ⟨b,off,rfl,hlt,c0,c1⟩:=h.two;exact Ac b off cap x y w c0 c1 _ (iM (by decide) (by decide))
 ·obtain ⟨x,y,rfl⟩:=fR hl;obtain ⟨b,off,rfl,hlt,c0,c1⟩:=h.two;exact AY b off cap x y w c0 c1 _ (iM (by decide) (by decide))
 ·obtain ⟨x,y,rfl⟩:=fR hl;obtain ⟨b,off,rfl,hlt,c0,c1⟩:=h.two;exact AI b off cap x y w c0 c1 _ (iM (by decide) (by decide))
 ·obtain ⟨x,y,rfl⟩:=fR hl;obtain ⟨b,off,rfl,hlt,c0,c1⟩:=h.two;exact zo b off cap x y w c0 c1 _ (iM (by decide) (by decide))
 ·obtain ⟨x,y,rfl⟩:=fR hl;obtain ⟨b,off,rfl,hlt,c0,c1⟩:=h.two;exact zP b off cap x y w c0 c1 _ (iM (by decide) (by decide))
 ·obtain ⟨x,y,z,rfl⟩:=KG hl;obtain ⟨b,off,rfl,hlt,c0,c1,c2⟩:=h.three;exact xG b off cap x y z w (by omega) c0 c1 c2 _ xW
 ·obtain ⟨x,y,rfl⟩:=fR hl;obtain ⟨b,off,rfl,hlt,c0,c1⟩:=h.two;have e:bU (cF 18 [x,y])=bI x y:=rfl;rw [e];exact yn b off cap x y w c0 c1
end Go.Proofs.YtohjlfhmnmcndaaGreat
