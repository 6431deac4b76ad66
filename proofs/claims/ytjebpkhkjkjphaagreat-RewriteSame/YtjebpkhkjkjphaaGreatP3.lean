/- Together: Y9, X2, K1, Ext, K2, Y2, Y3a, Y3b, Y3c. -/
import Derived.OrdersHeld
import Derived.RegionTactic
import Derived.Test.YtjebpkhkjkjphaaGreatP2
import Derived.Test.YtjebpkhkjkjphaaGreatP1
namespace Go.Proofs.YtjebpkhkjkjphaaGreat
open Go.RowKit
set_option maxRecDepth 100000
set_option maxHeartbeats 16000000
theorem yF (g:Nat) (cb:Array Value) (f:Vl→Vl→Vl) (b:Nat) (p q:Vl) (W:World) (hb:b<W.heap.size) (hc:W.cell? ⟨b,0,none⟩=some (.func (.func g) #[] cb))
  (eg:∀ args w,(callFunc g args).run Tryz.prog w = .ok (.enter g args) w) (hd:∀ W',Below W.heap.size W W'→Calls Tryz.prog g (#[fW p,fW q] ++ cb) W' fun e w'=>e = .returned (fW (f p q))∧Below W'.heap.size W' w') :
  Calls Tryz.prog 205 #[fW p,fW q,.pointer (some ⟨b,0,none⟩)] W fun e w'=>e = .returned (fW (lv (f p q)))∧Below W.heap.size W w':=by
 have e:lv (f p q)=(tk (pM (cls (f p q).1 (f p q).2.1)),tn (pM (cls (f p q).1 (f p q).2.1)),⟨#[]⟩):=rfl;rw [e];clear e;generalize f p q=r at *;have con:=hd _ (ji (Md _ (((W.alloc (.cells #[.int .i64 p.1,.int .i64 p.2.1,.string p.2.2] 24)).alloc (.cells #[.int .i64 q.1,.int .i64 q.2.1,.string q.2.2] 24)).alloc (.cells #[.int .i64 0,.int .i64 0,.string ⟨#[]⟩] 24))));have A0:=((gu.new W (.int .i64 p.1) (.int .i64 p.2.1) (.string p.2.2) 24).alloc (.cells #[.int .i64 q.1,.int .i64 q.2.1,.string q.2.2] 24)).alloc (.cells #[.int .i64 0,.int .i64 0,.string ⟨#[]⟩] 24)
 have B0:=(gu.new (W.alloc (.cells #[.int .i64 p.1,.int .i64 p.2.1,.string p.2.2] 24)) (.int .i64 q.1) (.int .i64 q.2.1) (.string q.2.2) 24).alloc (.cells #[.int .i64 0,.int .i64 0,.string ⟨#[]⟩] 24);have R0:=gu.new ((W.alloc (.cells #[.int .i64 p.1,.int .i64 p.2.1,.string p.2.2] 24)).alloc (.cells #[.int .i64 q.1,.int .i64 q.2.1,.string q.2.2] 24)) (.int .i64 0) (.int .i64 0) (.string ⟨#[]⟩) 24
 have hA:Below W.heap.size W (((W.alloc (.cells #[.int .i64 p.1,.int .i64 p.2.1,.string p.2.2] 24)).alloc (.cells #[.int .i64 q.1,.int .i64 q.2.1,.string q.2.2] 24)).alloc (.cells #[.int .i64 0,.int .i64 0,.string ⟨#[]⟩] 24)):=ji (Md _ _);have c3:=(hA.cell (p:=⟨b,0,none⟩) hb).trans hc;simp only [Mf] at B0 R0;clear hd A0 B0;go_enter Tryz.func205,Tryz.ntmps205;go_wp2_with (go_at_fn g; refine con.mono ?_)
 rintro e w1 ⟨rfl,hb1⟩;have R1:=R0.next hb1;have hb1':=chain hA hb1;have z1:=hb1.size;simp at z1;go_wp2_with fail
 refine (AM _ _ _ _).mono ?_;rintro e w2 ⟨rfl,hb2⟩;have ⟨r0,r1,r2,r3,r4,r5,r6⟩:=R1.next hb2;have hb2':=chain hb1' hb2;clear con R0 R1;go_wp2
 exact Me (v:=.agg #[.int .i64 (tk (pM (cls r.1 r.2.1))),.int .i64 (tn (pM (cls r.1 r.2.1))),.string ⟨#[]⟩]) (by simp [results,Tryz.results205,go_sem,r1,r2,r3]) rfl ⟨rfl,aF hb2' (by omega)⟩
theorem yW (g:Nat) (cb:Array Value) (f:Vl→Vl→Vl) (b:Nat) (p q:Vl) (W:World) (hb:b<W.heap.size) (hc:W.cell? ⟨b,0,none⟩=some (.func (.func g) #[] cb))
  (eg:∀ args w,(callFunc g args).run Tryz.prog w = .ok (.enter g args) w) (hd:∀ W',Below W.heap.size W W'→Calls Tryz.prog g (#[fW q,fW p] ++ cb) W' fun e w'=>e = .returned (fW (f q p))∧Below W'.heap.size W' w') :
  Calls Tryz.prog 206 #[fW p,fW q,.pointer (some ⟨b,0,none⟩)] W fun e w'=>e = .returned (fW (f q p))∧Below W.heap.size W w':=by
 generalize f q p=r at *;have con:=hd _ (ji (Md _ (((W.alloc (.cells #[.int .i64 p.1,.int .i64 p.2.1,.string p.2.2] 24)).alloc (.cells #[.int .i64 q.1,.int .i64 q.2.1,.string q.2.2] 24)).alloc (.cells #[.int .i64 0,.int .i64 0,.string ⟨#[]⟩] 24))));have A0:=((gu.new W (.int .i64 p.1) (.int .i64 p.2.1) (.string p.2.2) 24).alloc (.cells #[.int .i64 q.1,.int .i64 q.2.1,.string q.2.2] 24)).alloc (.cells #[.int .i64 0,.int .i64 0,.string ⟨#[]⟩] 24)
 have B0:=(gu.new (W.alloc (.cells #[.int .i64 p.1,.int .i64 p.2.1,.string p.2.2] 24)) (.int .i64 q.1) (.int .i64 q.2.1) (.string q.2.2) 24).alloc (.cells #[.int .i64 0,.int .i64 0,.string ⟨#[]⟩] 24);have R0:=gu.new ((W.alloc (.cells #[.int .i64 p.1,.int .i64 p.2.1,.string p.2.2] 24)).alloc (.cells #[.int .i64 q.1,.int .i64 q.2.1,.string q.2.2] 24)) (.int .i64 0) (.int .i64 0) (.string ⟨#[]⟩) 24
 have hA:Below W.heap.size W (((W.alloc (.cells #[.int .i64 p.1,.int .i64 p.2.1,.string p.2.2] 24)).alloc (.cells #[.int .i64 q.1,.int .i64 q.2.1,.string q.2.2] 24)).alloc (.cells #[.int .i64 0,.int .i64 0,.string ⟨#[]⟩] 24)):=ji (Md _ _);have c3:=(hA.cell (p:=⟨b,0,none⟩) hb).trans hc;simp only [Mf] at B0 R0;clear hd A0 B0;go_enter Tryz.func206,Tryz.ntmps206;go_wp2_with (go_at_fn g; refine con.mono ?_)
 rintro e w1 ⟨rfl,hb1⟩;have ⟨r0,r1,r2,r3,r4,r5,r6⟩:=R0.next hb1;have hb1':=chain hA hb1;have z1:=hb1.size;simp at z1;clear con R0;go_wp2
 exact Me (v:=fW r) (by simp [results,Tryz.results206,go_sem,r1,r2,r3]) rfl ⟨rfl,aF hb1' (by omega)⟩
theorem tC (c:Int) (b:Nat) (p q:Vl) (W:World) (hb:b<W.heap.size) (hc:W.cell? ⟨b,0,none⟩=some (.int .i32 c)) :
  Calls Tryz.prog 207 #[fW p,fW q,.pointer (some ⟨b,0,none⟩)] W fun e w'=>e = .returned (fW (mS c p q))∧Below W.heap.size W w':=by
 have e:mS c p q=(uu (pj c p.1 p.2.1 q.1 q.2.1),xQ (pj c p.1 p.2.1 q.1 q.2.1),⟨#[]⟩):=rfl;rw [e];clear e;have A0:=((gu.new W (.int .i64 p.1) (.int .i64 p.2.1) (.string p.2.2) 24).alloc (.cells #[.int .i64 q.1,.int .i64 q.2.1,.string q.2.2] 24)).alloc (.cells #[.int .i64 0,.int .i64 0,.string ⟨#[]⟩] 24);have B0:=(gu.new (W.alloc (.cells #[.int .i64 p.1,.int .i64 p.2.1,.string p.2.2] 24)) (.int .i64 q.1) (.int .i64 q.2.1) (.string q.2.2) 24).alloc (.cells #[.int .i64 0,.int .i64 0,.string ⟨#[]⟩] 24)
 have R0:=gu.new ((W.alloc (.cells #[.int .i64 p.1,.int .i64 p.2.1,.string p.2.2] 24)).alloc (.cells #[.int .i64 q.1,.int .i64 q.2.1,.string q.2.2] 24)) (.int .i64 0) (.int .i64 0) (.string ⟨#[]⟩) 24;have hA:Below W.heap.size W (((W.alloc (.cells #[.int .i64 p.1,.int .i64 p.2.1,.string p.2.2] 24)).alloc (.cells #[.int .i64 q.1,.int .i64 q.2.1,.string q.2.2] 24)).alloc (.cells #[.int .i64 0,.int .i64 0,.string ⟨#[]⟩] 24)):=ji (Md _ _);have c3:=(hA.cell (p:=⟨b,0,none⟩) hb).trans hc;simp only [Mf] at B0 R0;clear A0 B0;go_enter Tryz.func207,Tryz.ntmps207;go_wp2_with fail
 refine (zX _ _ _ _ _ _ _ _).mono ?_;rintro e w1 ⟨rfl,hb1⟩;have ⟨r0,r1,r2,r3,r4,r5,r6⟩:=R0.next hb1;have hb1':=chain hA hb1;have z1:=hb1.size;simp at z1;clear R0;go_wp2
 exact Me (v:=.agg #[.int .i64 (uu (pj c p.1 p.2.1 q.1 q.2.1)),.int .i64 (xQ (pj c p.1 p.2.1 q.1 q.2.1)),.string ⟨#[]⟩]) (by simp [results,Tryz.results207,go_sem,r1,r2,r3]) rfl ⟨rfl,aF hb1' (by omega)⟩
theorem nO (u:Value) (f:Vl→Vl→Vl) (w:World) (lo:Nat) (hlo:lo≤w.heap.size) (h:rB lo u f w) :
  Calls Tryz.prog 197 #[u] w fun e w'=>∃ v,e = .returned v∧rB lo v (fun a b=>lv (f a b)) w'∧Below w.heap.size w w':=by
 obtain ⟨g,cb,rfl,eg,hd⟩:=h;have hal:=aa w (.cells #[.func (.func g) #[] cb] 220);have hF:rB lo (.func (.func 205) #[] #[.pointer (some ⟨w.heap.size,0,none⟩)]) (fun a b=>lv (f a b)) (w.alloc (.cells #[.func (.func g) #[] cb] 220)) :=
  ⟨205,_,rfl,enters_of Tryz.func205 (by kernel_rfl) rfl,fun p q W hp hq hW =>
   yF g cb f w.heap.size p q W (Mh (by simp) hW.1) ((hW.cell (p:=⟨w.heap.size,0,none⟩) hlo (by simp)).trans (by simp)) eg (fun W' hW'=>hd p q W' hp hq (((Since.of hal).trans hW).trans (Since.of hW')))⟩
 clear hd;go_enter Tryz.func197,Tryz.ntmps197;go_wp2
 go_ret;exact ⟨_,rfl,hF,hal⟩
theorem sd (u:Value) (f:Vl→Vl→Vl) (w:World) (lo:Nat) (hlo:lo≤w.heap.size) (h:rB lo u f w) :
  Calls Tryz.prog 199 #[u] w fun e w'=>∃ v,e = .returned v∧rB lo v (fun a b=>f b a) w'∧Below w.heap.size w w':=by
 obtain ⟨g,cb,rfl,eg,hd⟩:=h;have hal:=aa w (.cells #[.func (.func g) #[] cb] 220);have hF:rB lo (.func (.func 206) #[] #[.pointer (some ⟨w.heap.size,0,none⟩)]) (fun a b=>f b a) (w.alloc (.cells #[.func (.func g) #[] cb] 220)) :=
  ⟨206,_,rfl,enters_of Tryz.func206 (by kernel_rfl) rfl,fun p q W hp hq hW =>
   yW g cb f w.heap.size p q W (Mh (by simp) hW.1) ((hW.cell (p:=⟨w.heap.size,0,none⟩) hlo (by simp)).trans (by simp)) eg (fun W' hW'=>hd q p W' hq hp (((Since.of hal).trans hW).trans (Since.of hW')))⟩
 clear hd;go_enter Tryz.func199,Tryz.ntmps199;go_wp2
 go_ret;exact ⟨_,rfl,hF,hal⟩
theorem kE (c:Int) (w:World) (lo:Nat) (hlo:lo≤w.heap.size) :
  Calls Tryz.prog 200 #[.int .i32 c] w fun e w'=>∃ v,e = .returned v∧rB lo v (mS c) w'∧Below w.heap.size w w':=by
 have hal:=aa w (.cells #[.int .i32 c] 21);have hF:rB lo (.func (.func 207) #[] #[.pointer (some ⟨w.heap.size,0,none⟩)]) (mS c) (w.alloc (.cells #[.int .i32 c] 21)) :=
  ⟨207,_,rfl,enters_of Tryz.func207 (by kernel_rfl) rfl,fun p q W hp hq hW =>
   tC c w.heap.size p q W (Mh (by simp) hW.1) ((hW.cell (p:=⟨w.heap.size,0,none⟩) hlo (by simp)).trans (by simp))⟩
 go_enter Tryz.func200,Tryz.ntmps200;go_wp2
 go_ret;exact ⟨_,rfl,hF,hal⟩
def i7 (k:Int):Prop:=∀ w:World,Calls Tryz.prog 176 #[.int .i64 k] w fun e w'=>∃ u,e = .returned u∧rB w.heap.size u (nG k) w'∧Below w.heap.size w w'
theorem GW:i7 4:=by
 intro w;go_enter Tryz.func176,Tryz.ntmps176;go_wp2
 go_ret;exact ⟨_,rfl,JQ _ w,Md _ _⟩
theorem IM:i7 5:=by
 intro w;go_enter Tryz.func176,Tryz.ntmps176;go_wp2
 go_ret;exact ⟨_,rfl,KJ _ w,Md _ _⟩
theorem I9:i7 6:=by
 intro w;go_enter Tryz.func176,Tryz.ntmps176;go_wp2
 go_ret;exact ⟨_,rfl,Jq _ w,Md _ _⟩
theorem IV:i7 8:=by
 intro w;go_enter Tryz.func176,Tryz.ntmps176;go_wp2
 go_ret;exact ⟨_,rfl,Bg _ w,Md _ _⟩
theorem EI:i7 15:=by
 intro w;go_enter Tryz.func176,Tryz.ntmps176;go_wp2
 go_ret;exact ⟨_,rfl,G4 _ w,Md _ _⟩
theorem Ey:i7 18:=by
 intro w;go_enter Tryz.func176,Tryz.ntmps176;go_wp2
 go_ret;exact ⟨_,rfl,Iy _ w,Md _ _⟩
theorem Hc:i7 7:=by
 intro w;go_enter Tryz.func176,Tryz.ntmps176;go_wp2_with fail
 refine (nO _ _ w _ (Mc _) (Jq _ w)).mono ?_;rintro e w1 ⟨v,rfl,hF,hb1⟩;go_wp2
 go_ret;exact ⟨_,rfl,hF,hb1⟩
theorem D0:i7 11:=by
 intro w;go_enter Tryz.func176,Tryz.ntmps176;go_wp2_with fail
 refine (nO _ _ w _ (Mc _) (Bg _ w)).mono ?_;rintro e w1 ⟨v,rfl,hF,hb1⟩;go_wp2
 go_ret;exact ⟨_,rfl,hF,hb1⟩
theorem Ei:i7 10:=by
 intro w;go_enter Tryz.func176,Tryz.ntmps176;go_wp2_with fail
 refine (sd _ _ w _ (Mc _) (Bg _ w)).mono ?_;rintro e w1 ⟨v,rfl,hF,hb1⟩;go_wp2
 go_ret;exact ⟨_,rfl,hF,hb1⟩
theorem Ea:i7 12:=by
 intro w;go_enter Tryz.func176,Tryz.ntmps176;go_wp2_with fail
 refine (kE 43 w _ (Mc _)).mono ?_;rintro e w1 ⟨v,rfl,hF,hb1⟩;go_wp2
 go_ret;exact ⟨_,rfl,hF,hb1⟩
theorem Fw:i7 13:=by
 intro w;go_enter Tryz.func176,Tryz.ntmps176;go_wp2_with fail
 refine (kE 45 w _ (Mc _)).mono ?_;rintro e w1 ⟨v,rfl,hF,hb1⟩;go_wp2
 go_ret;exact ⟨_,rfl,hF,hb1⟩
theorem Gs:i7 14:=by
 intro w;go_enter Tryz.func176,Tryz.ntmps176;go_wp2_with fail
 refine (kE 42 w _ (Mc _)).mono ?_;rintro e w1 ⟨v,rfl,hF,hb1⟩;go_wp2
 go_ret;exact ⟨_,rfl,hF,hb1⟩
theorem Hf:i7 9:=by
 intro w;go_enter Tryz.func176,Tryz.ntmps176;go_wp2_with fail
 refine (sd _ _ w _ (Mc _) (Bg _ w)).mono ?_;rintro e w1 ⟨v,rfl,hF,hb1⟩;go_wp2_with fail
 refine (nO _ _ w1 _ hb1.size hF).mono ?_;rintro e w2 ⟨v2,rfl,hF2,hb2⟩;go_wp2
 go_ret;exact ⟨_,rfl,hF2,chain hb1 hb2⟩
theorem Gv (k:Int) (h4:4≤k) (h18:k≤15∨k=18):i7 k:=by
 obtain rfl | rfl | rfl | rfl | rfl | rfl | rfl | rfl | rfl | rfl | rfl | rfl | rfl:k=4∨k=5∨k=6∨k=7∨k=8∨k=9∨k=10∨k=11∨k=12∨k=13∨k=14∨k=15∨k=18:=by omega
 ·exact GW
 ·exact IM
 ·exact I9
 ·exact Hc
 ·exact IV
 ·exact Hf
 ·exact Ei
 ·exact D0
 ·exact Ea
 ·exact Fw
 ·exact Gs
 ·exact EI
 ·exact Ey
end Go.Proofs.YtjebpkhkjkjphaaGreat
namespace Go.Proofs.YtjebpkhkjkjphaaGreat
set_option maxRecDepth 100000
set_option maxHeartbeats 16000000
def hU (af:List Int):Bool:=af.all fun c=>decide (1≤c) && decide (c≤4)
def an (af:List Int) (x:Ex):Int × Int :=
 if 16<af.length then (0,5) else if hU af=false then (0,1) else if (bf af x 0 1).2.1=0 then ((bf af x 0 1).1,0) else (0,(bf af x 0 1).2.1)
def Jj (af:List Int) (x:Ex) (row:List Vl):Vl × Int :=
 if (an af x).2≠0 then (eD,(an af x).2) else if fP af row≠0 then (eD,fP af row) else (aW row x,0)
structure vI (af:List Int) (x:Ex) (t:Int):Prop where
 Lr:af.length≤16
 fit:hU af=true
 ty:kt af x=some t
 size:lR x≤200
 deep:uI x≤20
theorem qS (af:List Int) (x:Ex):(an af x).2=0↔vI af x (an af x).1:=by
 unfold an;by_cases h1:16<af.length
 ·rw [if_pos h1];simp only [show ¬ (5:Int)=0 by decide,false_iff];exact fun h=>absurd h.Lr (by omega)
 rw [if_neg h1];by_cases h2:hU af=false
 ·rw [if_pos h2];simp only [show ¬ (1:Int)=0 by decide,false_iff];exact fun h=>absurd h.fit (by simp [h2])
 rw [if_neg h2];by_cases h3:(bf af x 0 1).2.1=0
 ·rw [if_pos h3];simp only [true_iff];obtain ⟨q1,q2,q3,q4⟩:=(kR af x 0 1 (bf af x 0 1).1 (bf af x 0 1).2.2).1 (Prod.ext rfl (Prod.ext h3 rfl));exact ⟨by omega,by simpa using h2,q1,by omega,by omega⟩
 ·rw [if_neg h3];simp only [h3,false_iff];intro h;have:=(kR af x 0 1 0 (0+lR x)).2 ⟨h.ty,rfl,by have:=h.size; omega,by have:=h.deep; omega⟩;rw [this] at h3;simp at h3
theorem vI.top {af:List Int} {x:Ex} {t:Int} (h:vI af x t):an af x=(t,0):=by
 have:=(kR af x 0 1 t (0+lR x)).2 ⟨h.ty,rfl,by have:=h.size; omega,by have:=h.deep; omega⟩;unfold an;rw [if_neg (by have:=h.Lr; omega),if_neg (by simp [h.fit]),this];simp
theorem vI.eval {af:List Int} {x:Ex} {t:Int} (h:vI af x t) (row:List Vl):Jj af x row=if fP af row≠0 then (eD,fP af row) else (aW row x,0):=by
 unfold Jj;rw [h.top];simp
def tV (k:Int) (x y:Ex):Ex:=.mk k eD 0 [x,y]
theorem Iz (row:List Vl) {k:Int} (hk:4≤k) (hk':k≤15∨k=18) (x y:Ex):aW row (tV k x y)=nG k (aW row x) (aW row y):=by
 rw [tV,aW,jB,jB,jB];unfold gh;rw [if_neg (by omega),if_neg (by omega),if_neg (by omega),if_neg (by omega),if_neg (by omega)];rfl
theorem not_not (o:Option Bool):lv (lv (om o))=om o:=by rcases o with _ | _ | _ <;> rfl
def Le (a b:Vl):Prop:=a.1=1∨a=b
theorem Le.refl (a:Vl):Le a a:=.inr rfl
theorem Ku {o p:Option Bool} (h:o=none∨o=p):Le (om o) (om p):=by
 rcases h with rfl | rfl
 ·left; rfl
 ·right; rfl
theorem Kl {a b:Vl} (h:Le a b):kH a=none∨kH a=kH b:=by
 rcases h with h | rfl
 ·left; unfold kH cls; rw [if_neg (by omega)]
 ·right; rfl
theorem IN {a b c d:Vl} (h:Le a c) (h':Le b d):kn a.1 b.1=false∨(a=c∧b=d):=by
 unfold kn;rcases h with h | rfl
 ·left; simp [h]
 ·rcases h' with h' | rfl
  ·left;by_cases q:a.1=1 <;> simp [h',q]
  ·right; exact ⟨rfl,rfl⟩
theorem AH {a b c d:Vl} (h:Le a c) (h':Le b d):Ji a.1 a.2.1 a.2.2 b.1 b.2.1 b.2.2=none∨Ji a.1 a.2.1 a.2.2 b.1 b.2.1 b.2.2=Ji c.1 c.2.1 c.2.2 d.1 d.2.1 d.2.2:=by
 rcases IN h h' with q | ⟨rfl,rfl⟩
 ·left; simp [Ji,q]
 ·right; rfl
theorem not_le {a c:Vl} (h:Le a c):Le (lv a) (lv c):=by
 refine Ku ?_;rcases Kl h with q | q <;> rw [q]
 ·left; rfl
 ·right; rfl
end Go.Proofs.YtjebpkhkjkjphaaGreat
namespace Go.Proofs.YtjebpkhkjkjphaaGreat
open Go.RowKit
set_option maxRecDepth 100000
set_option maxHeartbeats 16000000
def gr (af:List Int) (lo:Nat) (u:Value) (f:List Vl→Vl) (w:World):Prop :=
 ∃ g cb,u = .func (.func g) #[] cb∧(∀ args w,(callFunc g args).run Tryz.prog w = .ok (.enter g args) w) ∧
  ∀ (row:List Vl) (a:Option Addr) (cap:Nat) (W:World),fM af row→bg W a row→Since lo w W →
   Calls Tryz.prog g (#[.slice a row.length cap] ++ cb) W fun e w'=>e = .returned (fW (f row))∧Below W.heap.size W w'
theorem gr.next {af:List Int} {lo:Nat} {u:Value} {f:List Vl→Vl} {w w1:World} (h:gr af lo u f w) (hb:Since lo w w1):gr af lo u f w1:=by
 obtain ⟨g,cb,e,eg,hd⟩:=h;exact ⟨g,cb,e,eg,fun row a cap W hf hs hW=>hd row a cap W hf hs (hb.trans hW)⟩
theorem gr.down {af:List Int} {lo lo':Nat} {u:Value} {f:List Vl→Vl} {w:World} (h:gr af lo u f w) (hl:lo'≤lo):gr af lo' u f w:=by
 obtain ⟨g,cb,e,eg,hd⟩:=h;exact ⟨g,cb,e,eg,fun row a cap W hf hs hW=>hd row a cap W hf hs (hW.up hl)⟩
theorem gu.La {W:World} {b:Nat} {x y z:Value} (h:gu W b x y z) (x' y' z':Value):gu (((W.setCell ⟨b,0,none⟩ x').setCell ⟨b,1,none⟩ y').setCell ⟨b,2,none⟩ z') b x' y' z':=by
 obtain ⟨lt,c0,c1,c2,f0,f1,f2⟩:=h;refine ⟨by simpa using lt,?_,?_,?_,by simpa using f0,by simpa using f1,by simpa using f2⟩
 ·rw [Mn _ _ _ _ (by simp),Mn _ _ _ _ (by simp)];exact Nn _ _ _ (by rw [c0]; rfl)
 ·rw [Mn _ _ _ _ (by simp)];exact Nn _ _ _ (by rw [Mn _ _ _ _ (by simp),c1]; rfl)
 ·exact Nn _ _ _ (by rw [Mn _ _ _ _ (by simp),Mn _ _ _ _ (by simp),c2]; rfl)
theorem zU (v:Vl) (b:Nat) (a:Option Addr) (n cap:Nat) (W:World) (hb:b<W.heap.size) (h0:W.cell? ⟨b,0,none⟩=some (.int .i64 v.1)) (h1:W.cell? ⟨b,1,none⟩=some (.int .i64 v.2.1)) (h2:W.cell? ⟨b,2,none⟩=some (.string v.2.2)) :
  Calls Tryz.prog 190 #[.slice a n cap,.pointer (some ⟨b,0,none⟩)] W fun e w'=>e = .returned (fW v)∧Below W.heap.size W w':=by
 have hal:=aa W (.cells #[.int .i64 0,.int .i64 0,.string ⟨#[]⟩] 24);have c0:=(hal.cell (p:=⟨b,0,none⟩) hb).trans h0;have c1:=(hal.cell (p:=⟨b,1,none⟩) hb).trans h1;have c2:=(hal.cell (p:=⟨b,2,none⟩) hb).trans h2;go_enter Tryz.func190,Tryz.ntmps190;go_wp2
 exact Me (v:=fW v) (by simp [results,Tryz.results190,go_sem]) rfl ⟨rfl,(Md _ _).alloc (Mc _) _⟩
theorem Ci (af:List Int) (v:Vl) (w:World) :
  Calls Tryz.prog 169 #[fW v] w fun e w'=>∃ u,e = .returned u∧gr af w.heap.size u (fun _=>bF v) w'∧Below w.heap.size w w':=by
 have hal:=aa w (.cells #[.int .i64 v.1,.int .i64 v.2.1,.string v.2.2] 24);have R:=gu.new w (.int .i64 v.1) (.int .i64 v.2.1) (.string v.2.2) 24;go_enter Tryz.func169,Tryz.ntmps169;go_wp2_with fail
 refine (mQ _ _ _ _).mono ?_;rintro e w1 ⟨rfl,hb1⟩;have R1:=R.next hb1;have P1:=R1.La (.int .i64 v.1) (.int .i64 (dE v.1 v.2.1)) (.string (fN v.1 v.2.2));have hb:=chain hal hb1;have ⟨r0,r1,r2,r3,r4,r5,r6⟩:=R1;go_wp2
 go_ret;refine ⟨_,rfl,⟨190,_,rfl,enters_of Tryz.func190 (by kernel_rfl) rfl,?_⟩,aF hb (Mc _)⟩;intro row a cap W _ _ hW;obtain ⟨p0,p1,p2,p3,_,_,_⟩:=P1;exact zU (bF v) w.heap.size a row.length cap W (Mh p0 hW.1) ((hW.cell (p:=⟨w.heap.size,0,none⟩) (Mc _) p0).trans p1) ((hW.cell (p:=⟨w.heap.size,1,none⟩) (Mc _) p0).trans p2) ((hW.cell (p:=⟨w.heap.size,2,none⟩) (Mc _) p0).trans p3)
theorem yQ (j:Nat) (b:Nat) (a:Option Addr) (row:List Vl) (cap:Nat) (W:World) (hb:b<W.heap.size) (h0:W.cell? ⟨b,0,none⟩=some (.int .i64 j)) (hj:j<row.length) (hs:bg W a row) :
  Calls Tryz.prog 191 #[.slice a row.length cap,.pointer (some ⟨b,0,none⟩)] W fun e w'=>e = .returned (fW (bF row[j]))∧Below W.heap.size W w':=by
 have hal:=aa W (.cells #[.int .i64 0,.int .i64 0,.string ⟨#[]⟩] 24);have R:=gu.new W (.int .i64 0) (.int .i64 0) (.string ⟨#[]⟩) 24;have c0:=(hal.cell (p:=⟨b,0,none⟩) hb).trans h0;have hl:=hs.1;unfold maxLen at hl;obtain ⟨b',off,rfl,hbl,x0,x1,x2⟩:=(hs.next hal).elem hj;generalize row[j]=v at *;go_enter Tryz.func191,Tryz.ntmps191;go_wp2_with fail
 refine (mQ _ _ _ _).mono ?_;rintro e w1 ⟨rfl,hb1⟩;have ⟨r0,r1,r2,r3,r4,r5,r6⟩:=R.next hb1;have hb:=chain hal hb1;clear x0 x1 x2 c0;go_wp2
 exact Me (v:=fW (bF v)) (by simp [results,Tryz.results191,go_sem,r1,r2,r3,bF]) rfl ⟨rfl,aF hb (Mc _)⟩
theorem CH (af:List Int) (c:Int) (w:World) (h0:0≤c) (h1:c.toNat<af.length) :
  Calls Tryz.prog 170 #[.int .i64 c] w fun e w'=>∃ u,e = .returned u∧gr af w.heap.size u (fun row=>bF (row.getD c.toNat eD)) w'∧Below w.heap.size w w':=by
 have hal:=aa w (.cells #[.int .i64 c] 3);obtain ⟨j,rfl⟩:∃ j:Nat,c=j:=⟨c.toNat,by omega⟩
 go_enter Tryz.func170,Tryz.ntmps170;go_wp2
 go_ret;refine ⟨_,rfl,⟨191,_,rfl,enters_of Tryz.func191 (by kernel_rfl) rfl,?_⟩,hal⟩;intro row a cap W hf hs hW;have hj:j<row.length:=by have:=hf.len; simp at h1; omega
 have e:row.getD (j:Int).toNat eD=row[j]:=by simp [List.getD,hj]
 show Calls _ _ _ _ fun e w'=>e = .returned (fW (bF (row.getD (j:Int).toNat eD)))∧_
 rw [e];exact yQ j w.heap.size a row cap W (Mh (by simp) hW.1) ((hW.cell (p:=⟨w.heap.size,0,none⟩) (Mc _) (by simp)).trans (by simp)) hj hs
theorem yP (af:List Int) (lo:Nat) (f1 f2 f3:List Vl→Vl) (u1 u2 u3:Value) (b:Nat) (a:Option Addr) (row:List Vl) (cap:Nat) (W:World) (hb:b+2<W.heap.size)
  (h0:W.cell? ⟨b,0,none⟩=some u1) (h1:W.cell? ⟨b+1,0,none⟩=some u2) (h2:W.cell? ⟨b+2,0,none⟩=some u3) (a1:gr af lo u1 f1 W) (a2:gr af lo u2 f2 W) (a3:gr af lo u3 f3 W) (hf:fM af row) (hs:bg W a row) :
  Calls Tryz.prog 193 #[.slice a row.length cap,.pointer (some ⟨b,0,none⟩),.pointer (some ⟨b+1,0,none⟩),.pointer (some ⟨b+2,0,none⟩)] W fun e w'=>e = .returned (fW (if kH (f1 row) == some true then f2 row else f3 row))∧Below W.heap.size W w':=by
 obtain ⟨g1,cb1,rfl,eg1,d1⟩:=a1;obtain ⟨g2,cb2,rfl,eg2,d2⟩:=a2;obtain ⟨g3,cb3,rfl,eg3,d3⟩:=a3;have hal:=aa W (.cells #[.int .i64 0,.int .i64 0,.string ⟨#[]⟩] 24);have R:=gu.new W (.int .i64 0) (.int .i64 0) (.string ⟨#[]⟩) 24;have c1:=(hal.cell (p:=⟨b,0,none⟩) (by show b<_; omega)).trans h0;have d1:=d1 row a cap _ hf (hs.next hal) (Since.of hal);have d2:=fun W' (h:Below W.heap.size W W')=>d2 row a cap W' hf (hs.next h) (Since.of h)
 have d3:=fun W' (h:Below W.heap.size W W')=>d3 row a cap W' hf (hs.next h) (Since.of h)
 generalize f1 row=v1 at *;generalize f2 row=v2 at *;generalize f3 row=v3 at *;by_cases q:(kH v1 == some true)=true
 ·rw [if_pos q];go_enter Tryz.func193,Tryz.ntmps193;go_wp2_with (go_at_fn g1; refine d1.mono ?_)
  rintro e w1 ⟨rfl,hb1⟩;have hA:=chain hal hb1;have R:=R.next hb1;have q':(cls v1.1 v1.2.1 == some true)=true:=q;go_wp2_with fail
  refine (dW _ _ _ _).mono ?_;rintro e w2 ⟨rfl,hb2⟩;rw [q'];have hA:=chain hA hb2;have R:=R.next hb2;have c2:=(hA.cell (p:=⟨b+1,0,none⟩) (by show b+1<_; omega)).trans h1;have d2:=d2 _ hA;clear d1 c1 d3;go_wp2_with (go_at_fn g2; refine d2.mono ?_)
  rintro e w3 ⟨rfl,hb3⟩;have hA:=chain hA hb3;have ⟨r0,r1,r2,r3,r4,r5,r6⟩:=R.next hb3;clear d2 c2;go_wp2
  exact Me (v:=fW v2) (by simp [results,Tryz.results193,go_sem,r1,r2,r3]) rfl ⟨rfl,aF hA (Mc _)⟩
 ·rw [if_neg q];go_enter Tryz.func193,Tryz.ntmps193;go_wp2_with (go_at_fn g1; refine d1.mono ?_)
  rintro e w1 ⟨rfl,hb1⟩;have hA:=chain hal hb1;have R:=R.next hb1;have q':(cls v1.1 v1.2.1 == some true)=false:=Bool.eq_false_iff.mpr q;go_wp2_with fail
  refine (dW _ _ _ _).mono ?_;rintro e w2 ⟨rfl,hb2⟩;rw [q'];have hA:=chain hA hb2;have R:=R.next hb2;have c3:=(hA.cell (p:=⟨b+2,0,none⟩) (by show b+2<_; omega)).trans h2;have d3:=d3 _ hA;clear d1 c1 d2;go_wp2_with (go_at_fn g3; refine d3.mono ?_)
  rintro e w3 ⟨rfl,hb3⟩;have hA:=chain hA hb3;have ⟨r0,r1,r2,r3,r4,r5,r6⟩:=R.next hb3;clear d3 c3;go_wp2
  exact Me (v:=fW v3) (by simp [results,Tryz.results193,go_sem,r1,r2,r3]) rfl ⟨rfl,aF hA (Mc _)⟩
theorem pJ {w:World} {o:Obj} {p:Addr} (h:p.block<w.heap.size):(w.alloc o).cell? p=w.cell? p:=((Md w.heap.size w).alloc (Mc _) o).cell h
theorem CS (af:List Int) (lo:Nat) (f1 f2 f3:List Vl→Vl) (u1 u2 u3:Value) (w:World) (hlo:lo≤w.heap.size) (a1:gr af lo u1 f1 w) (a2:gr af lo u2 f2 w) (a3:gr af lo u3 f3 w) :
  Calls Tryz.prog 175 #[u1,u2,u3] w fun e w'=>∃ u,e = .returned u∧gr af lo u (fun row=>if kH (f1 row) == some true then f2 row else f3 row) w'∧Below w.heap.size w w':=by
 obtain ⟨x1,y1,rfl⟩:∃ x y,u1 = .func (.func x) #[] y:=by obtain ⟨x,y,e,_⟩:=a1; exact ⟨x,y,e⟩
 obtain ⟨x2,y2,rfl⟩:∃ x y,u2 = .func (.func x) #[] y:=by obtain ⟨x,y,e,_⟩:=a2; exact ⟨x,y,e⟩
 obtain ⟨x3,y3,rfl⟩:∃ x y,u3 = .func (.func x) #[] y:=by obtain ⟨x,y,e,_⟩:=a3; exact ⟨x,y,e⟩
 have h1:=aa w (.cells #[.func (.func x1) #[] y1] 156);have h2:=h1.alloc h1.size (.cells #[.func (.func x2) #[] y2] 156);have h3:=h2.alloc h2.size (.cells #[.func (.func x3) #[] y3] 156);have q1:(((w.alloc (.cells #[.func (.func x1) #[] y1] 156)).alloc (.cells #[.func (.func x2) #[] y2] 156)).alloc (.cells #[.func (.func x3) #[] y3] 156)).cell? ⟨w.heap.size,0,none⟩=some (.func (.func x1) #[] y1):=by
  rw [pJ (by simp only [Mf]; omega),pJ (by simp)]; simp
 have q2:(((w.alloc (.cells #[.func (.func x1) #[] y1] 156)).alloc (.cells #[.func (.func x2) #[] y2] 156)).alloc (.cells #[.func (.func x3) #[] y3] 156)).cell? ⟨w.heap.size+1,0,none⟩=some (.func (.func x2) #[] y2):=by
  rw [pJ (by simp),M0 _ _ _ _ (by simp)]; rfl
 have q3:(((w.alloc (.cells #[.func (.func x1) #[] y1] 156)).alloc (.cells #[.func (.func x2) #[] y2] 156)).alloc (.cells #[.func (.func x3) #[] y3] 156)).cell? ⟨w.heap.size+2,0,none⟩=some (.func (.func x3) #[] y3):=by
  rw [M0 _ _ _ _ (by simp)]; rfl
 have z3:(((w.alloc (.cells #[.func (.func x1) #[] y1] 156)).alloc (.cells #[.func (.func x2) #[] y2] 156)).alloc (.cells #[.func (.func x3) #[] y3] 156)).heap.size=w.heap.size+3:=by simp
 have n1:=a1.next (Since.of h3);have n2:=a2.next (Since.of h3);have n3:=a3.next (Since.of h3);clear a1 a2 a3;go_enter Tryz.func175,Tryz.ntmps175;go_wp2
 go_ret;generalize ((w.alloc (.cells #[.func (.func x1) #[] y1] 156)).alloc (.cells #[.func (.func x2) #[] y2] 156)).alloc (.cells #[.func (.func x3) #[] y3] 156)=w3 at *;refine ⟨_,rfl,⟨193,_,rfl,enters_of Tryz.func193 (by kernel_rfl) rfl,?_⟩,h3⟩;intro row a cap W hf hs hW
 exact yP af lo f1 f2 f3 _ _ _ w.heap.size a row cap W (by have:=hW.1; omega) ((hW.cell (p:=⟨w.heap.size,0,none⟩) hlo (by show w.heap.size<_; omega)).trans q1) ((hW.cell (p:=⟨w.heap.size+1,0,none⟩) (by show lo≤w.heap.size+1; omega) (by show w.heap.size+1<_; omega)).trans q2) ((hW.cell (p:=⟨w.heap.size+2,0,none⟩) (by show lo≤w.heap.size+2; omega) (by show w.heap.size+2<_; omega)).trans q3) (n1.next hW) (n2.next hW) (n3.next hW) hf hs
section
variable {P:Program} {ops:Array Oper} {Q:Exit→Act→World→Prop} {md:Region.Mode} {W0:World}
def mL (P:Program) (ops:Array Oper) (W0:World) (o:Oper) (v:Value) (a:Act):Prop :=
 (Region.wanted o (yielded ops a.tmps)=true∧∀ n:dG W0,Oper.quietUpon P (fun w'=>Below n.now.heap.size n.now w') n.now v ((execOp a.eval o).run P n.now)) ∨
 (Region.wanted o (yielded ops a.tmps)=false∧v=undef)
theorem mL.of_same {o:Oper} {v:Value} {a a':Act} (hy:mL P ops W0 o v a) (he:execOp a'.eval o=execOp a.eval o)
  (hw:Region.wanted o (yielded ops a'.tmps)=Region.wanted o (yielded ops a.tmps)):mL P ops W0 o v a':=by
 unfold mL at *;rw [he,hw];exact hy
theorem mL.wpOp {i:Nat} {o:Oper} {v:Value} {a:Act} (hi:ops[i]? = some o) (hy:mL P ops W0 o v a)
  {K:Act→World→Prop} {w:World} (hB:Below W0.heap.size W0 w) (h:∀ w',Below w.heap.size w w'→K (a.put o.dst v) w'):wpOp P ops Q i K a w:=by
 unfold Go.wpOp;simp only [hi];rcases hy with ⟨hw,hv⟩ | ⟨hw,rfl⟩
 ·simp only [hw,if_true];left;have h3:=hv ⟨w,hB⟩;unfold Oper.wp;simp only at h3;generalize (execOp a.eval o).run P w=r at *;cases r with
  | ok n w' =>
   cases n <;> simp only [Oper.quietUpon] at h3 <;> simp only [Oper.upon]
   case value u =>
    obtain ⟨e1,e2⟩:=h3;rw [e1,e2];exact h _ (Md _ _)
   case skip =>
    obtain ⟨e1,e2⟩:=h3;rw [e1,← e2];exact h _ (Md _ _)
   case enter f args =>
    obtain ⟨e1,hc⟩:=h3;rw [e1];exact hc.mono fun e w'' ⟨he,hw''⟩=>by subst he; exact h _ hw''
  | halt x w'=>simp only [Oper.quietUpon] at h3
 ·simp only [hw,Nq,if_false];exact h _ (Md _ _)
theorem Ck {Φ:Act→Prop} {j:Nat} {oi oj:Oper} {v:Value} (hj:ops[j]? = some oj) (hap:oi.apart ops oj=true)
  (hsj:∀ cs b,oj.op ≠ .select cs b) (hQ:∀ c a w,Q (.panic c) (a.put oi.dst v) w→Q (.panic c) a w)
  (iF:∀ (a:Act),Φ a→∀ u,Φ (a.put oj.dst u)) (keepD:∀ (a:Act) (d:Deferred),Φ a→Φ { a with defers:=d :: a.defers })
  {K:Act→World→Prop} {a:Act} {w:World} (hy:Φ a) (h:wpOp P ops Q j K (a.put oi.dst v) w) :
  wpOp P ops Q j (fun a' w'=>Φ a'∧K (a'.put oi.dst v) w') a w:=by
 obtain ⟨h1,h2,_⟩:=Oper.apart_spec hap;unfold wpOp at *;simp only [hj] at *;rw [wanted_put oj a oi.dst v h1] at h
 split
 ·rename_i hw
  simp only [hw,if_true] at h;rcases h with h | ⟨hasks,hlets⟩
  case inr=>exact .inr ⟨by unfold Oper.asks at *; rw [execOp_put oj hsj a oi.dst v h1] at hasks; exact hasks,hlets⟩
  refine .inl ?_;unfold Oper.wp at *;rw [execOp_put oj hsj a oi.dst v h1] at h;generalize (execOp a.eval oj).run P w=r at *;cases r with
  | ok n w' =>
   cases n <;> simp only [Oper.upon] at h ⊢
   case value u=>exact ⟨iF a hy u,by rw [← Act.put_comm a v u h2]; exact h⟩
   case skip=>exact ⟨iF a hy _,by rw [← Act.put_comm a v undef h2]; exact h⟩
   case defer d =>
    refine ⟨iF _ (keepD a d hy) _,?_⟩;rw [← Act.put_comm _ v undef h2,← Act.put_defers];exact h
   case enter f args =>
    refine Calls.mono h fun e w'' he=>?_
    cases e with
    | returned u=>exact ⟨iF a hy u,by rw [← Act.put_comm a v u h2]; exact he⟩
    | panicked c=>exact hQ _ _ _ he
    | outgrown=>exact he
   case row row args=>exact Rows.mono h fun u w'' he=>⟨iF a hy u,by rw [← Act.put_comm a v u h2]; exact he⟩
  | halt x w' =>
   cases x <;> simp only [Oper.upon] at h ⊢
   case panic u=>exact hQ _ _ _ h
 ·rename_i hw
  simp only [hw] at h;exact ⟨iF a hy _,by rw [← Act.put_comm a v undef h2]; exact h⟩
def xv (P:Program) (md:Region.Mode) (ops:Array Oper) (Q:Exit→Act→World→Prop) (W0:World):Nat→Array Bool→Act→World→Prop
 | 0,listed,a,w=>Region.ready md ops listed = []∧∀ w',Below w.heap.size w w'→Q .normal a w'
 | fuel+1,listed,a,w=>∀ w',Below w.heap.size w w'→(Region.ready md ops listed = []→Q .normal a w') ∧
  ∀ i ∈ Region.ready md ops listed,wpOp P ops Q i (fun a' w''=>Below W0.heap.size W0 w''∧xv P md ops Q W0 fuel (listed.setIfInBounds i true) a' w'') a w'
theorem xv.cG:∀ (fuel:Nat) {listed:Array Bool} {a:Act} {w w1:World},xv P md ops Q W0 fuel listed a w→Below w.heap.size w w1→xv P md ops Q W0 fuel listed a w1
 | 0,_,_,_,_,h,hb=>⟨h.1,fun w' hw'=>h.2 w' (chain hb hw')⟩
 | _+1,_,_,_,_,h,hb=>fun w' hw'=>h w' (chain hb hw')
theorem j7:∀ (fuel:Nat) (listed:Array Bool) (a:Act) (w:World),xv P md ops Q W0 fuel listed a w→wpAny P md ops Q fuel listed a w
 | 0,_,_,_,h=>⟨h.1,h.2 _ (Md _ _)⟩
 | fuel+1,_,_,w,h=>⟨(h w (Md _ _)).1,fun i hi=>wpOp_mono (fun a' w' h'=>j7 fuel _ a' w' h'.2) ((h w (Md _ _)).2 i hi)⟩
theorem BY {i:Nat} {oi:Oper} {v:Value} (hi:ops[i]? = some oi) (hsel:∀ (j:Nat) (o:Oper) cs b,ops[j]? = some o→o.op ≠ .select cs b)
  (hQ:∀ c a w,Q (.panic c) (a.put oi.dst v) w→Q (.panic c) a w) :
  ∀ (fuel:Nat) (listed:Array Bool) (a:Act) (w:World),
   (∀ j oj,ops[j]? = some oj→j≠i→listed.getD j true=false→(∀ e ∈ oj.after,Region.binds md e=true→e.on≠i)→oi.apart ops oj=true) →
   i ∈ Region.ready md ops listed→mL P ops W0 oi v a→Below W0.heap.size W0 w →
   xv P md ops Q W0 fuel (listed.setIfInBounds i true) (a.put oi.dst v) w→xv P md ops Q W0 (fuel+1) listed a w:=by
 intro fuel
 induction fuel with
 | zero =>
  intro listed a w _ hr hy hB H w' hw';refine ⟨fun h=>(by rw [h] at hr; cases hr),fun j hj=>?_⟩;by_cases hji:j=i
  ·subst hji;exact hy.wpOp hi (chain hB hw') fun w'' hw''=>⟨chain (chain hB hw') hw'',H.cG 0 (chain hw' hw'')⟩
  ·have:=ready_mono hj hji;rw [H.1] at this;cases this
 | succ fuel ih =>
  intro listed a w hfree hr hy hB H w' hw';refine ⟨fun h=>(by rw [h] at hr; cases hr),fun j hj=>?_⟩;by_cases hji:j=i
  ·subst hji;exact hy.wpOp hi (chain hB hw') fun w'' hw''=>⟨chain (chain hB hw') hw'',H.cG (fuel+1) (chain hw' hw'')⟩
  ·have h1:=(H w' hw').2 j (ready_mono hj hji);obtain ⟨hjun,oj,hoj,hall⟩:=mem_ready.1 hj;have hnot:∀ e ∈ oj.after,Region.binds md e=true→e.on≠i:=fun e he hb heq=>by
    have h1:=hall e he hb;have h0:=(mem_ready.1 hr).1;rw [heq] at h1;rcases ME i listed.size with h' | h'
    ·simp [h'] at h0 h1; rw [h0] at h1; cases h1
    ·simp [M3 h'] at h1
   have hap:=hfree j oj hoj hji hjun hnot;obtain ⟨_,_,h3⟩:=Oper.apart_spec hap;have h2:=Ck (Φ:=mL P ops W0 oi v) hoj hap (fun cs b=>hsel j oj cs b hoj) hQ
    (fun a hy u=>hy.of_same (execOp_put oi (fun cs b=>hsel i oi cs b hi) a oj.dst u h3) (wanted_put oi a oj.dst u h3)) (fun a d hy=>hy.of_same rfl rfl) hy h1
   have hfree':∀ k ok,ops[k]? = some ok→k≠i→(listed.setIfInBounds j true).getD k true=false →
     (∀ e ∈ ok.after,Region.binds md e=true→e.on≠i)→oi.apart ops ok=true:=fun k ok hk hki hun hno=>by
    refine hfree k ok hk hki ?_ hno;by_cases hjk:j=k
    ·subst hjk; exact hjun
    ·rw [getD_set_ne true hjk] at hun; exact hun
   refine wpOp_mono (fun a' w'' h4=>⟨h4.2.1,ih (listed.setIfInBounds j true) a' w'' hfree' (ready_mono hr (Ne.symm hji)) h4.1 h4.2.1 ?_⟩) h2;rw [Array.setIfInBounds_comm _ _ hji];exact h4.2.2
theorem Ev {i:Nat} {oi:Oper} {v:Value} {fuel:Nat} {listed:Array Bool} {a:Act} {w:World} (d:Option Tmp) (hi:ops[i]? = some oi) (hd:oi.dst=d)
  (hs:Region.noSelect ops=true) (hf:Region.free md ops listed i=true) (hr:(Region.ready md ops listed).contains i=true)
  (hQ:∀ c a w,Q (.panic c) (a.put oi.dst v) w→Q (.panic c) a w) (hy:mL P ops W0 oi v a) (hB:Below W0.heap.size W0 w)
  (h:xv P md ops Q W0 fuel (listed.setIfInBounds i true) (a.put d v) w):xv P md ops Q W0 (fuel+1) listed a w:=by
 subst hd;exact BY hi (Region.noSelect_spec hs) hQ fuel listed a w (Region.free_spec hi hf) (by simpa using hr) hy hB h
theorem et (d i:Nat) (v:Value) {oi:Oper} {fuel:Nat} {listed:Array Bool} {a:Act} {w:World} (hn:∀ n:dG W0,Oper.quietUpon P (fun w'=>Below n.now.heap.size n.now w') n.now v ((execOp a.eval oi).run P n.now)) (hB:Below W0.heap.size W0 w)
 (h:xv P md ops Q W0 fuel (listed.setIfInBounds i true) (a.put (some d) v) w) (hi:ops[i]? = some oi:=by exact rfl) (hd:oi.dst=some d:=by exact rfl)
 (hs:Region.noSelect ops=true:=by kernel_rfl) (hf:Region.free md ops listed i=true:=by kernel_rfl) (hr:(Region.ready md ops listed).contains i=true:=by kernel_rfl)
 (hQ:∀ c a w,Q (.panic c) (a.put oi.dst v) w→Q (.panic c) a w:=by exact fun _ _ _ h=>h) (hw:Region.wanted oi (yielded ops a.tmps)=true:=by exact rfl):xv P md ops Q W0 (fuel+1) listed a w:=Ev (some d) hi hd hs hf hr hQ (Or.inl ⟨hw,hn⟩) hB h
theorem fT {rs:List Nat} {fuel:Nat} {listed:Array Bool} {a:Act} {w:World} (hr:Region.ready md ops listed=rs) (hne:rs ≠ [])
  (h:∀ w',Below w.heap.size w w'→∀ i ∈ rs,wpOp P ops Q i (fun a' w''=>Below W0.heap.size W0 w''∧xv P md ops Q W0 fuel (listed.setIfInBounds i true) a' w'') a w'):xv P md ops Q W0 (fuel+1) listed a w :=
 fun w' hw'=>⟨fun h0=>absurd (hr ▸ h0) hne,hr ▸ h w' hw'⟩
theorem mV {listed:Array Bool} {a:Act} {w:World} (hr:Region.ready md ops listed = []) (h:∀ w',Below w.heap.size w w'→Q .normal a w'):xv P md ops Q W0 0 listed a w:=⟨hr,h⟩
theorem qE {id:Nat} {a:Act} {w:World} (W0:World) (hm:P.follows .mixedOrders=true)
  (h:xv P .any ops Q W0 ops.size (Array.replicate ops.size false) a w.drew):(Code.region id ops true).wp P Q a w :=
 wp_region_any hm (j7 _ _ _ _ h)
theorem jg {id:Nat} {a:Act} {w:World} (hm:P.follows .mixedOrders=true)
  (h:xv P .any ops Q w ops.size (Array.replicate ops.size false) a w.drew):(Code.region id ops true).wp P Q a w :=
 wp_region_any hm (j7 _ _ _ _ h)
end
def lV (af:List Int) (lo:Nat) (W:World) (kb:Nat) (ks:List Ex):Prop :=
 ∃ K,lo≤kb∧kb<W.heap.size∧lo≤K∧K<W.heap.size∧W.cell? ⟨kb,0,none⟩=some (.slice (some ⟨K,0,none⟩) ks.length ks.length) ∧
  ∀ (i:Nat) (h:i<ks.length),∃ u,W.cell? ⟨K,i,none⟩=some u∧gr af lo u (fun row=>aW row ks[i]) W
theorem lV.next {af:List Int} {lo:Nat} {W w1:World} {kb:Nat} {ks:List Ex} (h:lV af lo W kb ks) (hb:Since lo W w1):lV af lo w1 kb ks:=by
 obtain ⟨K,h1,h2,h3,h4,h5,h6⟩:=h;refine ⟨K,h1,Mh h2 hb.1,h3,Mh h4 hb.1,(hb.cell (p:=⟨kb,0,none⟩) h1 h2).trans h5,fun i hi=>?_⟩;obtain ⟨u,c,a⟩:=h6 i hi;exact ⟨u,(hb.cell (p:=⟨K,i,none⟩) h3 h4).trans c,a.next hb⟩
theorem BZ (af:List Int) (lo:Nat) (kb:Nat) (ks:List Ex) (a:Option Addr) (row:List Vl) (cap:Nat) (W:World) (hK:lV af lo W kb ks) (hn:0<ks.length) (hf:fM af row) (hs:bg W a row) :
  Calls Tryz.prog 171 #[.slice a row.length cap,.pointer (some ⟨kb,0,none⟩)] W fun e w'=>e = .returned (fW (lv (aW row ks[0])))∧Below W.heap.size W w':=by
 have hal:=aa W (.cells #[.int .i64 0,.int .i64 0,.string ⟨#[]⟩] 24);have R:=gu.new W (.int .i64 0) (.int .i64 0) (.string ⟨#[]⟩) 24;obtain ⟨K,k1,k2,k3,k4,k5,k6⟩:=hK.next (Since.of hal);obtain ⟨u0,c0,a0⟩:=k6 0 hn;obtain ⟨g,cb,rfl,eg,d⟩:=a0;have d:=d row a cap _ hf (hs.next hal) (Since.refl _ _);dsimp only at d;have hn':(0:Int)<(ks.length:Int):=by omega
 have e:lv (aW row ks[0])=(tk (pM (cls (aW row ks[0]).1 (aW row ks[0]).2.1)),tn (pM (cls (aW row ks[0]).1 (aW row ks[0]).2.1)),⟨#[]⟩):=rfl;rw [e];clear e k6 hK;generalize aW row ks[0]=v0 at *;go_enter Tryz.func171,Tryz.ntmps171;go_wp2_with (go_at_fn g; refine d.mono ?_; rintro e w1 ⟨rfl,hb1⟩)
 have hA:=chain hal hb1;have R:=R.next hb1;clear d c0 k5;go_wp2_with fail
 refine (AM _ _ _ _).mono ?_;rintro e w2 ⟨rfl,hb2⟩;have hA:=chain hA hb2;have ⟨r0,r1,r2,r3,r4,r5,r6⟩:=R.next hb2;go_wp2
 exact Me (v:=.agg #[.int .i64 (tk (pM (cls v0.1 v0.2.1))),.int .i64 (tn (pM (cls v0.1 v0.2.1))),.string ⟨#[]⟩]) (by simp [results,Tryz.results171,go_sem,r1,r2,r3]) rfl ⟨rfl,aF hA (Mc _)⟩
theorem DG (af:List Int) (lo:Nat) (kb:Nat) (ks:List Ex) (a:Option Addr) (row:List Vl) (cap:Nat) (W:World) (hK:lV af lo W kb ks) (hn:0<ks.length) (hf:fM af row) (hs:bg W a row) :
  Calls Tryz.prog 173 #[.slice a row.length cap,.pointer (some ⟨kb,0,none⟩)] W fun e w'=>e = .returned (fW (om (some ((aW row ks[0]).1 == 1))))∧Below W.heap.size W w':=by
 have hal:=aa W (.cells #[.int .i64 0,.int .i64 0,.string ⟨#[]⟩] 24);have R:=gu.new W (.int .i64 0) (.int .i64 0) (.string ⟨#[]⟩) 24;obtain ⟨K,k1,k2,k3,k4,k5,k6⟩:=hK.next (Since.of hal);obtain ⟨u0,c0,a0⟩:=k6 0 hn;obtain ⟨g,cb,rfl,eg,d⟩:=a0;have d:=d row a cap _ hf (hs.next hal) (Since.refl _ _);dsimp only at d;have hn':(0:Int)<(ks.length:Int):=by omega
 have e:om (some ((aW row ks[0]).1 == 1))=(2,tn (some ((aW row ks[0]).1 == 1)),⟨#[]⟩):=rfl;rw [e];clear e k6 hK;generalize aW row ks[0]=v0 at *;go_enter Tryz.func173,Tryz.ntmps173;go_wp2_with (go_at_fn g; refine d.mono ?_; rintro e w1 ⟨rfl,hb1⟩)
 have hA:=chain hal hb1;have R:=R.next hb1;clear d c0 k5;go_wp2_with fail
 refine (oo _ _ _ _).mono ?_;rintro e w2 ⟨rfl,hb2⟩;have hA:=chain hA hb2;have R:=R.next hb2;go_wp2_with fail
 refine (qY _ _).mono ?_;rintro e w3 ⟨rfl,hb3⟩;have hA:=chain hA hb3;have ⟨r0,r1,r2,r3,r4,r5,r6⟩:=R.next hb3;go_wp2
 exact Me (v:=.agg #[.int .i64 2,.int .i64 (tn (some (v0.1 == 1))),.string ⟨#[]⟩]) (by simp [results,Tryz.results173,go_sem,r1,r2,r3]) rfl ⟨rfl,aF hA (Mc _)⟩
theorem Dl (af:List Int) (lo:Nat) (kb db:Nat) (k:Int) (ks:List Ex) (a:Option Addr) (row:List Vl) (cap:Nat) (W:World) (ud:Value) (cd:W.cell? ⟨db,0,none⟩=some ud) (F:rB lo ud (nG k) W)
  (hK:lV af lo W kb ks) (hn:1<ks.length) (hf:fM af row) (hs:bg W a row) (g0:bt (aW row ks[0])=0) (g1:bt (aW row ks[1])=0) :
  Calls Tryz.prog 177 #[.slice a row.length cap,.pointer (some ⟨db,0,none⟩),.pointer (some ⟨kb,0,none⟩)] W fun e w'=>e = .returned (fW (nG k (aW row ks[0]) (aW row ks[1])))∧Below W.heap.size W w':=by
 have hal:=aa W (.cells #[.int .i64 0,.int .i64 0,.string ⟨#[]⟩] 24);have R:=gu.new W (.int .i64 0) (.int .i64 0) (.string ⟨#[]⟩) 24;obtain ⟨K,k1,k2,k3,k4,k5,k6⟩:=hK;obtain ⟨u0,c0,a0⟩:=k6 0 (by omega);obtain ⟨u1,c1,a1⟩:=k6 1 hn;obtain ⟨h0,cb0,rfl,eg0,d0⟩:=a0;obtain ⟨h1,cb1,rfl,eg1,d1⟩:=a1;obtain ⟨h2,cb2,rfl,eg2,d2⟩:=F;have d0:=fun n:dG W=>d0 row a cap n.now hf (hs.next n.ok) (Since.of n.ok)
 have d1:=fun n:dG W=>d1 row a cap n.now hf (hs.next n.ok) (Since.of n.ok)
 dsimp only at d0 d1;have d2:=fun n:dG W=>d2 (aW row ks[0]) (aW row ks[1]) n.now g0 g1 (Since.of n.ok)
 have n0:0<ks.length:=by omega
 have l0:(0:Int)<(ks.length:Int):=by omega
 have l1:(1:Int)<(ks.length:Int):=by omega
 have p0:=aq cd;have p1:=aq k5;have p2:=aq c0;have p3:=aq c1;generalize hr:nG k (aW row ks[0]) (aW row ks[1])=r at *;generalize aW row ks[0]=v0 at *;generalize aW row ks[1]=v1 at *;clear k6 hr;go_enter Tryz.func177,Tryz.ntmps177;go_wp2_with fail
 generalize W.alloc (.cells #[.int .i64 0,.int .i64 0,.string ⟨#[]⟩] 24)=w0 at *;have hB0:Below W.heap.size W w0.drew:=hal.drew;refine qE W (by kernel_rfl) ?_;refine et 5 0 (.func (.func h2) #[] cb2) (fun n=>?_) hB0 ?_
 ·go_simp
 simp only [pD,pB,pC];refine et 6 1 (.slice (some ⟨K,0,none⟩) ks.length ks.length) (fun n=>?_) hB0 ?_
 ·go_simp
 simp only [pD,pB,pC];refine et 7 2 (.pointer (some ⟨K,0,none⟩)) (fun n=>?_) hB0 ?_
 ·go_simp
 simp only [pD,pB,pC];refine et 8 3 (.func (.func h0) #[] cb0) (fun n=>?_) hB0 ?_
 ·go_simp
 simp only [pD,pB,pC];refine et 9 4 (.slice a row.length cap) (fun n=>?_) hB0 ?_
 ·go_simp
 simp only [pD,pB,pC];refine et 11 6 (.slice (some ⟨K,0,none⟩) ks.length ks.length) (fun n=>?_) hB0 ?_
 ·go_simp
 simp only [pD,pB,pC];refine et 12 7 (.pointer (some ⟨K,1,none⟩)) (fun n=>?_) hB0 ?_
 ·go_simp
 simp only [pD,pB,pC];refine et 13 8 (.func (.func h1) #[] cb1) (fun n=>?_) hB0 ?_
 ·go_simp
 simp only [pD,pB,pC];refine et 14 9 (.slice a row.length cap) (fun n=>?_) hB0 ?_
 ·go_simp
 simp only [pD,pB,pC];refine et 10 5 (fW v0) (fun n=>?_) hB0 ?_
 ·go_simp
 simp only [pD,pB,pC];refine et 15 10 (fW v1) (fun n=>?_) hB0 ?_
 ·go_simp
 simp only [pD,pB,pC];refine et 16 11 (fW r) (fun n=>?_) hB0 ?_
 ·go_simp
 simp only [pD,pB,pC];clear p0 p1 p2 p3 d0 d1 d2;refine fT (rs:=[12]) (by kernel_rfl) (by simp) ?_;intro w12 hb12 j hj;obtain rfl:j=12:=by simpa using hj
 clear hj;have D12:=hB0.trans (hb12.mono hB0.size);have R12:=(R.next ((Md _ _).drew)).next hb12;have P12:=R12.La (.int .i64 r.1) (.int .i64 r.2.1) (.string r.2.2);have ⟨b0,b1,b2,b3,b4,b5,b6⟩:=R12;refine wpOp_step rfl (fun K hK=>?_);go_simp;refine hK _ _ ⟨aF D12 (Mc _),?_⟩;clear hK K;refine mV (by kernel_rfl) ?_;intro w13 hb13;have D13:=(aF D12 (Mc _) (x:=.int .i64 r.1) (y:=.int .i64 r.2.1) (z:=.string r.2.2)).trans (hb13.mono (aF D12 (Mc _)).size);have ⟨g0,g1,g2,g3,g4,g5,g6⟩:=P12.next hb13;clear b0 b1 b2 b3 b4 b5 b6
 go_wp2
 exact Me (v:=fW r) (by simp [results,Tryz.results177,go_sem,g1,g2,g3]) rfl ⟨rfl,D13⟩
def bG (B:Nat) (W:World) (a:Option Addr) (l:List Int):Prop :=
 l.length≤maxLen∧(l = []∨∃ b off,a=some ⟨b,off,none⟩∧b<B∧∀ (i:Nat) (h:i<l.length),W.cell? ⟨b,off+i,none⟩=some (.int .i64 l[i]))
theorem bG.next {B B':Nat} {W w1:World} {a:Option Addr} {l:List Int} (h:bG B W a l) (hb:Below B' W w1) (hB:B≤B'):bG B w1 a l:=by
 obtain ⟨h0,h | ⟨b,off,e,hlt,hr⟩⟩:=h
 ·exact ⟨h0,.inl h⟩
 ·exact ⟨h0,.inr ⟨b,off,e,hlt,fun i hi=>(hb.cell (p:=⟨b,_,none⟩) (Mh hlt hB)).trans (hr i hi)⟩⟩
theorem bG.up {B B':Nat} {W:World} {a:Option Addr} {l:List Int} (h:bG B W a l) (hB:B≤B'):bG B' W a l:=by
 obtain ⟨h0,h | ⟨b,off,e,hlt,hr⟩⟩:=h
 ·exact ⟨h0,.inl h⟩
 ·exact ⟨h0,.inr ⟨b,off,e,Mh hlt hB,hr⟩⟩
theorem bG.elem {B:Nat} {W:World} {a:Option Addr} {l:List Int} (h:bG B W a l) {k:Nat} (hk:k<l.length) :
  ∃ b off,a=some ⟨b,off,none⟩∧b<B∧W.cell? ⟨b,off+k,none⟩=some (.int .i64 l[k]):=by
 obtain ⟨_,h | ⟨b,off,e,hlt,hr⟩⟩:=h
 ·subst h; simp at hk
 ·exact ⟨b,off,e,hlt,hr k hk⟩
theorem Ec (t:Int) (l:List Int) (k:Nat) (h:l.length≤k):cS t (l.drop k)=some t:=by rw [MG h]; simp [cS]
theorem Ia (t:Int) (l:List Int) (k:Nat) (h:k<l.length) (e:rC l[k] t=none):cS t (l.drop k)=none:=by
 rw [Mi h,cS,List.all_cons,e]; rfl
theorem DL (t:Int) (l:List Int) (k:Nat) (h:k<l.length) {u:Int} (e:rC l[k] t=some u):cS t (l.drop k)=cS t (l.drop (k+1)):=by
 rw [Mi h,cS,List.all_cons,e,cS]; rfl
theorem iK (t:Int) (B:Nat) (a:Option Addr) (cap:Nat) (l:List Int) (w:World) (hB:B≤w.heap.size) (h:bG B w a l) :
  Calls Tryz.prog 160 #[.int .i64 t,.slice a l.length cap] w fun e w'=>e = .returned (.tuple #[.int .i64 (dB (cS t l)).1,.int .i64 (dB (cS t l)).2])∧Below w.heap.size w w':=by
 have hl:=h.1;unfold maxLen at hl;go_enter Tryz.func160,Tryz.ntmps160;go_wp2_with fail
 go_loopw [12] (fun i wr=>∃ k:Nat,k≤l.length∧i = .int .i64 k∧Hid (cS t l=cS t (l.drop k))∧Below w.heap.size w wr) (fun i _=>l.length - (intOf i).toNat)
 case atStart=>exact ⟨0,Mj _,rfl,rfl,Md _ _⟩
 case round =>
  obtain ⟨k,hk,rfl,HE,hb⟩:=hrel;by_cases hlt:k<l.length
  ·obtain ⟨b,off,rfl,hbl,c⟩:=(h.next hb hB).elem hlt;rcases ht:rC l[k] t with _ | u
   ·have hR:bR l[k] t=(0,9):=by simp [bR,ht,dB]
    have HT:=aw ht;clear ht;go_wp2_with fail
    refine (cn _ _ _).mono ?_;rintro e w1 ⟨rfl,hb1⟩;simp only [hR];go_wp2
    exact Me (v:=.tuple #[.int .i64 0,.int .i64 9]) (by simp [results,Tryz.results160,go_sem]) rfl ⟨by rw [HE.out,Ia t l k hlt HT.out]; rfl,chain hb hb1⟩
   ·have hR:bR l[k] t=(u,0):=by simp [bR,ht,dB]
    have HT:=aw ht;clear ht;go_wp2_with fail
    refine (cn _ _ _).mono ?_;rintro e w1 ⟨rfl,hb1⟩;simp only [hR];go_wp2
    go_roundw
    case rel=>exact ⟨k+1,by omega,by go_num,HE.out.trans (DL t l k hlt HT.out),chain hb hb1⟩
    case measure=>simp [intOf]; omega
  ·go_wp2
   exact Me (v:=.tuple #[.int .i64 t,.int .i64 0]) (by simp [results,Tryz.results160,go_sem]) rfl ⟨by rw [HE.out,Ec t l k (by omega)]; rfl,hb⟩
theorem zd (B:Nat) (a:Option Addr) (cap:Nat) (l:List Int) (c:Int) (w:World) (h:bG B w a l) :
  Calls Tryz.prog 129 #[.slice a l.length cap,.int .i64 c] w fun e w'=>e = .returned (.tuple #[.int .i64 (kW l c).1,.int .i64 (kW l c).2])∧Below w.heap.size w w':=by
 by_cases h1:c<0
 ·have e:kW l c=(0,7):=by simp [kW,h1]
  rw [e];go_enter Tryz.func129,Tryz.ntmps129;go_wp2
  exact Me (v:=.tuple #[.int .i64 0,.int .i64 7]) (by simp [results,Tryz.results129,go_sem]) rfl ⟨rfl,Md _ _⟩
 by_cases h2:l.length≤c
 ·have e:kW l c=(0,7):=by simp [kW,h2]
  rw [e];go_enter Tryz.func129,Tryz.ntmps129;go_wp2
  exact Me (v:=.tuple #[.int .i64 0,.int .i64 7]) (by simp [results,Tryz.results129,go_sem]) rfl ⟨rfl,Md _ _⟩
 obtain ⟨j,rfl⟩:∃ j:Nat,c=j:=⟨c.toNat,by omega⟩
 have hj:j<l.length:=by omega
 have e:kW l j=(l[j],0):=by simp [kW,h2,List.getD,hj]
 rw [e];obtain ⟨b,off,rfl,hbl,cc⟩:=h.elem hj;go_enter Tryz.func129,Tryz.ntmps129;go_wp2
 exact Me (v:=.tuple #[.int .i64 l[j],.int .i64 0]) (by simp [results,Tryz.results129,go_sem]) rfl ⟨rfl,Md _ _⟩
theorem zx (v:Vl) (w:World) :
  Calls Tryz.prog 128 #[fW v] w fun e w'=>e = .returned (.tuple #[.int .i64 (mT v).1,.int .i64 (mT v).2])∧Below w.heap.size w w':=by
 obtain ⟨k,n,s⟩:=v;by_cases h:aU k n s=0
 ·have e:mT (k,n,s)=(k,0):=by simp [mT,bt,h]
  rw [e];clear e;go_enter Tryz.func128,Tryz.ntmps128;go_wp2_with fail
  have A0:=gu.new w (.int .i64 k) (.int .i64 n) (.string s) 24;refine (iy _ _ _ _).mono ?_;rintro e w1 ⟨rfl,hb1⟩;rw [h];have ⟨a0,a1,a2,a3,a4,a5,a6⟩:=A0.next hb1;go_wp2
  exact Me (v:=.tuple #[.int .i64 k,.int .i64 0]) (by simp [results,Tryz.results128,go_sem]) rfl ⟨rfl,kO hb1⟩
 ·have e:mT (k,n,s)=(0,aU k n s):=by simp [mT,bt,h]
  rw [e];clear e;go_enter Tryz.func128,Tryz.ntmps128;go_wp2_with fail
  refine (iy _ _ _ _).mono ?_;rintro e w1 ⟨rfl,hb1⟩;have q:(aU k n s != 0)=true:=by simpa using h
  go_wp2
  exact Me (v:=.tuple #[.int .i64 0,.int .i64 (aU k n s)]) (by simp [results,Tryz.results128,go_sem]) rfl ⟨rfl,kO hb1⟩
theorem yT (B:Nat) (a:Option Addr) (cap:Nat) (ts:List Int) (w:World) (hB:B≤w.heap.size) (h:bG B w a ts) :
  Calls Tryz.prog 130 #[.int .i64 3,.slice a ts.length cap] w fun e w'=>e = .returned (.tuple #[.int .i64 (dB (cS 2 ts)).1,.int .i64 (dB (cS 2 ts)).2])∧Below w.heap.size w w':=by
 have con:=iK 2 B a cap ts w hB h;generalize dB (cS 2 ts)=r at *;generalize ts.length=n at *;clear h;go_enter Tryz.func130,Tryz.ntmps130;go_wp2_with fail
 refine con.mono ?_;rintro e w1 ⟨rfl,hb1⟩;go_wp2
 exact Me (v:=.tuple #[.int .i64 r.1,.int .i64 r.2]) (by simp [results,Tryz.results130,go_sem]) rfl ⟨rfl,hb1⟩
theorem Ab (B:Nat) (a:Option Addr) (cap:Nat) (ts:List Int) (w:World) (hB:B≤w.heap.size) (h:bG B w a ts) :
  Calls Tryz.prog 130 #[.int .i64 4,.slice a ts.length cap] w fun e w'=>e = .returned (.tuple #[.int .i64 (dB (cS 2 ts)).1,.int .i64 (dB (cS 2 ts)).2])∧Below w.heap.size w w':=by
 have con:=iK 2 B a cap ts w hB h;generalize dB (cS 2 ts)=r at *;generalize ts.length=n at *;clear h;go_enter Tryz.func130,Tryz.ntmps130;go_wp2_with fail
 refine con.mono ?_;rintro e w1 ⟨rfl,hb1⟩;go_wp2
 exact Me (v:=.tuple #[.int .i64 r.1,.int .i64 r.2]) (by simp [results,Tryz.results130,go_sem]) rfl ⟨rfl,hb1⟩
theorem yh (B:Nat) (a:Option Addr) (cap:Nat) (ts:List Int) (w:World) (hB:B≤w.heap.size) (h:bG B w a ts) :
  Calls Tryz.prog 130 #[.int .i64 5,.slice a ts.length cap] w fun e w'=>e = .returned (.tuple #[.int .i64 (dB (cS 2 ts)).1,.int .i64 (dB (cS 2 ts)).2])∧Below w.heap.size w w':=by
 have con:=iK 2 B a cap ts w hB h;generalize dB (cS 2 ts)=r at *;generalize ts.length=n at *;clear h;go_enter Tryz.func130,Tryz.ntmps130;go_wp2_with fail
 refine con.mono ?_;rintro e w1 ⟨rfl,hb1⟩;go_wp2
 exact Me (v:=.tuple #[.int .i64 r.1,.int .i64 r.2]) (by simp [results,Tryz.results130,go_sem]) rfl ⟨rfl,hb1⟩
theorem uM (B:Nat) (a:Option Addr) (cap:Nat) (ts:List Int) (w:World) (hB:B≤w.heap.size) (h:bG B w a ts) :
  Calls Tryz.prog 130 #[.int .i64 12,.slice a ts.length cap] w fun e w'=>e = .returned (.tuple #[.int .i64 (dB (cS 3 ts)).1,.int .i64 (dB (cS 3 ts)).2])∧Below w.heap.size w w':=by
 have con:=iK 3 B a cap ts w hB h;generalize dB (cS 3 ts)=r at *;generalize ts.length=n at *;clear h;go_enter Tryz.func130,Tryz.ntmps130;go_wp2_with fail
 refine con.mono ?_;rintro e w1 ⟨rfl,hb1⟩;go_wp2
 exact Me (v:=.tuple #[.int .i64 r.1,.int .i64 r.2]) (by simp [results,Tryz.results130,go_sem]) rfl ⟨rfl,hb1⟩
theorem wW (B:Nat) (a:Option Addr) (cap:Nat) (ts:List Int) (w:World) (hB:B≤w.heap.size) (h:bG B w a ts) :
  Calls Tryz.prog 130 #[.int .i64 13,.slice a ts.length cap] w fun e w'=>e = .returned (.tuple #[.int .i64 (dB (cS 3 ts)).1,.int .i64 (dB (cS 3 ts)).2])∧Below w.heap.size w w':=by
 have con:=iK 3 B a cap ts w hB h;generalize dB (cS 3 ts)=r at *;generalize ts.length=n at *;clear h;go_enter Tryz.func130,Tryz.ntmps130;go_wp2_with fail
 refine con.mono ?_;rintro e w1 ⟨rfl,hb1⟩;go_wp2
 exact Me (v:=.tuple #[.int .i64 r.1,.int .i64 r.2]) (by simp [results,Tryz.results130,go_sem]) rfl ⟨rfl,hb1⟩
theorem uZ (B:Nat) (a:Option Addr) (cap:Nat) (ts:List Int) (w:World) (hB:B≤w.heap.size) (h:bG B w a ts) :
  Calls Tryz.prog 130 #[.int .i64 14,.slice a ts.length cap] w fun e w'=>e = .returned (.tuple #[.int .i64 (dB (cS 3 ts)).1,.int .i64 (dB (cS 3 ts)).2])∧Below w.heap.size w w':=by
 have con:=iK 3 B a cap ts w hB h;generalize dB (cS 3 ts)=r at *;generalize ts.length=n at *;clear h;go_enter Tryz.func130,Tryz.ntmps130;go_wp2_with fail
 refine con.mono ?_;rintro e w1 ⟨rfl,hb1⟩;go_wp2
 exact Me (v:=.tuple #[.int .i64 r.1,.int .i64 r.2]) (by simp [results,Tryz.results130,go_sem]) rfl ⟨rfl,hb1⟩
theorem wb (B:Nat) (a:Option Addr) (cap:Nat) (ts:List Int) (w:World) (hB:B≤w.heap.size) (h:bG B w a ts) :
  Calls Tryz.prog 130 #[.int .i64 15,.slice a ts.length cap] w fun e w'=>e = .returned (.tuple #[.int .i64 (dB (cS 4 ts)).1,.int .i64 (dB (cS 4 ts)).2])∧Below w.heap.size w w':=by
 have con:=iK 4 B a cap ts w hB h;generalize dB (cS 4 ts)=r at *;generalize ts.length=n at *;clear h;go_enter Tryz.func130,Tryz.ntmps130;go_wp2_with fail
 refine con.mono ?_;rintro e w1 ⟨rfl,hb1⟩;go_wp2
 exact Me (v:=.tuple #[.int .i64 r.1,.int .i64 r.2]) (by simp [results,Tryz.results130,go_sem]) rfl ⟨rfl,hb1⟩
theorem wY (a:Option Addr) (n cap:Nat) (w:World) :
  Calls Tryz.prog 130 #[.int .i64 16,.slice a n cap] w fun e w'=>e = .returned (.tuple #[.int .i64 2,.int .i64 0])∧Below w.heap.size w w':=by
 go_enter Tryz.func130,Tryz.ntmps130;go_wp2
 exact Me (v:=.tuple #[.int .i64 2,.int .i64 0]) (by simp [results,Tryz.results130,go_sem]) rfl ⟨rfl,Md _ _⟩
theorem xR (b off cap:Nat) (x y:Int) (w:World) (c0:w.cell? ⟨b,off,none⟩=some (.int .i64 x)) (c1:w.cell? ⟨b,off+1,none⟩=some (.int .i64 y)) (r:Int × Int) (er:r=if (bR x y).2=0 then (2,0) else (0,(bR x y).2)) :
  Calls Tryz.prog 130 #[.int .i64 6,.slice (some ⟨b,off,none⟩) 2 cap] w fun e w'=>e = .returned (.tuple #[.int .i64 r.1,.int .i64 r.2])∧Below w.heap.size w w':=by
 have p0:=aq c0;have p1:=aq c1;haveI:Nonempty (dG w):=⟨⟨_,Md _ _⟩⟩
 go_enter Tryz.func130,Tryz.ntmps130;go_wp2_with fail
 refine aI (by kernel_rfl) (by kernel_rfl) ?_
 repeat (go_big_quiet_step (first | (go_at_call 132; exact du (cn x y _))))
 refine wpQuiet_nil ?_;rintro w3 ⟨⟨v3,hb3⟩,h3⟩;obtain rfl:w3=v3:=h3;clear p0 p1 c0 c1;generalize bR x y=t at *;obtain ⟨t1,t2⟩:=t;by_cases h0:t2=0
 ·subst h0;simp only [if_true] at er;subst er;go_wp2
  exact Me (v:=.tuple #[.int .i64 2,.int .i64 0]) (by simp [results,Tryz.results130,go_sem]) rfl ⟨rfl,hb3⟩
 ·simp only [h0,if_false] at er;subst er;have q:(t2 != 0)=true:=by simpa using h0
  go_wp2
  exact Me (v:=.tuple #[.int .i64 0,.int .i64 t2]) (by simp [results,Tryz.results130,go_sem]) rfl ⟨rfl,hb3⟩
theorem Ad (b off cap:Nat) (x y:Int) (w:World) (c0:w.cell? ⟨b,off,none⟩=some (.int .i64 x)) (c1:w.cell? ⟨b,off+1,none⟩=some (.int .i64 y)) (r:Int × Int) (er:r=if (bR x y).2=0 then (2,0) else (0,(bR x y).2)) :
  Calls Tryz.prog 130 #[.int .i64 7,.slice (some ⟨b,off,none⟩) 2 cap] w fun e w'=>e = .returned (.tuple #[.int .i64 r.1,.int .i64 r.2])∧Below w.heap.size w w':=by
 have p0:=aq c0;have p1:=aq c1;haveI:Nonempty (dG w):=⟨⟨_,Md _ _⟩⟩
 go_enter Tryz.func130,Tryz.ntmps130;go_wp2_with fail
 refine aI (by kernel_rfl) (by kernel_rfl) ?_
 repeat (go_big_quiet_step (first | (go_at_call 132; exact du (cn x y _))))
 refine wpQuiet_nil ?_;rintro w3 ⟨⟨v3,hb3⟩,h3⟩;obtain rfl:w3=v3:=h3;clear p0 p1 c0 c1;generalize bR x y=t at *;obtain ⟨t1,t2⟩:=t;by_cases h0:t2=0
 ·subst h0;simp only [if_true] at er;subst er;go_wp2
  exact Me (v:=.tuple #[.int .i64 2,.int .i64 0]) (by simp [results,Tryz.results130,go_sem]) rfl ⟨rfl,hb3⟩
 ·simp only [h0,if_false] at er;subst er;have q:(t2 != 0)=true:=by simpa using h0
  go_wp2
  exact Me (v:=.tuple #[.int .i64 0,.int .i64 t2]) (by simp [results,Tryz.results130,go_sem]) rfl ⟨rfl,hb3⟩
theorem yE (b off cap:Nat) (x y:Int) (w:World) (c0:w.cell? ⟨b,off,none⟩=some (.int .i64 x)) (c1:w.cell? ⟨b,off+1,none⟩=some (.int .i64 y)) (r:Int × Int) (er:r=if (bR x y).2=0 then (2,0) else (0,(bR x y).2)) :
  Calls Tryz.prog 130 #[.int .i64 8,.slice (some ⟨b,off,none⟩) 2 cap] w fun e w'=>e = .returned (.tuple #[.int .i64 r.1,.int .i64 r.2])∧Below w.heap.size w w':=by
 have p0:=aq c0;have p1:=aq c1;haveI:Nonempty (dG w):=⟨⟨_,Md _ _⟩⟩
 go_enter Tryz.func130,Tryz.ntmps130;go_wp2_with fail
 refine aI (by kernel_rfl) (by kernel_rfl) ?_
 repeat (go_big_quiet_step (first | (go_at_call 132; exact du (cn x y _))))
 refine wpQuiet_nil ?_;rintro w3 ⟨⟨v3,hb3⟩,h3⟩;obtain rfl:w3=v3:=h3;clear p0 p1 c0 c1;generalize bR x y=t at *;obtain ⟨t1,t2⟩:=t;by_cases h0:t2=0
 ·subst h0;simp only [if_true] at er;subst er;go_wp2
  exact Me (v:=.tuple #[.int .i64 2,.int .i64 0]) (by simp [results,Tryz.results130,go_sem]) rfl ⟨rfl,hb3⟩
 ·simp only [h0,if_false] at er;subst er;have q:(t2 != 0)=true:=by simpa using h0
  go_wp2
  exact Me (v:=.tuple #[.int .i64 0,.int .i64 t2]) (by simp [results,Tryz.results130,go_sem]) rfl ⟨rfl,hb3⟩
theorem zC (b off cap:Nat) (x y:Int) (w:World) (c0:w.cell? ⟨b,off,none⟩=some (.int .i64 x)) (c1:w.cell? ⟨b,off+1,none⟩=some (.int .i64 y)) (r:Int × Int) (er:r=if (bR x y).2=0 then (2,0) else (0,(bR x y).2)) :
  Calls Tryz.prog 130 #[.int .i64 9,.slice (some ⟨b,off,none⟩) 2 cap] w fun e w'=>e = .returned (.tuple #[.int .i64 r.1,.int .i64 r.2])∧Below w.heap.size w w':=by
 have p0:=aq c0;have p1:=aq c1;haveI:Nonempty (dG w):=⟨⟨_,Md _ _⟩⟩
 go_enter Tryz.func130,Tryz.ntmps130;go_wp2_with fail
 refine aI (by kernel_rfl) (by kernel_rfl) ?_
 repeat (go_big_quiet_step (first | (go_at_call 132; exact du (cn x y _))))
 refine wpQuiet_nil ?_;rintro w3 ⟨⟨v3,hb3⟩,h3⟩;obtain rfl:w3=v3:=h3;clear p0 p1 c0 c1;generalize bR x y=t at *;obtain ⟨t1,t2⟩:=t;by_cases h0:t2=0
 ·subst h0;simp only [if_true] at er;subst er;go_wp2
  exact Me (v:=.tuple #[.int .i64 2,.int .i64 0]) (by simp [results,Tryz.results130,go_sem]) rfl ⟨rfl,hb3⟩
 ·simp only [h0,if_false] at er;subst er;have q:(t2 != 0)=true:=by simpa using h0
  go_wp2
  exact Me (v:=.tuple #[.int .i64 0,.int .i64 t2]) (by simp [results,Tryz.results130,go_sem]) rfl ⟨rfl,hb3⟩
theorem vP (b off cap:Nat) (x y:Int) (w:World) (c0:w.cell? ⟨b,off,none⟩=some (.int .i64 x)) (c1:w.cell? ⟨b,off+1,none⟩=some (.int .i64 y)) (r:Int × Int) (er:r=if (bR x y).2=0 then (2,0) else (0,(bR x y).2)) :
  Calls Tryz.prog 130 #[.int .i64 10,.slice (some ⟨b,off,none⟩) 2 cap] w fun e w'=>e = .returned (.tuple #[.int .i64 r.1,.int .i64 r.2])∧Below w.heap.size w w':=by
 have p0:=aq c0;have p1:=aq c1;haveI:Nonempty (dG w):=⟨⟨_,Md _ _⟩⟩
 go_enter Tryz.func130,Tryz.ntmps130;go_wp2_with fail
 refine aI (by kernel_rfl) (by kernel_rfl) ?_
 repeat (go_big_quiet_step (first | (go_at_call 132; exact du (cn x y _))))
 refine wpQuiet_nil ?_;rintro w3 ⟨⟨v3,hb3⟩,h3⟩;obtain rfl:w3=v3:=h3;clear p0 p1 c0 c1;generalize bR x y=t at *;obtain ⟨t1,t2⟩:=t;by_cases h0:t2=0
 ·subst h0;simp only [if_true] at er;subst er;go_wp2
  exact Me (v:=.tuple #[.int .i64 2,.int .i64 0]) (by simp [results,Tryz.results130,go_sem]) rfl ⟨rfl,hb3⟩
 ·simp only [h0,if_false] at er;subst er;have q:(t2 != 0)=true:=by simpa using h0
  go_wp2
  exact Me (v:=.tuple #[.int .i64 0,.int .i64 t2]) (by simp [results,Tryz.results130,go_sem]) rfl ⟨rfl,hb3⟩
theorem vd (b off cap:Nat) (x y:Int) (w:World) (c0:w.cell? ⟨b,off,none⟩=some (.int .i64 x)) (c1:w.cell? ⟨b,off+1,none⟩=some (.int .i64 y)) (r:Int × Int) (er:r=if (bR x y).2=0 then (2,0) else (0,(bR x y).2)) :
  Calls Tryz.prog 130 #[.int .i64 11,.slice (some ⟨b,off,none⟩) 2 cap] w fun e w'=>e = .returned (.tuple #[.int .i64 r.1,.int .i64 r.2])∧Below w.heap.size w w':=by
 have p0:=aq c0;have p1:=aq c1;haveI:Nonempty (dG w):=⟨⟨_,Md _ _⟩⟩
 go_enter Tryz.func130,Tryz.ntmps130;go_wp2_with fail
 refine aI (by kernel_rfl) (by kernel_rfl) ?_
 repeat (go_big_quiet_step (first | (go_at_call 132; exact du (cn x y _))))
 refine wpQuiet_nil ?_;rintro w3 ⟨⟨v3,hb3⟩,h3⟩;obtain rfl:w3=v3:=h3;clear p0 p1 c0 c1;generalize bR x y=t at *;obtain ⟨t1,t2⟩:=t;by_cases h0:t2=0
 ·subst h0;simp only [if_true] at er;subst er;go_wp2
  exact Me (v:=.tuple #[.int .i64 2,.int .i64 0]) (by simp [results,Tryz.results130,go_sem]) rfl ⟨rfl,hb3⟩
 ·simp only [h0,if_false] at er;subst er;have q:(t2 != 0)=true:=by simpa using h0
  go_wp2
  exact Me (v:=.tuple #[.int .i64 0,.int .i64 t2]) (by simp [results,Tryz.results130,go_sem]) rfl ⟨rfl,hb3⟩
theorem vj (b off cap:Nat) (x y:Int) (w:World) (c0:w.cell? ⟨b,off,none⟩=some (.int .i64 x)) (c1:w.cell? ⟨b,off+1,none⟩=some (.int .i64 y)) :
  Calls Tryz.prog 130 #[.int .i64 18,.slice (some ⟨b,off,none⟩) 2 cap] w fun e w'=>e = .returned (.tuple #[.int .i64 (bR x y).1,.int .i64 (bR x y).2])∧Below w.heap.size w w':=by
 have p0:=aq c0;have p1:=aq c1;haveI:Nonempty (dG w):=⟨⟨_,Md _ _⟩⟩
 go_enter Tryz.func130,Tryz.ntmps130;go_wp2_with fail
 refine aI (by kernel_rfl) (by kernel_rfl) ?_
 repeat (go_big_quiet_step (first | (go_at_call 132; exact du (cn x y _))))
 refine wpQuiet_nil ?_;rintro w3 ⟨⟨v3,hb3⟩,h3⟩;obtain rfl:w3=v3:=h3;go_wp2
 exact Me (v:=.tuple #[.int .i64 (bR x y).1,.int .i64 (bR x y).2]) (by simp [results,Tryz.results130,go_sem]) rfl ⟨rfl,hb3⟩
theorem vp (b off cap:Nat) (x y z:Int) (w:World) (hb:b<w.heap.size) (c0:w.cell? ⟨b,off,none⟩=some (.int .i64 x)) (c1:w.cell? ⟨b,off+1,none⟩=some (.int .i64 y)) (c2:w.cell? ⟨b,off+2,none⟩=some (.int .i64 z)) (r:Int × Int) (er:r=if (bR x 2).2=0 then bR y z else (0,(bR x 2).2)) :
  Calls Tryz.prog 130 #[.int .i64 17,.slice (some ⟨b,off,none⟩) 3 cap] w fun e w'=>e = .returned (.tuple #[.int .i64 r.1,.int .i64 r.2])∧Below w.heap.size w w':=by
 go_enter Tryz.func130,Tryz.ntmps130;go_wp2_with fail
 refine (cn _ _ _).mono ?_;rintro e w1 ⟨rfl,hb1⟩;have d1:=(hb1.cell (p:=⟨b,off+1,none⟩) hb).trans c1;have d2:=(hb1.cell (p:=⟨b,off+2,none⟩) hb).trans c2;have p1:=aq d1;have p2:=aq d2;haveI:Nonempty (dG w1):=⟨⟨_,Md _ _⟩⟩
 clear c0 c1 c2;generalize bR x 2=t at *;obtain ⟨t1,t2⟩:=t;by_cases h0:t2=0
 ·subst h0;simp only [if_true] at er;subst er;go_wp2_with fail
  refine aI (by kernel_rfl) (by kernel_rfl) ?_
  repeat (go_big_quiet_step (first | (go_at_call 132; exact du (cn y z _))))
  refine wpQuiet_nil ?_;rintro w3 ⟨⟨v3,hb3⟩,h3⟩;obtain rfl:w3=v3:=h3;go_wp2
  exact Me (v:=.tuple #[.int .i64 (bR y z).1,.int .i64 (bR y z).2]) (by simp [results,Tryz.results130,go_sem]) rfl ⟨rfl,chain hb1 hb3⟩
 ·simp only [h0,if_false] at er;subst er;have q:(t2 != 0)=true:=by simpa using h0
  go_wp2
  exact Me (v:=.tuple #[.int .i64 0,.int .i64 t2]) (by simp [results,Tryz.results130,go_sem]) rfl ⟨rfl,hb1⟩
end Go.Proofs.YtjebpkhkjkjphaaGreat
