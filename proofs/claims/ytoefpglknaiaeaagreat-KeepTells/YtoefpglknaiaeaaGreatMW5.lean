import Derived.Test.YtoefpglknaiaeaaGreatMW4
set_option maxHeartbeats 16000000
set_option maxRecDepth 100000
namespace Go.Proofs.YtoefpglknaiaeaaGreat
open Go.RowKit _root_.Go.Proofs.Tryz
theorem lq {v:Vl} (h:aJ v=0):v.1=4→v.2.2.size≤60:=by
 obtain ⟨k,n,s⟩:=v;intro e;simp only at e;subst e;unfold aJ aO at h;simp at h;exact h
theorem jx {v:Vl} (h:aJ v=0):v.1=3 → -1000000000000000≤v.2.1∧v.2.1≤1000000000000000:=by
 obtain ⟨k,n,s⟩:=v;intro e;simp only at e;subst e;unfold aJ aO at h;simp at h;exact h
theorem ic {v:Vl} (h:aJ v=0):Ix v.1 v.2.1:=by
 obtain ⟨k,n,s⟩:=v;intro e;simp only at e;subst e;unfold aJ aO at h;simp at h;show n=0∨n=1;omega
def aI (lo:Nat) (w W:World):Prop:=w.heap.size≤W.heap.size∧∀ k,lo≤k→k<w.heap.size→W.heap[k]? = w.heap[k]?
theorem aI.refl (lo:Nat) (w:World):aI lo w w:=⟨Mx _,fun _ _ _=>rfl⟩
theorem aI.trans {lo:Nat} {a b c:World} (h:aI lo a b) (k:aI lo b c):aI lo a c :=
 ⟨MO h.1 k.1,fun i hi hl=>(k.2 i hi (My hl h.1)).trans (h.2 i hi hl)⟩
theorem aI.of {lo:Nat} {w W:World} (h:Below w w W):aI lo w W:=⟨h.size,fun k _ hk=>h.block k hk⟩
theorem aI.up {lo lo':Nat} {w W:World} (h:aI lo w W) (hl:lo≤lo'):aI lo' w W:=⟨h.1,fun k hk=>h.2 k (MO hl hk)⟩
theorem aI.cell {lo:Nat} {w W:World} (h:aI lo w W) {p:Addr} (h1:lo≤p.block) (h2:p.block<w.heap.size):W.cell? p=w.cell? p:=MP (w:=w) (h.2 p.block h1 h2)
theorem aI.set {lo:Nat} {w W:World} (h:aI lo w W) (g o:Nat) (u:Value) (hg:g<lo):aI lo w (W.setCell (ah g o) u) :=
 ⟨by simpa using h.1,fun k hk hl=>(Nf W (ah g o) u k (by show k≠g; omega)).trans (h.2 k hk hl)⟩
def tY (lo:Nat) (u:Value) (f:Vl→Vl→Vl) (w:World):Prop :=
 ∃ g cb,u = .func (.func g) #[] cb∧(∀ args w,(callFunc g args).run prog w = .ok (.enter g args) w) ∧
  ∀ (p q:Vl) (W:World),aJ p=0→aJ q=0→aI lo w W→Calls prog g (#[dV p,dV q] ++ cb) W fun e w'=>e = .returned (dV (f p q))∧Below W W w'
theorem tY.next {lo:Nat} {u:Value} {f:Vl→Vl→Vl} {w w1:World} (h:tY lo u f w) (hb:aI lo w w1):tY lo u f w1:=by
 obtain ⟨g,cb,e,eg,hd⟩:=h;exact ⟨g,cb,e,eg,fun p q W hp hq hW=>hd p q W hp hq (hb.trans hW)⟩
theorem KS (lo:Nat) (w:World):tY lo (.func (.func 260) #[] #[]) GN w :=
 ⟨260,#[],rfl,enters_of func260 aG rfl,fun p q W _ _ _=>by rw [Oc]; exact Ju p.1 p.2.1 q.1 q.2.1 p.2.2 q.2.2 W⟩
theorem Lv (lo:Nat) (w:World):tY lo (.func (.func 261) #[] #[]) Lk w :=
 ⟨261,#[],rfl,enters_of func261 aG rfl,fun p q W _ _ _=>by rw [Oc]; exact KU p.1 p.2.1 q.1 q.2.1 p.2.2 q.2.2 W⟩
theorem JW (lo:Nat) (w:World):tY lo (.func (.func 262) #[] #[]) Gl w :=
 ⟨262,#[],rfl,enters_of func262 aG rfl,fun p q W _ _ _=>by rw [Oc]; exact Eb p.1 p.2.1 q.1 q.2.1 p.2.2 q.2.2 W⟩
theorem BX (lo:Nat) (w:World):tY lo (.func (.func 264) #[] #[]) wV w :=
 ⟨264,#[],rfl,enters_of func264 aG rfl,fun p q W _ _ _=>by rw [Oc]; exact Iq p.1 p.2.1 q.1 q.2.1 p.2.2 q.2.2 W⟩
theorem Jc (lo:Nat) (w:World):tY lo (.func (.func 267) #[] #[]) oK w :=
 ⟨267,#[],rfl,enters_of func267 aG rfl,fun p q W hp hq _=>by rw [Oc]; exact Ie p.1 p.2.1 q.1 q.2.1 p.2.2 q.2.2 W (lq hp) (lq hq)⟩
theorem Hs (p q:Vl) (w:World):Calls prog 268 #[dV p,dV q] w fun e w'=>e = .returned (dV (lR p q))∧Below w w w':=by
 obtain ⟨k,n,s⟩:=p;obtain ⟨k',n',s'⟩:=q;by_cases h:k=1
 ·subst h;have e:lR (1,n,s) (k',n',s')=(k',n',s'):=rfl;rw [e];go_enter func268,ntmps268;go_wp2_with fail
  have A0:=((cS.new w (1:Int) n s 24).alloc (.cells #[k',.int .i64 n',.string s'] 24)).alloc (.cells #[aD,aD,()] 24);have B0:=(cS.new (w.alloc (.cells #[(1:Int),n,s] 24)) k' n' s' 24).alloc (.cells #[aD,aD,()] 24);have R0:=cS.new ((w.alloc (.cells #[(1:Int),n,s] 24)).alloc (.cells #[k',.int .i64 n',.string s'] 24)) aD aD () 24;simp only [MZ] at B0 R0
  refine bC (pL _ _ _ _) fun w1 hb1=>?_;have ⟨b0,b1,b2,b3,b4,b5,b6⟩:=B0.next hb1;have ⟨r0,r1,r2,r3,r4,r5,r6⟩:=R0.next hb1;have z1:=hb1.size;simp at z1;go_wp2
  exact MA (v:=.agg #[k',.int .i64 n',.string s']) (by simp [results,results268,go_sem,r1,r2,r3]) rfl ⟨rfl,au (gw hb1) ag⟩
 ·have e:lR (k,n,s) (k',n',s')=(k,n,s):=by simp [lR,h]
  rw [e];have q1:(k == 1)=false:=by simpa using h
  go_enter func268,ntmps268;go_wp2_with fail
  have A0:=((cS.new w k n s 24).alloc (.cells #[k',.int .i64 n',.string s'] 24)).alloc (.cells #[aD,aD,()] 24);have R0:=cS.new ((w.alloc (.cells #[k,n,s] 24)).alloc (.cells #[k',.int .i64 n',.string s'] 24)) aD aD () 24;simp only [MZ] at R0;refine bC (pL _ _ _ _) fun w1 hb1=>?_;rw [q1];have ⟨b0,b1,b2,b3,b4,b5,b6⟩:=A0.next hb1;have ⟨r0,r1,r2,r3,r4,r5,r6⟩:=R0.next hb1;have z1:=hb1.size;simp at z1;go_wp2
  exact MA (v:=.agg #[k,n,s]) (by simp [results,results268,go_sem,r1,r2,r3]) rfl ⟨rfl,au (gw hb1) ag⟩
theorem JE (lo:Nat) (w:World):tY lo (.func (.func 268) #[] #[]) lR w :=
 ⟨268,#[],rfl,enters_of func268 aG rfl,fun p q W _ _ _=>by rw [Oc]; exact Hs p q W⟩
theorem Ak (g:Nat) (cb:Array Value) (f:Vl→Vl→Vl) (b:Nat) (p q:Vl) (W:World) (hb:b<W.heap.size) (hc:W.cell? (ah b 0)=some (.func (.func g) #[] cb))
  (eg:∀ args w,(callFunc g args).run prog w = .ok (.enter g args) w) (hd:∀ W',Below W W W'→Calls prog g (#[dV p,dV q] ++ cb) W' fun e w'=>e = .returned (dV (f p q))∧Below W' W' w') :
  Calls prog 273 #[dV p,dV q,ah b 0] W fun e w'=>e = .returned (dV (kI (f p q)))∧Below W W w':=by
 have e:kI (f p q)=(tk (nY (cls (f p q).1 (f p q).2.1)),tn (nY (cls (f p q).1 (f p q).2.1)),⟨#[]⟩):=rfl;rw [e];clear e;generalize f p q=r at *;have con:=hd _ (gw (Mz _ (((W.alloc (.cells #[p.1,p.2.1,p.2.2] 24)).alloc (.cells #[q.1,q.2.1,q.2.2] 24)).alloc (.cells #[aD,aD,()] 24))));have A0:=((cS.new W p.1 p.2.1 p.2.2 24).alloc (.cells #[q.1,q.2.1,q.2.2] 24)).alloc (.cells #[aD,aD,()] 24)
 have B0:=(cS.new (W.alloc (.cells #[p.1,p.2.1,p.2.2] 24)) q.1 q.2.1 q.2.2 24).alloc (.cells #[aD,aD,()] 24);have R0:=cS.new ((W.alloc (.cells #[p.1,p.2.1,p.2.2] 24)).alloc (.cells #[q.1,q.2.1,q.2.2] 24)) aD aD () 24
 have hA:Below W W (((W.alloc (.cells #[p.1,p.2.1,p.2.2] 24)).alloc (.cells #[q.1,q.2.1,q.2.2] 24)).alloc (.cells #[aD,aD,()] 24)):=gw (Mz _ _);have c3:=(hA.cell (p:=ah b 0) hb).trans hc;simp only [MZ] at B0 R0;clear hd A0 B0;go_enter func273,ntmps273;go_wp2_with (go_at_fn g; refine con.mono ?_)
 rintro e w1 ⟨rfl,hb1⟩;have R1:=R0.next hb1;have hb1':=chain hA hb1;have z1:=hb1.size;simp at z1;go_wp2_with fail
 refine bC (Cm _ _ _ _) fun w2 hb2=>?_;have ⟨r0,r1,r2,r3,r4,r5,r6⟩:=R1.next hb2;have hb2':=chain hb1' hb2;clear con R0 R1;go_wp2
 exact MA (v:=.agg #[.int .i64 (tk (nY (cls r.1 r.2.1))),.int .i64 (tn (nY (cls r.1 r.2.1))),()]) (by simp [results,results273,go_sem,r1,r2,r3]) rfl ⟨rfl,au hb2' ag⟩
theorem Aa (g:Nat) (cb:Array Value) (f:Vl→Vl→Vl) (b:Nat) (p q:Vl) (W:World) (hb:b<W.heap.size) (hc:W.cell? (ah b 0)=some (.func (.func g) #[] cb))
  (eg:∀ args w,(callFunc g args).run prog w = .ok (.enter g args) w) (hd:∀ W',Below W W W'→Calls prog g (#[dV q,dV p] ++ cb) W' fun e w'=>e = .returned (dV (f q p))∧Below W' W' w') :
  Calls prog 274 #[dV p,dV q,ah b 0] W fun e w'=>e = .returned (dV (f q p))∧Below W W w':=by
 generalize f q p=r at *;have con:=hd _ (gw (Mz _ (((W.alloc (.cells #[p.1,p.2.1,p.2.2] 24)).alloc (.cells #[q.1,q.2.1,q.2.2] 24)).alloc (.cells #[aD,aD,()] 24))));have A0:=((cS.new W p.1 p.2.1 p.2.2 24).alloc (.cells #[q.1,q.2.1,q.2.2] 24)).alloc (.cells #[aD,aD,()] 24)
 have B0:=(cS.new (W.alloc (.cells #[p.1,p.2.1,p.2.2] 24)) q.1 q.2.1 q.2.2 24).alloc (.cells #[aD,aD,()] 24);have R0:=cS.new ((W.alloc (.cells #[p.1,p.2.1,p.2.2] 24)).alloc (.cells #[q.1,q.2.1,q.2.2] 24)) aD aD () 24
 have hA:Below W W (((W.alloc (.cells #[p.1,p.2.1,p.2.2] 24)).alloc (.cells #[q.1,q.2.1,q.2.2] 24)).alloc (.cells #[aD,aD,()] 24)):=gw (Mz _ _);have c3:=(hA.cell (p:=ah b 0) hb).trans hc;simp only [MZ] at B0 R0;clear hd A0 B0;go_enter func274,ntmps274;go_wp2_with (go_at_fn g; refine con.mono ?_)
 rintro e w1 ⟨rfl,hb1⟩;have ⟨r0,r1,r2,r3,r4,r5,r6⟩:=R0.next hb1;have hb1':=chain hA hb1;have z1:=hb1.size;simp at z1;clear con R0;go_wp2
 exact MA (v:=dV r) (by simp [results,results274,go_sem,r1,r2,r3]) rfl ⟨rfl,au hb1' ag⟩
theorem wN (c:Int) (b:Nat) (p q:Vl) (W:World) (hb:b<W.heap.size) (hc:W.cell? (ah b 0)=some (.int .i32 c)) :
  Calls prog 275 #[dV p,dV q,ah b 0] W fun e w'=>e = .returned (dV (mD c p q))∧Below W W w':=by
 have e:mD c p q=(jK (iT c p.1 p.2.1 q.1 q.2.1),kl (iT c p.1 p.2.1 q.1 q.2.1),⟨#[]⟩):=rfl;rw [e];clear e;have A0:=((cS.new W p.1 p.2.1 p.2.2 24).alloc (.cells #[q.1,q.2.1,q.2.2] 24)).alloc (.cells #[aD,aD,()] 24);have B0:=(cS.new (W.alloc (.cells #[p.1,p.2.1,p.2.2] 24)) q.1 q.2.1 q.2.2 24).alloc (.cells #[aD,aD,()] 24)
 have R0:=cS.new ((W.alloc (.cells #[p.1,p.2.1,p.2.2] 24)).alloc (.cells #[q.1,q.2.1,q.2.2] 24)) aD aD () 24;have hA:Below W W (((W.alloc (.cells #[p.1,p.2.1,p.2.2] 24)).alloc (.cells #[q.1,q.2.1,q.2.2] 24)).alloc (.cells #[aD,aD,()] 24)):=gw (Mz _ _);have c3:=(hA.cell (p:=ah b 0) hb).trans hc;simp only [MZ] at B0 R0;clear A0 B0;go_enter func275,ntmps275;go_wp2_with fail
 refine bC (Ax _ _ _ _ _ _ _ _) fun w1 hb1=>?_;have ⟨r0,r1,r2,r3,r4,r5,r6⟩:=R0.next hb1;have hb1':=chain hA hb1;have z1:=hb1.size;simp at z1;clear R0;go_wp2
 exact MA (v:=.agg #[.int .i64 (jK (iT c p.1 p.2.1 q.1 q.2.1)),.int .i64 (kl (iT c p.1 p.2.1 q.1 q.2.1)),()]) (by simp [results,results275,go_sem,r1,r2,r3]) rfl ⟨rfl,au hb1' ag⟩
theorem pE (u:Value) (f:Vl→Vl→Vl) (w:World) (lo:Nat) (hlo:lo≤w.heap.size) (h:tY lo u f w) :
  Calls prog 263 #[u] w fun e w'=>∃ v,e = .returned v∧tY lo v (fun a b=>kI (f a b)) w'∧Below w w w':=by
 obtain ⟨g,cb,rfl,eg,hd⟩:=h;have hal:=aN w (.cells #[.func (.func g) #[] cb] 256);have hF:tY lo (.func (.func 273) #[] #[ah w 0]) (fun a b=>kI (f a b)) (w.alloc (.cells #[.func (.func g) #[] cb] 256)) :=
  ⟨273,_,rfl,enters_of func273 aG rfl,fun p q W hp hq hW =>
   Ak g cb f w p q W (My (by simp) hW.1) ((hW.cell (p:=ah w 0) hlo (by simp)).trans (by simp)) eg (fun W' hW'=>hd p q W' hp hq (((aI.of hal).trans hW).trans (aI.of hW')))⟩
 clear hd;go_enter func263,ntmps263;go_wp2
 go_ret;exact ⟨_,rfl,hF,hal⟩
theorem vR (u:Value) (f:Vl→Vl→Vl) (w:World) (lo:Nat) (hlo:lo≤w.heap.size) (h:tY lo u f w) :
  Calls prog 265 #[u] w fun e w'=>∃ v,e = .returned v∧tY lo v (fun a b=>f b a) w'∧Below w w w':=by
 obtain ⟨g,cb,rfl,eg,hd⟩:=h;have hal:=aN w (.cells #[.func (.func g) #[] cb] 256);have hF:tY lo (.func (.func 274) #[] #[ah w 0]) (fun a b=>f b a) (w.alloc (.cells #[.func (.func g) #[] cb] 256)) :=
  ⟨274,_,rfl,enters_of func274 aG rfl,fun p q W hp hq hW =>
   Aa g cb f w p q W (My (by simp) hW.1) ((hW.cell (p:=ah w 0) hlo (by simp)).trans (by simp)) eg (fun W' hW'=>hd q p W' hq hp (((aI.of hal).trans hW).trans (aI.of hW')))⟩
 clear hd;go_enter func265,ntmps265;go_wp2
 go_ret;exact ⟨_,rfl,hF,hal⟩
theorem l7 (c:Int) (w:World) (lo:Nat) (hlo:lo≤w.heap.size) :
  Calls prog 266 #[.int .i32 c] w fun e w'=>∃ v,e = .returned v∧tY lo v (mD c) w'∧Below w w w':=by
 have hal:=aN w (.cells #[.int .i32 c] 21);have hF:tY lo (.func (.func 275) #[] #[ah w 0]) (mD c) (w.alloc (.cells #[.int .i32 c] 21)) :=
  ⟨275,_,rfl,enters_of func275 aG rfl,fun p q W hp hq hW =>
   wN c w p q W (My (by simp) hW.1) ((hW.cell (p:=ah w 0) hlo (by simp)).trans (by simp))⟩
 go_enter func266,ntmps266;go_wp2
 go_ret;exact ⟨_,rfl,hF,hal⟩
def jY (k:Int):Prop:=∀ w:World,Calls prog 237 #[k] w fun e w'=>∃ u,e = .returned u∧tY w u (gL k) w'∧Below w w w'
theorem IN:jY 4:=by
 intro w;go_enter func237,ntmps237;go_wp2
 go_ret;exact ⟨_,rfl,KS _ w,Mz _ _⟩
theorem Jp:jY 5:=by
 intro w;go_enter func237,ntmps237;go_wp2
 go_ret;exact ⟨_,rfl,Lv _ w,Mz _ _⟩
theorem JS:jY 6:=by
 intro w;go_enter func237,ntmps237;go_wp2
 go_ret;exact ⟨_,rfl,JW _ w,Mz _ _⟩
theorem JC:jY 8:=by
 intro w;go_enter func237,ntmps237;go_wp2
 go_ret;exact ⟨_,rfl,BX _ w,Mz _ _⟩
theorem Gk:jY 15:=by
 intro w;go_enter func237,ntmps237;go_wp2
 go_ret;exact ⟨_,rfl,Jc _ w,Mz _ _⟩
theorem GK:jY 18:=by
 intro w;go_enter func237,ntmps237;go_wp2
 go_ret;exact ⟨_,rfl,JE _ w,Mz _ _⟩
theorem IM:jY 7:=by
 intro w;go_enter func237,ntmps237;go_wp2_with fail
 refine (pE _ _ w _ (Mx _) (JW _ w)).mono ?_;rintro e w1 ⟨v,rfl,hF,hb1⟩;go_wp2
 go_ret;exact ⟨_,rfl,hF,hb1⟩
theorem FY:jY 11:=by
 intro w;go_enter func237,ntmps237;go_wp2_with fail
 refine (pE _ _ w _ (Mx _) (BX _ w)).mono ?_;rintro e w1 ⟨v,rfl,hF,hb1⟩;go_wp2
 go_ret;exact ⟨_,rfl,hF,hb1⟩
theorem Ic:jY 10:=by
 intro w;go_enter func237,ntmps237;go_wp2_with fail
 refine (vR _ _ w _ (Mx _) (BX _ w)).mono ?_;rintro e w1 ⟨v,rfl,hF,hb1⟩;go_wp2
 go_ret;exact ⟨_,rfl,hF,hb1⟩
theorem Hj:jY 12:=by
 intro w;go_enter func237,ntmps237;go_wp2_with fail
 refine (l7 43 w _ (Mx _)).mono ?_;rintro e w1 ⟨v,rfl,hF,hb1⟩;go_wp2
 go_ret;exact ⟨_,rfl,hF,hb1⟩
theorem Iv:jY 13:=by
 intro w;go_enter func237,ntmps237;go_wp2_with fail
 refine (l7 45 w _ (Mx _)).mono ?_;rintro e w1 ⟨v,rfl,hF,hb1⟩;go_wp2
 go_ret;exact ⟨_,rfl,hF,hb1⟩
theorem Gc:jY 14:=by
 intro w;go_enter func237,ntmps237;go_wp2_with fail
 refine (l7 42 w _ (Mx _)).mono ?_;rintro e w1 ⟨v,rfl,hF,hb1⟩;go_wp2
 go_ret;exact ⟨_,rfl,hF,hb1⟩
theorem JF:jY 9:=by
 intro w;go_enter func237,ntmps237;go_wp2_with fail
 refine (vR _ _ w _ (Mx _) (BX _ w)).mono ?_;rintro e w1 ⟨v,rfl,hF,hb1⟩;go_wp2_with fail
 refine (pE _ _ w1 _ hb1.size hF).mono ?_;rintro e w2 ⟨v2,rfl,hF2,hb2⟩;go_wp2
 go_ret;exact ⟨_,rfl,hF2,chain hb1 hb2⟩
theorem Gf (k:Int) (h4:4≤k) (h18:k≤15∨k=18):jY k:=by
 obtain rfl | rfl | rfl | rfl | rfl | rfl | rfl | rfl | rfl | rfl | rfl | rfl | rfl:k=4∨k=5∨k=6∨k=7∨k=8∨k=9∨k=10∨k=11∨k=12∨k=13∨k=14∨k=15∨k=18:=by omega
 ·exact IN
 ·exact Jp
 ·exact JS
 ·exact IM
 ·exact JC
 ·exact JF
 ·exact Ic
 ·exact FY
 ·exact Hj
 ·exact Iv
 ·exact Gc
 ·exact Gk
 ·exact GK
def gZ (cols:List Int) (lo:Nat) (u:Value) (f:List Vl→Vl) (w:World):Prop :=
 ∃ g cb,u = .func (.func g) #[] cb∧(∀ args w,(callFunc g args).run prog w = .ok (.enter g args) w) ∧
  ∀ (row:List Vl) (a:Option Addr) (cap:Nat) (W:World),dX cols row→aZ W a row→aI lo w W →
   Calls prog g (#[.slice a row.length cap] ++ cb) W fun e w'=>e = .returned (dV (f row))∧Below W W w'
theorem gZ.next {cols:List Int} {lo:Nat} {u:Value} {f:List Vl→Vl} {w w1:World} (h:gZ cols lo u f w) (hb:aI lo w w1):gZ cols lo u f w1:=by
 obtain ⟨g,cb,e,eg,hd⟩:=h;exact ⟨g,cb,e,eg,fun row a cap W hf hs hW=>hd row a cap W hf hs (hb.trans hW)⟩
theorem gZ.down {cols:List Int} {lo lo':Nat} {u:Value} {f:List Vl→Vl} {w:World} (h:gZ cols lo u f w) (hl:lo'≤lo):gZ cols lo' u f w:=by
 obtain ⟨g,cb,e,eg,hd⟩:=h;exact ⟨g,cb,e,eg,fun row a cap W hf hs hW=>hd row a cap W hf hs (hW.up hl)⟩
theorem cS.Lt {W:World} {b:Nat} {x y z:Value} (h:cS W b x y z) (x' y' z':Value):cS (((W.setCell (ah b 0) x').setCell (ah b 1) y').setCell (ah b 2) z') b x' y' z':=by
 obtain ⟨lt,c0,c1,c2,f0,f1,f2⟩:=h;refine ⟨by simpa using lt,?_,?_,?_,by simpa using f0,by simpa using f1,by simpa using f2⟩
 ·rw [MN _ _ _ _ (by simp),MN _ _ _ _ (by simp)];exact NS _ _ _ (by rw [c0]; rfl)
 ·rw [MN _ _ _ _ (by simp)];exact NS _ _ _ (by rw [MN _ _ _ _ (by simp),c1]; rfl)
 ·exact NS _ _ _ (by rw [MN _ _ _ _ (by simp),MN _ _ _ _ (by simp),c2]; rfl)
theorem AT (v:Vl) (b:Nat) (a:Option Addr) (n cap:Nat) (W:World) (hb:b<W.heap.size) (h0:W.cell? (ah b 0)=some (.int .i64 v.1)) (h1:W.cell? (ah b 1)=some (.int .i64 v.2.1)) (h2:W.cell? (ah b 2)=some (.string v.2.2)) :
  Calls prog 256 #[.slice a n cap,ah b 0] W fun e w'=>e = .returned (dV v)∧Below W W w':=by
 have hal:=aN W (.cells #[aD,aD,()] 24);have c0:=(hal.cell (p:=ah b 0) hb).trans h0;have c1:=(hal.cell (p:=ah b 1) hb).trans h1;have c2:=(hal.cell (p:=ah b 2) hb).trans h2;go_enter func256,ntmps256;go_wp2
 exact MA (v:=dV v) (by simp [results,results256,go_sem]) rfl ⟨rfl,aN ..⟩
theorem Fh (cols:List Int) (v:Vl) (w:World) :
  Calls prog 230 #[dV v] w fun e w'=>∃ u,e = .returned u∧gZ cols w u (fun _=>cM v) w'∧Below w w w':=by
 have hal:=aN w (.cells #[v.1,v.2.1,v.2.2] 24);have R:=cS.new w v.1 v.2.1 v.2.2 24;go_enter func230,ntmps230;go_wp2_with fail
 refine bC (tJ _ _ _ _) fun w1 hb1=>?_;have R1:=R.next hb1;have P1:=R1.Lt v.1 (.int .i64 (dY v.1 v.2.1)) (.string (gz v.1 v.2.2));have hb:=chain hal hb1;have ⟨r0,r1,r2,r3,r4,r5,r6⟩:=R1;go_wp2
 go_ret;refine ⟨_,rfl,⟨256,_,rfl,enters_of func256 aG rfl,?_⟩,au hb (Mx _)⟩;intro row a cap W _ _ hW;obtain ⟨p0,p1,p2,p3,_,_,_⟩:=P1;exact AT (cM v) w.heap.size a row.length cap W (My p0 hW.1) ((hW.cell (p:=ah w 0) (Mx _) p0).trans p1) ((hW.cell (p:=ah w 1) (Mx _) p0).trans p2) ((hW.cell (p:=ah w 2) (Mx _) p0).trans p3)
theorem Ad (j:Nat) (b:Nat) (a:Option Addr) (row:List Vl) (cap:Nat) (W:World) (hb:b<W.heap.size) (h0:W.cell? (ah b 0)=some (.int .i64 j)) (hj:j<row.length) (hs:aZ W a row) :
  Calls prog 257 #[.slice a row.length cap,ah b 0] W fun e w'=>e = .returned (dV (cM row[j]))∧Below W W w':=by
 have hal:=aN W (.cells #[aD,aD,()] 24);have R:=cS.new W aD aD () 24;have c0:=(hal.cell (p:=ah b 0) hb).trans h0;have hl:=hs.1;unfold maxLen at hl;obtain ⟨b',off,rfl,hbl,x0,x1,x2⟩:=(hs.next hal).elem hj;generalize row[j]=v at *;go_enter func257,ntmps257;go_wp2_with fail
 refine bC (tJ _ _ _ _) fun w1 hb1=>?_;have ⟨r0,r1,r2,r3,r4,r5,r6⟩:=R.next hb1;have hb:=chain hal hb1;clear x0 x1 x2 c0;go_wp2
 exact MA (v:=dV (cM v)) (by simp [results,results257,go_sem,r1,r2,r3,cM]) rfl ⟨rfl,au hb (Mx _)⟩
theorem CY (cols:List Int) (c:Int) (w:World) (h0:0≤c) (h1:c.toNat<cols.length) :
  Calls prog 231 #[c] w fun e w'=>∃ u,e = .returned u∧gZ cols w u (fun row=>cM (row.getD c.toNat gX)) w'∧Below w w w':=by
 have hal:=aN w (.cells #[c] 3);obtain ⟨j,rfl⟩:∃ j:Nat,c=j:=⟨c.toNat,by omega⟩
 go_enter func231,ntmps231;go_wp2
 go_ret;refine ⟨_,rfl,⟨257,_,rfl,enters_of func257 aG rfl,?_⟩,hal⟩;intro row a cap W hf hs hW;have hj:j<row.length:=by have:=hf.len; simp at h1; omega
 have e:row.getD (j:Int).toNat gX=row[j]:=by simp [List.getD,hj]
 show Calls _ _ _ _ fun e w'=>e = .returned (dV (cM (row.getD (j:Int).toNat gX)))∧_
 rw [e];exact Ad j w a row cap W (My (by simp) hW.1) ((hW.cell (p:=ah w 0) (Mx _) (by simp)).trans (by simp)) hj hs
theorem BM (cols:List Int) (lo:Nat) (f1 f2 f3:List Vl→Vl) (u1 u2 u3:Value) (b:Nat) (a:Option Addr) (row:List Vl) (cap:Nat) (W:World) (hb:b+2<W.heap.size)
  (h0:W.cell? (ah b 0)=some u1) (h1:W.cell? (ah (b+1) 0)=some u2) (h2:W.cell? (ah (b+2) 0)=some u3) (a1:gZ cols lo u1 f1 W) (a2:gZ cols lo u2 f2 W) (a3:gZ cols lo u3 f3 W) (hf:dX cols row) (hs:aZ W a row) :
  Calls prog 259 #[.slice a row.length cap,ah b 0,ah (b+1) 0,ah (b+2) 0] W fun e w'=>e = .returned (dV (if sw (f1 row) == some true then f2 row else f3 row))∧Below W W w':=by
 obtain ⟨g1,cb1,rfl,eg1,d1⟩:=a1;obtain ⟨g2,cb2,rfl,eg2,d2⟩:=a2;obtain ⟨g3,cb3,rfl,eg3,d3⟩:=a3;have hal:=aN W (.cells #[aD,aD,()] 24);have R:=cS.new W aD aD () 24;have c1:=(hal.cell (p:=ah b 0) (by show b<_; omega)).trans h0;have d1:=d1 row a cap _ hf (hs.next hal) (aI.of hal);have d2:=fun W' (h:Below W W W')=>d2 row a cap W' hf (hs.next h) (aI.of h)
 have d3:=fun W' (h:Below W W W')=>d3 row a cap W' hf (hs.next h) (aI.of h)
 generalize f1 row=v1 at *;generalize f2 row=v2 at *;generalize f3 row=v3 at *;by_cases q:(sw v1 == some true)=true
 ·rw [if_pos q];go_enter func259,ntmps259;go_wp2_with (go_at_fn g1; refine d1.mono ?_)
  rintro e w1 ⟨rfl,hb1⟩;have hA:=chain hal hb1;have R:=R.next hb1;have q':(cls v1.1 v1.2.1 == some true)=true:=q;go_wp2_with fail
  refine bC (kB _ _ _ _) fun w2 hb2=>?_;rw [q'];have hA:=chain hA hb2;have R:=R.next hb2;have c2:=(hA.cell (p:=ah (b+1) 0) (by show b+1<_; omega)).trans h1;have d2:=d2 _ hA;clear d1 c1 d3;go_wp2_with (go_at_fn g2; refine d2.mono ?_)
  rintro e w3 ⟨rfl,hb3⟩;have hA:=chain hA hb3;have ⟨r0,r1,r2,r3,r4,r5,r6⟩:=R.next hb3;clear d2 c2;go_wp2
  exact MA (v:=dV v2) (by simp [results,results259,go_sem,r1,r2,r3]) rfl ⟨rfl,au hA (Mx _)⟩
 ·rw [if_neg q];go_enter func259,ntmps259;go_wp2_with (go_at_fn g1; refine d1.mono ?_)
  rintro e w1 ⟨rfl,hb1⟩;have hA:=chain hal hb1;have R:=R.next hb1;have q':(cls v1.1 v1.2.1 == some true)=false:=Bool.eq_false_iff.mpr q;go_wp2_with fail
  refine bC (kB _ _ _ _) fun w2 hb2=>?_;rw [q'];have hA:=chain hA hb2;have R:=R.next hb2;have c3:=(hA.cell (p:=ah (b+2) 0) (by show b+2<_; omega)).trans h2;have d3:=d3 _ hA;clear d1 c1 d2;go_wp2_with (go_at_fn g3; refine d3.mono ?_)
  rintro e w3 ⟨rfl,hb3⟩;have hA:=chain hA hb3;have ⟨r0,r1,r2,r3,r4,r5,r6⟩:=R.next hb3;clear d3 c3;go_wp2
  exact MA (v:=dV v3) (by simp [results,results259,go_sem,r1,r2,r3]) rfl ⟨rfl,au hA (Mx _)⟩
theorem tm {w:World} {o:Obj} {p:Addr} (h:p.block<w.heap.size):(w.alloc o).cell? p=w.cell? p:=((Mz w w).alloc (Mx _) o).cell h
theorem DS (cols:List Int) (lo:Nat) (f1 f2 f3:List Vl→Vl) (u1 u2 u3:Value) (w:World) (hlo:lo≤w.heap.size) (a1:gZ cols lo u1 f1 w) (a2:gZ cols lo u2 f2 w) (a3:gZ cols lo u3 f3 w) :
  Calls prog 236 #[u1,u2,u3] w fun e w'=>∃ u,e = .returned u∧gZ cols lo u (fun row=>if sw (f1 row) == some true then f2 row else f3 row) w'∧Below w w w':=by
 obtain ⟨x1,y1,rfl⟩:∃ x y,u1 = .func (.func x) #[] y:=by obtain ⟨x,y,e,_⟩:=a1; exact ⟨x,y,e⟩
 obtain ⟨x2,y2,rfl⟩:∃ x y,u2 = .func (.func x) #[] y:=by obtain ⟨x,y,e,_⟩:=a2; exact ⟨x,y,e⟩
 obtain ⟨x3,y3,rfl⟩:∃ x y,u3 = .func (.func x) #[] y:=by obtain ⟨x,y,e,_⟩:=a3; exact ⟨x,y,e⟩
 have h1:=aN w (.cells #[.func (.func x1) #[] y1] 191);have h2:=h1.alloc h1.size (.cells #[.func (.func x2) #[] y2] 191);have h3:=h2.alloc h2.size (.cells #[.func (.func x3) #[] y3] 191);have q1:(((w.alloc (.cells #[.func (.func x1) #[] y1] 191)).alloc (.cells #[.func (.func x2) #[] y2] 191)).alloc (.cells #[.func (.func x3) #[] y3] 191)).cell? (ah w 0)=some (.func (.func x1) #[] y1):=by
  rw [tm (by simp only [MZ]; omega),tm (by simp)]; simp
 have q2:(((w.alloc (.cells #[.func (.func x1) #[] y1] 191)).alloc (.cells #[.func (.func x2) #[] y2] 191)).alloc (.cells #[.func (.func x3) #[] y3] 191)).cell? (ah (w+1) 0)=some (.func (.func x2) #[] y2):=by
  rw [tm (by simp),Nv _ _ _ _ (by simp)]; rfl
 have q3:(((w.alloc (.cells #[.func (.func x1) #[] y1] 191)).alloc (.cells #[.func (.func x2) #[] y2] 191)).alloc (.cells #[.func (.func x3) #[] y3] 191)).cell? (ah (w+2) 0)=some (.func (.func x3) #[] y3):=by
  rw [Nv _ _ _ _ (by simp)]; rfl
 have z3:(((w.alloc (.cells #[.func (.func x1) #[] y1] 191)).alloc (.cells #[.func (.func x2) #[] y2] 191)).alloc (.cells #[.func (.func x3) #[] y3] 191)).heap.size=w.heap.size+3:=by simp
 have n1:=a1.next (aI.of h3);have n2:=a2.next (aI.of h3);have n3:=a3.next (aI.of h3);clear a1 a2 a3;go_enter func236,ntmps236;go_wp2
 go_ret;generalize ((w.alloc (.cells #[.func (.func x1) #[] y1] 191)).alloc (.cells #[.func (.func x2) #[] y2] 191)).alloc (.cells #[.func (.func x3) #[] y3] 191)=w3 at *;refine ⟨_,rfl,⟨259,_,rfl,enters_of func259 aG rfl,?_⟩,h3⟩;intro row a cap W hf hs hW
 exact BM cols lo f1 f2 f3 _ _ _ w a row cap W (by have:=hW.1; omega) ((hW.cell (p:=ah w 0) hlo (by show w.heap.size<_; omega)).trans q1) ((hW.cell (p:=ah (w+1) 0) (by show lo≤w.heap.size+1; omega) (by show w.heap.size+1<_; omega)).trans q2) ((hW.cell (p:=ah (w+2) 0) (by show lo≤w.heap.size+2; omega) (by show w.heap.size+2<_; omega)).trans q3) (n1.next hW) (n2.next hW) (n3.next hW) hf hs
def mj (cols:List Int) (lo:Nat) (W:World) (kb:Nat) (ks:List Ex):Prop :=
 ∃ K,lo≤kb∧kb<W.heap.size∧lo≤K∧K<W.heap.size∧W.cell? (ah kb 0)=some (.slice (some (ah K 0)) ks.length ks.length) ∧
  ∀ (i:Nat) (h:i<ks.length),∃ u,W.cell? (ah K i)=some u∧gZ cols lo u (fun row=>bQ row ks[i]) W
theorem mj.next {cols:List Int} {lo:Nat} {W w1:World} {kb:Nat} {ks:List Ex} (h:mj cols lo W kb ks) (hb:aI lo W w1):mj cols lo w1 kb ks:=by
 obtain ⟨K,h1,h2,h3,h4,h5,h6⟩:=h;refine ⟨K,h1,My h2 hb.1,h3,My h4 hb.1,(hb.cell (p:=ah kb 0) h1 h2).trans h5,fun i hi=>?_⟩;obtain ⟨u,c,a⟩:=h6 i hi;exact ⟨u,(hb.cell (p:=ah K i) h3 h4).trans c,a.next hb⟩
theorem DP (cols:List Int) (lo:Nat) (kb:Nat) (ks:List Ex) (a:Option Addr) (row:List Vl) (cap:Nat) (W:World) (hK:mj cols lo W kb ks) (hn:0<ks.length) (hf:dX cols row) (hs:aZ W a row) :
  Calls prog 232 #[.slice a row.length cap,ah kb 0] W fun e w'=>e = .returned (dV (kI (bQ row ks[0])))∧Below W W w':=by
 have hal:=aN W (.cells #[aD,aD,()] 24);have R:=cS.new W aD aD () 24;obtain ⟨K,k1,k2,k3,k4,k5,k6⟩:=hK.next (aI.of hal);obtain ⟨u0,c0,a0⟩:=k6 0 hn;obtain ⟨g,cb,rfl,eg,d⟩:=a0;have d:=d row a cap _ hf (hs.next hal) (aI.refl _ _);dsimp only at d;have hn':(0:Int)<(ks.length:Int):=by omega
 have e:kI (bQ row ks[0])=(tk (nY (cls (bQ row ks[0]).1 (bQ row ks[0]).2.1)),tn (nY (cls (bQ row ks[0]).1 (bQ row ks[0]).2.1)),⟨#[]⟩):=rfl;rw [e];clear e k6 hK;generalize bQ row ks[0]=v0 at *;go_enter func232,ntmps232;go_wp2_with (go_at_fn g; refine d.mono ?_; rintro e w1 ⟨rfl,hb1⟩)
 have hA:=chain hal hb1;have R:=R.next hb1;clear d c0 k5;go_wp2_with fail
 refine bC (Cm _ _ _ _) fun w2 hb2=>?_;have hA:=chain hA hb2;have ⟨r0,r1,r2,r3,r4,r5,r6⟩:=R.next hb2;go_wp2
 exact MA (v:=.agg #[.int .i64 (tk (nY (cls v0.1 v0.2.1))),.int .i64 (tn (nY (cls v0.1 v0.2.1))),()]) (by simp [results,results232,go_sem,r1,r2,r3]) rfl ⟨rfl,au hA (Mx _)⟩
theorem EY (cols:List Int) (lo:Nat) (kb:Nat) (ks:List Ex) (a:Option Addr) (row:List Vl) (cap:Nat) (W:World) (hK:mj cols lo W kb ks) (hn:0<ks.length) (hf:dX cols row) (hs:aZ W a row) :
  Calls prog 234 #[.slice a row.length cap,ah kb 0] W fun e w'=>e = .returned (dV (oC (some ((bQ row ks[0]).1 == 1))))∧Below W W w':=by
 have hal:=aN W (.cells #[aD,aD,()] 24);have R:=cS.new W aD aD () 24;obtain ⟨K,k1,k2,k3,k4,k5,k6⟩:=hK.next (aI.of hal);obtain ⟨u0,c0,a0⟩:=k6 0 hn;obtain ⟨g,cb,rfl,eg,d⟩:=a0;have d:=d row a cap _ hf (hs.next hal) (aI.refl _ _);dsimp only at d;have hn':(0:Int)<(ks.length:Int):=by omega
 have e:oC (some ((bQ row ks[0]).1 == 1))=(2,tn (some ((bQ row ks[0]).1 == 1)),⟨#[]⟩):=rfl;rw [e];clear e k6 hK;generalize bQ row ks[0]=v0 at *;go_enter func234,ntmps234;go_wp2_with (go_at_fn g; refine d.mono ?_; rintro e w1 ⟨rfl,hb1⟩)
 have hA:=chain hal hb1;have R:=R.next hb1;clear d c0 k5;go_wp2_with fail
 refine bC (pL _ _ _ _) fun w2 hb2=>?_;have hA:=chain hA hb2;have R:=R.next hb2;go_wp2_with fail
 refine bC (tH _ _) fun w3 hb3=>?_;have hA:=chain hA hb3;have ⟨r0,r1,r2,r3,r4,r5,r6⟩:=R.next hb3;go_wp2
 exact MA (v:=.agg #[(2:Int),.int .i64 (tn (some (v0.1 == 1))),()]) (by simp [results,results234,go_sem,r1,r2,r3]) rfl ⟨rfl,au hA (Mx _)⟩
theorem C7 (cols:List Int) (lo:Nat) (kb db:Nat) (k:Int) (ks:List Ex) (a:Option Addr) (row:List Vl) (cap:Nat) (W:World) (ud:Value) (cd:W.cell? (ah db 0)=some ud) (F:tY lo ud (gL k) W)
  (hK:mj cols lo W kb ks) (hn:1<ks.length) (hf:dX cols row) (hs:aZ W a row) (g0:aJ (bQ row ks[0])=0) (g1:aJ (bQ row ks[1])=0) :
  Calls prog 238 #[.slice a row.length cap,ah db 0,ah kb 0] W fun e w'=>e = .returned (dV (gL k (bQ row ks[0]) (bQ row ks[1])))∧Below W W w':=by
 have hal:=aN W (.cells #[aD,aD,()] 24);have R:=cS.new W aD aD () 24;obtain ⟨K,k1,k2,k3,k4,k5,k6⟩:=hK;obtain ⟨u0,c0,a0⟩:=k6 0 ag;obtain ⟨u1,c1,a1⟩:=k6 1 hn;obtain ⟨h0,cb0,rfl,eg0,d0⟩:=a0;obtain ⟨h1,cb1,rfl,eg1,d1⟩:=a1;obtain ⟨h2,cb2,rfl,eg2,d2⟩:=F;have d0:=fun n:cF W=>d0 row a cap n.now hf (hs.next n.ok) (aI.of n.ok)
 have d1:=fun n:cF W=>d1 row a cap n.now hf (hs.next n.ok) (aI.of n.ok)
 dsimp only at d0 d1;have d2:=fun n:cF W=>d2 (bQ row ks[0]) (bQ row ks[1]) n.now g0 g1 (aI.of n.ok)
 have n0:0<ks.length:=by omega
 have l0:(0:Int)<(ks.length:Int):=by omega
 have l1:(1:Int)<(ks.length:Int):=by omega
 have p0:=ak cd;have p1:=ak k5;have p2:=ak c0;have p3:=ak c1;generalize hr:gL k (bQ row ks[0]) (bQ row ks[1])=r at *;generalize bQ row ks[0]=v0 at *;generalize bQ row ks[1]=v1 at *;clear k6 hr;go_enter func238,ntmps238;go_wp2_with fail
 generalize W.alloc _=w0 at *;have hB0:=hal.drew;refine rO W aG ?_;refine aT (some 5) (i:=0) (v:=.func (.func h2) #[] cb2) rfl rfl aG aG aG (fun _ _ _ h=>h) (Or.inl ⟨rfl,fun n=>?_⟩) hB0 ?_
 ·go_simp
 simp only [pX];refine aT (some 6) (i:=1) (v:=.slice (some (ah K 0)) ks.length ks.length) rfl rfl aG aG aG (fun _ _ _ h=>h) (Or.inl ⟨rfl,fun n=>?_⟩) hB0 ?_
 ·go_simp
 simp only [pX];refine aT (some 7) (i:=2) (v:=.pointer (some (ah K 0))) rfl rfl aG aG aG (fun _ _ _ h=>h) (Or.inl ⟨rfl,fun n=>?_⟩) hB0 ?_
 ·go_simp
 simp only [pX];refine aT (some 8) (i:=3) (v:=.func (.func h0) #[] cb0) rfl rfl aG aG aG (fun _ _ _ h=>h) (Or.inl ⟨rfl,fun n=>?_⟩) hB0 ?_
 ·go_simp
 simp only [pX];refine aT (some 9) (i:=4) (v:=.slice a row.length cap) rfl rfl aG aG aG (fun _ _ _ h=>h) (Or.inl ⟨rfl,fun n=>?_⟩) hB0 ?_
 ·go_simp
 simp only [pX];refine aT (some 11) (i:=6) (v:=.slice (some (ah K 0)) ks.length ks.length) rfl rfl aG aG aG (fun _ _ _ h=>h) (Or.inl ⟨rfl,fun n=>?_⟩) hB0 ?_
 ·go_simp
 simp only [pX];refine aT (some 12) (i:=7) (v:=.pointer (some (ah K 1))) rfl rfl aG aG aG (fun _ _ _ h=>h) (Or.inl ⟨rfl,fun n=>?_⟩) hB0 ?_
 ·go_simp
 simp only [pX];refine aT (some 13) (i:=8) (v:=.func (.func h1) #[] cb1) rfl rfl aG aG aG (fun _ _ _ h=>h) (Or.inl ⟨rfl,fun n=>?_⟩) hB0 ?_
 ·go_simp
 simp only [pX];refine aT (some 14) (i:=9) (v:=.slice a row.length cap) rfl rfl aG aG aG (fun _ _ _ h=>h) (Or.inl ⟨rfl,fun n=>?_⟩) hB0 ?_
 ·go_simp
 simp only [pX];refine aT (some 10) (i:=5) (v:=dV v0) rfl rfl aG aG aG (fun _ _ _ h=>h) (Or.inl ⟨rfl,fun n=>?_⟩) hB0 ?_
 ·go_simp
 simp only [pX];refine aT (some 15) (i:=10) (v:=dV v1) rfl rfl aG aG aG (fun _ _ _ h=>h) (Or.inl ⟨rfl,fun n=>?_⟩) hB0 ?_
 ·go_simp
 simp only [pX];refine aT (some 16) (i:=11) (v:=dV r) rfl rfl aG aG aG (fun _ _ _ h=>h) (Or.inl ⟨rfl,fun n=>?_⟩) hB0 ?_
 ·go_simp
 simp only [pX];clear p0 p1 p2 p3 d0 d1 d2;refine fG (rs:=[12]) aG (by simp) ?_;intro w12 hb12 j hj;obtain rfl:j=12:=by simpa using hj
 clear hj;have D12:=hB0.trans (hb12.mono hB0.size);have R12:=(R.next ((Mz _ _).drew)).next hb12;have P12:=R12.Lt r.1 r.2.1 r.2.2;have ⟨b0,b1,b2,b3,b4,b5,b6⟩:=R12;refine wpOp_step rfl (fun K hK=>?_);go_simp;refine hK _ _ ⟨au D12 (Mx _),?_⟩;clear hK K;refine ml aG ?_;intro w13 hb13;have D13:=(au D12 (Mx _) (x:=.int .i64 r.1) (y:=.int .i64 r.2.1) (z:=.string r.2.2)).trans (hb13.mono (au D12 (Mx _)).size);have ⟨g0,g1,g2,g3,g4,g5,g6⟩:=P12.next hb13;clear b0 b1 b2 b3 b4 b5 b6
 go_wp2
 exact MA (v:=dV r) (by simp [results,results238,go_sem,g1,g2,g3]) rfl ⟨rfl,D13⟩
theorem Ae (B:Nat) (a:Option Addr) (cap:Nat) (ts:List Int) (w:World) (hB:B≤w.heap.size) (h:bf B w a ts) :
  Calls prog 254 #[(3:Int),.slice a ts.length cap] w fun e w'=>e = .returned (.tuple #[.int .i64 (cP (dv 2 ts)).1,.int .i64 (cP (dv 2 ts)).2])∧Below w w w':=by
 have con:=jP 2 B a cap ts w hB h;generalize cP (dv 2 ts)=r at *;generalize ts.length=n at *;clear h;go_enter func254,ntmps254;go_wp2_with fail
 refine bC con fun w1 hb1=>?_;go_wp2
 exact bJ rfl rfl ⟨rfl,hb1⟩
theorem Al (B:Nat) (a:Option Addr) (cap:Nat) (ts:List Int) (w:World) (hB:B≤w.heap.size) (h:bf B w a ts) :
  Calls prog 254 #[(4:Int),.slice a ts.length cap] w fun e w'=>e = .returned (.tuple #[.int .i64 (cP (dv 2 ts)).1,.int .i64 (cP (dv 2 ts)).2])∧Below w w w':=by
 have con:=jP 2 B a cap ts w hB h;generalize cP (dv 2 ts)=r at *;generalize ts.length=n at *;clear h;go_enter func254,ntmps254;go_wp2_with fail
 refine bC con fun w1 hb1=>?_;go_wp2
 exact bJ rfl rfl ⟨rfl,hb1⟩
theorem Ao (B:Nat) (a:Option Addr) (cap:Nat) (ts:List Int) (w:World) (hB:B≤w.heap.size) (h:bf B w a ts) :
  Calls prog 254 #[(5:Int),.slice a ts.length cap] w fun e w'=>e = .returned (.tuple #[.int .i64 (cP (dv 2 ts)).1,.int .i64 (cP (dv 2 ts)).2])∧Below w w w':=by
 have con:=jP 2 B a cap ts w hB h;generalize cP (dv 2 ts)=r at *;generalize ts.length=n at *;clear h;go_enter func254,ntmps254;go_wp2_with fail
 refine bC con fun w1 hb1=>?_;go_wp2
 exact bJ rfl rfl ⟨rfl,hb1⟩
theorem xT (B:Nat) (a:Option Addr) (cap:Nat) (ts:List Int) (w:World) (hB:B≤w.heap.size) (h:bf B w a ts) :
  Calls prog 254 #[(12:Int),.slice a ts.length cap] w fun e w'=>e = .returned (.tuple #[.int .i64 (cP (dv 3 ts)).1,.int .i64 (cP (dv 3 ts)).2])∧Below w w w':=by
 have con:=jP 3 B a cap ts w hB h;generalize cP (dv 3 ts)=r at *;generalize ts.length=n at *;clear h;go_enter func254,ntmps254;go_wp2_with fail
 refine bC con fun w1 hb1=>?_;go_wp2
 exact bJ rfl rfl ⟨rfl,hb1⟩
theorem yQ (B:Nat) (a:Option Addr) (cap:Nat) (ts:List Int) (w:World) (hB:B≤w.heap.size) (h:bf B w a ts) :
  Calls prog 254 #[(13:Int),.slice a ts.length cap] w fun e w'=>e = .returned (.tuple #[.int .i64 (cP (dv 3 ts)).1,.int .i64 (cP (dv 3 ts)).2])∧Below w w w':=by
 have con:=jP 3 B a cap ts w hB h;generalize cP (dv 3 ts)=r at *;generalize ts.length=n at *;clear h;go_enter func254,ntmps254;go_wp2_with fail
 refine bC con fun w1 hb1=>?_;go_wp2
 exact bJ rfl rfl ⟨rfl,hb1⟩
theorem yE (B:Nat) (a:Option Addr) (cap:Nat) (ts:List Int) (w:World) (hB:B≤w.heap.size) (h:bf B w a ts) :
  Calls prog 254 #[(14:Int),.slice a ts.length cap] w fun e w'=>e = .returned (.tuple #[.int .i64 (cP (dv 3 ts)).1,.int .i64 (cP (dv 3 ts)).2])∧Below w w w':=by
 have con:=jP 3 B a cap ts w hB h;generalize cP (dv 3 ts)=r at *;generalize ts.length=n at *;clear h;go_enter func254,ntmps254;go_wp2_with fail
 refine bC con fun w1 hb1=>?_;go_wp2
 exact bJ rfl rfl ⟨rfl,hb1⟩
theorem zw (B:Nat) (a:Option Addr) (cap:Nat) (ts:List Int) (w:World) (hB:B≤w.heap.size) (h:bf B w a ts) :
  Calls prog 254 #[(15:Int),.slice a ts.length cap] w fun e w'=>e = .returned (.tuple #[.int .i64 (cP (dv 4 ts)).1,.int .i64 (cP (dv 4 ts)).2])∧Below w w w':=by
 have con:=jP 4 B a cap ts w hB h;generalize cP (dv 4 ts)=r at *;generalize ts.length=n at *;clear h;go_enter func254,ntmps254;go_wp2_with fail
 refine bC con fun w1 hb1=>?_;go_wp2
 exact bJ rfl rfl ⟨rfl,hb1⟩
theorem xS (a:Option Addr) (n cap:Nat) (w:World) :
  Calls prog 254 #[(16:Int),.slice a n cap] w fun e w'=>e = .returned (.tuple #[(2:Int),aD])∧Below w w w':=by
 go_enter func254,ntmps254;go_wp2
 exact bJ rfl rfl ⟨rfl,Mz _ _⟩
theorem Bg (b off cap:Nat) (x y:Int) (w:World) (c0:w.cell? (ah b off)=some (.int .i64 x)) (c1:w.cell? ⟨b,off+1,none⟩=some (.int .i64 y)) (r:Int × Int) (er:r=if (cN x y).2=0 then (2,0) else (0,(cN x y).2)) :
  Calls prog 254 #[(6:Int),.slice (some (ah b off)) 2 cap] w fun e w'=>e = .returned (.tuple #[r.1,r.2])∧Below w w w':=by
 have p0:=ak c0;have p1:=ak c1;haveI:Nonempty (cF w):=⟨⟨_,Mz _ _⟩⟩
 go_enter func254,ntmps254;go_wp2_with fail
 refine aq aG aG ?_
 repeat (go_big_quiet_step (first | (go_at_call 194; exact cG (di x y _))))
 refine wpQuiet_nil ?_;rintro w3 ⟨⟨v3,hb3⟩,h3⟩;obtain rfl:w3=v3:=h3;clear p0 p1 c0 c1;generalize cN x y=t at *;obtain ⟨t1,t2⟩:=t;by_cases h0:t2=0
 ·subst h0;simp only [if_true] at er;subst er;go_wp2
  exact bJ rfl rfl ⟨rfl,hb3⟩
 ·simp only [h0,if_false] at er;subst er;have q:(t2 != 0)=true:=by simpa using h0
  go_wp2
  exact bJ rfl rfl ⟨rfl,hb3⟩
theorem AD (b off cap:Nat) (x y:Int) (w:World) (c0:w.cell? (ah b off)=some (.int .i64 x)) (c1:w.cell? ⟨b,off+1,none⟩=some (.int .i64 y)) (r:Int × Int) (er:r=if (cN x y).2=0 then (2,0) else (0,(cN x y).2)) :
  Calls prog 254 #[(7:Int),.slice (some (ah b off)) 2 cap] w fun e w'=>e = .returned (.tuple #[r.1,r.2])∧Below w w w':=by
 have p0:=ak c0;have p1:=ak c1;haveI:Nonempty (cF w):=⟨⟨_,Mz _ _⟩⟩
 go_enter func254,ntmps254;go_wp2_with fail
 refine aq aG aG ?_
 repeat (go_big_quiet_step (first | (go_at_call 194; exact cG (di x y _))))
 refine wpQuiet_nil ?_;rintro w3 ⟨⟨v3,hb3⟩,h3⟩;obtain rfl:w3=v3:=h3;clear p0 p1 c0 c1;generalize cN x y=t at *;obtain ⟨t1,t2⟩:=t;by_cases h0:t2=0
 ·subst h0;simp only [if_true] at er;subst er;go_wp2
  exact bJ rfl rfl ⟨rfl,hb3⟩
 ·simp only [h0,if_false] at er;subst er;have q:(t2 != 0)=true:=by simpa using h0
  go_wp2
  exact bJ rfl rfl ⟨rfl,hb3⟩
theorem Az (b off cap:Nat) (x y:Int) (w:World) (c0:w.cell? (ah b off)=some (.int .i64 x)) (c1:w.cell? ⟨b,off+1,none⟩=some (.int .i64 y)) (r:Int × Int) (er:r=if (cN x y).2=0 then (2,0) else (0,(cN x y).2)) :
  Calls prog 254 #[(8:Int),.slice (some (ah b off)) 2 cap] w fun e w'=>e = .returned (.tuple #[r.1,r.2])∧Below w w w':=by
 have p0:=ak c0;have p1:=ak c1;haveI:Nonempty (cF w):=⟨⟨_,Mz _ _⟩⟩
 go_enter func254,ntmps254;go_wp2_with fail
 refine aq aG aG ?_
 repeat (go_big_quiet_step (first | (go_at_call 194; exact cG (di x y _))))
 refine wpQuiet_nil ?_;rintro w3 ⟨⟨v3,hb3⟩,h3⟩;obtain rfl:w3=v3:=h3;clear p0 p1 c0 c1;generalize cN x y=t at *;obtain ⟨t1,t2⟩:=t;by_cases h0:t2=0
 ·subst h0;simp only [if_true] at er;subst er;go_wp2
  exact bJ rfl rfl ⟨rfl,hb3⟩
 ·simp only [h0,if_false] at er;subst er;have q:(t2 != 0)=true:=by simpa using h0
  go_wp2
  exact bJ rfl rfl ⟨rfl,hb3⟩
theorem Bs (b off cap:Nat) (x y:Int) (w:World) (c0:w.cell? (ah b off)=some (.int .i64 x)) (c1:w.cell? ⟨b,off+1,none⟩=some (.int .i64 y)) (r:Int × Int) (er:r=if (cN x y).2=0 then (2,0) else (0,(cN x y).2)) :
  Calls prog 254 #[(9:Int),.slice (some (ah b off)) 2 cap] w fun e w'=>e = .returned (.tuple #[r.1,r.2])∧Below w w w':=by
 have p0:=ak c0;have p1:=ak c1;haveI:Nonempty (cF w):=⟨⟨_,Mz _ _⟩⟩
 go_enter func254,ntmps254;go_wp2_with fail
 refine aq aG aG ?_
 repeat (go_big_quiet_step (first | (go_at_call 194; exact cG (di x y _))))
 refine wpQuiet_nil ?_;rintro w3 ⟨⟨v3,hb3⟩,h3⟩;obtain rfl:w3=v3:=h3;clear p0 p1 c0 c1;generalize cN x y=t at *;obtain ⟨t1,t2⟩:=t;by_cases h0:t2=0
 ·subst h0;simp only [if_true] at er;subst er;go_wp2
  exact bJ rfl rfl ⟨rfl,hb3⟩
 ·simp only [h0,if_false] at er;subst er;have q:(t2 != 0)=true:=by simpa using h0
  go_wp2
  exact bJ rfl rfl ⟨rfl,hb3⟩
theorem zy (b off cap:Nat) (x y:Int) (w:World) (c0:w.cell? (ah b off)=some (.int .i64 x)) (c1:w.cell? ⟨b,off+1,none⟩=some (.int .i64 y)) (r:Int × Int) (er:r=if (cN x y).2=0 then (2,0) else (0,(cN x y).2)) :
  Calls prog 254 #[(10:Int),.slice (some (ah b off)) 2 cap] w fun e w'=>e = .returned (.tuple #[r.1,r.2])∧Below w w w':=by
 have p0:=ak c0;have p1:=ak c1;haveI:Nonempty (cF w):=⟨⟨_,Mz _ _⟩⟩
 go_enter func254,ntmps254;go_wp2_with fail
 refine aq aG aG ?_
 repeat (go_big_quiet_step (first | (go_at_call 194; exact cG (di x y _))))
 refine wpQuiet_nil ?_;rintro w3 ⟨⟨v3,hb3⟩,h3⟩;obtain rfl:w3=v3:=h3;clear p0 p1 c0 c1;generalize cN x y=t at *;obtain ⟨t1,t2⟩:=t;by_cases h0:t2=0
 ·subst h0;simp only [if_true] at er;subst er;go_wp2
  exact bJ rfl rfl ⟨rfl,hb3⟩
 ·simp only [h0,if_false] at er;subst er;have q:(t2 != 0)=true:=by simpa using h0
  go_wp2
  exact bJ rfl rfl ⟨rfl,hb3⟩
theorem xD (b off cap:Nat) (x y:Int) (w:World) (c0:w.cell? (ah b off)=some (.int .i64 x)) (c1:w.cell? ⟨b,off+1,none⟩=some (.int .i64 y)) (r:Int × Int) (er:r=if (cN x y).2=0 then (2,0) else (0,(cN x y).2)) :
  Calls prog 254 #[(11:Int),.slice (some (ah b off)) 2 cap] w fun e w'=>e = .returned (.tuple #[r.1,r.2])∧Below w w w':=by
 have p0:=ak c0;have p1:=ak c1;haveI:Nonempty (cF w):=⟨⟨_,Mz _ _⟩⟩
 go_enter func254,ntmps254;go_wp2_with fail
 refine aq aG aG ?_
 repeat (go_big_quiet_step (first | (go_at_call 194; exact cG (di x y _))))
 refine wpQuiet_nil ?_;rintro w3 ⟨⟨v3,hb3⟩,h3⟩;obtain rfl:w3=v3:=h3;clear p0 p1 c0 c1;generalize cN x y=t at *;obtain ⟨t1,t2⟩:=t;by_cases h0:t2=0
 ·subst h0;simp only [if_true] at er;subst er;go_wp2
  exact bJ rfl rfl ⟨rfl,hb3⟩
 ·simp only [h0,if_false] at er;subst er;have q:(t2 != 0)=true:=by simpa using h0
  go_wp2
  exact bJ rfl rfl ⟨rfl,hb3⟩
theorem zm (b off cap:Nat) (x y:Int) (w:World) (c0:w.cell? (ah b off)=some (.int .i64 x)) (c1:w.cell? ⟨b,off+1,none⟩=some (.int .i64 y)) :
  Calls prog 254 #[(18:Int),.slice (some (ah b off)) 2 cap] w fun e w'=>e = .returned (.tuple #[.int .i64 (cN x y).1,.int .i64 (cN x y).2])∧Below w w w':=by
 have p0:=ak c0;have p1:=ak c1;haveI:Nonempty (cF w):=⟨⟨_,Mz _ _⟩⟩
 go_enter func254,ntmps254;go_wp2_with fail
 refine aq aG aG ?_
 repeat (go_big_quiet_step (first | (go_at_call 194; exact cG (di x y _))))
 refine wpQuiet_nil ?_;rintro w3 ⟨⟨v3,hb3⟩,h3⟩;obtain rfl:w3=v3:=h3;go_wp2
 exact bJ rfl rfl ⟨rfl,hb3⟩
theorem yx (b off cap:Nat) (x y z:Int) (w:World) (hb:b<w.heap.size) (c0:w.cell? (ah b off)=some (.int .i64 x)) (c1:w.cell? ⟨b,off+1,none⟩=some (.int .i64 y)) (c2:w.cell? ⟨b,off+2,none⟩=some (.int .i64 z)) (r:Int × Int) (er:r=if (cN x 2).2=0 then cN y z else (0,(cN x 2).2)) :
  Calls prog 254 #[(17:Int),.slice (some (ah b off)) 3 cap] w fun e w'=>e = .returned (.tuple #[r.1,r.2])∧Below w w w':=by
 go_enter func254,ntmps254;go_wp2_with fail
 refine bC (di _ _ _) fun w1 hb1=>?_;have d1:=(hb1.cell (p:=⟨b,off+1,none⟩) hb).trans c1;have d2:=(hb1.cell (p:=⟨b,off+2,none⟩) hb).trans c2;have p1:=ak d1;have p2:=ak d2;haveI:Nonempty (cF w1):=⟨⟨_,Mz _ _⟩⟩
 clear c0 c1 c2;generalize cN x 2=t at *;obtain ⟨t1,t2⟩:=t;by_cases h0:t2=0
 ·subst h0;simp only [if_true] at er;subst er;go_wp2_with fail
  refine aq aG aG ?_
  repeat (go_big_quiet_step (first | (go_at_call 194; exact cG (di y z _))))
  refine wpQuiet_nil ?_;rintro w3 ⟨⟨v3,hb3⟩,h3⟩;obtain rfl:w3=v3:=h3;go_wp2
  exact bJ rfl rfl ⟨rfl,chain hb1 hb3⟩
 ·simp only [h0,if_false] at er;subst er;have q:(t2 != 0)=true:=by simpa using h0
  go_wp2
  exact bJ rfl rfl ⟨rfl,hb1⟩
theorem gD {l:List Int} (h:l.length=2):∃ x y,l = [x,y]:=by
 match l,h with
 | [x,y],_=>exact ⟨x,y,rfl⟩
theorem J1 {l:List Int} (h:l.length=3):∃ x y z,l = [x,y,z]:=by
 match l,h with
 | [x,y,z],_=>exact ⟨x,y,z,rfl⟩
theorem jt {k a b:Int} (h:6≤k) (h':k≤11):cP (du k [a,b])=if (cN a b).2=0 then (2,0) else (0,(cN a b).2):=by
 have e:du k [a,b]=if (ir a b).isSome then some 2 else none:=by
  unfold du;rw [if_neg ag,if_pos ⟨h,h'⟩];rfl
 rw [e];unfold cN;cases ir a b <;> rfl
theorem xO {x y z:Int}:cP (du 17 [x,y,z])=if (cN x 2).2=0 then cN y z else (0,(cN x 2).2):=by
 have e:du 17 [x,y,z]=if (ir x 2).isSome then ir y z else none:=rfl
 rw [e];unfold cN;cases ir x 2 <;> rfl
theorem bf.two {B:Nat} {W:World} {a:Option Addr} {x y:Int} (h:bf B W a [x,y]):∃ b off,a=some ⟨b,off,none⟩∧b<B∧W.cell? (ah b off)=some (.int .i64 x)∧W.cell? ⟨b,off+1,none⟩=some (.int .i64 y):=by
 obtain ⟨_,h | ⟨b,off,e,hlt,hr⟩⟩:=h
 ·simp at h
 ·exact ⟨b,off,e,hlt,hr 0 (by simp),hr 1 (by simp)⟩
theorem bf.three {B:Nat} {W:World} {a:Option Addr} {x y z:Int} (h:bf B W a [x,y,z]):∃ b off,a=some ⟨b,off,none⟩∧b<B∧W.cell? (ah b off)=some (.int .i64 x)∧W.cell? ⟨b,off+1,none⟩=some (.int .i64 y)∧W.cell? ⟨b,off+2,none⟩=some (.int .i64 z):=by
 obtain ⟨_,h | ⟨b,off,e,hlt,hr⟩⟩:=h
 ·simp at h
 ·exact ⟨b,off,e,hlt,hr 0 (by simp),hr 1 (by simp),hr 2 (by simp)⟩
theorem yI (k:Int) (B:Nat) (a:Option Addr) (cap:Nat) (ts:List Int) (w:World) (hB:B≤w.heap.size) (h:bf B w a ts) (h3:3≤k) (h18:k≤18) (hl:ts.length=dy k) :
  Calls prog 254 #[k,.slice a ts.length cap] w fun e w'=>e = .returned (.tuple #[.int .i64 (cP (du k ts)).1,.int .i64 (cP (du k ts)).2])∧Below w w w':=by
 obtain rfl | rfl | rfl | rfl | rfl | rfl | rfl | rfl | rfl | rfl | rfl | rfl | rfl | rfl | rfl | rfl:k=3∨k=4∨k=5∨k=12∨k=13∨k=14∨k=15∨k=16∨k=6∨k=7∨k=8∨k=9∨k=10∨k=11∨k=17∨k=18:=by omega
 ·have e:du 3 ts=dv 2 ts:=rfl;rw [e];exact Ae B a cap ts w hB h
 ·have e:du 4 ts=dv 2 ts:=rfl;rw [e];exact Al B a cap ts w hB h
 ·have e:du 5 ts=dv 2 ts:=rfl;rw [e];exact Ao B a cap ts w hB h
 ·have e:du 12 ts=dv 3 ts:=rfl;rw [e];exact xT B a cap ts w hB h
 ·have e:du 13 ts=dv 3 ts:=rfl;rw [e];exact yQ B a cap ts w hB h
 ·have e:du 14 ts=dv 3 ts:=rfl;rw [e];exact yE B a cap ts w hB h
 ·have e:du 15 ts=dv 4 ts:=rfl;rw [e];exact zw B a cap ts w hB h
 ·have e:cP (du 16 ts)=(2,0):=rfl;rw [e];exact xS a ts.length cap w
 ·obtain ⟨x,y,rfl⟩:=gD hl;obtain ⟨b,off,rfl,hlt,c0,c1⟩:=h.two;exact Bg b off cap x y w c0 c1 _ (jt (by decide) (by decide))
 ·obtain ⟨x,y,rfl⟩:=gD hl;obtain ⟨b,off,rfl,hlt,c0,c1⟩:=h.two;exact AD b off cap x y w c0 c1 _ (jt (by decide) (by decide))
 ·obtain ⟨x,y,rfl⟩:=gD hl;obtain ⟨b,off,rfl,hlt,c0,c1⟩:=h.two;exact Az b off cap x y w c0 c1 _ (jt (by decide) (by decide))
 ·obtain ⟨x,y,rfl⟩:=gD hl;obtain ⟨b,off,rfl,hlt,c0,c1⟩:=h.two;exact Bs b off cap x y w c0 c1 _ (jt (by decide) (by decide))
 ·obtain ⟨x,y,rfl⟩:=gD hl;obtain ⟨b,off,rfl,hlt,c0,c1⟩:=h.two;exact zy b off cap x y w c0 c1 _ (jt (by decide) (by decide))
 ·obtain ⟨x,y,rfl⟩:=gD hl;obtain ⟨b,off,rfl,hlt,c0,c1⟩:=h.two;exact xD b off cap x y w c0 c1 _ (jt (by decide) (by decide))
 ·obtain ⟨x,y,z,rfl⟩:=J1 hl;obtain ⟨b,off,rfl,hlt,c0,c1,c2⟩:=h.three;exact yx b off cap x y z w ag c0 c1 c2 _ xO
 ·obtain ⟨x,y,rfl⟩:=gD hl;obtain ⟨b,off,rfl,hlt,c0,c1⟩:=h.two;have e:cP (du 18 [x,y])=cN x y:=rfl;rw [e];exact zm b off cap x y w c0 c1
inductive aU (B:Nat) (W:World):Option Addr→List Ex→Prop
 | nil (a:Option Addr):aU B W a []
 | some (b off:Nat) (l:List Ex) (ai:Nat→Option Addr) (cap:Nat→Nat) (hb:b<B)
   (hc:∀ (i:Nat) (h:i<l.length),ki W b (off+i*6) l[i].k l[i].v l[i].c (ai i) l[i].ks.length (cap i))
   (hk:∀ (i:Nat) (h:i<l.length),aU B W (ai i) l[i].ks):aU B W (some (ah b off)) l
theorem aU.next {B B':Nat} {W w1:World} (hb:Below B' W w1) (hB:B≤B') {a:Option Addr} {l:List Ex} (h:aU B W a l):aU B w1 a l:=by
 induction h with
 | nil a=>exact .nil a
 | some b off l ai cap hlt hc _ ih=>exact .some b off l ai cap hlt (fun i hi=>(hc i hi).next hb (My hlt hB)) ih
theorem aU.up {B B':Nat} {W:World} (hB:B≤B') {a:Option Addr} {l:List Ex} (h:aU B W a l):aU B' W a l:=by
 induction h with
 | nil a=>exact .nil a
 | some b off l ai cap hlt hc _ ih=>exact .some b off l ai cap (My hlt hB) hc ih
theorem aU.elem {B:Nat} {W:World} {a:Option Addr} {l:List Ex} (h:aU B W a l) {k:Nat} (hk:k<l.length) :
  ∃ b off ai cap,a=Option.some ⟨b,off,none⟩∧b<B∧ki W b (off+k*6) l[k].k l[k].v l[k].c ai l[k].ks.length cap∧aU B W ai l[k].ks:=by
 cases h with
 | nil=>simp at hk
 | some b off l ai cap hlt hc hh=>exact ⟨b,off,ai k,cap k,rfl,hlt,hc k hk,hh k hk⟩
def aw (t:Nat) (w w':World):Prop:=Below t w w'∧∀ k,k<w.heap.size→k≠t→w'.heap[k]? = w.heap[k]?
theorem aw.refl (t:Nat) (w:World):aw t w w:=⟨Mz _ _,fun _ _ _=>rfl⟩
theorem aw.size {t:Nat} {a b:World} (h:aw t a b):a.heap.size≤b.heap.size:=h.1.size
theorem aw.trans {t:Nat} {a b c:World} (h:aw t a b) (k:aw t b c):aw t a c :=
 ⟨h.1.trans k.1,fun i hi hn=>(k.2 i (My hi h.size) hn).trans (h.2 i hi hn)⟩
theorem aw.of {t:Nat} {a b:World} (h:Below a a b) (ht:t≤a.heap.size):aw t a b:=⟨h.mono ht,fun k hk _=>h.block k hk⟩
theorem aw.set {t:Nat} {a b:World} (h:aw t a b) (o:Nat) (u:Value):aw t a (b.setCell (ah t o) u) :=
 ⟨h.1.setCell (Mx _) u,fun k hk hn=>(Nf b (ah t o) u k hn).trans (h.2 k hk hn)⟩
theorem aw.mu {t:Nat} {a b:World} (h:aw t a b) (g o:Nat) (u:Value) (hg:a.heap.size≤g) (ht:t≤a.heap.size):aw t a (b.setCell (ah g o) u) :=
 ⟨h.1.setCell (MO ht hg) u,fun k hk hn=>(Nf b (ah g o) u k (by show k≠g; omega)).trans (h.2 k hk hn)⟩
theorem aw.cell {t:Nat} {a b:World} (h:aw t a b) {p:Addr} (hp:p.block<a.heap.size) (hn:p.block≠t):b.cell? p=a.cell? p:=MP (w:=a) (h.2 p.block hp hn)
theorem aw.frozen {t:Nat} {a b:World} (h:aw t a b) {p:Addr} (hp:p.block<a.heap.size) (hn:p.block≠t):b.frozen? p=a.frozen? p:=NU (w:=a) (h.2 p.block hp hn)
theorem aw.below {t B:Nat} {a b:World} (h:aw t a b) (hB:B≤t):Below B a b:=h.1.mono hB
theorem ki.mx {W w1:World} {t b off:Nat} {k:Int} {v:Vl} {c:Int} {a:Option Addr} {n cap:Nat} (h:ki W b off k v c a n cap) (hb:aw t W w1) (hB:b<W.heap.size) (hn:b≠t):ki w1 b off k v c a n cap :=
 ⟨(hb.cell (p:=⟨b,_,none⟩) hB hn).trans h.c0,(hb.cell (p:=⟨b,_,none⟩) hB hn).trans h.c1,(hb.cell (p:=⟨b,_,none⟩) hB hn).trans h.c2,(hb.cell (p:=⟨b,_,none⟩) hB hn).trans h.c3,(hb.cell (p:=⟨b,_,none⟩) hB hn).trans h.c4,(hb.cell (p:=⟨b,_,none⟩) hB hn).trans h.c5⟩
structure j9 (W:World) (t:Nat) (ca:Option Addr) (n cap:Nat) (m:Int):Prop where
 lt:t<W.heap.size
 c0:W.cell? (ah t 0)=some (.slice ca n cap)
 c1:W.cell? (ah t 1)=some (.int .i64 m)
 f1:W.frozen? (ah t 1)=false
theorem j9.next {W w1:World} {t:Nat} {ca:Option Addr} {n cap:Nat} {m:Int} (h:j9 W t ca n cap m) (hb:Below W W w1):j9 w1 t ca n cap m :=
 ⟨My h.lt hb.size,(hb.cell (p:=ah t 0) h.lt).trans h.c0,(hb.cell (p:=ah t 1) h.lt).trans h.c1,(hb.frozen (p:=ah t 1) h.lt).trans h.f1⟩
theorem j9.count {W:World} {t:Nat} {ca:Option Addr} {n cap:Nat} {m:Int} (h:j9 W t ca n cap m) (m':Int):j9 (W.setCell (ah t 1) m') t ca n cap m':=by
 obtain ⟨lt,c0,c1,f1⟩:=h;refine ⟨by simpa using lt,?_,?_,?_⟩
 ·rw [MN _ _ _ _ (by simp)];exact c0
 ·exact NB _ _ _ c1
 ·simpa using f1
structure dC (W:World) (g:Nat) (l:List Int):Prop where
 lt:g<W.heap.size
 c:∀ (i:Nat) (h:i<l.length),W.cell? (ah g i)=some (.int .i64 l[i])
 f:∀ i:Nat,W.frozen? (ah g i)=false
theorem dC.mx {t:Nat} {W w1:World} {g:Nat} {l:List Int} (h:dC W g l) (hb:aw t W w1) (hn:g≠t):dC w1 g l :=
 ⟨My h.lt hb.size,fun i hi=>(hb.cell (p:=ah g i) h.lt hn).trans (h.c i hi),fun i=>(hb.frozen (p:=ah g i) h.lt hn).trans (h.f i)⟩
theorem dC.set {W:World} {g:Nat} {l:List Int} (h:dC W g l) (i:Nat) (hi:i<l.length) (u:Int):dC (W.setCell (ah g i) u) g (l.set i u):=by
 refine ⟨by simpa using h.lt,fun j hj=>?_,fun j=>by simpa using h.f j⟩;have hj':j<l.length:=by simpa using hj
 by_cases e:i=j
 ·subst e;rw [NB _ _ _ (h.c i hi)];simp
 ·rw [MN _ _ _ _ (by intro h; injection h with _ h; exact e h),h.c j hj'];simp [NF e]
theorem dC.is {W:World} {g:Nat} {l:List Int} (h:dC W g l) (hl:l.length≤maxLen):bf W W (some (ah g 0)) l :=
 ⟨hl,.inr ⟨g,0,rfl,h.lt,fun i hi=>by simpa using h.c i hi⟩⟩
theorem dC.new (w : World) (n t : Nat) : dC (w.alloc (.cells (Array.replicate n aD) t)) w (List.replicate n 0) :=
  ⟨by simp, fun i hi => by have : i < n := by simpa using hi
                           simp [this], fun i => by simp⟩
theorem CJ {n:Nat} (h:n≤3) (w:World):(Instr.makeSlice 33 n n).run prog w = .ok (.slice (some (ah w 0)) n n) (w.alloc (.cells (Array.replicate n aD) 3)):=by
 obtain rfl | rfl | rfl | rfl:n=0∨n=1∨n=2∨n=3:=by omega
 all_goals kernel_rfl
theorem sD (k:Int):dy k≤3:=by
 unfold dy
 repeat' split
 all_goals omega
def rX (cols:List Int) (x:Ex):Prop :=
 ∀ (B t:Nat) (ca:Option Addr) (ccap:Nat) (a:Option Addr) (cap:Nat) (m d:Int) (w:World),aU B w a x.ks→bf B w ca cols→B≤t→j9 w t ca cols.length ccap m→0≤m→m≤200→0≤d→d≤21 →
  Calls prog 224 #[ah t 0,fN x.k x.v x.c a x.ks.length cap,d] w fun e w' =>
   e = .returned (.tuple #[.int .i64 (bO cols x m d).1,.int .i64 (bO cols x m d).2.1])∧aw t w w'∧j9 w' t ca cols.length ccap (bO cols x m d).2.2
theorem mN {cols:List Int} {k:Int} {v:Vl} {c:Int} {ks:List Ex} {m d:Int} (h:¬ fT k ks.length (m+1) d=0):bO cols (.mk k v c ks) m d=(0,fT k ks.length (m+1) d,m+1):=by
 rw [bO,if_pos h]
theorem vT {cols:List Int} {k:Int} {v:Vl} {c:Int} {ks:List Ex} {m d:Int} (h:fT k ks.length (m+1) d=0) {e:Int} {ts:List Int} {n:Int} (hk:cJ cols ks [] (m+1) (d+1)=(e,ts,n)) (he:¬ e=0):bO cols (.mk k v c ks) m d=(0,e,n):=by
 rw [bO,if_neg (by simp [h]),hk,if_pos he]
theorem vF {cols:List Int} {k:Int} {v:Vl} {c:Int} {ks:List Ex} {m d:Int} (h:fT k ks.length (m+1) d=0) {ts:List Int} {n:Int} (hk:cJ cols ks [] (m+1) (d+1)=(0,ts,n)):bO cols (.mk k v c ks) m d=((cV cols k v c ts).1,(cV cols k v c ts).2,n):=by
 rw [bO,if_neg (by simp [h]),hk,if_neg (by simp)]
theorem td (cols:List Int) (ks:List Ex) (ts:List Int) (n d:Int) (j:Nat) (h:ks.length≤j):cJ cols (ks.drop j) ts n d=(0,ts,n):=by
 rw [M7 h,cJ]
theorem sd (cols:List Int) (ks:List Ex) (ts:List Int) (n d:Int) (j:Nat) (h:j<ks.length) (he:¬ (bO cols ks[j] n d).2.1=0):cJ cols (ks.drop j) ts n d=((bO cols ks[j] n d).2.1,ts,(bO cols ks[j] n d).2.2):=by
 rw [MI h,cJ,if_pos he]
theorem qD (cols:List Int) (ks:List Ex) (ts:List Int) (n d:Int) (j:Nat) (h:j<ks.length) (he:(bO cols ks[j] n d).2.1=0):cJ cols (ks.drop j) ts n d=cJ cols (ks.drop (j+1)) (ts ++ [(bO cols ks[j] n d).1]) (bO cols ks[j] n d).2.2 d:=by
 rw [MI h,cJ,if_neg (by simp [he])]
theorem dR {W:World} {g o b p:Nat} {u:Value} (hn:g≠b):(W.setCell (ah g o) u).cell? (ah b p)=W.cell? (ah b p) :=
 MN _ _ _ _ (by intro h; injection h with h; exact hn h)
theorem ki.Fu {W:World} {b off:Nat} {k:Int} {v:Vl} {c:Int} {a:Option Addr} {n cap:Nat} (h:ki W b off k v c a n cap) (g o:Nat) (u:Value) (hn:g≠b):ki (W.setCell (ah g o) u) b off k v c a n cap :=
 ⟨(dR hn).trans h.c0,(dR hn).trans h.c1,(dR hn).trans h.c2,(dR hn).trans h.c3,(dR hn).trans h.c4,(dR hn).trans h.c5⟩
theorem j9.Fu {W:World} {t:Nat} {ca:Option Addr} {n cap:Nat} {m:Int} (h:j9 W t ca n cap m) (g o:Nat) (u:Value) (hn:g≠t):j9 (W.setCell (ah g o) u) t ca n cap m :=
 ⟨by simpa using h.lt,(dR hn).trans h.c0,(dR hn).trans h.c1,by simpa using h.f1⟩
theorem CF (ts:List Int) (n j:Nat) (x:Int) (h:ts.length=j) (hj:j<n):(ts ++ List.replicate (n - j) 0).set j x=(ts ++ [x]) ++ List.replicate (n - (j+1)) 0:=by
 subst h;obtain ⟨q,hq⟩:∃ q,n - ts.length=q+1:=⟨n - ts.length - 1,by omega⟩
 have hq':n - (ts.length+1)=q:=by omega
 rw [hq,hq',List.replicate_succ,List.set_append_right _ _ (Mx _)];simp
theorem D1 (cols:List Int) (k:Int) (v:Vl) (c:Int) (ks:List Ex) (ih:∀ x ∈ ks,rX cols x):rX cols (.mk k v c ks):=by
 intro B t ca ccap a cap m d w hk hc hBt ht hm0 hm hd0 hd;simp only [Ex.k,Ex.v,Ex.c,Ex.ks] at hk ⊢;have H1:=ht.lt;have H2:=ht.c1;have H3:=ht.f1;generalize hr:bO cols (.mk k v c ks) m d=r;have HR:=aB hr;clear hr;go_enter func224,ntmps224;go_wp2_with fail
 have T0:=ht.count (m+1);have X0:=(aw.refl t w).set 1 (.int .i64 (m+1));have SA:=ki.new (w.setCell (ah t 1) (.int .i64 (m+1))) k v c a ks.length cap 27;rw [N9] at SA;have hal:Below (w.setCell (ah t 1) (.int .i64 (m+1))).heap.size (w.setCell (ah t 1) (.int .i64 (m+1))) ((w.setCell (ah t 1) (.int .i64 (m+1))).alloc (.cells #[k,v.1,v.2.1,v.2.2,c,.slice a ks.length cap] 27)):=aN ..;have TA:=T0.next hal;have XA:=X0.trans (aw.of hal (by simp; omega))
 have zA:w.heap.size<((w.setCell (ah t 1) (.int .i64 (m+1))).alloc (.cells #[k,v.1,v.2.1,v.2.2,c,.slice a ks.length cap] 27)).heap.size:=by simp
 clear hal T0 X0 H2 H3 ht;generalize (w.setCell (ah t 1) (.int .i64 (m+1))).alloc (.cells #[k,v.1,v.2.1,v.2.2,c,.slice a ks.length cap] 27)=wA at *;have p0:=ak SA.c0;have p1:=ak SA.c1;have p2:=ak SA.c2;have p3:=ak SA.c3;have p4:=ak SA.c4;have p5:=ak SA.c5;have p6:=ak TA.c1;simp only [MG] at p1 p2 p3 p4 p5;haveI:Nonempty (cF wA):=⟨⟨_,Mz _ _⟩⟩
 refine aq aG aG ?_
 repeat (go_big_quiet_step (first | (go_at_call 251; exact cG (vZ k v c a ks.length cap (m+1) d _))))
 refine wpQuiet_nil ?_;rintro w3 ⟨⟨v3,hb3⟩,h3'⟩;obtain rfl:w3=v3:=h3';have T3:=TA.next hb3;have S3:=SA.next hb3 zA;have X3:=XA.trans (aw.of hb3 ag);have z3:=hb3.size;clear p0 p1 p2 p3 p4 p5 p6 TA SA XA this;generalize hw0:fT k ks.length (m+1) d=e0;by_cases hw:e0=0
 ·subst hw;have HW:=aB hw0;have hq:ks.length=dy k∧1≤k∧k≤18∧m+1≤200∧d≤20:=by
   unfold fT at hw0;by_cases g1:200<m+1∨20<d
   ·simp [g1] at hw0
   by_cases g2:k<1∨18<k
   ·simp [g1,g2] at hw0
   by_cases g3:ks.length=dy k
   ·exact ⟨g3,by omega⟩
   ·simp [g1,g2,g3] at hw0
  obtain ⟨hln,hk1,hk18,hm1,hd1⟩:=hq;have hl3:ks.length≤3:=by rw [hln]; exact sD k
  have HL:=aB hln;have hmk:=CJ hl3;clear hw0 hln;obtain ⟨s0,s1,s2,s3,s4,s5⟩:=S3;simp only [MG] at s1 s2 s3 s4 s5;have zl:w.heap.size<w3.heap.size:=by omega
  go_wp2_with fail
  have S3:ki w3 w 0 k v c a ks.length cap:=⟨s0,s1,s2,s3,s4,s5⟩
  have O4:=dC.new w3 ks.length 3;have hal:=aN w3 (.cells (Array.replicate ks.length aD) 3);have T4:=T3.next hal;have S4:=S3.next hal zl;have X4:=X3.trans (aw.of hal ag);generalize w3.alloc _=w4 at *;clear hal T3 S3 X3 s0 s1 s2 s3 s4 s5 hmk hb3 z3 zA;generalize w3.heap.size=g at *
  go_loopw [38] (fun i wr=>∃ (j:Nat) (ts:List Int) (q:Int),j≤ks.length∧i = .int .i64 j∧Hid (ts.length=j)∧0≤q∧q≤200∧Hid (cJ cols ks [] (m+1) (d+1)=cJ cols (ks.drop j) ts q (d+1)) ∧
   aw t w wr∧j9 wr t ca cols.length ccap q∧ki wr w 0 k v c a ks.length cap∧dC wr g (ts ++ List.replicate (ks.length - j) 0)) (fun i _=>ks.length - (intOf i).toNat)
  case atStart=>exact ⟨0,[],m+1,MD _,rfl,rfl,by omega,hm1,rfl,X4,T4,S4,by simpa using O4⟩
  case round =>
   obtain ⟨j,ts,q,hj,rfl,HT,hq0,hq,HE,hX,hT,hS,hO⟩:=hrel;have hz:=hX.size;have hOl:=hO.lt;by_cases hlt:j<ks.length
   ·obtain ⟨b,off,ai,ci,rfl,hbl,sx,kx⟩:=(aU.next (hX.below hBt) (Mx _) hk).elem hlt;have hcr:=hc.next (hX.below hBt) (Mx _);obtain ⟨x0,x1,x2,x3,x4,x5⟩:=sx;have hal:=aN wr (.cells #[.int .i64 ks[j].k,.int .i64 ks[j].v.1,.int .i64 ks[j].v.2.1,.string ks[j].v.2.2,.int .i64 ks[j].c,.slice ai ks[j].ks.length ci] 27);have con:=ih ks[j] (MC _) B t ca ccap ai ci q (d+1) _ (aU.next hal ag kx) (hcr.next hal ag) hBt (hT.next hal) hq0 hq ag ag;go_wp2_with fail
    refine con.mono ?_;clear con;rintro e w5 ⟨rfl,hX5,hT5⟩;have X5:=(aw.of hal (t:=t) ag).trans hX5;have hX5':=hX.trans X5;have O5:=hO.mx X5 ag;have S5:=hS.mx X5 ag ag;generalize hty:bO cols ks[j] q (d+1)=ty at *;have HY:=aB hty;obtain ⟨t1,e1,n1⟩:=ty;clear hty hX5 hal hT hS hO x0 x1 x2 x3 x4 x5 kx hcr;by_cases he:e1=0
    ·subst he;have hn1:=CE (by rw [HY.out]:(bO cols ks[j] q (d+1)).2.1=0);rw [HY.out] at hn1;have HN:=aB hn1;have hlen:j<(ts ++ List.replicate (ks.length - j) 0).length:=by have:=HT.out; simp; omega
     have cc:w5.cell? (ah g j)=some (.int .i64 ((ts ++ List.replicate (ks.length - j) 0).getD j 0)):=by rw [O5.c j hlen]; simp [List.getD,M1 hlen]
     generalize (ts ++ List.replicate (ks.length - j) 0).getD j 0=LG at cc;have ff:=O5.f j;have O6:=O5.set j hlen t1;rw [CF ts ks.length j t1 HT.out hlt] at O6;have S6:=S5.Fu g j t1 ag;have T6:=hT5.Fu g j t1 ag;have X6:=hX5'.mu g j t1 ag ag;clear hn1 O5 S5 hT5 hX5' X5 hlen;go_wp2
     go_roundw
     case rel=>exact ⟨j+1,ts ++ [t1],n1,by omega,by go_num,by have:=HT.out; show (ts ++ [t1]).length=j+1; simp [this],by have:=HN.out; omega,HN.out.1,by rw [HE.out,qD cols ks ts q (d+1) j hlt (by rw [HY.out]),HY.out]; rfl,X6,T6,S6,O6⟩
     case measure=>simp [intOf]; omega
    ·have er:r=(0,e1,n1):=by
      rw [← HR.out];refine vT HW.out (ts:=ts) ?_ he;rw [HE.out,sd cols ks ts q (d+1) j hlt (by rw [HY.out]; exact he),HY.out]
     subst er;have q':(e1 != 0)=true:=by simpa using he
     clear HR O5 S5;go_wp2
     exact bJ rfl rfl ⟨rfl,hX5',hT5⟩
   ·have ej:j=ks.length:=by omega
    subst ej;have hts:=HT.out;rw [Nat.sub_self,List.replicate_zero,M8] at hO;have er:r=((cV cols k v c ts).1,(cV cols k v c ts).2,q):=by
     rw [← HR.out];refine vF HW.out ?_;rw [HE.out,td cols ks ts q (d+1) _ (Mx _)]
    have HTS:=aB hts;clear HR HE hts HT;obtain ⟨s0,s1,s2,s3,s4,s5⟩:=hS;simp only [MG] at s1 s2 s3 s4 s5;by_cases k1:k=1
    ·subst k1;have e:cV cols 1 v c ts=oJ v:=by simp [cV]
     rw [e] at er;subst er;clear e;go_wp2_with fail
     refine bC (AR v _) fun w5 hb5=>?_;have T5:=hT.next hb5;have X5:=hX.trans (aw.of hb5 ag);clear s0 s1 s2 s3 s4 s5;go_wp2
     exact bJ rfl rfl ⟨rfl,X5,T5⟩
    have n1:(k == 1)=false:=by simpa using k1
    by_cases k2:k=2
    ·subst k2;have e:cV cols 2 v c ts=mE cols c:=by simp [cV]
     rw [e] at er;subst er;clear e;have hcr:=hc.next (hX.below hBt) (Mx _);have p0:=ak hT.c0;have p4:=ak s4;haveI:Nonempty (cF wr):=⟨⟨_,Mz _ _⟩⟩
     go_wp2_with fail
     refine aq aG aG ?_
     repeat (go_big_quiet_step (first | (go_at_call 253; exact cG (Bp B ca ccap cols c _ (hcr.next (cF.ok _) ag)))))
     refine wpQuiet_nil ?_;rintro w5 ⟨⟨v5,hb5⟩,h5⟩;obtain rfl:w5=v5:=h5;have T5:=hT.next hb5;have X5:=hX.trans (aw.of hb5 ag);clear p0 p4 s0 s1 s2 s3 s4 s5;go_wp2
     exact bJ rfl rfl ⟨rfl,X5,T5⟩
    have n2:(k == 2)=false:=by simpa using k2
    have e:cV cols k v c ts=cP (du k ts):=by simp [cV,k1,k2]
    rw [e] at er;clear e;have con:=yI k wr (some (ah g 0)) ks.length ts wr (Mx _) (hO.is (by rw [HTS.out]; unfold maxLen; omega)) ag hk18 (by rw [HTS.out]; exact HL.out);rw [HTS.out] at con;generalize cP (du k ts)=rr at *;subst er;go_wp2_with fail
    refine bC con fun w5 hb5=>?_;have T5:=hT.next hb5;have X5:=hX.trans (aw.of hb5 ag);clear con s0 s1 s2 s3 s4 s5;go_wp2
    exact bJ rfl rfl ⟨rfl,X5,T5⟩
 ·have er:r=(0,e0,m+1):=by rw [← HR.out,← hw0,mN (by rw [hw0]; exact hw)]
  subst er;have q:(e0 != 0)=true:=by simpa using hw
  clear hw0 HR S3;go_wp2
  exact bJ rfl rfl ⟨rfl,X3,T3⟩
theorem BO (cols:List Int):∀ x,rX cols x:=Ex.ind fun k v c ks ih=>D1 cols k v c ks ih
theorem tq (cols:List Int):∀ (x:Ex) (n d:Int),¬ (bO cols x n d).2.1=0→(bO cols x n d).1=0
 | .mk k v c ks,n,d=>by
  rw [bO]
  split
  ·intro _; rfl
  split
  ·intro _; rfl
  ·generalize (cJ cols ks [] (n+1) (d+1)).2.1=ts
   unfold cV
   split
   ·unfold oJ; split <;> simp
   split
   ·unfold mE; split <;> simp
   ·cases du k ts <;> simp [cP]
theorem su {cols:List Int} {x:Ex} (h1:cols.length≤16) (h2:gG cols=true):ax cols x=((bO cols x 0 1).1,(bO cols x 0 1).2.1):=by
 unfold ax;rw [if_neg ag,if_neg (by simp [h2])];by_cases h:(bO cols x 0 1).2.1=0
 ·rw [if_pos h,h]
 ·rw [if_neg h,tq cols x 0 1 h]
theorem uX (l:List Int) (k:Nat) (h:l.length≤k):gG (l.drop k)=true:=by rw [M7 h]; rfl
theorem pe (l:List Int) (k:Nat) (h:k<l.length) (e:l[k]<1∨4<l[k]):gG (l.drop k)=false:=by
 rw [MI h,gG,List.all_cons];have:(decide (1≤l[k]) && decide (l[k]≤4))=false:=by
  rcases e with e | e
  ·have:decide (1≤l[k])=false:=decide_eq_false ag;rw [this]; rfl
  ·have:decide (l[k]≤4)=false:=decide_eq_false ag;rw [this,Bool.and_false]
 rw [this,Bool.false_and]
theorem s9 (l:List Int) (k:Nat) (h:k<l.length) (e:¬ l[k]<1) (e':¬ 4<l[k]):gG (l.drop k)=gG (l.drop (k+1)):=by
 rw [MI h,gG,List.all_cons];have:(decide (1≤l[k]) && decide (l[k]≤4))=true:=by
  rw [decide_eq_true ag,decide_eq_true ag]; rfl
 rw [this,Bool.true_and];rfl
theorem rB (cols:List Int) (x:Ex) (ca:Option Addr) (ccap:Nat) (a:Option Addr) (cap:Nat) (w:World) (hk:aU w w a x.ks) (hc:bf w w ca cols) :
  Calls prog 192 #[.slice ca cols.length ccap,fN x.k x.v x.c a x.ks.length cap] w fun e w'=>e = .returned (.tuple #[.int .i64 (ax cols x).1,.int .i64 (ax cols x).2])∧Below w w w':=by
 have hl:=hc.1;unfold maxLen at hl;generalize hr:ax cols x=r;have HR:=aB hr;clear hr;by_cases h16:16<cols.length
 ·have er:r=(0,5):=by rw [← HR.out,ax,if_pos h16]
  subst er;clear HR;go_enter func192,ntmps192;go_wp2
  exact bJ rfl rfl ⟨rfl,aN ..⟩
 go_enter func192,ntmps192;go_wp2_with fail
 have S0:=ki.new w x.k x.v x.c a x.ks.length cap 27;have hal:=aN w (.cells (hJ x a cap) 27);have z0:w.heap.size<(w.alloc (.cells (hJ x a cap) 27)).heap.size:=by simp
 generalize w.alloc _=w0 at *;go_loopw [14] (fun i wr=>∃ j:Nat,j≤cols.length∧i = .int .i64 j∧Hid (gG cols=gG (cols.drop j))∧wr=w0) (fun i _=>cols.length - (intOf i).toNat)
 case atStart=>exact ⟨0,MD _,rfl,rfl,rfl⟩
 case round =>
  obtain ⟨j,hj,rfl,HE,rfl⟩:=hrel;by_cases hlt:j<cols.length
  ·obtain ⟨b,off,rfl,hbl,c⟩:=(hc.next hal (Mx _)).elem hlt;by_cases g1:cols[j]<1
   ·have er:r=(0,1):=by
     rw [← HR.out,ax,if_neg h16,HE.out,pe cols j hlt (.inl g1),if_pos rfl]
    subst er;clear HR HE;go_wp2
    exact bJ rfl rfl ⟨rfl,hal⟩
   by_cases g2:4<cols[j]
   ·have er:r=(0,1):=by
     rw [← HR.out,ax,if_neg h16,HE.out,pe cols j hlt (.inr g2),if_pos rfl]
    subst er;clear HR HE;go_wp2
    exact bJ rfl rfl ⟨rfl,hal⟩
   have HC:=aB (s9 cols j hlt g1 g2);go_wp2
   go_roundw
   case rel=>exact ⟨j+1,by omega,by go_num,HE.out.trans HC.out,trivial⟩
   case measure=>simp [intOf]; omega
  ·have hcb:gG cols=true:=by rw [HE.out,uX cols j ag]
   have er:r=((bO cols x 0 1).1,(bO cols x 0 1).2.1):=by rw [← HR.out,su ag hcb]
   have T0:j9 (wr.alloc (.cells #[.slice ca cols.length ccap,aD] 245)) wr ca cols.length ccap 0:=⟨by simp,by simp,by simp,by simp⟩
   have hal2:=aN wr (.cells #[.slice ca cols.length ccap,aD] 245);have con:=BO cols x w wr.heap.size ca ccap a cap 0 1 _ (aU.next (chain hal hal2) (Mx _) hk) (hc.next (chain hal hal2) (Mx _)) hal.size T0 ag ag ag ag;generalize bO cols x 0 1=ty at *;subst er;clear HR HE hcb;obtain ⟨s0,s1,s2,s3,s4,s5⟩:=S0;simp only [MG] at s1 s2 s3 s4 s5;go_wp2_with fail
   refine con.mono ?_;rintro e w5 ⟨rfl,hX,_⟩;have hb5:=(chain hal hal2).trans (hX.below hal.size);clear con s0 s1 s2 s3 s4 s5 hX T0 hal2;go_wp2
   exact bJ rfl rfl ⟨rfl,hb5⟩
end Go.Proofs.YtoefpglknaiaeaaGreat
