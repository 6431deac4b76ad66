/- Together: Y3, Y4, Y5, K3, Y6, Z4, P1, Z5, Z6. -/
import Derived.Deep.RegionWith
import Derived.Laws.EntriesVeiled
import Derived.Shelf.Abstract
import Derived.Shelf.SlSortCmp.WholeK
import Derived.Shelf.Lay
import Derived.Ground.SlsfProg
import Derived.Deep.Slices
import Derived.Test.YtjebpkhkjkjphaaGreatP3
import Derived.Test.YtjebpkhkjkjphaaGreatP2
namespace Go.Proofs.YtjebpkhkjkjphaaGreat
open Go.RowKit
set_option maxRecDepth 100000
set_option maxHeartbeats 16000000
theorem pK {l:List Int} (h:l.length=2):∃ x y,l = [x,y]:=by
 match l,h with
 | [x,y],_=>exact ⟨x,y,rfl⟩
theorem K2 {l:List Int} (h:l.length=3):∃ x y z,l = [x,y,z]:=by
 match l,h with
 | [x,y,z],_=>exact ⟨x,y,z,rfl⟩
theorem iC {k a b:Int} (h:6≤k) (h':k≤11):dB (fm k [a,b])=if (bR a b).2=0 then (2,0) else (0,(bR a b).2):=by
 have e:fm k [a,b]=if (rC a b).isSome then some 2 else none:=by
  unfold fm;rw [if_neg (by omega),if_pos ⟨h,h'⟩];rfl
 rw [e];unfold bR;cases rC a b <;> rfl
theorem vr {x y z:Int}:dB (fm 17 [x,y,z])=if (bR x 2).2=0 then bR y z else (0,(bR x 2).2):=by
 have e:fm 17 [x,y,z]=if (rC x 2).isSome then rC y z else none:=rfl
 rw [e];unfold bR;cases rC x 2 <;> rfl
theorem bG.two {B:Nat} {W:World} {a:Option Addr} {x y:Int} (h:bG B W a [x,y]):∃ b off,a=some ⟨b,off,none⟩∧b<B∧W.cell? ⟨b,off,none⟩=some (.int .i64 x)∧W.cell? ⟨b,off+1,none⟩=some (.int .i64 y):=by
 obtain ⟨_,h | ⟨b,off,e,hlt,hr⟩⟩:=h
 ·simp at h
 ·exact ⟨b,off,e,hlt,hr 0 (by simp),hr 1 (by simp)⟩
theorem bG.three {B:Nat} {W:World} {a:Option Addr} {x y z:Int} (h:bG B W a [x,y,z]):∃ b off,a=some ⟨b,off,none⟩∧b<B∧W.cell? ⟨b,off,none⟩=some (.int .i64 x)∧W.cell? ⟨b,off+1,none⟩=some (.int .i64 y)∧W.cell? ⟨b,off+2,none⟩=some (.int .i64 z):=by
 obtain ⟨_,h | ⟨b,off,e,hlt,hr⟩⟩:=h
 ·simp at h
 ·exact ⟨b,off,e,hlt,hr 0 (by simp),hr 1 (by simp),hr 2 (by simp)⟩
theorem wX (k:Int) (B:Nat) (a:Option Addr) (cap:Nat) (ts:List Int) (w:World) (hB:B≤w.heap.size) (h:bG B w a ts) (h3:3≤k) (h18:k≤18) (hl:ts.length=eL k) :
  Calls Tryz.prog 130 #[.int .i64 k,.slice a ts.length cap] w fun e w'=>e = .returned (.tuple #[.int .i64 (dB (fm k ts)).1,.int .i64 (dB (fm k ts)).2])∧Below w.heap.size w w':=by
 obtain rfl | rfl | rfl | rfl | rfl | rfl | rfl | rfl | rfl | rfl | rfl | rfl | rfl | rfl | rfl | rfl:k=3∨k=4∨k=5∨k=12∨k=13∨k=14∨k=15∨k=16∨k=6∨k=7∨k=8∨k=9∨k=10∨k=11∨k=17∨k=18:=by omega
 ·have e:fm 3 ts=cS 2 ts:=rfl;rw [e];exact yT B a cap ts w hB h
 ·have e:fm 4 ts=cS 2 ts:=rfl;rw [e];exact Ab B a cap ts w hB h
 ·have e:fm 5 ts=cS 2 ts:=rfl;rw [e];exact yh B a cap ts w hB h
 ·have e:fm 12 ts=cS 3 ts:=rfl;rw [e];exact uM B a cap ts w hB h
 ·have e:fm 13 ts=cS 3 ts:=rfl;rw [e];exact wW B a cap ts w hB h
 ·have e:fm 14 ts=cS 3 ts:=rfl;rw [e];exact uZ B a cap ts w hB h
 ·have e:fm 15 ts=cS 4 ts:=rfl;rw [e];exact wb B a cap ts w hB h
 ·have e:dB (fm 16 ts)=(2,0):=rfl;rw [e];exact wY a ts.length cap w
 ·obtain ⟨x,y,rfl⟩:=pK hl;obtain ⟨b,off,rfl,hlt,c0,c1⟩:=h.two;exact xR b off cap x y w c0 c1 _ (iC (by decide) (by decide))
 ·obtain ⟨x,y,rfl⟩:=pK hl;obtain ⟨b,off,rfl,hlt,c0,c1⟩:=h.two;exact Ad b off cap x y w c0 c1 _ (iC (by decide) (by decide))
 ·obtain ⟨x,y,rfl⟩:=pK hl;obtain ⟨b,off,rfl,hlt,c0,c1⟩:=h.two;exact yE b off cap x y w c0 c1 _ (iC (by decide) (by decide))
 ·obtain ⟨x,y,rfl⟩:=pK hl;obtain ⟨b,off,rfl,hlt,c0,c1⟩:=h.two;exact zC b off cap x y w c0 c1 _ (iC (by decide) (by decide))
 ·obtain ⟨x,y,rfl⟩:=pK hl;obtain ⟨b,off,rfl,hlt,c0,c1⟩:=h.two;exact vP b off cap x y w c0 c1 _ (iC (by decide) (by decide))
 ·obtain ⟨x,y,rfl⟩:=pK hl;obtain ⟨b,off,rfl,hlt,c0,c1⟩:=h.two;exact vd b off cap x y w c0 c1 _ (iC (by decide) (by decide))
 ·obtain ⟨x,y,z,rfl⟩:=K2 hl;obtain ⟨b,off,rfl,hlt,c0,c1,c2⟩:=h.three;exact vp b off cap x y z w (by omega) c0 c1 c2 _ vr
 ·obtain ⟨x,y,rfl⟩:=pK hl;obtain ⟨b,off,rfl,hlt,c0,c1⟩:=h.two;have e:dB (fm 18 [x,y])=bR x y:=rfl;rw [e];exact vj b off cap x y w c0 c1
inductive aX (B:Nat) (W:World):Option Addr→List Ex→Prop
 | nil (a:Option Addr):aX B W a []
 | some (b off:Nat) (l:List Ex) (ai:Nat→Option Addr) (cap:Nat→Nat) (hb:b<B)
   (hc:∀ (i:Nat) (h:i<l.length),jP W b (off+i*6) l[i].k l[i].v l[i].c (ai i) l[i].ks.length (cap i))
   (hk:∀ (i:Nat) (h:i<l.length),aX B W (ai i) l[i].ks):aX B W (some ⟨b,off,none⟩) l
theorem aX.next {B B':Nat} {W w1:World} (hb:Below B' W w1) (hB:B≤B') {a:Option Addr} {l:List Ex} (h:aX B W a l):aX B w1 a l:=by
 induction h with
 | nil a=>exact .nil a
 | some b off l ai cap hlt hc _ ih=>exact .some b off l ai cap hlt (fun i hi=>(hc i hi).next hb (Mh hlt hB)) ih
theorem aX.up {B B':Nat} {W:World} (hB:B≤B') {a:Option Addr} {l:List Ex} (h:aX B W a l):aX B' W a l:=by
 induction h with
 | nil a=>exact .nil a
 | some b off l ai cap hlt hc _ ih=>exact .some b off l ai cap (Mh hlt hB) hc ih
theorem aX.elem {B:Nat} {W:World} {a:Option Addr} {l:List Ex} (h:aX B W a l) {k:Nat} (hk:k<l.length) :
  ∃ b off ai cap,a=Option.some ⟨b,off,none⟩∧b<B∧jP W b (off+k*6) l[k].k l[k].v l[k].c ai l[k].ks.length cap∧aX B W ai l[k].ks:=by
 cases h with
 | nil=>simp at hk
 | some b off l ai cap hlt hc hh=>exact ⟨b,off,ai k,cap k,rfl,hlt,hc k hk,hh k hk⟩
def aP (t:Nat) (w w':World):Prop:=Below t w w'∧∀ k,k<w.heap.size→k≠t→w'.heap[k]? = w.heap[k]?
theorem aP.refl (t:Nat) (w:World):aP t w w:=⟨Md _ _,fun _ _ _=>rfl⟩
theorem aP.size {t:Nat} {a b:World} (h:aP t a b):a.heap.size≤b.heap.size:=h.1.size
theorem aP.trans {t:Nat} {a b c:World} (h:aP t a b) (k:aP t b c):aP t a c :=
 ⟨h.1.trans k.1,fun i hi hn=>(k.2 i (Mh hi h.size) hn).trans (h.2 i hi hn)⟩
theorem aP.of {t:Nat} {a b:World} (h:Below a.heap.size a b) (ht:t≤a.heap.size):aP t a b:=⟨h.mono ht,fun k hk _=>h.block k hk⟩
theorem aP.set {t:Nat} {a b:World} (h:aP t a b) (o:Nat) (u:Value):aP t a (b.setCell ⟨t,o,none⟩ u) :=
 ⟨h.1.setCell (Mc _) u,fun k hk hn=>(ML b ⟨t,o,none⟩ u k hn).trans (h.2 k hk hn)⟩
theorem aP.Eb {t:Nat} {a b:World} (h:aP t a b) (g o:Nat) (u:Value) (hg:a.heap.size≤g) (ht:t≤a.heap.size):aP t a (b.setCell ⟨g,o,none⟩ u) :=
 ⟨h.1.setCell (Mr ht hg) u,fun k hk hn=>(ML b ⟨g,o,none⟩ u k (by show k≠g; omega)).trans (h.2 k hk hn)⟩
theorem aP.cell {t:Nat} {a b:World} (h:aP t a b) {p:Addr} (hp:p.block<a.heap.size) (hn:p.block≠t):b.cell? p=a.cell? p:=Mv (w:=a) (h.2 p.block hp hn)
theorem aP.frozen {t:Nat} {a b:World} (h:aP t a b) {p:Addr} (hp:p.block<a.heap.size) (hn:p.block≠t):b.frozen? p=a.frozen? p:=Nt (w:=a) (h.2 p.block hp hn)
theorem aP.below {t B:Nat} {a b:World} (h:aP t a b) (hB:B≤t):Below B a b:=h.1.mono hB
theorem jP.oE {W w1:World} {t b off:Nat} {k:Int} {v:Vl} {c:Int} {a:Option Addr} {n cap:Nat} (h:jP W b off k v c a n cap) (hb:aP t W w1) (hB:b<W.heap.size) (hn:b≠t):jP w1 b off k v c a n cap :=
 ⟨(hb.cell (p:=⟨b,_,none⟩) hB hn).trans h.c0,(hb.cell (p:=⟨b,_,none⟩) hB hn).trans h.c1,(hb.cell (p:=⟨b,_,none⟩) hB hn).trans h.c2,(hb.cell (p:=⟨b,_,none⟩) hB hn).trans h.c3,(hb.cell (p:=⟨b,_,none⟩) hB hn).trans h.c4,(hb.cell (p:=⟨b,_,none⟩) hB hn).trans h.c5⟩
structure mD (W:World) (t:Nat) (ca:Option Addr) (n cap:Nat) (m:Int):Prop where
 lt:t<W.heap.size
 c0:W.cell? ⟨t,0,none⟩=some (.slice ca n cap)
 c1:W.cell? ⟨t,1,none⟩=some (.int .i64 m)
 f1:W.frozen? ⟨t,1,none⟩=false
theorem mD.next {W w1:World} {t:Nat} {ca:Option Addr} {n cap:Nat} {m:Int} (h:mD W t ca n cap m) (hb:Below W.heap.size W w1):mD w1 t ca n cap m :=
 ⟨Mh h.lt hb.size,(hb.cell (p:=⟨t,0,none⟩) h.lt).trans h.c0,(hb.cell (p:=⟨t,1,none⟩) h.lt).trans h.c1,(hb.frozen (p:=⟨t,1,none⟩) h.lt).trans h.f1⟩
theorem mD.count {W:World} {t:Nat} {ca:Option Addr} {n cap:Nat} {m:Int} (h:mD W t ca n cap m) (m':Int):mD (W.setCell ⟨t,1,none⟩ (.int .i64 m')) t ca n cap m':=by
 obtain ⟨lt,c0,c1,f1⟩:=h;refine ⟨by simpa using lt,?_,?_,?_⟩
 ·rw [Mn _ _ _ _ (by simp)];exact c0
 ·exact Nd _ _ _ c1
 ·simpa using f1
structure gq (W:World) (g:Nat) (l:List Int):Prop where
 lt:g<W.heap.size
 c:∀ (i:Nat) (h:i<l.length),W.cell? ⟨g,i,none⟩=some (.int .i64 l[i])
 f:∀ i:Nat,W.frozen? ⟨g,i,none⟩=false
theorem gq.oE {t:Nat} {W w1:World} {g:Nat} {l:List Int} (h:gq W g l) (hb:aP t W w1) (hn:g≠t):gq w1 g l :=
 ⟨Mh h.lt hb.size,fun i hi=>(hb.cell (p:=⟨g,i,none⟩) h.lt hn).trans (h.c i hi),fun i=>(hb.frozen (p:=⟨g,i,none⟩) h.lt hn).trans (h.f i)⟩
theorem gq.set {W:World} {g:Nat} {l:List Int} (h:gq W g l) (i:Nat) (hi:i<l.length) (u:Int):gq (W.setCell ⟨g,i,none⟩ (.int .i64 u)) g (l.set i u):=by
 refine ⟨by simpa using h.lt,fun j hj=>?_,fun j=>by simpa using h.f j⟩;have hj':j<l.length:=by simpa using hj
 by_cases e:i=j
 ·subst e;rw [Nd _ _ _ (h.c i hi)];simp
 ·rw [Mn _ _ _ _ (by intro h; injection h with _ h; exact e h),h.c j hj'];simp [List.getElem_set_ne e]
theorem gq.is {W:World} {g:Nat} {l:List Int} (h:gq W g l) (hl:l.length≤maxLen):bG W.heap.size W (some ⟨g,0,none⟩) l :=
 ⟨hl,.inr ⟨g,0,rfl,h.lt,fun i hi=>by simpa using h.c i hi⟩⟩
theorem gq.new (w : World) (n t : Nat) : gq (w.alloc (.cells (Array.replicate n (.int .i64 0)) t)) w.heap.size (List.replicate n 0) :=
  ⟨by simp, fun i hi => by have : i < n := by simpa using hi
                           simp [this], fun i => by simp⟩
theorem CU {n:Nat} (h:n≤3) (w:World):(Instr.makeSlice 42 (.int .i64 n) (.int .i64 n)).run Tryz.prog w = .ok (.slice (some ⟨w.heap.size,0,none⟩) n n) (w.alloc (.cells (Array.replicate n (.int .i64 0)) 3)):=by
 obtain rfl | rfl | rfl | rfl:n=0∨n=1∨n=2∨n=3:=by omega
 all_goals kernel_rfl
theorem qF (k:Int):eL k≤3:=by
 unfold eL
 repeat' split
 all_goals omega
def qG (af:List Int) (x:Ex):Prop :=
 ∀ (B t:Nat) (ca:Option Addr) (ccap:Nat) (a:Option Addr) (cap:Nat) (m d:Int) (w:World),aX B w a x.ks→bG B w ca af→B≤t→mD w t ca af.length ccap m→0≤m→m≤200→0≤d→d≤21 →
  Calls Tryz.prog 95 #[.pointer (some ⟨t,0,none⟩),iU x.k x.v x.c a x.ks.length cap,.int .i64 d] w fun e w' =>
   e = .returned (.tuple #[.int .i64 (bf af x m d).1,.int .i64 (bf af x m d).2.1])∧aP t w w'∧mD w' t ca af.length ccap (bf af x m d).2.2
theorem CG {af:List Int} {k:Int} {v:Vl} {c:Int} {ks:List Ex} {m d:Int} (h:¬ fp k ks.length (m+1) d=0):bf af (.mk k v c ks) m d=(0,fp k ks.length (m+1) d,m+1):=by
 rw [bf,if_pos h]
theorem CN {af:List Int} {k:Int} {v:Vl} {c:Int} {ks:List Ex} {m d:Int} (h:fp k ks.length (m+1) d=0) {e:Int} {ts:List Int} {n:Int} (hk:bE af ks [] (m+1) (d+1)=(e,ts,n)) (he:¬ e=0):bf af (.mk k v c ks) m d=(0,e,n):=by
 rw [bf,if_neg (by simp [h]),hk,if_pos he]
theorem CI {af:List Int} {k:Int} {v:Vl} {c:Int} {ks:List Ex} {m d:Int} (h:fp k ks.length (m+1) d=0) {ts:List Int} {n:Int} (hk:bE af ks [] (m+1) (d+1)=(0,ts,n)):bf af (.mk k v c ks) m d=((eA af k v c ts).1,(eA af k v c ts).2,n):=by
 rw [bf,if_neg (by simp [h]),hk,if_neg (by simp)]
theorem xG (af:List Int) (ks:List Ex) (ts:List Int) (n d:Int) (j:Nat) (h:ks.length≤j):bE af (ks.drop j) ts n d=(0,ts,n):=by
 rw [MG h,bE]
theorem xF (af:List Int) (ks:List Ex) (ts:List Int) (n d:Int) (j:Nat) (h:j<ks.length) (he:¬ (bf af ks[j] n d).2.1=0):bE af (ks.drop j) ts n d=((bf af ks[j] n d).2.1,ts,(bf af ks[j] n d).2.2):=by
 rw [Mi h,bE,if_pos he]
theorem wv (af:List Int) (ks:List Ex) (ts:List Int) (n d:Int) (j:Nat) (h:j<ks.length) (he:(bf af ks[j] n d).2.1=0):bE af (ks.drop j) ts n d=bE af (ks.drop (j+1)) (ts ++ [(bf af ks[j] n d).1]) (bf af ks[j] n d).2.2 d:=by
 rw [Mi h,bE,if_neg (by simp [he])]
theorem cM {W:World} {g o b p:Nat} {u:Value} (hn:g≠b):(W.setCell ⟨g,o,none⟩ u).cell? ⟨b,p,none⟩=W.cell? ⟨b,p,none⟩ :=
 Mn _ _ _ _ (by intro h; injection h with h; exact hn h)
theorem jP.GN {W:World} {b off:Nat} {k:Int} {v:Vl} {c:Int} {a:Option Addr} {n cap:Nat} (h:jP W b off k v c a n cap) (g o:Nat) (u:Value) (hn:g≠b):jP (W.setCell ⟨g,o,none⟩ u) b off k v c a n cap :=
 ⟨(cM hn).trans h.c0,(cM hn).trans h.c1,(cM hn).trans h.c2,(cM hn).trans h.c3,(cM hn).trans h.c4,(cM hn).trans h.c5⟩
theorem mD.GN {W:World} {t:Nat} {ca:Option Addr} {n cap:Nat} {m:Int} (h:mD W t ca n cap m) (g o:Nat) (u:Value) (hn:g≠t):mD (W.setCell ⟨g,o,none⟩ u) t ca n cap m :=
 ⟨by simpa using h.lt,(cM hn).trans h.c0,(cM hn).trans h.c1,by simpa using h.f1⟩
theorem As (ts:List Int) (n j:Nat) (x:Int) (h:ts.length=j) (hj:j<n):(ts ++ List.replicate (n - j) 0).set j x=(ts ++ [x]) ++ List.replicate (n - (j+1)) 0:=by
 subst h;obtain ⟨q,hq⟩:∃ q,n - ts.length=q+1:=⟨n - ts.length - 1,by omega⟩
 have hq':n - (ts.length+1)=q:=by omega
 rw [hq,hq',List.replicate_succ,List.set_append_right _ _ (Mc _)];simp
theorem DM (af:List Int) (k:Int) (v:Vl) (c:Int) (ks:List Ex) (ih:∀ x ∈ ks,qG af x):qG af (.mk k v c ks):=by
 intro B t ca ccap a cap m d w hk hc hBt ht hm0 hm hd0 hd;simp only [Ex.k,Ex.v,Ex.c,Ex.ks] at hk ⊢;have H1:=ht.lt;have H2:=ht.c1;have H3:=ht.f1;generalize hr:bf af (.mk k v c ks) m d=r;have HR:=aw hr;clear hr;go_enter Tryz.func95,Tryz.ntmps95;go_wp2_with fail
 have T0:=ht.count (m+1);have X0:=(aP.refl t w).set 1 (.int .i64 (m+1));have SA:=jP.new (w.setCell ⟨t,1,none⟩ (.int .i64 (m+1))) k v c a ks.length cap 27;rw [MR] at SA;have hal:Below (w.setCell ⟨t,1,none⟩ (.int .i64 (m+1))).heap.size (w.setCell ⟨t,1,none⟩ (.int .i64 (m+1))) ((w.setCell ⟨t,1,none⟩ (.int .i64 (m+1))).alloc (.cells (hJ k v.1 v.2.1 v.2.2 c a ks.length cap) 27)):=(Md _ _).alloc (Mc _) _;have TA:=T0.next hal;have XA:=X0.trans (aP.of hal (by simp; omega))
 have zA:w.heap.size<((w.setCell ⟨t,1,none⟩ (.int .i64 (m+1))).alloc (.cells (hJ k v.1 v.2.1 v.2.2 c a ks.length cap) 27)).heap.size:=by simp
 clear hal T0 X0 H2 H3 ht;generalize (w.setCell ⟨t,1,none⟩ (.int .i64 (m+1))).alloc (.cells (hJ k v.1 v.2.1 v.2.2 c a ks.length cap) 27)=wA at *;have p0:=aq SA.c0;have p1:=aq SA.c1;have p2:=aq SA.c2;have p3:=aq SA.c3;have p4:=aq SA.c4;have p5:=aq SA.c5;have p6:=aq TA.c1;simp only [Mq] at p1 p2 p3 p4 p5;haveI:Nonempty (dG wA):=⟨⟨_,Md _ _⟩⟩
 refine aI (by kernel_rfl) (by kernel_rfl) ?_
 repeat (go_big_quiet_step (first | (go_at_call 127; exact du (tB k v c a ks.length cap (m+1) d _))))
 refine wpQuiet_nil ?_;rintro w3 ⟨⟨v3,hb3⟩,h3'⟩;obtain rfl:w3=v3:=h3';have T3:=TA.next hb3;have S3:=SA.next hb3 zA;have X3:=XA.trans (aP.of hb3 (by omega));have z3:=hb3.size;clear p0 p1 p2 p3 p4 p5 p6 TA SA XA this;generalize hw0:fp k ks.length (m+1) d=e0;by_cases hw:e0=0
 ·subst hw;have HW:=aw hw0;have hq:ks.length=eL k∧1≤k∧k≤18∧m+1≤200∧d≤20:=by
   unfold fp at hw0;by_cases g1:200<m+1∨20<d
   ·simp [g1] at hw0
   by_cases g2:k<1∨18<k
   ·simp [g1,g2] at hw0
   by_cases g3:ks.length=eL k
   ·exact ⟨g3,by omega⟩
   ·simp [g1,g2,g3] at hw0
  obtain ⟨hln,hk1,hk18,hm1,hd1⟩:=hq;have hl3:ks.length≤3:=by rw [hln]; exact qF k
  have HL:=aw hln;have hmk:=CU hl3;clear hw0 hln;obtain ⟨s0,s1,s2,s3,s4,s5⟩:=S3;simp only [Mq] at s1 s2 s3 s4 s5;have zl:w.heap.size<w3.heap.size:=by omega
  go_wp2_with fail
  have S3:jP w3 w.heap.size 0 k v c a ks.length cap:=⟨s0,s1,s2,s3,s4,s5⟩
  have O4:=gq.new w3 ks.length 3;have hal:=aa w3 (.cells (Array.replicate ks.length (.int .i64 0)) 3);have T4:=T3.next hal;have S4:=S3.next hal zl;have X4:=X3.trans (aP.of hal (by omega));generalize w3.alloc (.cells (Array.replicate ks.length (.int .i64 0)) 3)=w4 at *;clear hal T3 S3 X3 s0 s1 s2 s3 s4 s5 hmk hb3 z3 zA;generalize w3.heap.size=g at *
  go_loopw [38] (fun i wr=>∃ (j:Nat) (ts:List Int) (q:Int),j≤ks.length∧i = .int .i64 j∧Hid (ts.length=j)∧0≤q∧q≤200∧Hid (bE af ks [] (m+1) (d+1)=bE af (ks.drop j) ts q (d+1)) ∧
   aP t w wr∧mD wr t ca af.length ccap q∧jP wr w.heap.size 0 k v c a ks.length cap∧gq wr g (ts ++ List.replicate (ks.length - j) 0)) (fun i _=>ks.length - (intOf i).toNat)
  case atStart=>exact ⟨0,[],m+1,Mj _,rfl,rfl,by omega,hm1,rfl,X4,T4,S4,by simpa using O4⟩
  case round =>
   obtain ⟨j,ts,q,hj,rfl,HT,hq0,hq,HE,hX,hT,hS,hO⟩:=hrel;have hz:=hX.size;have hOl:=hO.lt;by_cases hlt:j<ks.length
   ·obtain ⟨b,off,ai,ci,rfl,hbl,sx,kx⟩:=(aX.next (hX.below hBt) (Mc _) hk).elem hlt;have hcr:=hc.next (hX.below hBt) (Mc _);obtain ⟨x0,x1,x2,x3,x4,x5⟩:=sx;have hal:=aa wr (.cells (fS ks[j] ai ci) 27);have con:=ih ks[j] (Mk _) B t ca ccap ai ci q (d+1) _ (aX.next hal (by omega) kx) (hcr.next hal (by omega)) hBt (hT.next hal) hq0 hq (by omega) (by omega);go_wp2_with fail
    refine con.mono ?_;clear con;rintro e w5 ⟨rfl,hX5,hT5⟩;have X5:=(aP.of hal (t:=t) (by omega)).trans hX5;have hX5':=hX.trans X5;have O5:=hO.oE X5 (by omega);have S5:=hS.oE X5 (by omega) (by omega);generalize hty:bf af ks[j] q (d+1)=ty at *;have HY:=aw hty;obtain ⟨t1,e1,n1⟩:=ty;clear hty hX5 hal hT hS hO x0 x1 x2 x3 x4 x5 kx hcr;by_cases he:e1=0
    ·subst he;have hn1:=Ip (by rw [HY.out]:(bf af ks[j] q (d+1)).2.1=0);rw [HY.out] at hn1;have HN:=aw hn1;have hlen:j<(ts ++ List.replicate (ks.length - j) 0).length:=by have:=HT.out; simp; omega
     have cc:w5.cell? ⟨g,j,none⟩=some (.int .i64 ((ts ++ List.replicate (ks.length - j) 0).getD j 0)):=by rw [O5.c j hlen]; simp [List.getD,Ms hlen]
     generalize (ts ++ List.replicate (ks.length - j) 0).getD j 0=old at cc;have ff:=O5.f j;have O6:=O5.set j hlen t1;rw [As ts ks.length j t1 HT.out hlt] at O6;have S6:=S5.GN g j (.int .i64 t1) (by omega);have T6:=hT5.GN g j (.int .i64 t1) (by omega);have X6:=hX5'.Eb g j (.int .i64 t1) (by omega) (by omega);clear hn1 O5 S5 hT5 hX5' X5 hlen;go_wp2
     go_roundw
     case rel=>exact ⟨j+1,ts ++ [t1],n1,by omega,by go_num,by have:=HT.out; show (ts ++ [t1]).length=j+1; simp [this],by have:=HN.out; omega,HN.out.1,by rw [HE.out,wv af ks ts q (d+1) j hlt (by rw [HY.out]),HY.out]; rfl,X6,T6,S6,O6⟩
     case measure=>simp [intOf]; omega
    ·have er:r=(0,e1,n1):=by
      rw [← HR.out];refine CN HW.out (ts:=ts) ?_ he;rw [HE.out,xF af ks ts q (d+1) j hlt (by rw [HY.out]; exact he),HY.out]
     subst er;have q':(e1 != 0)=true:=by simpa using he
     clear HR O5 S5;go_wp2
     exact Me (v:=.tuple #[.int .i64 0,.int .i64 e1]) (by simp [results,Tryz.results95,go_sem]) rfl ⟨rfl,hX5',hT5⟩
   ·have ej:j=ks.length:=by omega
    subst ej;have hts:=HT.out;rw [Nat.sub_self,List.replicate_zero,Nm] at hO;have er:r=((eA af k v c ts).1,(eA af k v c ts).2,q):=by
     rw [← HR.out];refine CI HW.out ?_;rw [HE.out,xG af ks ts q (d+1) _ (Mc _)]
    have HTS:=aw hts;clear HR HE hts HT;obtain ⟨s0,s1,s2,s3,s4,s5⟩:=hS;simp only [Mq] at s1 s2 s3 s4 s5;by_cases k1:k=1
    ·subst k1;have e:eA af 1 v c ts=mT v:=by simp [eA]
     rw [e] at er;subst er;clear e;go_wp2_with fail
     refine (zx v _).mono ?_;rintro e w5 ⟨rfl,hb5⟩;have T5:=hT.next hb5;have X5:=hX.trans (aP.of hb5 (by omega));clear s0 s1 s2 s3 s4 s5;go_wp2
     exact Me (v:=.tuple #[.int .i64 (mT v).1,.int .i64 (mT v).2]) (by simp [results,Tryz.results95,go_sem]) rfl ⟨rfl,X5,T5⟩
    have n1:(k == 1)=false:=by simpa using k1
    by_cases k2:k=2
    ·subst k2;have e:eA af 2 v c ts=kW af c:=by simp [eA]
     rw [e] at er;subst er;clear e;have hcr:=hc.next (hX.below hBt) (Mc _);have p0:=aq hT.c0;have p4:=aq s4;haveI:Nonempty (dG wr):=⟨⟨_,Md _ _⟩⟩
     go_wp2_with fail
     refine aI (by kernel_rfl) (by kernel_rfl) ?_
     repeat (go_big_quiet_step (first | (go_at_call 129; exact du (zd B ca ccap af c _ (hcr.next (dG.ok _) (by omega))))))
     refine wpQuiet_nil ?_;rintro w5 ⟨⟨v5,hb5⟩,h5⟩;obtain rfl:w5=v5:=h5;have T5:=hT.next hb5;have X5:=hX.trans (aP.of hb5 (by omega));clear p0 p4 s0 s1 s2 s3 s4 s5;go_wp2
     exact Me (v:=.tuple #[.int .i64 (kW af c).1,.int .i64 (kW af c).2]) (by simp [results,Tryz.results95,go_sem]) rfl ⟨rfl,X5,T5⟩
    have n2:(k == 2)=false:=by simpa using k2
    have e:eA af k v c ts=dB (fm k ts):=by simp [eA,k1,k2]
    rw [e] at er;clear e;have con:=wX k wr.heap.size (some ⟨g,0,none⟩) ks.length ts wr (Mc _) (hO.is (by rw [HTS.out]; unfold maxLen; omega)) (by omega) hk18 (by rw [HTS.out]; exact HL.out);rw [HTS.out] at con;generalize dB (fm k ts)=rr at *;subst er;go_wp2_with fail
    refine con.mono ?_;rintro e w5 ⟨rfl,hb5⟩;have T5:=hT.next hb5;have X5:=hX.trans (aP.of hb5 (by omega));clear con s0 s1 s2 s3 s4 s5;go_wp2
    exact Me (v:=.tuple #[.int .i64 rr.1,.int .i64 rr.2]) (by simp [results,Tryz.results95,go_sem]) rfl ⟨rfl,X5,T5⟩
 ·have er:r=(0,e0,m+1):=by rw [← HR.out,← hw0,CG (by rw [hw0]; exact hw)]
  subst er;have q:(e0 != 0)=true:=by simpa using hw
  clear hw0 HR S3;go_wp2
  exact Me (v:=.tuple #[.int .i64 0,.int .i64 e0]) (by simp [results,Tryz.results95,go_sem]) rfl ⟨rfl,X3,T3⟩
theorem yZ (af:List Int):∀ x,qG af x:=Ex.ind fun k v c ks ih=>DM af k v c ks ih
theorem gr.congr {af:List Int} {lo:Nat} {u:Value} {f f':List Vl→Vl} {w:World} (h:gr af lo u f w) (e:∀ row,fM af row→f row=f' row):gr af lo u f' w:=by
 obtain ⟨g,cb,eu,eg,hd⟩:=h;exact ⟨g,cb,eu,eg,fun row a cap W hf hs hW=>by rw [← e row hf]; exact hd row a cap W hf hs hW⟩
theorem qW {n:Nat} (h:n≤8) (w:World):(Instr.makeSlice 159 (.int .i64 n) (.int .i64 n)).run Tryz.prog w = .ok (.slice (some ⟨w.heap.size,0,none⟩) n n) (w.alloc (.cells (Array.replicate n Value.nilFunc) 156)):=by
 obtain rfl | rfl | rfl | rfl | rfl | rfl | rfl | rfl | rfl:n=0∨n=1∨n=2∨n=3∨n=4∨n=5∨n=6∨n=7∨n=8:=by omega
 all_goals kernel_rfl
structure uA (af:List Int) (K kb M:Nat) (W:World) (ks:List Ex) (j:Nat):Prop where
 lt:K<M∧kb<M∧K≠kb∧M≤W.heap.size
 box:W.cell? ⟨kb,0,none⟩=some (.slice (some ⟨K,0,none⟩) ks.length ks.length)
 room:∀ i,i<ks.length→(∃ u,W.cell? ⟨K,i,none⟩=some u)∧W.frozen? ⟨K,i,none⟩=false
 done:∀ i (h:i<ks.length),i<j→∃ u,W.cell? ⟨K,i,none⟩=some u∧gr af M u (fun row=>aW row ks[i]) W
theorem uA.next {af:List Int} {K kb M:Nat} {W w1:World} {ks:List Ex} {j:Nat} (h:uA af K kb M W ks j) (hb:Below W.heap.size W w1):uA af K kb M w1 ks j:=by
 obtain ⟨h1,h2,h3,h4⟩:=h;have z:=hb.size;refine ⟨⟨h1.1,h1.2.1,h1.2.2.1,by omega⟩,(hb.cell (p:=⟨kb,0,none⟩) (by show kb<_; omega)).trans h2,fun i hi=>?_,fun i hi hj=>?_⟩
 ·obtain ⟨⟨u,hu⟩,hf⟩:=h3 i hi;exact ⟨⟨u,(hb.cell (p:=⟨K,i,none⟩) (by show K<_; omega)).trans hu⟩,(hb.frozen (p:=⟨K,i,none⟩) (by show K<_; omega)).trans hf⟩
 ·obtain ⟨u,hu,ha⟩:=h4 i hi hj;exact ⟨u,(hb.cell (p:=⟨K,i,none⟩) (by show K<_; omega)).trans hu,ha.next (Since.of hb)⟩
theorem uA.store {af:List Int} {K kb M:Nat} {W:World} {ks:List Ex} {j:Nat} (h:uA af K kb M W ks j) (hj:j<ks.length) {u:Value} (ha:gr af M u (fun row=>aW row ks[j]) W):uA af K kb M (W.setCell ⟨K,j,none⟩ u) ks (j+1):=by
 obtain ⟨h1,h2,h3,h4⟩:=h;have hS:Since M W (W.setCell ⟨K,j,none⟩ u):=(Since.refl M W).set K j u (by omega);have same:(W.setCell ⟨K,j,none⟩ u).cell? ⟨K,j,none⟩=some u:=Nn _ _ _ (by obtain ⟨⟨u',hu⟩,_⟩:=h3 j hj; rw [hu]; rfl);refine ⟨⟨h1.1,h1.2.1,h1.2.2.1,by simpa using h1.2.2.2⟩,?_,fun i hi=>?_,fun i hi hij=>?_⟩
 ·rw [Mn _ _ _ _ (by intro e; injection e with e; omega)]; exact h2
 ·obtain ⟨⟨u',hu⟩,hf⟩:=h3 i hi;refine ⟨?_,by rw [MQ]; exact hf⟩;by_cases e:i=j
  ·subst e; exact ⟨_,same⟩
  ·exact ⟨u',by rw [Mn _ _ _ _ (by intro e; injection e with _ e; omega)]; exact hu⟩
 ·by_cases e:i=j
  ·subst e; exact ⟨u,same,ha.next hS⟩
  ·obtain ⟨u',hu,ha'⟩:=h4 i hi (by omega);exact ⟨u',by rw [Mn _ _ _ _ (by intro e; injection e with _ e; omega)]; exact hu,ha'.next hS⟩
theorem uA.kids {af:List Int} {K kb M lo:Nat} {W:World} {ks:List Ex} (h:uA af K kb M W ks ks.length) (h1:lo≤K) (h2:lo≤kb):lV af lo W kb ks:=by
 obtain ⟨l1,l2,_,l4⟩:=h;refine ⟨K,h2,by omega,h1,by omega,l2,fun i hi=>?_⟩;obtain ⟨u,hu,ha⟩:=l4 i hi hi;exact ⟨u,hu,ha.down (by omega)⟩
theorem uA.new {af:List Int} {w:World} {n:Nat} (ks:List Ex) (hn:n=ks.length) (T T':TypeId) {o:Obj} :
  uA af (w.heap.size+1) (w.heap.size+2) (w.heap.size+3) (((w.alloc o).alloc (.cells (Array.replicate n Value.nilFunc) T)).alloc (.cells #[.slice (some ⟨w.heap.size+1,0,none⟩) n n] T')) ks 0:=by
 subst hn;refine ⟨⟨by omega,by omega,by omega,by simp⟩,?_,fun i hi=>⟨⟨Value.nilFunc,?_⟩,?_⟩,fun i _ h=>absurd h (MP _)⟩
 ·rw [M0 _ _ _ _ (by simp)]; rfl
 ·rw [World.cell?_alloc_past _ _ _ (by simp),M0 _ _ _ _ (by simp)];simp [hi]
 ·rw [World.frozen?_alloc_past _ _ _ (by simp)];exact Nu _ _ _ _ (by simp)
theorem rB.down {lo lo':Nat} {u:Value} {f:Vl→Vl→Vl} {w:World} (h:rB lo u f w) (hl:lo'≤lo):rB lo' u f w:=by
 obtain ⟨g,cb,e,eg,hd⟩:=h;exact ⟨g,cb,e,eg,fun p q W hp hq hW=>hd p q W hp hq (hW.up hl)⟩
theorem j3 (row:List Vl) (ks:List Ex) (i:Nat) (hi:i<ks.length):(jB row ks).getD i eD=aW row ks[i]:=by
 rw [cV];simp [List.getD,hi]
def tT (af:List Int) (x:Ex):Prop :=
 ∀ (B:Nat) (a:Option Addr) (cap:Nat) (w:World),aX B w a x.ks→B≤w.heap.size →
  Calls Tryz.prog 146 #[iU x.k x.v x.c a x.ks.length cap] w fun e w'=>∃ u,e = .returned u∧gr af w.heap.size u (fun row=>aW row x) w'∧Below w.heap.size w w'
theorem GM (af:List Int) (k:Int) (v:Vl) (c:Int) (ks:List Ex) (t:Int) (ht:kt af (.mk k v c ks)=some t) (ih:∀ x ∈ ks,tT af x):tT af (.mk k v c ks):=by
 obtain ⟨h1,h18,hl,ts,hts,hn⟩:=nV ht;intro B a cap w hk hB;simp only [Ex.k,Ex.v,Ex.c,Ex.ks] at hk ⊢;have hl3:ks.length≤8:=by have:=qF k; omega
 have HL:=aw hl;have hmk:=qW hl3;have S0:=jP.new w k v c a ks.length cap 27;have HI:=aw ih;clear hl ih;obtain ⟨s0,s1,s2,s3,s4,s5⟩:=S0;simp only [Mq] at s1 s2 s3 s4 s5;have S1:jP (w.alloc (.cells (hJ k v.1 v.2.1 v.2.2 c a ks.length cap) 27)) w.heap.size 0 k v c a ks.length cap:=⟨s0,s1,s2,s3,s4,s5⟩
 have F0:uA af (w.heap.size+1) (w.heap.size+2) (w.heap.size+3) (((w.alloc (.cells (hJ k v.1 v.2.1 v.2.2 c a ks.length cap) 27)).alloc (.cells (Array.replicate ks.length Value.nilFunc) 156)).alloc (.cells #[.slice (some ⟨w.heap.size+1,0,none⟩) ks.length ks.length] 159)) ks 0:=uA.new ks rfl _ _
 have hA:Below w.heap.size w (((w.alloc (.cells (hJ k v.1 v.2.1 v.2.2 c a ks.length cap) 27)).alloc (.cells (Array.replicate ks.length Value.nilFunc) 156)).alloc (.cells #[.slice (some ⟨w.heap.size+1,0,none⟩) ks.length ks.length] 159)):=(((Md _ _).alloc (Mc _) _).alloc (by simp) _).alloc (by simp; omega) _
 have S3:jP (((w.alloc (.cells (hJ k v.1 v.2.1 v.2.2 c a ks.length cap) 27)).alloc (.cells (Array.replicate ks.length Value.nilFunc) 156)).alloc (.cells #[.slice (some ⟨w.heap.size+1,0,none⟩) ks.length ks.length] 159)) w.heap.size 0 k v c a ks.length cap:=(S1.next ((Md _ _).alloc (Mc _) _) (by simp)).next ((Md _ _).alloc (Mc _) _) (by simp; omega);clear S1;go_enter Tryz.func146,Tryz.ntmps146;go_wp2_with fail
 generalize ((w.alloc (.cells (hJ k v.1 v.2.1 v.2.2 c a ks.length cap) 27)).alloc (.cells (Array.replicate ks.length Value.nilFunc) 156)).alloc (.cells #[.slice (some ⟨w.heap.size+1,0,none⟩) ks.length ks.length] 159)=w3 at *;clear s0 s1 s2 s3 s4 s5 hmk;go_loopw [14] (fun i wr=>∃ j:Nat,j≤ks.length∧i = .int .i64 j∧uA af (w.heap.size+1) (w.heap.size+2) (w.heap.size+3) wr ks j∧jP wr w.heap.size 0 k v c a ks.length cap∧Below w.heap.size w wr) (fun i _=>ks.length - (intOf i).toNat)
 case atStart=>exact ⟨0,Mj _,rfl,F0,S3,hA⟩
 case round =>
  clear F0 S3 hA;obtain ⟨j,hj,rfl,F,S,hb⟩:=hrel;have hz:=hb.size;have hzF:=F.lt.2.2.2;by_cases hlt:j<ks.length
  ·obtain ⟨b,off,ai,ci,rfl,hbl,sx,kx⟩:=(aX.next hb hB hk).elem hlt;obtain ⟨x0,x1,x2,x3,x4,x5⟩:=sx;have hal:=aa wr (.cells (fS ks[j] ai ci) 27)
   have hd:Below (wr.alloc (.cells (fS ks[j] ai ci) 27)).heap.size (wr.alloc (.cells (fS ks[j] ai ci) 27)) (wr.alloc (.cells (fS ks[j] ai ci) 27)).drew:=(Md _ _).drew
   have con:=HI.out ks[j] (Mk _) B ai ci (wr.alloc (.cells (fS ks[j] ai ci) 27)).drew (aX.next (hal.trans (hd.mono hal.size)) (by omega) kx) (by have:=hal.size; have:=hd.size; omega);have Fk:=F.next hal;have bx:=Fk.box;obtain ⟨⟨uo,ro⟩,fo⟩:=Fk.room j hlt;have Sk:=jP.new wr ks[j].k ks[j].v ks[j].c ai ks[j].ks.length ci 27;obtain ⟨k0,k1,k2,k3,k4,k5⟩:=Sk;simp only [Mq] at k1 k2 k3 k4 k5;have hjz:(j:Int)<ks.length:=by omega
   go_wp2_with fail
   clear x0 x1 x2 x3 x4 x5 kx;have hal2:=hal;have zk:(wr.alloc (.cells (fS ks[j] ai ci) 27)).heap.size=wr.heap.size+1:=by simp
   generalize wr.alloc (.cells (fS ks[j] ai ci) 27)=wk at *;go_region_with (go_at_call 146; refine con.mono ?_; rintro e w1 ⟨u,rfl,hA1,hb1⟩; have F1:=(Fk.next hd).next hb1; have q1:=F1.box; obtain ⟨⟨un,q2⟩,q3⟩:=F1.room j hlt; obtain ⟨ug,ucb,eu⟩:∃ g cb,u = .func (.func g) #[] cb:=(by obtain ⟨g,cb,e,_⟩:=hA1; exact ⟨g,cb,e⟩); subst eu)
   all_goals (
    go_wp2_with fail
    go_roundw
    case rel =>
     refine ⟨j+1,by omega,by go_num,F1.store hlt (hA1.down (by show w.heap.size+3≤wk.drew.heap.size; have:=hd.size; omega)),((S.next hal2 (by omega)).next (hd.trans (hb1.mono hd.size)) (by omega)).GN _ _ _ (by omega),?_⟩;exact (chain (chain hb hal2) (hd.trans (hb1.mono hd.size))).setCell (p:=⟨w.heap.size+1,j,none⟩) (by show w.heap.size≤w.heap.size+1; omega) _
    case measure=>simp [intOf]; omega)
  ·have e:j=ks.length:=by omega
   subst e;obtain ⟨s0,s1,s2,s3,s4,s5⟩:=S;simp only [Mq] at s1 s2 s3 s4 s5;by_cases k1:k=1
   ·subst k1;go_wp2_with fail
    refine (Ci af v wr).mono ?_;rintro e w1 ⟨u,rfl,hA1,hb1⟩;go_wp2_with fail
    go_ret;exact ⟨_,rfl,(hA1.down hz).congr (fun row _=>by rw [aW,gh,if_pos rfl]),chain hb hb1⟩
   have n1:(k == 1)=false:=by simpa using k1
   by_cases k2:k=2
   ·subst k2;unfold eA at hn;rw [if_neg (by decide),if_pos rfl] at hn;obtain ⟨q0,q1,_⟩:=AB hn;clear hn;go_wp2_with fail
    refine (CH af c wr q0 q1).mono ?_;rintro e w1 ⟨u,rfl,hA1,hb1⟩;go_wp2_with fail
    go_ret;exact ⟨_,rfl,(hA1.down hz).congr (fun row _=>by rw [aW,gh,if_neg (by decide),if_pos rfl]),chain hb hb1⟩
   have n2:(k == 2)=false:=by simpa using k2
   have KF:lV af w.heap.size wr (w.heap.size+2) ks:=F.kids (by omega) (by omega);by_cases k3:k=3
   ·subst k3;have l1:ks.length=1:=HL.out;have HK:=aw KF;have H1:=aw l1;clear KF l1;go_wp2_with fail
    go_ret;refine ⟨_,rfl,⟨171,_,rfl,enters_of Tryz.func171 (by kernel_rfl) rfl,?_⟩,hb⟩;intro row a cap W hf hs hW;have e:aW row (.mk 3 v c ks)=lv (aW row (ks[0]'(by rw [H1.out]; omega))):=by rw [aW,gh,if_neg (by decide),if_neg (by decide),if_pos rfl,j3 row ks 0 (by rw [H1.out]; omega)]
    show Calls _ _ _ _ fun e w'=>e = .returned (fW (aW row (.mk 3 v c ks)))∧_
    rw [e];exact BZ af w.heap.size (w.heap.size+2) ks a row cap W (HK.out.next hW) (by rw [H1.out]; omega) hf hs
   have n3:(k == 3)=false:=by simpa using k3
   by_cases k16:k=16
   ·subst k16;have l1:ks.length=1:=HL.out;have HK:=aw KF;have H1:=aw l1;clear KF l1;go_wp2_with fail
    go_ret;refine ⟨_,rfl,⟨173,_,rfl,enters_of Tryz.func173 (by kernel_rfl) rfl,?_⟩,hb⟩;intro row a cap W hf hs hW;have e:aW row (.mk 16 v c ks)=om (some ((aW row (ks[0]'(by rw [H1.out]; omega))).1 == 1)):=by rw [aW,gh,if_neg (by decide),if_neg (by decide),if_neg (by decide),if_pos rfl,j3 row ks 0 (by rw [H1.out]; omega)]
    show Calls _ _ _ _ fun e w'=>e = .returned (fW (aW row (.mk 16 v c ks)))∧_
    rw [e];exact DG af w.heap.size (w.heap.size+2) ks a row cap W (HK.out.next hW) (by rw [H1.out]; omega) hf hs
   have n16:(k == 16)=false:=by simpa using k16
   by_cases k17:k=17
   ·subst k17;have l3:ks.length=3:=HL.out;have m0:0<ks.length:=by omega
    have m1:1<ks.length:=by omega
    have m2:2<ks.length:=by omega
    have bx:=F.box;obtain ⟨u0,c0,A0⟩:=F.done 0 m0 m0;obtain ⟨u1,c1,A1⟩:=F.done 1 m1 m1;obtain ⟨u2,c2,A2⟩:=F.done 2 m2 m2;have A0:=A0.down (show w.heap.size≤w.heap.size+3 by omega);have A1:=A1.down (show w.heap.size≤w.heap.size+3 by omega);have A2:=A2.down (show w.heap.size≤w.heap.size+3 by omega);obtain ⟨g0,cb0,rfl⟩:∃ g cb,u0 = .func (.func g) #[] cb:=by obtain ⟨g,cb,e,_⟩:=A0; exact ⟨g,cb,e⟩
    obtain ⟨g1,cb1,rfl⟩:∃ g cb,u1 = .func (.func g) #[] cb:=by obtain ⟨g,cb,e,_⟩:=A1; exact ⟨g,cb,e⟩
    obtain ⟨g2,cb2,rfl⟩:∃ g cb,u2 = .func (.func g) #[] cb:=by obtain ⟨g,cb,e,_⟩:=A2; exact ⟨g,cb,e⟩
    have p0:=aq bx;have p1:=aq c0;have p2:=aq c1;have p3:=aq c2;have z0:(0:Int)<(ks.length:Int):=by omega
    have z1:(1:Int)<(ks.length:Int):=by omega
    have z2:(2:Int)<(ks.length:Int):=by omega
    have H3:=aw l3;clear l3 KF;go_wp2_with fail
    have hB0:Below wr.heap.size wr wr.drew:=(Md _ _).drew;refine jg (by kernel_rfl) ?_;refine et 45 0 (.slice (some ⟨w.heap.size+1,0,none⟩) ks.length ks.length) (fun n=>?_) hB0 ?_
    ·go_simp
    simp only [pD,pB,pC];refine et 46 1 (.pointer (some ⟨w.heap.size+1,0,none⟩)) (fun n=>?_) hB0 ?_
    ·go_simp
    simp only [pD,pB,pC];refine et 47 2 (.func (.func g0) #[] cb0) (fun n=>?_) hB0 ?_
    ·go_simp
    simp only [pD,pB,pC];refine et 48 3 (.slice (some ⟨w.heap.size+1,0,none⟩) ks.length ks.length) (fun n=>?_) hB0 ?_
    ·go_simp
    simp only [pD,pB,pC];refine et 49 4 (.pointer (some ⟨w.heap.size+1,1,none⟩)) (fun n=>?_) hB0 ?_
    ·go_simp
    simp only [pD,pB,pC];refine et 50 5 (.func (.func g1) #[] cb1) (fun n=>?_) hB0 ?_
    ·go_simp
    simp only [pD,pB,pC];refine et 51 6 (.slice (some ⟨w.heap.size+1,0,none⟩) ks.length ks.length) (fun n=>?_) hB0 ?_
    ·go_simp
    simp only [pD,pB,pC];refine et 52 7 (.pointer (some ⟨w.heap.size+1,2,none⟩)) (fun n=>?_) hB0 ?_
    ·go_simp
    simp only [pD,pB,pC];refine et 53 8 (.func (.func g2) #[] cb2) (fun n=>?_) hB0 ?_
    ·go_simp
    simp only [pD,pB,pC];clear p0 p1 p2 p3;refine fT (rs:=[9]) (by kernel_rfl) (by simp) ?_;intro w5 hb5 i hi;obtain rfl:i=9:=by simpa using hi
    clear hi;have D5:=hB0.trans (hb5.mono hB0.size);refine wpOp_step rfl (fun K hK=>?_);go_simp;refine (CS af w.heap.size _ _ _ _ _ _ w5 (by have:=D5.size; omega) (A0.next (Since.of D5)) (A1.next (Since.of D5)) (A2.next (Since.of D5))).mono ?_;rintro e w6 ⟨u,rfl,hA6,hb6⟩;have D6:=D5.trans (hb6.mono D5.size);refine hK _ _ ⟨D6,?_⟩;clear hK K;refine fT (rs:=[10]) (by kernel_rfl) (by simp) ?_;intro w7 hb7 i hi;obtain rfl:i=10:=by simpa using hi
    clear hi;have D7:=D6.trans (hb7.mono D6.size);refine wpOp_step rfl (fun K hK=>?_);go_simp;refine hK _ _ ⟨D7,?_⟩;clear hK K;refine mV (by kernel_rfl) ?_;intro w8 hb8;have D8:=D7.trans (hb8.mono D7.size);go_wp2_with fail
    go_ret;refine ⟨_,rfl,(hA6.next (Since.of (chain hb7 hb8))).congr (fun row _=>?_),chain hb D8⟩;rw [aW,gh,if_neg k1,if_neg k2,if_neg k3,if_neg k16,if_pos (show (17:Int)=17 from rfl),j3 row ks 0 m0,j3 row ks 1 m1,j3 row ks 2 m2]
   have n17:(k == 17)=false:=by simpa using k17
   have l2:ks.length=2:=by rw [HL.out]; unfold eL; rw [if_neg (by omega),if_neg (by omega),if_neg k17]
   have H2:=aw l2;have HK:=aw KF;clear l2 KF;go_wp2_with fail
   refine (Gv k (by omega) (by omega) wr).mono ?_;rintro e w1 ⟨u,rfl,hF,hb1⟩;obtain ⟨g0,cb0,rfl⟩:∃ g cb,u = .func (.func g) #[] cb:=by obtain ⟨g,cb,e,_⟩:=hF; exact ⟨g,cb,e⟩
   have hal:=aa w1 (.cells #[.func (.func g0) #[] cb0] 220);have hb1':=chain hb hb1;go_wp2_with fail
   go_ret;refine ⟨_,rfl,⟨177,_,rfl,enters_of Tryz.func177 (by kernel_rfl) rfl,?_⟩,chain hb1' hal⟩;intro row a cap W hf hs hW;have m0:0<ks.length:=by rw [H2.out]; omega
   have m1:1<ks.length:=by rw [H2.out]; omega
   have e:aW row (.mk k v c ks)=nG k (aW row ks[0]) (aW row ks[1]):=by rw [aW,gh,if_neg k1,if_neg k2,if_neg k3,if_neg k16,if_neg k17,j3 row ks 0 m0,j3 row ks 1 m1]
   show Calls _ _ _ _ fun e w'=>e = .returned (fW (aW row (.mk k v c ks)))∧_
   rw [e];have zz:=hb1'.size;exact Dl af w.heap.size (w.heap.size+2) w1.heap.size k ks a row cap W _ ((hW.cell (p:=⟨w1.heap.size,0,none⟩) zz (by simp)).trans (by simp)) (((hF.down (by omega)).next (Since.of hal)).next hW) (((HK.out.next (Since.of hb1)).next (Since.of hal)).next hW) m1 hf hs
    (um hf _ _ (kT hts 0 m0)).1 (um hf _ _ (kT hts 1 m1)).1
theorem Dw (af:List Int):∀ x t,kt af x=some t→tT af x:=by
 refine Ex.ind fun k v c ks ih t ht=>GM af k v c ks t ht fun x hx=>?_
 obtain ⟨_,_,_,ts,hts,_⟩:=nV ht;obtain ⟨i,hi,rfl⟩:=Nk hx;exact ih _ hx _ (kT hts i hi)
theorem zN (af:List Int):∀ (x:Ex) (n d:Int),¬ (bf af x n d).2.1=0→(bf af x n d).1=0
 | .mk k v c ks,n,d=>by
  rw [bf]
  split
  ·intro _; rfl
  split
  ·intro _; rfl
  ·generalize (bE af ks [] (n+1) (d+1)).2.1=ts
   unfold eA
   split
   ·unfold mT; split <;> simp
   split
   ·unfold kW; split <;> simp
   ·cases fm k ts <;> simp [dB]
theorem xW {af:List Int} {x:Ex} (h1:af.length≤16) (h2:hU af=true):an af x=((bf af x 0 1).1,(bf af x 0 1).2.1):=by
 unfold an;rw [if_neg (by omega),if_neg (by simp [h2])];by_cases h:(bf af x 0 1).2.1=0
 ·rw [if_pos h,h]
 ·rw [if_neg h,zN af x 0 1 h]
theorem Dg (l:List Int) (k:Nat) (h:l.length≤k):hU (l.drop k)=true:=by rw [MG h]; rfl
theorem wL (l:List Int) (k:Nat) (h:k<l.length) (e:l[k]<1∨4<l[k]):hU (l.drop k)=false:=by
 rw [Mi h,hU,List.all_cons];have:(decide (1≤l[k]) && decide (l[k]≤4))=false:=by
  rcases e with e | e
  ·have:decide (1≤l[k])=false:=decide_eq_false (by omega);rw [this]; rfl
  ·have:decide (l[k]≤4)=false:=decide_eq_false (by omega);rw [this,Bool.and_false]
 rw [this,Bool.false_and]
theorem xO (l:List Int) (k:Nat) (h:k<l.length) (e:¬ l[k]<1) (e':¬ 4<l[k]):hU (l.drop k)=hU (l.drop (k+1)):=by
 rw [Mi h,hU,List.all_cons];have:(decide (1≤l[k]) && decide (l[k]≤4))=true:=by
  rw [decide_eq_true (by omega),decide_eq_true (by omega)]; rfl
 rw [this,Bool.true_and];rfl
theorem mF (af:List Int) (x:Ex) (ca:Option Addr) (ccap:Nat) (a:Option Addr) (cap:Nat) (w:World) (hk:aX w.heap.size w a x.ks) (hc:bG w.heap.size w ca af) :
  Calls Tryz.prog 60 #[.slice ca af.length ccap,iU x.k x.v x.c a x.ks.length cap] w fun e w'=>e = .returned (.tuple #[.int .i64 (an af x).1,.int .i64 (an af x).2])∧Below w.heap.size w w':=by
 have hl:=hc.1;unfold maxLen at hl;generalize hr:an af x=r;have HR:=aw hr;clear hr;by_cases h16:16<af.length
 ·have er:r=(0,5):=by rw [← HR.out,an,if_pos h16]
  subst er;clear HR;go_enter Tryz.func60,Tryz.ntmps60;go_wp2
  exact Me (v:=.tuple #[.int .i64 0,.int .i64 5]) (by simp [results,Tryz.results60,go_sem]) rfl ⟨rfl,(Md _ _).alloc (Mc _) _⟩
 go_enter Tryz.func60,Tryz.ntmps60;go_wp2_with fail
 have S0:=jP.new w x.k x.v x.c a x.ks.length cap 27;have hal:=aa w (.cells (fS x a cap) 27);have z0:w.heap.size<(w.alloc (.cells (fS x a cap) 27)).heap.size:=by simp
 generalize w.alloc (.cells (fS x a cap) 27)=w0 at *;go_loopw [14] (fun i wr=>∃ j:Nat,j≤af.length∧i = .int .i64 j∧Hid (hU af=hU (af.drop j))∧wr=w0) (fun i _=>af.length - (intOf i).toNat)
 case atStart=>exact ⟨0,Mj _,rfl,rfl,rfl⟩
 case round =>
  obtain ⟨j,hj,rfl,HE,rfl⟩:=hrel;by_cases hlt:j<af.length
  ·obtain ⟨b,off,rfl,hbl,c⟩:=(hc.next hal (Mc _)).elem hlt;by_cases g1:af[j]<1
   ·have er:r=(0,1):=by
     rw [← HR.out,an,if_neg h16,HE.out,wL af j hlt (.inl g1),if_pos rfl]
    subst er;clear HR HE;go_wp2
    exact Me (v:=.tuple #[.int .i64 0,.int .i64 1]) (by simp [results,Tryz.results60,go_sem]) rfl ⟨rfl,hal⟩
   by_cases g2:4<af[j]
   ·have er:r=(0,1):=by
     rw [← HR.out,an,if_neg h16,HE.out,wL af j hlt (.inr g2),if_pos rfl]
    subst er;clear HR HE;go_wp2
    exact Me (v:=.tuple #[.int .i64 0,.int .i64 1]) (by simp [results,Tryz.results60,go_sem]) rfl ⟨rfl,hal⟩
   have HC:Hid (hU (af.drop j)=hU (af.drop (j+1))):=xO af j hlt g1 g2;go_wp2
   go_roundw
   case rel=>exact ⟨j+1,by omega,by go_num,HE.out.trans HC.out,trivial⟩
   case measure=>simp [intOf]; omega
  ·have hcb:hU af=true:=by rw [HE.out,Dg af j (by omega)]
   have er:r=((bf af x 0 1).1,(bf af x 0 1).2.1):=by rw [← HR.out,xW (by omega) hcb]
   have T0:mD (wr.alloc (.cells #[.slice ca af.length ccap,.int .i64 0] 142)) wr.heap.size ca af.length ccap 0:=⟨by simp,by simp,by simp,by simp⟩
   have hal2:=aa wr (.cells #[.slice ca af.length ccap,.int .i64 0] 142);have con:=yZ af x w.heap.size wr.heap.size ca ccap a cap 0 1 _ (aX.next (chain hal hal2) (Mc _) hk) (hc.next (chain hal hal2) (Mc _)) hal.size T0 (by omega) (by omega) (by omega) (by omega);generalize bf af x 0 1=ty at *;subst er;clear HR HE hcb;obtain ⟨s0,s1,s2,s3,s4,s5⟩:=S0;simp only [Mq] at s1 s2 s3 s4 s5;go_wp2_with fail
   refine con.mono ?_;rintro e w5 ⟨rfl,hX,_⟩;have hb5:=(chain hal hal2).trans (hX.below hal.size);clear con s0 s1 s2 s3 s4 s5 hX T0 hal2;go_wp2
   exact Me (v:=.tuple #[.int .i64 ty.1,.int .i64 ty.2.1]) (by simp [results,Tryz.results60,go_sem]) rfl ⟨rfl,hb5⟩
def aM (f:Int→Int):List Zp→List Zp
 | []=>[]
 | x :: r=>if f x.2=0 then aM f r else (bz x.1,f x.2) :: aM f r
theorem rG (f:Int→Int) (l t:List Zp):aM f (l ++ t)=aM f l ++ aM f t:=by
 induction l with
 | nil=>rfl
 | cons x r ih =>
  rw [M8,aM,aM,ih]
  split <;> simp
theorem oQ (f:Int→Int) (l:List Zp) (k:Nat) (h:k<l.length):aM f (l.take (k+1))=aM f (l.take k) ++ (if f l[k].2=0 then [] else [(bz l[k].1,f l[k].2)]):=by
 rw [Mp h,rG];simp [aM]
theorem my (f:Int→Int) (l:List Zp):(aM f l).length≤l.length:=by
 induction l with
 | nil=>simp [aM]
 | cons x r ih =>
  rw [aM]
  split <;> simp <;> omega
def sm (g:Nat) (cb:Array Value) (f:Int→Int) (w:World):Prop :=
 ∀ (x:Int) (W:World),lZ x=true→Below w.heap.size w W→Calls Tryz.prog g (#[.int .i64 x] ++ cb) W fun e w'=>e = .returned (.int .i64 (f x))∧Below W.heap.size W w'
theorem mx (g:Nat) (cb:Array Value) (f:Int→Int) (a:Option Addr) (cap:Nat) (l:List Zp) (w:World) (h:bc w a l)
  (eg:∀ args w,(callFunc g args).run Tryz.prog w = .ok (.enter g args) w) (hm:sm g cb f w) (hl:l.length≤200000) (hr:∀ x ∈ l,x.1.length≤8) (hw:∀ x ∈ l,lZ x.2=true) :
  Calls Tryz.prog 46 #[.slice a l.length cap,.func (.func g) #[] cb] w fun e w'=>∃ v,e = .returned v∧dH w.heap.size w' v (aM f l)∧Below w.heap.size w w':=by
 obtain ⟨i0,hi,hj0,hj1,hj2⟩:=info_parts Tryz.gH;go_enter Tryz.func46,Tryz.ntmps46;go_wp2_with fail
 go_loopw [5,11] (fun v i wr=>∃ k:Nat,k≤l.length∧i = .int .i64 k∧dH w.heap.size wr v (aM f (l.take k))∧Below w.heap.size w wr) (fun _ i _=>l.length - (intOf i).toNat)
 case atStart=>exact ⟨0,Mj _,rfl,⟨[],by simpa [aM] using MM _ _ _ _,by simp [aM,wh]⟩,Md _ _⟩
 case round =>
  obtain ⟨k,hk,rfl,HO,hb⟩:=hrel;have hz:=hb.size;by_cases hlt:k<l.length
  ·obtain ⟨b,off,rfl,hbl,c1,ar,cr,c0,sr⟩:=(h.next hb).elem hlt;have hin:=hw l[k] (Mk hlt);have h8:=hr l[k] (Mk hlt);have HI:=aw hin;have H8:=aw h8;clear hin h8;have hlen:=my f (l.take k);simp only [MH] at hlen;by_cases h0:f l[k].2=0
   ·have H0:=aw h0;clear h0;go_wp2_with (go_at_fn g; refine (hm _ _ HI.out (hb.alloc hz _)).mono ?_; rintro e w1 ⟨rfl,hb1⟩; rw [H0.out])
    go_roundw
    case rel=>exact ⟨k+1,by omega,by go_num,by rw [oQ f l k hlt,if_pos H0.out,Nm]; exact (HO.next ((Md _ _).alloc (Mc _) _)).next hb1,mr hb hb1⟩
    case measure=>simp [intOf]; omega
   ·have H0:=aw h0;have n0:(f l[k].2 != 0)=true:=by simpa using h0
    clear h0;obtain ⟨xs,ho,he⟩:=HO;go_wp2_with (go_at_fn g; refine (hm _ _ HI.out (hb.alloc hz _)).mono ?_; rintro e w1 ⟨rfl,hb1⟩; have q0:w1.cell? ⟨wr.heap.size,0,none⟩=some (.slice ar l[k].1.length cr):=(hb1.cell (p:=⟨wr.heap.size,0,none⟩) (by simp)).trans (by simp))
    have hb1':=mr hb hb1;have hz1:=hb1'.size;have s1:=(sr.next ((Md _ _).alloc (Mc _) _)).next hb1;have o1:=bp (bp ho ((Md _ _).alloc (Mc _) _)) hb1;have e1:=(he.next ((Md _ _).alloc (Mc _) _)).next hb1;refine (zh _ _ _ _ s1 H8.out).mono ?_;rintro e w2 ⟨rfl,⟨s2,t2⟩,hb2⟩;have o2:=bp o1 hb2;have e2:=e1.next hb2;have hz2':=hb2.size;clear o1 e1 ho he s1;have bl:(bz l[k].1).length=l[k].1.length:=by simp [bz]
    have ss:=(s2.next ((Md _ _).alloc (Mc _) (.cells #[.slice (some ⟨w1.heap.size,0,none⟩) l[k].1.length l[k].1.length,.int .i64 (f l[k].2)] 63)))
    have st:=(t2.next ((Md _ _).alloc (Mc _) (.cells #[.slice (some ⟨w1.heap.size,0,none⟩) l[k].1.length l[k].1.length,.int .i64 (f l[k].2)] 63)))
    have eo:=e2.next ((Md _ _).alloc (Mc _) (.cells #[.slice (some ⟨w1.heap.size,0,none⟩) l[k].1.length l[k].1.length,.int .i64 (f l[k].2)] 63));go_wp2_with (at_builtin; (refine M9 _ rfl _ _ 37 rfl w.heap.size 63 i0 _ 2 32 Tryz.underlying37 hi hj0 hj1 hj2 rfl (by decide) _ _ _ rfl (o2.alloc _) ⟨w2.heap.size,0,none⟩ 1 1 [.slice (some ⟨w1.heap.size,0,none⟩) l[k].1.length l[k].1.length,.int .i64 (f l[k].2)] rfl rfl ?c1 ?c2 ?c3 ?c4 ?c5 ?_))
    case c1 =>
     intro j u hj
     match j,hj with
     | 0,hj=>simp at hj; subst hj; simp [Addr.add]
     | 1,hj=>simp at hj; subst hj; simp [Addr.add]
    case c2=>intro u hu; simp at hu; rcases hu with rfl | rfl <;> rfl
    case c3=>unfold maxLen; omega
    case c4=>omega
    case c5=>simp; omega
    intro v' w3 ho3 hg3 _;have R:=FF (o2.alloc _) eo ss st (by rw [bl]; exact ho3) hg3;have hb3:Below w.heap.size w w3:=((cB hb1' hb2).alloc (by omega) _).grown hg3 (by simp; omega) (fun q hq=>((o2.alloc (.cells #[.slice (some ⟨w1.heap.size,0,none⟩) l[k].1.length l[k].1.length,.int .i64 (f l[k].2)] 63)).lt q hq).1);clear ho3 hg3 o2 e2 eo ss st s2 t2;go_wp2
    go_roundw
    case rel=>exact ⟨k+1,by omega,by go_num,by rw [oQ f l k hlt,if_neg H0.out]; exact R,hb3⟩
    case measure=>simp [intOf]; omega
  ·have e:k=l.length:=by omega
   subst e;rw [MB] at HO;obtain ⟨av,cv,rfl,_⟩:=HO.zs;go_wp2
   go_ret;exact ⟨_,rfl,HO,hb⟩
end Go.Proofs.YtjebpkhkjkjphaaGreat
namespace Go.Proofs.YtjebpkhkjkjphaaGreat
set_option maxRecDepth 100000
set_option maxHeartbeats 16000000
theorem gG (x y z:Vl) (h:dI x y≤0) (j:dI y z≤0):dI x z≤0:=yJ _ _ _ _ _ _ _ _ _ h j
theorem cN:∀ a b c:List Vl,aK a b≤0→aK b c≤0→aK a c≤0
 | [],_,[]=>by simp [aK]
 | [],_,_ :: _=>by simp [aK]
 | _ :: _,[],_=>by simp [aK]
 | _ :: _,_ :: _,[]=>by simp [aK]
 | x :: r,y :: t,z :: u=>by
  have ih:=cN r t u
  have t1:=gG x y z
  have t2:=gG y x z
  have t3:=gG z y x
  have t4:=gG x z y
  have t5:=gG y z x
  have t6:=gG z x y
  have n1:=nw x y
  have n2:=nw y z
  have n3:=nw x z
  unfold aK
  split <;> split <;> split <;> intro h1 h2 <;> first | exact ih h1 h2 | omega
theorem fO (a:List Vl):aK a a=0:=by have:=bd a a; omega
theorem dz {a b c:List Vl} (h:aK a b<0) (k:aK b c≤0):aK a c<0:=by
 have t:=cN b c a;have n1:=bd a b;have n2:=bd a c;omega
theorem xA {a b c:List Vl} (h:aK a b≤0) (k:aK b c<0):aK a c<0:=by
 have t:=cN c a b;have n1:=bd b c;have n2:=bd a c;omega
theorem iB {a b:List Vl} (h:aK a b=0) (c:List Vl):aK a c=aK b c:=by
 have t1:=cN a b c;have t2:=cN b a c;have t3:=cN c a b;have t4:=cN c b a;have n1:=bd a b;have n2:=bd a c;have n3:=bd b c;have b1:=uk a c;have b2:=uk b c;omega
theorem xJ {a b:List Vl} (h:aK a b=0) (c:List Vl):aK c a=aK c b:=by
 have:=iB h c;have n2:=bd a c;have n3:=bd b c;omega
theorem zH (k n k' n':Int) (s s':ByteArray):dY k (dE k n) (fN k s) k' n' s'=dY k n s k' n' s':=by
 unfold dY dE fN;by_cases h:k=k'
 ·subst h;by_cases h2:k=2∨k=3
  ·simp [h2]
  ·by_cases h4:k=4
   ·simp [h4]
   ·simp [h2,h4]
 ·simp [h]
theorem Cb (x y:Vl):dI (bF x) y=dI x y:=zH _ _ _ _ _ _
theorem cI:∀ a b:List Vl,aK (bz a) b=aK a b
 | [],[]=>rfl
 | [],_ :: _=>rfl
 | _ :: _,[]=>rfl
 | x :: r,y :: t=>by
  have ih:=cI r t
  show (if dI (bF x) y=0 then aK (bz r) t else dI (bF x) y)=_
  rw [Cb,ih]; rfl
theorem iJ (a b:List Vl):aK a (bz b)=aK a b:=by
 have:=cI b a;have n1:=bd a b;have n2:=bd a (bz b);omega
theorem toList_inj {s t:ByteArray} (h:s.toList=t.toList):s=t:=by
 rw [ByteArray.toList_eq,ByteArray.toList_eq] at h;rcases s with ⟨⟨s⟩⟩
 rcases t with ⟨⟨t⟩⟩
 simpa using h
theorem EV {x y:Vl} (h:dI x y=0):bF x=bF y:=by
 unfold dI dY at h;unfold bF dE fN;by_cases e:x.1=y.1
 ·simp only [e,ne_eq,not_true,if_false] at h ⊢;by_cases h2:y.1=2∨y.1=3
  ·simp only [h2,if_true] at h ⊢;rw [rY] at h;have h4:¬ y.1=4:=by omega
   simp [h,h4]
  ·by_cases h4:y.1=4
   ·simp [h4] at h;rw [Bj] at h;simp [h2,toList_inj h]
   ·simp [h2,h4]
 ·simp only [e,ne_eq,not_false_iff,if_true] at h;rw [rY] at h;exact absurd h e
theorem kS:∀ {a b:List Vl},aK a b=0→bz a=bz b
 | [],[],_=>rfl
 | [],_ :: _,h=>by simp [aK] at h
 | _ :: _,[],h=>by simp [aK] at h
 | x :: r,y :: t,h=>by
  unfold aK at h
  by_cases e:dI x y=0
  ·rw [if_pos e] at h
   show bF x :: bz r=bF y :: bz t
   rw [EV e,kS h]
  ·rw [if_neg e] at h
   exact absurd h e
theorem ym (x:Vl):bF (bF x)=bF x:=by
 unfold bF dE fN;by_cases h:x.1=2∨x.1=3 <;> by_cases h4:x.1=4 <;> simp [h,h4]
theorem kf (l:List Vl):bz (bz l)=bz l:=by
 simp [bz,ym]
theorem yX (x:Vl):aU (bF x).1 (bF x).2.1 (bF x).2.2=aU x.1 x.2.1 x.2.2:=by
 unfold bF dE fN aU;by_cases h1:x.1=1
 ·simp [h1]
 by_cases h2:x.1=2
 ·simp [h2]
 by_cases h3:x.1=3
 ·simp [h3]
 by_cases h4:x.1=4
 ·simp [h4]
 simp [h1,h2,h3,h4]
theorem xz (l:List Vl):mw (bz l)=mw l:=by
 unfold mw bz;rw [List.all_map]
 congr 1
 funext x
 simp [yX]
theorem im (l:List Vl):(bz l).length=l.length:=by simp [bz]
theorem lT (l:List Vl):ba (bz l)=0↔ba l=0:=by rw [dL,dL,im,xz]
def wt:List Zp→List Vl→Int
 | [],_=>0
 | x :: r,q=>(if aK x.1 q=0 then x.2 else 0)+wt r q
theorem eU (l t:List Zp) (q:List Vl):wt (l ++ t) q=wt l q+wt t q:=by
 induction l with
 | nil=>simp [wt]
 | cons x r ih=>rw [M8,wt,wt,ih]; omega
theorem Hs {l t:List Zp} (h:l.Perm t) (q:List Vl):wt l q=wt t q:=by
 induction h with
 | nil=>rfl
 | cons x _ ih=>rw [wt,wt,ih]
 | swap x y l=>simp only [wt]; omega
 | trans _ _ h1 h2=>exact h1.trans h2
theorem AG {l:List Zp} {q:List Vl} (h:∀ x ∈ l,¬ aK x.1 q=0):wt l q=0:=by
 induction l with
 | nil=>rfl
 | cons x r ih =>
  rw [wt,if_neg (h x (by simp)),ih (fun y hy=>h y (by simp [hy]))];rfl
theorem DX {q q':List Vl} (h:aK q q'=0) (l:List Zp):wt l q=wt l q':=by
 induction l with
 | nil=>rfl
 | cons x r ih=>rw [wt,wt,ih,xJ h]
def iH (z:List Zp):Prop:=z.Pairwise fun x y=>aK x.1 y.1<0
structure gm (z:List Zp):Prop where
 gZ:iH z
 ne:∀ x ∈ z,x.2≠0
 bare:∀ x ∈ z,bz x.1=x.1
theorem gm.tail {x:Zp} {r:List Zp} (h:gm (x :: r)):gm r:=⟨(List.pairwise_cons.1 h.gZ).2,fun y hy=>h.ne y (by simp [hy]),fun y hy=>h.bare y (by simp [hy])⟩
theorem nz {x:Zp} {r:List Zp} (h:iH (x :: r)):wt (x :: r) x.1=x.2:=by
 rw [wt,if_pos (fO _),AG]
 ·omega
 ·intro y hy;have:=(List.pairwise_cons.1 h).1 y hy;have n:=bd x.1 y.1;omega
theorem qi {x:Zp} {t:List Zp} (_h:iH t) (hx:∀ y ∈ t,aK x.1 y.1<0):wt t x.1=0 :=
 AG fun y hy=>by have:=hx y hy; have:=bd x.1 y.1; omega
theorem gL:∀ (z z':List Zp),gm z→gm z'→(∀ q,wt z q=wt z' q)→z=z'
 | [],[],_,_,_=>rfl
 | [],y :: t,_,h',e=>by
  have:=e y.1
  rw [nz h'.gZ] at this
  exact absurd this.symm (h'.ne y (by simp))
 | x :: r,[],h,_,e=>by
  have:=e x.1
  rw [nz h.gZ] at this
  exact absurd this (h.ne x (by simp))
 | x :: r,y :: t,h,h',e=>by
  have p:=List.pairwise_cons.1 h.gZ
  have p':=List.pairwise_cons.1 h'.gZ
  have ex:=e x.1
  have ey:=e y.1
  rw [nz h.gZ] at ex
  rw [nz h'.gZ] at ey
  have nx:=h.ne x (by simp)
  have ny:=h'.ne y (by simp)
  by_cases c:aK x.1 y.1=0
  ·have e1:x.1=y.1:=by
    have:=kS c
    rwa [h.bare x (by simp),h'.bare y (by simp)] at this
   have e2:x.2=y.2:=by
    rw [e1,nz h'.gZ] at ex
    exact ex
   have exy:x=y:=Prod.ext e1 e2
   subst exy
   rw [gL r t h.tail h'.tail fun q=>by have:=e q; rw [wt,wt] at this; omega]
  ·exfalso
   have n:=bd x.1 y.1
   by_cases c':aK x.1 y.1<0
   ·rw [qi h'.gZ (x:=x) (fun v hv=>by
     rcases List.mem_cons.1 hv with rfl | hv
     ·exact c'
     ·exact dz c' (by have:=p'.1 v hv; omega))] at ex
    exact nx ex
   ·rw [qi h.gZ (x:=y) (fun v hv=>by
     rcases List.mem_cons.1 hv with rfl | hv
     ·omega
     ·exact dz (b:=x.1) (by omega) (by have:=p.1 v hv; omega))] at ey
    exact ny ey.symm
def gO:List Zp→List Vl→Int→List Zp
 | [],r,w=>if w=0 then [] else [(bz r,w)]
 | y :: t,r,w=>if aK y.1 r<0 then y :: gO t r w else if aK y.1 r=0 then (if w+y.2=0 then t else (bz r,w+y.2) :: t) else (if w=0 then y :: t else (bz r,w) :: y :: t)
theorem qt (r:List Vl) (w:Int) (b:List Vl) (hb:aK b r<0):∀ z:List Zp,(∀ y ∈ z,aK b y.1<0)→∀ y ∈ gO z r w,aK b y.1<0
 | [],_=>by
  unfold gO
  split
  ·simp
  ·intro y hy; simp at hy; subst hy; rw [iJ]; exact hb
 | x :: t,h=>by
  have hx:=h x (by simp)
  have ht:∀ y ∈ t,aK b y.1<0:=fun y hy=>h y (by simp [hy])
  have ih:=qt r w b hb t ht
  unfold gO
  split
  ·intro y hy
   rcases List.mem_cons.1 hy with rfl | hy
   ·exact hx
   ·exact ih y hy
  ·split
   ·split
    ·exact ht
    ·intro y hy
     rcases List.mem_cons.1 hy with rfl | hy
     ·show aK b (bz r)<0
      rw [iJ]; exact hb
     ·exact ht y hy
   ·split
    ·exact h
    ·intro y hy
     rcases List.mem_cons.1 hy with rfl | hy
     ·show aK b (bz r)<0
      rw [iJ]; exact hb
     ·exact h y hy
theorem sL (r:List Vl) (w:Int):∀ z:List Zp,iH z→iH (gO z r w)
 | [],_=>by unfold gO; split <;> simp [iH]
 | x :: t,h=>by
  have p:=List.pairwise_cons.1 h
  unfold gO
  split
  ·rename_i c
   exact List.pairwise_cons.2 ⟨qt r w x.1 c t p.1,sL r w t p.2⟩
  ·split
   ·rename_i c
    split
    ·exact p.2
    ·refine List.pairwise_cons.2 ⟨fun y hy=>?_,p.2⟩
     show aK (bz r) y.1<0
     rw [cI,← iB c]
     exact p.1 y hy
   ·rename_i c c'
    split
    ·exact h
    ·refine List.pairwise_cons.2 ⟨fun y hy=>?_,h⟩
     show aK (bz r) y.1<0
     rw [cI]
     have n:=bd x.1 r
     rcases List.mem_cons.1 hy with rfl | hy
     ·omega
     ·exact dz (b:=x.1) (by omega) (by have:=p.1 y hy; omega)
theorem Gu (r:List Vl) (w:Int):∀ z:List Zp,gm z→gm (gO z r w):=fun z h=>by
 refine ⟨sL r w z h.gZ,?_,?_⟩
 ·have hn:=h.ne
  clear h
  induction z with
  | nil=>unfold gO; split <;> simp_all
  | cons x t ih =>
   have ih:=ih (fun y hy=>hn y (by simp [hy]))
   have hx:=hn x (by simp)
   unfold gO
   split
   ·intro y hy
    rcases List.mem_cons.1 hy with rfl | hy
    ·exact hx
    ·exact ih y hy
   ·split
    ·split
     ·exact fun y hy=>hn y (by simp [hy])
     ·intro y hy
      rcases List.mem_cons.1 hy with rfl | hy
      ·assumption
      ·exact hn y (by simp [hy])
    ·split
     ·exact hn
     ·intro y hy
      rcases List.mem_cons.1 hy with rfl | hy
      ·assumption
      ·exact hn y hy
 ·have hn:=h.bare
  clear h
  induction z with
  | nil =>
   unfold gO
   split
   ·simp
   ·intro y hy; simp at hy; subst hy; exact kf r
  | cons x t ih =>
   have ih:=ih (fun y hy=>hn y (by simp [hy]))
   have hx:=hn x (by simp)
   unfold gO
   split
   ·intro y hy
    rcases List.mem_cons.1 hy with rfl | hy
    ·exact hx
    ·exact ih y hy
   ·split
    ·split
     ·exact fun y hy=>hn y (by simp [hy])
     ·intro y hy
      rcases List.mem_cons.1 hy with rfl | hy
      ·exact kf r
      ·exact hn y (by simp [hy])
    ·split
     ·exact hn
     ·intro y hy
      rcases List.mem_cons.1 hy with rfl | hy
      ·exact kf r
      ·exact hn y hy
theorem AA (r:List Vl) (w:Int) (q:List Vl):∀ z:List Zp,wt (gO z r w) q=wt z q+(if aK r q=0 then w else 0)
 | []=>by
  unfold gO
  split
  ·rename_i h; subst h; simp [wt]
  ·simp [wt,cI]
 | x :: t=>by
  have ih:=AA r w q t
  unfold gO
  split
  ·rw [wt,ih,wt]; omega
  ·split
   ·rename_i c
    have e:=iB c q
    split
    ·rename_i h0
     rw [wt,e]
     split <;> omega
    ·rw [wt,wt,e]
     simp only [cI]
     split <;> omega
   ·split
    ·rename_i h0; subst h0; simp
    ·rw [wt]
     simp only [cI]
     omega
def canon (l:List Zp):List Zp:=l.foldl (fun z x=>gO z x.1 x.2) []
theorem xZ (l:List Zp):∀ z:List Zp,gm z→gm (l.foldl (fun z x=>gO z x.1 x.2) z):=by
 induction l with
 | nil=>intro z h; exact h
 | cons x r ih=>intro z h; exact ih _ (Gu _ _ _ h)
theorem Da (l:List Zp) (q:List Vl):∀ z:List Zp,wt (l.foldl (fun z x=>gO z x.1 x.2) z) q=wt z q+wt l q:=by
 induction l with
 | nil=>intro z; simp [wt]
 | cons x r ih=>intro z; rw [Nl,ih,AA,wt]; omega
theorem set_nil:gm []:=⟨List.Pairwise.nil,by simp,by simp⟩
theorem dO (l:List Zp):gm (canon l):=xZ l [] set_nil
theorem cP (l:List Zp) (q:List Vl):wt (canon l) q=wt l q:=by
 unfold canon;rw [Da];simp [wt]
theorem wu {z l:List Zp} (h:gm z) (e:∀ q,wt z q=wt l q):z=canon l :=
 gL _ _ h (dO l) fun q=>(e q).trans (cP l q).symm
theorem gF (f:Int→Int) (z:List Zp):∀ y ∈ aM f z,∃ x ∈ z,y=(bz x.1,f x.2)∧¬ f x.2=0:=by
 induction z with
 | nil=>intro y hy; cases hy
 | cons x r ih =>
  intro y hy;unfold aM at hy
  split at hy
  ·obtain ⟨u,hu,e⟩:=ih y hy;exact ⟨u,by simp [hu],e⟩
  ·rename_i h0
   rcases List.mem_cons.1 hy with rfl | hy
   ·exact ⟨x,by simp,rfl,h0⟩
   ·obtain ⟨u,hu,e⟩:=ih y hy;exact ⟨u,by simp [hu],e⟩
theorem oM (f:Int→Int):∀ z:List Zp,iH z→iH (aM f z)
 | [],_=>List.Pairwise.nil
 | x :: r,h=>by
  have p:=List.pairwise_cons.1 h
  have ih:=oM f r p.2
  unfold aM
  split
  ·exact ih
  ·refine List.pairwise_cons.2 ⟨fun y hy=>?_,ih⟩
   obtain ⟨u,hu,rfl,_⟩:=gF f r y hy
   show aK (bz x.1) (bz u.1)<0
   rw [cI,iJ]
   exact p.1 u hu
theorem jR (f:Int→Int) (z:List Zp) (h:iH z):gm (aM f z) :=
 ⟨oM f z h,fun y hy=>by obtain ⟨u,_,rfl,h0⟩:=gF f z y hy; exact h0,fun y hy=>by obtain ⟨u,_,rfl,h0⟩:=gF f z y hy; exact kf u.1⟩
theorem ei (f:Int→Int) (f0:f 0=0) (q:List Vl):∀ z:List Zp,iH z→wt (aM f z) q=f (wt z q)
 | [],_=>by simp [aM,wt,f0]
 | x :: r,h=>by
  have p:=List.pairwise_cons.1 h
  have ih:=ei f f0 q r p.2
  by_cases c:aK x.1 q=0
  ·have z0:wt r q=0:=by
    rw [DX (q:=q) (q':=x.1) (by have:=bd x.1 q; omega)];exact qi p.2 p.1
   rw [z0,f0] at ih;unfold aM
   split
   ·rename_i h0
    rw [ih,wt,if_pos c,z0];simp [h0]
   ·rw [wt,wt,ih,z0];simp [cI,c]
  ·unfold aM
   split
   ·rw [ih,wt,if_neg c]; simp
   ·rw [wt,wt,ih];simp [cI,c]
def i5 (acc:List Zp) (x:Zp):List Zp :=
 match acc.getLast? with
 | none=>[x]
 | some y=>if aK y.1 x.1=0 then acc.dropLast ++ [(y.1,y.2+x.2)] else acc ++ [x]
def bS (l:List Zp):List Zp:=l.foldl i5 []
theorem ig (l:List Zp) (x:Zp):bS (l ++ [x])=i5 (bS l) x:=by simp [bS]
theorem kP (x:Zp):i5 [] x = [x]:=rfl
theorem il (a:List Zp) (y x:Zp):i5 (a ++ [y]) x=if aK y.1 x.1=0 then a ++ [(y.1,y.2+x.2)] else a ++ [y] ++ [x]:=by simp [i5]
theorem qK {p:List Zp→Prop} (h0:p []) (h1:∀ l x,p l→p (l ++ [x])):∀ l,p l:=by
 have key:∀ (n:Nat) (l:List Zp),l.length=n→p l:=by
  intro n
  induction n with
  | zero=>intro l h; rw [Mo h]; exact h0
  | succ n ih =>
   intro l h;rcases List.eq_nil_or_concat l with rfl | ⟨a,y,rfl⟩
   ·exact h0
   ·rw [NK];exact h1 a y (ih a (by simpa using h))
 exact fun l=>key l.length l rfl
structure tO (l z:List Zp):Prop where
 gZ:iH z
 wt:∀ q,wt z q=wt l q
 row:∀ y ∈ z,∃ x ∈ l,y.1=x.1
theorem tO.push {l z:List Zp} (h:tO l z) {x:Zp} (hx:∀ y ∈ l,aK y.1 x.1≤0):tO (l ++ [x]) (i5 z x):=by
 rcases List.eq_nil_or_concat z with rfl | ⟨a,y,rfl⟩
 ·rw [kP];refine ⟨by simp [iH],fun q=>?_,?_⟩
  ·rw [eU,← h.wt q]; simp [YtjebpkhkjkjphaaGreat.wt]
  ·intro y hy; simp at hy; subst hy; exact ⟨y,by simp,rfl⟩
 ·rw [NK] at h ⊢;have hr:=List.pairwise_append.1 h.gZ;have hy:aK y.1 x.1≤0:=by
   obtain ⟨u,hu,e⟩:=h.row y (by simp);rw [e]; exact hx u hu
  rw [il]
  split
  ·rename_i c
   refine ⟨?_,fun q=>?_,?_⟩
   ·refine List.pairwise_append.2 ⟨hr.1,by simp,?_⟩;intro u hu v hv;simp at hv;subst hv;exact hr.2.2 u hu y (by simp)
   ·have:=h.wt q;rw [eU] at this ⊢;rw [eU,← this];simp only [YtjebpkhkjkjphaaGreat.wt,← iB c q]
    split <;> omega
   ·intro u hu;simp at hu;rcases hu with hu | rfl
    ·obtain ⟨v,hv,e⟩:=h.row u (by simp [hu]);exact ⟨v,by simp [hv],e⟩
    ·obtain ⟨v,hv,e⟩:=h.row y (by simp);exact ⟨v,by simp [hv],e⟩
  ·rename_i c
   refine ⟨?_,fun q=>?_,?_⟩
   ·refine List.pairwise_append.2 ⟨h.gZ,by simp,?_⟩;intro u hu v hv;simp at hv;subst hv;simp at hu;rcases hu with hu | rfl
    ·exact dz (hr.2.2 u hu y (by simp)) hy
    ·omega
   ·rw [eU,h.wt q,eU]
   ·intro u hu;rcases List.mem_append.1 hu with hu | hu
    ·obtain ⟨v,hv,e⟩:=h.row u hu;exact ⟨v,by simp [hv],e⟩
    ·simp at hu; subst hu; exact ⟨u,by simp,rfl⟩
theorem tj:∀ (l:List Zp),(l.Pairwise fun x y=>aK x.1 y.1≤0)→tO l (bS l):=by
 refine qK (fun _=>⟨List.Pairwise.nil,fun _=>rfl,by simp [bS]⟩) ?_
 ·intro l x ih h;have p:=List.pairwise_append.1 h;rw [ig];exact (ih p.1).push fun y hy=>p.2.2 y hy x (by simp)
theorem pd (l:List Zp):(bS l).length≤l.length:=by
 revert l
 refine qK (by simp [bS]) ?_
 ·intro l x ih;rw [ig];unfold i5
  split
  ·simp
  ·rename_i y hy
   split <;> simp <;> omega
theorem tz {s l:List Zp} (hp:s.Perm l) (hs:s.Pairwise fun x y=>aK x.1 y.1≤0):aM (fun w=>w) (bS s)=canon l:=by
 have m:=tj s hs;refine wu (jR _ _ m.gZ) fun q=>?_
 rw [ei (fun w=>w) rfl q _ m.gZ,m.wt q,Hs hp q]
end Go.Proofs.YtjebpkhkjkjphaaGreat
namespace Go.Proofs
open Go.Shelf Go.RowKit Go.Lib
set_option maxRecDepth 100000
set_option maxHeartbeats 16000000
shelf_lay_g SlLaysF0.n6 Slsf 6 at Tryz 73 as Tryz.sortZ
end Go.Proofs
namespace Go.Proofs.YtjebpkhkjkjphaaGreat
open Go.RowKit Go.Lib Go.Shelf
set_option maxRecDepth 100000
set_option maxHeartbeats 16000000
structure Zr where
 a:Option Addr
 cap:Nat
 row:List Vl
 w:Int
abbrev Zg (w:World):Type:={ x:Zr // bg w x.a x.row }
instance (w:World):Inhabited (Zg w):=⟨⟨⟨none,0,[],0⟩,by simp,.inl rfl⟩⟩
def gU (w:World) (x:Zg w):List Value:=[.slice x.1.a x.1.row.length x.1.cap,.int .i64 x.1.w]
def JG (w:World) (x y:Zg w):Int:=aK x.1.row y.1.row
def Fo (w:World) (x:Zg w):Zp:=(x.1.row,x.1.w)
theorem Ls (w:World):Go.Sort.SWO (ltOf (JG w)) where
 irrefl x:=by simp [ltOf,JG,fO]
 trans x y z h1 h2:=by
  have g1:aK x.1.row y.1.row<0:=of_decide_eq_true h1;have g2:aK y.1.row z.1.row<0:=of_decide_eq_true h2;exact decide_eq_true (dz g1 (by omega))
 ntrans x y z h1 h2:=by
  have g1:¬ aK x.1.row y.1.row<0:=of_decide_eq_false h1;have g2:¬ aK y.1.row z.1.row<0:=of_decide_eq_false h2;have n1:=bd x.1.row y.1.row;have n2:=bd y.1.row z.1.row;have n3:=bd x.1.row z.1.row;have t:=cN z.1.row y.1.row x.1.row;refine decide_eq_false ?_;show ¬ aK x.1.row z.1.row<0;omega
theorem ma {W w1:World} (hb:Below W.heap.size W w1) (hd:W.drawn≤w1.drawn):∃ q os,w1=Go.Sort.grow (W.drewN q) os:=by
 refine ⟨w1.drawn - W.drawn,w1.heap.extract W.heap.size w1.heap.size,?_⟩;have hs:=hb.size;have hh:w1.heap=W.heap ++ w1.heap.extract W.heap.size w1.heap.size:=by
  apply Array.ext_getElem?;intro k;rw [Array.getElem?_append]
  split
  ·exact hb.block k (by assumption)
  ·rw [Array.getElem?_extract];by_cases hk:k<w1.heap.size
   ·simp [show W.heap.size+(k - W.heap.size)=k by omega];intro h; omega
   ·rw [M3 (by omega)];simp;intro h; omega
 obtain ⟨h1,h2,h3,h4,h5⟩:=w1;obtain ⟨g1,g2,g3,g4,g5⟩:=W;have q1:=hb.os;have q2:=hb.tape;have q3:=hb.output;simp only at q1 q2 q3 hd hh hs;subst q1 q2 q3;simp only [Go.Sort.grow,World.drewN,World.mk.injEq,true_and,and_true];exact ⟨hh,by omega⟩
theorem fE {α:Type} [Inhabited α] {w0 w:World} {enc:α→List Value} {k blk off m:Nat} {dk:Array α} {os:Array Obj} (hb:Below w0.heap.size w0 w) (hk:w0.heap.size≤blk):Below w0.heap.size w0 (sortWorldK enc k w blk off m dk os):=by
 refine ⟨hb.os,hb.tape,hb.output,?_,fun j hj=>?_⟩
 ·exact Mr hb.size (size_sortWorldK_c enc k w blk off m dk os)
 ·rw [← hb.block j hj];show ((Go.Sort.mapBlock _ _ _).heap ++ os)[j]? = _;have hs:=hb.size;rw [Array.getElem?_append_left (by simp [Go.Sort.mapBlock,Go.Sort.ahead]; omega)];simp only [Go.Sort.mapBlock,Go.Sort.ahead,Array.getElem?_modify];rw [if_neg (by omega)]
theorem yj (a a':Option Addr) (cap cap':Nat) (x x':Int) (l l':List Vl) (w:World) (h:bg w a l) (h':bg w a' l') :
  Calls Tryz.prog 74 #[.agg #[.slice a l.length cap,.int .i64 x],.agg #[.slice a' l'.length cap',.int .i64 x']] w fun e w'=>e = .returned (.int .i64 (aK l l'))∧∃ q os',w'=Go.Sort.grow (w.drewN q) os':=by
 go_enter Tryz.func74,Tryz.ntmps74;go_wp2_with fail
 have b2:Below w.heap.size w ((w.alloc (.cells #[.slice a l.length cap,.int .i64 x] 63)).alloc (.cells #[.slice a' l'.length cap',.int .i64 x'] 63)):=((Md _ _).alloc (Mc _) _).alloc (by simp) _;refine (xL _ _ _ _ _ _ _ (h.next b2) (h'.next b2)).mono ?_;rintro e w1 ⟨rfl,hb1,hd1⟩;go_wp2
 go_ret;exact ⟨rfl,ma (J9 hb1) hd1⟩
theorem FB (w0 w:World) (hb:Below w0.heap.size w0 w) (blk off size:Nat) (hk:w0.heap.size≤blk):CmpLays Tryz.prog 74 #[] (gU w0) 2 (JG w0) blk off size w :=
 fun _ _ _ _ x y=>yj _ _ _ _ _ _ _ _ _ (x.2.next (fE hb hk)) (y.2.next (fE hb hk))
theorem Tryz.FV:∀ w,(isAgg 63).run Tryz.prog w = .ok true w:=Tryz.isAgg63
theorem Tryz.DJ:∀ w,(Go.sizeOf 63).run Tryz.prog w = .ok 2 w:=Tryz.sizeOf63
theorem G7 (w0 w:World) (hb:Below w0.heap.size w0 w) (blk off cap:Nat) (hk:w0.heap.size≤blk) (d:Array (Zg w0)) (hH:Go.Sort.HoldsK (gU w0) 2 w blk off d) (hblk:blk<w.heap.size) (hsz:d.size<4611686018427387904) :
  Calls Tryz.prog 73 #[.slice (some ⟨blk,off,none⟩) d.size cap,.func (.func 74) #[] #[]] w fun e w' =>
   e = .returned (.tuple #[])∧∃ d' n os,Go.Sort.PermIn 0 d.size d d'∧Go.Sort.SortedIn (ltOf (JG w0)) 0 d.size d'∧w'=sortWorldK (gU w0) 2 w blk off n d' os:=by
 have eg:∀ args w,(callFunc 74 args).run Tryz.prog w = .ok (.enter 74 args) w:=enters_of Tryz.func74 (by kernel_rfl) rfl
 exact AnyQ.slices_SortFunc Tryz.sortZ 2 Tryz.FV Tryz.DJ (gU w0) (fun _=>rfl) (fun x v hv=>by simp [gU] at hv; rcases hv with rfl | rfl <;> rfl) (JG w0) (Ls w0) 74 #[] blk off cap d w eg (FB w0 w hb blk off d.size hk) hH hblk hsz
set_option maxRecDepth 100000
set_option maxHeartbeats 16000000
theorem gJ (b off i:Nat):(⟨b,off,none⟩:Addr).add i=⟨b,off+i,none⟩:=by
 unfold Addr.add;by_cases h:i=0 <;> simp [h]
theorem nQ {w:World} (d:Array (Zg w)) (i:Nat) (h:i<d.size):(Go.Sort.flatK (gU w) 2 d)[i*2]! = .slice d[i]!.1.a d[i]!.1.row.length d[i]!.1.cap:=by
 rw [Go.Sort.get_flatK _ _ _ _ (by omega),show i*2 / 2=i by omega,show i*2 % 2=0 by omega]; rfl
theorem pQ {w:World} (d:Array (Zg w)) (i:Nat) (h:i<d.size):(Go.Sort.flatK (gU w) 2 d)[i*2+1]! = .int .i64 d[i]!.1.w:=by
 rw [Go.Sort.get_flatK _ _ _ _ (by omega),show (i*2+1) / 2=i by omega,show (i*2+1) % 2=1 by omega]; rfl
theorem bc.arr {w:World} {a:Option Addr} {l:List Zp} (h:bc w a l):∃ d:Array (Zg w),d.size=l.length∧d.toList.map (Fo w)=l ∧
  (l = []∨∃ b off,a=some ⟨b,off,none⟩∧b<w.heap.size∧∀ j,j<l.length*2→w.cell? ⟨b,off+j,none⟩=some (Go.Sort.flatK (gU w) 2 d)[j]!):=by
 obtain ⟨_,rfl | ⟨b,off,e,hlt,hr⟩⟩:=h
 ·exact ⟨#[],rfl,rfl,.inl rfl⟩
 ·obtain ⟨f,hf⟩:=Go.Deep.choose_lt (α:=Zg w) (n:=l.length) (p:=fun i x=>∀ hi:i<l.length,Fo w x=l[i]∧w.cell? ⟨b,off+i*2,none⟩=some (.slice x.1.a x.1.row.length x.1.cap)∧w.cell? ⟨b,off+i*2+1,none⟩=some (.int .i64 x.1.w)) (fun i hi=>by
   obtain ⟨c1,ai,ci,c0,si⟩:=hr i hi;exact ⟨⟨⟨ai,ci,l[i].1,l[i].2⟩,si⟩,fun _=>⟨rfl,c0,c1⟩⟩)
  have hd:∀ i,i<l.length→((Array.range l.length).map f)[i]! = f i:=fun i hi=>by simp [hi]
  refine ⟨(Array.range l.length).map f,by simp,?_,.inr ⟨b,off,e,hlt,?_⟩⟩
  ·apply List.ext_getElem
   ·simp
   ·intro i h1 h2;have:=(hf i h2 h2).1
    simpa using this
  ·intro j hj;have hi:j / 2<l.length:=by omega
   obtain ⟨_,g0,g1⟩:=hf (j / 2) hi hi;rcases Nat.mod_two_eq_zero_or_one j with h0 | h1
   ·have ej:j=j / 2*2:=by omega
    rw [ej,nQ _ _ (by simpa using hi),hd _ hi];exact g0
   ·have ej:j=j / 2*2+1:=by omega
    rw [ej,pQ _ _ (by simpa using hi),hd _ hi,← NF];exact g1
theorem BI {w W:World} {blk off:Nat} {d:Array (Zg w)} (hb:Below w.heap.size w W) (hH:Go.Sort.HoldsK (gU w) 2 W blk off d) (hlt:blk<W.heap.size) (hl:d.size≤200000):bc W (some ⟨blk,off,none⟩) (d.toList.map (Fo w)):=by
 refine ⟨by simp [maxLen]; omega,.inr ⟨blk,off,rfl,hlt,fun i hi=>?_⟩⟩;have hi':i<d.size:=by simpa using hi
 have e:d[i]! = d[i]:=getElem!_pos d i hi';have h0:=(hH (i*2) (by simp; omega)).1;have h1:=(hH (i*2+1) (by simp; omega)).1;rw [nQ d i hi',e] at h0;rw [pQ d i hi',e] at h1;simp only [MY,Ni];refine ⟨?_,d[i].1.a,d[i].1.cap,?_,d[i].2.next hb⟩
 ·rw [← NF] at h1; exact h1
 ·exact h0
theorem iD {w W:World} {base g n cap:Nat} {d:Array (Zg w)} (hn:n=d.size) (h:W.ownsRow base 63 2 (.slice (some ⟨g,0,none⟩) n cap) n (Go.Sort.flatK (gU w) 2 d).toList):Go.Sort.HoldsK (gU w) 2 W g 0 d:=by
 intro j hj;have hj':j<n*2:=by rw [hn]; simpa using hj
 refine ⟨?_,?_⟩
 ·rw [Mq,h.cellAt j hj'];show _=some (Go.Sort.flatK (gU w) 2 d)[j]!;rw [NA,getElem!_pos (Go.Sort.flatK (gU w) 2 d) j hj];exact MX hj
 ·rw [Mq]; exact h.frozenAt j
theorem xd (a:Option Addr) (cap:Nat) (l:List Zp) (w:World) (d:Array (Zg w)) (hd:d.size=l.length) (hl:l.length≤200000)
  (h:l = []∨∃ b off,a=some ⟨b,off,none⟩∧b<w.heap.size∧∀ j,j<l.length*2→w.cell? ⟨b,off+j,none⟩=some (Go.Sort.flatK (gU w) 2 d)[j]!) :
  Calls Tryz.prog 72 #[.slice a l.length cap] w fun e w'=>∃ v,e = .returned v∧w'.ownsRow w.heap.size 63 2 v l.length (Go.Sort.flatK (gU w) 2 d).toList∧Below w.heap.size w w':=by
 obtain ⟨i0,hi,hj0,hj1,hj2⟩:=info_parts Tryz.gH;have hone:∀ u ∈ (Go.Sort.flatK (gU w) 2 d).toList,u.oneCell'=true:=by
  intro u hu;obtain ⟨j,hj,rfl⟩:=Nk hu;have hj':j<d.size*2:=by simpa using hj
  have e:(Go.Sort.flatK (gU w) 2 d).toList[j]=(Go.Sort.flatK (gU w) 2 d)[j]!:=by
   rw [Ni,getElem!_pos]
  rw [e,Go.Sort.get_flatK _ _ _ _ hj'];rcases Nat.mod_two_eq_zero_or_one j with h0 | h1
  ·rw [h0]; rfl
  ·rw [h1]; rfl
 rcases a with _ | ad
 ·have e:l = []:=by
   rcases h with h | ⟨b,off,e,_⟩
   ·exact h
   ·cases e
  subst e;have d0:(Go.Sort.flatK (gU w) 2 d).toList = []:=by
   apply Mo;simp [hd]
  rw [d0];rw [List.length_nil];have q22:∀ (w:World) (a:Option Addr) (n c n' c':Nat),(binOp .eql 37 (.slice a n c) (.slice none n' c')).run Tryz.prog w = .ok (.bool a.isNone) w:=fun w a n c n' c'=>Lib.run_eql_slice_nil w _ _ a n c n' c' Tryz.underlying37
  go_enter Tryz.func72,Tryz.ntmps72;go_wp2
  go_ret;exact ⟨_,rfl,MM _ _ _ _,Md _ _⟩
 ·have q22:∀ (w:World) (a:Option Addr) (n c n' c':Nat),(binOp .eql 37 (.slice a n c) (.slice none n' c')).run Tryz.prog w = .ok (.bool a.isNone) w:=fun w a n c n' c'=>Lib.run_eql_slice_nil w _ _ a n c n' c' Tryz.underlying37
  go_enter Tryz.func72,Tryz.ntmps72;go_wp2_with (at_builtin; refine M9 _ rfl _ _ 37 rfl w.heap.size 63 i0 _ 2 32 Tryz.underlying37 hi hj0 hj1 hj2 rfl (by decide) _ _ _ rfl (Nz w #[] 0 (Mc _) (Mj _) (by simp)) ad l.length cap (Go.Sort.flatK (gU w) 2 d).toList rfl ?qc1 ?qc2 hone ?qc4 ?qc5 ?qc6 ?_)
  case qc1=>simp [hd]
  case qc2 =>
   intro j u hj;have hj':j<d.size*2:=by
    rcases ME j (d.size*2) with h | h
    ·exact h
    ·rw [MK (by simpa using h)] at hj; cases hj
   rcases h with h | ⟨b,off,e,hlt,hc⟩
   ·subst h; simp at hd; subst hd; simp at hj'
   ·have e:=MO e;subst e;rw [gJ];rw [NA,MX (by simpa using hj')] at hj;have hj:=MO hj;have:=hc j (by omega);rw [getElem!_pos _ _ (by simpa using hj'),hj] at this;exact Lib.cell?_alloc_some _ this
  case qc4=>rw [Mq]; unfold maxLen; omega
  case qc5=>rw [Mq]; omega
  case qc6=>simp
  intro v' w1 hown hgrow _;have hb1:Below w.heap.size w w1:=((Md _ _).alloc (Mc _) _).grown hgrow (by simp) (by simp [Value.ownBlock]);have hv:∃ a1 c1,v' = .slice a1 l.length c1:=by
   obtain ⟨_,⟨rfl,h0⟩ | ⟨g,c1,cur,rfl,_⟩⟩:=hown
   ·exact ⟨none,0,by rw [h0]⟩
   ·exact ⟨_,c1,rfl⟩
  obtain ⟨a1,c1,rfl⟩:=hv;clear hgrow;go_wp2
  go_ret;exact ⟨_,rfl,hown,hb1⟩
end Go.Proofs.YtjebpkhkjkjphaaGreat
