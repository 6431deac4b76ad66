/- Together: Y3, Y4, Y5, K3, Y6, Z4, P1, Z5, Z6. -/
import Derived.Deep.RegionWith
import Derived.Laws.EntriesVeiled
import Derived.Shelf.Abstract
import Derived.Shelf.SlSortCmp.WholeK
import Derived.Shelf.Lay
import Derived.Ground.SlsfProg
import Derived.Deep.Slices
import Derived.Test.YtjebpkhkjkjphaaGreatM3
import Derived.Test.YtjebpkhkjkjphaaGreatM2
namespace Go.Proofs.YtjebpkhkjkjphaaGreat
open Go.RowKit
set_option maxRecDepth 100000
set_option maxHeartbeats 16000000
theorem om {l:List Int} (h:l.length=2):∃ x y,l = [x,y]:=by
 match l,h with
 | [x,y],_=>exact ⟨x,y,rfl⟩
theorem Gx {l:List Int} (h:l.length=3):∃ x y z,l = [x,y,z]:=by
 match l,h with
 | [x,y,z],_=>exact ⟨x,y,z,rfl⟩
theorem gy {k a b:Int} (h:6≤k) (h':k≤11):cM (dP k [a,b])=if (bJ a b).2=0 then (2,0) else (0,(bJ a b).2):=by
 have e:dP k [a,b]=if (kE a b).isSome then some 2 else none:=by
  unfold dP;rw [if_neg (by omega),if_pos ⟨h,h'⟩];rfl
 rw [e];unfold bJ;cases kE a b <;> rfl
theorem sK {x y z:Int}:cM (dP 17 [x,y,z])=if (bJ x 2).2=0 then bJ y z else (0,(bJ x 2).2):=by
 have e:dP 17 [x,y,z]=if (kE x 2).isSome then kE y z else none:=rfl
 rw [e];unfold bJ;cases kE x 2 <;> rfl
theorem bo.two {B:Nat} {W:World} {a:Option Addr} {x y:Int} (h:bo B W a [x,y]):∃ b off,a=some ⟨b,off,none⟩∧b<B∧W.cell? ⟨b,off,none⟩=some (.int .i64 x)∧W.cell? ⟨b,off+1,none⟩=some (.int .i64 y):=by
 obtain ⟨_,h | ⟨b,off,e,hlt,hr⟩⟩:=h
 ·simp at h
 ·exact ⟨b,off,e,hlt,hr 0 (by simp),hr 1 (by simp)⟩
theorem bo.three {B:Nat} {W:World} {a:Option Addr} {x y z:Int} (h:bo B W a [x,y,z]):∃ b off,a=some ⟨b,off,none⟩∧b<B∧W.cell? ⟨b,off,none⟩=some (.int .i64 x)∧W.cell? ⟨b,off+1,none⟩=some (.int .i64 y)∧W.cell? ⟨b,off+2,none⟩=some (.int .i64 z):=by
 obtain ⟨_,h | ⟨b,off,e,hlt,hr⟩⟩:=h
 ·simp at h
 ·exact ⟨b,off,e,hlt,hr 0 (by simp),hr 1 (by simp),hr 2 (by simp)⟩
theorem rO (k:Int) (B:Nat) (a:Option Addr) (cap:Nat) (ts:List Int) (w:World) (hB:B≤w.heap.size) (h:bo B w a ts) (h3:3≤k) (h18:k≤18) (hl:ts.length=dw k) :
  Calls Tryz.prog 130 #[.int .i64 k,.slice a ts.length cap] w fun e w'=>e = .returned (.tuple #[.int .i64 (cM (dP k ts)).1,.int .i64 (cM (dP k ts)).2])∧Below w.heap.size w w':=by
 obtain rfl | rfl | rfl | rfl | rfl | rfl | rfl | rfl | rfl | rfl | rfl | rfl | rfl | rfl | rfl | rfl:k=3∨k=4∨k=5∨k=12∨k=13∨k=14∨k=15∨k=16∨k=6∨k=7∨k=8∨k=9∨k=10∨k=11∨k=17∨k=18:=by omega
 ·have e:dP 3 ts=bV 2 ts:=rfl;rw [e];exact vy B a cap ts w hB h
 ·have e:dP 4 ts=bV 2 ts:=rfl;rw [e];exact vJ B a cap ts w hB h
 ·have e:dP 5 ts=bV 2 ts:=rfl;rw [e];exact vH B a cap ts w hB h
 ·have e:dP 12 ts=bV 3 ts:=rfl;rw [e];exact so B a cap ts w hB h
 ·have e:dP 13 ts=bV 3 ts:=rfl;rw [e];exact tu B a cap ts w hB h
 ·have e:dP 14 ts=bV 3 ts:=rfl;rw [e];exact tl B a cap ts w hB h
 ·have e:dP 15 ts=bV 4 ts:=rfl;rw [e];exact sN B a cap ts w hB h
 ·have e:cM (dP 16 ts)=(2,0):=rfl;rw [e];exact tw a ts.length cap w
 ·obtain ⟨x,y,rfl⟩:=om hl;obtain ⟨b,off,rfl,hlt,c0,c1⟩:=h.two;exact uj b off cap x y w c0 c1 _ (gy (by decide) (by decide))
 ·obtain ⟨x,y,rfl⟩:=om hl;obtain ⟨b,off,rfl,hlt,c0,c1⟩:=h.two;exact we b off cap x y w c0 c1 _ (gy (by decide) (by decide))
 ·obtain ⟨x,y,rfl⟩:=om hl;obtain ⟨b,off,rfl,hlt,c0,c1⟩:=h.two;exact wb b off cap x y w c0 c1 _ (gy (by decide) (by decide))
 ·obtain ⟨x,y,rfl⟩:=om hl;obtain ⟨b,off,rfl,hlt,c0,c1⟩:=h.two;exact uz b off cap x y w c0 c1 _ (gy (by decide) (by decide))
 ·obtain ⟨x,y,rfl⟩:=om hl;obtain ⟨b,off,rfl,hlt,c0,c1⟩:=h.two;exact tj b off cap x y w c0 c1 _ (gy (by decide) (by decide))
 ·obtain ⟨x,y,rfl⟩:=om hl;obtain ⟨b,off,rfl,hlt,c0,c1⟩:=h.two;exact ti b off cap x y w c0 c1 _ (gy (by decide) (by decide))
 ·obtain ⟨x,y,z,rfl⟩:=Gx hl;obtain ⟨b,off,rfl,hlt,c0,c1,c2⟩:=h.three;exact tH b off cap x y z w (by omega) c0 c1 c2 _ sK
 ·obtain ⟨x,y,rfl⟩:=om hl;obtain ⟨b,off,rfl,hlt,c0,c1⟩:=h.two;have e:cM (dP 18 [x,y])=bJ x y:=rfl;rw [e];exact sv b off cap x y w c0 c1
inductive aO (B:Nat) (W:World):Option Addr→List Ex→Prop
 | nil (a:Option Addr):aO B W a []
 | some (b off:Nat) (l:List Ex) (ai:Nat→Option Addr) (cap:Nat→Nat) (hb:b<B)
   (hc:∀ (i:Nat) (h:i<l.length),ik W b (off+i*6) l[i].k l[i].v l[i].c (ai i) l[i].ks.length (cap i))
   (hk:∀ (i:Nat) (h:i<l.length),aO B W (ai i) l[i].ks):aO B W (some ⟨b,off,none⟩) l
theorem aO.next {B B':Nat} {W w1:World} (hb:Below B' W w1) (hB:B≤B') {a:Option Addr} {l:List Ex} (h:aO B W a l):aO B w1 a l:=by
 induction h with
 | nil a=>exact .nil a
 | some b off l ai cap hlt hc _ ih=>exact .some b off l ai cap hlt (fun i hi=>(hc i hi).next hb (Hi hlt hB)) ih
theorem aO.up {B B':Nat} {W:World} (hB:B≤B') {a:Option Addr} {l:List Ex} (h:aO B W a l):aO B' W a l:=by
 induction h with
 | nil a=>exact .nil a
 | some b off l ai cap hlt hc _ ih=>exact .some b off l ai cap (Hi hlt hB) hc ih
theorem aO.elem {B:Nat} {W:World} {a:Option Addr} {l:List Ex} (h:aO B W a l) {k:Nat} (hk:k<l.length) :
  ∃ b off ai cap,a=Option.some ⟨b,off,none⟩∧b<B∧ik W b (off+k*6) l[k].k l[k].v l[k].c ai l[k].ks.length cap∧aO B W ai l[k].ks:=by
 cases h with
 | nil=>simp at hk
 | some b off l ai cap hlt hc hh=>exact ⟨b,off,ai k,cap k,rfl,hlt,hc k hk,hh k hk⟩
def aM (t:Nat) (w w':World):Prop:=Below t w w'∧∀ k,k<w.heap.size→k≠t→w'.heap[k]? = w.heap[k]?
theorem aM.refl (t:Nat) (w:World):aM t w w:=⟨He _ _,fun _ _ _=>rfl⟩
theorem aM.size {t:Nat} {a b:World} (h:aM t a b):a.heap.size≤b.heap.size:=h.1.size
theorem aM.trans {t:Nat} {a b c:World} (h:aM t a b) (k:aM t b c):aM t a c :=
 ⟨h.1.trans k.1,fun i hi hn=>(k.2 i (Hi hi h.size) hn).trans (h.2 i hi hn)⟩
theorem aM.of {t:Nat} {a b:World} (h:Below a.heap.size a b) (ht:t≤a.heap.size):aM t a b:=⟨h.mono ht,fun k hk _=>h.block k hk⟩
theorem aM.set {t:Nat} {a b:World} (h:aM t a b) (o:Nat) (u:Value):aM t a (b.setCell ⟨t,o,none⟩ u) :=
 ⟨h.1.setCell (Hd _) u,fun k hk hn=>(Im b ⟨t,o,none⟩ u k hn).trans (h.2 k hk hn)⟩
theorem aM.Bw {t:Nat} {a b:World} (h:aM t a b) (g o:Nat) (u:Value) (hg:a.heap.size≤g) (ht:t≤a.heap.size):aM t a (b.setCell ⟨g,o,none⟩ u) :=
 ⟨h.1.setCell (HJ ht hg) u,fun k hk hn=>(Im b ⟨g,o,none⟩ u k (by show k≠g; omega)).trans (h.2 k hk hn)⟩
theorem aM.cell {t:Nat} {a b:World} (h:aM t a b) {p:Addr} (hp:p.block<a.heap.size) (hn:p.block≠t):b.cell? p=a.cell? p:=Hz (w:=a) (h.2 p.block hp hn)
theorem aM.frozen {t:Nat} {a b:World} (h:aM t a b) {p:Addr} (hp:p.block<a.heap.size) (hn:p.block≠t):b.frozen? p=a.frozen? p:=IW (w:=a) (h.2 p.block hp hn)
theorem aM.below {t B:Nat} {a b:World} (h:aM t a b) (hB:B≤t):Below B a b:=h.1.mono hB
theorem ik.mz {W w1:World} {t b off:Nat} {k:Int} {v:Vl} {c:Int} {a:Option Addr} {n cap:Nat} (h:ik W b off k v c a n cap) (hb:aM t W w1) (hB:b<W.heap.size) (hn:b≠t):ik w1 b off k v c a n cap :=
 ⟨(hb.cell (p:=⟨b,_,none⟩) hB hn).trans h.c0,(hb.cell (p:=⟨b,_,none⟩) hB hn).trans h.c1,(hb.cell (p:=⟨b,_,none⟩) hB hn).trans h.c2,(hb.cell (p:=⟨b,_,none⟩) hB hn).trans h.c3,(hb.cell (p:=⟨b,_,none⟩) hB hn).trans h.c4,(hb.cell (p:=⟨b,_,none⟩) hB hn).trans h.c5⟩
structure kF (W:World) (t:Nat) (ca:Option Addr) (n cap:Nat) (m:Int):Prop where
 lt:t<W.heap.size
 c0:W.cell? ⟨t,0,none⟩=some (.slice ca n cap)
 c1:W.cell? ⟨t,1,none⟩=some (.int .i64 m)
 f1:W.frozen? ⟨t,1,none⟩=false
theorem kF.next {W w1:World} {t:Nat} {ca:Option Addr} {n cap:Nat} {m:Int} (h:kF W t ca n cap m) (hb:Below W.heap.size W w1):kF w1 t ca n cap m :=
 ⟨Hi h.lt hb.size,(hb.cell (p:=⟨t,0,none⟩) h.lt).trans h.c0,(hb.cell (p:=⟨t,1,none⟩) h.lt).trans h.c1,(hb.frozen (p:=⟨t,1,none⟩) h.lt).trans h.f1⟩
theorem kF.count {W:World} {t:Nat} {ca:Option Addr} {n cap:Nat} {m:Int} (h:kF W t ca n cap m) (m':Int):kF (W.setCell ⟨t,1,none⟩ (.int .i64 m')) t ca n cap m':=by
 obtain ⟨lt,c0,c1,f1⟩:=h;refine ⟨by simpa using lt,?_,?_,?_⟩
 ·rw [Hq _ _ _ _ (by simp)];exact c0
 ·exact ID _ _ _ c1
 ·simpa using f1
structure ft (W:World) (g:Nat) (l:List Int):Prop where
 lt:g<W.heap.size
 c:∀ (i:Nat) (h:i<l.length),W.cell? ⟨g,i,none⟩=some (.int .i64 l[i])
 f:∀ i:Nat,W.frozen? ⟨g,i,none⟩=false
theorem ft.mz {t:Nat} {W w1:World} {g:Nat} {l:List Int} (h:ft W g l) (hb:aM t W w1) (hn:g≠t):ft w1 g l :=
 ⟨Hi h.lt hb.size,fun i hi=>(hb.cell (p:=⟨g,i,none⟩) h.lt hn).trans (h.c i hi),fun i=>(hb.frozen (p:=⟨g,i,none⟩) h.lt hn).trans (h.f i)⟩
theorem ft.set {W:World} {g:Nat} {l:List Int} (h:ft W g l) (i:Nat) (hi:i<l.length) (u:Int):ft (W.setCell ⟨g,i,none⟩ (.int .i64 u)) g (l.set i u):=by
 refine ⟨by simpa using h.lt,fun j hj=>?_,fun j=>by simpa using h.f j⟩;have hj':j<l.length:=by simpa using hj
 by_cases e:i=j
 ·subst e;rw [ID _ _ _ (h.c i hi)];simp
 ·rw [Hq _ _ _ _ (by intro h; injection h with _ h; exact e h),h.c j hj'];simp [List.getElem_set_ne e]
theorem ft.is {W:World} {g:Nat} {l:List Int} (h:ft W g l) (hl:l.length≤maxLen):bo W.heap.size W (some ⟨g,0,none⟩) l :=
 ⟨hl,.inr ⟨g,0,rfl,h.lt,fun i hi=>by simpa using h.c i hi⟩⟩
theorem ft.new (w : World) (n t : Nat) : ft (w.alloc (.cells (Array.replicate n (.int .i64 0)) t)) w.heap.size (List.replicate n 0) :=
  ⟨by simp, fun i hi => by have : i < n := by simpa using hi
                           simp [this], fun i => by simp⟩
theorem zg {n:Nat} (h:n≤3) (w:World):(Instr.makeSlice 42 (.int .i64 n) (.int .i64 n)).run Tryz.prog w = .ok (.slice (some ⟨w.heap.size,0,none⟩) n n) (w.alloc (.cells (Array.replicate n (.int .i64 0)) 3)):=by
 obtain rfl | rfl | rfl | rfl:n=0∨n=1∨n=2∨n=3:=by omega
 all_goals kernel_rfl
theorem oM (k:Int):dw k≤3:=by
 unfold dw
 repeat' split
 all_goals omega
def oI (af:List Int) (x:Ex):Prop :=
 ∀ (B t:Nat) (ca:Option Addr) (ccap:Nat) (a:Option Addr) (cap:Nat) (m d:Int) (w:World),aO B w a x.ks→bo B w ca af→B≤t→kF w t ca af.length ccap m→0≤m→m≤200→0≤d→d≤21 →
  Calls Tryz.prog 95 #[.pointer (some ⟨t,0,none⟩),iY x.k x.v x.c a x.ks.length cap,.int .i64 d] w fun e w' =>
   e = .returned (.tuple #[.int .i64 (aV af x m d).1,.int .i64 (aV af x m d).2.1])∧aM t w w'∧kF w' t ca af.length ccap (aV af x m d).2.2
theorem xL {af:List Int} {k:Int} {v:Vl} {c:Int} {ks:List Ex} {m d:Int} (h:¬ ed k ks.length (m+1) d=0):aV af (.mk k v c ks) m d=(0,ed k ks.length (m+1) d,m+1):=by
 rw [aV,if_pos h]
theorem yK {af:List Int} {k:Int} {v:Vl} {c:Int} {ks:List Ex} {m d:Int} (h:ed k ks.length (m+1) d=0) {e:Int} {ts:List Int} {n:Int} (hk:bp af ks [] (m+1) (d+1)=(e,ts,n)) (he:¬ e=0):aV af (.mk k v c ks) m d=(0,e,n):=by
 rw [aV,if_neg (by simp [h]),hk,if_pos he]
theorem xS {af:List Int} {k:Int} {v:Vl} {c:Int} {ks:List Ex} {m d:Int} (h:ed k ks.length (m+1) d=0) {ts:List Int} {n:Int} (hk:bp af ks [] (m+1) (d+1)=(0,ts,n)):aV af (.mk k v c ks) m d=((dG af k v c ts).1,(dG af k v c ts).2,n):=by
 rw [aV,if_neg (by simp [h]),hk,if_neg (by simp)]
theorem vr (af:List Int) (ks:List Ex) (ts:List Int) (n d:Int) (j:Nat) (h:ks.length≤j):bp af (ks.drop j) ts n d=(0,ts,n):=by
 rw [Ig h,bp]
theorem vB (af:List Int) (ks:List Ex) (ts:List Int) (n d:Int) (j:Nat) (h:j<ks.length) (he:¬ (aV af ks[j] n d).2.1=0):bp af (ks.drop j) ts n d=((aV af ks[j] n d).2.1,ts,(aV af ks[j] n d).2.2):=by
 rw [Hk h,bp,if_pos he]
theorem sM (af:List Int) (ks:List Ex) (ts:List Int) (n d:Int) (j:Nat) (h:j<ks.length) (he:(aV af ks[j] n d).2.1=0):bp af (ks.drop j) ts n d=bp af (ks.drop (j+1)) (ts ++ [(aV af ks[j] n d).1]) (aV af ks[j] n d).2.2 d:=by
 rw [Hk h,bp,if_neg (by simp [he])]
theorem bX {W:World} {g o b p:Nat} {u:Value} (hn:g≠b):(W.setCell ⟨g,o,none⟩ u).cell? ⟨b,p,none⟩=W.cell? ⟨b,p,none⟩ :=
 Hq _ _ _ _ (by intro h; injection h with h; exact hn h)
theorem ik.CL {W:World} {b off:Nat} {k:Int} {v:Vl} {c:Int} {a:Option Addr} {n cap:Nat} (h:ik W b off k v c a n cap) (g o:Nat) (u:Value) (hn:g≠b):ik (W.setCell ⟨g,o,none⟩ u) b off k v c a n cap :=
 ⟨(bX hn).trans h.c0,(bX hn).trans h.c1,(bX hn).trans h.c2,(bX hn).trans h.c3,(bX hn).trans h.c4,(bX hn).trans h.c5⟩
theorem kF.CL {W:World} {t:Nat} {ca:Option Addr} {n cap:Nat} {m:Int} (h:kF W t ca n cap m) (g o:Nat) (u:Value) (hn:g≠t):kF (W.setCell ⟨g,o,none⟩ u) t ca n cap m :=
 ⟨by simpa using h.lt,(bX hn).trans h.c0,(bX hn).trans h.c1,by simpa using h.f1⟩
theorem xi (ts:List Int) (n j:Nat) (x:Int) (h:ts.length=j) (hj:j<n):(ts ++ List.replicate (n - j) 0).set j x=(ts ++ [x]) ++ List.replicate (n - (j+1)) 0:=by
 subst h;obtain ⟨q,hq⟩:∃ q,n - ts.length=q+1:=⟨n - ts.length - 1,by omega⟩
 have hq':n - (ts.length+1)=q:=by omega
 rw [hq,hq',List.replicate_succ,List.set_append_right _ _ (Hd _)];simp
theorem xM (af:List Int) (k:Int) (v:Vl) (c:Int) (ks:List Ex) (ih:∀ x ∈ ks,oI af x):oI af (.mk k v c ks):=by
 intro B t ca ccap a cap m d w hk hc hBt ht hm0 hm hd0 hd;simp only [Ex.k,Ex.v,Ex.c,Ex.ks] at hk ⊢;have H1:=ht.lt;have H2:=ht.c1;have H3:=ht.f1;generalize hr:aV af (.mk k v c ks) m d=r;have HR:Hid (aV af (.mk k v c ks) m d=r):=hr;clear hr;go_enter Tryz.func95,Tryz.ntmps95;go_wp2_with fail
 have T0:=ht.count (m+1);have X0:=(aM.refl t w).set 1 (.int .i64 (m+1));have SA:=ik.new (w.setCell ⟨t,1,none⟩ (.int .i64 (m+1))) k v c a ks.length cap 27;rw [Ip] at SA;have hal:Below (w.setCell ⟨t,1,none⟩ (.int .i64 (m+1))).heap.size (w.setCell ⟨t,1,none⟩ (.int .i64 (m+1))) ((w.setCell ⟨t,1,none⟩ (.int .i64 (m+1))).alloc (.cells #[.int .i64 k,.int .i64 v.1,.int .i64 v.2.1,.string v.2.2,.int .i64 c,.slice a ks.length cap] 27)):=(He _ _).alloc (Hd _) _;have TA:=T0.next hal;have XA:=X0.trans (aM.of hal (by simp; omega))
 have zA:w.heap.size<((w.setCell ⟨t,1,none⟩ (.int .i64 (m+1))).alloc (.cells #[.int .i64 k,.int .i64 v.1,.int .i64 v.2.1,.string v.2.2,.int .i64 c,.slice a ks.length cap] 27)).heap.size:=by simp
 clear hal T0 X0 H2 H3 ht;generalize (w.setCell ⟨t,1,none⟩ (.int .i64 (m+1))).alloc (.cells #[.int .i64 k,.int .i64 v.1,.int .i64 v.2.1,.string v.2.2,.int .i64 c,.slice a ks.length cap] 27)=wA at *;have p0:=ax SA.c0;have p1:=ax SA.c1;have p2:=ax SA.c2;have p3:=ax SA.c3;have p4:=ax SA.c4;have p5:=ax SA.c5;have p6:=ax TA.c1;simp only [Hu] at p1 p2 p3 p4 p5;haveI:Nonempty (du wA):=⟨⟨_,He _ _⟩⟩
 refine aI (by kernel_rfl) (by kernel_rfl) ?_
 repeat (go_big_quiet_step (first | (go_at_call 127; exact cS (rF k v c a ks.length cap (m+1) d _))))
 refine wpQuiet_nil ?_;rintro w3 ⟨⟨v3,hb3⟩,h3'⟩;obtain rfl:w3=v3:=h3';have T3:=TA.next hb3;have S3:=SA.next hb3 zA;have X3:=XA.trans (aM.of hb3 (by omega));have z3:=hb3.size;clear p0 p1 p2 p3 p4 p5 p6 TA SA XA this;generalize hw0:ed k ks.length (m+1) d=e0;by_cases hw:e0=0
 ·subst hw;have HW:Hid (ed k ks.length (m+1) d=0):=hw0;have hq:ks.length=dw k∧1≤k∧k≤18∧m+1≤200∧d≤20:=by
   unfold ed at hw0;by_cases g1:200<m+1∨20<d
   ·simp [g1] at hw0
   by_cases g2:k<1∨18<k
   ·simp [g1,g2] at hw0
   by_cases g3:ks.length=dw k
   ·exact ⟨g3,by omega⟩
   ·simp [g1,g2,g3] at hw0
  obtain ⟨hln,hk1,hk18,hm1,hd1⟩:=hq;have hl3:ks.length≤3:=by rw [hln]; exact oM k
  have HL:Hid (ks.length=dw k):=hln;have hmk:=zg hl3;clear hw0 hln;obtain ⟨s0,s1,s2,s3,s4,s5⟩:=S3;simp only [Hu] at s1 s2 s3 s4 s5;have zl:w.heap.size<w3.heap.size:=by omega
  go_wp2_with fail
  have S3:ik w3 w.heap.size 0 k v c a ks.length cap:=⟨s0,s1,s2,s3,s4,s5⟩
  have O4:=ft.new w3 ks.length 3;have hal:=aa w3 (.cells (Array.replicate ks.length (.int .i64 0)) 3);have T4:=T3.next hal;have S4:=S3.next hal zl;have X4:=X3.trans (aM.of hal (by omega));generalize w3.alloc (.cells (Array.replicate ks.length (.int .i64 0)) 3)=w4 at *;clear hal T3 S3 X3 s0 s1 s2 s3 s4 s5 hmk hb3 z3 zA;generalize w3.heap.size=g at *
  go_loopw [38] (fun i wr=>∃ (j:Nat) (ts:List Int) (q:Int),j≤ks.length∧i = .int .i64 j∧Hid (ts.length=j)∧0≤q∧q≤200∧Hid (bp af ks [] (m+1) (d+1)=bp af (ks.drop j) ts q (d+1)) ∧
   aM t w wr∧kF wr t ca af.length ccap q∧ik wr w.heap.size 0 k v c a ks.length cap∧ft wr g (ts ++ List.replicate (ks.length - j) 0)) (fun i _=>ks.length - (intOf i).toNat)
  case atStart=>exact ⟨0,[],m+1,Hl _,rfl,rfl,by omega,hm1,rfl,X4,T4,S4,by simpa using O4⟩
  case round =>
   obtain ⟨j,ts,q,hj,rfl,HT,hq0,hq,HE,hX,hT,hS,hO⟩:=hrel;have hz:=hX.size;have hOl:=hO.lt;by_cases hlt:j<ks.length
   ·obtain ⟨b,off,ai,ci,rfl,hbl,sx,kx⟩:=(aO.next (hX.below hBt) (Hd _) hk).elem hlt;have hcr:=hc.next (hX.below hBt) (Hd _);obtain ⟨x0,x1,x2,x3,x4,x5⟩:=sx;have hal:=aa wr (.cells #[.int .i64 ks[j].k,.int .i64 ks[j].v.1,.int .i64 ks[j].v.2.1,.string ks[j].v.2.2,.int .i64 ks[j].c,.slice ai ks[j].ks.length ci] 27);have con:=ih ks[j] (Hm _) B t ca ccap ai ci q (d+1) _ (aO.next hal (by omega) kx) (hcr.next hal (by omega)) hBt (hT.next hal) hq0 hq (by omega) (by omega);go_wp2_with fail
    refine con.mono ?_;clear con;rintro e w5 ⟨rfl,hX5,hT5⟩;have X5:=(aM.of hal (t:=t) (by omega)).trans hX5;have hX5':=hX.trans X5;have O5:=hO.mz X5 (by omega);have S5:=hS.mz X5 (by omega) (by omega);generalize hty:aV af ks[j] q (d+1)=ty at *;have HY:Hid (aV af ks[j] q (d+1)=ty):=hty;obtain ⟨t1,e1,n1⟩:=ty;clear hty hX5 hal hT hS hO x0 x1 x2 x3 x4 x5 kx hcr;by_cases he:e1=0
    ·subst he;have hn1:=D2 (by rw [HY.out]:(aV af ks[j] q (d+1)).2.1=0);rw [HY.out] at hn1;have HN:Hid (n1≤200∧q<n1):=hn1;have hlen:j<(ts ++ List.replicate (ks.length - j) 0).length:=by have:=HT.out; simp; omega
     have cc:w5.cell? ⟨g,j,none⟩=some (.int .i64 ((ts ++ List.replicate (ks.length - j) 0).getD j 0)):=by rw [O5.c j hlen]; simp [List.getD,H4 hlen]
     generalize (ts ++ List.replicate (ks.length - j) 0).getD j 0=old at cc;have ff:=O5.f j;have O6:=O5.set j hlen t1;rw [xi ts ks.length j t1 HT.out hlt] at O6;have S6:=S5.CL g j (.int .i64 t1) (by omega);have T6:=hT5.CL g j (.int .i64 t1) (by omega);have X6:=hX5'.Bw g j (.int .i64 t1) (by omega) (by omega);clear hn1 O5 S5 hT5 hX5' X5 hlen;go_wp2
     go_roundw
     case rel=>exact ⟨j+1,ts ++ [t1],n1,by omega,by go_num,by have:=HT.out; show (ts ++ [t1]).length=j+1; simp [this],by have:=HN.out; omega,HN.out.1,by rw [HE.out,sM af ks ts q (d+1) j hlt (by rw [HY.out]),HY.out]; rfl,X6,T6,S6,O6⟩
     case measure=>simp [intOf]; omega
    ·have er:r=(0,e1,n1):=by
      rw [← HR.out];refine yK HW.out (ts:=ts) ?_ he;rw [HE.out,vB af ks ts q (d+1) j hlt (by rw [HY.out]; exact he),HY.out]
     subst er;have q':(e1 != 0)=true:=by simpa using he
     clear HR O5 S5;go_wp2
     exact Hf (v:=.tuple #[.int .i64 0,.int .i64 e1]) (by simp [results,Tryz.results95,go_sem]) rfl ⟨rfl,hX5',hT5⟩
   ·have ej:j=ks.length:=by omega
    subst ej;have hts:=HT.out;rw [Nat.sub_self,List.replicate_zero,Jc] at hO;have er:r=((dG af k v c ts).1,(dG af k v c ts).2,q):=by
     rw [← HR.out];refine xS HW.out ?_;rw [HE.out,vr af ks ts q (d+1) _ (Hd _)]
    have HTS:Hid (ts.length=ks.length):=hts;clear HR HE hts HT;obtain ⟨s0,s1,s2,s3,s4,s5⟩:=hS;simp only [Hu] at s1 s2 s3 s4 s5;by_cases k1:k=1
    ·subst k1;have e:dG af 1 v c ts=kM v:=by simp [dG]
     rw [e] at er;subst er;clear e;go_wp2_with fail
     refine (uP v _).mono ?_;rintro e w5 ⟨rfl,hb5⟩;have T5:=hT.next hb5;have X5:=hX.trans (aM.of hb5 (by omega));clear s0 s1 s2 s3 s4 s5;go_wp2
     exact Hf (v:=.tuple #[.int .i64 (kM v).1,.int .i64 (kM v).2]) (by simp [results,Tryz.results95,go_sem]) rfl ⟨rfl,X5,T5⟩
    have n1:(k == 1)=false:=by simpa using k1
    by_cases k2:k=2
    ·subst k2;have e:dG af 2 v c ts=j8 af c:=by simp [dG]
     rw [e] at er;subst er;clear e;have hcr:=hc.next (hX.below hBt) (Hd _);have p0:=ax hT.c0;have p4:=ax s4;haveI:Nonempty (du wr):=⟨⟨_,He _ _⟩⟩
     go_wp2_with fail
     refine aI (by kernel_rfl) (by kernel_rfl) ?_
     repeat (go_big_quiet_step (first | (go_at_call 129; exact cS (uY B ca ccap af c _ (hcr.next (du.ok _) (by omega))))))
     refine wpQuiet_nil ?_;rintro w5 ⟨⟨v5,hb5⟩,h5⟩;obtain rfl:w5=v5:=h5;have T5:=hT.next hb5;have X5:=hX.trans (aM.of hb5 (by omega));clear p0 p4 s0 s1 s2 s3 s4 s5;go_wp2
     exact Hf (v:=.tuple #[.int .i64 (j8 af c).1,.int .i64 (j8 af c).2]) (by simp [results,Tryz.results95,go_sem]) rfl ⟨rfl,X5,T5⟩
    have n2:(k == 2)=false:=by simpa using k2
    have e:dG af k v c ts=cM (dP k ts):=by simp [dG,k1,k2]
    rw [e] at er;clear e;have con:=rO k wr.heap.size (some ⟨g,0,none⟩) ks.length ts wr (Hd _) (hO.is (by rw [HTS.out]; unfold maxLen; omega)) (by omega) hk18 (by rw [HTS.out]; exact HL.out);rw [HTS.out] at con;generalize cM (dP k ts)=rr at *;subst er;go_wp2_with fail
    refine con.mono ?_;rintro e w5 ⟨rfl,hb5⟩;have T5:=hT.next hb5;have X5:=hX.trans (aM.of hb5 (by omega));clear con s0 s1 s2 s3 s4 s5;go_wp2
    exact Hf (v:=.tuple #[.int .i64 rr.1,.int .i64 rr.2]) (by simp [results,Tryz.results95,go_sem]) rfl ⟨rfl,X5,T5⟩
 ·have er:r=(0,e0,m+1):=by rw [← HR.out,← hw0,xL (by rw [hw0]; exact hw)]
  subst er;have q:(e0 != 0)=true:=by simpa using hw
  clear hw0 HR S3;go_wp2
  exact Hf (v:=.tuple #[.int .i64 0,.int .i64 e0]) (by simp [results,Tryz.results95,go_sem]) rfl ⟨rfl,X3,T3⟩
theorem uL (af:List Int):∀ x,oI af x:=Ex.ind fun k v c ks ih=>xM af k v c ks ih
theorem fc.congr {af:List Int} {lo:Nat} {u:Value} {f f':List Vl→Vl} {w:World} (h:fc af lo u f w) (e:∀ row,et af row→f row=f' row):fc af lo u f' w:=by
 obtain ⟨g,cb,eu,eg,hd⟩:=h;exact ⟨g,cb,eu,eg,fun row a cap W hf hs hW=>by rw [← e row hf]; exact hd row a cap W hf hs hW⟩
theorem nK {n:Nat} (h:n≤8) (w:World):(Instr.makeSlice 159 (.int .i64 n) (.int .i64 n)).run Tryz.prog w = .ok (.slice (some ⟨w.heap.size,0,none⟩) n n) (w.alloc (.cells (Array.replicate n Value.nilFunc) 156)):=by
 obtain rfl | rfl | rfl | rfl | rfl | rfl | rfl | rfl | rfl:n=0∨n=1∨n=2∨n=3∨n=4∨n=5∨n=6∨n=7∨n=8:=by omega
 all_goals kernel_rfl
structure rM (af:List Int) (K kb M:Nat) (W:World) (ks:List Ex) (j:Nat):Prop where
 lt:K<M∧kb<M∧K≠kb∧M≤W.heap.size
 box:W.cell? ⟨kb,0,none⟩=some (.slice (some ⟨K,0,none⟩) ks.length ks.length)
 room:∀ i,i<ks.length→(∃ u,W.cell? ⟨K,i,none⟩=some u)∧W.frozen? ⟨K,i,none⟩=false
 done:∀ i (h:i<ks.length),i<j→∃ u,W.cell? ⟨K,i,none⟩=some u∧fc af M u (fun row=>bq row ks[i]) W
theorem rM.next {af:List Int} {K kb M:Nat} {W w1:World} {ks:List Ex} {j:Nat} (h:rM af K kb M W ks j) (hb:Below W.heap.size W w1):rM af K kb M w1 ks j:=by
 obtain ⟨h1,h2,h3,h4⟩:=h;have z:=hb.size;refine ⟨⟨h1.1,h1.2.1,h1.2.2.1,by omega⟩,(hb.cell (p:=⟨kb,0,none⟩) (by show kb<_; omega)).trans h2,fun i hi=>?_,fun i hi hj=>?_⟩
 ·obtain ⟨⟨u,hu⟩,hf⟩:=h3 i hi;exact ⟨⟨u,(hb.cell (p:=⟨K,i,none⟩) (by show K<_; omega)).trans hu⟩,(hb.frozen (p:=⟨K,i,none⟩) (by show K<_; omega)).trans hf⟩
 ·obtain ⟨u,hu,ha⟩:=h4 i hi hj;exact ⟨u,(hb.cell (p:=⟨K,i,none⟩) (by show K<_; omega)).trans hu,ha.next (Since.of hb)⟩
theorem rM.store {af:List Int} {K kb M:Nat} {W:World} {ks:List Ex} {j:Nat} (h:rM af K kb M W ks j) (hj:j<ks.length) {u:Value} (ha:fc af M u (fun row=>bq row ks[j]) W):rM af K kb M (W.setCell ⟨K,j,none⟩ u) ks (j+1):=by
 obtain ⟨h1,h2,h3,h4⟩:=h;have hS:Since M W (W.setCell ⟨K,j,none⟩ u):=(Since.refl M W).set K j u (by omega);have same:(W.setCell ⟨K,j,none⟩ u).cell? ⟨K,j,none⟩=some u:=IN _ _ _ (by obtain ⟨⟨u',hu⟩,_⟩:=h3 j hj; rw [hu]; rfl);refine ⟨⟨h1.1,h1.2.1,h1.2.2.1,by simpa using h1.2.2.2⟩,?_,fun i hi=>?_,fun i hi hij=>?_⟩
 ·rw [Hq _ _ _ _ (by intro e; injection e with e; omega)]; exact h2
 ·obtain ⟨⟨u',hu⟩,hf⟩:=h3 i hi;refine ⟨?_,by rw [Io]; exact hf⟩;by_cases e:i=j
  ·subst e; exact ⟨_,same⟩
  ·exact ⟨u',by rw [Hq _ _ _ _ (by intro e; injection e with _ e; omega)]; exact hu⟩
 ·by_cases e:i=j
  ·subst e; exact ⟨u,same,ha.next hS⟩
  ·obtain ⟨u',hu,ha'⟩:=h4 i hi (by omega);exact ⟨u',by rw [Hq _ _ _ _ (by intro e; injection e with _ e; omega)]; exact hu,ha'.next hS⟩
theorem rM.kids {af:List Int} {K kb M lo:Nat} {W:World} {ks:List Ex} (h:rM af K kb M W ks ks.length) (h1:lo≤K) (h2:lo≤kb):iF af lo W kb ks:=by
 obtain ⟨l1,l2,_,l4⟩:=h;refine ⟨K,h2,by omega,h1,by omega,l2,fun i hi=>?_⟩;obtain ⟨u,hu,ha⟩:=l4 i hi hi;exact ⟨u,hu,ha.down (by omega)⟩
theorem rM.new {af:List Int} {w:World} {n:Nat} (ks:List Ex) (hn:n=ks.length) (T T':TypeId) {o:Obj} :
  rM af (w.heap.size+1) (w.heap.size+2) (w.heap.size+3) (((w.alloc o).alloc (.cells (Array.replicate n Value.nilFunc) T)).alloc (.cells #[.slice (some ⟨w.heap.size+1,0,none⟩) n n] T')) ks 0:=by
 subst hn;refine ⟨⟨by omega,by omega,by omega,by simp⟩,?_,fun i hi=>⟨⟨Value.nilFunc,?_⟩,?_⟩,fun i _ h=>absurd h (Iu _)⟩
 ·rw [Iv _ _ _ _ (by simp)]; rfl
 ·rw [World.cell?_alloc_past _ _ _ (by simp),Iv _ _ _ _ (by simp)];simp [hi]
 ·rw [World.frozen?_alloc_past _ _ _ (by simp)];exact IX _ _ _ _ (by simp)
theorem pe.down {lo lo':Nat} {u:Value} {f:Vl→Vl→Vl} {w:World} (h:pe lo u f w) (hl:lo'≤lo):pe lo' u f w:=by
 obtain ⟨g,cb,e,eg,hd⟩:=h;exact ⟨g,cb,e,eg,fun p q W hp hq hW=>hd p q W hp hq (hW.up hl)⟩
theorem iX (row:List Vl) (ks:List Ex) (i:Nat) (hi:i<ks.length):(mN row ks).getD i fV=bq row ks[i]:=by
 rw [gA];simp [List.getD,hi]
def nD (af:List Int) (x:Ex):Prop :=
 ∀ (B:Nat) (a:Option Addr) (cap:Nat) (w:World),aO B w a x.ks→B≤w.heap.size →
  Calls Tryz.prog 146 #[iY x.k x.v x.c a x.ks.length cap] w fun e w'=>∃ u,e = .returned u∧fc af w.heap.size u (fun row=>bq row x) w'∧Below w.heap.size w w'
theorem AK (af:List Int) (k:Int) (v:Vl) (c:Int) (ks:List Ex) (t:Int) (ht:fI af (.mk k v c ks)=some t) (ih:∀ x ∈ ks,nD af x):nD af (.mk k v c ks):=by
 obtain ⟨h1,h18,hl,ts,hts,hn⟩:=lP ht;intro B a cap w hk hB;simp only [Ex.k,Ex.v,Ex.c,Ex.ks] at hk ⊢;have hl3:ks.length≤8:=by have:=oM k; omega
 have HL:Hid (ks.length=dw k):=hl;have hmk:=nK hl3;have S0:=ik.new w k v c a ks.length cap 27;have HI:Hid (∀ x ∈ ks,nD af x):=ih;clear hl ih;obtain ⟨s0,s1,s2,s3,s4,s5⟩:=S0;simp only [Hu] at s1 s2 s3 s4 s5;have S1:ik (w.alloc (.cells #[.int .i64 k,.int .i64 v.1,.int .i64 v.2.1,.string v.2.2,.int .i64 c,.slice a ks.length cap] 27)) w.heap.size 0 k v c a ks.length cap:=⟨s0,s1,s2,s3,s4,s5⟩
 have F0:rM af (w.heap.size+1) (w.heap.size+2) (w.heap.size+3) (((w.alloc (.cells #[.int .i64 k,.int .i64 v.1,.int .i64 v.2.1,.string v.2.2,.int .i64 c,.slice a ks.length cap] 27)).alloc (.cells (Array.replicate ks.length Value.nilFunc) 156)).alloc (.cells #[.slice (some ⟨w.heap.size+1,0,none⟩) ks.length ks.length] 159)) ks 0:=rM.new ks rfl _ _
 have hA:Below w.heap.size w (((w.alloc (.cells #[.int .i64 k,.int .i64 v.1,.int .i64 v.2.1,.string v.2.2,.int .i64 c,.slice a ks.length cap] 27)).alloc (.cells (Array.replicate ks.length Value.nilFunc) 156)).alloc (.cells #[.slice (some ⟨w.heap.size+1,0,none⟩) ks.length ks.length] 159)):=(((He _ _).alloc (Hd _) _).alloc (by simp) _).alloc (by simp; omega) _
 have S3:ik (((w.alloc (.cells #[.int .i64 k,.int .i64 v.1,.int .i64 v.2.1,.string v.2.2,.int .i64 c,.slice a ks.length cap] 27)).alloc (.cells (Array.replicate ks.length Value.nilFunc) 156)).alloc (.cells #[.slice (some ⟨w.heap.size+1,0,none⟩) ks.length ks.length] 159)) w.heap.size 0 k v c a ks.length cap:=(S1.next ((He _ _).alloc (Hd _) _) (by simp)).next ((He _ _).alloc (Hd _) _) (by simp; omega);clear S1;go_enter Tryz.func146,Tryz.ntmps146;go_wp2_with fail
 generalize ((w.alloc (.cells #[.int .i64 k,.int .i64 v.1,.int .i64 v.2.1,.string v.2.2,.int .i64 c,.slice a ks.length cap] 27)).alloc (.cells (Array.replicate ks.length Value.nilFunc) 156)).alloc (.cells #[.slice (some ⟨w.heap.size+1,0,none⟩) ks.length ks.length] 159)=w3 at *;clear s0 s1 s2 s3 s4 s5 hmk;go_loopw [14] (fun i wr=>∃ j:Nat,j≤ks.length∧i = .int .i64 j∧rM af (w.heap.size+1) (w.heap.size+2) (w.heap.size+3) wr ks j∧ik wr w.heap.size 0 k v c a ks.length cap∧Below w.heap.size w wr) (fun i _=>ks.length - (intOf i).toNat)
 case atStart=>exact ⟨0,Hl _,rfl,F0,S3,hA⟩
 case round =>
  clear F0 S3 hA;obtain ⟨j,hj,rfl,F,S,hb⟩:=hrel;have hz:=hb.size;have hzF:=F.lt.2.2.2;by_cases hlt:j<ks.length
  ·obtain ⟨b,off,ai,ci,rfl,hbl,sx,kx⟩:=(aO.next hb hB hk).elem hlt;obtain ⟨x0,x1,x2,x3,x4,x5⟩:=sx;have hal:=aa wr (.cells #[.int .i64 ks[j].k,.int .i64 ks[j].v.1,.int .i64 ks[j].v.2.1,.string ks[j].v.2.2,.int .i64 ks[j].c,.slice ai ks[j].ks.length ci] 27)
   have hd:Below (wr.alloc (.cells #[.int .i64 ks[j].k,.int .i64 ks[j].v.1,.int .i64 ks[j].v.2.1,.string ks[j].v.2.2,.int .i64 ks[j].c,.slice ai ks[j].ks.length ci] 27)).heap.size (wr.alloc (.cells #[.int .i64 ks[j].k,.int .i64 ks[j].v.1,.int .i64 ks[j].v.2.1,.string ks[j].v.2.2,.int .i64 ks[j].c,.slice ai ks[j].ks.length ci] 27)) (wr.alloc (.cells #[.int .i64 ks[j].k,.int .i64 ks[j].v.1,.int .i64 ks[j].v.2.1,.string ks[j].v.2.2,.int .i64 ks[j].c,.slice ai ks[j].ks.length ci] 27)).drew:=(He _ _).drew
   have con:=HI.out ks[j] (Hm _) B ai ci (wr.alloc (.cells #[.int .i64 ks[j].k,.int .i64 ks[j].v.1,.int .i64 ks[j].v.2.1,.string ks[j].v.2.2,.int .i64 ks[j].c,.slice ai ks[j].ks.length ci] 27)).drew (aO.next (hal.trans (hd.mono hal.size)) (by omega) kx) (by have:=hal.size; have:=hd.size; omega);have Fk:=F.next hal;have bx:=Fk.box;obtain ⟨⟨uo,ro⟩,fo⟩:=Fk.room j hlt;have Sk:=ik.new wr ks[j].k ks[j].v ks[j].c ai ks[j].ks.length ci 27;obtain ⟨k0,k1,k2,k3,k4,k5⟩:=Sk;simp only [Hu] at k1 k2 k3 k4 k5;have hjz:(j:Int)<ks.length:=by omega
   go_wp2_with fail
   clear x0 x1 x2 x3 x4 x5 kx;have hal2:=hal;have zk:(wr.alloc (.cells #[.int .i64 ks[j].k,.int .i64 ks[j].v.1,.int .i64 ks[j].v.2.1,.string ks[j].v.2.2,.int .i64 ks[j].c,.slice ai ks[j].ks.length ci] 27)).heap.size=wr.heap.size+1:=by simp
   generalize wr.alloc (.cells #[.int .i64 ks[j].k,.int .i64 ks[j].v.1,.int .i64 ks[j].v.2.1,.string ks[j].v.2.2,.int .i64 ks[j].c,.slice ai ks[j].ks.length ci] 27)=wk at *;go_region_with (go_at_call 146; refine con.mono ?_; rintro e w1 ⟨u,rfl,hA1,hb1⟩; have F1:=(Fk.next hd).next hb1; have q1:=F1.box; obtain ⟨⟨un,q2⟩,q3⟩:=F1.room j hlt; obtain ⟨ug,ucb,eu⟩:∃ g cb,u = .func (.func g) #[] cb:=(by obtain ⟨g,cb,e,_⟩:=hA1; exact ⟨g,cb,e⟩); subst eu)
   all_goals (
    go_wp2_with fail
    go_roundw
    case rel =>
     refine ⟨j+1,by omega,by go_num,F1.store hlt (hA1.down (by show w.heap.size+3≤wk.drew.heap.size; have:=hd.size; omega)),((S.next hal2 (by omega)).next (hd.trans (hb1.mono hd.size)) (by omega)).CL _ _ _ (by omega),?_⟩;exact (chain (chain hb hal2) (hd.trans (hb1.mono hd.size))).setCell (p:=⟨w.heap.size+1,j,none⟩) (by show w.heap.size≤w.heap.size+1; omega) _
    case measure=>simp [intOf]; omega)
  ·have e:j=ks.length:=by omega
   subst e;obtain ⟨s0,s1,s2,s3,s4,s5⟩:=S;simp only [Hu] at s1 s2 s3 s4 s5;by_cases k1:k=1
   ·subst k1;go_wp2_with fail
    refine (zq af v wr).mono ?_;rintro e w1 ⟨u,rfl,hA1,hb1⟩;go_wp2_with fail
    go_ret;exact ⟨_,rfl,(hA1.down hz).congr (fun row _=>by rw [bq,kf,if_pos rfl]),chain hb hb1⟩
   have n1:(k == 1)=false:=by simpa using k1
   by_cases k2:k=2
   ·subst k2;unfold dG at hn;rw [if_neg (by decide),if_pos rfl] at hn;obtain ⟨q0,q1,_⟩:=xd hn;clear hn;go_wp2_with fail
    refine (yW af c wr q0 q1).mono ?_;rintro e w1 ⟨u,rfl,hA1,hb1⟩;go_wp2_with fail
    go_ret;exact ⟨_,rfl,(hA1.down hz).congr (fun row _=>by rw [bq,kf,if_neg (by decide),if_pos rfl]),chain hb hb1⟩
   have n2:(k == 2)=false:=by simpa using k2
   have KF:iF af w.heap.size wr (w.heap.size+2) ks:=F.kids (by omega) (by omega);by_cases k3:k=3
   ·subst k3;have l1:ks.length=1:=HL.out;have HK:Hid (iF af w.heap.size wr (w.heap.size+2) ks):=KF;have H1:Hid (ks.length=1):=l1;clear KF l1;go_wp2_with fail
    go_ret;refine ⟨_,rfl,⟨171,_,rfl,enters_of Tryz.func171 (by kernel_rfl) rfl,?_⟩,hb⟩;intro row a cap W hf hs hW;have e:bq row (.mk 3 v c ks)=jK (bq row (ks[0]'(by rw [H1.out]; omega))):=by rw [bq,kf,if_neg (by decide),if_neg (by decide),if_pos rfl,iX row ks 0 (by rw [H1.out]; omega)]
    show Calls _ _ _ _ fun e w'=>e = .returned (fg (bq row (.mk 3 v c ks)))∧_
    rw [e];exact xN af w.heap.size (w.heap.size+2) ks a row cap W (HK.out.next hW) (by rw [H1.out]; omega) hf hs
   have n3:(k == 3)=false:=by simpa using k3
   by_cases k16:k=16
   ·subst k16;have l1:ks.length=1:=HL.out;have HK:Hid (iF af w.heap.size wr (w.heap.size+2) ks):=KF;have H1:Hid (ks.length=1):=l1;clear KF l1;go_wp2_with fail
    go_ret;refine ⟨_,rfl,⟨173,_,rfl,enters_of Tryz.func173 (by kernel_rfl) rfl,?_⟩,hb⟩;intro row a cap W hf hs hW;have e:bq row (.mk 16 v c ks)=kV (some ((bq row (ks[0]'(by rw [H1.out]; omega))).1 == 1)):=by rw [bq,kf,if_neg (by decide),if_neg (by decide),if_neg (by decide),if_pos rfl,iX row ks 0 (by rw [H1.out]; omega)]
    show Calls _ _ _ _ fun e w'=>e = .returned (fg (bq row (.mk 16 v c ks)))∧_
    rw [e];exact zv af w.heap.size (w.heap.size+2) ks a row cap W (HK.out.next hW) (by rw [H1.out]; omega) hf hs
   have n16:(k == 16)=false:=by simpa using k16
   by_cases k17:k=17
   ·subst k17;have l3:ks.length=3:=HL.out;have m0:0<ks.length:=by omega
    have m1:1<ks.length:=by omega
    have m2:2<ks.length:=by omega
    have bx:=F.box;obtain ⟨u0,c0,A0⟩:=F.done 0 m0 m0;obtain ⟨u1,c1,A1⟩:=F.done 1 m1 m1;obtain ⟨u2,c2,A2⟩:=F.done 2 m2 m2;have A0:=A0.down (show w.heap.size≤w.heap.size+3 by omega);have A1:=A1.down (show w.heap.size≤w.heap.size+3 by omega);have A2:=A2.down (show w.heap.size≤w.heap.size+3 by omega);obtain ⟨g0,cb0,rfl⟩:∃ g cb,u0 = .func (.func g) #[] cb:=by obtain ⟨g,cb,e,_⟩:=A0; exact ⟨g,cb,e⟩
    obtain ⟨g1,cb1,rfl⟩:∃ g cb,u1 = .func (.func g) #[] cb:=by obtain ⟨g,cb,e,_⟩:=A1; exact ⟨g,cb,e⟩
    obtain ⟨g2,cb2,rfl⟩:∃ g cb,u2 = .func (.func g) #[] cb:=by obtain ⟨g,cb,e,_⟩:=A2; exact ⟨g,cb,e⟩
    have p0:=ax bx;have p1:=ax c0;have p2:=ax c1;have p3:=ax c2;have z0:(0:Int)<(ks.length:Int):=by omega
    have z1:(1:Int)<(ks.length:Int):=by omega
    have z2:(2:Int)<(ks.length:Int):=by omega
    have H3:Hid (ks.length=3):=l3;clear l3 KF;go_wp2_with fail
    have hB0:Below wr.heap.size wr wr.drew:=(He _ _).drew;refine ij (by kernel_rfl) ?_;refine aN (some 45) (i:=0) (v:=.slice (some ⟨w.heap.size+1,0,none⟩) ks.length ks.length) rfl rfl (by kernel_rfl) (by kernel_rfl) (by kernel_rfl) (fun _ _ _ h=>h) (Or.inl ⟨rfl,fun n=>?_⟩) hB0 ?_
    ·go_simp
    simp only [Act.put,pA,pB,pC];refine aN (some 46) (i:=1) (v:=.pointer (some ⟨w.heap.size+1,0,none⟩)) rfl rfl (by kernel_rfl) (by kernel_rfl) (by kernel_rfl) (fun _ _ _ h=>h) (Or.inl ⟨rfl,fun n=>?_⟩) hB0 ?_
    ·go_simp
    simp only [Act.put,pA,pB,pC];refine aN (some 47) (i:=2) (v:=.func (.func g0) #[] cb0) rfl rfl (by kernel_rfl) (by kernel_rfl) (by kernel_rfl) (fun _ _ _ h=>h) (Or.inl ⟨rfl,fun n=>?_⟩) hB0 ?_
    ·go_simp
    simp only [Act.put,pA,pB,pC];refine aN (some 48) (i:=3) (v:=.slice (some ⟨w.heap.size+1,0,none⟩) ks.length ks.length) rfl rfl (by kernel_rfl) (by kernel_rfl) (by kernel_rfl) (fun _ _ _ h=>h) (Or.inl ⟨rfl,fun n=>?_⟩) hB0 ?_
    ·go_simp
    simp only [Act.put,pA,pB,pC];refine aN (some 49) (i:=4) (v:=.pointer (some ⟨w.heap.size+1,1,none⟩)) rfl rfl (by kernel_rfl) (by kernel_rfl) (by kernel_rfl) (fun _ _ _ h=>h) (Or.inl ⟨rfl,fun n=>?_⟩) hB0 ?_
    ·go_simp
    simp only [Act.put,pA,pB,pC];refine aN (some 50) (i:=5) (v:=.func (.func g1) #[] cb1) rfl rfl (by kernel_rfl) (by kernel_rfl) (by kernel_rfl) (fun _ _ _ h=>h) (Or.inl ⟨rfl,fun n=>?_⟩) hB0 ?_
    ·go_simp
    simp only [Act.put,pA,pB,pC];refine aN (some 51) (i:=6) (v:=.slice (some ⟨w.heap.size+1,0,none⟩) ks.length ks.length) rfl rfl (by kernel_rfl) (by kernel_rfl) (by kernel_rfl) (fun _ _ _ h=>h) (Or.inl ⟨rfl,fun n=>?_⟩) hB0 ?_
    ·go_simp
    simp only [Act.put,pA,pB,pC];refine aN (some 52) (i:=7) (v:=.pointer (some ⟨w.heap.size+1,2,none⟩)) rfl rfl (by kernel_rfl) (by kernel_rfl) (by kernel_rfl) (fun _ _ _ h=>h) (Or.inl ⟨rfl,fun n=>?_⟩) hB0 ?_
    ·go_simp
    simp only [Act.put,pA,pB,pC];refine aN (some 53) (i:=8) (v:=.func (.func g2) #[] cb2) rfl rfl (by kernel_rfl) (by kernel_rfl) (by kernel_rfl) (fun _ _ _ h=>h) (Or.inl ⟨rfl,fun n=>?_⟩) hB0 ?_
    ·go_simp
    simp only [Act.put,pA,pB,pC];clear p0 p1 p2 p3;refine fh (rs:=[9]) (by kernel_rfl) (by simp) ?_;intro w5 hb5 i hi;obtain rfl:i=9:=by simpa using hi
    clear hi;have D5:=hB0.trans (hb5.mono hB0.size);refine wpOp_step rfl (fun K hK=>?_);go_simp;refine (xQ af w.heap.size _ _ _ _ _ _ w5 (by have:=D5.size; omega) (A0.next (Since.of D5)) (A1.next (Since.of D5)) (A2.next (Since.of D5))).mono ?_;rintro e w6 ⟨u,rfl,hA6,hb6⟩;have D6:=D5.trans (hb6.mono D5.size);refine hK _ _ ⟨D6,?_⟩;clear hK K;refine fh (rs:=[10]) (by kernel_rfl) (by simp) ?_;intro w7 hb7 i hi;obtain rfl:i=10:=by simpa using hi
    clear hi;have D7:=D6.trans (hb7.mono D6.size);refine wpOp_step rfl (fun K hK=>?_);go_simp;refine hK _ _ ⟨D7,?_⟩;clear hK K;refine lh (by kernel_rfl) ?_;intro w8 hb8;have D8:=D7.trans (hb8.mono D7.size);go_wp2_with fail
    go_ret;refine ⟨_,rfl,(hA6.next (Since.of (chain hb7 hb8))).congr (fun row _=>?_),chain hb D8⟩;rw [bq,kf,if_neg k1,if_neg k2,if_neg k3,if_neg k16,if_pos (show (17:Int)=17 from rfl),iX row ks 0 m0,iX row ks 1 m1,iX row ks 2 m2]
   have n17:(k == 17)=false:=by simpa using k17
   have l2:ks.length=2:=by rw [HL.out]; unfold dw; rw [if_neg (by omega),if_neg (by omega),if_neg k17]
   have H2:Hid (ks.length=2):=l2;have HK:Hid (iF af w.heap.size wr (w.heap.size+2) ks):=KF;clear l2 KF;go_wp2_with fail
   refine (AN k (by omega) (by omega) wr).mono ?_;rintro e w1 ⟨u,rfl,hF,hb1⟩;obtain ⟨g0,cb0,rfl⟩:∃ g cb,u = .func (.func g) #[] cb:=by obtain ⟨g,cb,e,_⟩:=hF; exact ⟨g,cb,e⟩
   have hal:=aa w1 (.cells #[.func (.func g0) #[] cb0] 220);have hb1':=chain hb hb1;go_wp2_with fail
   go_ret;refine ⟨_,rfl,⟨177,_,rfl,enters_of Tryz.func177 (by kernel_rfl) rfl,?_⟩,chain hb1' hal⟩;intro row a cap W hf hs hW;have m0:0<ks.length:=by rw [H2.out]; omega
   have m1:1<ks.length:=by rw [H2.out]; omega
   have e:bq row (.mk k v c ks)=nv k (bq row ks[0]) (bq row ks[1]):=by rw [bq,kf,if_neg k1,if_neg k2,if_neg k3,if_neg k16,if_neg k17,iX row ks 0 m0,iX row ks 1 m1]
   show Calls _ _ _ _ fun e w'=>e = .returned (fg (bq row (.mk k v c ks)))∧_
   rw [e];have zz:=hb1'.size;exact zo af w.heap.size (w.heap.size+2) w1.heap.size k ks a row cap W _ ((hW.cell (p:=⟨w1.heap.size,0,none⟩) zz (by simp)).trans (by simp)) (((hF.down (by omega)).next (Since.of hal)).next hW) (((HK.out.next (Since.of hb1)).next (Since.of hal)).next hW) m1 hf hs
    (rf hf _ _ (jO hts 0 m0)).1 (rf hf _ _ (jO hts 1 m1)).1
theorem zm (af:List Int):∀ x t,fI af x=some t→nD af x:=by
 refine Ex.ind fun k v c ks ih t ht=>AK af k v c ks t ht fun x hx=>?_
 obtain ⟨_,_,_,ts,hts,_⟩:=lP ht;obtain ⟨i,hi,rfl⟩:=List.getElem_of_mem hx;exact ih _ hx _ (jO hts i hi)
theorem tX (af:List Int):∀ (x:Ex) (n d:Int),¬ (aV af x n d).2.1=0→(aV af x n d).1=0
 | .mk k v c ks,n,d=>by
  rw [aV]
  split
  ·intro _; rfl
  split
  ·intro _; rfl
  ·generalize (bp af ks [] (n+1) (d+1)).2.1=ts
   unfold dG
   split
   ·unfold kM; split <;> simp
   split
   ·unfold j8; split <;> simp
   ·cases dP k ts <;> simp [cM]
theorem vL {af:List Int} {x:Ex} (h1:af.length≤16) (h2:fB af=true):ak af x=((aV af x 0 1).1,(aV af x 0 1).2.1):=by
 unfold ak;rw [if_neg (by omega),if_neg (by simp [h2])];by_cases h:(aV af x 0 1).2.1=0
 ·rw [if_pos h,h]
 ·rw [if_neg h,tX af x 0 1 h]
theorem yI (l:List Int) (k:Nat) (h:l.length≤k):fB (l.drop k)=true:=by rw [Ig h]; rfl
theorem tF (l:List Int) (k:Nat) (h:k<l.length) (e:l[k]<1∨4<l[k]):fB (l.drop k)=false:=by
 rw [Hk h,fB,List.all_cons];have:(decide (1≤l[k]) && decide (l[k]≤4))=false:=by
  rcases e with e | e
  ·have:decide (1≤l[k])=false:=decide_eq_false (by omega);rw [this]; rfl
  ·have:decide (l[k]≤4)=false:=decide_eq_false (by omega);rw [this,Bool.and_false]
 rw [this,Bool.false_and]
theorem vz (l:List Int) (k:Nat) (h:k<l.length) (e:¬ l[k]<1) (e':¬ 4<l[k]):fB (l.drop k)=fB (l.drop (k+1)):=by
 rw [Hk h,fB,List.all_cons];have:(decide (1≤l[k]) && decide (l[k]≤4))=true:=by
  rw [decide_eq_true (by omega),decide_eq_true (by omega)]; rfl
 rw [this,Bool.true_and];rfl
theorem ln (af:List Int) (x:Ex) (ca:Option Addr) (ccap:Nat) (a:Option Addr) (cap:Nat) (w:World) (hk:aO w.heap.size w a x.ks) (hc:bo w.heap.size w ca af) :
  Calls Tryz.prog 60 #[.slice ca af.length ccap,iY x.k x.v x.c a x.ks.length cap] w fun e w'=>e = .returned (.tuple #[.int .i64 (ak af x).1,.int .i64 (ak af x).2])∧Below w.heap.size w w':=by
 have hl:=hc.1;unfold maxLen at hl;generalize hr:ak af x=r;have HR:Hid (ak af x=r):=hr;clear hr;by_cases h16:16<af.length
 ·have er:r=(0,5):=by rw [← HR.out,ak,if_pos h16]
  subst er;clear HR;go_enter Tryz.func60,Tryz.ntmps60;go_wp2
  exact Hf (v:=.tuple #[.int .i64 0,.int .i64 5]) (by simp [results,Tryz.results60,go_sem]) rfl ⟨rfl,(He _ _).alloc (Hd _) _⟩
 go_enter Tryz.func60,Tryz.ntmps60;go_wp2_with fail
 have S0:=ik.new w x.k x.v x.c a x.ks.length cap 27;have hal:=aa w (.cells (ji x a cap) 27);have z0:w.heap.size<(w.alloc (.cells (ji x a cap) 27)).heap.size:=by simp
 generalize w.alloc (.cells (ji x a cap) 27)=w0 at *;go_loopw [14] (fun i wr=>∃ j:Nat,j≤af.length∧i = .int .i64 j∧Hid (fB af=fB (af.drop j))∧wr=w0) (fun i _=>af.length - (intOf i).toNat)
 case atStart=>exact ⟨0,Hl _,rfl,rfl,rfl⟩
 case round =>
  obtain ⟨j,hj,rfl,HE,rfl⟩:=hrel;by_cases hlt:j<af.length
  ·obtain ⟨b,off,rfl,hbl,c⟩:=(hc.next hal (Hd _)).elem hlt;by_cases g1:af[j]<1
   ·have er:r=(0,1):=by
     rw [← HR.out,ak,if_neg h16,HE.out,tF af j hlt (.inl g1),if_pos rfl]
    subst er;clear HR HE;go_wp2
    exact Hf (v:=.tuple #[.int .i64 0,.int .i64 1]) (by simp [results,Tryz.results60,go_sem]) rfl ⟨rfl,hal⟩
   by_cases g2:4<af[j]
   ·have er:r=(0,1):=by
     rw [← HR.out,ak,if_neg h16,HE.out,tF af j hlt (.inr g2),if_pos rfl]
    subst er;clear HR HE;go_wp2
    exact Hf (v:=.tuple #[.int .i64 0,.int .i64 1]) (by simp [results,Tryz.results60,go_sem]) rfl ⟨rfl,hal⟩
   have HC:Hid (fB (af.drop j)=fB (af.drop (j+1))):=vz af j hlt g1 g2;go_wp2
   go_roundw
   case rel=>exact ⟨j+1,by omega,by go_num,HE.out.trans HC.out,trivial⟩
   case measure=>simp [intOf]; omega
  ·have hcb:fB af=true:=by rw [HE.out,yI af j (by omega)]
   have er:r=((aV af x 0 1).1,(aV af x 0 1).2.1):=by rw [← HR.out,vL (by omega) hcb]
   have T0:kF (wr.alloc (.cells #[.slice ca af.length ccap,.int .i64 0] 142)) wr.heap.size ca af.length ccap 0:=⟨by simp,by simp,by simp,by simp⟩
   have hal2:=aa wr (.cells #[.slice ca af.length ccap,.int .i64 0] 142);have con:=uL af x w.heap.size wr.heap.size ca ccap a cap 0 1 _ (aO.next (chain hal hal2) (Hd _) hk) (hc.next (chain hal hal2) (Hd _)) hal.size T0 (by omega) (by omega) (by omega) (by omega);generalize aV af x 0 1=ty at *;subst er;clear HR HE hcb;obtain ⟨s0,s1,s2,s3,s4,s5⟩:=S0;simp only [Hu] at s1 s2 s3 s4 s5;go_wp2_with fail
   refine con.mono ?_;rintro e w5 ⟨rfl,hX,_⟩;have hb5:=(chain hal hal2).trans (hX.below hal.size);clear con s0 s1 s2 s3 s4 s5 hX T0 hal2;go_wp2
   exact Hf (v:=.tuple #[.int .i64 ty.1,.int .i64 ty.2.1]) (by simp [results,Tryz.results60,go_sem]) rfl ⟨rfl,hb5⟩
def bI (f:Int→Int):List Zp→List Zp
 | []=>[]
 | x :: r=>if f x.2=0 then bI f r else (bU x.1,f x.2) :: bI f r
theorem pq (f:Int→Int) (l t:List Zp):bI f (l ++ t)=bI f l ++ bI f t:=by
 induction l with
 | nil=>rfl
 | cons x r ih =>
  rw [Iz,bI,bI,ih]
  split <;> simp
theorem mR (f:Int→Int) (l:List Zp) (k:Nat) (h:k<l.length):bI f (l.take (k+1))=bI f (l.take k) ++ (if f l[k].2=0 then [] else [(bU l[k].1,f l[k].2)]):=by
 rw [Ht h,pq];simp [bI]
theorem nG (f:Int→Int) (l:List Zp):(bI f l).length≤l.length:=by
 induction l with
 | nil=>simp [bI]
 | cons x r ih =>
  rw [bI]
  split <;> simp <;> omega
def ET (g:Nat) (cb:Array Value) (f:Int→Int) (w:World):Prop :=
 ∀ (x:Int) (W:World),ke x=true→Below w.heap.size w W→Calls Tryz.prog g (#[.int .i64 x] ++ cb) W fun e w'=>e = .returned (.int .i64 (f x))∧Below W.heap.size W w'
theorem tT (g:Nat) (cb:Array Value) (f:Int→Int) (a:Option Addr) (cap:Nat) (l:List Zp) (w:World) (h:bP w a l)
  (eg:∀ args w,(callFunc g args).run Tryz.prog w = .ok (.enter g args) w) (hm:ET g cb f w) (hl:l.length≤200000) (hr:∀ x ∈ l,x.1.length≤8) (hw:∀ x ∈ l,ke x.2=true) :
  Calls Tryz.prog 46 #[.slice a l.length cap,.func (.func g) #[] cb] w fun e w'=>∃ v,e = .returned v∧fN w.heap.size w' v (bI f l)∧Below w.heap.size w w':=by
 obtain ⟨i0,hi,hj0,hj1,hj2⟩:=info_parts Tryz.i5;go_enter Tryz.func46,Tryz.ntmps46;go_wp2_with fail
 go_loopw [5,11] (fun v i wr=>∃ k:Nat,k≤l.length∧i = .int .i64 k∧fN w.heap.size wr v (bI f (l.take k))∧Below w.heap.size w wr) (fun _ i _=>l.length - (intOf i).toNat)
 case atStart=>exact ⟨0,Hl _,rfl,⟨[],by simpa [bI] using Iq _ _ _ _,by simp [bI,rQ]⟩,He _ _⟩
 case round =>
  obtain ⟨k,hk,rfl,HO,hb⟩:=hrel;have hz:=hb.size;by_cases hlt:k<l.length
  ·obtain ⟨b,off,rfl,hbl,c1,ar,cr,c0,sr⟩:=(h.next hb).elem hlt;have hin:=hw l[k] (Hm hlt);have h8:=hr l[k] (Hm hlt);have HI:Hid (ke l[k].2=true):=hin;have H8:Hid (l[k].1.length≤8):=h8;clear hin h8;have hlen:=nG f (l.take k);simp only [Ij] at hlen;by_cases h0:f l[k].2=0
   ·have H0:Hid (f l[k].2=0):=h0;clear h0;go_wp2_with (go_at_fn g; refine (hm _ _ HI.out (hb.alloc hz _)).mono ?_; rintro e w1 ⟨rfl,hb1⟩; rw [H0.out])
    go_roundw
    case rel=>exact ⟨k+1,by omega,by go_num,by rw [mR f l k hlt,if_pos H0.out,Jc]; exact (HO.next ((He _ _).alloc (Hd _) _)).next hb1,kz hb hb1⟩
    case measure=>simp [intOf]; omega
   ·have H0:Hid (¬ f l[k].2=0):=h0;have n0:(f l[k].2 != 0)=true:=by simpa using h0
    clear h0;obtain ⟨xs,ho,he⟩:=HO;go_wp2_with (go_at_fn g; refine (hm _ _ HI.out (hb.alloc hz _)).mono ?_; rintro e w1 ⟨rfl,hb1⟩; have q0:w1.cell? ⟨wr.heap.size,0,none⟩=some (.slice ar l[k].1.length cr):=(hb1.cell (p:=⟨wr.heap.size,0,none⟩) (by simp)).trans (by simp))
    have hb1':=kz hb hb1;have hz1:=hb1'.size;have s1:=(sr.next ((He _ _).alloc (Hd _) _)).next hb1;have o1:=bg (bg ho ((He _ _).alloc (Hd _) _)) hb1;have e1:=(he.next ((He _ _).alloc (Hd _) _)).next hb1;refine (uV _ _ _ _ s1 H8.out).mono ?_;rintro e w2 ⟨rfl,⟨s2,t2⟩,hb2⟩;have o2:=bg o1 hb2;have e2:=e1.next hb2;have hz2':=hb2.size;clear o1 e1 ho he s1;have bl:(bU l[k].1).length=l[k].1.length:=by simp [bU]
    have ss:=(s2.next ((He _ _).alloc (Hd _) (.cells #[.slice (some ⟨w1.heap.size,0,none⟩) l[k].1.length l[k].1.length,.int .i64 (f l[k].2)] 63)))
    have st:=(t2.next ((He _ _).alloc (Hd _) (.cells #[.slice (some ⟨w1.heap.size,0,none⟩) l[k].1.length l[k].1.length,.int .i64 (f l[k].2)] 63)))
    have eo:=e2.next ((He _ _).alloc (Hd _) (.cells #[.slice (some ⟨w1.heap.size,0,none⟩) l[k].1.length l[k].1.length,.int .i64 (f l[k].2)] 63));go_wp2_with (at_builtin; (refine IK _ rfl _ _ 37 rfl w.heap.size 63 i0 _ 2 32 Tryz.underlying37 hi hj0 hj1 hj2 rfl (by decide) _ _ _ rfl (o2.alloc _) ⟨w2.heap.size,0,none⟩ 1 1 [.slice (some ⟨w1.heap.size,0,none⟩) l[k].1.length l[k].1.length,.int .i64 (f l[k].2)] rfl rfl ?c1 ?c2 ?c3 ?c4 ?c5 ?_))
    case c1 =>
     intro j u hj
     match j,hj with
     | 0,hj=>simp at hj; subst hj; simp [Addr.add]
     | 1,hj=>simp at hj; subst hj; simp [Addr.add]
    case c2=>intro u hu; simp at hu; rcases hu with rfl | rfl <;> rfl
    case c3=>unfold maxLen; omega
    case c4=>omega
    case c5=>simp; omega
    intro v' w3 ho3 hg3 _;have R:=CJ (o2.alloc _) eo ss st (by rw [bl]; exact ho3) hg3;have hb3:Below w.heap.size w w3:=((fL hb1' hb2).alloc (by omega) _).grown hg3 (by simp; omega) (fun q hq=>((o2.alloc (.cells #[.slice (some ⟨w1.heap.size,0,none⟩) l[k].1.length l[k].1.length,.int .i64 (f l[k].2)] 63)).lt q hq).1);clear ho3 hg3 o2 e2 eo ss st s2 t2;go_wp2
    go_roundw
    case rel=>exact ⟨k+1,by omega,by go_num,by rw [mR f l k hlt,if_neg H0.out]; exact R,hb3⟩
    case measure=>simp [intOf]; omega
  ·have e:k=l.length:=by omega
   subst e;rw [Ib] at HO;obtain ⟨av,cv,rfl,_⟩:=HO.zs;go_wp2
   go_ret;exact ⟨_,rfl,HO,hb⟩
end Go.Proofs.YtjebpkhkjkjphaaGreat
namespace Go.Proofs.YtjebpkhkjkjphaaGreat
set_option maxRecDepth 100000
set_option maxHeartbeats 16000000
theorem fK (x y z:Vl) (h:dg x y≤0) (j:dg y z≤0):dg x z≤0:=uZ _ _ _ _ _ _ _ _ _ h j
theorem bY:∀ a b c:List Vl,aL a b≤0→aL b c≤0→aL a c≤0
 | [],_,[]=>by simp [aL]
 | [],_,_ :: _=>by simp [aL]
 | _ :: _,[],_=>by simp [aL]
 | _ :: _,_ :: _,[]=>by simp [aL]
 | x :: r,y :: t,z :: u=>by
  have ih:=bY r t u
  have t1:=fK x y z
  have t2:=fK y x z
  have t3:=fK z y x
  have t4:=fK x z y
  have t5:=fK y z x
  have t6:=fK z x y
  have n1:=lB x y
  have n2:=lB y z
  have n3:=lB x z
  unfold aL
  split <;> split <;> split <;> intro h1 h2 <;> first | exact ih h1 h2 | omega
theorem qt (a:List Vl):aL a a=0:=by have:=aX a a; omega
theorem cW {a b c:List Vl} (h:aL a b<0) (k:aL b c≤0):aL a c<0:=by
 have t:=bY b c a;have n1:=aX a b;have n2:=aX a c;omega
theorem vj {a b c:List Vl} (h:aL a b≤0) (k:aL b c<0):aL a c<0:=by
 have t:=bY c a b;have n1:=aX b c;have n2:=aX a c;omega
theorem jT {a b:List Vl} (h:aL a b=0) (c:List Vl):aL a c=aL b c:=by
 have t1:=bY a b c;have t2:=bY b a c;have t3:=bY c a b;have t4:=bY c b a;have n1:=aX a b;have n2:=aX a c;have n3:=aX b c;have b1:=ry a c;have b2:=ry b c;omega
theorem vh {a b:List Vl} (h:aL a b=0) (c:List Vl):aL c a=aL c b:=by
 have:=jT h c;have n2:=aX a c;have n3:=aX b c;omega
theorem ub (k n k' n':Int) (s s':ByteArray):dE k (di k n) (fl k s) k' n' s'=dE k n s k' n' s':=by
 unfold dE di fl;by_cases h:k=k'
 ·subst h;by_cases h2:k=2∨k=3
  ·simp [h2]
  ·by_cases h4:k=4
   ·simp [h4]
   ·simp [h2,h4]
 ·simp [h]
theorem xR (x y:Vl):dg (bE x) y=dg x y:=ub _ _ _ _ _ _
theorem dJ:∀ a b:List Vl,aL (bU a) b=aL a b
 | [],[]=>rfl
 | [],_ :: _=>rfl
 | _ :: _,[]=>rfl
 | x :: r,y :: t=>by
  have ih:=dJ r t
  show (if dg (bE x) y=0 then aL (bU r) t else dg (bE x) y)=_
  rw [xR,ih]; rfl
theorem je (a b:List Vl):aL a (bU b)=aL a b:=by
 have:=dJ b a;have n1:=aX a b;have n2:=aX a (bU b);omega
theorem toList_inj {s t:ByteArray} (h:s.toList=t.toList):s=t:=by
 rw [ByteArray.toList_eq,ByteArray.toList_eq] at h;rcases s with ⟨⟨s⟩⟩
 rcases t with ⟨⟨t⟩⟩
 simpa using h
theorem Aw {x y:Vl} (h:dg x y=0):bE x=bE y:=by
 unfold dg dE at h;unfold bE di fl;by_cases e:x.1=y.1
 ·simp only [e,ne_eq,not_true,if_false] at h ⊢;by_cases h2:y.1=2∨y.1=3
  ·simp only [h2,if_true] at h ⊢;rw [pT] at h;have h4:¬ y.1=4:=by omega
   simp [h,h4]
  ·by_cases h4:y.1=4
   ·simp [h4] at h;rw [yM] at h;simp [h2,toList_inj h]
   ·simp [h2,h4]
 ·simp only [e,ne_eq,not_false_iff,if_true] at h;rw [pT] at h;exact absurd h e
theorem sE:∀ {a b:List Vl},aL a b=0→bU a=bU b
 | [],[],_=>rfl
 | [],_ :: _,h=>by simp [aL] at h
 | _ :: _,[],h=>by simp [aL] at h
 | x :: r,y :: t,h=>by
  unfold aL at h
  by_cases e:dg x y=0
  ·rw [if_pos e] at h
   show bE x :: bU r=bE y :: bU t
   rw [Aw e,sE h]
  ·rw [if_neg e] at h
   exact absurd h e
theorem vo (x:Vl):bE (bE x)=bE x:=by
 unfold bE di fl;by_cases h:x.1=2∨x.1=3 <;> by_cases h4:x.1=4 <;> simp [h,h4]
theorem iU (l:List Vl):bU (bU l)=bU l:=by
 simp [bU,vo]
def wt:List Zp→List Vl→Int
 | [],_=>0
 | x :: r,q=>(if aL x.1 q=0 then x.2 else 0)+wt r q
theorem iu (l t:List Zp) (q:List Vl):wt (l ++ t) q=wt l q+wt t q:=by
 induction l with
 | nil=>simp [wt]
 | cons x r ih=>rw [Iz,wt,wt,ih]; omega
theorem Dw {l t:List Zp} (h:l.Perm t) (q:List Vl):wt l q=wt t q:=by
 induction h with
 | nil=>rfl
 | cons x _ ih=>rw [wt,wt,ih]
 | swap x y l=>simp only [wt]; omega
 | trans _ _ h1 h2=>exact h1.trans h2
theorem xo {l:List Zp} {q:List Vl} (h:∀ x ∈ l,¬ aL x.1 q=0):wt l q=0:=by
 induction l with
 | nil=>rfl
 | cons x r ih =>
  rw [wt,if_neg (h x (by simp)),ih (fun y hy=>h y (by simp [hy]))];rfl
theorem Cu {q q':List Vl} (h:aL q q'=0) (l:List Zp):wt l q=wt l q':=by
 induction l with
 | nil=>rfl
 | cons x r ih=>rw [wt,wt,ih,vh h]
def gd (z:List Zp):Prop:=z.Pairwise fun x y=>aL x.1 y.1<0
structure iK (z:List Zp):Prop where
 j7:gd z
 ne:∀ x ∈ z,x.2≠0
 bare:∀ x ∈ z,bU x.1=x.1
theorem iK.tail {x:Zp} {r:List Zp} (h:iK (x :: r)):iK r:=⟨(List.pairwise_cons.1 h.j7).2,fun y hy=>h.ne y (by simp [hy]),fun y hy=>h.bare y (by simp [hy])⟩
theorem kQ {x:Zp} {r:List Zp} (h:gd (x :: r)):wt (x :: r) x.1=x.2:=by
 rw [wt,if_pos (qt _),xo]
 ·omega
 ·intro y hy;have:=(List.pairwise_cons.1 h).1 y hy;have n:=aX x.1 y.1;omega
theorem nY {x:Zp} {t:List Zp} (_h:gd t) (hx:∀ y ∈ t,aL x.1 y.1<0):wt t x.1=0 :=
 xo fun y hy=>by have:=hx y hy; have:=aX x.1 y.1; omega
theorem oY:∀ (z z':List Zp),iK z→iK z'→(∀ q,wt z q=wt z' q)→z=z'
 | [],[],_,_,_=>rfl
 | [],y :: t,_,h',e=>by
  have:=e y.1
  rw [kQ h'.j7] at this
  exact absurd this.symm (h'.ne y (by simp))
 | x :: r,[],h,_,e=>by
  have:=e x.1
  rw [kQ h.j7] at this
  exact absurd this (h.ne x (by simp))
 | x :: r,y :: t,h,h',e=>by
  have p:=List.pairwise_cons.1 h.j7
  have p':=List.pairwise_cons.1 h'.j7
  have ex:=e x.1
  have ey:=e y.1
  rw [kQ h.j7] at ex
  rw [kQ h'.j7] at ey
  have nx:=h.ne x (by simp)
  have ny:=h'.ne y (by simp)
  by_cases c:aL x.1 y.1=0
  ·have e1:x.1=y.1:=by
    have:=sE c
    rwa [h.bare x (by simp),h'.bare y (by simp)] at this
   have e2:x.2=y.2:=by
    rw [e1,kQ h'.j7] at ex
    exact ex
   have exy:x=y:=Prod.ext e1 e2
   subst exy
   rw [oY r t h.tail h'.tail fun q=>by have:=e q; rw [wt,wt] at this; omega]
  ·exfalso
   have n:=aX x.1 y.1
   by_cases c':aL x.1 y.1<0
   ·rw [nY h'.j7 (x:=x) (fun v hv=>by
     rcases List.mem_cons.1 hv with rfl | hv
     ·exact c'
     ·exact cW c' (by have:=p'.1 v hv; omega))] at ex
    exact nx ex
   ·rw [nY h.j7 (x:=y) (fun v hv=>by
     rcases List.mem_cons.1 hv with rfl | hv
     ·omega
     ·exact cW (b:=x.1) (by omega) (by have:=p.1 v hv; omega))] at ey
    exact ny ey.symm
def jr:List Zp→List Vl→Int→List Zp
 | [],r,w=>if w=0 then [] else [(bU r,w)]
 | y :: t,r,w=>if aL y.1 r<0 then y :: jr t r w else if aL y.1 r=0 then (if w+y.2=0 then t else (bU r,w+y.2) :: t) else (if w=0 then y :: t else (bU r,w) :: y :: t)
theorem oo (r:List Vl) (w:Int) (b:List Vl) (hb:aL b r<0):∀ z:List Zp,(∀ y ∈ z,aL b y.1<0)→∀ y ∈ jr z r w,aL b y.1<0
 | [],_=>by
  unfold jr
  split
  ·simp
  ·intro y hy; simp at hy; subst hy; rw [je]; exact hb
 | x :: t,h=>by
  have hx:=h x (by simp)
  have ht:∀ y ∈ t,aL b y.1<0:=fun y hy=>h y (by simp [hy])
  have ih:=oo r w b hb t ht
  unfold jr
  split
  ·intro y hy
   rcases List.mem_cons.1 hy with rfl | hy
   ·exact hx
   ·exact ih y hy
  ·split
   ·split
    ·exact ht
    ·intro y hy
     rcases List.mem_cons.1 hy with rfl | hy
     ·show aL b (bU r)<0
      rw [je]; exact hb
     ·exact ht y hy
   ·split
    ·exact h
    ·intro y hy
     rcases List.mem_cons.1 hy with rfl | hy
     ·show aL b (bU r)<0
      rw [je]; exact hb
     ·exact h y hy
theorem qj (r:List Vl) (w:Int):∀ z:List Zp,gd z→gd (jr z r w)
 | [],_=>by unfold jr; split <;> simp [gd]
 | x :: t,h=>by
  have p:=List.pairwise_cons.1 h
  unfold jr
  split
  ·rename_i c
   exact List.pairwise_cons.2 ⟨oo r w x.1 c t p.1,qj r w t p.2⟩
  ·split
   ·rename_i c
    split
    ·exact p.2
    ·refine List.pairwise_cons.2 ⟨fun y hy=>?_,p.2⟩
     show aL (bU r) y.1<0
     rw [dJ,← jT c]
     exact p.1 y hy
   ·rename_i c c'
    split
    ·exact h
    ·refine List.pairwise_cons.2 ⟨fun y hy=>?_,h⟩
     show aL (bU r) y.1<0
     rw [dJ]
     have n:=aX x.1 r
     rcases List.mem_cons.1 hy with rfl | hy
     ·omega
     ·exact cW (b:=x.1) (by omega) (by have:=p.1 y hy; omega)
theorem AU (r:List Vl) (w:Int):∀ z:List Zp,iK z→iK (jr z r w):=fun z h=>by
 refine ⟨qj r w z h.j7,?_,?_⟩
 ·have hn:=h.ne
  clear h
  induction z with
  | nil=>unfold jr; split <;> simp_all
  | cons x t ih =>
   have ih:=ih (fun y hy=>hn y (by simp [hy]))
   have hx:=hn x (by simp)
   unfold jr
   split
   ·intro y hy
    rcases List.mem_cons.1 hy with rfl | hy
    ·exact hx
    ·exact ih y hy
   ·split
    ·split
     ·exact fun y hy=>hn y (by simp [hy])
     ·intro y hy
      rcases List.mem_cons.1 hy with rfl | hy
      ·assumption
      ·exact hn y (by simp [hy])
    ·split
     ·exact hn
     ·intro y hy
      rcases List.mem_cons.1 hy with rfl | hy
      ·assumption
      ·exact hn y hy
 ·have hn:=h.bare
  clear h
  induction z with
  | nil =>
   unfold jr
   split
   ·simp
   ·intro y hy; simp at hy; subst hy; exact iU r
  | cons x t ih =>
   have ih:=ih (fun y hy=>hn y (by simp [hy]))
   have hx:=hn x (by simp)
   unfold jr
   split
   ·intro y hy
    rcases List.mem_cons.1 hy with rfl | hy
    ·exact hx
    ·exact ih y hy
   ·split
    ·split
     ·exact fun y hy=>hn y (by simp [hy])
     ·intro y hy
      rcases List.mem_cons.1 hy with rfl | hy
      ·exact iU r
      ·exact hn y (by simp [hy])
    ·split
     ·exact hn
     ·intro y hy
      rcases List.mem_cons.1 hy with rfl | hy
      ·exact iU r
      ·exact hn y hy
theorem xm (r:List Vl) (w:Int) (q:List Vl):∀ z:List Zp,wt (jr z r w) q=wt z q+(if aL r q=0 then w else 0)
 | []=>by
  unfold jr
  split
  ·rename_i h; subst h; simp [wt]
  ·simp [wt,dJ]
 | x :: t=>by
  have ih:=xm r w q t
  unfold jr
  split
  ·rw [wt,ih,wt]; omega
  ·split
   ·rename_i c
    have e:=jT c q
    split
    ·rename_i h0
     rw [wt,e]
     split <;> omega
    ·rw [wt,wt,e]
     simp only [dJ]
     split <;> omega
   ·split
    ·rename_i h0; subst h0; simp
    ·rw [wt]
     simp only [dJ]
     omega
def canon (l:List Zp):List Zp:=l.foldl (fun z x=>jr z x.1 x.2) []
theorem vg (l:List Zp):∀ z:List Zp,iK z→iK (l.foldl (fun z x=>jr z x.1 x.2) z):=by
 induction l with
 | nil=>intro z h; exact h
 | cons x r ih=>intro z h; exact ih _ (AU _ _ _ h)
theorem zN (l:List Zp) (q:List Vl):∀ z:List Zp,wt (l.foldl (fun z x=>jr z x.1 x.2) z) q=wt z q+wt l q:=by
 induction l with
 | nil=>intro z; simp [wt]
 | cons x r ih=>intro z; rw [IV,ih,xm,wt]; omega
theorem set_nil:iK []:=⟨List.Pairwise.nil,by simp,by simp⟩
theorem xF (l:List Zp):iK (canon l):=vg l [] set_nil
theorem BR (l:List Zp) (q:List Vl):wt (canon l) q=wt l q:=by
 unfold canon;rw [zN];simp [wt]
theorem sC {z l:List Zp} (h:iK z) (e:∀ q,wt z q=wt l q):z=canon l :=
 oY _ _ h (xF l) fun q=>(e q).trans (BR l q).symm
theorem ky (f:Int→Int) (z:List Zp):∀ y ∈ bI f z,∃ x ∈ z,y=(bU x.1,f x.2)∧¬ f x.2=0:=by
 induction z with
 | nil=>intro y hy; cases hy
 | cons x r ih =>
  intro y hy;unfold bI at hy
  split at hy
  ·obtain ⟨u,hu,e⟩:=ih y hy;exact ⟨u,by simp [hu],e⟩
  ·rename_i h0
   rcases List.mem_cons.1 hy with rfl | hy
   ·exact ⟨x,by simp,rfl,h0⟩
   ·obtain ⟨u,hu,e⟩:=ih y hy;exact ⟨u,by simp [hu],e⟩
theorem mO (f:Int→Int):∀ z:List Zp,gd z→gd (bI f z)
 | [],_=>List.Pairwise.nil
 | x :: r,h=>by
  have p:=List.pairwise_cons.1 h
  have ih:=mO f r p.2
  unfold bI
  split
  ·exact ih
  ·refine List.pairwise_cons.2 ⟨fun y hy=>?_,ih⟩
   obtain ⟨u,hu,rfl,_⟩:=ky f r y hy
   show aL (bU x.1) (bU u.1)<0
   rw [dJ,je]
   exact p.1 u hu
theorem nI (f:Int→Int) (z:List Zp) (h:gd z):iK (bI f z) :=
 ⟨mO f z h,fun y hy=>by obtain ⟨u,_,rfl,h0⟩:=ky f z y hy; exact h0,fun y hy=>by obtain ⟨u,_,rfl,h0⟩:=ky f z y hy; exact iU u.1⟩
theorem mj (f:Int→Int) (f0:f 0=0) (q:List Vl):∀ z:List Zp,gd z→wt (bI f z) q=f (wt z q)
 | [],_=>by simp [bI,wt,f0]
 | x :: r,h=>by
  have p:=List.pairwise_cons.1 h
  have ih:=mj f f0 q r p.2
  by_cases c:aL x.1 q=0
  ·have z0:wt r q=0:=by
    rw [Cu (q:=q) (q':=x.1) (by have:=aX x.1 q; omega)];exact nY p.2 p.1
   rw [z0,f0] at ih;unfold bI
   split
   ·rename_i h0
    rw [ih,wt,if_pos c,z0];simp [h0]
   ·rw [wt,wt,ih,z0];simp [dJ,c]
  ·unfold bI
   split
   ·rw [ih,wt,if_neg c]; simp
   ·rw [wt,wt,ih];simp [dJ,c]
def hD (acc:List Zp) (x:Zp):List Zp :=
 match acc.getLast? with
 | none=>[x]
 | some y=>if aL y.1 x.1=0 then acc.dropLast ++ [(y.1,y.2+x.2)] else acc ++ [x]
def bG (l:List Zp):List Zp:=l.foldl hD []
theorem gp (l:List Zp) (x:Zp):bG (l ++ [x])=hD (bG l) x:=by simp [bG]
theorem jQ (x:Zp):hD [] x = [x]:=rfl
theorem gm (a:List Zp) (y x:Zp):hD (a ++ [y]) x=if aL y.1 x.1=0 then a ++ [(y.1,y.2+x.2)] else a ++ [y] ++ [x]:=by simp [hD]
theorem oR {p:List Zp→Prop} (h0:p []) (h1:∀ l x,p l→p (l ++ [x])):∀ l,p l:=by
 have key:∀ (n:Nat) (l:List Zp),l.length=n→p l:=by
  intro n
  induction n with
  | zero=>intro l h; rw [Hs h]; exact h0
  | succ n ih =>
   intro l h;rcases List.eq_nil_or_concat l with rfl | ⟨a,y,rfl⟩
   ·exact h0
   ·rw [Jj];exact h1 a y (ih a (by simpa using h))
 exact fun l=>key l.length l rfl
structure qO (l z:List Zp):Prop where
 j7:gd z
 wt:∀ q,wt z q=wt l q
 row:∀ y ∈ z,∃ x ∈ l,y.1=x.1
theorem qO.push {l z:List Zp} (h:qO l z) {x:Zp} (hx:∀ y ∈ l,aL y.1 x.1≤0):qO (l ++ [x]) (hD z x):=by
 rcases List.eq_nil_or_concat z with rfl | ⟨a,y,rfl⟩
 ·rw [jQ];refine ⟨by simp [gd],fun q=>?_,?_⟩
  ·rw [iu,← h.wt q]; simp [YtjebpkhkjkjphaaGreat.wt]
  ·intro y hy; simp at hy; subst hy; exact ⟨y,by simp,rfl⟩
 ·rw [Jj] at h ⊢;have hr:=List.pairwise_append.1 h.j7;have hy:aL y.1 x.1≤0:=by
   obtain ⟨u,hu,e⟩:=h.row y (by simp);rw [e]; exact hx u hu
  rw [gm]
  split
  ·rename_i c
   refine ⟨?_,fun q=>?_,?_⟩
   ·refine List.pairwise_append.2 ⟨hr.1,by simp,?_⟩;intro u hu v hv;simp at hv;subst hv;exact hr.2.2 u hu y (by simp)
   ·have:=h.wt q;rw [iu] at this ⊢;rw [iu,← this];simp only [YtjebpkhkjkjphaaGreat.wt,← jT c q]
    split <;> omega
   ·intro u hu;simp at hu;rcases hu with hu | rfl
    ·obtain ⟨v,hv,e⟩:=h.row u (by simp [hu]);exact ⟨v,by simp [hv],e⟩
    ·obtain ⟨v,hv,e⟩:=h.row y (by simp);exact ⟨v,by simp [hv],e⟩
  ·rename_i c
   refine ⟨?_,fun q=>?_,?_⟩
   ·refine List.pairwise_append.2 ⟨h.j7,by simp,?_⟩;intro u hu v hv;simp at hv;subst hv;simp at hu;rcases hu with hu | rfl
    ·exact cW (hr.2.2 u hu y (by simp)) hy
    ·omega
   ·rw [iu,h.wt q,iu]
   ·intro u hu;rcases List.mem_append.1 hu with hu | hu
    ·obtain ⟨v,hv,e⟩:=h.row u hu;exact ⟨v,by simp [hv],e⟩
    ·simp at hu; subst hu; exact ⟨u,by simp,rfl⟩
theorem qv:∀ (l:List Zp),(l.Pairwise fun x y=>aL x.1 y.1≤0)→qO l (bG l):=by
 refine oR (fun _=>⟨List.Pairwise.nil,fun _=>rfl,by simp [bG]⟩) ?_
 ·intro l x ih h;have p:=List.pairwise_append.1 h;rw [gp];exact (ih p.1).push fun y hy=>p.2.2 y hy x (by simp)
theorem mF (l:List Zp):(bG l).length≤l.length:=by
 revert l
 refine oR (by simp [bG]) ?_
 ·intro l x ih;rw [gp];unfold hD
  split
  ·simp
  ·rename_i y hy
   split <;> simp <;> omega
theorem rE {s l:List Zp} (hp:s.Perm l) (hs:s.Pairwise fun x y=>aL x.1 y.1≤0):bI (fun w=>w) (bG s)=canon l:=by
 have m:=qv s hs;refine sC (nI _ _ m.j7) fun q=>?_
 rw [mj (fun w=>w) rfl q _ m.j7,m.wt q,Dw hp q]
end Go.Proofs.YtjebpkhkjkjphaaGreat
namespace Go.Proofs
open Go.Shelf Go.RowKit Go.Lib
set_option maxRecDepth 100000
set_option maxHeartbeats 16000000
shelf_lay_g SlLaysF0.n6 Slsf 6 at Tryz 73 as Tryz.sortZ
end Go.Proofs
namespace Go.Proofs.YtjebpkhkjkjphaaGreat
open Go.RowKit Go.Lib Go.Shelf
set_option maxRecDepth 100000
set_option maxHeartbeats 16000000
structure Zr where
 a:Option Addr
 cap:Nat
 row:List Vl
 w:Int
abbrev Zg (w:World):Type:={ x:Zr // aY w x.a x.row }
instance (w:World):Inhabited (Zg w):=⟨⟨⟨none,0,[],0⟩,by simp,.inl rfl⟩⟩
def gT (w:World) (x:Zg w):List Value:=[.slice x.1.a x.1.row.length x.1.cap,.int .i64 x.1.w]
def Fa (w:World) (x y:Zg w):Int:=aL x.1.row y.1.row
def CS (w:World) (x:Zg w):Zp:=(x.1.row,x.1.w)
theorem GR (w:World):Go.Sort.SWO (ltOf (Fa w)) where
 irrefl x:=by simp [ltOf,Fa,qt]
 trans x y z h1 h2:=by
  have g1:aL x.1.row y.1.row<0:=of_decide_eq_true h1;have g2:aL y.1.row z.1.row<0:=of_decide_eq_true h2;exact decide_eq_true (cW g1 (by omega))
 ntrans x y z h1 h2:=by
  have g1:¬ aL x.1.row y.1.row<0:=of_decide_eq_false h1;have g2:¬ aL y.1.row z.1.row<0:=of_decide_eq_false h2;have n1:=aX x.1.row y.1.row;have n2:=aX y.1.row z.1.row;have n3:=aX x.1.row z.1.row;have t:=bY z.1.row y.1.row x.1.row;refine decide_eq_false ?_;show ¬ aL x.1.row z.1.row<0;omega
theorem kg {W w1:World} (hb:Below W.heap.size W w1) (hd:W.drawn≤w1.drawn):∃ q os,w1=Go.Sort.grow (W.drewN q) os:=by
 refine ⟨w1.drawn - W.drawn,w1.heap.extract W.heap.size w1.heap.size,?_⟩;have hs:=hb.size;have hh:w1.heap=W.heap ++ w1.heap.extract W.heap.size w1.heap.size:=by
  apply Array.ext_getElem?;intro k;rw [Array.getElem?_append]
  split
  ·exact hb.block k (by assumption)
  ·rw [Array.getElem?_extract];by_cases hk:k<w1.heap.size
   ·simp [show W.heap.size+(k - W.heap.size)=k by omega];intro h; omega
   ·rw [Iy (by omega)];simp;intro h; omega
 obtain ⟨h1,h2,h3,h4,h5⟩:=w1;obtain ⟨g1,g2,g3,g4,g5⟩:=W;have q1:=hb.os;have q2:=hb.tape;have q3:=hb.output;simp only at q1 q2 q3 hd hh hs;subst q1 q2 q3;simp only [Go.Sort.grow,World.drewN,World.mk.injEq,true_and,and_true];exact ⟨hh,by omega⟩
theorem eO {α:Type} [Inhabited α] {w0 w:World} {enc:α→List Value} {k blk off m:Nat} {dk:Array α} {os:Array Obj} (hb:Below w0.heap.size w0 w) (hk:w0.heap.size≤blk):Below w0.heap.size w0 (sortWorldK enc k w blk off m dk os):=by
 refine ⟨hb.os,hb.tape,hb.output,?_,fun j hj=>?_⟩
 ·exact HJ hb.size (size_sortWorldK_c enc k w blk off m dk os)
 ·rw [← hb.block j hj];show ((Go.Sort.mapBlock _ _ _).heap ++ os)[j]? = _;have hs:=hb.size;rw [Array.getElem?_append_left (by simp [Go.Sort.mapBlock,Go.Sort.ahead]; omega)];simp only [Go.Sort.mapBlock,Go.Sort.ahead,Array.getElem?_modify];rw [if_neg (by omega)]
theorem vQ (a a':Option Addr) (cap cap':Nat) (x x':Int) (l l':List Vl) (w:World) (h:aY w a l) (h':aY w a' l') :
  Calls Tryz.prog 74 #[.agg #[.slice a l.length cap,.int .i64 x],.agg #[.slice a' l'.length cap',.int .i64 x']] w fun e w'=>e = .returned (.int .i64 (aL l l'))∧∃ q os',w'=Go.Sort.grow (w.drewN q) os':=by
 go_enter Tryz.func74,Tryz.ntmps74;go_wp2_with fail
 have b2:Below w.heap.size w ((w.alloc (.cells #[.slice a l.length cap,.int .i64 x] 63)).alloc (.cells #[.slice a' l'.length cap',.int .i64 x'] 63)):=((He _ _).alloc (Hd _) _).alloc (by simp) _;refine (uq _ _ _ _ _ _ _ (h.next b2) (h'.next b2)).mono ?_;rintro e w1 ⟨rfl,hb1,hd1⟩;go_wp2
 go_ret;exact ⟨rfl,kg (FB hb1) hd1⟩
theorem CE (w0 w:World) (hb:Below w0.heap.size w0 w) (blk off size:Nat) (hk:w0.heap.size≤blk):CmpLays Tryz.prog 74 #[] (gT w0) 2 (Fa w0) blk off size w :=
 fun _ _ _ _ x y=>vQ _ _ _ _ _ _ _ _ _ (x.2.next (eO hb hk)) (y.2.next (eO hb hk))
theorem Tryz.Bj:∀ w,(isAgg 63).run Tryz.prog w = .ok true w:=Tryz.isAgg63
theorem Tryz.yR:∀ w,(Go.sizeOf 63).run Tryz.prog w = .ok 2 w:=Tryz.sizeOf63
theorem DF (w0 w:World) (hb:Below w0.heap.size w0 w) (blk off cap:Nat) (hk:w0.heap.size≤blk) (d:Array (Zg w0)) (hH:Go.Sort.HoldsK (gT w0) 2 w blk off d) (hblk:blk<w.heap.size) (hsz:d.size<4611686018427387904) :
  Calls Tryz.prog 73 #[.slice (some ⟨blk,off,none⟩) d.size cap,.func (.func 74) #[] #[]] w fun e w' =>
   e = .returned (.tuple #[])∧∃ d' n os,Go.Sort.PermIn 0 d.size d d'∧Go.Sort.SortedIn (ltOf (Fa w0)) 0 d.size d'∧w'=sortWorldK (gT w0) 2 w blk off n d' os:=by
 have eg:∀ args w,(callFunc 74 args).run Tryz.prog w = .ok (.enter 74 args) w:=enters_of Tryz.func74 (by kernel_rfl) rfl
 exact AnyQ.slices_SortFunc Tryz.sortZ 2 Tryz.Bj Tryz.yR (gT w0) (fun _=>rfl) (fun x v hv=>by simp [gT] at hv; rcases hv with rfl | rfl <;> rfl) (Fa w0) (GR w0) 74 #[] blk off cap d w eg (CE w0 w hb blk off d.size hk) hH hblk hsz
set_option maxRecDepth 100000
set_option maxHeartbeats 16000000
theorem xH (b off i:Nat):(⟨b,off,none⟩:Addr).add i=⟨b,off+i,none⟩:=by
 unfold Addr.add;by_cases h:i=0 <;> simp [h]
theorem pZ {w:World} (d:Array (Zg w)) (i:Nat) (h:i<d.size):(Go.Sort.flatK (gT w) 2 d)[i*2]! = .slice d[i]!.1.a d[i]!.1.row.length d[i]!.1.cap:=by
 rw [Go.Sort.get_flatK _ _ _ _ (by omega),show i*2 / 2=i by omega,show i*2 % 2=0 by omega]; rfl
theorem rP {w:World} (d:Array (Zg w)) (i:Nat) (h:i<d.size):(Go.Sort.flatK (gT w) 2 d)[i*2+1]! = .int .i64 d[i]!.1.w:=by
 rw [Go.Sort.get_flatK _ _ _ _ (by omega),show (i*2+1) / 2=i by omega,show (i*2+1) % 2=1 by omega]; rfl
theorem bP.arr {w:World} {a:Option Addr} {l:List Zp} (h:bP w a l):∃ d:Array (Zg w),d.size=l.length∧d.toList.map (CS w)=l ∧
  (l = []∨∃ b off,a=some ⟨b,off,none⟩∧b<w.heap.size∧∀ j,j<l.length*2→w.cell? ⟨b,off+j,none⟩=some (Go.Sort.flatK (gT w) 2 d)[j]!):=by
 obtain ⟨_,rfl | ⟨b,off,e,hlt,hr⟩⟩:=h
 ·exact ⟨#[],rfl,rfl,.inl rfl⟩
 ·obtain ⟨f,hf⟩:=Go.Deep.choose_lt (α:=Zg w) (n:=l.length) (p:=fun i x=>∀ hi:i<l.length,CS w x=l[i]∧w.cell? ⟨b,off+i*2,none⟩=some (.slice x.1.a x.1.row.length x.1.cap)∧w.cell? ⟨b,off+i*2+1,none⟩=some (.int .i64 x.1.w)) (fun i hi=>by
   obtain ⟨c1,ai,ci,c0,si⟩:=hr i hi;exact ⟨⟨⟨ai,ci,l[i].1,l[i].2⟩,si⟩,fun _=>⟨rfl,c0,c1⟩⟩)
  have hd:∀ i,i<l.length→((Array.range l.length).map f)[i]! = f i:=fun i hi=>by simp [hi]
  refine ⟨(Array.range l.length).map f,by simp,?_,.inr ⟨b,off,e,hlt,?_⟩⟩
  ·apply List.ext_getElem
   ·simp
   ·intro i h1 h2;have:=(hf i h2 h2).1
    simpa using this
  ·intro j hj;have hi:j / 2<l.length:=by omega
   obtain ⟨_,g0,g1⟩:=hf (j / 2) hi hi;rcases Nat.mod_two_eq_zero_or_one j with h0 | h1
   ·have ej:j=j / 2*2:=by omega
    rw [ej,pZ _ _ (by simpa using hi),hd _ hi];exact g0
   ·have ej:j=j / 2*2+1:=by omega
    rw [ej,rP _ _ (by simpa using hi),hd _ hi,← IZ];exact g1
theorem yY {w W:World} {blk off:Nat} {d:Array (Zg w)} (hb:Below w.heap.size w W) (hH:Go.Sort.HoldsK (gT w) 2 W blk off d) (hlt:blk<W.heap.size) (hl:d.size≤200000):bP W (some ⟨blk,off,none⟩) (d.toList.map (CS w)):=by
 refine ⟨by simp [maxLen]; omega,.inr ⟨blk,off,rfl,hlt,fun i hi=>?_⟩⟩;have hi':i<d.size:=by simpa using hi
 have e:d[i]! = d[i]:=getElem!_pos d i hi';have h0:=(hH (i*2) (by simp; omega)).1;have h1:=(hH (i*2+1) (by simp; omega)).1;rw [pZ d i hi',e] at h0;rw [rP d i hi',e] at h1;simp only [IJ,IU];refine ⟨?_,d[i].1.a,d[i].1.cap,?_,d[i].2.next hb⟩
 ·rw [← IZ] at h1; exact h1
 ·exact h0
theorem gI {w W:World} {base g n cap:Nat} {d:Array (Zg w)} (hn:n=d.size) (h:W.ownsRow base 63 2 (.slice (some ⟨g,0,none⟩) n cap) n (Go.Sort.flatK (gT w) 2 d).toList):Go.Sort.HoldsK (gT w) 2 W g 0 d:=by
 intro j hj;have hj':j<n*2:=by rw [hn]; simpa using hj
 refine ⟨?_,?_⟩
 ·rw [Hu,h.cellAt j hj'];show _=some (Go.Sort.flatK (gT w) 2 d)[j]!;rw [Array.getElem?_toList,getElem!_pos (Go.Sort.flatK (gT w) 2 d) j hj];exact IP hj
 ·rw [Hu]; exact h.frozenAt j
theorem sW (a:Option Addr) (cap:Nat) (l:List Zp) (w:World) (d:Array (Zg w)) (hd:d.size=l.length) (hl:l.length≤200000)
  (h:l = []∨∃ b off,a=some ⟨b,off,none⟩∧b<w.heap.size∧∀ j,j<l.length*2→w.cell? ⟨b,off+j,none⟩=some (Go.Sort.flatK (gT w) 2 d)[j]!) :
  Calls Tryz.prog 72 #[.slice a l.length cap] w fun e w'=>∃ v,e = .returned v∧w'.ownsRow w.heap.size 63 2 v l.length (Go.Sort.flatK (gT w) 2 d).toList∧Below w.heap.size w w':=by
 obtain ⟨i0,hi,hj0,hj1,hj2⟩:=info_parts Tryz.i5;have hone:∀ u ∈ (Go.Sort.flatK (gT w) 2 d).toList,u.oneCell'=true:=by
  intro u hu;obtain ⟨j,hj,rfl⟩:=List.getElem_of_mem hu;have hj':j<d.size*2:=by simpa using hj
  have e:(Go.Sort.flatK (gT w) 2 d).toList[j]=(Go.Sort.flatK (gT w) 2 d)[j]!:=by
   rw [IU,getElem!_pos]
  rw [e,Go.Sort.get_flatK _ _ _ _ hj'];rcases Nat.mod_two_eq_zero_or_one j with h0 | h1
  ·rw [h0]; rfl
  ·rw [h1]; rfl
 rcases a with _ | ad
 ·have e:l = []:=by
   rcases h with h | ⟨b,off,e,_⟩
   ·exact h
   ·cases e
  subst e;have d0:(Go.Sort.flatK (gT w) 2 d).toList = []:=by
   apply Hs;simp [hd]
  rw [d0];rw [List.length_nil];have q22:∀ (w:World) (a:Option Addr) (n c n' c':Nat),(binOp .eql 37 (.slice a n c) (.slice none n' c')).run Tryz.prog w = .ok (.bool a.isNone) w:=fun w a n c n' c'=>Lib.run_eql_slice_nil w _ _ a n c n' c' Tryz.underlying37
  go_enter Tryz.func72,Tryz.ntmps72;go_wp2
  go_ret;exact ⟨_,rfl,Iq _ _ _ _,He _ _⟩
 ·have q22:∀ (w:World) (a:Option Addr) (n c n' c':Nat),(binOp .eql 37 (.slice a n c) (.slice none n' c')).run Tryz.prog w = .ok (.bool a.isNone) w:=fun w a n c n' c'=>Lib.run_eql_slice_nil w _ _ a n c n' c' Tryz.underlying37
  go_enter Tryz.func72,Tryz.ntmps72;go_wp2_with (at_builtin; refine IK _ rfl _ _ 37 rfl w.heap.size 63 i0 _ 2 32 Tryz.underlying37 hi hj0 hj1 hj2 rfl (by decide) _ _ _ rfl (Jf w #[] 0 (Hd _) (Hl _) (by simp)) ad l.length cap (Go.Sort.flatK (gT w) 2 d).toList rfl ?qc1 ?qc2 hone ?qc4 ?qc5 ?qc6 ?_)
  case qc1=>simp [hd]
  case qc2 =>
   intro j u hj;have hj':j<d.size*2:=by
    rcases Ic j (d.size*2) with h | h
    ·exact h
    ·rw [Is (by simpa using h)] at hj; cases hj
   rcases h with h | ⟨b,off,e,hlt,hc⟩
   ·subst h; simp at hd; subst hd; simp at hj'
   ·have e:=It e;subst e;rw [xH];rw [Array.getElem?_toList,IP (by simpa using hj')] at hj;have hj:=It hj;have:=hc j (by omega);rw [getElem!_pos _ _ (by simpa using hj'),hj] at this;exact Lib.cell?_alloc_some _ this
  case qc4=>rw [Hu]; unfold maxLen; omega
  case qc5=>rw [Hu]; omega
  case qc6=>simp
  intro v' w1 hown hgrow _;have hb1:Below w.heap.size w w1:=((He _ _).alloc (Hd _) _).grown hgrow (by simp) (by simp [Value.ownBlock]);have hv:∃ a1 c1,v' = .slice a1 l.length c1:=by
   obtain ⟨_,⟨rfl,h0⟩ | ⟨g,c1,cur,rfl,_⟩⟩:=hown
   ·exact ⟨none,0,by rw [h0]⟩
   ·exact ⟨_,c1,rfl⟩
  obtain ⟨a1,c1,rfl⟩:=hv;clear hgrow;go_wp2
  go_ret;exact ⟨_,rfl,hown,hb1⟩
end Go.Proofs.YtjebpkhkjkjphaaGreat
