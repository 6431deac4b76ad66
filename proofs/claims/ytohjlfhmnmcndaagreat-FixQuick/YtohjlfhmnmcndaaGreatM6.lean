/- Together: Y4, Y5, K3, Y6, Form, Q1, K4, K5, Y7. -/
import Derived.Deep.RegionWith
import Derived.Laws.EntriesVeiled
import Derived.Test.YtohjlfhmnmcndaaGreatM5
import Derived.Test.YtohjlfhmnmcndaaGreatM3
import Derived.Test.YtohjlfhmnmcndaaGreatM1
import Derived.Test.YtohjlfhmnmcndaaGreatM2
import Derived.Test.YtohjlfhmnmcndaaGreatM4
namespace Go.Proofs.YtohjlfhmnmcndaaGreat
open Go.RowKit
set_option maxRecDepth 100000
set_option maxHeartbeats 16000000
inductive bd (B:Nat) (W:World):Option Addr→List Ex→Prop
 | nil (a:Option Addr):bd B W a []
 | some (b off:Nat) (l:List Ex) (ai:Nat→Option Addr) (cap:Nat→Nat) (hb:b<B)
   (hc:∀ (i:Nat) (h:i<l.length),mb W b (off+i*6) l[i].k l[i].v l[i].c (ai i) l[i].ks.length (cap i))
   (hk:∀ (i:Nat) (h:i<l.length),bd B W (ai i) l[i].ks):bd B W (some ⟨b,off,none⟩) l
theorem bd.next {B B':Nat} {W w1:World} (hb:Below B' W w1) (hB:B≤B') {a:Option Addr} {l:List Ex} (h:bd B W a l):bd B w1 a l:=by
 induction h with
 | nil a=>exact .nil a
 | some b off l ai cap hlt hc _ ih=>exact .some b off l ai cap hlt (fun i hi=>(hc i hi).next hb (Nn hlt hB)) ih
theorem bd.up {B B':Nat} {W:World} (hB:B≤B') {a:Option Addr} {l:List Ex} (h:bd B W a l):bd B' W a l:=by
 induction h with
 | nil a=>exact .nil a
 | some b off l ai cap hlt hc _ ih=>exact .some b off l ai cap (Nn hlt hB) hc ih
theorem bd.elem {B:Nat} {W:World} {a:Option Addr} {l:List Ex} (h:bd B W a l) {k:Nat} (hk:k<l.length) :
  ∃ b off ai cap,a=Option.some ⟨b,off,none⟩∧b<B∧mb W b (off+k*6) l[k].k l[k].v l[k].c ai l[k].ks.length cap∧bd B W ai l[k].ks:=by
 cases h with
 | nil=>simp at hk
 | some b off l ai cap hlt hc hh=>exact ⟨b,off,ai k,cap k,rfl,hlt,hc k hk,hh k hk⟩
def au (t:Nat) (w w':World):Prop:=Below t w w'∧∀ k,k<w.heap.size→k≠t→w'.heap[k]? = w.heap[k]?
theorem au.refl (t:Nat) (w:World):au t w w:=⟨Nk _ _,fun _ _ _=>rfl⟩
theorem au.size {t:Nat} {a b:World} (h:au t a b):a.heap.size≤b.heap.size:=h.1.size
theorem au.trans {t:Nat} {a b c:World} (h:au t a b) (k:au t b c):au t a c :=
 ⟨h.1.trans k.1,fun i hi hn=>(k.2 i (Nn hi h.size) hn).trans (h.2 i hi hn)⟩
theorem au.of {t:Nat} {a b:World} (h:Below a.heap.size a b) (ht:t≤a.heap.size):au t a b:=⟨h.mono ht,fun k hk _=>h.block k hk⟩
theorem au.set {t:Nat} {a b:World} (h:au t a b) (o:Nat) (u:Value):au t a (b.setCell ⟨t,o,none⟩ u) :=
 ⟨h.1.setCell (Nj _) u,fun k hk hn=>(NR b ⟨t,o,none⟩ u k hn).trans (h.2 k hk hn)⟩
theorem au.Hi {t:Nat} {a b:World} (h:au t a b) (g o:Nat) (u:Value) (hg:a.heap.size≤g) (ht:t≤a.heap.size):au t a (b.setCell ⟨g,o,none⟩ u) :=
 ⟨h.1.setCell (Nw ht hg) u,fun k hk hn=>(NR b ⟨g,o,none⟩ u k (by show k≠g; omega)).trans (h.2 k hk hn)⟩
theorem au.cell {t:Nat} {a b:World} (h:au t a b) {p:Addr} (hp:p.block<a.heap.size) (hn:p.block≠t):b.cell? p=a.cell? p:=NA (w:=a) (h.2 p.block hp hn)
theorem au.frozen {t:Nat} {a b:World} (h:au t a b) {p:Addr} (hp:p.block<a.heap.size) (hn:p.block≠t):b.frozen? p=a.frozen? p:=OP (w:=a) (h.2 p.block hp hn)
theorem au.below {t B:Nat} {a b:World} (h:au t a b) (hB:B≤t):Below B a b:=h.1.mono hB
theorem mb.mN {W w1:World} {t b off:Nat} {k:Int} {v:Vl} {c:Int} {a:Option Addr} {n cap:Nat} (h:mb W b off k v c a n cap) (hb:au t W w1) (hB:b<W.heap.size) (hn:b≠t):mb w1 b off k v c a n cap :=
 ⟨(hb.cell (p:=⟨b,_,none⟩) hB hn).trans h.c0,(hb.cell (p:=⟨b,_,none⟩) hB hn).trans h.c1,(hb.cell (p:=⟨b,_,none⟩) hB hn).trans h.c2,(hb.cell (p:=⟨b,_,none⟩) hB hn).trans h.c3,(hb.cell (p:=⟨b,_,none⟩) hB hn).trans h.c4,(hb.cell (p:=⟨b,_,none⟩) hB hn).trans h.c5⟩
structure jr (W:World) (t:Nat) (ca:Option Addr) (n cap:Nat) (m:Int):Prop where
 lt:t<W.heap.size
 c0:W.cell? ⟨t,0,none⟩=some (.slice ca n cap)
 c1:W.cell? ⟨t,1,none⟩=some (.int .i64 m)
 f1:W.frozen? ⟨t,1,none⟩=false
theorem jr.next {W w1:World} {t:Nat} {ca:Option Addr} {n cap:Nat} {m:Int} (h:jr W t ca n cap m) (hb:Below W.heap.size W w1):jr w1 t ca n cap m :=
 ⟨Nn h.lt hb.size,(hb.cell (p:=⟨t,0,none⟩) h.lt).trans h.c0,(hb.cell (p:=⟨t,1,none⟩) h.lt).trans h.c1,(hb.frozen (p:=⟨t,1,none⟩) h.lt).trans h.f1⟩
theorem jr.count {W:World} {t:Nat} {ca:Option Addr} {n cap:Nat} {m:Int} (h:jr W t ca n cap m) (m':Int):jr (W.setCell ⟨t,1,none⟩ (.int .i64 m')) t ca n cap m':=by
 obtain ⟨lt,c0,c1,f1⟩:=h;refine ⟨by simpa using lt,?_,?_,?_⟩
 ·rw [Nv _ _ _ _ (by simp)];exact c0
 ·exact Ou _ _ _ c1
 ·simpa using f1
structure fr (W:World) (g:Nat) (l:List Int):Prop where
 lt:g<W.heap.size
 c:∀ (i:Nat) (h:i<l.length),W.cell? ⟨g,i,none⟩=some (.int .i64 l[i])
 f:∀ i:Nat,W.frozen? ⟨g,i,none⟩=false
theorem fr.mN {t:Nat} {W w1:World} {g:Nat} {l:List Int} (h:fr W g l) (hb:au t W w1) (hn:g≠t):fr w1 g l :=
 ⟨Nn h.lt hb.size,fun i hi=>(hb.cell (p:=⟨g,i,none⟩) h.lt hn).trans (h.c i hi),fun i=>(hb.frozen (p:=⟨g,i,none⟩) h.lt hn).trans (h.f i)⟩
theorem fr.set {W:World} {g:Nat} {l:List Int} (h:fr W g l) (i:Nat) (hi:i<l.length) (u:Int):fr (W.setCell ⟨g,i,none⟩ (.int .i64 u)) g (l.set i u):=by
 refine ⟨by simpa using h.lt,fun j hj=>?_,fun j=>by simpa using h.f j⟩;have hj':j<l.length:=by simpa using hj
 by_cases e:i=j
 ·subst e;rw [Ou _ _ _ (h.c i hi)];simp
 ·rw [Nv _ _ _ _ (by intro h; injection h with _ h; exact e h),h.c j hj'];simp [List.getElem_set_ne e]
theorem fr.is {W:World} {g:Nat} {l:List Int} (h:fr W g l) (hl:l.length≤maxLen):bc W.heap.size W (some ⟨g,0,none⟩) l :=
 ⟨hl,.inr ⟨g,0,rfl,h.lt,fun i hi=>by simpa using h.c i hi⟩⟩
theorem fr.new (w : World) (n t : Nat) : fr (w.alloc (.cells (Array.replicate n (.int .i64 0)) t)) w.heap.size (List.replicate n 0) :=
  ⟨by simp, fun i hi => by have : i < n := by simpa using hi
                           simp [this], fun i => by simp⟩
theorem Eo {n:Nat} (h:n≤3) (w:World):(Instr.makeSlice 45 (.int .i64 n) (.int .i64 n)).run Tryz.prog w = .ok (.slice (some ⟨w.heap.size,0,none⟩) n n) (w.alloc (.cells (Array.replicate n (.int .i64 0)) 3)):=by
 obtain rfl | rfl | rfl | rfl:n=0∨n=1∨n=2∨n=3:=by omega
 all_goals kernel_rfl
theorem tC (k:Int):cK k≤3:=by
 unfold cK
 repeat' split
 all_goals omega
def sK (cols:List Int) (x:Ex):Prop :=
 ∀ (B t:Nat) (ca:Option Addr) (ccap:Nat) (a:Option Addr) (cap:Nat) (m d:Int) (w:World),bd B w a x.ks→bc B w ca cols→B≤t→jr w t ca cols.length ccap m→0≤m→m≤200→0≤d→d≤21 →
  Calls Tryz.prog 197 #[.pointer (some ⟨t,0,none⟩),lC x.k x.v x.c a x.ks.length cap,.int .i64 d] w fun e w' =>
   e = .returned (.tuple #[.int .i64 (aU cols x m d).1,.int .i64 (aU cols x m d).2.1])∧au t w w'∧jr w' t ca cols.length ccap (aU cols x m d).2.2
theorem mi {cols:List Int} {k:Int} {v:Vl} {c:Int} {ks:List Ex} {m d:Int} (h:¬ eX k ks.length (m+1) d=0):aU cols (.mk k v c ks) m d=(0,eX k ks.length (m+1) d,m+1):=by
 rw [aU,if_pos h]
theorem vS {cols:List Int} {k:Int} {v:Vl} {c:Int} {ks:List Ex} {m d:Int} (h:eX k ks.length (m+1) d=0) {e:Int} {ts:List Int} {n:Int} (hk:bJ cols ks [] (m+1) (d+1)=(e,ts,n)) (he:¬ e=0):aU cols (.mk k v c ks) m d=(0,e,n):=by
 rw [aU,if_neg (by simp [h]),hk,if_pos he]
theorem uJ {cols:List Int} {k:Int} {v:Vl} {c:Int} {ks:List Ex} {m d:Int} (h:eX k ks.length (m+1) d=0) {ts:List Int} {n:Int} (hk:bJ cols ks [] (m+1) (d+1)=(0,ts,n)):aU cols (.mk k v c ks) m d=((cw cols k v c ts).1,(cw cols k v c ts).2,n):=by
 rw [aU,if_neg (by simp [h]),hk,if_neg (by simp)]
theorem rV (cols:List Int) (ks:List Ex) (ts:List Int) (n d:Int) (j:Nat) (h:ks.length≤j):bJ cols (ks.drop j) ts n d=(0,ts,n):=by
 rw [NI h,bJ]
theorem sN (cols:List Int) (ks:List Ex) (ts:List Int) (n d:Int) (j:Nat) (h:j<ks.length) (he:¬ (aU cols ks[j] n d).2.1=0):bJ cols (ks.drop j) ts n d=((aU cols ks[j] n d).2.1,ts,(aU cols ks[j] n d).2.2):=by
 rw [Nq h,bJ,if_pos he]
theorem pQ (cols:List Int) (ks:List Ex) (ts:List Int) (n d:Int) (j:Nat) (h:j<ks.length) (he:(aU cols ks[j] n d).2.1=0):bJ cols (ks.drop j) ts n d=bJ cols (ks.drop (j+1)) (ts ++ [(aU cols ks[j] n d).1]) (aU cols ks[j] n d).2.2 d:=by
 rw [Nq h,bJ,if_neg (by simp [he])]
theorem dw {W:World} {g o b p:Nat} {u:Value} (hn:g≠b):(W.setCell ⟨g,o,none⟩ u).cell? ⟨b,p,none⟩=W.cell? ⟨b,p,none⟩ :=
 Nv _ _ _ _ (by intro h; injection h with h; exact hn h)
theorem mb.Ix {W:World} {b off:Nat} {k:Int} {v:Vl} {c:Int} {a:Option Addr} {n cap:Nat} (h:mb W b off k v c a n cap) (g o:Nat) (u:Value) (hn:g≠b):mb (W.setCell ⟨g,o,none⟩ u) b off k v c a n cap :=
 ⟨(dw hn).trans h.c0,(dw hn).trans h.c1,(dw hn).trans h.c2,(dw hn).trans h.c3,(dw hn).trans h.c4,(dw hn).trans h.c5⟩
theorem jr.Ix {W:World} {t:Nat} {ca:Option Addr} {n cap:Nat} {m:Int} (h:jr W t ca n cap m) (g o:Nat) (u:Value) (hn:g≠t):jr (W.setCell ⟨g,o,none⟩ u) t ca n cap m :=
 ⟨by simpa using h.lt,(dw hn).trans h.c0,(dw hn).trans h.c1,by simpa using h.f1⟩
theorem Ck (ts:List Int) (n j:Nat) (x:Int) (h:ts.length=j) (hj:j<n):(ts ++ List.replicate (n - j) 0).set j x=(ts ++ [x]) ++ List.replicate (n - (j+1)) 0:=by
 subst h;obtain ⟨q,hq⟩:∃ q,n - ts.length=q+1:=⟨n - ts.length - 1,by omega⟩
 have hq':n - (ts.length+1)=q:=by omega
 rw [hq,hq',List.replicate_succ,List.set_append_right _ _ (Nj _)];simp
theorem DP (cols:List Int) (k:Int) (v:Vl) (c:Int) (ks:List Ex) (ih:∀ x ∈ ks,sK cols x):sK cols (.mk k v c ks):=by
 intro B t ca ccap a cap m d w hk hc hBt ht hm0 hm hd0 hd;simp only [Ex.k,Ex.v,Ex.c,Ex.ks] at hk ⊢;have H1:=ht.lt;have H2:=ht.c1;have H3:=ht.f1;generalize hr:aU cols (.mk k v c ks) m d=r;have HR:Hid (aU cols (.mk k v c ks) m d=r):=hr;clear hr;go_enter Tryz.func197,Tryz.ntmps197;go_wp2_with fail
 have T0:=ht.count (m+1);have X0:=(au.refl t w).set 1 (.int .i64 (m+1));have SA:=mb.new (w.setCell ⟨t,1,none⟩ (.int .i64 (m+1))) k v c a ks.length cap 27;rw [Pa] at SA;have hal:Below (w.setCell ⟨t,1,none⟩ (.int .i64 (m+1))).heap.size (w.setCell ⟨t,1,none⟩ (.int .i64 (m+1))) ((w.setCell ⟨t,1,none⟩ (.int .i64 (m+1))).alloc (.cells #[.int .i64 k,.int .i64 v.1,.int .i64 v.2.1,.string v.2.2,.int .i64 c,.slice a ks.length cap] 27)):=(Nk _ _).alloc (Nj _) _;have TA:=T0.next hal;have XA:=X0.trans (au.of hal (by simp; omega))
 have zA:w.heap.size<((w.setCell ⟨t,1,none⟩ (.int .i64 (m+1))).alloc (.cells #[.int .i64 k,.int .i64 v.1,.int .i64 v.2.1,.string v.2.2,.int .i64 c,.slice a ks.length cap] 27)).heap.size:=by simp
 clear hal T0 X0 H2 H3 ht;generalize (w.setCell ⟨t,1,none⟩ (.int .i64 (m+1))).alloc (.cells #[.int .i64 k,.int .i64 v.1,.int .i64 v.2.1,.string v.2.2,.int .i64 c,.slice a ks.length cap] 27)=wA at *;have p0:=ag SA.c0;have p1:=ag SA.c1;have p2:=ag SA.c2;have p3:=ag SA.c3;have p4:=ag SA.c4;have p5:=ag SA.c5;have p6:=ag TA.c1;simp only [Np] at p1 p2 p3 p4 p5;haveI:Nonempty (bW wA):=⟨⟨_,Nk _ _⟩⟩
 refine aq (by kernel_rfl) (by kernel_rfl) ?_
 repeat (go_big_quiet_step (first | (go_at_call 223; exact bE (wK k v c a ks.length cap (m+1) d _))))
 refine wpQuiet_nil ?_;rintro w3 ⟨⟨v3,hb3⟩,h3'⟩;obtain rfl:w3=v3:=h3';have T3:=TA.next hb3;have S3:=SA.next hb3 zA;have X3:=XA.trans (au.of hb3 (by omega));have z3:=hb3.size;clear p0 p1 p2 p3 p4 p5 p6 TA SA XA this;generalize hw0:eX k ks.length (m+1) d=e0;by_cases hw:e0=0
 ·subst hw;have HW:Hid (eX k ks.length (m+1) d=0):=hw0;have hq:ks.length=cK k∧1≤k∧k≤18∧m+1≤200∧d≤20:=by
   unfold eX at hw0;by_cases g1:200<m+1∨20<d
   ·simp [g1] at hw0
   by_cases g2:k<1∨18<k
   ·simp [g1,g2] at hw0
   by_cases g3:ks.length=cK k
   ·exact ⟨g3,by omega⟩
   ·simp [g1,g2,g3] at hw0
  obtain ⟨hln,hk1,hk18,hm1,hd1⟩:=hq;have hl3:ks.length≤3:=by rw [hln]; exact tC k
  have HL:Hid (ks.length=cK k):=hln;have hmk:=Eo hl3;clear hw0 hln;obtain ⟨s0,s1,s2,s3,s4,s5⟩:=S3;simp only [Np] at s1 s2 s3 s4 s5;have zl:w.heap.size<w3.heap.size:=by omega
  go_wp2_with fail
  have S3:mb w3 w.heap.size 0 k v c a ks.length cap:=⟨s0,s1,s2,s3,s4,s5⟩
  have O4:=fr.new w3 ks.length 3;have hal:=aa w3 (.cells (Array.replicate ks.length (.int .i64 0)) 3);have T4:=T3.next hal;have S4:=S3.next hal zl;have X4:=X3.trans (au.of hal (by omega));generalize w3.alloc (.cells (Array.replicate ks.length (.int .i64 0)) 3)=w4 at *;clear hal T3 S3 X3 s0 s1 s2 s3 s4 s5 hmk hb3 z3 zA;generalize w3.heap.size=g at *
  go_loopw [38] (fun i wr=>∃ (j:Nat) (ts:List Int) (q:Int),j≤ks.length∧i = .int .i64 j∧Hid (ts.length=j)∧0≤q∧q≤200∧Hid (bJ cols ks [] (m+1) (d+1)=bJ cols (ks.drop j) ts q (d+1)) ∧
   au t w wr∧jr wr t ca cols.length ccap q∧mb wr w.heap.size 0 k v c a ks.length cap∧fr wr g (ts ++ List.replicate (ks.length - j) 0)) (fun i _=>ks.length - (intOf i).toNat)
  case atStart=>exact ⟨0,[],m+1,Nr _,rfl,rfl,by omega,hm1,rfl,X4,T4,S4,by simpa using O4⟩
  case round =>
   obtain ⟨j,ts,q,hj,rfl,HT,hq0,hq,HE,hX,hT,hS,hO⟩:=hrel;have hz:=hX.size;have hOl:=hO.lt;by_cases hlt:j<ks.length
   ·obtain ⟨b,off,ai,ci,rfl,hbl,sx,kx⟩:=(bd.next (hX.below hBt) (Nj _) hk).elem hlt;have hcr:=hc.next (hX.below hBt) (Nj _);obtain ⟨x0,x1,x2,x3,x4,x5⟩:=sx;have hal:=aa wr (.cells #[.int .i64 ks[j].k,.int .i64 ks[j].v.1,.int .i64 ks[j].v.2.1,.string ks[j].v.2.2,.int .i64 ks[j].c,.slice ai ks[j].ks.length ci] 27);have con:=ih ks[j] (Ns _) B t ca ccap ai ci q (d+1) _ (bd.next hal (by omega) kx) (hcr.next hal (by omega)) hBt (hT.next hal) hq0 hq (by omega) (by omega);go_wp2_with fail
    refine con.mono ?_;clear con;rintro e w5 ⟨rfl,hX5,hT5⟩;have X5:=(au.of hal (t:=t) (by omega)).trans hX5;have hX5':=hX.trans X5;have O5:=hO.mN X5 (by omega);have S5:=hS.mN X5 (by omega) (by omega);generalize hty:aU cols ks[j] q (d+1)=ty at *;have HY:Hid (aU cols ks[j] q (d+1)=ty):=hty;obtain ⟨t1,e1,n1⟩:=ty;clear hty hX5 hal hT hS hO x0 x1 x2 x3 x4 x5 kx hcr;by_cases he:e1=0
    ·subst he;have hn1:=BL (by rw [HY.out]:(aU cols ks[j] q (d+1)).2.1=0);rw [HY.out] at hn1;have HN:Hid (n1≤200∧q<n1):=hn1;have hlen:j<(ts ++ List.replicate (ks.length - j) 0).length:=by have:=HT.out; simp; omega
     have cc:w5.cell? ⟨g,j,none⟩=some (.int .i64 ((ts ++ List.replicate (ks.length - j) 0).getD j 0)):=by rw [O5.c j hlen]; simp [List.getD,List.getElem?_eq_getElem hlen]
     generalize (ts ++ List.replicate (ks.length - j) 0).getD j 0=old at cc;have ff:=O5.f j;have O6:=O5.set j hlen t1;rw [Ck ts ks.length j t1 HT.out hlt] at O6;have S6:=S5.Ix g j (.int .i64 t1) (by omega);have T6:=hT5.Ix g j (.int .i64 t1) (by omega);have X6:=hX5'.Hi g j (.int .i64 t1) (by omega) (by omega);clear hn1 O5 S5 hT5 hX5' X5 hlen;go_wp2
     go_roundw
     case rel=>exact ⟨j+1,ts ++ [t1],n1,by omega,by go_num,by have:=HT.out; show (ts ++ [t1]).length=j+1; simp [this],by have:=HN.out; omega,HN.out.1,by rw [HE.out,pQ cols ks ts q (d+1) j hlt (by rw [HY.out]),HY.out]; rfl,X6,T6,S6,O6⟩
     case measure=>simp [intOf]; omega
    ·have er:r=(0,e1,n1):=by
      rw [← HR.out];refine vS HW.out (ts:=ts) ?_ he;rw [HE.out,sN cols ks ts q (d+1) j hlt (by rw [HY.out]; exact he),HY.out]
     subst er;have q':(e1 != 0)=true:=by simpa using he
     clear HR O5 S5;go_wp2
     exact Nl (v:=.tuple #[.int .i64 0,.int .i64 e1]) (by simp [results,Tryz.results197,go_sem]) rfl ⟨rfl,hX5',hT5⟩
   ·have ej:j=ks.length:=by omega
    subst ej;have hts:=HT.out;rw [Nat.sub_self,List.replicate_zero,OG] at hO;have er:r=((cw cols k v c ts).1,(cw cols k v c ts).2,q):=by
     rw [← HR.out];refine uJ HW.out ?_;rw [HE.out,rV cols ks ts q (d+1) _ (Nj _)]
    have HTS:Hid (ts.length=ks.length):=hts;clear HR HE hts HT;obtain ⟨s0,s1,s2,s3,s4,s5⟩:=hS;simp only [Np] at s1 s2 s3 s4 s5;by_cases k1:k=1
    ·subst k1;have e:cw cols 1 v c ts=mJ v:=by simp [cw]
     rw [e] at er;subst er;clear e;go_wp2_with fail
     refine (Bt v _).mono ?_;rintro e w5 ⟨rfl,hb5⟩;have T5:=hT.next hb5;have X5:=hX.trans (au.of hb5 (by omega));clear s0 s1 s2 s3 s4 s5;go_wp2
     exact Nl (v:=.tuple #[.int .i64 (mJ v).1,.int .i64 (mJ v).2]) (by simp [results,Tryz.results197,go_sem]) rfl ⟨rfl,X5,T5⟩
    have n1:(k == 1)=false:=by simpa using k1
    by_cases k2:k=2
    ·subst k2;have e:cw cols 2 v c ts=kW cols c:=by simp [cw]
     rw [e] at er;subst er;clear e;have hcr:=hc.next (hX.below hBt) (Nj _);have p0:=ag hT.c0;have p4:=ag s4;haveI:Nonempty (bW wr):=⟨⟨_,Nk _ _⟩⟩
     go_wp2_with fail
     refine aq (by kernel_rfl) (by kernel_rfl) ?_
     repeat (go_big_quiet_step (first | (go_at_call 225; exact bE (AL B ca ccap cols c _ (hcr.next (bW.ok _) (by omega))))))
     refine wpQuiet_nil ?_;rintro w5 ⟨⟨v5,hb5⟩,h5⟩;obtain rfl:w5=v5:=h5;have T5:=hT.next hb5;have X5:=hX.trans (au.of hb5 (by omega));clear p0 p4 s0 s1 s2 s3 s4 s5;go_wp2
     exact Nl (v:=.tuple #[.int .i64 (kW cols c).1,.int .i64 (kW cols c).2]) (by simp [results,Tryz.results197,go_sem]) rfl ⟨rfl,X5,T5⟩
    have n2:(k == 2)=false:=by simpa using k2
    have e:cw cols k v c ts=bU (cF k ts):=by simp [cw,k1,k2]
    rw [e] at er;clear e;have con:=yq k wr.heap.size (some ⟨g,0,none⟩) ks.length ts wr (Nj _) (hO.is (by rw [HTS.out]; unfold maxLen; omega)) (by omega) hk18 (by rw [HTS.out]; exact HL.out);rw [HTS.out] at con;generalize bU (cF k ts)=rr at *;subst er;go_wp2_with fail
    refine con.mono ?_;rintro e w5 ⟨rfl,hb5⟩;have T5:=hT.next hb5;have X5:=hX.trans (au.of hb5 (by omega));clear con s0 s1 s2 s3 s4 s5;go_wp2
    exact Nl (v:=.tuple #[.int .i64 rr.1,.int .i64 rr.2]) (by simp [results,Tryz.results197,go_sem]) rfl ⟨rfl,X5,T5⟩
 ·have er:r=(0,e0,m+1):=by rw [← HR.out,← hw0,mi (by rw [hw0]; exact hw)]
  subst er;have q:(e0 != 0)=true:=by simpa using hw
  clear hw0 HR S3;go_wp2
  exact Nl (v:=.tuple #[.int .i64 0,.int .i64 e0]) (by simp [results,Tryz.results197,go_sem]) rfl ⟨rfl,X3,T3⟩
theorem Bq (cols:List Int):∀ x,sK cols x:=Ex.ind fun k v c ks ih=>DP cols k v c ks ih
theorem fX.congr {cols:List Int} {lo:Nat} {u:Value} {f f':List Vl→Vl} {w:World} (h:fX cols lo u f w) (e:∀ row,cL cols row→f row=f' row):fX cols lo u f' w:=by
 obtain ⟨g,cb,eu,eg,hd⟩:=h;exact ⟨g,cb,eu,eg,fun row a cap W hf hs hW=>by rw [← e row hf]; exact hd row a cap W hf hs hW⟩
theorem rZ {n:Nat} (h:n≤8) (w:World):(Instr.makeSlice 183 (.int .i64 n) (.int .i64 n)).run Tryz.prog w = .ok (.slice (some ⟨w.heap.size,0,none⟩) n n) (w.alloc (.cells (Array.replicate n Value.nilFunc) 179)):=by
 obtain rfl | rfl | rfl | rfl | rfl | rfl | rfl | rfl | rfl:n=0∨n=1∨n=2∨n=3∨n=4∨n=5∨n=6∨n=7∨n=8:=by omega
 all_goals kernel_rfl
structure xt (cols:List Int) (K kb M:Nat) (W:World) (ks:List Ex) (j:Nat):Prop where
 lt:K<M∧kb<M∧K≠kb∧M≤W.heap.size
 box:W.cell? ⟨kb,0,none⟩=some (.slice (some ⟨K,0,none⟩) ks.length ks.length)
 room:∀ i,i<ks.length→(∃ u,W.cell? ⟨K,i,none⟩=some u)∧W.frozen? ⟨K,i,none⟩=false
 done:∀ i (h:i<ks.length),i<j→∃ u,W.cell? ⟨K,i,none⟩=some u∧fX cols M u (fun row=>bB row ks[i]) W
theorem xt.next {cols:List Int} {K kb M:Nat} {W w1:World} {ks:List Ex} {j:Nat} (h:xt cols K kb M W ks j) (hb:Below W.heap.size W w1):xt cols K kb M w1 ks j:=by
 obtain ⟨h1,h2,h3,h4⟩:=h;have z:=hb.size;refine ⟨⟨h1.1,h1.2.1,h1.2.2.1,by omega⟩,(hb.cell (p:=⟨kb,0,none⟩) (by show kb<_; omega)).trans h2,fun i hi=>?_,fun i hi hj=>?_⟩
 ·obtain ⟨⟨u,hu⟩,hf⟩:=h3 i hi;exact ⟨⟨u,(hb.cell (p:=⟨K,i,none⟩) (by show K<_; omega)).trans hu⟩,(hb.frozen (p:=⟨K,i,none⟩) (by show K<_; omega)).trans hf⟩
 ·obtain ⟨u,hu,ha⟩:=h4 i hi hj;exact ⟨u,(hb.cell (p:=⟨K,i,none⟩) (by show K<_; omega)).trans hu,ha.next (ax.of hb)⟩
theorem xt.store {cols:List Int} {K kb M:Nat} {W:World} {ks:List Ex} {j:Nat} (h:xt cols K kb M W ks j) (hj:j<ks.length) {u:Value} (ha:fX cols M u (fun row=>bB row ks[j]) W):xt cols K kb M (W.setCell ⟨K,j,none⟩ u) ks (j+1):=by
 obtain ⟨h1,h2,h3,h4⟩:=h;have hS:ax M W (W.setCell ⟨K,j,none⟩ u):=(ax.refl M W).set K j u (by omega);have same:(W.setCell ⟨K,j,none⟩ u).cell? ⟨K,j,none⟩=some u:=ON _ _ _ (by obtain ⟨⟨u',hu⟩,_⟩:=h3 j hj; rw [hu]; rfl);refine ⟨⟨h1.1,h1.2.1,h1.2.2.1,by simpa using h1.2.2.2⟩,?_,fun i hi=>?_,fun i hi hij=>?_⟩
 ·rw [Nv _ _ _ _ (by intro e; injection e with e; omega)]; exact h2
 ·obtain ⟨⟨u',hu⟩,hf⟩:=h3 i hi;refine ⟨?_,by rw [N8]; exact hf⟩;by_cases e:i=j
  ·subst e; exact ⟨_,same⟩
  ·exact ⟨u',by rw [Nv _ _ _ _ (by intro e; injection e with _ e; omega)]; exact hu⟩
 ·by_cases e:i=j
  ·subst e; exact ⟨u,same,ha.next hS⟩
  ·obtain ⟨u',hu,ha'⟩:=h4 i hi (by omega);exact ⟨u',by rw [Nv _ _ _ _ (by intro e; injection e with _ e; omega)]; exact hu,ha'.next hS⟩
theorem xt.kids {cols:List Int} {K kb M lo:Nat} {W:World} {ks:List Ex} (h:xt cols K kb M W ks ks.length) (h1:lo≤K) (h2:lo≤kb):jP cols lo W kb ks:=by
 obtain ⟨l1,l2,_,l4⟩:=h;refine ⟨K,h2,by omega,h1,by omega,l2,fun i hi=>?_⟩;obtain ⟨u,hu,ha⟩:=l4 i hi hi;exact ⟨u,hu,ha.down (by omega)⟩
theorem xt.new {cols:List Int} {w:World} {n:Nat} (ks:List Ex) (hn:n=ks.length) (T T':TypeId) {o:Obj} :
  xt cols (w.heap.size+1) (w.heap.size+2) (w.heap.size+3) (((w.alloc o).alloc (.cells (Array.replicate n Value.nilFunc) T)).alloc (.cells #[.slice (some ⟨w.heap.size+1,0,none⟩) n n] T')) ks 0:=by
 subst hn;refine ⟨⟨by omega,by omega,by omega,by simp⟩,?_,fun i hi=>⟨⟨Value.nilFunc,?_⟩,?_⟩,fun i _ h=>absurd h (N7 _)⟩
 ·rw [Og _ _ _ _ (by simp)]; rfl
 ·rw [World.cell?_alloc_past _ _ _ (by simp),Og _ _ _ _ (by simp)];simp [hi]
 ·rw [World.frozen?_alloc_past _ _ _ (by simp)];exact OQ _ _ _ _ (by simp)
theorem tS.down {lo lo':Nat} {u:Value} {f:Vl→Vl→Vl} {w:World} (h:tS lo u f w) (hl:lo'≤lo):tS lo' u f w:=by
 obtain ⟨g,cb,e,eg,hd⟩:=h;exact ⟨g,cb,e,eg,fun p q W hp hq hW=>hd p q W hp hq (hW.up hl)⟩
theorem kv (row:List Vl) (ks:List Ex) (i:Nat) (hi:i<ks.length):(mQ row ks).getD i fH=bB row ks[i]:=by
 rw [iI];simp [List.getD,hi]
def rp (cols:List Int) (x:Ex):Prop :=
 ∀ (B:Nat) (a:Option Addr) (cap:Nat) (w:World),bd B w a x.ks→B≤w.heap.size →
  Calls Tryz.prog 184 #[lC x.k x.v x.c a x.ks.length cap] w fun e w'=>∃ u,e = .returned u∧fX cols w.heap.size u (fun row=>bB row x) w'∧Below w.heap.size w w'
theorem G7 (cols:List Int) (k:Int) (v:Vl) (c:Int) (ks:List Ex) (t:Int) (ht:pE cols (.mk k v c ks)=some t) (ih:∀ x ∈ ks,rp cols x):rp cols (.mk k v c ks):=by
 obtain ⟨h1,h18,hl,ts,hts,hn⟩:=mG ht;intro B a cap w hk hB;simp only [Ex.k,Ex.v,Ex.c,Ex.ks] at hk ⊢;have hl3:ks.length≤8:=by have:=tC k; omega
 have HL:Hid (ks.length=cK k):=hl;have hmk:=rZ hl3;have S0:=mb.new w k v c a ks.length cap 27;have HI:Hid (∀ x ∈ ks,rp cols x):=ih;clear hl ih;obtain ⟨s0,s1,s2,s3,s4,s5⟩:=S0;simp only [Np] at s1 s2 s3 s4 s5;have S1:mb (w.alloc (.cells #[.int .i64 k,.int .i64 v.1,.int .i64 v.2.1,.string v.2.2,.int .i64 c,.slice a ks.length cap] 27)) w.heap.size 0 k v c a ks.length cap:=⟨s0,s1,s2,s3,s4,s5⟩
 have F0:xt cols (w.heap.size+1) (w.heap.size+2) (w.heap.size+3) (((w.alloc (.cells #[.int .i64 k,.int .i64 v.1,.int .i64 v.2.1,.string v.2.2,.int .i64 c,.slice a ks.length cap] 27)).alloc (.cells (Array.replicate ks.length Value.nilFunc) 179)).alloc (.cells #[.slice (some ⟨w.heap.size+1,0,none⟩) ks.length ks.length] 183)) ks 0:=xt.new ks rfl _ _
 have hA:Below w.heap.size w (((w.alloc (.cells #[.int .i64 k,.int .i64 v.1,.int .i64 v.2.1,.string v.2.2,.int .i64 c,.slice a ks.length cap] 27)).alloc (.cells (Array.replicate ks.length Value.nilFunc) 179)).alloc (.cells #[.slice (some ⟨w.heap.size+1,0,none⟩) ks.length ks.length] 183)):=(((Nk _ _).alloc (Nj _) _).alloc (by simp) _).alloc (by simp; omega) _
 have S3:mb (((w.alloc (.cells #[.int .i64 k,.int .i64 v.1,.int .i64 v.2.1,.string v.2.2,.int .i64 c,.slice a ks.length cap] 27)).alloc (.cells (Array.replicate ks.length Value.nilFunc) 179)).alloc (.cells #[.slice (some ⟨w.heap.size+1,0,none⟩) ks.length ks.length] 183)) w.heap.size 0 k v c a ks.length cap:=(S1.next ((Nk _ _).alloc (Nj _) _) (by simp)).next ((Nk _ _).alloc (Nj _) _) (by simp; omega);clear S1;go_enter Tryz.func184,Tryz.ntmps184;go_wp2_with fail
 generalize ((w.alloc (.cells #[.int .i64 k,.int .i64 v.1,.int .i64 v.2.1,.string v.2.2,.int .i64 c,.slice a ks.length cap] 27)).alloc (.cells (Array.replicate ks.length Value.nilFunc) 179)).alloc (.cells #[.slice (some ⟨w.heap.size+1,0,none⟩) ks.length ks.length] 183)=w3 at *;clear s0 s1 s2 s3 s4 s5 hmk;go_loopw [14] (fun i wr=>∃ j:Nat,j≤ks.length∧i = .int .i64 j∧xt cols (w.heap.size+1) (w.heap.size+2) (w.heap.size+3) wr ks j∧mb wr w.heap.size 0 k v c a ks.length cap∧Below w.heap.size w wr) (fun i _=>ks.length - (intOf i).toNat)
 case atStart=>exact ⟨0,Nr _,rfl,F0,S3,hA⟩
 case round =>
  clear F0 S3 hA;obtain ⟨j,hj,rfl,F,S,hb⟩:=hrel;have hz:=hb.size;have hzF:=F.lt.2.2.2;by_cases hlt:j<ks.length
  ·obtain ⟨b,off,ai,ci,rfl,hbl,sx,kx⟩:=(bd.next hb hB hk).elem hlt;obtain ⟨x0,x1,x2,x3,x4,x5⟩:=sx;have hal:=aa wr (.cells #[.int .i64 ks[j].k,.int .i64 ks[j].v.1,.int .i64 ks[j].v.2.1,.string ks[j].v.2.2,.int .i64 ks[j].c,.slice ai ks[j].ks.length ci] 27)
   have hd:Below (wr.alloc (.cells #[.int .i64 ks[j].k,.int .i64 ks[j].v.1,.int .i64 ks[j].v.2.1,.string ks[j].v.2.2,.int .i64 ks[j].c,.slice ai ks[j].ks.length ci] 27)).heap.size (wr.alloc (.cells #[.int .i64 ks[j].k,.int .i64 ks[j].v.1,.int .i64 ks[j].v.2.1,.string ks[j].v.2.2,.int .i64 ks[j].c,.slice ai ks[j].ks.length ci] 27)) (wr.alloc (.cells #[.int .i64 ks[j].k,.int .i64 ks[j].v.1,.int .i64 ks[j].v.2.1,.string ks[j].v.2.2,.int .i64 ks[j].c,.slice ai ks[j].ks.length ci] 27)).drew:=(Nk _ _).drew
   have con:=HI.out ks[j] (Ns _) B ai ci (wr.alloc (.cells #[.int .i64 ks[j].k,.int .i64 ks[j].v.1,.int .i64 ks[j].v.2.1,.string ks[j].v.2.2,.int .i64 ks[j].c,.slice ai ks[j].ks.length ci] 27)).drew (bd.next (hal.trans (hd.mono hal.size)) (by omega) kx) (by have:=hal.size; have:=hd.size; omega);have Fk:=F.next hal;have bx:=Fk.box;obtain ⟨⟨uo,ro⟩,fo⟩:=Fk.room j hlt;have Sk:=mb.new wr ks[j].k ks[j].v ks[j].c ai ks[j].ks.length ci 27;obtain ⟨k0,k1,k2,k3,k4,k5⟩:=Sk;simp only [Np] at k1 k2 k3 k4 k5;have hjz:(j:Int)<ks.length:=by omega
   go_wp2_with fail
   clear x0 x1 x2 x3 x4 x5 kx;have hal2:=hal;have zk:(wr.alloc (.cells #[.int .i64 ks[j].k,.int .i64 ks[j].v.1,.int .i64 ks[j].v.2.1,.string ks[j].v.2.2,.int .i64 ks[j].c,.slice ai ks[j].ks.length ci] 27)).heap.size=wr.heap.size+1:=by simp
   generalize wr.alloc (.cells #[.int .i64 ks[j].k,.int .i64 ks[j].v.1,.int .i64 ks[j].v.2.1,.string ks[j].v.2.2,.int .i64 ks[j].c,.slice ai ks[j].ks.length ci] 27)=wk at *;go_region_with (go_at_call 184; refine con.mono ?_; rintro e w1 ⟨u,rfl,hA1,hb1⟩; have F1:=(Fk.next hd).next hb1; have q1:=F1.box; obtain ⟨⟨un,q2⟩,q3⟩:=F1.room j hlt; obtain ⟨ug,ucb,eu⟩:∃ g cb,u = .func (.func g) #[] cb:=(by obtain ⟨g,cb,e,_⟩:=hA1; exact ⟨g,cb,e⟩); subst eu)
   all_goals (
    go_wp2
    go_roundw
    case rel =>
     refine ⟨j+1,by omega,by go_num,F1.store hlt (hA1.down (by show w.heap.size+3≤wk.drew.heap.size; have:=hd.size; omega)),((S.next hal2 (by omega)).next (hd.trans (hb1.mono hd.size)) (by omega)).Ix _ _ _ (by omega),?_⟩;exact (chain (chain hb hal2) (hd.trans (hb1.mono hd.size))).setCell (p:=⟨w.heap.size+1,j,none⟩) (by show w.heap.size≤w.heap.size+1; omega) _
    case measure=>simp [intOf]; omega)
  ·have e:j=ks.length:=by omega
   subst e;obtain ⟨s0,s1,s2,s3,s4,s5⟩:=S;simp only [Np] at s1 s2 s3 s4 s5;by_cases k1:k=1
   ·subst k1;go_wp2_with fail
    refine (Ew cols v wr).mono ?_;rintro e w1 ⟨u,rfl,hA1,hb1⟩;go_wp2
    go_ret;exact ⟨_,rfl,(hA1.down hz).congr (fun row _=>by rw [bB,mK,if_pos rfl]),chain hb hb1⟩
   have n1:(k == 1)=false:=by simpa using k1
   by_cases k2:k=2
   ·subst k2;unfold cw at hn;rw [if_neg (by decide),if_pos rfl] at hn;obtain ⟨q0,q1,_⟩:=wI hn;clear hn;go_wp2_with fail
    refine (Ez cols c wr q0 q1).mono ?_;rintro e w1 ⟨u,rfl,hA1,hb1⟩;go_wp2
    go_ret;exact ⟨_,rfl,(hA1.down hz).congr (fun row _=>by rw [bB,mK,if_neg (by decide),if_pos rfl]),chain hb hb1⟩
   have n2:(k == 2)=false:=by simpa using k2
   have KF:jP cols w.heap.size wr (w.heap.size+2) ks:=F.kids (by omega) (by omega);by_cases k3:k=3
   ·subst k3;have l1:ks.length=1:=HL.out;have HK:Hid (jP cols w.heap.size wr (w.heap.size+2) ks):=KF;have H1:Hid (ks.length=1):=l1;clear KF l1;go_wp2
    go_ret;refine ⟨_,rfl,⟨205,_,rfl,enters_of Tryz.func205 (by kernel_rfl) rfl,?_⟩,hb⟩;intro row a cap W hf hs hW;have e:bB row (.mk 3 v c ks)=oX (bB row (ks[0]'(by rw [H1.out]; omega))):=by rw [bB,mK,if_neg (by decide),if_neg (by decide),if_pos rfl,kv row ks 0 (by rw [H1.out]; omega)]
    show Calls _ _ _ _ fun e w'=>e = .returned (fW (bB row (.mk 3 v c ks)))∧_
    rw [e];exact EY cols w.heap.size (w.heap.size+2) ks a row cap W (HK.out.next hW) (by rw [H1.out]; omega) hf hs
   have n3:(k == 3)=false:=by simpa using k3
   by_cases k16:k=16
   ·subst k16;have l1:ks.length=1:=HL.out;have HK:Hid (jP cols w.heap.size wr (w.heap.size+2) ks):=KF;have H1:Hid (ks.length=1):=l1;clear KF l1;go_wp2
    go_ret;refine ⟨_,rfl,⟨207,_,rfl,enters_of Tryz.func207 (by kernel_rfl) rfl,?_⟩,hb⟩;intro row a cap W hf hs hW;have e:bB row (.mk 16 v c ks)=zT (some ((bB row (ks[0]'(by rw [H1.out]; omega))).1 == 1)):=by rw [bB,mK,if_neg (by decide),if_neg (by decide),if_neg (by decide),if_pos rfl,kv row ks 0 (by rw [H1.out]; omega)]
    show Calls _ _ _ _ fun e w'=>e = .returned (fW (bB row (.mk 16 v c ks)))∧_
    rw [e];exact Dh cols w.heap.size (w.heap.size+2) ks a row cap W (HK.out.next hW) (by rw [H1.out]; omega) hf hs
   have n16:(k == 16)=false:=by simpa using k16
   by_cases k17:k=17
   ·subst k17;have l3:ks.length=3:=HL.out;have m0:0<ks.length:=by omega
    have m1:1<ks.length:=by omega
    have m2:2<ks.length:=by omega
    have bx:=F.box;obtain ⟨u0,c0,A0⟩:=F.done 0 m0 m0;obtain ⟨u1,c1,A1⟩:=F.done 1 m1 m1;obtain ⟨u2,c2,A2⟩:=F.done 2 m2 m2;have A0:=A0.down (show w.heap.size≤w.heap.size+3 by omega);have A1:=A1.down (show w.heap.size≤w.heap.size+3 by omega);have A2:=A2.down (show w.heap.size≤w.heap.size+3 by omega);obtain ⟨g0,cb0,rfl⟩:∃ g cb,u0 = .func (.func g) #[] cb:=by obtain ⟨g,cb,e,_⟩:=A0; exact ⟨g,cb,e⟩
    obtain ⟨g1,cb1,rfl⟩:∃ g cb,u1 = .func (.func g) #[] cb:=by obtain ⟨g,cb,e,_⟩:=A1; exact ⟨g,cb,e⟩
    obtain ⟨g2,cb2,rfl⟩:∃ g cb,u2 = .func (.func g) #[] cb:=by obtain ⟨g,cb,e,_⟩:=A2; exact ⟨g,cb,e⟩
    have p0:=ag bx;have p1:=ag c0;have p2:=ag c1;have p3:=ag c2;have z0:(0:Int)<(ks.length:Int):=by omega
    have z1:(1:Int)<(ks.length:Int):=by omega
    have z2:(2:Int)<(ks.length:Int):=by omega
    have H3:Hid (ks.length=3):=l3;clear l3 KF;go_wp2_with fail
    have hB0:Below wr.heap.size wr wr.drew:=(Nk _ _).drew;refine jI (by kernel_rfl) ?_;refine aO (some 45) (i:=0) (v:=.slice (some ⟨w.heap.size+1,0,none⟩) ks.length ks.length) rfl rfl (by kernel_rfl) (by kernel_rfl) (by kernel_rfl) (fun _ _ _ h=>h) (Or.inl ⟨rfl,fun n=>?_⟩) hB0 ?_
    ·go_simp
    simp only [Act.put,pA,pB,pC];refine aO (some 46) (i:=1) (v:=.pointer (some ⟨w.heap.size+1,0,none⟩)) rfl rfl (by kernel_rfl) (by kernel_rfl) (by kernel_rfl) (fun _ _ _ h=>h) (Or.inl ⟨rfl,fun n=>?_⟩) hB0 ?_
    ·go_simp
    simp only [Act.put,pA,pB,pC];refine aO (some 47) (i:=2) (v:=.func (.func g0) #[] cb0) rfl rfl (by kernel_rfl) (by kernel_rfl) (by kernel_rfl) (fun _ _ _ h=>h) (Or.inl ⟨rfl,fun n=>?_⟩) hB0 ?_
    ·go_simp
    simp only [Act.put,pA,pB,pC];refine aO (some 48) (i:=3) (v:=.slice (some ⟨w.heap.size+1,0,none⟩) ks.length ks.length) rfl rfl (by kernel_rfl) (by kernel_rfl) (by kernel_rfl) (fun _ _ _ h=>h) (Or.inl ⟨rfl,fun n=>?_⟩) hB0 ?_
    ·go_simp
    simp only [Act.put,pA,pB,pC];refine aO (some 49) (i:=4) (v:=.pointer (some ⟨w.heap.size+1,1,none⟩)) rfl rfl (by kernel_rfl) (by kernel_rfl) (by kernel_rfl) (fun _ _ _ h=>h) (Or.inl ⟨rfl,fun n=>?_⟩) hB0 ?_
    ·go_simp
    simp only [Act.put,pA,pB,pC];refine aO (some 50) (i:=5) (v:=.func (.func g1) #[] cb1) rfl rfl (by kernel_rfl) (by kernel_rfl) (by kernel_rfl) (fun _ _ _ h=>h) (Or.inl ⟨rfl,fun n=>?_⟩) hB0 ?_
    ·go_simp
    simp only [Act.put,pA,pB,pC];refine aO (some 51) (i:=6) (v:=.slice (some ⟨w.heap.size+1,0,none⟩) ks.length ks.length) rfl rfl (by kernel_rfl) (by kernel_rfl) (by kernel_rfl) (fun _ _ _ h=>h) (Or.inl ⟨rfl,fun n=>?_⟩) hB0 ?_
    ·go_simp
    simp only [Act.put,pA,pB,pC];refine aO (some 52) (i:=7) (v:=.pointer (some ⟨w.heap.size+1,2,none⟩)) rfl rfl (by kernel_rfl) (by kernel_rfl) (by kernel_rfl) (fun _ _ _ h=>h) (Or.inl ⟨rfl,fun n=>?_⟩) hB0 ?_
    ·go_simp
    simp only [Act.put,pA,pB,pC];refine aO (some 53) (i:=8) (v:=.func (.func g2) #[] cb2) rfl rfl (by kernel_rfl) (by kernel_rfl) (by kernel_rfl) (fun _ _ _ h=>h) (Or.inl ⟨rfl,fun n=>?_⟩) hB0 ?_
    ·go_simp
    simp only [Act.put,pA,pB,pC];clear p0 p1 p2 p3;refine gd (rs:=[9]) (by kernel_rfl) (by simp) ?_;intro w5 hb5 i hi;obtain rfl:i=9:=by simpa using hi
    clear hi;have D5:=hB0.trans (hb5.mono hB0.size);refine wpOp_step rfl (fun K hK=>?_);go_simp;refine (Dk cols w.heap.size _ _ _ _ _ _ w5 (by have:=D5.size; omega) (A0.next (ax.of D5)) (A1.next (ax.of D5)) (A2.next (ax.of D5))).mono ?_;rintro e w6 ⟨u,rfl,hA6,hb6⟩;have D6:=D5.trans (hb6.mono D5.size);refine hK _ _ ⟨D6,?_⟩;clear hK K;refine gd (rs:=[10]) (by kernel_rfl) (by simp) ?_;intro w7 hb7 i hi;obtain rfl:i=10:=by simpa using hi
    clear hi;have D7:=D6.trans (hb7.mono D6.size);refine wpOp_step rfl (fun K hK=>?_);go_simp;refine hK _ _ ⟨D7,?_⟩;clear hK K;refine nW (by kernel_rfl) ?_;intro w8 hb8;have D8:=D7.trans (hb8.mono D7.size);go_wp2
    go_ret;refine ⟨_,rfl,(hA6.next (ax.of (chain hb7 hb8))).congr (fun row _=>?_),chain hb D8⟩;rw [bB,mK,if_neg k1,if_neg k2,if_neg k3,if_neg k16,if_pos (show (17:Int)=17 from rfl),kv row ks 0 m0,kv row ks 1 m1,kv row ks 2 m2]
   have n17:(k == 17)=false:=by simpa using k17
   have l2:ks.length=2:=by rw [HL.out]; unfold cK; rw [if_neg (by omega),if_neg (by omega),if_neg k17]
   have H2:Hid (ks.length=2):=l2;have HK:Hid (jP cols w.heap.size wr (w.heap.size+2) ks):=KF;clear l2 KF;go_wp2_with fail
   refine (GZ k (by omega) (by omega) wr).mono ?_;rintro e w1 ⟨u,rfl,hF,hb1⟩;obtain ⟨g0,cb0,rfl⟩:∃ g cb,u = .func (.func g) #[] cb:=by obtain ⟨g,cb,e,_⟩:=hF; exact ⟨g,cb,e⟩
   have hal:=aa w1 (.cells #[.func (.func g0) #[] cb0] 240);have hb1':=chain hb hb1;go_wp2
   go_ret;refine ⟨_,rfl,⟨211,_,rfl,enters_of Tryz.func211 (by kernel_rfl) rfl,?_⟩,chain hb1' hal⟩;intro row a cap W hf hs hW;have m0:0<ks.length:=by rw [H2.out]; omega
   have m1:1<ks.length:=by rw [H2.out]; omega
   have e:bB row (.mk k v c ks)=qD k (bB row ks[0]) (bB row ks[1]):=by rw [bB,mK,if_neg k1,if_neg k2,if_neg k3,if_neg k16,if_neg k17,kv row ks 0 m0,kv row ks 1 m1]
   show Calls _ _ _ _ fun e w'=>e = .returned (fW (bB row (.mk k v c ks)))∧_
   rw [e];have zz:=hb1'.size;exact DM cols w.heap.size (w.heap.size+2) w1.heap.size k ks a row cap W _ ((hW.cell (p:=⟨w1.heap.size,0,none⟩) zz (by simp)).trans (by simp)) (((hF.down (by omega)).next (ax.of hal)).next hW) (((HK.out.next (ax.of hb1)).next (ax.of hal)).next hW) m1 hf hs
    (qX hf _ _ (jV hts 0 m0)).1 (qX hf _ _ (jV hts 1 m1)).1
theorem CT (cols:List Int):∀ x t,pE cols x=some t→rp cols x:=by
 refine Ex.ind fun k v c ks ih t ht=>G7 cols k v c ks t ht fun x hx=>?_
 obtain ⟨_,_,_,ts,hts,_⟩:=mG ht;obtain ⟨i,hi,rfl⟩:=Ov hx;exact ih _ hx _ (jV hts i hi)
theorem rL (cols:List Int):∀ (x:Ex) (n d:Int),¬ (aU cols x n d).2.1=0→(aU cols x n d).1=0
 | .mk k v c ks,n,d=>by
  rw [aU]
  split
  ·intro _; rfl
  split
  ·intro _; rfl
  ·generalize (bJ cols ks [] (n+1) (d+1)).2.1=ts
   unfold cw
   split
   ·unfold mJ; split <;> simp
   split
   ·unfold kW; split <;> simp
   ·cases cF k ts <;> simp [bU]
theorem tG {cols:List Int} {x:Ex} (h1:cols.length≤16) (h2:eQ cols=true):an cols x=((aU cols x 0 1).1,(aU cols x 0 1).2.1):=by
 unfold an;rw [if_neg (by omega),if_neg (by simp [h2])];by_cases h:(aU cols x 0 1).2.1=0
 ·rw [if_pos h,h]
 ·rw [if_neg h,rL cols x 0 1 h]
theorem uQ (l:List Int) (k:Nat) (h:l.length≤k):eQ (l.drop k)=true:=by rw [NI h]; rfl
theorem nK (l:List Int) (k:Nat) (h:k<l.length) (e:l[k]<1∨4<l[k]):eQ (l.drop k)=false:=by
 rw [Nq h,eQ,Pc];have:(decide (1≤l[k]) && decide (l[k]≤4))=false:=by
  rcases e with e | e
  ·have:decide (1≤l[k])=false:=decide_eq_false (by omega);rw [this]; rfl
  ·have:decide (l[k]≤4)=false:=decide_eq_false (by omega);rw [this,Bool.and_false]
 rw [this,Bool.false_and]
theorem sS (l:List Int) (k:Nat) (h:k<l.length) (e:¬ l[k]<1) (e':¬ 4<l[k]):eQ (l.drop k)=eQ (l.drop (k+1)):=by
 rw [Nq h,eQ,Pc];have:(decide (1≤l[k]) && decide (l[k]≤4))=true:=by
  rw [decide_eq_true (by omega),decide_eq_true (by omega)]; rfl
 rw [this,Bool.true_and];rfl
theorem rf (cols:List Int) (x:Ex) (ca:Option Addr) (ccap:Nat) (a:Option Addr) (cap:Nat) (w:World) (hk:bd w.heap.size w a x.ks) (hc:bc w.heap.size w ca cols) :
  Calls Tryz.prog 171 #[.slice ca cols.length ccap,lC x.k x.v x.c a x.ks.length cap] w fun e w'=>e = .returned (.tuple #[.int .i64 (an cols x).1,.int .i64 (an cols x).2])∧Below w.heap.size w w':=by
 have hl:=hc.1;unfold maxLen at hl;generalize hr:an cols x=r;have HR:Hid (an cols x=r):=hr;clear hr;by_cases h16:16<cols.length
 ·have er:r=(0,5):=by rw [← HR.out,an,if_pos h16]
  subst er;clear HR;go_enter Tryz.func171,Tryz.ntmps171;go_wp2
  exact Nl (v:=.tuple #[.int .i64 0,.int .i64 5]) (by simp [results,Tryz.results171,go_sem]) rfl ⟨rfl,(Nk _ _).alloc (Nj _) _⟩
 go_enter Tryz.func171,Tryz.ntmps171;go_wp2_with fail
 have S0:=mb.new w x.k x.v x.c a x.ks.length cap 27;have hal:=aa w (.cells (ig x a cap) 27);have z0:w.heap.size<(w.alloc (.cells (ig x a cap) 27)).heap.size:=by simp
 generalize w.alloc (.cells (ig x a cap) 27)=w0 at *;go_loopw [14] (fun i wr=>∃ j:Nat,j≤cols.length∧i = .int .i64 j∧Hid (eQ cols=eQ (cols.drop j))∧wr=w0) (fun i _=>cols.length - (intOf i).toNat)
 case atStart=>exact ⟨0,Nr _,rfl,rfl,rfl⟩
 case round =>
  obtain ⟨j,hj,rfl,HE,rfl⟩:=hrel;by_cases hlt:j<cols.length
  ·obtain ⟨b,off,rfl,hbl,c⟩:=(hc.next hal (Nj _)).elem hlt;by_cases g1:cols[j]<1
   ·have er:r=(0,1):=by
     rw [← HR.out,an,if_neg h16,HE.out,nK cols j hlt (.inl g1),if_pos rfl]
    subst er;clear HR HE;go_wp2
    exact Nl (v:=.tuple #[.int .i64 0,.int .i64 1]) (by simp [results,Tryz.results171,go_sem]) rfl ⟨rfl,hal⟩
   by_cases g2:4<cols[j]
   ·have er:r=(0,1):=by
     rw [← HR.out,an,if_neg h16,HE.out,nK cols j hlt (.inr g2),if_pos rfl]
    subst er;clear HR HE;go_wp2
    exact Nl (v:=.tuple #[.int .i64 0,.int .i64 1]) (by simp [results,Tryz.results171,go_sem]) rfl ⟨rfl,hal⟩
   have HC:Hid (eQ (cols.drop j)=eQ (cols.drop (j+1))):=sS cols j hlt g1 g2;go_wp2
   go_roundw
   case rel=>exact ⟨j+1,by omega,by go_num,HE.out.trans HC.out,trivial⟩
   case measure=>simp [intOf]; omega
  ·have hcb:eQ cols=true:=by rw [HE.out,uQ cols j (by omega)]
   have er:r=((aU cols x 0 1).1,(aU cols x 0 1).2.1):=by rw [← HR.out,tG (by omega) hcb]
   have T0:jr (wr.alloc (.cells #[.slice ca cols.length ccap,.int .i64 0] 228)) wr.heap.size ca cols.length ccap 0:=⟨by simp,by simp,by simp,by simp⟩
   have hal2:=aa wr (.cells #[.slice ca cols.length ccap,.int .i64 0] 228);have con:=Bq cols x w.heap.size wr.heap.size ca ccap a cap 0 1 _ (bd.next (chain hal hal2) (Nj _) hk) (hc.next (chain hal hal2) (Nj _)) hal.size T0 (by omega) (by omega) (by omega) (by omega);generalize aU cols x 0 1=ty at *;subst er;clear HR HE hcb;obtain ⟨s0,s1,s2,s3,s4,s5⟩:=S0;simp only [Np] at s1 s2 s3 s4 s5;go_wp2_with fail
   refine con.mono ?_;rintro e w5 ⟨rfl,hX,_⟩;have hb5:=(chain hal hal2).trans (hX.below hal.size);clear con s0 s1 s2 s3 s4 s5 hX T0 hal2;go_wp2
   exact Nl (v:=.tuple #[.int .i64 ty.1,.int .i64 ty.2.1]) (by simp [results,Tryz.results171,go_sem]) rfl ⟨rfl,hb5⟩
end Go.Proofs.YtohjlfhmnmcndaaGreat
namespace Go.Proofs.YtohjlfhmnmcndaaGreat
open Go.RowKit Go.Lib Go.Shelf
set_option maxRecDepth 100000
set_option maxHeartbeats 16000000
theorem zG (r:List Vl) (w:Int):∀ z:List Zp,∀ y ∈ gK z r w,y ∈ z∨y.1=bq r
 | []=>by
  unfold gK
  split
  ·simp
  ·intro y hy; simp at hy; subst hy; exact .inr rfl
 | x :: t=>by
  have ih:=zG r w t
  unfold gK
  split
  ·intro y hy
   rcases List.mem_cons.1 hy with rfl | hy
   ·exact .inl (by simp)
   ·rcases ih y hy with h | h
    ·exact .inl (by simp [h])
    ·exact .inr h
  ·split
   ·split
    ·intro y hy; exact .inl (by simp [hy])
    ·intro y hy
     rcases List.mem_cons.1 hy with rfl | hy
     ·exact .inr rfl
     ·exact .inl (by simp [hy])
   ·split
    ·intro y hy; exact .inl hy
    ·intro y hy
     rcases List.mem_cons.1 hy with rfl | hy
     ·exact .inr rfl
     ·exact .inl hy
theorem Ae (l:List Zp):∀ z:List Zp,∀ y ∈ l.foldl (fun z x=>gK z x.1 x.2) z,y ∈ z∨∃ x ∈ l,y.1=bq x.1:=by
 induction l with
 | nil=>intro z y hy; exact .inl hy
 | cons x r ih =>
  intro z y hy;rcases ih _ y hy with h | ⟨u,hu,e⟩
  ·rcases zG _ _ _ y h with h | h
   ·exact .inl h
   ·exact .inr ⟨x,by simp,h⟩
  ·exact .inr ⟨u,by simp [hu],e⟩
theorem vQ (l:List Zp):∀ y ∈ canon l,∃ x ∈ l,y.1=bq x.1:=fun y hy=>by
 rcases Ae l [] y hy with h | h
 ·cases h
 ·exact h
theorem zh {l t:List Zp} (h:∀ q,wt l q=wt t q):canon l=canon t :=
 kz _ _ (dH l) (dH t) fun q=>by rw [dO,dO,h]
theorem uN {l:List Zp} (h:aH l=0):mI (canon l)=false∧(canon l).length≤400:=by
 unfold aH at h;by_cases h1:mI (canon l)=true
 ·rw [if_pos h1] at h; omega
 ·rw [if_neg h1] at h;by_cases h2:400<(canon l).length
  ·rw [if_pos h2] at h; omega
  ·exact ⟨by simpa using h1,by omega⟩
theorem BZ {z:List Zp} (h:mI z=false):∀ x ∈ z,hJ x.2=true:=by
 unfold mI at h;rw [List.any_eq_false] at h;intro x hx
 simpa using h x hx
theorem qs {l:List Zp} (hr:∀ x ∈ l,aJ x.1=0) (h:aH l=0):aF (canon l)=0:=by
 obtain ⟨h1,h2⟩:=uN h;refine (bD _).2 ⟨h2,fun y hy=>?_,(dH l).gj⟩;obtain ⟨x,hx,e⟩:=vQ l y hy;refine ⟨?_,(dH l).ne y hy,BZ h1 y hy⟩;rw [e,gZ];exact hr x hx
end Go.Proofs.YtohjlfhmnmcndaaGreat
namespace Go.Proofs.YtohjlfhmnmcndaaGreat
set_option maxRecDepth 100000
set_option maxHeartbeats 16000000
def bO (cols:List Int) (x:Ex):Int:=if (an cols x).2≠0 then (an cols x).2 else if (an cols x).1≠2∧(an cols x).1≠1 then 9 else 0
def fB (cols:List Int):List Zp→Int
 | []=>0
 | x :: r=>if di cols x.1=0 then fB cols r else di cols x.1
def bz (cols:List Int) (z:List Zp):Int:=if 8<cols.length then 5 else if aF z≠0 then aF z else fB cols z
def dU (cols:List Int):List Ex→Int
 | []=>0
 | x :: r=>if (an cols x).2=0 then dU cols r else (an cols x).2
def aP (cols:List Int) (xs:List Ex):Int:=if 8<xs.length then 5 else dU cols xs
theorem vG (cols:List Int) (z:List Zp) (k:Nat) (h:z.length≤k):fB cols (z.drop k)=0:=by rw [NI h]; rfl
theorem uy (cols:List Int) (z:List Zp) (k:Nat) (h:k<z.length) (e:¬ di cols z[k].1=0):fB cols (z.drop k)=di cols z[k].1:=by
 rw [Nq h,fB,if_neg e]
theorem rK (cols:List Int) (z:List Zp) (k:Nat) (h:k<z.length) (e:di cols z[k].1=0):fB cols (z.drop k)=fB cols (z.drop (k+1)):=by
 rw [Nq h,fB,if_pos e]
theorem rG (cols:List Int) (z:List Ex) (k:Nat) (h:z.length≤k):dU cols (z.drop k)=0:=by rw [NI h]; rfl
theorem so (cols:List Int) (z:List Ex) (k:Nat) (h:k<z.length) (e:¬ (an cols z[k]).2=0):dU cols (z.drop k)=(an cols z[k]).2:=by
 rw [Nq h,dU,if_neg e]
theorem qt (cols:List Int) (z:List Ex) (k:Nat) (h:k<z.length) (e:(an cols z[k]).2=0):dU cols (z.drop k)=dU cols (z.drop (k+1)):=by
 rw [Nq h,dU,if_pos e]
theorem yF (cols:List Int):∀ z:List Zp,fB cols z=0↔∀ x ∈ z,cL cols x.1
 | []=>by simp [fB]
 | x :: r=>by
  have ih:=yF cols r
  rw [fB]
  by_cases h:di cols x.1=0
  ·rw [if_pos h,ih]
   simp [(xF cols x.1).1 h]
  ·rw [if_neg h]
   constructor
   ·intro e; exact absurd e h
   ·intro e; exact absurd ((xF cols x.1).2 (e x (by simp))) h
theorem vH (cols:List Int):∀ z:List Ex,dU cols z=0↔∀ x ∈ z,(an cols x).2=0
 | []=>by simp [dU]
 | x :: r=>by
  have ih:=vH cols r
  rw [dU]
  by_cases h:(an cols x).2=0
  ·rw [if_pos h,ih]
   simp [h]
  ·rw [if_neg h]
   simp [h]
structure eU (cols:List Int) (z:List Zp):Prop where
 iu:cols.length≤8
 set:aF z=0
 fit:∀ x ∈ z,cL cols x.1
theorem dK (cols:List Int) (z:List Zp):bz cols z=0↔eU cols z:=by
 unfold bz;by_cases h8:8<cols.length
 ·rw [if_pos h8];constructor
  ·intro h; omega
  ·rintro ⟨h,_,_⟩; omega
 ·rw [if_neg h8];by_cases hw:aF z=0
  ·rw [if_neg (by simpa using hw),yF];exact ⟨fun h=>⟨by omega,hw,h⟩,fun h=>h.fit⟩
  ·rw [if_pos (by simpa using hw)];exact ⟨fun h=>absurd h hw,fun h=>h.set⟩
theorem GK {cols:List Int} {x:Ex} (h:bO cols x=0):(an cols x).2=0∧((an cols x).1=1∨(an cols x).1=2):=by
 unfold bO at h;by_cases h1:(an cols x).2=0
 ·rw [if_neg (by simpa using h1)] at h;by_cases h2:(an cols x).1≠2∧(an cols x).1≠1
  ·rw [if_pos h2] at h; omega
  ·exact ⟨h1,by omega⟩
 ·rw [if_pos h1] at h;exact absurd h h1
theorem AK {cols:List Int} {x:Ex} (h:(an cols x).2=0):pE cols x=some (an cols x).1:=((sV cols x).1 h).ty
theorem vr (row:List Vl) (i:Nat):cB (row.getD i fH)=(bq row).getD i fH:=by
 simp only [bq,List.getD,List.getElem?_map];cases row[i]? <;> rfl
theorem Ek (row row':List Vl) (h:bq row=bq row'):∀ x,bB row x=bB row' x:=by
 refine Ex.ind fun k v c ks ih=>?_
 have e:mQ row ks=mQ row' ks:=by
  rw [iI,iI];exact List.map_congr_left ih
 rw [bB,bB,e];unfold mK;rw [vr,vr,h]
theorem vO {row row':List Vl} (h:aG row row'=0) (x:Ex):bB row x=bB row' x:=Ek row row' (jK h) x
def bF (x:Ex) (row:List Vl):Bool:=uw (bB row x) == some true
def dV (xs:List Ex) (row:List Vl):List Vl:=xs.map (bB row)
theorem kC {row row':List Vl} (h:aG row row'=0) (x:Ex):bF x row=bF x row':=by unfold bF; rw [vO h]
theorem EO {row row':List Vl} (h:aG row row'=0) (xs:List Ex):dV xs row=dV xs row':=List.map_congr_left fun x _=>vO h x
theorem jz {a a' b b':List Vl} (h:aG a a'=0) (k:aG b b'=0):aG (a ++ b) (a' ++ b')=0:=by
 have e:bq (a ++ b)=bq (a' ++ b'):=by
  have h1:=jK h;have h2:=jK k;unfold bq at *;rw [Om,Om,h1,h2]
 rw [← du,← iP,e];exact dF _
def fK (g:List Vl→Int):List Zp→Int
 | []=>0
 | x :: r=>g x.1*x.2+fK g r
def qC {β:Type} (g:List Vl→β):Prop:=∀ a b,aG a b=0→g a=g b
theorem Bs (g:List Vl→Int) (l t:List Zp):fK g (l ++ t)=fK g l+fK g t:=by
 induction l with
 | nil=>simp [fK]
 | cons x r ih=>rw [OD,fK,fK,ih]; omega
theorem CC {g:List Vl→Int} (hg:qC g) (r:List Vl) (w:Int):∀ z:List Zp,fK g (gK z r w)=fK g z+g r*w
 | []=>by
  have e:g (bq r)=g r:=hg _ _ (by rw [du]; exact dF r)
  unfold gK
  split
  ·rename_i h; subst h; simp [fK]
  ·simp [fK,e]
 | x :: t=>by
  have ih:=CC hg r w t
  have e:g (bq r)=g r:=hg _ _ (by rw [du]; exact dF r)
  unfold gK
  split
  ·rw [fK,ih,fK]; omega
  ·split
   ·rename_i c
    have e2:g x.1=g r:=hg _ _ c
    split
    ·rename_i h0
     rw [fK,e2]
     have:g r*(w+x.2)=0:=by rw [h0,Int.mul_zero]
     rw [Int.mul_add] at this
     omega
    ·rw [fK,fK,e,e2,Int.mul_add]
     omega
   ·split
    ·rename_i h0; subst h0; simp
    ·simp only [fK,e]; omega
theorem AG {g:List Vl→Int} (hg:qC g) (l:List Zp):∀ z:List Zp,fK g (l.foldl (fun z x=>gK z x.1 x.2) z)=fK g z+fK g l:=by
 induction l with
 | nil=>intro z; simp [fK]
 | cons x r ih=>intro z; rw [OL,ih,CC hg,fK]; omega
theorem ke {g:List Vl→Int} (hg:qC g) (l:List Zp):fK g (canon l)=fK g l:=by
 unfold canon;rw [AG hg];simp [fK]
theorem vF {g g':List Vl→Int} {l:List Zp} (h:∀ x ∈ l,g x.1=g' x.1):fK g l=fK g' l:=by
 induction l with
 | nil=>rfl
 | cons x r ih=>rw [fK,fK,h x (by simp),ih (fun y hy=>h y (by simp [hy]))]
theorem Jb (g g':List Vl→Int) (l:List Zp):fK (fun r=>g r+g' r) l=fK g l+fK g' l:=by
 induction l with
 | nil=>rfl
 | cons x r ih=>rw [fK,fK,fK,ih,Int.add_mul]; omega
theorem JU {a b:List Zp} (h:∀ q,wt a q=wt b q) {g:List Vl→Int} (hg:qC g):fK g a=fK g b:=by
 rw [← ke hg a,← ke hg b,zh h]
def lK (x:Ex) (z:List Zp):List Zp:=z.filter fun p=>bF x p.1
def jC (xs:List Ex) (z:List Zp):List Zp:=z.map fun p=>(dV xs p.1,p.2)
theorem pN (p:List Vl→Bool) (hp:qC p) (q:List Vl) (l:List Zp):wt (l.filter fun x=>p x.1) q=if p q then wt l q else 0:=by
 induction l with
 | nil=>simp [wt]
 | cons x r ih =>
  rw [List.filter_cons];by_cases c:aG x.1 q=0
  ·have e:=hp _ _ c;by_cases h:p x.1=true
   ·rw [if_pos h,wt,wt,ih];rw [e] at h;rw [if_pos h,if_pos h]
   ·rw [if_neg h,ih];rw [e] at h;rw [if_neg h,if_neg h]
  ·by_cases h:p x.1=true
   ·rw [if_pos h,wt,if_neg c,ih,wt,if_neg c]; simp
   ·rw [if_neg h,ih,wt,if_neg c]; simp
theorem Ab (x:Ex):qC (bF x):=fun _ _ h=>kC h x
theorem iS (xs:List Ex) (q:List Vl) (l:List Zp):wt (jC xs l) q=fK (fun r=>if aG (dV xs r) q=0 then 1 else 0) l:=by
 induction l with
 | nil=>rfl
 | cons x r ih =>
  show wt ((dV xs x.1,x.2) :: jC xs r) q=_;rw [wt,fK,ih]
  split <;> simp
theorem nV (xs:List Ex) (q:List Vl):qC (fun r=>if aG (dV xs r) q=0 then (1:Int) else 0):=fun a b h=>by simp only [EO h]
theorem BI {l:List Zp} (h:fL l):canon l=aR (fun w=>w) l :=
 (zw (kH _ _ h) fun q=>j6 (fun w=>w) rfl q l h).symm
theorem Ar {z l:List Zp} (hz:aF z=0) (hl:l.Sublist z):aH l=0:=by
 obtain ⟨h1,h2,h3⟩:=(bD z).1 hz;have hr:fL l:=h3.sublist hl;have e:=BI hr;have o:mI (canon l)=false:=by
  rw [e,nD];exact xq fun j hj=>(h2 _ (hl.subset (Ns hj))).2.2
 have n:(canon l).length≤400:=by
  rw [e];have:=iV (fun w=>w) l;have:=hl.length_le;omega
 unfold aH;rw [o,if_neg (by decide),if_neg (by omega)]
theorem pW {z:List Zp} (hz:aF z=0) (p:Zp→Bool):aH (z.filter p)=0:=Ar hz List.filter_sublist
def eV (cols:List Int) (x:Ex) (z:List Zp):Int:=if bO cols x≠0 then bO cols x else if bz cols z≠0 then bz cols z else 0
def iq (cols:List Int) (x:Ex) (z:List Zp):List Zp:=if eV cols x z=0 then canon (lK x z) else []
def iv (cols:List Int) (xs:List Ex) (z:List Zp):Int:=if aP cols xs≠0 then aP cols xs else if bz cols z≠0 then bz cols z else aH (jC xs z)
def nd (cols:List Int) (xs:List Ex) (z:List Zp):List Zp:=if iv cols xs z=0 then canon (jC xs z) else []
theorem yd {cols:List Int} {x:Ex} {z:List Zp} (h:eV cols x z=0):bO cols x=0∧eU cols z:=by
 unfold eV at h;by_cases h1:bO cols x=0
 ·rw [if_neg (by simpa using h1)] at h;by_cases h2:bz cols z=0
  ·exact ⟨h1,(dK _ _).1 h2⟩
  ·rw [if_pos h2] at h; exact absurd h h2
 ·rw [if_pos h1] at h; exact absurd h h1
theorem wL {cols:List Int} {xs:List Ex} {z:List Zp} (h:iv cols xs z=0):aP cols xs=0∧eU cols z∧aH (jC xs z)=0:=by
 unfold iv at h;by_cases h1:aP cols xs=0
 ·rw [if_neg (by simpa using h1)] at h;by_cases h2:bz cols z=0
  ·rw [if_neg (by simpa using h2)] at h;exact ⟨h1,(dK _ _).1 h2,h⟩
  ·rw [if_pos h2] at h; exact absurd h h2
 ·rw [if_pos h1] at h; exact absurd h h1
theorem nU {cols:List Int} {xs:List Ex} (h:aP cols xs=0):xs.length≤8∧∀ x ∈ xs,(an cols x).2=0:=by
 unfold aP at h;by_cases h8:8<xs.length
 ·rw [if_pos h8] at h; omega
 ·rw [if_neg h8,vH] at h;exact ⟨by omega,h⟩
theorem jT {cols:List Int} {x:Ex} {z:List Zp} (h:eV cols x z=0) (q:List Vl):wt (iq cols x z) q=if bF x q then wt z q else 0:=by
 unfold iq lK;rw [if_pos h,dO,pN _ (Ab x)]
theorem mB {cols:List Int} {xs:List Ex} {z:List Zp} (h:iv cols xs z=0) (q:List Vl):wt (nd cols xs z) q=fK (fun r=>if aG (dV xs r) q=0 then 1 else 0) z:=by
 unfold nd;rw [if_pos h,dO,iS]
end Go.Proofs.YtohjlfhmnmcndaaGreat
namespace Go.Proofs.YtohjlfhmnmcndaaGreat
open Go.RowKit
set_option maxRecDepth 100000
set_option maxHeartbeats 16000000
theorem iQ (cols:List Int) (x:Ex) (ca:Option Addr) (ccap:Nat) (a:Option Addr) (cap:Nat) (w:World) (hk:bd w.heap.size w a x.ks) (hc:bc w.heap.size w ca cols) (h0:(an cols x).2=0) :
  Calls Tryz.prog 148 #[.slice ca cols.length ccap,lC x.k x.v x.c a x.ks.length cap] w fun e w'=>∃ u,e = .returned (.tuple #[.int .i64 (an cols x).1,u,.int .i64 0])∧fX cols w.heap.size u (fun row=>bB row x) w'∧Below w.heap.size w w':=by
 have S0:=mb.new w x.k x.v x.c a x.ks.length cap 27;have hal:=aa w (.cells (ig x a cap) 27);have z1:(w.alloc (.cells (ig x a cap) 27)).heap.size=w.heap.size+1:=by simp
 have con:=rf cols x ca ccap a cap _ ((bd.next hal (Nj _) hk).up hal.size) ((hc.next hal (Nj _)).up hal.size);have ra:=CT cols x _ (AK h0);rw [h0] at con;generalize (an cols x).1=t at *;go_enter Tryz.func148,Tryz.ntmps148;go_wp2_with fail
 generalize w.alloc (.cells (ig x a cap) 27)=w1 at *;refine con.mono ?_;rintro e w2 ⟨rfl,hb2⟩;have hA:=chain hal hb2;obtain ⟨s0,s1,s2,s3,s4,s5⟩:=S0.next hb2 (by omega);simp only [Np] at s1 s2 s3 s4 s5;have con2:=ra w.heap.size a cap w2 (bd.next hA (Nj _) hk) hA.size;clear con ra S0;go_wp2_with fail
 refine con2.mono ?_;rintro e w3 ⟨u,rfl,hA3,hb3⟩;clear s0 s1 s2 s3 s4 s5 con2;obtain ⟨g,cb,rfl⟩:∃ g cb,u = .func (.func g) #[] cb:=by obtain ⟨g,cb,e,_⟩:=hA3; exact ⟨g,cb,e⟩
 go_wp2
 exact Nl (v:=.tuple #[.int .i64 t,.func (.func g) #[] cb,.int .i64 0]) (by simp [results,Tryz.results148,go_sem]) rfl ⟨_,rfl,hA3.down hA.size,chain hA hb3⟩
theorem lY (cols:List Int) (x:Ex) (ca:Option Addr) (ccap:Nat) (a:Option Addr) (cap:Nat) (w:World) (hk:bd w.heap.size w a x.ks) (hc:bc w.heap.size w ca cols) (h0:¬ (an cols x).2=0) :
  Calls Tryz.prog 148 #[.slice ca cols.length ccap,lC x.k x.v x.c a x.ks.length cap] w fun e w'=>e = .returned (.tuple #[.int .i64 0,.nilFunc,.int .i64 (an cols x).2])∧Below w.heap.size w w':=by
 have hal:=aa w (.cells (ig x a cap) 27);have con:=rf cols x ca ccap a cap _ ((bd.next hal (Nj _) hk).up hal.size) ((hc.next hal (Nj _)).up hal.size);have q:((an cols x).2 != 0)=true:=by simpa using h0
 generalize (an cols x).1=t at *;generalize (an cols x).2=t2 at *;go_enter Tryz.func148,Tryz.ntmps148;go_wp2_with fail
 generalize w.alloc (.cells (ig x a cap) 27)=w1 at *;refine con.mono ?_;rintro e w2 ⟨rfl,hb2⟩;have hA:=chain hal hb2;clear con;go_wp2
 exact Nl (v:=.tuple #[.int .i64 0,.nilFunc,.int .i64 t2]) (by simp [results,Tryz.results148,go_sem]) rfl ⟨rfl,hA⟩
def jU (cols:List Int) (lo:Nat) (u:Value) (x:Ex) (w:World):Prop :=
 ∃ g cb,u = .func (.func g) #[] cb∧(∀ args w,(callFunc g args).run Tryz.prog w = .ok (.enter g args) w) ∧
  ∀ (row:List Vl) (a:Option Addr) (cap:Nat) (W:World),cL cols row→aM W a row→ax lo w W →
   Calls Tryz.prog g (#[.slice a row.length cap] ++ cb) W fun e w'=>e = .returned (.bool (bF x row))∧Below W.heap.size W w'
theorem jU.next {cols:List Int} {lo:Nat} {u:Value} {x:Ex} {w w1:World} (h:jU cols lo u x w) (hb:ax lo w w1):jU cols lo u x w1:=by
 obtain ⟨g,cb,e,eg,hd⟩:=h;exact ⟨g,cb,e,eg,fun row a cap W hf hs hW=>hd row a cap W hf hs (hb.trans hW)⟩
theorem jU.down {cols:List Int} {lo lo':Nat} {u:Value} {x:Ex} {w:World} (h:jU cols lo u x w) (hl:lo'≤lo):jU cols lo' u x w:=by
 obtain ⟨g,cb,e,eg,hd⟩:=h;exact ⟨g,cb,e,eg,fun row a cap W hf hs hW=>hd row a cap W hf hs (hW.up hl)⟩
theorem Hz (cols:List Int) (lo:Nat) (x:Ex) (u:Value) (b:Nat) (a:Option Addr) (row:List Vl) (cap:Nat) (W:World) (h0:W.cell? ⟨b,0,none⟩=some u) (hA:fX cols lo u (fun row=>bB row x) W) (hf:cL cols row) (hs:aM W a row) :
  Calls Tryz.prog 149 #[.slice a row.length cap,.pointer (some ⟨b,0,none⟩)] W fun e w'=>e = .returned (.bool (bF x row))∧Below W.heap.size W w':=by
 obtain ⟨g,cb,rfl,eg,d⟩:=hA;have d:=d row a cap W hf hs (ax.refl _ _);dsimp only at d;unfold bF;generalize bB row x=v at *;show Calls _ _ _ _ fun e w'=>e = .returned (.bool (cls v.1 v.2.1 == some true))∧_
 go_enter Tryz.func149,Tryz.ntmps149;go_wp2_with (go_at_fn g; refine d.mono ?_; rintro e w1 ⟨rfl,hb1⟩)
 refine (kl _ _ _ _).mono ?_;rintro e w2 ⟨rfl,hb2⟩;go_wp2
 go_ret;exact ⟨rfl,chain hb1 hb2⟩
theorem vP (cols:List Int) (x:Ex) (ca:Option Addr) (ccap:Nat) (a:Option Addr) (cap:Nat) (w:World) (hk:bd w.heap.size w a x.ks) (hc:bc w.heap.size w ca cols) (h:bO cols x=0) :
  Calls Tryz.prog 118 #[.slice ca cols.length ccap,lC x.k x.v x.c a x.ks.length cap] w fun e w'=>∃ u,e = .returned (.tuple #[u,.int .i64 0])∧jU cols w.heap.size u x w'∧Below w.heap.size w w':=by
 obtain ⟨h0,ht⟩:=GK h;have S0:=mb.new w x.k x.v x.c a x.ks.length cap 27;have hal:=aa w (.cells (ig x a cap) 27);have con:=iQ cols x ca ccap a cap _ ((bd.next hal (Nj _) hk).up hal.size) ((hc.next hal (Nj _)).up hal.size) h0;clear h h0;generalize (an cols x).1=t at *;go_enter Tryz.func118,Tryz.ntmps118;go_wp2_with fail
 generalize w.alloc (.cells (ig x a cap) 27)=w1 at *;refine con.mono ?_;rintro e w2 ⟨u,rfl,hA2,hb2⟩;have hA:=chain hal hb2;clear con S0;have hA2:=hA2.down hal.size;obtain ⟨g,cb,rfl⟩:∃ g cb,u = .func (.func g) #[] cb:=by obtain ⟨g,cb,e,_⟩:=hA2; exact ⟨g,cb,e⟩
 have hal3:=aa w2 (.cells #[.func (.func g) #[] cb] 179);have fin:∀ W,ax w.heap.size (w2.alloc (.cells #[.func (.func g) #[] cb] 179)) W→∀ (row:List Vl) (a:Option Addr) (cap:Nat),cL cols row→aM W a row→Calls Tryz.prog 149 #[.slice a row.length cap,.pointer (some ⟨w2.heap.size,0,none⟩)] W fun e w'=>e = .returned (.bool (bF x row))∧Below W.heap.size W w':=fun W hW row a cap hf hs =>
  Hz cols w.heap.size x _ w2.heap.size a row cap W ((hW.cell (p:=⟨w2.heap.size,0,none⟩) hA.size (by simp)).trans (by simp)) ((hA2.next (ax.of hal3)).next hW) hf hs
 have HF:Hid _:=fin;clear fin hA2;rcases ht with rfl | rfl
 rotate_left
 all_goals
  go_wp2
  exact Nl (v:=.tuple #[.func (.func 149) #[] #[.pointer (some ⟨w2.heap.size,0,none⟩)],.int .i64 0]) (by simp [results,Tryz.results118,go_sem]) rfl ⟨_,rfl,⟨149,_,rfl,enters_of Tryz.func149 (by kernel_rfl) rfl,fun row a cap W hf hs hW=>HF.out W hW row a cap hf hs⟩,chain hA hal3⟩
theorem tm (cols:List Int) (x:Ex) (ca:Option Addr) (ccap:Nat) (a:Option Addr) (cap:Nat) (w:World) (hk:bd w.heap.size w a x.ks) (hc:bc w.heap.size w ca cols) (h:¬ bO cols x=0) :
  Calls Tryz.prog 118 #[.slice ca cols.length ccap,lC x.k x.v x.c a x.ks.length cap] w fun e w'=>e = .returned (.tuple #[.nilFunc,.int .i64 (bO cols x)])∧Below w.heap.size w w':=by
 have hal:=aa w (.cells (ig x a cap) 27);have hk':=(bd.next hal (Nj _) hk).up hal.size;have hc':=(hc.next hal (Nj _)).up hal.size;by_cases h0:(an cols x).2=0
 ·have e:bO cols x=9:=by
   unfold bO at h ⊢;rw [if_neg (by simpa using h0)] at h ⊢;by_cases q:(an cols x).1≠2∧(an cols x).1≠1
   ·rw [if_pos q]
   ·rw [if_neg q] at h; exact absurd rfl h
  have ht:¬ (an cols x).1=2∧¬ (an cols x).1=1:=by
   unfold bO at h;rw [if_neg (by simpa using h0)] at h;by_cases q:(an cols x).1≠2∧(an cols x).1≠1
   ·exact q
   ·rw [if_neg q] at h; exact absurd rfl h
  rw [e];have con:=iQ cols x ca ccap a cap _ hk' hc' h0;clear h h0 e;generalize (an cols x).1=t at *;have t2:(t != 2)=true:=by simpa using ht.1
  have t1:(t != 1)=true:=by simpa using ht.2
  go_enter Tryz.func118,Tryz.ntmps118;go_wp2_with fail
  generalize w.alloc (.cells (ig x a cap) 27)=w1 at *;refine con.mono ?_;rintro e w2 ⟨u,rfl,hA2,hb2⟩;have hA:=chain hal hb2;clear con;obtain ⟨g,cb,rfl⟩:∃ g cb,u = .func (.func g) #[] cb:=by obtain ⟨g,cb,e,_⟩:=hA2; exact ⟨g,cb,e⟩
  have hal3:=aa w2 (.cells #[.func (.func g) #[] cb] 179);clear hA2;go_wp2
  exact Nl (v:=.tuple #[.nilFunc,.int .i64 9]) (by simp [results,Tryz.results118,go_sem]) rfl ⟨rfl,chain hA hal3⟩
 ·have e:bO cols x=(an cols x).2:=by unfold bO; rw [if_pos h0]
  rw [e];have con:=lY cols x ca ccap a cap _ hk' hc' h0;have q:((an cols x).2 != 0)=true:=by simpa using h0
  clear h e h0;generalize (an cols x).2=t2 at *;go_enter Tryz.func118,Tryz.ntmps118;go_wp2_with fail
  generalize w.alloc (.cells (ig x a cap) 27)=w1 at *;refine con.mono ?_;rintro e w2 ⟨rfl,hb2⟩;have hA:=chain hal hb2;have hal3:=aa w2 (.cells #[.nilFunc] 179);clear con;go_wp2
  exact Nl (v:=.tuple #[.nilFunc,.int .i64 t2]) (by simp [results,Tryz.results118,go_sem]) rfl ⟨rfl,chain hA hal3⟩
def BU (W:World) (B n:Nat) (f:Nat→Vl) (k:Nat):Prop:=∃ xs,W.ownsRow B 24 3 (.slice (some ⟨B,0,none⟩) n n) n xs∧∀ j:Nat,j<n→j<k→xs[j*3]? = some (.int .i64 (f j).1)∧xs[j*3+1]? = some (.int .i64 (f j).2.1)∧xs[j*3+2]? = some (.string (f j).2.2)
theorem BU.step {W:World} {B n:Nat} {f:Nat→Vl} {k:Nat} (h:BU W B n f k) (hk:k<n) :
  BU (((W.setCell ⟨B,k*3,none⟩ (.int .i64 (f k).1)).setCell ⟨B,k*3+1,none⟩ (.int .i64 (f k).2.1)).setCell ⟨B,k*3+2,none⟩ (.string (f k).2.2)) B n f (k+1):=by
 obtain ⟨xs,h1,h2⟩:=h;have lx:=h1.1;refine ⟨_,((((h1.stored (k*3) _).1.stored (k*3+1) _).1).stored (k*3+2) _).1,?_⟩;intro j hj hjk;by_cases e:j=k
 ·subst e;refine ⟨?_,?_,?_⟩ <;> simp [List.getElem?_set,lx] <;> omega
 ·obtain ⟨g0,g1,g2⟩:=h2 j hj (by omega);refine ⟨?_,?_,?_⟩
  ·rw [NB (by omega),NB (by omega),NB (by omega)]; exact g0
  ·rw [NB (by omega),NB (by omega),NB (by omega)]; exact g1
  ·rw [NB (by omega),NB (by omega),NB (by omega)]; exact g2
theorem BU.next {W w1:World} {B n:Nat} {f:Nat→Vl} {k:Nat} (h:BU W B n f k) (hb:Below W.heap.size W w1):BU w1 B n f k:=by
 obtain ⟨xs,h1,h2⟩:=h;exact ⟨xs,aS h1 hb,h2⟩
theorem BU.cells {W:World} {B n:Nat} {f:Nat→Vl} {k:Nat} (h:BU W B n f k) (hk:k<n):(∃ u0 u1 u2,W.cell? ⟨B,k*3,none⟩=some u0∧W.cell? ⟨B,k*3+1,none⟩=some u1∧W.cell? ⟨B,k*3+2,none⟩=some u2)∧W.frozen? ⟨B,k*3,none⟩=false∧W.frozen? ⟨B,k*3+1,none⟩=false∧W.frozen? ⟨B,k*3+2,none⟩=false∧B<W.heap.size:=by
 obtain ⟨xs,h1,h2⟩:=h;have lx:=h1.1;refine ⟨⟨xs[k*3]'(by omega),xs[k*3+1]'(by omega),xs[k*3+2]'(by omega),?_,?_,?_⟩,h1.frozenAt _,h1.frozenAt _,h1.frozenAt _,(h1.lt B rfl).2⟩
 ·rw [h1.cellAt _ (by omega)]; exact NF (by omega)
 ·rw [h1.cellAt _ (by omega)]; exact NF (by omega)
 ·rw [h1.cellAt _ (by omega)]; exact NF (by omega)
theorem BU.done {W:World} {B n:Nat} {f:Nat→Vl} (h:BU W B n f n) (vs:List Vl) (hn:n=vs.length) (hv:∀ j (hj:j<vs.length),f j=vs[j]) (h8:vs.length≤100):aM W (some ⟨B,0,none⟩) vs∧gm W (some ⟨B,0,none⟩):=by
 obtain ⟨xs,h1,h2⟩:=h;subst hn;refine ⟨⟨by unfold maxLen; omega,.inr ⟨B,0,rfl,?_,(h1.lt B rfl).2⟩⟩,?_⟩
 ·intro i hi;obtain ⟨g0,g1,g2⟩:=h2 i hi hi;rw [hv i hi] at g0 g1 g2;refine ⟨?_,?_,?_⟩
  ·rw [h1.cellAt _ (by omega),← g0]; congr 1; omega
  ·rw [h1.cellAt _ (by omega),← g1]; congr 1; omega
  ·rw [h1.cellAt _ (by omega),← g2]; congr 1; omega
 ·intro b off e;obtain ⟨_,⟨e',_⟩ | ⟨g,cap,cur,e',_,hh,_⟩⟩:=h1
  ·cases e'
  ·simp only [Value.slice.injEq,OO,Addr.mk.injEq] at e e';obtain ⟨rfl,_⟩:=e;rw [← e'.1.1] at hh;exact ⟨_,_,hh⟩
def mT (B:Nat) (W:World) (l:List Vl):Prop:=aM W (some ⟨B,0,none⟩) l∧gm W (some ⟨B,0,none⟩)
def kj (cols:List Int) (lo:Nat) (u:Value) (xs:List Ex) (w:World):Prop :=
 ∃ g cb,u = .func (.func g) #[] cb∧(∀ args w,(callFunc g args).run Tryz.prog w = .ok (.enter g args) w) ∧
  ∀ (row:List Vl) (a:Option Addr) (cap:Nat) (W:World),cL cols row→aM W a row→ax lo w W →
   Calls Tryz.prog g (#[.slice a row.length cap] ++ cb) W fun e w'=>e = .returned (.slice (some ⟨W.heap.size,0,none⟩) xs.length xs.length)∧mT W.heap.size w' (dV xs row)∧Below W.heap.size W w'
theorem kj.next {cols:List Int} {lo:Nat} {u:Value} {xs:List Ex} {w w1:World} (h:kj cols lo u xs w) (hb:ax lo w w1):kj cols lo u xs w1:=by
 obtain ⟨g,cb,e,eg,hd⟩:=h;exact ⟨g,cb,e,eg,fun row a cap W hf hs hW=>hd row a cap W hf hs (hb.trans hW)⟩
theorem kj.down {cols:List Int} {lo lo':Nat} {u:Value} {xs:List Ex} {w:World} (h:kj cols lo u xs w) (hl:lo'≤lo):kj cols lo' u xs w:=by
 obtain ⟨g,cb,e,eg,hd⟩:=h;exact ⟨g,cb,e,eg,fun row a cap W hf hs hW=>hd row a cap W hf hs (hW.up hl)⟩
theorem G8 (cols:List Int) (lo:Nat) (vb:Nat) (xs:List Ex) (a:Option Addr) (row:List Vl) (cap:Nat) (W:World) (hK:jP cols lo W vb xs) (h8:xs.length≤8) (hf:cL cols row) (hs:aM W a row) :
  Calls Tryz.prog 151 #[.slice a row.length cap,.pointer (some ⟨vb,0,none⟩)] W fun e w'=>e = .returned (.slice (some ⟨W.heap.size,0,none⟩) xs.length xs.length)∧mT W.heap.size w' (dV xs row)∧Below W.heap.size W w':=by
 obtain ⟨i0,hi,hz0,hz1,hz2⟩:=info_parts Tryz.sL;obtain ⟨K,k1,k2,k3,k4,k5,k6⟩:=hK;have HK:Hid (∀ (i:Nat) (h:i<xs.length),∃ u,W.cell? ⟨K,i,none⟩=some u∧fX cols lo u (fun row=>bB row xs[i]) W):=k6;go_enter Tryz.func151,Tryz.ntmps151;go_wp2_with (first | (at_make; refine wpList_make_full _ rfl _ _ 56 rfl W.heap.size 24 i0 _ 3 Tryz.underlying56 hi hz0 hz1 .i64 .i64 xs.length xs.length xs.length rfl rfl rfl rfl (by rw [hz2]; omega) (by unfold maxLen; omega) (Nj _) ?_))
 intro w1 hown hgrow;have hb0:Below W.heap.size W w1:=(Nk _ _).grown hgrow (Nj _) (by simp);have hB0:BU w1 W.heap.size xs.length (fun j=>bB row (xs.getD j (.mk 0 fH 0 []))) 0:=⟨_,hown,fun j _ hj=>absurd hj (N7 _)⟩
 have c1:=(hb0.cell (p:=⟨vb,0,none⟩) k2).trans k5;clear hown hgrow k5 k6;go_wp2_with fail
 clear c1;go_loopw [12] (fun i wr=>∃ k:Nat,k≤xs.length∧i = .int .i64 k∧BU wr W.heap.size xs.length (fun j=>bB row (xs.getD j (.mk 0 fH 0 []))) k∧Below W.heap.size W wr) (fun i _=>xs.length - (intOf i).toNat)
 case atStart=>exact ⟨0,Nr _,rfl,hB0,hb0⟩
 case round =>
  obtain ⟨k,hk,rfl,HB,hb⟩:=hrel;have hz:=hb.size;by_cases hlt:k<xs.length
  ·obtain ⟨u,cu,A⟩:=HK.out k hlt;have cu:=(hb.cell (p:=⟨K,k,none⟩) k4).trans cu;obtain ⟨g,cb,rfl,eg,d⟩:=A;have d:=d row a cap wr hf (hs.next hb) (ax.of hb);dsimp only at d;have ev:bB row xs[k]=(fun j=>bB row (xs.getD j (.mk 0 fH 0 []))) k:=by simp [List.getD,hlt]
   rw [ev] at d;generalize (fun j=>bB row (xs.getD j (.mk 0 fH 0 [])))=f at *;have i0:(0:Int)≤(k:Int):=by omega
   have i1:(k:Int)<(xs.length:Int):=by omega
   go_wp2_with (go_at_fn g; refine d.mono ?_; rintro e w2 ⟨rfl,hb2⟩; have HB2:=HB.next hb2; obtain ⟨⟨u0,u1,u2,d0,d1,d2⟩,f0,f1,f2,hlb⟩:=HB2.cells hlt; have zz:=hb2.size)
   go_roundw
   case rel =>
    refine ⟨k+1,by omega,by go_num,?_,?_⟩
    ·exact HB2.step hlt
    ·exact (((chain hb hb2).setCell (p:=⟨W.heap.size,k*3,none⟩) (Nj _) _).setCell (p:=⟨W.heap.size,k*3+1,none⟩) (Nj _) _).setCell (p:=⟨W.heap.size,k*3+2,none⟩) (Nj _) _
   case measure=>simp [intOf]; omega
  ·have e:k=xs.length:=by omega
   subst e;go_wp2
   go_ret;exact ⟨rfl,HB.done (dV xs row) (by simp [dV]) (fun j hj=>by simp [dV] at hj; simp [dV,List.getD,hj]) (by simp [dV]; omega),hb⟩
theorem xt.LI {cols:List Int} {w:World} {n:Nat} (ks:List Ex) (hn:n=ks.length) (T T':TypeId) :
  xt cols w.heap.size (w.heap.size+1) (w.heap.size+2) ((w.alloc (.cells (Array.replicate n Value.nilFunc) T)).alloc (.cells #[.slice (some ⟨w.heap.size,0,none⟩) n n] T')) ks 0:=by
 subst hn;refine ⟨⟨by omega,by omega,by omega,by simp⟩,?_,fun i hi=>⟨⟨Value.nilFunc,?_⟩,?_⟩,fun i _ h=>absurd h (N7 _)⟩
 ·rw [Og _ _ _ _ (by simp)]; rfl
 ·rw [World.cell?_alloc_past _ _ _ (by simp),Og _ _ _ _ rfl];simp [hi]
 ·rw [World.frozen?_alloc_past _ _ _ (by simp)];exact OQ _ _ _ _ rfl
theorem xb (cols:List Int) (xs:List Ex) (ca:Option Addr) (ccap:Nat) (xa:Option Addr) (xcap:Nat) (w:World) (hk:bd w.heap.size w xa xs) (hc:bc w.heap.size w ca cols) :
  Calls Tryz.prog 121 #[.slice ca cols.length ccap,.slice xa xs.length xcap] w fun e w'=>∃ u,e = .returned (.tuple #[u,.int .i64 (aP cols xs)])∧((aP cols xs=0∧kj cols w.heap.size u xs w')∨(¬ aP cols xs=0∧u = .nilFunc))∧Below w.heap.size w w':=by
 by_cases h8:8<xs.length
 ·have e:aP cols xs=5:=by simp [aP,h8]
  rw [e];have hz:(8:Int)<(xs.length:Int):=by omega
  go_enter Tryz.func121,Tryz.ntmps121;go_wp2
  exact Nl (v:=.tuple #[.nilFunc,.int .i64 5]) (by simp [results,Tryz.results121,go_sem]) rfl ⟨_,rfl,.inr ⟨by decide,rfl⟩,Nk _ _⟩
 ·have e:aP cols xs=dU cols xs:=by simp [aP,h8]
  have HE:Hid (aP cols xs=dU cols xs):=e;generalize aP cols xs=le at *;clear e;have hmk:=rZ (show xs.length≤8 by omega);have F0:xt cols w.heap.size (w.heap.size+1) (w.heap.size+2) ((w.alloc (.cells (Array.replicate xs.length Value.nilFunc) 179)).alloc (.cells #[.slice (some ⟨w.heap.size,0,none⟩) xs.length xs.length] 183)) xs 0:=xt.LI xs rfl _ _
  have hA:Below w.heap.size w ((w.alloc (.cells (Array.replicate xs.length Value.nilFunc) 179)).alloc (.cells #[.slice (some ⟨w.heap.size,0,none⟩) xs.length xs.length] 183)):=((Nk _ _).alloc (Nj _) _).alloc (by simp) _;have hz:¬ (8:Int)<(xs.length:Int):=by omega
  go_enter Tryz.func121,Tryz.ntmps121;go_wp2_with fail
  generalize (w.alloc (.cells (Array.replicate xs.length Value.nilFunc) 179)).alloc (.cells #[.slice (some ⟨w.heap.size,0,none⟩) xs.length xs.length] 183)=w2 at *;clear hmk;go_loopw [20] (fun i wr=>∃ j:Nat,j≤xs.length∧i = .int .i64 j∧xt cols w.heap.size (w.heap.size+1) (w.heap.size+2) wr xs j∧Hid (dU cols xs=dU cols (xs.drop j))∧Below w.heap.size w wr) (fun i _=>xs.length - (intOf i).toNat)
  case atStart=>exact ⟨0,Nr _,rfl,F0,rfl,hA⟩
  case round =>
   clear F0 hA;obtain ⟨j,hj,rfl,F,HT,hb⟩:=hrel;have hz:=hb.size;have hzF:=F.lt.2.2.2;by_cases hlt:j<xs.length
   ·obtain ⟨b,off,ai,ci,rfl,hbl,sx,kx⟩:=(bd.next hb (Nj _) hk).elem hlt;obtain ⟨x0,x1,x2,x3,x4,x5⟩:=sx;have hal:=aa wr (.cells #[.int .i64 xs[j].k,.int .i64 xs[j].v.1,.int .i64 xs[j].v.2.1,.string xs[j].v.2.2,.int .i64 xs[j].c,.slice ai xs[j].ks.length ci] 27);have Fk:=F.next hal;have Sk:=mb.new wr xs[j].k xs[j].v xs[j].c ai xs[j].ks.length ci 27
    have zk:(wr.alloc (.cells #[.int .i64 xs[j].k,.int .i64 xs[j].v.1,.int .i64 xs[j].v.2.1,.string xs[j].v.2.2,.int .i64 xs[j].c,.slice ai xs[j].ks.length ci] 27)).heap.size=wr.heap.size+1:=by simp
    have kk:=(bd.next hal hz kx).up (show w.heap.size≤(wr.alloc (.cells #[.int .i64 xs[j].k,.int .i64 xs[j].v.1,.int .i64 xs[j].v.2.1,.string xs[j].v.2.2,.int .i64 xs[j].c,.slice ai xs[j].ks.length ci] 27)).heap.size by omega);have cc:=((hc.next hb (Nj _)).next hal hz).up (show w.heap.size≤(wr.alloc (.cells #[.int .i64 xs[j].k,.int .i64 xs[j].v.1,.int .i64 xs[j].v.2.1,.string xs[j].v.2.2,.int .i64 xs[j].c,.slice ai xs[j].ks.length ci] 27)).heap.size by omega);obtain ⟨k0,k1,k2,k3,k4,k5⟩:=Sk;simp only [Np] at k1 k2 k3 k4 k5;have hjz:(j:Int)<xs.length:=by omega
    by_cases h0:(an cols xs[j]).2=0
    ·have con:=iQ cols xs[j] ca ccap ai ci _ kk cc h0;have H0:Hid ((an cols xs[j]).2=0):=h0;clear h0;generalize (an cols xs[j]).1=t at *;go_wp2_with fail
     clear x0 x1 x2 x3 x4 x5 kx k0 k1 k2 k3 k4 k5 kk cc;generalize wr.alloc (.cells #[.int .i64 xs[j].k,.int .i64 xs[j].v.1,.int .i64 xs[j].v.2.1,.string xs[j].v.2.2,.int .i64 xs[j].c,.slice ai xs[j].ks.length ci] 27)=wk at *;refine con.mono ?_;rintro e w3 ⟨u,rfl,hA3,hb3⟩;clear con;have F3:=Fk.next hb3;have q1:=F3.box;obtain ⟨⟨un,q2⟩,q3⟩:=F3.room j hlt;obtain ⟨ug,ucb,rfl⟩:∃ g cb,u = .func (.func g) #[] cb:=by obtain ⟨g,cb,e,_⟩:=hA3; exact ⟨g,cb,e⟩
     go_wp2
     go_roundw
     case rel=>exact ⟨j+1,by omega,by go_num,F3.store hlt (hA3.down (by omega)),HT.out.trans (qt cols xs j hlt H0.out),(chain (chain hb hal) hb3).setCell (p:=⟨w.heap.size,j,none⟩) (Nj _) _⟩
     case measure=>simp [intOf]; omega
    ·have con:=lY cols xs[j] ca ccap ai ci _ kk cc h0;have HN:Hid (le=(an cols xs[j]).2):=HE.out.trans (HT.out.trans (so cols xs j hlt h0));have q:((an cols xs[j]).2 != 0)=true:=by simpa using h0
     generalize (an cols xs[j]).2=t2 at *;go_wp2_with fail
     clear x0 x1 x2 x3 x4 x5 kx k0 k1 k2 k3 k4 k5 kk cc;generalize wr.alloc (.cells #[.int .i64 xs[j].k,.int .i64 xs[j].v.1,.int .i64 xs[j].v.2.1,.string xs[j].v.2.2,.int .i64 xs[j].c,.slice ai xs[j].ks.length ci] 27)=wk at *;refine con.mono ?_;rintro e w3 ⟨rfl,hb3⟩;clear con;go_wp2
     exact Nl (v:=.tuple #[.nilFunc,.int .i64 t2]) (by simp [results,Tryz.results121,go_sem]) rfl ⟨_,by rw [HN.out],.inr ⟨by rw [HN.out]; exact h0,rfl⟩,chain (chain hb hal) hb3⟩
   ·have e:j=xs.length:=by omega
    subst e;have HN:Hid (le=0):=HE.out.trans (HT.out.trans (rG cols xs _ (Nj _)));have KF:Hid (jP cols w.heap.size wr (w.heap.size+1) xs):=F.kids (Nj _) (by omega);go_wp2_with fail
    refine Nl (v:=.tuple #[.func (.func 151) #[] #[.pointer (some ⟨w.heap.size+1,0,none⟩)],.int .i64 0]) (by simp [results,Tryz.results121,go_sem]) rfl ⟨_,by rw [HN.out],.inl ⟨HN.out,151,_,rfl,enters_of Tryz.func151 (by kernel_rfl) rfl,fun row a cap W hf hs hW=>?_⟩,hb⟩;exact G8 cols w.heap.size (w.heap.size+1) xs a row cap W (KF.out.next hW) (by omega) hf hs
theorem vd (cols:List Int) (row:List Vl) (k:Nat) (h:row.length≤k):dJ (cols.drop k) (row.drop k)=0:=by
 rw [NI h]; cases cols.drop k <;> rfl
theorem qv (cols:List Int) (row:List Vl) (k:Nat) (h:k<row.length) (h':k<cols.length) (e:¬ aY row[k]=0):dJ (cols.drop k) (row.drop k)=aY row[k]:=by
 rw [Nq h,Nq h',dJ,if_pos e]
theorem tQ (cols:List Int) (row:List Vl) (k:Nat) (h:k<row.length) (h':k<cols.length) (e:aY row[k]=0) (e1:¬ row[k].1=1) (e2:¬ row[k].1=cols[k]):dJ (cols.drop k) (row.drop k)=9:=by
 rw [Nq h,Nq h',dJ,if_neg (by simp [e]),if_pos ⟨e1,e2⟩]
theorem kU (cols:List Int) (row:List Vl) (k:Nat) (h:k<row.length) (h':k<cols.length) (e:aY row[k]=0) (e1:row[k].1=1∨row[k].1=cols[k]):dJ (cols.drop k) (row.drop k)=dJ (cols.drop (k+1)) (row.drop (k+1)):=by
 rw [Nq h,Nq h',dJ,if_neg (by simp [e]),if_neg (by omega)]
theorem Kq (cols:List Int) (row:List Vl) (ca:Option Addr) (ccap:Nat) (ra:Option Addr) (rcap:Nat) (w:World) (hc:bc w.heap.size w ca cols) (hs:aM w ra row) :
  Calls Tryz.prog 90 #[.slice ca cols.length ccap,.slice ra row.length rcap] w fun e w'=>e = .returned (.int .i64 (di cols row))∧Below w.heap.size w w':=by
 have hl:=hs.1;unfold maxLen at hl;generalize hr:di cols row=r;have HR:Hid (di cols row=r):=hr;clear hr;by_cases hlen:row.length=cols.length
 ·have HG:Hid (dJ cols row=r):=by show dJ cols row=r; rw [← HR.out,di,if_neg (by simp [hlen])]
  have HL:Hid (row.length=cols.length):=hlen;have q:((row.length:Int) != (cols.length:Int))=false:=by simp; omega
  clear HR hlen;go_enter Tryz.func90,Tryz.ntmps90;go_wp2_with fail
  go_loopw [15] (fun i wr=>∃ j:Nat,j≤row.length∧i = .int .i64 j∧Hid (dJ cols row=dJ (cols.drop j) (row.drop j))∧Below w.heap.size w wr) (fun i _=>row.length - (intOf i).toNat)
  case atStart=>exact ⟨0,Nr _,rfl,rfl,Nk _ _⟩
  case round =>
   obtain ⟨j,hj,rfl,HE,hb⟩:=hrel;have hz:=hb.size;by_cases hlt:j<row.length
   ·have hlt':j<cols.length:=by have:=HL.out; omega
    obtain ⟨b,off,rfl,hbl,r0,r1,r2⟩:=(hs.next hb).elem hlt;obtain ⟨b',off',rfl,hbl',c0⟩:=(hc.next hb (Nj _)).elem hlt';generalize hv:row[j]=v at *;generalize hcj:cols[j]=cj at *;have HV:Hid (row[j]=v):=hv;have HC:Hid (cols[j]=cj):=hcj;clear hv hcj;obtain ⟨k,n,s⟩:=v;have A0:=gH.new wr (.int .i64 k) (.int .i64 n) (.string s) 24;have d0:(wr.alloc (.cells #[.int .i64 k,.int .i64 n,.string s] 24)).cell? ⟨b',off'+j,none⟩=some (.int .i64 cj):=by
     rw [World.cell?_alloc_lt _ _ _ (by show b'<wr.heap.size; omega)]; exact c0
    go_wp2_with fail
    refine (iN _ _ _ _).mono ?_;rintro e w1 ⟨rfl,hb1⟩;have hb1':=hb.trans (lT hb1 |>.mono hz);have A1:=A0.next hb1;have c1:=(hb1.cell (p:=⟨b',off'+j,none⟩) (by simp; omega)).trans d0;clear r0 r1 r2 c0 A0 d0;by_cases hw:aI k n s=0
    ·rw [hw];have HW:Hid (aY row[j]=0):=by show aY row[j]=0; rw [HV.out]; exact hw
     clear hw;have p0:=ag A1.c0;have p1:=ag c1;haveI:Nonempty (bW w1):=⟨⟨_,Nk _ _⟩⟩
     by_cases k1:k=1;subst k1;have HN:Hid (dJ (cols.drop j) (row.drop j)=dJ (cols.drop (j+1)) (row.drop (j+1))):=kU cols row j hlt hlt' HW.out (.inl (by rw [HV.out]));rotate_left;have q1:(k != 1)=true:=by simpa using k1
     by_cases kc:k=cj;subst kc;have HN:Hid (dJ (cols.drop j) (row.drop j)=dJ (cols.drop (j+1)) (row.drop (j+1))):=kU cols row j hlt hlt' HW.out (.inr (by rw [HV.out,HC.out]));rotate_left;have q2:(k != cj)=true:=by simpa using kc
     have er:r=9:=by rw [← HG.out,HE.out,tQ cols row j hlt hlt' HW.out (by rw [HV.out]; exact k1) (by rw [HV.out,HC.out]; exact kc)]
     subst er;clear HG HE;go_wp2_with fail
     refine aq (by kernel_rfl) (by kernel_rfl) ?_
     repeat (go_big_quiet_step (fail))
     refine wpQuiet_nil ?_;rintro w2 ⟨⟨v2,hb2⟩,h2⟩;obtain rfl:w2=v2:=h2;clear p0 p1 A1 c1;go_wp2
     go_ret;exact ⟨rfl,chain hb1' hb2⟩
     all_goals
      go_wp2_with fail
      refine aq (by kernel_rfl) (by kernel_rfl) ?_
      repeat (go_big_quiet_step (fail))
      refine wpQuiet_nil ?_;rintro w2 ⟨⟨v2,hb2⟩,h2⟩;obtain rfl:w2=v2:=h2;clear p0 p1 A1 c1;go_wp2
      go_roundw
      case rel=>exact ⟨j+1,by omega,by go_num,HE.out.trans HN.out,chain hb1' hb2⟩
      case measure=>simp [intOf]; omega
    ·have er:r=aI k n s:=by rw [← HG.out,HE.out,qv cols row j hlt hlt' (by rw [HV.out]; exact hw),HV.out]; rfl
     subst er;clear HG HE;have q3:(aI k n s != 0)=true:=by simpa using hw
     go_wp2
     go_ret;exact ⟨rfl,hb1'⟩
   ·have er:r=0:=by rw [← HG.out,HE.out,vd cols row j (by omega)]
    subst er;clear HG HE;go_wp2
    go_ret;exact ⟨rfl,hb⟩
 ·have er:r=8:=by rw [← HR.out,di,if_pos hlen]
  subst er;have q:((row.length:Int) != (cols.length:Int))=true:=by simp; omega
  clear HR;go_enter Tryz.func90,Tryz.ntmps90;go_wp2
  go_ret;exact ⟨rfl,Nk _ _⟩
end Go.Proofs.YtohjlfhmnmcndaaGreat
