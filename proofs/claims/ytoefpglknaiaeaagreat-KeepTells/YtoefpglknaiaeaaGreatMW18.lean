import Derived.Test.YtoefpglknaiaeaaGreatMW11
import Derived.Test.YtoefpglknaiaeaaGreatMW16
import Derived.Test.YtoefpglknaiaeaaGreatMW17
set_option maxHeartbeats 16000000
set_option maxRecDepth 100000
namespace Go.Proofs.YtoefpglknaiaeaaGreat
open Go.RowKit _root_.Go.Proofs.Tryz
def dG (t:Int):Int:=if t=1 then 97 else if t=2 then 98 else if t=3 then 105 else 116
theorem nd (t:Int) (w:World) (h:fy t):Calls prog 124 #[t] w fun e w'=>e = .returned (.int .u8 (dG t))∧Below w w w':=by
 unfold fy at h;obtain rfl | rfl | rfl | rfl:t=1∨t=2∨t=3∨t=4:=by omega
 have e:dG 1=97:=rfl;rotate_left;have e:dG 2=98:=rfl;rotate_left;have e:dG 3=105:=rfl;rotate_left;have e:dG 4=116:=rfl
 all_goals
  rw [e];go_enter func124,ntmps124;go_wp2_with fail
  go_ret;exact ⟨rfl,Mz _ _⟩
def lZ (k:Int):Int:=if k<1∨18<k then -1 else dy k
theorem II (k:Int) (w:World):Calls prog 165 #[k] w fun e w'=>e = .returned (.int .i64 (lZ k))∧Below w w w':=by
 by_cases h1:k<1
 ·have e:lZ k = -1:=by simp [lZ,h1]
  rw [e];go_enter func165,ntmps165;go_wp2_with fail
  go_ret;exact ⟨rfl,Mz _ _⟩
 by_cases h2:18<k
 ·have e:lZ k = -1:=by simp [lZ,h2]
  rw [e];go_enter func165,ntmps165;go_wp2_with fail
  go_ret;exact ⟨rfl,Mz _ _⟩
 obtain ⟨j,rfl⟩:∃ j:Nat,k=j:=⟨k.toNat,by omega⟩
 have e:lZ j=dy j:=by simp only [lZ]; rw [if_neg ag]
 have hl:(#[aD,aD,aD,(1:Int),(2:Int),(2:Int),(2:Int),(2:Int),(2:Int),(2:Int),(2:Int),(2:Int),(2:Int),(2:Int),(2:Int),(2:Int),(1:Int),(3:Int),(2:Int)]:Array Value)[j]? = some (.int .i64 (dy j:Nat)):=by
  obtain rfl | rfl | rfl | rfl | rfl | rfl | rfl | rfl | rfl | rfl | rfl | rfl | rfl | rfl | rfl | rfl | rfl | rfl:j=1∨j=2∨j=3∨j=4∨j=5∨j=6∨j=7∨j=8∨j=9∨j=10∨j=11∨j=12∨j=13∨j=14∨j=15∨j=16∨j=17∨j=18:=by omega
  all_goals rfl
 have hc:(w.alloc (.cells #[aD,aD,aD,(1:Int),(2:Int),(2:Int),(2:Int),(2:Int),(2:Int),(2:Int),(2:Int),(2:Int),(2:Int),(2:Int),(2:Int),(2:Int),(1:Int),(3:Int),(2:Int)] 3)).cell? (ah w j)=some (.int .i64 (dy j:Nat)):=by
  rw [World.cell?_alloc_new]; exact hl
 rw [e];clear hl e;generalize dy j=r at *;have hj:j<19:=by omega
 go_enter func165,ntmps165;go_wp2_with fail
 go_ret;exact ⟨rfl,aN ..⟩
def nP (a b:Int):Int:=if a=97∨a=b then b else if b=97 then a else 0
theorem bE (a b:Int) (w:World):Calls prog 166 #[.int .u8 a,.int .u8 b] w fun e w'=>e = .returned (.int .u8 (nP a b))∧Below w w w':=by
 by_cases h1:a=97
 ·have e:nP a b=b:=by simp [nP,h1]
  rw [e];subst h1;go_enter func166,ntmps166;go_wp2
  go_ret;exact ⟨rfl,Mz _ _⟩
 have q1:(a == 97)=false:=by simpa using h1
 by_cases h2:a=b
 ·have e:nP a b=b:=by simp [nP,h2]
  rw [e];subst h2;go_enter func166,ntmps166;go_wp2
  go_ret;exact ⟨rfl,Mz _ _⟩
 have q2:(a == b)=false:=by simpa using h2
 by_cases h3:b=97
 ·have e:nP a b=a:=by rw [nP,if_neg ag,if_pos h3]
  rw [e];subst h3;go_enter func166,ntmps166;go_wp2
  go_ret;exact ⟨rfl,Mz _ _⟩
 have q3:(b == 97)=false:=by simpa using h3
 have e:nP a b=0:=by rw [nP,if_neg ag,if_neg h3]
 rw [e];go_enter func166,ntmps166;go_wp2
 go_ret;exact ⟨rfl,Mz _ _⟩
theorem yh {a b:Int} (ha:fy a) (hb:fy b):nP (dG a) (dG b)=(match ir a b with | some t=>dG t | none=>0):=by
 unfold fy at ha hb;obtain rfl | rfl | rfl | rfl:a=1∨a=2∨a=3∨a=4:=by omega
 all_goals (obtain rfl | rfl | rfl | rfl:b=1∨b=2∨b=3∨b=4:=by omega)
 all_goals rfl
theorem Bd {t:Int}:dG t≠0:=by
 unfold dG
 repeat' split
 all_goals omega
theorem Je {a b:Int} (ha:fy a) (hb:fy b) (h:dG a=dG b):a=b:=by
 unfold fy at ha hb;obtain rfl | rfl | rfl | rfl:a=1∨a=2∨a=3∨a=4:=by omega
 all_goals (obtain rfl | rfl | rfl | rfl:b=1∨b=2∨b=3∨b=4:=by omega)
 all_goals first
  | rfl
  | (exact absurd h (by decide))
def lv (r:Int × Int × Int):Int:=if r.2.1=0 then dG r.1 else 0
def wv (cols:List Int) (x:Ex):Prop :=
 ∀ (B t:Nat) (ca:Option Addr) (ccap:Nat) (a:Option Addr) (cap:Nat) (m d:Int) (w:World),aU B w a x.ks→bf B w ca cols→B≤t→j9 w t ca cols.length ccap m→0≤m→m≤200→0≤d→d≤21 →
  Calls prog 123 #[ah t 0,fN x.k x.v x.c a x.ks.length cap,d] w fun e w' =>
   e = .returned (.tuple #[.int .u8 (lv (bO cols x m d)),.int .i64 (bO cols x m d).2.1])∧aw t w w'∧j9 w' t ca cols.length ccap (bO cols x m d).2.2
theorem Lq:(Tryz.prog.info? 5).map (fun i=>(i.zero,i.size,i.bytes))=some (some (.int .u8 0),1,1):=by kernel_rfl
def bytesOf (ts:List Int):List Value:=ts.map fun t=>.int .u8 (dG t)
theorem ju {t:Int} (h:fy t):(nP (dG t) 98 == 98)=(ir t 2).isSome:=by
 unfold fy at h;obtain rfl | rfl | rfl | rfl:t=1∨t=2∨t=3∨t=4:=by omega
 all_goals rfl
theorem kt {t:Int} (h:fy t):(nP (dG t) 105 == 105)=(ir t 3).isSome:=by
 unfold fy at h;obtain rfl | rfl | rfl | rfl:t=1∨t=2∨t=3∨t=4:=by omega
 all_goals rfl
theorem uH {t:Int} (h:fy t):(nP (dG t) 116 == 116)=(ir t 4).isSome:=by
 unfold fy at h;obtain rfl | rfl | rfl | rfl:t=1∨t=2∨t=3∨t=4:=by omega
 all_goals rfl
theorem pV {t u r:Int} (h:fy t) (h':fy u) (e:ir t u=some r):nP (dG t) (dG u)=dG r:=by rw [yh h h',e]
theorem qs {t u:Int} (h:fy t) (h':fy u) (e:ir t u=none):nP (dG t) (dG u)=0:=by rw [yh h h',e]
theorem LU (T t0:Int):dv T [t0]=if (ir t0 T).isSome then some T else none:=by simp [dv]
theorem Ef (T t0 t1:Int):dv T [t0,t1]=if (ir t0 T).isSome && (ir t1 T).isSome then some T else none:=by simp [dv]
def H4 (ts:List Int):Prop:=∀ t ∈ ts,fy t
structure LW (W w:World) (t g cg:Nat) (ca:Option Addr) (cn ccap:Nat) (q:Int) (k:Int) (v:Vl) (c:Int) (a:Option Addr) (n cap:Nat):Prop where
 x:aw t w W
 ty:j9 W t ca cn ccap q
 tX:ki W w 0 k v c a n cap
theorem En {t base n:Nat} {W w1:World} {v:Value} {xs:List Value} (h:W.ownsRow base 5 1 v n xs) (hb:aw t W w1) (hn:t<base):w1.ownsRow base 5 1 v n xs:=by
 have hlt:=h.lt;obtain ⟨h0,⟨rfl,h1⟩ | ⟨g,c1,cur,rfl,hg,hh,r⟩⟩:=h
 ·exact ⟨h0,.inl ⟨rfl,h1⟩⟩
 ·have:=(hlt g rfl).2;exact ⟨h0,.inr ⟨g,c1,cur,rfl,hg,(hb.2 g this ag).trans hh,r⟩⟩
theorem j9.low {B:Nat} {W w1:World} {t:Nat} {ca:Option Addr} {n cap:Nat} {m:Int} (h:j9 W t ca n cap m) (hb:Below B W w1) (hB:t<B):j9 w1 t ca n cap m :=
 ⟨My h.lt hb.size,(hb.cell (p:=ah t 0) hB).trans h.c0,(hb.cell (p:=ah t 1) hB).trans h.c1,(hb.frozen (p:=ah t 1) hB).trans h.f1⟩
theorem aw.low {B t:Nat} {a b c:World} (h:aw t a b) (hb:Below B b c) (hB:a.heap.size≤B) (ht:t≤B):aw t a c :=
 ⟨h.1.trans (hb.mono ht),fun k hk hn=>(hb.block k ag).trans (h.2 k hk hn)⟩
theorem Bv {ts:List Int} {t:Int} (h:H4 ts) (h':fy t):H4 (ts ++ [t]):=by
 intro u hu;simp at hu;rcases hu with hu | rfl
 ·exact h u hu
 ·exact h'
theorem dw {W:World} {base n:Nat} {v:Value} {xs:List Value} (h:W.ownsRow base 5 1 v n xs) (hn:0<n):∃ g c,v = .slice (some (ah g 0)) n c∧base≤g∧g<W.heap.size:=by
 have h':=h;obtain ⟨_,⟨rfl,h0⟩ | ⟨g,c1,cur,rfl,hg,_⟩⟩:=h
 ·omega
 ·exact ⟨g,c1,rfl,hg,(h'.lt g rfl).2⟩
theorem K6 {l:List Int} (h:l.length=1):∃ x,l = [x]:=by
 match l,h with
 | [x],_=>exact ⟨x,rfl⟩
theorem Lp (w:World) (u:Value) (t:Nat):∀ (j:Nat) (x:Value),[u][j]? = some x→(w.alloc (.cells #[u] t)).cell? (((ah w 0):Addr).add j)=some x:=by
 intro j x hj
 match j,hj with
 | 0,hj=>simp at hj; subst hj; simp [Addr.add]
theorem pJ (n:Int):∀ u ∈ [Value.int .u8 n],u.oneCell'=true:=by
 intro u hu; simp at hu; subst hu; rfl
theorem qq {W:World} {base n:Nat} {v:Value} {ts:List Int} (hO:W.ownsRow base 5 1 v n (bytesOf ts)) (hI:H4 ts) (e:ts.length=2) (ekn:n=2):∃ t0 t1 g cg,ts=[t0,t1]∧v = .slice (some (ah g 0)) n cg∧base≤g∧g<W.heap.size∧W.cell? (ah g 0)=some (.int .u8 (dG t0))∧fy t0∧W.cell? (ah g 1)=some (.int .u8 (dG t1))∧fy t1:=by
 subst ekn;obtain ⟨t0,t1,rfl⟩:=gD e;obtain ⟨g,cg,rfl,hgb,hgl⟩:=dw hO (by decide);exact ⟨t0,t1,g,cg,rfl,rfl,hgb,hgl,(hO.cellAt 0 (by decide)).trans rfl,hI t0 (by simp),(hO.cellAt 1 (by decide)).trans rfl,hI t1 (by simp)⟩
theorem Hc (cols:List Int) (hcols:gG cols=true) (k:Int) (v:Vl) (c:Int) (ks:List Ex) (ih:∀ x ∈ ks,wv cols x):wv cols (.mk k v c ks):=by
 intro B t ca ccap a cap m d w hk hc hBt ht hm0 hm hd0 hd;simp only [Ex.k,Ex.v,Ex.c,Ex.ks] at hk ⊢;have H1:=ht.lt;have H2:=ht.c1;have H3:=ht.f1;generalize hr:bO cols (.mk k v c ks) m d=r;have HR:Hid (bO cols (.mk k v c ks) m d=r):=hr;clear hr;by_cases hmuch:200<m+1∨20<d
 ·have er:r=(0,4,m+1):=by
   have e:=nR (k:=k) (n:=ks.length) hmuch;rw [← HR.out,mN (by rw [e]; decide),e]
  subst er;have T0:=ht.count (m+1);have X0:=(aw.refl t w).set 1 (.int .i64 (m+1));have hal:Below (w.setCell (ah t 1) (.int .i64 (m+1))).heap.size (w.setCell (ah t 1) (.int .i64 (m+1))) ((w.setCell (ah t 1) (.int .i64 (m+1))).alloc (.cells #[k,v.1,v.2.1,v.2.2,c,.slice a ks.length cap] 27)):=aN ..;have TA:=T0.next hal;have XA:=X0.trans (aw.of hal (by simp; omega));clear HR hal T0 X0;by_cases h1:200<m+1
  ·go_enter func123,ntmps123;go_wp2_with fail
   exact bJ rfl rfl ⟨rfl,XA,TA⟩
  ·have h2:20<d:=by omega
   go_enter func123,ntmps123;go_wp2_with fail
   exact bJ rfl rfl ⟨rfl,XA,TA⟩
 have hm1:¬ 200<m+1:=by omega
 have hd1:¬ 20<d:=by omega
 clear hmuch;have T0:=ht.count (m+1);have X0:=(aw.refl t w).set 1 (.int .i64 (m+1));have SA:=ki.new (w.setCell (ah t 1) (.int .i64 (m+1))) k v c a ks.length cap 27;rw [N9] at SA;have hal:Below (w.setCell (ah t 1) (.int .i64 (m+1))).heap.size (w.setCell (ah t 1) (.int .i64 (m+1))) ((w.setCell (ah t 1) (.int .i64 (m+1))).alloc (.cells #[k,v.1,v.2.1,v.2.2,c,.slice a ks.length cap] 27)):=aN ..;have TA:=T0.next hal;have XA:=X0.trans (aw.of hal (by simp; omega))
 have zA:w.heap.size<((w.setCell (ah t 1) (.int .i64 (m+1))).alloc (.cells #[k,v.1,v.2.1,v.2.2,c,.slice a ks.length cap] 27)).heap.size:=by simp
 clear hal T0 X0 ht;go_enter func123,ntmps123;go_wp2_with fail
 clear H2 H3;generalize (w.setCell (ah t 1) (.int .i64 (m+1))).alloc (.cells #[k,v.1,v.2.1,v.2.2,c,.slice a ks.length cap] 27)=wA at *;refine bC (II k wA) fun w3 hb3=>?_;have T3:=TA.next hb3;have S3:=SA.next hb3 zA;have X3:=XA.trans (aw.of hb3 ag);have z3:=hb3.size;clear TA SA XA;by_cases hkind:k<1∨18<k
 ·have e:=oe (n:=ks.length) (m:=m+1) (d:=d) ag ag hkind;have er:r=(0,1,m+1):=by rw [← HR.out,mN (by rw [e]; decide),e]
  subst er;have ek:lZ k = -1:=by unfold lZ; rw [if_pos hkind]
  rw [ek];clear HR S3;go_wp2_with fail
  exact bJ rfl rfl ⟨rfl,X3,T3⟩
 have ek:lZ k=dy k:=by unfold lZ; rw [if_neg hkind]
 rw [ek];have hk1:¬ k<1:=by omega
 have hk18:¬ 18<k:=by omega
 clear hkind ek;obtain ⟨s0,s1,s2,s3,s4,s5⟩:=S3;simp only [MG] at s1 s2 s3 s4 s5;by_cases hlen:ks.length=dy k
 case neg =>
  have e:=rQ (m:=m+1) (d:=d) ag ag ag ag hlen;have er:r=(0,5,m+1):=by rw [← HR.out,mN (by rw [e]; decide),e]
  subst er;have q0:¬ (dy k:Int)<0:=by omega
  have q1:((ks.length:Int) != (dy k:Nat))=true:=by simp; omega
  generalize dy k=kn at *;clear HR hlen;go_wp2_with fail
  exact bJ rfl rfl ⟨rfl,X3,T3⟩
 have HW:Hid (fT k ks.length (m+1) d=0):=yJ ag ag ag ag hlen;have hl3:ks.length≤3:=by rw [hlen]; exact sD k
 have HL:Hid (ks.length=dy k):=hlen;rw [← hlen];clear hlen;have zl:w.heap.size<w3.heap.size:=by omega
 obtain ⟨i0,hi,hj0,hj1,hj2⟩:=info_parts Lq;go_wp2_with fail
 have S3:ki w3 w 0 k v c a ks.length cap:=⟨s0,s1,s2,s3,s4,s5⟩
 have O4:(w3.alloc (.cells #[] 5)).ownsRow w3.heap.size 5 1 (.slice (some (ah w3 0)) 0 0) 0 []:=Nd w3 #[] 0 (Mx _) (MD _) (by simp);have hal:=aN w3 (.cells #[] 5);have T4:=T3.next hal;have S4:=S3.next hal zl;have X4:=X3.trans (aw.of hal ag);have z4:w3.heap.size<(w3.alloc (.cells #[] 5)).heap.size:=by simp
 generalize w3.alloc (.cells #[] 5)=w4 at *;clear hal T3 S3 X3 s0 s1 s2 s3 s4 s5 hb3 z3 zA;go_loopw [9,47] (fun u i wr=>∃ (j:Nat) (ts:List Int) (q:Int),j≤ks.length∧i = .int .i64 j∧Hid (ts.length=j)∧Hid (H4 ts)∧0≤q∧q≤200∧Hid (cJ cols ks [] (m+1) (d+1)=cJ cols (ks.drop j) ts q (d+1)) ∧
  aw t w wr∧j9 wr t ca cols.length ccap q∧ki wr w 0 k v c a ks.length cap∧w3.heap.size<wr.heap.size∧wr.ownsRow w3 5 1 u j (bytesOf ts)) (fun _ i _=>ks.length - (intOf i).toNat)
 case atStart=>exact ⟨0,[],m+1,MD _,rfl,rfl,(fun t ht=>by simp at ht),by omega,by omega,rfl,X4,T4,S4,z4,O4⟩
 case round =>
  obtain ⟨j,ts,q,hj,rfl,HT,HI,hq0,hq,HE,hX,hT,hS,hwz,hO⟩:=hrel;have hz:=hX.size;by_cases hlt:j<ks.length
  ·obtain ⟨b,off,ai,ci,rfl,hbl,sx,kx⟩:=(aU.next (hX.below hBt) (Mx _) hk).elem hlt;have hcr:=hc.next (hX.below hBt) (Mx _);obtain ⟨x0,x1,x2,x3,x4,x5⟩:=sx;have hal:=aN wr (.cells #[.int .i64 ks[j].k,.int .i64 ks[j].v.1,.int .i64 ks[j].v.2.1,.string ks[j].v.2.2,.int .i64 ks[j].c,.slice ai ks[j].ks.length ci] 27);have con:=ih ks[j] (MC _) B t ca ccap ai ci q (d+1) _ (aU.next hal ag kx) (hcr.next hal ag) hBt (hT.next hal) hq0 hq ag ag;go_wp2_with fail
   refine con.mono ?_;clear con;rintro e w5 ⟨rfl,hX5,hT5⟩;have X5:=(aw.of hal (t:=t) ag).trans hX5;have hX5':=hX.trans X5;have S5:=hS.mx X5 ag ag;have O5:=En hO X5 ag;have z5:=X5.size;generalize hty:bO cols ks[j] q (d+1)=ty at *;have HY:Hid (bO cols ks[j] q (d+1)=ty):=hty;obtain ⟨t1,e1,n1⟩:=ty;clear hty hX5 hal hT hS hO x0 x1 x2 x3 x4 x5 kx hcr;by_cases he:e1=0
   ·subst he;have hn1:=CE (by rw [HY.out]:(bO cols ks[j] q (d+1)).2.1=0);rw [HY.out] at hn1;have HN:Hid (n1≤200∧q<n1):=hn1;have HIn:Hid (fy t1):=by
     have:=(kM cols ks[j] q (d+1) t1 n1).1 HY.out;exact xh (po hcols) _ _ this.1
    have el:lv (t1,0,n1)=dG t1:=rfl;rw [el];clear hn1 el;go_wp2_with (at_builtin; refine MX _ rfl (.tmp 62) (.tmp 64) 186 rfl w3 5 i0 _ 1 1 underlying186 hi hj0 hj1 hj2 rfl (by decide) _ _ _ rfl (O5.alloc _) (ah w5 0) 1 1 [.int .u8 (dG t1)] rfl rfl (Lp _ _ _) (pJ _) (by unfold maxLen; omega) ag (by simp; omega) ?_)
    intro v' w6 ho6 hg6 _;have hb6:Below w3 w5 w6:=((Mz _ _).alloc ag _).grown hg6 (by simp; omega) (fun q hq=>((O5.alloc (.cells #[.int .u8 (dG t1)] 5)).lt q hq).1);have T6:=hT5.low hb6 ag;have S6:=S5.next hb6 ag;have X6:=hX5'.low hb6 ag ag;have z6:=hb6.size;have ho7:w6.ownsRow w3 5 1 v' (j+1) (bytesOf (ts ++ [t1])):=by
     have e:bytesOf (ts ++ [t1])=bytesOf ts ++ [.int .u8 (dG t1)]:=by simp [bytesOf]
     rw [e]; exact ho6
    clear ho6 hg6 hb6 O5 S5 hT5 hX5' X5;go_wp2_with fail
    go_roundw
    case rel=>exact ⟨j+1,ts ++ [t1],n1,by omega,by go_num,by have:=HT.out; show (ts ++ [t1]).length=j+1; simp [this],Bv HI.out HIn.out,by have:=HN.out; omega,HN.out.1,by rw [HE.out,qD cols ks ts q (d+1) j hlt (by rw [HY.out]),HY.out]; rfl,X6,T6,S6,by omega,ho7⟩
    case measure=>simp [intOf]; omega
   ·have er:r=(0,e1,n1):=by
     rw [← HR.out];refine vT HW.out (ts:=ts) ?_ he;rw [HE.out,sd cols ks ts q (d+1) j hlt (by rw [HY.out]; exact he),HY.out]
    subst er;have q':(e1 != 0)=true:=by simpa using he
    clear HR O5 S5;go_wp2_with fail
    exact bJ rfl rfl ⟨by simp [lv,he],hX5',hT5⟩
  ·have ej:j=ks.length:=by omega
   subst ej;have hts:=HT.out;have er:r=((cV cols k v c ts).1,(cV cols k v c ts).2,q):=by
    rw [← HR.out];refine vF HW.out ?_;rw [HE.out,td cols ks ts q (d+1) _ (Mx _)]
   have HER:Hid _:=er;have hkn:=HL.out;rw [hkn] at hts;have HTS:Hid (ts.length=dy k):=hts;have HKN:Hid (ks.length=dy k):=hkn;clear HR HE hts HT er hkn HL HW;have hcr:=hc.next (hX.below hBt) (Mx _);obtain ⟨s0,s1,s2,s3,s4,s5⟩:=hS;simp only [MG] at s1 s2 s3 s4 s5;obtain rfl | rfl | rfl | rfl | rfl | rfl | rfl | rfl | rfl | rfl | rfl | rfl | rfl | rfl | rfl | rfl | rfl | rfl:k=1∨k=2∨k=3∨k=4∨k=5∨k=6∨k=7∨k=8∨k=9∨k=10∨k=11∨k=12∨k=13∨k=14∨k=15∨k=16∨k=17∨k=18:=by omega
   ·have e1:cV cols 1 v c ts=oJ v:=rfl;by_cases hw:aO v.1 v.2.1 v.2.2=0
    ·have er:r=(v.1,0,q):=by rw [HER.out,e1]; simp [oJ,aJ,hw]
     subst er;have hin:fy v.1:=e7 (v:=v) hw;clear HER e1;go_wp2_with fail
     refine bC (gI v.1 v.2.1 v.2.2 wr) fun w5 hb5=>?_;rw [hw];have s1':=(hb5.cell (p:=ah w 1) (by show w.heap.size<_; omega)).trans s1;have hX:=hX.trans (aw.of hb5 ag);have hT:=hT.next hb5;have z5:=hb5.size;clear s0 s1 s2 s3 s4 s5;go_wp2_with fail
     refine bC (nd v.1 w5 hin) fun w6 hb6=>?_;have hX:=hX.trans (aw.of hb6 ag);have hT:=hT.next hb6;go_wp2_with fail
     exact bJ rfl rfl ⟨rfl,hX,hT⟩
    ·have er:r=(0,aO v.1 v.2.1 v.2.2,q):=by rw [HER.out,e1]; simp [oJ,aJ,hw]
     subst er;clear HER e1;go_wp2_with fail
     refine bC (gI v.1 v.2.1 v.2.2 wr) fun w5 hb5=>?_;have hX:=hX.trans (aw.of hb5 ag);have hT:=hT.next hb5;have qw:(aO v.1 v.2.1 v.2.2 != 0)=true:=by simpa using hw
     clear s0 s1 s2 s3 s4 s5;go_wp2_with fail
     exact bJ rfl rfl ⟨by simp [lv,hw],hX,hT⟩
   ·have e1:cV cols 2 v c ts=mE cols c:=rfl;have p0:=ak hT.c0;have p4:=ak s4;haveI:Nonempty (cF wr):=⟨⟨_,Mz _ _⟩⟩
    by_cases h1:c<0;have er:r=(0,7,q):=by rw [HER.out,e1]; simp [mE,h1]
    rotate_left;have d1:decide (c<0)=false:=decide_eq_false h1;by_cases h2:(cols.length:Int)≤c;have d2:decide ((cols.length:Int)≤c)=true:=decide_eq_true h2;have er:r=(0,7,q):=by rw [HER.out,e1]; simp [mE,h2]
    rotate_left;obtain ⟨i,rfl⟩:∃ i:Nat,c=i:=⟨c.toNat,by omega⟩
    have hi:i<cols.length:=by omega
    have er:r=(cols[i],0,q):=by
     rw [HER.out,e1,mE,if_neg ag];simp [List.getD,hi]
    have d2:decide ((cols.length:Int)≤(i:Int))=false:=decide_eq_false h2;have hin:fy cols[i]:=by
     have:=po hcols i hi
     simpa [List.getD,hi] using this
    obtain ⟨cb,co,rfl,hcb,cc⟩:=hcr.elem hi;generalize cols[i]=ct at *;subst er;have p7:=ak cc;clear HER e1;go_wp2_with fail
    refine aq aG aG ?_
    repeat (go_big_quiet_step (fail))
    refine wpQuiet_nil ?_;rintro w6 ⟨⟨v6,hb6⟩,h6⟩;obtain rfl:w6=v6:=h6;have hX:=hX.trans (aw.of hb6 ag);have hT:=hT.next hb6;have z6:=hb6.size;have d4:=ak ((hb6.cell (p:=ah w 4) (by show w.heap.size<_; omega)).trans s4);have d7:=ak ((hb6.cell (p:=⟨cb,co+i,none⟩) (by show cb<_; omega)).trans cc);have d0:=ak hT.c0;haveI:Nonempty (cF w6):=⟨⟨_,Mz _ _⟩⟩
    clear p0 p4 p7 s0 s1 s2 s3 s4 s5 cc;go_wp2_with fail
    refine aq aG aG ?_
    repeat (go_big_quiet_step (first | (go_at_call 124; exact cG (nd ct _ hin))))
    refine wpQuiet_nil ?_;rintro w7 ⟨⟨v7,hb7⟩,h7⟩;obtain rfl:w7=v7:=h7;have hX:=hX.trans (aw.of hb7 ag);have hT:=hT.next hb7;clear d0 d4 d7;go_wp2_with fail
    exact bJ rfl rfl ⟨rfl,hX,hT⟩
    all_goals
     subst er;clear HER e1;go_wp2_with fail
     refine aq aG aG ?_
     repeat (go_big_quiet_step (fail))
     refine wpQuiet_nil ?_;rintro w6 ⟨⟨v6,hb6⟩,h6⟩;obtain rfl:w6=v6:=h6;have hX:=hX.trans (aw.of hb6 ag);have hT:=hT.next hb6;clear p0 p4 s0 s1 s2 s3 s4 s5;go_wp2_with fail
     exact bJ rfl rfl ⟨rfl,hX,hT⟩
   ·obtain ⟨t0,rfl⟩:=K6 HTS.out;have ekn:ks.length=1:=HKN.out;rw [ekn] at hO;obtain ⟨g,cg,rfl,hgb,hgl⟩:=dw hO (by decide);have c0:wr.cell? (ah g 0)=some (.int .u8 (dG t0)):=(hO.cellAt 0 (by decide)).trans rfl;have i0:fy t0:=HI.out t0 (by simp);clear hO;have eN:cV cols 3 v c [t0]=cP (dv 2 [t0]):=rfl;rw [LU] at eN;have g0:=ju i0;generalize (ir t0 2).isSome=b0 at *;generalize dG t0=l0 at *;cases b0
    ·have er:r=(0,9,q):=by rw [HER.out,eN]; rfl
     subst er;clear HER eN;go_wp2_with fail
     refine bC (bE l0 98 wr) fun w5 hb5=>?_;have hX:=hX.trans (aw.of hb5 ag);have hT:=hT.next hb5;have z5:=hb5.size;clear s0 s1 s2 s3 s4 s5 c0;go_wp2_with fail
     exact bJ rfl rfl ⟨rfl,hX,hT⟩
    ·have er:r=(2,0,q):=by rw [HER.out,eN]; rfl
     subst er;clear HER eN;go_wp2_with fail
     refine bC (bE l0 98 wr) fun w5 hb5=>?_;have hX:=hX.trans (aw.of hb5 ag);have hT:=hT.next hb5;have z5:=hb5.size;clear s0 s1 s2 s3 s4 s5 c0;go_wp2_with fail
     exact bJ rfl rfl ⟨rfl,hX,hT⟩
   iterate 2
    ·obtain ⟨t0,t1,g,cg,rfl,rfl,hgb,hgl,c0,i0,c1,i1⟩:=qq hO HI.out HTS.out HKN.out;have ekn:ks.length=2:=HKN.out;clear hO;have er:r=((cP (dv 2 [t0,t1])).1,(cP (dv 2 [t0,t1])).2,q):=HER.out;rw [Ef] at er;have g0:=ju i0;have g1:=ju i1;generalize (ir t0 2).isSome=b0 at *;generalize (ir t1 2).isSome=b1 at *
     generalize dG t0=l0 at *;generalize dG t1=l1 at *;subst er;clear HER;cases b0
     ·go_wp2_with fail
      refine bC (bE l0 98 wr) fun w5 hb5=>?_;have hX:=hX.trans (aw.of hb5 ag);have hT:=hT.next hb5;have z5:=hb5.size;clear s0 s1 s2 s3 s4 s5 c0 c1;go_wp2_with fail
      exact bJ rfl rfl ⟨rfl,hX,hT⟩
     ·cases b1
      all_goals
       go_wp2_with fail
       refine bC (bE l0 98 wr) fun w5 hb5=>?_;have hX:=hX.trans (aw.of hb5 ag);have hT:=hT.next hb5;have z5:=hb5.size;have c1':=(hb5.cell (p:=ah g 1) (by show g<_; omega)).trans c1;clear s0 s1 s2 s3 s4 s5 c0 c1;go_wp2_with fail
       refine bC (bE l1 98 w5) fun w6 hb6=>?_;have hX:=hX.trans (aw.of hb6 ag);have hT:=hT.next hb6;go_wp2_with fail
       exact bJ rfl rfl ⟨rfl,hX,hT⟩
   obtain ⟨t0,t1,g,cg,rfl,rfl,hgb,hgl,c0,i0,c1,i1⟩:=qq hO HI.out HTS.out HKN.out;have ekn:ks.length=2:=HKN.out;clear hO;have eN:cP (du 6 [t0,t1])=cV cols 6 v c [t0,t1]:=rfl;rotate_left;obtain ⟨t0,t1,g,cg,rfl,rfl,hgb,hgl,c0,i0,c1,i1⟩:=qq hO HI.out HTS.out HKN.out;have ekn:ks.length=2:=HKN.out;clear hO;have eN:cP (du 7 [t0,t1])=cV cols 7 v c [t0,t1]:=rfl;rotate_left;obtain ⟨t0,t1,g,cg,rfl,rfl,hgb,hgl,c0,i0,c1,i1⟩:=qq hO HI.out HTS.out HKN.out;have ekn:ks.length=2:=HKN.out;clear hO;have eN:cP (du 8 [t0,t1])=cV cols 8 v c [t0,t1]:=rfl;rotate_left;obtain ⟨t0,t1,g,cg,rfl,rfl,hgb,hgl,c0,i0,c1,i1⟩:=qq hO HI.out HTS.out HKN.out;have ekn:ks.length=2:=HKN.out;clear hO;have eN:cP (du 9 [t0,t1])=cV cols 9 v c [t0,t1]:=rfl;rotate_left;obtain ⟨t0,t1,g,cg,rfl,rfl,hgb,hgl,c0,i0,c1,i1⟩:=qq hO HI.out HTS.out HKN.out;have ekn:ks.length=2:=HKN.out;clear hO;have eN:cP (du 10 [t0,t1])=cV cols 10 v c [t0,t1]:=rfl;rotate_left;obtain ⟨t0,t1,g,cg,rfl,rfl,hgb,hgl,c0,i0,c1,i1⟩:=qq hO HI.out HTS.out HKN.out;have ekn:ks.length=2:=HKN.out;clear hO;have eN:cP (du 11 [t0,t1])=cV cols 11 v c [t0,t1]:=rfl;rotate_left
   iterate 3
    ·obtain ⟨t0,t1,g,cg,rfl,rfl,hgb,hgl,c0,i0,c1,i1⟩:=qq hO HI.out HTS.out HKN.out;have ekn:ks.length=2:=HKN.out;clear hO;have er:r=((cP (dv 3 [t0,t1])).1,(cP (dv 3 [t0,t1])).2,q):=HER.out;rw [Ef] at er;have g0:=kt i0;have g1:=kt i1;generalize (ir t0 3).isSome=b0 at *;generalize (ir t1 3).isSome=b1 at *
     generalize dG t0=l0 at *;generalize dG t1=l1 at *;subst er;clear HER;cases b0
     ·go_wp2_with fail
      refine bC (bE l0 105 wr) fun w5 hb5=>?_;have hX:=hX.trans (aw.of hb5 ag);have hT:=hT.next hb5;have z5:=hb5.size;clear s0 s1 s2 s3 s4 s5 c0 c1;go_wp2_with fail
      exact bJ rfl rfl ⟨rfl,hX,hT⟩
     ·cases b1
      all_goals
       go_wp2_with fail
       refine bC (bE l0 105 wr) fun w5 hb5=>?_;have hX:=hX.trans (aw.of hb5 ag);have hT:=hT.next hb5;have z5:=hb5.size;have c1':=(hb5.cell (p:=ah g 1) (by show g<_; omega)).trans c1;clear s0 s1 s2 s3 s4 s5 c0 c1;go_wp2_with fail
       refine bC (bE l1 105 w5) fun w6 hb6=>?_;have hX:=hX.trans (aw.of hb6 ag);have hT:=hT.next hb6;go_wp2_with fail
       exact bJ rfl rfl ⟨rfl,hX,hT⟩
   ·obtain ⟨t0,t1,g,cg,rfl,rfl,hgb,hgl,c0,i0,c1,i1⟩:=qq hO HI.out HTS.out HKN.out;have ekn:ks.length=2:=HKN.out;clear hO;have er:r=((cP (dv 4 [t0,t1])).1,(cP (dv 4 [t0,t1])).2,q):=HER.out;rw [Ef] at er;have g0:=uH i0;have g1:=uH i1;generalize (ir t0 4).isSome=b0 at *;generalize (ir t1 4).isSome=b1 at *
    generalize dG t0=l0 at *;generalize dG t1=l1 at *;subst er;clear HER;cases b0
    ·go_wp2_with fail
     refine bC (bE l0 116 wr) fun w5 hb5=>?_;have hX:=hX.trans (aw.of hb5 ag);have hT:=hT.next hb5;have z5:=hb5.size;clear s0 s1 s2 s3 s4 s5 c0 c1;go_wp2_with fail
     exact bJ rfl rfl ⟨rfl,hX,hT⟩
    ·cases b1
     all_goals
      go_wp2_with fail
      refine bC (bE l0 116 wr) fun w5 hb5=>?_;have hX:=hX.trans (aw.of hb5 ag);have hT:=hT.next hb5;have z5:=hb5.size;have c1':=(hb5.cell (p:=ah g 1) (by show g<_; omega)).trans c1;clear s0 s1 s2 s3 s4 s5 c0 c1;go_wp2_with fail
      refine bC (bE l1 116 w5) fun w6 hb6=>?_;have hX:=hX.trans (aw.of hb6 ag);have hT:=hT.next hb6;go_wp2_with fail
      exact bJ rfl rfl ⟨rfl,hX,hT⟩
   ·have er:r=(2,0,q):=HER.out;subst er;clear HER;go_wp2_with fail
    exact bJ rfl rfl ⟨rfl,hX,hT⟩
   ·obtain ⟨t0,t1,t2,rfl⟩:=J1 HTS.out;have ekn:ks.length=3:=HKN.out;rw [ekn] at hO;obtain ⟨g,cg,rfl,hgb,hgl⟩:=dw hO (by decide);have c0:wr.cell? (ah g 0)=some (.int .u8 (dG t0)):=(hO.cellAt 0 (by decide)).trans rfl;have i0:fy t0:=HI.out t0 (by simp);have c1:wr.cell? (ah g 1)=some (.int .u8 (dG t1)):=(hO.cellAt 1 (by decide)).trans rfl;have i1:fy t1:=HI.out t1 (by simp);have c2:wr.cell? (ah g 2)=some (.int .u8 (dG t2)):=(hO.cellAt 2 (by decide)).trans rfl;have i2:fy t2:=HI.out t2 (by simp);clear hO;have eN:cP (du 17 [t0,t1,t2])=cV cols 17 v c [t0,t1,t2]:=rfl
    have p0:=ak c1;have p1:=ak c2;haveI:Nonempty (cF wr):=⟨⟨_,Mz _ _⟩⟩
    have g0:=ju i0;rcases ht:ir t1 t2 with _ | u
    ·have gn:=qs i1 i2 ht;have er:r=(0,9,q):=by rw [HER.out,← eN]; simp [du,ht,cP]
     subst er;generalize dG t0=l0 at *;generalize dG t1=l1 at *;generalize dG t2=l2 at *;clear HER eN g0;go_wp2_with fail
     refine aq aG aG ?_
     repeat (go_big_quiet_step (first | (go_at_call 166; exact cG (bE l1 l2 _))))
     refine wpQuiet_nil ?_;rintro w7 ⟨⟨v7,hb7⟩,h7⟩;obtain rfl:w7=v7:=h7;have hX:=hX.trans (aw.of hb7 ag);have hT:=hT.next hb7;rw [gn];clear p0 p1 c0 c1 c2 s0 s1 s2 s3 s4 s5;go_wp2_with fail
     exact bJ rfl rfl ⟨rfl,hX,hT⟩
    ·have gn:=pV i1 i2 ht;have nz:(dG u != 0)=true:=by simpa using Bd (t:=u)
     have er:r=(if (ir t0 2).isSome then (u,0,q) else (0,9,q)):=by
      rw [HER.out,← eN];have:du 17 [t0,t1,t2]=if (ir t0 2).isSome then ir t1 t2 else none:=rfl
      rw [this,ht];cases (ir t0 2).isSome <;> rfl
     generalize (ir t0 2).isSome=b0 at *;generalize dG t0=l0 at *;generalize dG t1=l1 at *;generalize dG t2=l2 at *;generalize hlu:dG u=lu at *;have HLU:Hid (dG u=lu):=hlu;clear hlu HER eN;cases b0
     all_goals
      simp only [if_true,if_false,NN] at er;subst er;go_wp2_with fail
      refine aq aG aG ?_
      repeat (go_big_quiet_step (first | (go_at_call 166; exact cG (bE l1 l2 _))))
      refine wpQuiet_nil ?_;rintro w7 ⟨⟨v7,hb7⟩,h7⟩;obtain rfl:w7=v7:=h7;have hX:=hX.trans (aw.of hb7 ag);have hT:=hT.next hb7;have z7:=hb7.size;rw [gn];have c0':=(hb7.cell (p:=ah g 0) (by show g<_; omega)).trans c0;clear p0 p1 c0 c1 c2 s0 s1 s2 s3 s4 s5;go_wp2_with fail
      refine bC (bE l0 98 w7) fun w8 hb8=>?_;have hX:=hX.trans (aw.of hb8 ag);have hT:=hT.next hb8;go_wp2_with fail
     ·exact bJ rfl rfl ⟨rfl,hX,hT⟩
     ·exact bJ rfl rfl ⟨by rw [← HLU.out]; rfl,hX,hT⟩
   ·obtain ⟨t0,t1,g,cg,rfl,rfl,hgb,hgl,c0,i0,c1,i1⟩:=qq hO HI.out HTS.out HKN.out;have ekn:ks.length=2:=HKN.out;clear hO;have eN:cP (du 18 [t0,t1])=cV cols 18 v c [t0,t1]:=rfl;have p0:=ak c0;have p1:=ak c1;haveI:Nonempty (cF wr):=⟨⟨_,Mz _ _⟩⟩
    rcases ht:ir t0 t1 with _ | u
    ·have gn:=qs i0 i1 ht;have er:r=(0,9,q):=by rw [HER.out,← eN]; simp [du,ht,cP]
     subst er;generalize dG t0=l0 at *;generalize dG t1=l1 at *;clear HER eN;go_wp2_with fail
     refine aq aG aG ?_
     repeat (go_big_quiet_step (first | (go_at_call 166; exact cG (bE l0 l1 _))))
     refine wpQuiet_nil ?_;rintro w7 ⟨⟨v7,hb7⟩,h7⟩;obtain rfl:w7=v7:=h7;have hX:=hX.trans (aw.of hb7 ag);have hT:=hT.next hb7;rw [gn];clear p0 p1 c0 c1 s0 s1 s2 s3 s4 s5;go_wp2_with fail
     exact bJ rfl rfl ⟨rfl,hX,hT⟩
    ·have gn:=pV i0 i1 ht;have nz:(dG u != 0)=true:=by simpa using Bd (t:=u)
     have er:r=(u,0,q):=by rw [HER.out,← eN]; simp [du,ht,cP]
     subst er;generalize dG t0=l0 at *;generalize dG t1=l1 at *;generalize hlu:dG u=lu at *;have HLU:Hid (dG u=lu):=hlu;clear hlu;clear HER eN;go_wp2_with fail
     refine aq aG aG ?_
     repeat (go_big_quiet_step (first | (go_at_call 166; exact cG (bE l0 l1 _))))
     refine wpQuiet_nil ?_;rintro w7 ⟨⟨v7,hb7⟩,h7⟩;obtain rfl:w7=v7:=h7;have hX:=hX.trans (aw.of hb7 ag);have hT:=hT.next hb7;rw [gn];clear p0 p1 c0 c1 s0 s1 s2 s3 s4 s5;go_wp2_with fail
     exact bJ rfl rfl ⟨by rw [← HLU.out]; rfl,hX,hT⟩
   all_goals
    have p0:=ak c0;have p1:=ak c1;haveI:Nonempty (cF wr):=⟨⟨_,Mz _ _⟩⟩
    rcases ht:ir t0 t1 with _ | u
    ·have gn:=qs i0 i1 ht;have er:r=(0,9,q):=by rw [HER.out,← eN]; simp [du,ht,cP]
     subst er;generalize dG t0=l0 at *;generalize dG t1=l1 at *;clear HER eN;go_wp2_with fail
     refine aq aG aG ?_
     repeat (go_big_quiet_step (first | (go_at_call 166; exact cG (bE l0 l1 _))))
     refine wpQuiet_nil ?_;rintro w7 ⟨⟨v7,hb7⟩,h7⟩;obtain rfl:w7=v7:=h7;have hX:=hX.trans (aw.of hb7 ag);have hT:=hT.next hb7;rw [gn];clear p0 p1 c0 c1 s0 s1 s2 s3 s4 s5;go_wp2_with fail
     exact bJ rfl rfl ⟨rfl,hX,hT⟩
    ·have gn:=pV i0 i1 ht;have nz:(dG u != 0)=true:=by simpa using Bd (t:=u)
     have er:r=(2,0,q):=by rw [HER.out,← eN]; simp [du,ht,cP]
     subst er;generalize dG t0=l0 at *;generalize dG t1=l1 at *;generalize hlu:dG u=lu at *;have HLU:Hid (dG u=lu):=hlu;clear hlu;clear HER eN;go_wp2_with fail
     refine aq aG aG ?_
     repeat (go_big_quiet_step (first | (go_at_call 166; exact cG (bE l0 l1 _))))
     refine wpQuiet_nil ?_;rintro w7 ⟨⟨v7,hb7⟩,h7⟩;obtain rfl:w7=v7:=h7;have hX:=hX.trans (aw.of hb7 ag);have hT:=hT.next hb7;rw [gn];clear p0 p1 c0 c1 s0 s1 s2 s3 s4 s5;go_wp2_with fail
     exact bJ rfl rfl ⟨rfl,hX,hT⟩
theorem EV {cols:List Int} (hcols:gG cols=true):∀ x,wv cols x:=Ex.ind fun k v c ks ih=>Hc cols hcols k v c ks ih
theorem nQ (cols:List Int) (x:Ex) (ca:Option Addr) (ccap:Nat) (a:Option Addr) (cap:Nat) (w:World) (hk:aU w w a x.ks) (hc:bf w w ca cols) :
  Calls prog 89 #[.slice ca cols.length ccap,fN x.k x.v x.c a x.ks.length cap] w fun e w'=>e = .returned (.tuple #[.int .i64 (ax cols x).1,.int .i64 (ax cols x).2])∧Below w w w':=by
 have hl:=hc.1;unfold maxLen at hl;generalize hr:ax cols x=r;have HR:=aB hr;clear hr;by_cases h16:16<cols.length
 ·have er:r=(0,5):=by rw [← HR.out,ax,if_pos h16]
  subst er;clear HR;go_enter func89,ntmps89;go_wp2
  exact bJ rfl rfl ⟨rfl,aN ..⟩
 go_enter func89,ntmps89;go_wp2_with fail
 have S0:=ki.new w x.k x.v x.c a x.ks.length cap 27;have hal:=aN w (.cells (hJ x a cap) 27);have z0:w.heap.size<(w.alloc (.cells (hJ x a cap) 27)).heap.size:=by simp
 generalize w.alloc _=w0 at *;go_loopw [16] (fun i wr=>∃ j:Nat,j≤cols.length∧i = .int .i64 j∧Hid (gG cols=gG (cols.drop j))∧wr=w0) (fun i _=>cols.length - (intOf i).toNat)
 case atStart=>exact ⟨0,MD _,rfl,rfl,rfl⟩
 case round =>
  obtain ⟨j,hj,rfl,HE,rfl⟩:=hrel;by_cases hlt:j<cols.length
  ·obtain ⟨b,off,rfl,hbl,c⟩:=(hc.next hal (Mx _)).elem hlt;by_cases g1:cols[j]<1
   ·have er:r=(0,1):=by
     rw [← HR.out,ax,if_neg h16,HE.out,pe cols j hlt (.inl g1),if_pos rfl]
    subst er;clear HR HE;go_wp2
    exact bJ rfl rfl ⟨rfl,hal⟩
   by_cases g2:4<cols[j]
   ·have er:r=(0,1):=by
     rw [← HR.out,ax,if_neg h16,HE.out,pe cols j hlt (.inr g2),if_pos rfl]
    subst er;clear HR HE;go_wp2
    exact bJ rfl rfl ⟨rfl,hal⟩
   have HC:=aB (s9 cols j hlt g1 g2);go_wp2
   go_roundw
   case rel=>exact ⟨j+1,by omega,by go_num,HE.out.trans HC.out,trivial⟩
   case measure=>simp [intOf]; omega
  ·have hcb:gG cols=true:=by rw [HE.out,uX cols j ag]
   have er:r=((bO cols x 0 1).1,(bO cols x 0 1).2.1):=by rw [← HR.out,su ag hcb]
   have HI:Hid ((bO cols x 0 1).2.1=0→fy (bO cols x 0 1).1):=fun h =>
    xh (po hcb) x _ ((kM cols x 0 1 (bO cols x 0 1).1 (bO cols x 0 1).2.2).1 (Prod.ext rfl (Prod.ext h rfl))).1
   have HZ:=aB (tq cols x 0 1);have T0:j9 (wr.alloc (.cells #[.slice ca cols.length ccap,aD] 142)) wr ca cols.length ccap 0:=⟨by simp,by simp,by simp,by simp⟩
   have hal2:=aN wr (.cells #[.slice ca cols.length ccap,aD] 142);have con:=EV hcb x w wr.heap.size ca ccap a cap 0 1 _ (aU.next (chain hal hal2) (Mx _) hk) (hc.next (chain hal hal2) (Mx _)) hal.size T0 ag ag ag ag;generalize bO cols x 0 1=ty at *;subst er;clear HR HE hcb;obtain ⟨s0,s1,s2,s3,s4,s5⟩:=S0;simp only [MG] at s1 s2 s3 s4 s5;obtain ⟨t1,t2,t3⟩:=ty;go_wp2_with fail
   refine con.mono ?_;rintro e w5 ⟨rfl,hX,_⟩;have hb5:=(chain hal hal2).trans (hX.below hal.size);clear con s0 s1 s2 s3 s4 s5 hX T0 hal2;by_cases he:t2=0
   ·subst he;have hin:fy t1:=HI.out rfl;have el:lv (t1,0,t3)=dG t1:=rfl;rw [el];clear HI HZ el;obtain ⟨n,rfl⟩:∃ n:Nat,t1=n:=⟨t1.toNat,by unfold fy at hin; omega⟩
    have hn:1≤n∧n≤4:=by unfold fy at hin; omega
    have HIn:=aB hin;clear hin;go_wp2_with fail
    go_loopw [10] (fun i wr=>∃ j:Nat,1≤j∧j≤n∧i = .int .i64 j∧Below w w wr) (fun i _=>n - (intOf i).toNat)
    case atStart=>exact ⟨1,by omega,by omega,rfl,hb5⟩
    case round =>
     obtain ⟨j,hj1,hjn,rfl,hb⟩:=hrel;have HJ:Hid (fy (j:Int)):=by show fy _; unfold fy; omega
     by_cases e:j=n
     ·subst e;go_wp2_with fail
      refine (nd (j:Int) _ HJ.out).mono ?_;rintro e w7 ⟨rfl,hb7⟩;have hb7':=chain hb hb7;go_wp2
      exact bJ rfl rfl ⟨rfl,hb7'⟩
     ·have hne:(dG (j:Int) == dG (n:Int))=false:=by
       have:¬ dG (j:Int)=dG (n:Int):=fun q=>e (by have:=Je HJ.out HIn.out q; omega)
       simpa using this
      go_wp2_with fail
      refine (nd (j:Int) _ HJ.out).mono ?_;rintro e w7 ⟨rfl,hb7⟩;have hb7':=chain hb hb7;go_wp2
      go_roundw
      case rel=>exact ⟨j+1,by omega,by omega,by go_num,hb7'⟩
      case measure=>simp [intOf]; omega
   ·have ez:t1=0:=HZ.out he;subst ez;have q':(t2 != 0)=true:=by simpa using he
    clear HI HZ;go_wp2
    exact bJ rfl rfl ⟨rfl,hb5⟩
theorem rJ (cols:List Int) (row:List Vl) (ca:Option Addr) (ccap:Nat) (ra:Option Addr) (rcap:Nat) (w:World) (hc:bf w w ca cols) (hs:aZ w ra row) :
  Calls prog 86 #[.slice ca cols.length ccap,.slice ra row.length rcap] w fun e w'=>e = .returned (.int .i64 (eh cols row))∧Below w w w':=by
 have hl:=hs.1;unfold maxLen at hl;generalize hr:eh cols row=r;have HR:=aB hr;clear hr;by_cases hlen:row.length=cols.length
 ·have HG:Hid (fZ cols row=r):=by show fZ cols row=r; rw [← HR.out,eh,if_neg (by simp [hlen])]
  have HL:=aB hlen;have q:((cols.length:Int) != (row.length:Int))=false:=by simp; omega
  clear HR hlen;go_enter func86,ntmps86;go_wp2_with fail
  go_loopw [14] (fun i wr=>∃ j:Nat,j≤row.length∧i = .int .i64 j∧Hid (fZ cols row=fZ (cols.drop j) (row.drop j))∧Below w w wr) (fun i _=>row.length - (intOf i).toNat)
  case atStart=>exact ⟨0,MD _,rfl,rfl,Mz _ _⟩
  case round =>
   obtain ⟨j,hj,rfl,HE,hb⟩:=hrel;have hz:=hb.size;by_cases hlt:j<row.length
   ·have hlt':j<cols.length:=by have:=HL.out; omega
    obtain ⟨b,off,rfl,hbl,r0,r1,r2⟩:=(hs.next hb).elem hlt;obtain ⟨b',off',rfl,hbl',c0⟩:=(hc.next hb (Mx _)).elem hlt';generalize hv:row[j]=v at *;generalize hcj:cols[j]=cj at *;have HV:=aB hv;have HC:=aB hcj;clear hv hcj;obtain ⟨k,n,s⟩:=v;go_wp2_with fail
    refine bC (gI _ _ _ _) fun w1 hb1=>?_;have hb1':=chain hb hb1;have d0:=(hb1.cell (p:=⟨b,off+j*3,none⟩) hbl).trans r0;have c1:=(hb1.cell (p:=⟨b',off'+j,none⟩) (by show b'<_; omega)).trans c0;clear r0 r1 r2 c0;by_cases hw:aO k n s=0
    ·rw [hw];have HW:Hid (aJ row[j]=0):=by show aJ row[j]=0; rw [HV.out]; exact hw
     clear hw;have p0:=ak d0;have p1:=ak c1;haveI:Nonempty (cF w1):=⟨⟨_,Mz _ _⟩⟩
     by_cases kc:k=cj;subst kc;have HN:=aB (lL cols row j hlt hlt' HW.out (.inr (by rw [HV.out,HC.out])));rotate_left;have q2:(k != cj)=true:=by simpa using kc
     by_cases k1:k=1;subst k1;have HN:=aB (lL cols row j hlt hlt' HW.out (.inl (by rw [HV.out])));rotate_left;have q1:(k != 1)=true:=by simpa using k1
     have er:r=9:=by rw [← HG.out,HE.out,tS cols row j hlt hlt' HW.out (by rw [HV.out]; exact k1) (by rw [HV.out,HC.out]; exact kc)]
     subst er;clear HG HE;go_wp2_with fail
     refine aq aG aG ?_
     repeat (go_big_quiet_step (fail))
     refine wpQuiet_nil ?_;rintro w2 ⟨⟨v2,hb2⟩,h2⟩;obtain rfl:w2=v2:=h2;clear p0 p1 d0 c1;go_wp2_with fail
     go_ret;exact ⟨rfl,chain hb1' hb2⟩
     all_goals
      go_wp2_with fail
      refine aq aG aG ?_
      repeat (go_big_quiet_step (fail))
      refine wpQuiet_nil ?_;rintro w2 ⟨⟨v2,hb2⟩,h2⟩;obtain rfl:w2=v2:=h2;clear p0 p1 d0 c1;go_wp2_with fail
      go_roundw
      case rel=>exact ⟨j+1,by omega,by go_num,HE.out.trans HN.out,chain hb1' hb2⟩
      case measure=>simp [intOf]; omega
    ·have er:r=aO k n s:=by rw [← HG.out,HE.out,qO cols row j hlt hlt' (by rw [HV.out]; exact hw),HV.out]; rfl
     subst er;clear HG HE;have q3:(aO k n s != 0)=true:=by simpa using hw
     go_wp2_with fail
     go_ret;exact ⟨rfl,hb1'⟩
   ·have er:r=0:=by rw [← HG.out,HE.out,uV cols row j ag]
    subst er;clear HG HE;go_wp2_with fail
    go_ret;exact ⟨rfl,hb⟩
 ·have er:r=8:=by rw [← HR.out,eh,if_pos hlen]
  subst er;have q:((cols.length:Int) != (row.length:Int))=true:=by simp; omega
  clear HR;go_enter func86,ntmps86;go_wp2_with fail
  go_ret;exact ⟨rfl,Mz _ _⟩
open Go.Lib Go.Shelf
theorem eV (cols:List Int) (ca:Option Addr) (ccap:Nat) (a:Option Addr) (cap:Nat) (l:List Zp) (w:World) (hc:bf w w ca cols) (h:aK w a l) :
  Calls prog 60 #[.slice ca cols.length ccap,.slice a l.length cap] w fun e w'=>e = .returned (.int .i64 (bV cols l))∧Below w w w':=by
 have hl:=h.1;unfold maxLen at hl;have hcl:=hc.1;unfold maxLen at hcl;by_cases h8:8<cols.length
 ·have e:bV cols l=5:=by simp [bV,h8]
  rw [e];have hz:(8:Int)<(cols.length:Int):=by omega
  go_enter func60,ntmps60;go_wp2
  go_ret;exact ⟨rfl,Mz _ _⟩
 have hz:¬ (8:Int)<(cols.length:Int):=by omega
 by_cases hw:aM l=0
 ·have e:bV cols l=gH cols l:=by simp [bV,h8,hw]
  rw [e];clear e;have Hw:=aB hw;clear hw;go_enter func60,ntmps60;go_wp2_with fail
  refine bC (df _ _ _ _ h) fun w1 hb1=>?_;rw [Hw.out];go_wp2_with fail
  go_loopw [18] (fun i wr=>∃ k:Nat,k≤l.length∧i = .int .i64 k∧Hid (gH cols l=gH cols (l.drop k))∧Below w w wr) (fun i _=>l.length - (intOf i).toNat)
  case atStart=>exact ⟨0,MD _,rfl,rfl,hb1⟩
  case round =>
   obtain ⟨k,hk,rfl,HC,hb⟩:=hrel;have hz:=hb.size;by_cases hlt:k<l.length
   ·obtain ⟨b,off,rfl,hbl,c1,ar,cr,c0,sr⟩:=(h.next hb).elem hlt;have con:=rJ cols l[k].1 ca ccap ar cr wr ((hc.next hb (Mx _)).up hb.size) sr;have i0:(0:Int)≤(k:Int):=by omega
    have i1:(k:Int)<(l.length:Int):=by omega
    by_cases hw:eh cols l[k].1=0
    ·have Hw:=aB hw;rw [hw] at con;clear hw;go_wp2_with fail
     refine bC con fun w2 hb2=>?_;go_wp2
     go_roundw
     case rel=>exact ⟨k+1,by omega,by go_num,HC.out.trans (nW cols l k hlt Hw.out),chain hb hb2⟩
     case measure=>simp [intOf]; omega
    ·have HN:=aB (HC.out.trans (pT cols l k hlt hw));have hne:(eh cols l[k].1 != 0)=true:=by simpa using hw
     generalize eh cols l[k].1=t at *;go_wp2_with fail
     refine bC con fun w2 hb2=>?_;go_wp2
     go_ret;exact ⟨aH HN.out.symm,chain hb hb2⟩
   ·have HN:=aB (HC.out.trans (pY cols l k ag));go_wp2
    go_ret;exact ⟨aH HN.out.symm,hb⟩
 ·have e:bV cols l=aM l:=by simp [bV,h8,hw]
  rw [e];have hne:(aM l != 0)=true:=by simpa using hw
  clear e hw;have con:=df a cap l w h;generalize aM l=t at *;go_enter func60,ntmps60;go_wp2_with fail
  refine bC con fun w1 hb1=>?_;go_wp2
  go_ret;exact ⟨rfl,hb1⟩
theorem yi {cols:List Int} {x:Ex} (h:(ax cols x).2=0):1≤(ax cols x).1∧(ax cols x).1≤4:=by
 have G:=(rH cols x).1 h;exact xh (po G.fit) x _ G.ty
theorem ij (cols:List Int) (x:Ex) (ca:Option Addr) (ccap:Nat) (xa:Option Addr) (xcap:Nat) (w:World) (hk:aU w w xa x.ks) (hc:bf w w ca cols) :
  Calls prog 67 #[.slice ca cols.length ccap,fN x.k x.v x.c xa x.ks.length xcap] w fun e w'=>e = .returned (.int .i64 (cH cols x))∧Below w w w':=by
 have h1:=aN w (.cells (hJ x xa xcap) 27);have con:=nQ cols x ca ccap xa xcap _ ((aU.next h1 (Mx _) hk).up h1.size) ((hc.next h1 (Mx _)).up h1.size);have hty:(ax cols x).2=0→1≤(ax cols x).1∧(ax cols x).1≤4:=fun h=>by
  exact yi h
 generalize hfe:cH cols x=fe;have HF:=aB hfe;clear hfe;by_cases h0:(ax cols x).2=0
 ·have hb:=hty h0;by_cases h2:2<(ax cols x).1;have e:fe=9:=by rw [← HF.out]; unfold cH; rw [if_neg (by simpa using h0),if_pos ag]
  rotate_left;have e:fe=0:=by rw [← HF.out]; unfold cH; rw [if_neg (by simpa using h0),if_neg ag]
  all_goals
   subst e;rw [h0] at con;generalize (ax cols x).1=t at *;clear hty h0;go_enter func67,ntmps67;go_wp2_with fail
   generalize w.alloc _=w1 at *;refine bC con fun w2 hb2=>?_;clear con;dsimp only;go_wp2_with fail
   go_ret;exact ⟨rfl,chain h1 hb2⟩
 ·have e:fe=(ax cols x).2:=by rw [← HF.out]; unfold cH; rw [if_pos h0]
  have hne:((ax cols x).2 != 0)=true:=by simpa using h0
  rw [← e] at con hne;generalize (ax cols x).1=t at *;clear hty h0 e;go_enter func67,ntmps67;go_wp2_with fail
  generalize w.alloc _=w1 at *;refine bC con fun w2 hb2=>?_;clear con;dsimp only;go_wp2_with fail
  go_ret;exact ⟨rfl,chain h1 hb2⟩
theorem Kv {v:Vl} (h:aJ v=0):Ix v.1 v.2.1:=fun hk=>by
 unfold aJ aO at h
 rw [hk,if_neg (by decide),if_pos rfl] at h
 split at h
 ·assumption
 ·omega
theorem j4 {cols:List Int} (x:Ex) (hx:cH cols x=0) (row:List Vl) (hf:dX cols row) (xa:Option Addr) (xcap:Nat) (ra:Option Addr) (rcap:Nat) (w:World) (hk:aU w w xa x.ks) (hs:aZ w ra row) :
  Calls prog 144 #[fN x.k x.v x.c xa x.ks.length xcap,.slice ra row.length rcap] w fun e w'=>e = .returned (.bool (cX x row))∧Below w w w':=by
 have h1:=aN w (.cells (hJ x xa xcap) 27);have ht:(ax cols x).2=0:=by
  unfold cH at hx;by_cases h:(ax cols x).2=0
  ·exact h
  ·rw [if_pos h] at hx; exact absurd hx h
 have con:=Ay hf x _ (mw ht) w.heap.size xa xcap ra rcap _ (aU.next h1 (Mx _) hk) h1.size (hs.next h1);generalize hfe:cX x row=fe;have HF:=aB hfe;clear hfe;generalize hv:bQ row x=v at con;have HV:=aB hv;clear hv;go_enter func144,ntmps144;go_wp2_with fail
 generalize w.alloc _=w1 at *;refine bC con fun w2 hb2=>?_;clear con;have hA:=chain h1 hb2;have hTr:Ix v.1 v.2.1:=by rw [← HV.out]; exact Kv (lH hf x _ (mw ht)).1
 have con:=gE v.1 v.2.1 v.2.2 true w2 hTr;have e:(cls v.1 v.2.1 == some true)=fe:=by rw [← HF.out,← HV.out]; rfl
 rw [e] at con;clear e;unfold dV;dsimp only;go_wp2_with fail
 refine bC con fun w3 hb3=>?_;clear con;dsimp only;go_wp2
 go_ret;exact ⟨rfl,chain hA hb3⟩
theorem jO (a b:Option Addr) (ca cb:Nat) (l r:List Vl) (w:World) (h:aZ w a l) (h':aZ w b r) (h8:l.length+r.length≤8) :
  Calls prog 147 #[.slice a l.length ca,.slice b r.length cb] w fun e w'=>∃ v,e = .returned v∧w'.ownsRow w 24 3 v (l.length+r.length) (bG (l ++ r))∧Below w w w':=by
 obtain ⟨iv,hiv,hv0,hv1,hv2⟩:=info_parts sZ;have R1:=fj h;have hb0:=aN w (.cells #[] 24);have O0:=Nd (e:=24) (size:=3) w #[] 0 (Mx _) (MD _) (by simp);have m1:0+l.length≤maxLen:=by unfold maxLen; omega
 have m2:(0+l.length)*32≤140737488355328:=by omega
 have m3:l.length+r.length≤maxLen:=by unfold maxLen; omega
 have m4:(l.length+r.length)*32≤140737488355328:=by omega
 go_enter func147,ntmps147;go_wp2_with (first | (at_builtin; refine bY rfl (.tmp 5) (.tmp 6) 45 rfl w 24 iv _ 3 32 underlying45 hiv hv0 hv1 hv2 rfl (by decide) _ 0 [] rfl O0 a l.length ca (bG l) rfl (R1.alloc _) m1 m2 (by simp) ?_))
 intro v1 w1 o1 g1;have hb1:=hb0.grown g1 (by simp) (by simp [Value.ownBlock]);have o1:w1.ownsRow w 24 3 v1 l.length (bG l):=by simpa using o1
 have R2:=fj (h'.next hb1);have hz:=hb1.size;clear g1;go_wp2_with (first | (at_builtin; refine bY rfl (.tmp 7) (.tmp 8) 45 rfl w 24 iv _ 3 32 underlying45 hiv hv0 hv1 hv2 rfl (by decide) _ l.length (bG l) rfl o1 b r.length cb (bG r) rfl R2 m3 m4 hz ?_))
 intro v2 w2 o2 g2;have hb2:=hb1.grown g2 hz (fun q hq=>(o1.lt q hq).1);rw [← bW] at o2;clear g2 o1;have hv:=eX o2
 obtain ⟨a2,c2,rfl⟩:=hv;go_wp2
 go_ret;exact ⟨_,rfl,o2,hb2⟩
theorem kr {P:Program} {w:World} {o:Oper} {a:Act} {K:Act→World→Prop} {Q:Exit→Act→World→Prop} (d:Option Tmp) (hd:o.dst=d) (s x:Operand) (t:TypeId)
  (ho:o.op = .call { callee:=.builtin .append,args:=#[s,x],argTypes:=#[t,t] })
  (base:Nat) (e:TypeId) (i:TypeInfo) (z:Value) (size bytes:Nat) (ht:P.underlying t=some (.slice e)) (hi:P.info? e=some i) (hz:i.zero=some z)
  (hsize:i.size=size) (hby:i.bytes=bytes) (hzs:z.cells.size=size) (hsz:0<size)
  (v:Value) (n:Nat) (xs:List Value) (hs:a.eval s=v) (hown:w.ownsRow base e size v n xs)
  (ao:Option Addr) (m c:Nat) (news:List Value) (hx:a.eval x = .slice ao m c) (hr:Raw w ao m size news)
  (h63:n+m≤maxLen) (hbytes:(n+m)*bytes≤140737488355328) (hbase:base≤w.heap.size)
  (h:∀ v' w',w'.ownsRow base e size v' (n+m) (xs ++ news)→w.grownBy w' v.ownBlock→K (a.put d v') w'):o.wp P a w K Q:=by
 rcases ao with _ | ad
 ·have hm:=hr.nil rfl;subst hm;have hnews:=MH (by simpa using hr.len);subst hnews;subst hd;have hrun:=ix (P:=P) (w:=w) base t o.type e i size ht hi v n xs hown c;unfold Oper.wp execOp;simp only [ho,resolve,invoke,builtin,Sem.run_bind,Sem.run_pure,Result.andThen_ok,List.map_toArray,Oe,List.map_nil,hs,hx,hrun];exact h v w (by simpa using hown) (World.grownBy.refl _ _)
 ·exact dH d hd s x t ho base e i z size bytes ht hi hz hsize hby hzs hsz v n xs hs hown ad m c news hx hr.len (hr.at_ ad rfl) hr.one h63 hbytes hbase (fun v' w' h1 h2 _=>h v' w' h1 h2)
theorem mZ (left right:List Int) (x:Ex) (la:Option Addr) (lcap:Nat) (ra:Option Addr) (rcap:Nat) (xa:Option Addr) (xcap:Nat) (a:Option Addr) (ca:Nat) (l:List Zp) (b:Option Addr) (cb:Nat) (r:List Zp) (w:World)
  (hcl:bf w w la left) (hcr:bf w w ra right) (hx:aU w w xa x.ks) (h:aK w a l) (h':aK w b r) (hll:left.length≤100000000000000) (hrl:right.length≤100000000000000) :
  Calls prog 146 #[.slice la left.length lcap,.slice ra right.length rcap,fN x.k x.v x.c xa x.ks.length xcap,.slice a l.length ca,.slice b r.length cb] w fun e w'=>e = .returned (.int .i64 (iG left right x l r))∧Below w w w':=by
 obtain ⟨ii,hii,hv0,hv1,hv2⟩:=info_parts qU;obtain ⟨h1,q1⟩:=iV w (hJ x xa xcap) 27;generalize hfe:iG left right x l r=fe;have HF:=aB hfe;clear hfe;by_cases h8:8<left.length+right.length
 ·have e:fe=5:=by rw [← HF.out]; unfold iG; rw [if_pos h8]
  subst e;have hz:(8:Int)<(left.length:Int)+(right.length:Int):=by omega
  go_enter func146,ntmps146;go_wp2
  go_ret;exact ⟨rfl,h1⟩
 have hz:¬ (8:Int)<(left.length:Int)+(right.length:Int):=by omega
 have HF2:Hid (fe=if cH (left ++ right) x≠0 then cH (left ++ right) x else if bV left l≠0 then bV left l else bV right r):=by
  show _=_;rw [← HF.out]; unfold iG; rw [if_neg h8]
 clear HF;have m1:0+left.length≤maxLen:=by unfold maxLen; omega
 have m2:(0+left.length)*8≤140737488355328:=by omega
 have m3:left.length+right.length≤maxLen:=by unfold maxLen; omega
 have m4:(left.length+right.length)*8≤140737488355328:=by omega
 go_enter func146,ntmps146;go_wp2_with fail
 generalize w.alloc _=w1 at *;have hCC:∀ W W':World,W.heap[w.heap.size]? = some (.cells (hJ x xa xcap) 27 (0,0))→Below W W W'→W'.heap[w.heap.size]? = some (.cells (hJ x xa xcap) 27 (0,0)):=fun W W' h hb=>(hb.block _ (an h)).trans h
 have hd:Below w1 w1 w1.drew:=(Mz _ _).drew;have CW:=hCC _ _ q1 hd;refine aP (fun W=>W.heap[w.heap.size]? = some (.cells (hJ x xa xcap) 27 (0,0))) aG ?_;refine bB hCC 20 1 (.slice la left.length lcap) (fun n hn=>?_) CW ?_
 ·go_simp
 simp only [pX];refine bB hCC 22 3 (.slice ra right.length rcap) (fun n hn=>?_) CW ?_
 ·go_simp
 simp only [pX];refine bB hCC 24 5 (fN x.k x.v x.c xa x.ks.length xcap) (fun n hn=>?_) CW ?_
 ·have s0:=cell_of (i:=0) hn rfl;have s1:=cell_of (i:=1) hn rfl;have s2:=cell_of (i:=2) hn rfl;have s3:=cell_of (i:=3) hn rfl;have s4:=cell_of (i:=4) hn rfl;have s5:=cell_of (i:=5) hn rfl;go_simp
 simp only [pX];refine gp 0 aG fun w3 hb3=>?_
 refine wpOp_step rfl (fun K hK=>?_);go_simp;have D3:=chain (chain h1 hd) hb3;have CW3:=hCC _ _ CW hb3;have hal:=aN w3 (.cells #[] 3);have O4:=Nd (e:=3) (size:=1) w3 #[] 0 (Mx _) (MD _) (by simp);have D4:=chain D3 hal;have CW4:=hCC _ _ CW3 hal;refine hK _ _ ⟨CW4,?_⟩;clear hK K CW CW3;generalize w3.alloc _=w4 at *;refine jC (rs:=[2]) aG (by simp) ?_
 intro w5 hb5 jj hj;obtain rfl:jj=2:=by simpa using hj
 clear hj;have D5:=chain D4 hb5;have CW5:=hCC _ _ CW4 hb5;have O5:=aL O4 hb5;refine wpOp_step rfl (fun K hK=>?_);refine Eq.mpr (if_pos aG) ?_;refine kr (some 21) rfl (Operand.tmp 19) (Operand.tmp 20) 33 rfl w3 3 ii _ 1 8 underlying33 hii hv0 hv1 hv2 rfl (by decide) _ 0 [] rfl O5 la left.length lcap _ rfl (dE (hcl.next D5 (Mx _))) m1 m2 (by have:=hal.size; have:=hb5.size; omega) ?_;intro v6 w6 o6 g6;have o6:w6.ownsRow w3 3 1 v6 left.length (left.map (Value.int .i64)):=by simpa using o6
 have hz3:w.heap.size<w3.heap.size:=by have:=an q1; have:=hb3.size; have:w1.drew.heap.size=w1.heap.size:=rfl; omega
 have B6:Below w3 w5 w6:=(Mz _ _).grown g6 (by have:=hal.size; have:=hb5.size; omega) (fun q hq=>(O5.lt q hq).1);have CW6:=(B6.block _ hz3).trans CW5;have D6:=D5.trans (B6.mono ag);have z6:=B6.size;refine hK _ _ ⟨CW6,?_⟩;clear hK K CW4 CW5 O4 O5 g6;simp only [pX];refine gp 4 aG fun w7 hb7=>?_
 have D7:=chain D6 hb7;have CW7:=hCC _ _ CW6 hb7;have o7:=aL o6 hb7;have z7:w3.heap.size≤w7.heap.size:=by have:=hal.size; have:=hb5.size; have:=hb7.size; omega
 refine wpOp_step rfl (fun K hK=>?_);refine Eq.mpr (if_pos aG) ?_;refine kr (some 23) rfl (Operand.tmp 21) (Operand.tmp 22) 33 rfl w3 3 ii _ 1 8 underlying33 hii hv0 hv1 hv2 rfl (by decide) _ left.length _ rfl o7 ra right.length rcap _ rfl (dE (hcr.next D7 (Mx _))) m3 m4 z7 ?_;intro v8 w8 o8 g8;rw [← Nc] at o8;have B8:Below w3 w7 w8:=(Mz _ _).grown g8 z7 (fun q hq=>(o7.lt q hq).1);have CW8:=(B8.block _ hz3).trans CW7
 have D8:=D7.trans (B8.mono ag);obtain ⟨a8,c8,rfl,I8⟩:=mC o8 (by simp);refine hK _ _ ⟨CW8,?_⟩;clear hK K CW6 CW7 o6 o7 g8 o8;simp only [pX];refine gp 6 aG fun w9 hb9=>?_
 have D9:=chain D8 hb9;have CW9:=hCC _ _ CW8 hb9;have con:=ij (left ++ right) x a8 c8 xa xcap w9 ((aU.next D9 (Mx _) hx).up D9.size) ((I8.next hb9 (Mx _)).up hb9.size);generalize hce:cH (left ++ right) x=ce at *;refine wpOp_step rfl (fun K hK=>?_);go_simp;rw [ME] at con;refine bC con fun w10 hb10=>?_;clear con;have CW10:=hCC _ _ CW9 hb10;have D10:=chain D9 hb10;refine hK _ _ ⟨CW10,?_⟩;clear hK K CW9 CW8
 refine bB hCC 11 7 ce (fun n hn=>?_) CW10 ?_
 ·go_simp
 simp only [pX];refine cA aG ?_;intro w11 hb11;have hA:=chain D10 hb11;clear CW10 hb11 hce;by_cases hc:ce=0
 ·subst hc;have con:=eV left la lcap a ca l w11 ((hcl.next hA (Mx _)).up hA.size) (h.next hA);generalize hi1:bV left l=i1 at *;go_wp2_with fail
  refine bC con fun w12 hb12=>?_;clear con;have hA2:=chain hA hb12;dsimp only;by_cases hc1:i1=0
  ·subst hc1;have con:=eV right ra rcap b cb r w12 ((hcr.next hA2 (Mx _)).up hA2.size) (h'.next hA2);have ef:fe=bV right r:=by rw [HF2.out]; simp
   rw [← ef] at con;go_wp2_with fail
   refine bC con fun w13 hb13=>?_;clear con;dsimp only;go_wp2
   go_ret;exact ⟨rfl,chain hA2 hb13⟩
  ·have ef:fe=i1:=by rw [HF2.out]; simp [hc1]
   have hne:(i1 != 0)=true:=by simpa using hc1
   clear hc1;subst ef;go_wp2
   go_ret;exact ⟨rfl,hA2⟩
 ·have ef:fe=ce:=by rw [HF2.out]; simp [hc]
  have hne:(ce != 0)=true:=by simpa using hc
  clear hc;subst ef;go_wp2
  go_ret;exact ⟨rfl,hA⟩
theorem CK (x:Ex) (row:List Vl) {r:List Zp} {k:Nat} (h:k<r.length):fY x (r.drop k) row=((decide (0<r[k].2) && cX x (row ++ r[k].1)) || fY x (r.drop (k+1)) row):=by
 unfold fY;rw [MI h,List.any_cons]
theorem iJ {cols:List Int} (x:Ex) (hcx:cH cols x=0) (xa:Option Addr) (xcap:Nat) (ra:Option Addr) (rcap:Nat) (row:List Vl) (b:Option Addr) (cb:Nat) (r:List Zp) (w:World) (hk:aU w w xa x.ks) (hs:aZ w ra row) (h:aK w b r) (hl:r.length≤400) (h8:∀ q ∈ r,row.length+q.1.length≤8) (hf:∀ q ∈ r,dX cols (row ++ q.1)) :
  Calls prog 148 #[fN x.k x.v x.c xa x.ks.length xcap,.slice ra row.length rcap,.slice b r.length cb] w fun e w'=>e = .returned (.bool (fY x r row))∧Below w w w':=by
 obtain ⟨h1,q1⟩:=iV w (hJ x xa xcap) 27;generalize hfe:fY x r row=fe;have HF:=aB hfe;have HFit:=aB hf;have H8:=aB h8;clear hfe hf h8;go_enter func148,ntmps148;go_wp2_with fail
 generalize w.alloc _=w1 at *;go_loopw [11] (fun i wr=>∃ k:Nat,k≤r.length∧i = .int .i64 k∧Hid (fe=fY x (r.drop k) row)∧Below w1 w1 wr) (fun i _=>r.length - (intOf i).toNat)
 case atStart=>exact ⟨0,MD _,rfl,HF.out.symm,Mz _ _⟩
 case round =>
  obtain ⟨k,hk',rfl,HK,hb⟩:=hrel;have hA:=chain h1 hb;by_cases hlt:k<r.length
  ·obtain ⟨bb,off,rfl,hbl,d1,br,cr,d0,sr⟩:=(h.next hA).elem hlt;obtain ⟨hal,q2⟩:=iV wr #[.slice br r[k].1.length cr,.int .i64 r[k].2] 47;have qx:=(hal.block w (My (an q1) hb.size)).trans (iX hb q1);have HD:=aB (CK x row hlt);have HS:=aB sr
   have hr8:=H8.out r[k] (MC hlt);have HFk:=aB (HFit.out r[k] (MC hlt));clear sr;go_wp2_with fail
   clear d0 d1;generalize wr.alloc _=wk at *;have hCC:∀ W W':World,(W.heap[wr.heap.size]? = some (.cells #[.slice br r[k].1.length cr,.int .i64 r[k].2] 47 (0,0))∧W.heap[w.heap.size]? = some (.cells (hJ x xa xcap) 27 (0,0)))→Below W W W'→(W'.heap[wr.heap.size]? = some (.cells #[.slice br r[k].1.length cr,.int .i64 r[k].2] 47 (0,0))∧W'.heap[w.heap.size]? = some (.cells (hJ x xa xcap) 27 (0,0))):=fun W W' h hb=>⟨(hb.block _ (an h.1)).trans h.1,(hb.block _ (an h.2)).trans h.2⟩
   have hd:Below wk wk wk.drew:=(Mz _ _).drew;have CW:=hCC _ _ ⟨q2,qx⟩ hd;have hAk:=chain (chain hA hal) hd;have hDk:=chain hal hd;by_cases hpos:0<r[k].2
   ·have hg:=decide_eq_true hpos;refine aP (fun W=>(W.heap[wr.heap.size]? = some (.cells #[.slice br r[k].1.length cr,.int .i64 r[k].2] 47 (0,0))∧W.heap[w.heap.size]? = some (.cells (hJ x xa xcap) 27 (0,0)))) aG ?_;refine bB hCC 15 0 (ah wr 1) (fun n hn=>?_) CW ?_
    ·go_simp
    simp only [pX];refine bB hCC 16 1 (.int .i64 r[k].2) (fun n hn=>?_) CW ?_
    ·have hc:=cell_of (i:=1) hn.1 rfl;go_simp
    simp only [pX];refine bB hCC 17 2 true (fun n hn=>?_) CW ?_
    ·go_simp
    simp only [pX];refine bB hCC 18 3 true (fun n hn=>?_) CW ?_
    ·go_simp
    simp only [pX];refine bB hCC 19 4 (fN x.k x.v x.c xa x.ks.length xcap) (fun n hn=>?_) CW ?_
    ·have s0:=cell_of (i:=0) hn.2 rfl;have s1:=cell_of (i:=1) hn.2 rfl;have s2:=cell_of (i:=2) hn.2 rfl;have s3:=cell_of (i:=3) hn.2 rfl;have s4:=cell_of (i:=4) hn.2 rfl;have s5:=cell_of (i:=5) hn.2 rfl;go_simp
    simp only [pX];refine bB hCC 20 5 (.slice ra row.length rcap) (fun n hn=>?_) CW ?_
    ·go_simp
    simp only [pX];refine bB hCC 21 6 (ah wr 0) (fun n hn=>?_) CW ?_
    ·go_simp
    simp only [pX];refine bB hCC 22 7 (.slice br r[k].1.length cr) (fun n hn=>?_) CW ?_
    ·have hc:=cell_of (i:=0) hn.1 rfl;go_simp
    simp only [pX];refine gp 8 aG fun w3 hb3=>?_
    have CW3:=hCC _ _ CW hb3;have A3:=chain hAk hb3;have con:=jO ra br rcap cr row r[k].1 w3 (hs.next A3) (HS.out.next (chain hDk hb3)) hr8;refine wpOp_step rfl (fun K hK=>?_);go_simp;refine con.mono ?_;rintro e w4 ⟨v4,rfl,O4,hb4⟩;clear con;obtain ⟨a4,c4,rfl,S4,T4,_⟩:=dQ O4 (by simp);have CW4:=hCC _ _ CW3 hb4;have A4:=chain A3 hb4;refine hK _ _ ⟨CW4,?_⟩;clear hK K O4 T4;refine gp 9 aG fun w5 hb5=>?_
    have CW5:=hCC _ _ CW4 hb5;have A5:=chain A4 hb5;have con:=j4 x hcx (row ++ r[k].1) HFk.out xa xcap a4 c4 w5 ((aU.next A5 (Mx _) hk).up A5.size) (S4.next hb5);generalize hho:cX x (row ++ r[k].1)=ho at *;refine wpOp_step rfl (fun K hK=>?_);go_simp;rw [ME] at con;refine bC con fun w6 hb6=>?_;clear con;have CW6:=hCC _ _ CW5 hb6;have B6:=chain hb (chain (chain (chain (chain hDk hb3) hb4) hb5) hb6);refine hK _ _ ⟨CW6,?_⟩;clear hK K CW3 CW4 CW5
    refine bB hCC 25 10 ho (fun n hn=>?_) CW6 ?_
    ·go_simp
    simp only [pX];refine cA aG ?_;intro w7 hb7;have B7:=chain B6 hb7;have HD2:Hid (fe=(ho || fY x (r.drop (k+1)) row)):=by show _=_; rw [HK.out,HD.out,hg,Bool.true_and]
    clear CW6 CW hb7 B6;cases ho with
    | true =>
     have e:fe=true:=by rw [HD2.out,Bool.true_or]
     subst e;go_wp2
     go_ret;exact ⟨rfl,chain h1 B7⟩
    | false =>
     have HD3:Hid (fe=fY x (r.drop (k+1)) row):=by show _=_; rw [HD2.out,Bool.false_or]
     go_wp2
     go_roundw
     case rel=>exact ⟨k+1,by omega,by go_num,HD3,B7⟩
     case measure=>simp [intOf]; omega
   ·have hg:=decide_eq_false hpos;have HD3:Hid (fe=fY x (r.drop (k+1)) row):=by show _=_; rw [HK.out,HD.out,hg,Bool.false_and,Bool.false_or]
    have p1:=ak (cell_of (i:=1) q2 rfl:wk.cell? (ah wr 1)=some (.int .i64 r[k].2));haveI:Nonempty (cF wk):=⟨⟨wk,Mz _ _⟩⟩
    refine aq aG aG ?_
    repeat (go_big_quiet_step (fail))
    refine wpQuiet_nil ?_;rintro w7 ⟨⟨v7,hb7⟩,h7⟩;obtain rfl:w7=v7:=h7;have B7:=chain hb (chain hal hb7);clear p1 CW;go_wp2
    go_roundw
    case rel=>exact ⟨k+1,by omega,by go_num,HD3,B7⟩
    case measure=>simp [intOf]; omega
  ·have e:k=r.length:=by omega
   subst e;have e:fe=false:=by rw [HK.out,NY]; rfl
   subst e;go_wp2
   go_ret;exact ⟨rfl,hA⟩
end Go.Proofs.YtoefpglknaiaeaaGreat
namespace Go.Proofs.YtoefpglknaiaeaaGreat
open Go.RowKit
theorem Am (n:Nat):bZ (eK n)=true:=by
 unfold bZ;rw [NZ];intro v hv;rw [List.eq_of_mem_replicate hv];rfl
theorem pw {a b:List Vl} (h:bZ a=true) (k:bZ b=true):bZ (a ++ b)=true:=by
 unfold bZ at h k ⊢;rw [List.all_append,h,k]; rfl
open Go.Lib Go.Shelf _root_.Go.Proofs.Tryz
def ov (what n:Nat) (x:Ex) (r:List Zp) (p:Zp):List Zp :=
 (if what=0∨what=3 then bI x p r else []) ++ ((if (what=1∧fY x r p.1=true)∨(what=2∧fY x r p.1=false) then [p] else []) ++ (if what=3∧fY x r p.1=false then [(p.1 ++ eK n,p.2)] else []))
def aV (what n:Nat) (x:Ex) (l r:List Zp):List Zp:=l.flatMap (ov what n x r)
theorem kP {what n:Nat} {x:Ex} {l r:List Zp} {k:Nat} (h:k<l.length):aV what n x (l.take (k+1)) r=aV what n x (l.take k) r ++ ov what n x r l[k]:=by
 unfold aV;rw [MJ h,List.flatMap_append];simp
theorem yH {what n:Nat} (hw:what=0∨what=1∨what=2∨what=3) (x:Ex) (r:List Zp) (q:List Vl):∀ l:List Zp,wt (aV what n x l r) q=wt (fH what n x l r) q
 | []=>by rcases hw with rfl | rfl | rfl | rfl <;> rfl
 | p :: t=>by
  have ih:=yH (n:=n) hw x r q t
  have e1:aV what n x (p :: t) r=ov what n x r p ++ aV what n x t r:=by unfold aV; rw [Ol]
  rw [e1,cL,ih]
  rcases hw with rfl | rfl | rfl | rfl
  ·show wt (bI x p r ++ ([] ++ [])) q+wt (ep x t r) q=wt (ep x (p :: t) r) q
   unfold ep
   rw [Ol,cL,cL,cL]
   simp only [wt]
   omega
  ·show wt ([] ++ ((if _ then [p] else []) ++ [])) q+wt (vK x t r) q=wt (vK x (p :: t) r) q
   unfold vK
   rw [List.filter_cons]
   by_cases h:fY x r p.1=true
   ·rw [if_pos h,if_pos (.inl ⟨rfl,h⟩)]; simp [wt]
   ·rw [if_neg h,if_neg (by rintro (⟨_,h'⟩ | ⟨h',_⟩); exact h h'; omega)]; simp [wt]
  ·unfold ov
   show wt ([] ++ ((if (2=1∧fY x r p.1=true)∨(2=2∧fY x r p.1=false) then [p] else []) ++ [])) q+wt (jf x t r) q=wt (jf x (p :: t) r) q
   unfold jf
   cases h:fY x r p.1 <;> simp [h,wt]
  ·show wt (bI x p r ++ ([] ++ (if _ then [(p.1 ++ eK n,p.2)] else []))) q+wt (qS x n t r) q=wt (qS x n (p :: t) r) q
   unfold qS ep jf je
   rw [Ol,List.filter_cons,cL,cL,cL,cL,cL]
   by_cases h:fY x r p.1=true
   ·rw [if_neg (by rintro ⟨_,h'⟩; rw [h] at h'; cases h'),if_neg (by simp [h])]; simp [wt]; omega
   ·have h':fY x r p.1=false:=by simpa using h
    rw [if_pos ⟨rfl,h'⟩,if_pos (by simp [h']),Oe]
    simp only [wt]
    omega
theorem eS {what n:Nat} (hw:what=0∨what=1∨what=2∨what=3) (x:Ex) (l r:List Zp):canon (aV what n x l r)=canon (fH what n x l r):=iS fun q=>yH hw x r q l
theorem xF (r:List Vl) (x:Int):∀ z:List Zp,(cI z r x).length≤z.length+1
 | []=>by unfold cI; split <;> simp
 | y :: t=>by
  have:=xF r x t
  unfold cI
  split
  ·simp only [Ng]; omega
  ·split
   ·split <;> simp only [Ng] <;> omega
   ·split <;> simp only [Ng] <;> omega
theorem eY (l:List Zp):(canon l).length≤l.length:=by
 have aux:∀ (l z:List Zp),(l.foldl (fun z x=>cI z x.1 x.2) z).length≤z.length+l.length:=by
  intro l
  induction l with
  | nil=>intro z; simp
  | cons x r ih =>
   intro z;have h1:=ih (cI z x.1 x.2);have h2:=xF x.1 x.2 z;simp only [NA,Ng];omega
 have:=aux l []
 simpa [canon] using this
structure iL (c:Nat) (pre:List Zp):Prop where
 len:pre.length≤c
 all:∀ y ∈ pre,bZ y.1=true ∧ -1000000000000≤y.2∧y.2≤1000000000000
theorem iL.push {c:Nat} {pre:List Zp} (h:iL c pre) {y:Zp} (hy:bZ y.1=true ∧ -1000000000000≤y.2∧y.2≤1000000000000):iL (c+1) (pre ++ [y]) :=
 ⟨by have:=h.len; simp; omega,fun z hz=>by
  rcases List.mem_append.1 hz with h' | h'
  ·exact h.all z h'
  ·rw [List.mem_singleton.1 h']; exact hy⟩
theorem iL.up {c c':Nat} {pre:List Zp} (h:iL c pre) (hc:c≤c'):iL c' pre:=⟨MO h.len hc,h.all⟩
theorem Is {l:List Zp} (h:∀ x ∈ l,bZ x.1=true ∧ -1000000000000≤x.2∧x.2≤1000000000000) (q:List Vl):-(1000000000000*(l.length:Int))≤wt l q∧wt l q≤1000000000000*(l.length:Int):=by
 induction l with
 | nil=>simp [wt]
 | cons x r ih =>
  have ih:=ih (fun y hy=>h y (by simp [hy]));have hx:=h x (by simp);rw [wt,Ng]
  split <;> omega
def Acc (W:World) (v:Value) (pre:List Zp):Prop:=∃ a cap,v = .slice a (canon pre).length cap∧aK W a (canon pre)∧Lf a cap (canon pre).length
theorem Acc.next {W w1:World} {v:Value} {pre:List Zp} (h:Acc W v pre) (hb:Below W W w1):Acc w1 v pre:=by
 obtain ⟨a,cap,e,z,l⟩:=h;exact ⟨a,cap,e,z.next hb,l⟩
theorem Acc.nil (W:World):Acc W bX []:=⟨none,0,rfl,⟨by simp [canon],.inl rfl⟩,⟨fun _=>rfl,by simp [canon],MD _⟩⟩
theorem j7 (v:Value) (pre:List Zp) (c:Nat) (hc:c≤170000) (hp:iL c pre) (b:Option Addr) (cb:Nat) (r:List Vl) (x:Int) (w:World) (h:Acc w v pre) (h':aZ w b r) (h8:r.length≤8) (hx:-1000000000000≤x∧x≤1000000000000) :
  Calls prog 81 #[v,.slice b r.length cb,x] w fun e w'=>∃ u,e = .returned u∧Acc w' u (pre ++ [(r,x)])∧Below w w w':=by
 obtain ⟨a,cap,rfl,z,l⟩:=h;have hl:=MO (eY pre) hp.len;refine (pH a cap (canon pre) b cb r x w z l h' h8 ag (fun y hy=>?_) (fun y hy=>?_) ag).mono ?_
 ·obtain ⟨p,hp',e⟩:=mL pre y hy;rw [e,lC];exact (hp.all p hp').1
 ·rw [← sW (eM pre).i7 y hy,gS];have:=Is hp.all y.1;have:=hp.len;omega
 ·rintro e w' ⟨u,rfl,O,hb⟩;have e1:=(iu pre (r,x)).symm;rw [e1] at O;obtain ⟨a',cap',rfl,z',l'⟩:=O.zs;exact ⟨_,rfl,⟨a',cap',rfl,z',l'⟩,hb⟩
theorem tN {left right:List Int} {x:Ex} {l r:List Zp} (hT:nE left right x l r) {p q:Zp} (hp:p ∈ l) (hq:q ∈ r):bZ (p.1 ++ q.1)=true ∧ -1000000000000≤p.2*q.2∧p.2*q.2≤1000000000000 :=
 ⟨mP (tv (hT.left.fit p hp) (hT.right.fit q hq)),(fx hT).mul p hp q hq⟩
theorem xu {left right:List Int} {x:Ex} {l r:List Zp} (hT:nE left right x l r) {p:Zp} (hp:p ∈ l):bZ p.1=true ∧ -1000000000000≤p.2∧p.2≤1000000000000 :=
 ⟨mP (hT.left.fit p hp),by have:=jb hT.left p hp; rw [cK] at this; omega⟩
theorem wG (left right:List Int) (x:Ex) (la:Option Addr) (lcap:Nat) (ra:Option Addr) (rcap:Nat) (xa:Option Addr) (xcap:Nat) (a:Option Addr) (ca:Nat) (l:List Zp) (b:Option Addr) (cb:Nat) (r:List Zp) (w:World)
  (hcl:bf w w la left) (hcr:bf w w ra right) (hx:aU w w xa x.ks) (h:aK w a l) (h':aK w b r) (hll:left.length≤100000000000000) (hrl:right.length≤100000000000000) :
  Calls prog 104 #[(1:Int),.slice la left.length lcap,.slice ra right.length rcap,fN x.k x.v x.c xa x.ks.length xcap,.slice a l.length ca,.slice b r.length cb] w fun e w'=>∃ v,e = .returned (.tuple #[v,.int .i64 (cw 1 left right x l r)])∧(∃ ua uc,v = .slice ua (cB 1 left right x l r).length uc∧aK w' ua (cB 1 left right x l r))∧Below w w w':=by
 have h1:=aN w (.cells (hJ x xa xcap) 27);have S1:=aB (ki.new w x.k x.v x.c xa x.ks.length xcap 27);have z1:(w.alloc (.cells (hJ x xa xcap) 27)).heap.size=w.heap.size+1:=by simp
 generalize hfz:cB 1 left right x l r=fz;generalize hfe:cw 1 left right x l r=fe;have HZ:=aB hfz;have HE:=aB hfe;clear hfz hfe;go_enter func104,ntmps104;obtain ⟨s0,s1,s2,s3,s4,s5⟩:=S1.out;simp only [MG] at s1 s2 s3 s4 s5;go_wp2_with fail
 clear s0 s1 s2 s3 s4 s5;generalize w.alloc _=w1 at *;have con:=mZ left right x la lcap ra rcap xa xcap a ca l b cb r w1 ((hcl.next h1 (Mx _)).up h1.size) ((hcr.next h1 (Mx _)).up h1.size) ((aU.next h1 (Mx _) hx).up h1.size) (h.next h1) (h'.next h1) hll hrl;generalize hte:iG left right x l r=te at con;have HTe:=aB hte;clear hte;refine bC con fun w2 hb2=>?_;clear con;have hA2:=chain h1 hb2;dsimp only;by_cases ht:te=0
 ·subst ht;have HT:=aB ((oM left right x l r).1 HTe.out);have hln:=HT.out.len;have hl4:=dg HT.out.left;have hr4:=dg HT.out.right;have HEe:Hid (fe=aR (fH 1 right.length x l r)):=by show _=_; rw [← HE.out]; unfold cw; rw [HTe.out,if_neg (by simp)]
  have HZe:Hid (fz=bh (fH 1 right.length x l r)):=by show _=_; rw [← HZ.out]; unfold cB bh; rw [HE.out,HEe.out]
  clear HE HZ HTe;go_wp2_with fail
  go_loopw [15,34] (fun v i wr=>∃ k:Nat,k≤l.length∧i = .int .i64 k∧Acc wr v (aV 1 right.length x (l.take k) r)∧Hid (iL (k*401) (aV 1 right.length x (l.take k) r))∧Below w2 w2 wr) (fun _ i _=>l.length - (intOf i).toNat)
  case atStart=>exact ⟨0,MD _,rfl,Acc.nil _,⟨by simp [aV],fun y hy=>by simp [aV] at hy⟩,Mz _ _⟩
  case round =>
   obtain ⟨k,hk,rfl,HA,HP,hb⟩:=hrel;by_cases hlt:k<l.length
   ·have hAr:=chain hA2 hb;obtain ⟨bb,off,rfl,hbl,c1,ar,cr,c0,sr⟩:=(h.next hAr).elem hlt;obtain ⟨hal,q0⟩:=iV wr #[.slice ar l[k].1.length cr,.int .i64 l[k].2] 47;have za:(wr.alloc (.cells #[.slice ar l[k].1.length cr,.int .i64 l[k].2] 47)).heap.size=wr.heap.size+1:=by simp
    have HTk:Hid (aV 1 right.length x (l.take (k+1)) r=aV 1 right.length x (l.take k) r ++ ov 1 right.length x r l[k]):=kP hlt;have hrow:=xu HT.out (MC hlt);have HRow:=aB hrow;have hwl:=hrow.2;have hfl:=(HT.out.left.fit l[k] (MC hlt)).len;have hl8:l[k].1.length+right.length≤8:=by omega
    have H8:Hid (∀ q ∈ r,l[k].1.length+q.1.length≤8):=fun q hq=>(fx HT.out).row l[k] (MC hlt) q hq
    have HFt:Hid (∀ q ∈ r,dX (left ++ right) (l[k].1 ++ q.1)):=fun q hq=>(fx HT.out).fit l[k] (MC hlt) q hq
    have hAk:=chain hAr hal;have hSk:=chain (chain hb2 hb) hal;have HSr:=aB (sr.next hal);have HAk:=HA.next hal;clear hrow hfl sr HA;have HPk:=aB HP;clear HP;go_upto_region 16 with fail
    clear c0 c1;obtain ⟨wo,hwo⟩:∃ z,z=wr:=⟨_,rfl⟩
    subst hwo;obtain ⟨uo,huo⟩:∃ z,z=u15:=⟨_,rfl⟩
    subst huo;generalize wo.alloc _=wk at *;have hA:=hAk;have hS:=hSk;have hB:=chain hb hal;have con:=iJ (cols:=left ++ right) x HT.out.cond xa xcap ar cr l[k].1 b cb r wk ((aU.next hA (Mx _) hx).up hA.size) HSr.out (h'.next hA) hr4 H8.out HFt.out;generalize hhs:fY x r l[k].1=has at con;have HHs:=aB hhs;clear hhs;have p0:=cell_of (i:=0) q0 rfl;obtain ⟨s0,s1,s2,s3,s4,s5⟩:=S1.out.next hS ag
    simp only [MG] at s1 s2 s3 s4 s5;go_wp2_with fail
    refine bC con fun w5 hb5=>?_;clear s0 s1 s2 s3 s4 s5;clear con p0;have q0:=iX hb5 q0;have hA:=chain hA hb5;have hS:=chain hS hb5;have HSr:=aB (HSr.out.next hb5);have HAk:=HAk.next hb5;have hB:=chain hB hb5;dsimp only;cases has with
    | true =>
     have p0:=cell_of (i:=0) q0 rfl;have p1:=cell_of (i:=1) q0 rfl;have con:=j7 _ _ _ ag HPk.out ar cr l[k].1 l[k].2 w5 HAk HSr.out ag hwl;go_wp2_with fail
     refine con.mono ?_;rintro e w6 ⟨v6,rfl,HA6,hb6⟩;clear con p0 p1;have hB:=chain hB hb6;dsimp only;go_wp2_with fail
     have HR:Hid (aV 1 right.length x (l.take (k+1)) r=aV 1 right.length x (l.take k) r ++ [(l[k].1,l[k].2)]):=by
      show _=_;rw [HTk.out]
      congr 1
      unfold ov;rw [HHs.out];simp
     have HPn:Hid (iL ((k+1)*401) (aV 1 right.length x (l.take (k+1)) r)):=by
      show iL _ _;rw [HR.out];exact (HPk.out.push (y:=(l[k].1,l[k].2)) HRow.out).up ag
     go_roundw
     case rel=>exact ⟨k+1,by omega,by go_num,by rw [HR.out]; exact HA6,HPn,hB⟩
     case measure=>simp [intOf]; omega
    | false =>
     have HR:Hid (aV 1 right.length x (l.take (k+1)) r=aV 1 right.length x (l.take k) r):=by
      show _=_;rw [HTk.out];unfold ov;rw [HHs.out];simp
     have HPn:Hid (iL ((k+1)*401) (aV 1 right.length x (l.take (k+1)) r)):=by
      show iL _ _;rw [HR.out];exact HPk.out.up ag
     go_wp2
     go_roundw
     case rel=>exact ⟨k+1,by omega,by go_num,by rw [HR.out]; exact HAk,HPn,hB⟩
     case measure=>simp [intOf]; omega
   ·have e:k=l.length:=by omega
    subst e;rw [MM] at HA;obtain ⟨av,cv,rfl,zv,lv⟩:=HA;have con:=oc av cv (canon (aV 1 right.length x l r)) wr zv (by have:=eY (aV 1 right.length x l r); have:=HP.out.len; rw [MM] at this; omega);have e1:kE (canon (aV 1 right.length x l r))=fe:=by
     rw [eS ag x l r,HEe.out]; rfl
    have e2:ja (canon (aV 1 right.length x l r))=fz:=by
     unfold ja;rw [e1,HZe.out];unfold bh;rw [← HEe.out,eS ag x l r]
    rw [e1,e2] at con;clear e1 e2 HP;have hA:=chain hA2 hb;go_wp2_with fail
    refine con.mono ?_;rintro e w9 ⟨⟨a9,c9,rfl,zs9⟩,hb9⟩;clear con;dsimp only;go_wp2
    exact bJ rfl rfl ⟨_,rfl,⟨_,_,rfl,zs9⟩,chain hA hb9⟩
 ·have e0:fe=te:=by rw [← HE.out]; unfold cw; rw [HTe.out,if_pos ht]
  have e1:fz = []:=by rw [← HZ.out]; unfold cB; rw [HE.out,e0,if_neg ht]
  have hne:(te != 0)=true:=by simpa using ht
  subst e0 e1;clear ht;go_wp2
  exact bJ rfl rfl ⟨_,rfl,⟨_,_,rfl,⟨by simp,.inl rfl⟩⟩,hA2⟩
theorem wM (left right:List Int) (x:Ex) (la:Option Addr) (lcap:Nat) (ra:Option Addr) (rcap:Nat) (xa:Option Addr) (xcap:Nat) (a:Option Addr) (ca:Nat) (l:List Zp) (b:Option Addr) (cb:Nat) (r:List Zp) (w:World)
  (hcl:bf w w la left) (hcr:bf w w ra right) (hx:aU w w xa x.ks) (h:aK w a l) (h':aK w b r) (hll:left.length≤100000000000000) (hrl:right.length≤100000000000000) :
  Calls prog 104 #[(2:Int),.slice la left.length lcap,.slice ra right.length rcap,fN x.k x.v x.c xa x.ks.length xcap,.slice a l.length ca,.slice b r.length cb] w fun e w'=>∃ v,e = .returned (.tuple #[v,.int .i64 (cw 2 left right x l r)])∧(∃ ua uc,v = .slice ua (cB 2 left right x l r).length uc∧aK w' ua (cB 2 left right x l r))∧Below w w w':=by
 have h1:=aN w (.cells (hJ x xa xcap) 27);have S1:=aB (ki.new w x.k x.v x.c xa x.ks.length xcap 27);have z1:(w.alloc (.cells (hJ x xa xcap) 27)).heap.size=w.heap.size+1:=by simp
 generalize hfz:cB 2 left right x l r=fz;generalize hfe:cw 2 left right x l r=fe;have HZ:=aB hfz;have HE:=aB hfe;clear hfz hfe;go_enter func104,ntmps104;obtain ⟨s0,s1,s2,s3,s4,s5⟩:=S1.out;simp only [MG] at s1 s2 s3 s4 s5;go_wp2_with fail
 clear s0 s1 s2 s3 s4 s5;generalize w.alloc _=w1 at *;have con:=mZ left right x la lcap ra rcap xa xcap a ca l b cb r w1 ((hcl.next h1 (Mx _)).up h1.size) ((hcr.next h1 (Mx _)).up h1.size) ((aU.next h1 (Mx _) hx).up h1.size) (h.next h1) (h'.next h1) hll hrl;generalize hte:iG left right x l r=te at con;have HTe:=aB hte;clear hte;refine bC con fun w2 hb2=>?_;clear con;have hA2:=chain h1 hb2;dsimp only;by_cases ht:te=0
 ·subst ht;have HT:=aB ((oM left right x l r).1 HTe.out);have hln:=HT.out.len;have hl4:=dg HT.out.left;have hr4:=dg HT.out.right;have HEe:Hid (fe=aR (fH 2 right.length x l r)):=by show _=_; rw [← HE.out]; unfold cw; rw [HTe.out,if_neg (by simp)]
  have HZe:Hid (fz=bh (fH 2 right.length x l r)):=by show _=_; rw [← HZ.out]; unfold cB bh; rw [HE.out,HEe.out]
  clear HE HZ HTe;go_wp2_with fail
  go_loopw [15,34] (fun v i wr=>∃ k:Nat,k≤l.length∧i = .int .i64 k∧Acc wr v (aV 2 right.length x (l.take k) r)∧Hid (iL (k*401) (aV 2 right.length x (l.take k) r))∧Below w2 w2 wr) (fun _ i _=>l.length - (intOf i).toNat)
  case atStart=>exact ⟨0,MD _,rfl,Acc.nil _,⟨by simp [aV],fun y hy=>by simp [aV] at hy⟩,Mz _ _⟩
  case round =>
   obtain ⟨k,hk,rfl,HA,HP,hb⟩:=hrel;by_cases hlt:k<l.length
   ·have hAr:=chain hA2 hb;obtain ⟨bb,off,rfl,hbl,c1,ar,cr,c0,sr⟩:=(h.next hAr).elem hlt;obtain ⟨hal,q0⟩:=iV wr #[.slice ar l[k].1.length cr,.int .i64 l[k].2] 47;have za:(wr.alloc (.cells #[.slice ar l[k].1.length cr,.int .i64 l[k].2] 47)).heap.size=wr.heap.size+1:=by simp
    have HTk:Hid (aV 2 right.length x (l.take (k+1)) r=aV 2 right.length x (l.take k) r ++ ov 2 right.length x r l[k]):=kP hlt;have hrow:=xu HT.out (MC hlt);have HRow:=aB hrow;have hwl:=hrow.2;have hfl:=(HT.out.left.fit l[k] (MC hlt)).len;have hl8:l[k].1.length+right.length≤8:=by omega
    have H8:Hid (∀ q ∈ r,l[k].1.length+q.1.length≤8):=fun q hq=>(fx HT.out).row l[k] (MC hlt) q hq
    have HFt:Hid (∀ q ∈ r,dX (left ++ right) (l[k].1 ++ q.1)):=fun q hq=>(fx HT.out).fit l[k] (MC hlt) q hq
    have hAk:=chain hAr hal;have hSk:=chain (chain hb2 hb) hal;have HSr:=aB (sr.next hal);have HAk:=HA.next hal;clear hrow hfl sr HA;have HPk:=aB HP;clear HP;go_upto_region 16 with fail
    clear c0 c1;obtain ⟨wo,hwo⟩:∃ z,z=wr:=⟨_,rfl⟩
    subst hwo;obtain ⟨uo,huo⟩:∃ z,z=u15:=⟨_,rfl⟩
    subst huo;generalize wo.alloc _=wk at *;have hA:=hAk;have hS:=hSk;have hB:=chain hb hal;have con:=iJ (cols:=left ++ right) x HT.out.cond xa xcap ar cr l[k].1 b cb r wk ((aU.next hA (Mx _) hx).up hA.size) HSr.out (h'.next hA) hr4 H8.out HFt.out;generalize hhs:fY x r l[k].1=has at con;have HHs:=aB hhs;clear hhs;have p0:=cell_of (i:=0) q0 rfl;obtain ⟨s0,s1,s2,s3,s4,s5⟩:=S1.out.next hS ag
    simp only [MG] at s1 s2 s3 s4 s5;go_wp2_with fail
    refine bC con fun w5 hb5=>?_;clear s0 s1 s2 s3 s4 s5;clear con p0;have q0:=iX hb5 q0;have hA:=chain hA hb5;have hS:=chain hS hb5;have HSr:=aB (HSr.out.next hb5);have HAk:=HAk.next hb5;have hB:=chain hB hb5;dsimp only;cases has with
    | false =>
     have p0:=cell_of (i:=0) q0 rfl;have p1:=cell_of (i:=1) q0 rfl;have con:=j7 _ _ _ ag HPk.out ar cr l[k].1 l[k].2 w5 HAk HSr.out ag hwl;go_wp2_with fail
     refine con.mono ?_;rintro e w6 ⟨v6,rfl,HA6,hb6⟩;clear con p0 p1;have hB:=chain hB hb6;dsimp only;go_wp2_with fail
     have HR:Hid (aV 2 right.length x (l.take (k+1)) r=aV 2 right.length x (l.take k) r ++ [(l[k].1,l[k].2)]):=by
      show _=_;rw [HTk.out]
      congr 1
      unfold ov;rw [HHs.out];simp
     have HPn:Hid (iL ((k+1)*401) (aV 2 right.length x (l.take (k+1)) r)):=by
      show iL _ _;rw [HR.out];exact (HPk.out.push (y:=(l[k].1,l[k].2)) HRow.out).up ag
     go_roundw
     case rel=>exact ⟨k+1,by omega,by go_num,by rw [HR.out]; exact HA6,HPn,hB⟩
     case measure=>simp [intOf]; omega
    | true =>
     have HR:Hid (aV 2 right.length x (l.take (k+1)) r=aV 2 right.length x (l.take k) r):=by
      show _=_;rw [HTk.out];unfold ov;rw [HHs.out];simp
     have HPn:Hid (iL ((k+1)*401) (aV 2 right.length x (l.take (k+1)) r)):=by
      show iL _ _;rw [HR.out];exact HPk.out.up ag
     go_wp2
     go_roundw
     case rel=>exact ⟨k+1,by omega,by go_num,by rw [HR.out]; exact HAk,HPn,hB⟩
     case measure=>simp [intOf]; omega
   ·have e:k=l.length:=by omega
    subst e;rw [MM] at HA;obtain ⟨av,cv,rfl,zv,lv⟩:=HA;have con:=oc av cv (canon (aV 2 right.length x l r)) wr zv (by have:=eY (aV 2 right.length x l r); have:=HP.out.len; rw [MM] at this; omega);have e1:kE (canon (aV 2 right.length x l r))=fe:=by
     rw [eS ag x l r,HEe.out]; rfl
    have e2:ja (canon (aV 2 right.length x l r))=fz:=by
     unfold ja;rw [e1,HZe.out];unfold bh;rw [← HEe.out,eS ag x l r]
    rw [e1,e2] at con;clear e1 e2 HP;have hA:=chain hA2 hb;go_wp2_with fail
    refine con.mono ?_;rintro e w9 ⟨⟨a9,c9,rfl,zs9⟩,hb9⟩;clear con;dsimp only;go_wp2
    exact bJ rfl rfl ⟨_,rfl,⟨_,_,rfl,zs9⟩,chain hA hb9⟩
 ·have e0:fe=te:=by rw [← HE.out]; unfold cw; rw [HTe.out,if_pos ht]
  have e1:fz = []:=by rw [← HZ.out]; unfold cB; rw [HE.out,e0,if_neg ht]
  have hne:(te != 0)=true:=by simpa using ht
  subst e0 e1;clear ht;go_wp2
  exact bJ rfl rfl ⟨_,rfl,⟨_,_,rfl,⟨by simp,.inl rfl⟩⟩,hA2⟩
theorem wZ (left right:List Int) (x:Ex) (la:Option Addr) (lcap:Nat) (ra:Option Addr) (rcap:Nat) (xa:Option Addr) (xcap:Nat) (a:Option Addr) (ca:Nat) (l:List Zp) (b:Option Addr) (cb:Nat) (r:List Zp) (w:World)
  (hcl:bf w w la left) (hcr:bf w w ra right) (hx:aU w w xa x.ks) (h:aK w a l) (h':aK w b r) (hll:left.length≤100000000000000) (hrl:right.length≤100000000000000) :
  Calls prog 104 #[aD,.slice la left.length lcap,.slice ra right.length rcap,fN x.k x.v x.c xa x.ks.length xcap,.slice a l.length ca,.slice b r.length cb] w fun e w'=>∃ v,e = .returned (.tuple #[v,.int .i64 (cw 0 left right x l r)])∧(∃ ua uc,v = .slice ua (cB 0 left right x l r).length uc∧aK w' ua (cB 0 left right x l r))∧Below w w w':=by
 have h1:=aN w (.cells (hJ x xa xcap) 27);have S1:=aB (ki.new w x.k x.v x.c xa x.ks.length xcap 27);have z1:(w.alloc (.cells (hJ x xa xcap) 27)).heap.size=w.heap.size+1:=by simp
 generalize hfz:cB 0 left right x l r=fz;generalize hfe:cw 0 left right x l r=fe;have HZ:=aB hfz;have HE:=aB hfe;clear hfz hfe;go_enter func104,ntmps104;obtain ⟨s0,s1,s2,s3,s4,s5⟩:=S1.out;simp only [MG] at s1 s2 s3 s4 s5;go_wp2_with fail
 clear s0 s1 s2 s3 s4 s5;generalize w.alloc _=w1 at *;have con:=mZ left right x la lcap ra rcap xa xcap a ca l b cb r w1 ((hcl.next h1 (Mx _)).up h1.size) ((hcr.next h1 (Mx _)).up h1.size) ((aU.next h1 (Mx _) hx).up h1.size) (h.next h1) (h'.next h1) hll hrl;generalize hte:iG left right x l r=te at con;have HTe:=aB hte;clear hte;refine bC con fun w2 hb2=>?_;clear con;have hA2:=chain h1 hb2;dsimp only;by_cases ht:te=0
 ·subst ht;have HT:=aB ((oM left right x l r).1 HTe.out);have hln:=HT.out.len;have hl4:=dg HT.out.left;have hr4:=dg HT.out.right;have HEe:Hid (fe=aR (fH 0 right.length x l r)):=by show _=_; rw [← HE.out]; unfold cw; rw [HTe.out,if_neg (by simp)]
  have HZe:Hid (fz=bh (fH 0 right.length x l r)):=by show _=_; rw [← HZ.out]; unfold cB bh; rw [HE.out,HEe.out]
  clear HE HZ HTe;go_wp2_with fail
  go_loopw [15,34] (fun v i wr=>∃ k:Nat,k≤l.length∧i = .int .i64 k∧Acc wr v (aV 0 right.length x (l.take k) r)∧Hid (iL (k*401) (aV 0 right.length x (l.take k) r))∧Below w2 w2 wr) (fun _ i _=>l.length - (intOf i).toNat)
  case atStart=>exact ⟨0,MD _,rfl,Acc.nil _,⟨by simp [aV],fun y hy=>by simp [aV] at hy⟩,Mz _ _⟩
  case round =>
   obtain ⟨k,hk,rfl,HA,HP,hb⟩:=hrel;by_cases hlt:k<l.length
   ·have hAr:=chain hA2 hb;obtain ⟨bb,off,rfl,hbl,c1,ar,cr,c0,sr⟩:=(h.next hAr).elem hlt;obtain ⟨hal,q0⟩:=iV wr #[.slice ar l[k].1.length cr,.int .i64 l[k].2] 47;have za:(wr.alloc (.cells #[.slice ar l[k].1.length cr,.int .i64 l[k].2] 47)).heap.size=wr.heap.size+1:=by simp
    have HTk:Hid (aV 0 right.length x (l.take (k+1)) r=aV 0 right.length x (l.take k) r ++ ov 0 right.length x r l[k]):=kP hlt;have hrow:=xu HT.out (MC hlt);have HRow:=aB hrow;have hwl:=hrow.2;have hfl:=(HT.out.left.fit l[k] (MC hlt)).len;have hl8:l[k].1.length+right.length≤8:=by omega
    have H8:Hid (∀ q ∈ r,l[k].1.length+q.1.length≤8):=fun q hq=>(fx HT.out).row l[k] (MC hlt) q hq
    have HFt:Hid (∀ q ∈ r,dX (left ++ right) (l[k].1 ++ q.1)):=fun q hq=>(fx HT.out).fit l[k] (MC hlt) q hq
    have hAk:=chain hAr hal;have hSk:=chain (chain hb2 hb) hal;have HSr:Hid (aZ (wr.alloc (.cells #[.slice ar l[k].1.length cr,.int .i64 l[k].2] 47)) ar l[k].1):=sr.next hal;have HAk:=HA.next hal;clear hrow hfl sr HA;have HPk0:Hid (iL (k*401) (aV 0 right.length x (l.take k) r)):=HP;clear HP;go_upto_region 9 with fail
    clear c0 c1;obtain ⟨wo,hwo⟩:∃ z,z=wr:=⟨_,rfl⟩
    subst hwo;obtain ⟨uo,huo⟩:∃ z,z=u15:=⟨_,rfl⟩
    subst huo;generalize wo.alloc (.cells #[.slice ar l[k].1.length cr,.int .i64 l[k].2] 47)=wk at *;have hA:=hAk;have hS:=hSk;have hB:=chain hb hal;go_wp2_with fail
    go_loopw [15,46] (fun v i ws=>∃ m:Nat,m≤r.length∧i = .int .i64 m∧Acc ws v (aV 0 right.length x (l.take k) r ++ bI x l[k] (r.take m))∧Hid (iL (k*401+m) (aV 0 right.length x (l.take k) r ++ bI x l[k] (r.take m)))∧Below wk wk ws) (fun _ i _=>r.length - (intOf i).toNat)
    case atStart=>exact ⟨0,MD _,rfl,by simpa [bI] using HAk,(show iL _ _ by simpa [bI] using HPk0.out),Mz _ _⟩
    case round =>
     clear HAk HPk0;obtain ⟨m,hm,rfl,HAm,HPm,hbm⟩:=hrel;have hzm:=hbm.size;by_cases hmt:m<r.length
     ·have hAm:=chain hA hbm;have hSm:=chain hS hbm;obtain ⟨b2,off2,rfl,hbl2,e1,br,cr2,e0,sr2⟩:=(h'.next hAm).elem hmt;obtain ⟨hal2,q2⟩:=iV wr #[.slice br r[m].1.length cr2,.int .i64 r[m].2] 47;have q0m:=((chain hbm hal2).block _ (an q0)).trans q0;have HS2:=aB (sr2.next hal2);have hAm:=chain hAm hal2;have hSm:=chain hSm hal2;have hBm:=chain hbm hal2
      have HA2:=HAm.next hal2;have hpq:=tN HT.out (MC hlt) (MC hmt);have hW:IntKind.i64.wrap (l[k].2*r[m].2)=l[k].2*r[m].2:=IntWalk.i64_in _ ⟨by have:=hpq.2; omega,by have:=hpq.2; omega⟩;have hmul:=hpq.2;have HPQ:=aB hpq;have h8m:=H8.out r[m] (MC hmt);have HFm:=aB (HFt.out r[m] (MC hmt))
      have HT2:=aB (lD x l[k] hmt);clear sr2 hpq HAm;go_upto_region 12 with fail
      clear e0 e1;obtain ⟨wi,hwi⟩:∃ z,z=wr:=⟨_,rfl⟩
      subst hwi;generalize wi.alloc _=wq at *;have p0:=cell_of (i:=0) q0m rfl;have p2:=cell_of (i:=0) q2 rfl;have con:=jO ar br cr cr2 l[k].1 r[m].1 wq (HSr.out.next hBm) HS2.out h8m;go_wp2_with fail
      refine con.mono ?_;rintro e w7 ⟨v7,rfl,O7,hb7⟩;clear con p0 p2;obtain ⟨a8,c8,rfl,S8,_,_⟩:=dQ O7 (by simp);have hAm:=chain hAm hb7;have hSm:=chain hSm hb7;have hBm:=chain hBm hb7;have HA2:=HA2.next hb7;have q0m:=iX hb7 q0m;have q2:=iX hb7 q2;obtain ⟨n8,hn8⟩:∃ n8,n8=(l[k].1 ++ r[m].1).length:=⟨_,rfl⟩
      have con:=j4 x HT.out.cond (l[k].1 ++ r[m].1) HFm.out xa xcap a8 c8 w7 ((aU.next hAm (Mx _) hx).up hAm.size) S8;rw [← hn8] at con ⊢;have HN8:=aB hn8;clear hn8 O7;generalize hho:cX x (l[k].1 ++ r[m].1)=ho at con;have HHo:=aB hho;clear hho;obtain ⟨s0,s1,s2,s3,s4,s5⟩:=S1.out.next hSm ag;simp only [MG] at s1 s2 s3 s4 s5;dsimp only;go_wp2_with fail
      refine bC con fun w8 hb8=>?_;clear con s0 s1 s2 s3 s4 s5;have hBm:=chain hBm hb8;have HA2:=HA2.next hb8;have S8:=S8.next hb8;have q0m:=iX hb8 q0m;have q2:=iX hb8 q2;dsimp only;cases ho with
      | true =>
       have p0:=cell_of (i:=1) q0m rfl;have p2:=cell_of (i:=1) q2 rfl;have con:=j7 _ _ _ ag HPm.out a8 c8 (l[k].1 ++ r[m].1) (l[k].2*r[m].2) w8 HA2 S8 (by rw [ME]; exact h8m) hmul;rw [← HN8.out] at con;go_wp2_with fail
       refine con.mono ?_;rintro e w9 ⟨v9,rfl,HA9,hb9⟩;clear con p0 p2;have hBm:=chain hBm hb9;have HR2:Hid (aV 0 right.length x (l.take k) r ++ bI x l[k] (r.take (m+1))=(aV 0 right.length x (l.take k) r ++ bI x l[k] (r.take m)) ++ [(l[k].1 ++ r[m].1,l[k].2*r[m].2)]):=by
        show _=_;rw [HT2.out,HHo.out,if_pos rfl,Nh]
       have HPn:Hid (iL (k*401+(m+1)) (aV 0 right.length x (l.take k) r ++ bI x l[k] (r.take (m+1)))):=by
        show iL _ _;rw [HR2.out];exact HPm.out.push (y:=(l[k].1 ++ r[m].1,l[k].2*r[m].2)) HPQ.out
       dsimp only;go_wp2
       go_roundw
       case rel=>exact ⟨m+1,by omega,by go_num,by rw [HR2.out]; exact HA9,HPn,hBm⟩
       case measure=>simp [intOf]; omega
      | false =>
       have HR2:Hid (aV 0 right.length x (l.take k) r ++ bI x l[k] (r.take (m+1))=aV 0 right.length x (l.take k) r ++ bI x l[k] (r.take m)):=by
        show _=_;rw [HT2.out,HHo.out,if_neg (by decide),M8]
       have HPn:Hid (iL (k*401+(m+1)) (aV 0 right.length x (l.take k) r ++ bI x l[k] (r.take (m+1)))):=by
        show iL _ _;rw [HR2.out];exact HPm.out.up ag
       go_wp2
       go_roundw
       case rel=>exact ⟨m+1,by omega,by go_num,by rw [HR2.out]; exact HA2,HPn,hBm⟩
       case measure=>simp [intOf]; omega
     ·have e:m=r.length:=by omega
      subst e;rw [MM] at HAm HPm;have hA:=chain hA hbm;have hS:=chain hS hbm;have hB:=chain hB hbm;have q0:=iX hbm q0;have HSr:=aB (HSr.out.next hbm);have HAk:=HAm;have HPk:=aB HPm;clear HAm HPm;go_upto_region 16 with fail
      have con:=iJ (cols:=left ++ right) x HT.out.cond xa xcap ar cr l[k].1 b cb r wr ((aU.next hA (Mx _) hx).up hA.size) HSr.out (h'.next hA) hr4 H8.out HFt.out;generalize hhs:fY x r l[k].1=has at con;have HHs:=aB hhs;clear hhs;have p0:=cell_of (i:=0) q0 rfl;obtain ⟨s0,s1,s2,s3,s4,s5⟩:=S1.out.next hS ag;simp only [MG] at s1 s2 s3 s4 s5;go_wp2_with fail
      refine bC con fun w5 hb5=>?_;clear s0 s1 s2 s3 s4 s5;clear con p0;have q0:=iX hb5 q0;have hA:=chain hA hb5;have hS:=chain hS hb5;have HSr:=aB (HSr.out.next hb5);have HAk:=HAk.next hb5;have hB:=chain hB hb5;dsimp only;have HR:Hid (aV 0 right.length x (l.take (k+1)) r=aV 0 right.length x (l.take k) r ++ bI x l[k] r):=by
       show _=_;rw [HTk.out]
       congr 1
       unfold ov;simp
      have HPn:Hid (iL ((k+1)*401) (aV 0 right.length x (l.take (k+1)) r)):=by
       show iL _ _;rw [HR.out];exact HPk.out.up ag
      go_wp2
      go_roundw
      case rel =>
       exact ⟨k+1,by omega,by go_num,by rw [HR.out]; exact HAk,HPn,hB⟩
      case measure=>simp [intOf]; omega
   ·have e:k=l.length:=by omega
    subst e;rw [MM] at HA;obtain ⟨av,cv,rfl,zv,lv⟩:=HA;have con:=oc av cv (canon (aV 0 right.length x l r)) wr zv (by have:=eY (aV 0 right.length x l r); have:=HP.out.len; rw [MM] at this; omega);have e1:kE (canon (aV 0 right.length x l r))=fe:=by
     rw [eS ag x l r,HEe.out]; rfl
    have e2:ja (canon (aV 0 right.length x l r))=fz:=by
     unfold ja;rw [e1,HZe.out];unfold bh;rw [← HEe.out,eS ag x l r]
    rw [e1,e2] at con;clear e1 e2 HP;have hA:=chain hA2 hb;go_wp2_with fail
    refine con.mono ?_;rintro e w9 ⟨⟨a9,c9,rfl,zs9⟩,hb9⟩;clear con;dsimp only;go_wp2
    exact bJ rfl rfl ⟨_,rfl,⟨_,_,rfl,zs9⟩,chain hA hb9⟩
 ·have e0:fe=te:=by rw [← HE.out]; unfold cw; rw [HTe.out,if_pos ht]
  have e1:fz = []:=by rw [← HZ.out]; unfold cB; rw [HE.out,e0,if_neg ht]
  have hne:(te != 0)=true:=by simpa using ht
  subst e0 e1;clear ht;go_wp2
  exact bJ rfl rfl ⟨_,rfl,⟨_,_,rfl,⟨by simp,.inl rfl⟩⟩,hA2⟩
def Ll:Value→Nat
 | .slice _ n _=>n
 | _=>0
theorem zO (j:Nat):eK (j+1)=eK j ++ [(1,0,⟨#[]⟩)]:=by
 unfold eK;rw [List.replicate_succ']
theorem wX (left right:List Int) (x:Ex) (la:Option Addr) (lcap:Nat) (ra:Option Addr) (rcap:Nat) (xa:Option Addr) (xcap:Nat) (a:Option Addr) (ca:Nat) (l:List Zp) (b:Option Addr) (cb:Nat) (r:List Zp) (w:World)
  (hcl:bf w w la left) (hcr:bf w w ra right) (hx:aU w w xa x.ks) (h:aK w a l) (h':aK w b r) (hll:left.length≤100000000000000) (hrl:right.length≤100000000000000) :
  Calls prog 104 #[(3:Int),.slice la left.length lcap,.slice ra right.length rcap,fN x.k x.v x.c xa x.ks.length xcap,.slice a l.length ca,.slice b r.length cb] w fun e w'=>∃ v,e = .returned (.tuple #[v,.int .i64 (cw 3 left right x l r)])∧(∃ ua uc,v = .slice ua (cB 3 left right x l r).length uc∧aK w' ua (cB 3 left right x l r))∧Below w w w':=by
 have h1:=aN w (.cells (hJ x xa xcap) 27);have S1:=aB (ki.new w x.k x.v x.c xa x.ks.length xcap 27);have z1:(w.alloc (.cells (hJ x xa xcap) 27)).heap.size=w.heap.size+1:=by simp
 generalize hfz:cB 3 left right x l r=fz;generalize hfe:cw 3 left right x l r=fe;have HZ:=aB hfz;have HE:=aB hfe;clear hfz hfe;go_enter func104,ntmps104;obtain ⟨s0,s1,s2,s3,s4,s5⟩:=S1.out;simp only [MG] at s1 s2 s3 s4 s5;go_wp2_with fail
 clear s0 s1 s2 s3 s4 s5;generalize w.alloc _=w1 at *;have con:=mZ left right x la lcap ra rcap xa xcap a ca l b cb r w1 ((hcl.next h1 (Mx _)).up h1.size) ((hcr.next h1 (Mx _)).up h1.size) ((aU.next h1 (Mx _) hx).up h1.size) (h.next h1) (h'.next h1) hll hrl;generalize hte:iG left right x l r=te at con;have HTe:=aB hte;clear hte;refine bC con fun w2 hb2=>?_;clear con;have hA2:=chain h1 hb2;dsimp only;by_cases ht:te=0
 ·subst ht;have HT:=aB ((oM left right x l r).1 HTe.out);have hln:=HT.out.len;have hl4:=dg HT.out.left;have hr4:=dg HT.out.right;have HEe:Hid (fe=aR (fH 3 right.length x l r)):=by show _=_; rw [← HE.out]; unfold cw; rw [HTe.out,if_neg (by simp)]
  have HZe:Hid (fz=bh (fH 3 right.length x l r)):=by show _=_; rw [← HZ.out]; unfold cB bh; rw [HE.out,HEe.out]
  clear HE HZ HTe;go_wp2_with fail
  go_loopw [15,34] (fun v i wr=>∃ k:Nat,k≤l.length∧i = .int .i64 k∧Acc wr v (aV 3 right.length x (l.take k) r)∧Hid (iL (k*401) (aV 3 right.length x (l.take k) r))∧Below w2 w2 wr) (fun _ i _=>l.length - (intOf i).toNat)
  case atStart=>exact ⟨0,MD _,rfl,Acc.nil _,⟨by simp [aV],fun y hy=>by simp [aV] at hy⟩,Mz _ _⟩
  case round =>
   obtain ⟨k,hk,rfl,HA,HP,hb⟩:=hrel;by_cases hlt:k<l.length
   ·have hAr:=chain hA2 hb;obtain ⟨bb,off,rfl,hbl,c1,ar,cr,c0,sr⟩:=(h.next hAr).elem hlt;obtain ⟨hal,q0⟩:=iV wr #[.slice ar l[k].1.length cr,.int .i64 l[k].2] 47;have za:(wr.alloc (.cells #[.slice ar l[k].1.length cr,.int .i64 l[k].2] 47)).heap.size=wr.heap.size+1:=by simp
    have HTk:Hid (aV 3 right.length x (l.take (k+1)) r=aV 3 right.length x (l.take k) r ++ ov 3 right.length x r l[k]):=kP hlt;have hrow:=xu HT.out (MC hlt);have HRow:=aB hrow;have hwl:=hrow.2;have hfl:=(HT.out.left.fit l[k] (MC hlt)).len;have hl8:l[k].1.length+right.length≤8:=by omega
    have H8:Hid (∀ q ∈ r,l[k].1.length+q.1.length≤8):=fun q hq=>(fx HT.out).row l[k] (MC hlt) q hq
    have HFt:Hid (∀ q ∈ r,dX (left ++ right) (l[k].1 ++ q.1)):=fun q hq=>(fx HT.out).fit l[k] (MC hlt) q hq
    have hAk:=chain hAr hal;have hSk:=chain (chain hb2 hb) hal;have HSr:Hid (aZ (wr.alloc (.cells #[.slice ar l[k].1.length cr,.int .i64 l[k].2] 47)) ar l[k].1):=sr.next hal;have HAk:=HA.next hal;clear hrow hfl sr HA;have HPk0:Hid (iL (k*401) (aV 3 right.length x (l.take k) r)):=HP;clear HP;go_upto_region 9 with fail
    clear c0 c1;obtain ⟨wo,hwo⟩:∃ z,z=wr:=⟨_,rfl⟩
    subst hwo;obtain ⟨uo,huo⟩:∃ z,z=u15:=⟨_,rfl⟩
    subst huo;generalize wo.alloc (.cells #[.slice ar l[k].1.length cr,.int .i64 l[k].2] 47)=wk at *;have hA:=hAk;have hS:=hSk;have hB:=chain hb hal;go_wp2_with fail
    go_loopw [15,46] (fun v i ws=>∃ m:Nat,m≤r.length∧i = .int .i64 m∧Acc ws v (aV 3 right.length x (l.take k) r ++ bI x l[k] (r.take m))∧Hid (iL (k*401+m) (aV 3 right.length x (l.take k) r ++ bI x l[k] (r.take m)))∧Below wk wk ws) (fun _ i _=>r.length - (intOf i).toNat)
    case atStart=>exact ⟨0,MD _,rfl,by simpa [bI] using HAk,(show iL _ _ by simpa [bI] using HPk0.out),Mz _ _⟩
    case round =>
     clear HAk HPk0;obtain ⟨m,hm,rfl,HAm,HPm,hbm⟩:=hrel;have hzm:=hbm.size;by_cases hmt:m<r.length
     ·have hAm:=chain hA hbm;have hSm:=chain hS hbm;obtain ⟨b2,off2,rfl,hbl2,e1,br,cr2,e0,sr2⟩:=(h'.next hAm).elem hmt;obtain ⟨hal2,q2⟩:=iV wr #[.slice br r[m].1.length cr2,.int .i64 r[m].2] 47;have q0m:=((chain hbm hal2).block _ (an q0)).trans q0;have HS2:=aB (sr2.next hal2);have hAm:=chain hAm hal2;have hSm:=chain hSm hal2;have hBm:=chain hbm hal2
      have HA2:=HAm.next hal2;have hpq:=tN HT.out (MC hlt) (MC hmt);have hW:IntKind.i64.wrap (l[k].2*r[m].2)=l[k].2*r[m].2:=IntWalk.i64_in _ ⟨by have:=hpq.2; omega,by have:=hpq.2; omega⟩;have hmul:=hpq.2;have HPQ:=aB hpq;have h8m:=H8.out r[m] (MC hmt);have HFm:=aB (HFt.out r[m] (MC hmt))
      have HT2:=aB (lD x l[k] hmt);clear sr2 hpq HAm;go_upto_region 12 with fail
      clear e0 e1;obtain ⟨wi,hwi⟩:∃ z,z=wr:=⟨_,rfl⟩
      subst hwi;generalize wi.alloc _=wq at *;have p0:=cell_of (i:=0) q0m rfl;have p2:=cell_of (i:=0) q2 rfl;have con:=jO ar br cr cr2 l[k].1 r[m].1 wq (HSr.out.next hBm) HS2.out h8m;go_wp2_with fail
      refine con.mono ?_;rintro e w7 ⟨v7,rfl,O7,hb7⟩;clear con p0 p2;obtain ⟨a8,c8,rfl,S8,_,_⟩:=dQ O7 (by simp);have hAm:=chain hAm hb7;have hSm:=chain hSm hb7;have hBm:=chain hBm hb7;have HA2:=HA2.next hb7;have q0m:=iX hb7 q0m;have q2:=iX hb7 q2;obtain ⟨n8,hn8⟩:∃ n8,n8=(l[k].1 ++ r[m].1).length:=⟨_,rfl⟩
      have con:=j4 x HT.out.cond (l[k].1 ++ r[m].1) HFm.out xa xcap a8 c8 w7 ((aU.next hAm (Mx _) hx).up hAm.size) S8;rw [← hn8] at con ⊢;have HN8:=aB hn8;clear hn8 O7;generalize hho:cX x (l[k].1 ++ r[m].1)=ho at con;have HHo:=aB hho;clear hho;obtain ⟨s0,s1,s2,s3,s4,s5⟩:=S1.out.next hSm ag;simp only [MG] at s1 s2 s3 s4 s5;dsimp only;go_wp2_with fail
      refine bC con fun w8 hb8=>?_;clear con s0 s1 s2 s3 s4 s5;have hBm:=chain hBm hb8;have HA2:=HA2.next hb8;have S8:=S8.next hb8;have q0m:=iX hb8 q0m;have q2:=iX hb8 q2;dsimp only;cases ho with
      | true =>
       have p0:=cell_of (i:=1) q0m rfl;have p2:=cell_of (i:=1) q2 rfl;have con:=j7 _ _ _ ag HPm.out a8 c8 (l[k].1 ++ r[m].1) (l[k].2*r[m].2) w8 HA2 S8 (by rw [ME]; exact h8m) hmul;rw [← HN8.out] at con;go_wp2_with fail
       refine con.mono ?_;rintro e w9 ⟨v9,rfl,HA9,hb9⟩;clear con p0 p2;have hBm:=chain hBm hb9;have HR2:Hid (aV 3 right.length x (l.take k) r ++ bI x l[k] (r.take (m+1))=(aV 3 right.length x (l.take k) r ++ bI x l[k] (r.take m)) ++ [(l[k].1 ++ r[m].1,l[k].2*r[m].2)]):=by
        show _=_;rw [HT2.out,HHo.out,if_pos rfl,Nh]
       have HPn:Hid (iL (k*401+(m+1)) (aV 3 right.length x (l.take k) r ++ bI x l[k] (r.take (m+1)))):=by
        show iL _ _;rw [HR2.out];exact HPm.out.push (y:=(l[k].1 ++ r[m].1,l[k].2*r[m].2)) HPQ.out
       dsimp only;go_wp2
       go_roundw
       case rel=>exact ⟨m+1,by omega,by go_num,by rw [HR2.out]; exact HA9,HPn,hBm⟩
       case measure=>simp [intOf]; omega
      | false =>
       have HR2:Hid (aV 3 right.length x (l.take k) r ++ bI x l[k] (r.take (m+1))=aV 3 right.length x (l.take k) r ++ bI x l[k] (r.take m)):=by
        show _=_;rw [HT2.out,HHo.out,if_neg (by decide),M8]
       have HPn:Hid (iL (k*401+(m+1)) (aV 3 right.length x (l.take k) r ++ bI x l[k] (r.take (m+1)))):=by
        show iL _ _;rw [HR2.out];exact HPm.out.up ag
       go_wp2
       go_roundw
       case rel=>exact ⟨m+1,by omega,by go_num,by rw [HR2.out]; exact HA2,HPn,hBm⟩
       case measure=>simp [intOf]; omega
     ·have e:m=r.length:=by omega
      subst e;rw [MM] at HAm HPm;have hA:=chain hA hbm;have hS:=chain hS hbm;have hB:=chain hB hbm;have q0:=iX hbm q0;have HSr:=aB (HSr.out.next hbm);have HAk:=HAm;have HPk:=aB HPm;clear HAm HPm;go_upto_region 16 with fail
      have con:=iJ (cols:=left ++ right) x HT.out.cond xa xcap ar cr l[k].1 b cb r wr ((aU.next hA (Mx _) hx).up hA.size) HSr.out (h'.next hA) hr4 H8.out HFt.out;generalize hhs:fY x r l[k].1=has at con;have HHs:=aB hhs;clear hhs;have p0:=cell_of (i:=0) q0 rfl;obtain ⟨s0,s1,s2,s3,s4,s5⟩:=S1.out.next hS ag;simp only [MG] at s1 s2 s3 s4 s5;go_wp2_with fail
      refine bC con fun w5 hb5=>?_;clear s0 s1 s2 s3 s4 s5;clear con p0;have q0:=iX hb5 q0;have hA:=chain hA hb5;have hS:=chain hS hb5;have HSr:=aB (HSr.out.next hb5);have HAk:=HAk.next hb5;have hB:=chain hB hb5;dsimp only;cases has with
      | true =>
       have HR:Hid (aV 3 right.length x (l.take (k+1)) r=aV 3 right.length x (l.take k) r ++ bI x l[k] r):=by
        show _=_;rw [HTk.out]
        congr 1
        unfold ov;rw [HHs.out];simp
       have HPn:Hid (iL ((k+1)*401) (aV 3 right.length x (l.take (k+1)) r)):=by
        show iL _ _;rw [HR.out];exact HPk.out.up ag
       go_wp2
       go_roundw
       case rel =>
        exact ⟨k+1,by omega,by go_num,by rw [HR.out]; exact HAk,HPn,hB⟩
       case measure=>simp [intOf]; omega
      | false =>
       obtain ⟨iv,hiv,hv0,hv1,hv2⟩:=info_parts sZ;have p0:=cell_of (i:=0) q0 rfl;have con:=jO ar none cr 0 l[k].1 [] w5 HSr.out ⟨by simp,.inl rfl⟩ (by simp; omega);rw [Od] at con;have hwo5:=an q0;have q5:=q0;have HA5:=HAk;have hBw:=hB;go_wp2_with fail
       refine con.mono ?_;rintro e w6 ⟨v6,rfl,O6,hb6⟩;clear con p0;have O6:=O6;have z5:=hb6.size;dsimp only;obtain ⟨wu,hwu⟩:∃ z,z=wr:=⟨_,rfl⟩
       obtain ⟨us,hus⟩:∃ z,z=u15:=⟨_,rfl⟩
       subst hwu hus;go_wp2_with fail
       go_loopw [22] (fun v ws=>∃ j:Nat,j≤right.length∧ws.ownsRow w5 24 3 v (l[k].1.length+j) (bG (l[k].1 ++ eK j))∧Below w5 w6 ws) (fun v _=>right.length+8 - Ll v)
       case atStart=>exact ⟨0,MD _,O6,Mz _ _⟩
       case round =>
        clear O6;obtain ⟨j,hj,Oj,hbj⟩:=hrel;have hB5:=hb6.trans hbj;have zj:=hB5.size;have p0:=(hB5.cell (p:=ah wo 0) hwo5).trans (cell_of (i:=0) q5 rfl);have p1:=(hB5.cell (p:=ah wo 1) hwo5).trans (cell_of (i:=1) q5 rfl);obtain ⟨aj,cj,rfl⟩:=eX Oj;by_cases hjt:j<right.length
        ·have hjz:(l[k].1.length:Int)+(j:Int)<(l[k].1.length:Int)+(right.length:Int):=by omega
         have hjz':((l[k].1.length+j:Nat):Int)<(l[k].1.length:Int)+(right.length:Int):=by omega
         clear p1;go_wp2_with fail
         refine bC (bP _) fun w12 hb12=>?_;have hz12:=hb12.size;have oj2:=aL Oj hb12;clear p0;dsimp only;go_wp2_with (first | (at_builtin; refine MX _ rfl _ _ 45 rfl _ 24 iv _ 3 32 underlying45 hiv hv0 hv1 hv2 rfl (by decide) _ _ _ rfl (oj2.alloc _) (ah w12 0) 1 1 [.int .i64 1,aD,()] rfl rfl ?Ac1 ?Ac2 ?Ac3 ?Ac4 ?Ac5 ?_))
         case Ac1 =>
          intro i u hu
          match i,hu with
          | 0,hu=>simp at hu; subst hu; simp [Addr.add]
          | 1,hu=>simp at hu; subst hu; simp [Addr.add]
          | 2,hu=>simp at hu; subst hu; simp [Addr.add]
         case Ac2=>intro u hu; simp at hu; rcases hu with rfl | rfl | rfl <;> rfl
         case Ac3=>unfold maxLen; omega
         case Ac4=>omega
         case Ac5=>simp; omega
         intro v' w13 o13 g13 _;have hb13:Below w5 w6 w13:=(hbj.trans (hb12.mono zj)).trans (((Mz _ _).alloc ag _).grown g13 (by simp; omega) (fun q hq=>((oj2.alloc (.cells #[(1:Int),aD,()] 24)).lt q hq).1));have o13':w13.ownsRow w5 24 3 v' (l[k].1.length+(j+1)) (bG (l[k].1 ++ eK (j+1))):=by
          rw [zO,← Nh,bW];exact o13
         obtain ⟨a13,c13,rfl⟩:=eX o13';clear g13 Oj oj2 o13;go_wp2
         go_roundw
         case rel =>
          exact ⟨j+1,by omega,o13',hb13⟩
         case measure=>simp [Ll]; omega
        ·have e:j=right.length:=by omega
         subst e;have hjz:¬ (l[k].1.length:Int)+(right.length:Int)<(l[k].1.length:Int)+(right.length:Int):=by omega
         have hjz':¬ ((l[k].1.length+right.length:Nat):Int)<(l[k].1.length:Int)+(right.length:Int):=by omega
         obtain ⟨a8,c8,e8,S8,_,_⟩:=dQ Oj (by simp [eK]);injection e8 with e81 e82 e83
         subst e81 e83;have con:=j7 _ _ _ ag HPk.out aj cj (l[k].1 ++ eK right.length) l[k].2 wr (HA5.next hB5) S8 (by simp [eK]; omega) hwl;have en:(l[k].1 ++ eK right.length).length=l[k].1.length+right.length:=by simp [eK]
         rw [en] at con;have HR:Hid (aV 3 right.length x (l.take (k+1)) r=(aV 3 right.length x (l.take k) r ++ bI x l[k] r) ++ [(l[k].1 ++ eK right.length,l[k].2)]):=by
          show _=_;rw [HTk.out,Nh]
          congr 1
          unfold ov;rw [HHs.out];simp
         have HPn:Hid (iL ((k+1)*401) (aV 3 right.length x (l.take (k+1)) r)):=by
          show iL _ _;rw [HR.out];exact (HPk.out.push (y:=(l[k].1 ++ eK right.length,l[k].2)) ⟨pw HRow.out.1 (Am _),HRow.out.2⟩).up ag
         clear en Oj e82;go_wp2_with fail
         refine con.mono ?_;rintro e w14 ⟨v14,rfl,HA14,hb14⟩;clear con p0 p1;have hB14:=chain (chain hBw hB5) hb14;dsimp only;go_wp2
         go_roundw
         case rel =>
          exact ⟨k+1,by omega,by go_num,by rw [HR.out]; exact HA14,HPn,hB14⟩
         case measure=>simp [intOf]; omega
   ·have e:k=l.length:=by omega
    subst e;rw [MM] at HA;obtain ⟨av,cv,rfl,zv,lv⟩:=HA;have con:=oc av cv (canon (aV 3 right.length x l r)) wr zv (by have:=eY (aV 3 right.length x l r); have:=HP.out.len; rw [MM] at this; omega);have e1:kE (canon (aV 3 right.length x l r))=fe:=by
     rw [eS ag x l r,HEe.out]; rfl
    have e2:ja (canon (aV 3 right.length x l r))=fz:=by
     unfold ja;rw [e1,HZe.out];unfold bh;rw [← HEe.out,eS ag x l r]
    rw [e1,e2] at con;clear e1 e2 HP;have hA:=chain hA2 hb;go_wp2_with fail
    refine con.mono ?_;rintro e w9 ⟨⟨a9,c9,rfl,zs9⟩,hb9⟩;clear con;dsimp only;go_wp2
    exact bJ rfl rfl ⟨_,rfl,⟨_,_,rfl,zs9⟩,chain hA hb9⟩
 ·have e0:fe=te:=by rw [← HE.out]; unfold cw; rw [HTe.out,if_pos ht]
  have e1:fz = []:=by rw [← HZ.out]; unfold cB; rw [HE.out,e0,if_neg ht]
  have hne:(te != 0)=true:=by simpa using ht
  subst e0 e1;clear ht;go_wp2
  exact bJ rfl rfl ⟨_,rfl,⟨_,_,rfl,⟨by simp,.inl rfl⟩⟩,hA2⟩
end Go.Proofs.YtoefpglknaiaeaaGreat
