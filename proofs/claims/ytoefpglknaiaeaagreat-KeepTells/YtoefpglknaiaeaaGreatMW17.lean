import Derived.Test.YtoefpglknaiaeaaGreatMW9
set_option maxHeartbeats 16000000
set_option maxRecDepth 100000
namespace Go.Proofs.YtoefpglknaiaeaaGreat
open Go.RowKit Go.Lib Go.Shelf
theorem aS {P:Program} {w:World} {ops:Array Oper} {rest:List Oper} {o:Oper} {a:Act} {Q:Exit→Act→World→Prop} (hgd:o.guard=none) (s x:Operand) (t:TypeId)
  (ho:o.op = .call { callee:=.builtin .append,args:=#[s,x],argTypes:=#[t,t] })
  (base:Nat) (e:TypeId) (i:TypeInfo) (z:Value) (size bytes:Nat) (ht:P.underlying t=some (.slice e)) (hi:P.info? e=some i) (hz:i.zero=some z)
  (hsize:i.size=size) (hby:i.bytes=bytes) (hzs:z.cells.size=size) (hsz:0<size)
  (v:Value) (n:Nat) (xs:List Value) (hs:a.eval s=v) (hown:w.ownsRow base e size v n xs)
  (ao:Option Addr) (m c:Nat) (news:List Value) (hx:a.eval x = .slice ao m c) (hn0:ao=none→m=0∧c=0) (hl:news.length=m*size) (hnews:∀ ad,ao=some ad→∀ j u,news[j]? = some u→w.cell? (ad.add j)=some u) (h1:∀ u ∈ news,u.oneCell'=true)
  (h63:n+m≤maxLen) (hbytes:(n+m)*bytes≤140737488355328) (hbase:base≤w.heap.size)
  (h:∀ v' w',w'.ownsRow base e size v' (n+m) (xs ++ news)→w.grownBy w' v.ownBlock→wpList P ops Q rest (a.put o.dst v') w'):wpList P ops Q (o :: rest) a w:=by
 cases ao with
 | none =>
  obtain ⟨rfl,rfl⟩:=hn0 rfl;have e0:=MH (by simpa using hl);subst e0;refine wpList_append_own_none hgd s x t ho base e i size ht hi v n xs hs hown hx ?_;exact h v w (by simpa using hown) ⟨rfl,rfl,rfl,Mx _,fun _ _ _=>rfl⟩
 | some ad=>exact MX w hgd s x t ho base e i z size bytes ht hi hz hsize hby hzs hsz v n xs hs hown ad m c news hx hl (hnews ad rfl) h1 h63 hbytes hbase fun v' w' g1 g2 _=>h v' w' g1 g2
open _root_.Go.Proofs.Tryz
def Safe (B:Nat) (W:World) (a:Option Addr) (r:List Vl):Prop:=r = []∨fi W a∨∀ b off,a=some ⟨b,off,none⟩→b<B
theorem Safe.next {B:Nat} {W w1:World} {a:Option Addr} {r:List Vl} (h:Safe B W a r) (hb:Below W W w1):Safe B w1 a r:=by
 rcases h with h | h | h
 ·exact .inl h
 ·exact .inr (.inl (h.next hb))
 ·exact .inr (.inr h)
theorem Fb {W w1:World} {B n:Nat} {v:Value} {xs:List Value} {a:Option Addr} {r:List Vl} (h:aZ W a r) (hs:Safe B W a r) (ho:W.ownsRow B 47 2 v n xs) (hg:W.grownBy w1 v.ownBlock):aZ w1 a r∧Safe B w1 a r:=by
 rcases hs with hs | hs | hs
 ·subst hs; exact ⟨⟨by simp,.inl rfl⟩,.inl rfl⟩
 ·have:=jR h hs ho hg;exact ⟨this.1,.inr (.inl this.2)⟩
 ·refine ⟨⟨h.1,?_⟩,.inr (.inr hs)⟩;rcases h.2 with h | ⟨b,off,e,hr,hlt⟩
  ·exact .inl h
  ·refine .inr ⟨b,off,e,fun i hi=>?_,My hlt hg.size⟩;have k:w1.heap[b]? = W.heap[b]?:=hg.block b hlt fun e'=>by
    have:=(ho.lt b e'.symm).1;have:=hs b off e;omega
   obtain ⟨c0,c1,c2⟩:=hr i hi;exact ⟨(MP (a:=⟨b,_,none⟩) k).trans c0,(MP (a:=⟨b,_,none⟩) k).trans c1,(MP (a:=⟨b,_,none⟩) k).trans c2⟩
def ky (B:Nat) (W:World) (xs:List Value) (l:List Zp):Prop :=
 xs.length=l.length*2∧∀ (i:Nat) (h:i<l.length),∃ a cap,xs[i*2]? = some (.slice a l[i].1.length cap)∧xs[i*2+1]? = some (.int .i64 l[i].2)∧aZ W a l[i].1∧Safe B W a l[i].1
theorem ky.next {B:Nat} {W w1:World} {xs:List Value} {l:List Zp} (h:ky B W xs l) (hb:Below W W w1):ky B w1 xs l :=
 ⟨h.1,fun i hi=>by
  obtain ⟨a,cap,h1,h2,h3,h4⟩:=h.2 i hi
  exact ⟨a,cap,h1,h2,h3.next hb,h4.next hb⟩⟩
theorem ky.append {B:Nat} {W:World} {xs ys:List Value} {l t:List Zp} (h:ky B W xs l) (k:ky B W ys t):ky B W (xs ++ ys) (l ++ t):=by
 have lx:=h.1;have ly:=k.1;refine ⟨by simp [lx,ly]; omega,fun i hi=>?_⟩;by_cases hi':i<l.length
 ·obtain ⟨a',c',h1,h2,h3⟩:=h.2 i hi';rw [MV hi'];refine ⟨a',c',?_,?_,h3⟩
  ·rw [MT ag,h1]
  ·rw [MT ag,h2]
 ·have hi2:i - l.length<t.length:=by simp at hi; omega
  obtain ⟨a',c',h1,h2,h3⟩:=k.2 (i - l.length) hi2;rw [Nx ag];refine ⟨a',c',?_,?_,h3⟩
  ·rw [MU ag,← h1]; congr 1; omega
  ·rw [MU ag,← h2]; congr 1; omega
theorem fD {w W:World} {xs:List Value} {l:List Zp} (h:iy w xs l) (hb:Below w w W):ky w W xs l :=
 ⟨h.1,fun i hi=>by
  obtain ⟨a,cap,h1,h2,h3⟩:=h.2 i hi
  refine ⟨a,cap,h1,h2,h3.next hb,?_⟩
  rcases h3.2 with h | ⟨b,off,e,_,hlt⟩
  ·exact .inl h
  ·refine .inr (.inr fun b' off' e'=>?_)
   rw [e] at e'
   injection e' with e'
   injection e' with e' _ _
   omega⟩
def fJ (B:Nat) (W:World) (v:Value) (l:List Zp):Prop:=∃ xs,W.ownsRow B 47 2 v l.length xs∧ky B W xs l
theorem fJ.next {B:Nat} {W w1:World} {v:Value} {l:List Zp} (h:fJ B W v l) (hb:Below W W w1):fJ B w1 v l:=by
 obtain ⟨xs,h1,h2⟩:=h;exact ⟨xs,aL h1 hb,h2.next hb⟩
theorem Ey {B n:Nat} {W w1:World} {v v':Value} {xs ys:List Value} {l t:List Zp} (ho:W.ownsRow B 47 2 v n xs) (he:ky B W xs l) (hk:ky B W ys t) (ho':w1.ownsRow B 47 2 v' (l ++ t).length (xs ++ ys)) (hg:W.grownBy w1 v.ownBlock):fJ B w1 v' (l ++ t):=by
 refine ⟨_,ho',?_⟩;have h:=he.append hk;exact ⟨h.1,fun i hi=>by
  obtain ⟨a,cap,h1,h2,h3,h4⟩:=h.2 i hi;have g:=Fb h3 h4 ho hg;exact ⟨a,cap,h1,h2,g.1,g.2⟩⟩
structure Lf (a:Option Addr) (cap n:Nat):Prop where
 nil:a=none→cap=0
 room:n≤cap
 max:cap≤maxLen
theorem fJ.zs {B:Nat} {W:World} {v:Value} {l:List Zp} (h:fJ B W v l):∃ a cap,v = .slice a l.length cap∧aK W a l∧Lf a cap l.length:=by
 obtain ⟨xs,h1,h2⟩:=h;have h1':=h1;obtain ⟨hx,h1 | ⟨g,cap,cur,e,hg,hh,hn,hc,hs,ht⟩⟩:=h1
 ·obtain ⟨rfl,h0⟩:=h1;have:l = []:=MH h0;subst this;exact ⟨none,0,rfl,⟨MD _,.inl rfl⟩,fun _=>rfl,by simp,MD _⟩
 ·subst e;refine ⟨_,cap,rfl,⟨MO hn hc,.inr ⟨g,0,rfl,?_,?_⟩⟩,fun e=>(by cases e),hn,hc⟩
  ·exact (h1'.lt g rfl).2
  ·intro i hi;obtain ⟨a,cp,e0,e1,e2,e3⟩:=h2.2 i hi;refine ⟨?_,a,cp,?_,e2⟩
   ·rw [h1'.cellAt _ ag,← e1]; congr 1; omega
   ·rw [h1'.cellAt _ ag,← e0]; congr 1; omega
theorem eX {W:World} {base e size n:Nat} {v:Value} {xs:List Value} (h:W.ownsRow base e size v n xs):∃ a c,v = .slice a n c:=by
 obtain ⟨_,⟨rfl,h0⟩ | ⟨g,c1,cur,rfl,_⟩⟩:=h
 ·exact ⟨none,0,by rw [h0]⟩
 ·exact ⟨_,c1,rfl⟩
def FP (xs:List Value) (l:List Vl):Prop:=xs.length=l.length*3∧∀ (i:Nat) (h:i<l.length),xs[i*3]? = some (.int .i64 l[i].1)∧xs[i*3+1]? = some (.int .i64 l[i].2.1)∧xs[i*3+2]? = some (.string l[i].2.2)
theorem FP.push {xs:List Value} {l:List Vl} (h:FP xs l) (v:Vl):FP (xs ++ [.int .i64 v.1,.int .i64 v.2.1,.string v.2.2]) (l ++ [v]):=by
 have lx:=h.1;refine ⟨by simp [lx]; omega,fun i hi=>?_⟩;by_cases hi':i<l.length
 ·obtain ⟨h0,h1,h2⟩:=h.2 i hi';rw [MV hi'];refine ⟨?_,?_,?_⟩
  ·rw [MT ag,h0]
  ·rw [MT ag,h1]
  ·rw [MT ag,h2]
 ·have:i=l.length:=by simp at hi; omega
  subst this;simp only [N0];refine ⟨?_,?_,?_⟩
  ·rw [MU ag]; simp [lx]
  ·rw [MU ag]; simp [lx]
  ·rw [MU ag]; simp [lx]
theorem E9 {W:World} {B n:Nat} {v:Value} {xs:List Value} {l:List Vl} (ho:W.ownsRow B 24 3 v n xs) (hn:n=l.length) (he:FP xs l):∃ a cap,v = .slice a l.length cap∧aZ W a l∧fi W a:=by
 subst hn;have ho':=ho;obtain ⟨hx,h1 | ⟨g,cap,cur,e,hg,hh,hn,hc,hs,ht⟩⟩:=ho
 ·obtain ⟨rfl,h0⟩:=h1;have:l = []:=MH h0;subst this;exact ⟨none,0,rfl,⟨MD _,.inl rfl⟩,fun b off e=>by cases e⟩
 ·subst e;refine ⟨_,cap,rfl,⟨MO hn hc,.inr ⟨g,0,rfl,?_,(ho'.lt g rfl).2⟩⟩,?_⟩
  ·intro i hi;obtain ⟨e0,e1,e2⟩:=he.2 i hi;refine ⟨?_,?_,?_⟩
   ·rw [ho'.cellAt _ ag,← e0]; congr 1; omega
   ·rw [ho'.cellAt _ ag,← e1]; congr 1; omega
   ·rw [ho'.cellAt _ ag,← e2]; congr 1; omega
  ·intro b off e;injection e with e
   injection e with e _ _
   subst e;exact ⟨_,_,hh⟩
theorem Lw {W:World} {B:Nat} (hB:W.heap.size=B) (u0 u1 u2:Value):∀ j u,[u0,u1,u2][j]? = some u→(W.alloc (.cells #[u0,u1,u2] 24)).cell? (((ah B 0):Addr).add j)=some u:=by
 subst hB;intro j u hj
 match j,hj with
 | 0,hj=>simp at hj; subst hj; simp [Addr.add]
 | 1,hj=>simp at hj; subst hj; simp [Addr.add]
 | 2,hj=>simp at hj; subst hj; simp [Addr.add]
theorem LY (x y:Int) (s:ByteArray):∀ u ∈ [Value.int .i64 x,y,s],u.oneCell'=true:=by
 intro u hu; simp at hu; rcases hu with rfl | rfl | rfl <;> rfl
theorem fp (a:Option Addr) (cap:Nat) (l:List Vl) (w:World) (h:aZ w a l) (h8:l.length≤8) :
  Calls prog 115 #[.slice a l.length cap] w fun e w'=>(∃ a' c',e = .returned (.slice a' l.length c')∧aZ w' a' (aX l)∧fi w' a')∧Below w w w':=by
 obtain ⟨i0,hi,hj0,hj1,hj2⟩:=info_parts Tryz.pD;go_enter func115,ntmps115;go_wp2_with fail
 go_loopw [3,8] (fun v i wr=>∃ k:Nat,k≤l.length∧i = .int .i64 k∧(∃ xs,wr.ownsRow w 24 3 v k xs∧FP xs (aX (l.take k)))∧Below w w wr) (fun _ i _=>l.length - (intOf i).toNat)
 case atStart=>exact ⟨0,MD _,rfl,⟨[],M4 _ _ _ _,rfl,fun i hi=>by simp [aX] at hi⟩,Mz _ _⟩
 case round =>
  obtain ⟨k,hk,rfl,⟨xs,ho,he⟩,hb⟩:=hrel;have hz:=hb.size;by_cases hlt:k<l.length
  ·obtain ⟨b,off,rfl,hbl,c0,c1,c2⟩:=(h.next hb).elem hlt;obtain ⟨a3,c3,rfl⟩:=eX ho;go_wp2_with fail
   refine bC (mz _ _ _ _) fun w1 hb1=>?_;have hb1':=l9 hb hb1;have hz1:=hb1'.size;have ho1:=aL (aL ho (aN ..)) hb1;have stp:Hid (aX (l.take (k+1))=aX (l.take k) ++ [cM l[k]]):=by
    show List.map cM (l.take (k+1))=List.map cM (l.take k) ++ [cM l[k]];rw [MJ hlt,Nc]; rfl
   clear ho;go_wp2_with (at_builtin; refine MX _ rfl _ _ 45 rfl w 24 i0 _ 3 32 underlying45 hi hj0 hj1 hj2 rfl (by decide) _ _ _ rfl (ho1.alloc _) (ah w1 0) 1 1 [.int .i64 l[k].1,.int .i64 (dY l[k].1 l[k].2.1),.string (gz l[k].1 l[k].2.2)] rfl rfl (Lw rfl _ _ _) (LY _ _ _) (by unfold maxLen; omega) ag (by simp; omega) ?_)
   intro v' w2 ho2 hg2 _;have hb2:=(hb1'.alloc hz1 _).grown hg2 (by simp; omega) (fun q hq=>((ho1.alloc (.cells #[.int .i64 l[k].1,.int .i64 (dY l[k].1 l[k].2.1),.string (gz l[k].1 l[k].2.2)] 24)).lt q hq).1);clear hg2 ho1;go_wp2
   go_roundw
   case rel=>exact ⟨k+1,by omega,by go_num,⟨_,ho2,by rw [stp.out]; exact he.push (cM l[k])⟩,hb2⟩
   case measure=>simp [intOf]; omega
  ·have e:k=l.length:=by omega
   subst e;rw [MM] at he;obtain ⟨a3,c3,e3,s3,t3⟩:=E9 ho (dB l).symm he;rw [dB] at e3;subst e3;go_wp2
   go_ret;exact ⟨⟨a3,c3,rfl,s3,t3⟩,hb⟩
def nK (r:List Vl) (x:Int):List Zp:=if x=0 then [] else [(aX r,x)]
theorem xU (r:List Vl) (x:Int):∀ z:List Zp,(∀ y ∈ z,aF y.1 r<0)→cI z r x=z ++ nK r x
 | [],_=>rfl
 | y :: t,h=>by
  rw [cI,if_pos (h y (by simp)),xU r x t (fun u hu=>h u (by simp [hu]))]; rfl
theorem qk (r:List Vl) (x:Int) (t:List Zp):∀ z:List Zp,(∀ y ∈ z,aF y.1 r<0)→cI (z ++ t) r x=z ++ cI t r x
 | [],_=>rfl
 | y :: u,h=>by
  rw [Nu,cI,if_pos (h y (by simp)),qk r x t u (fun v hv=>h v (by simp [hv]))]; rfl
theorem wR {z:List Zp} {r:List Vl} {k:Nat} (h:∀ t (ht:t<z.length),t<k→aF z[t].1 r<0):∀ y ∈ z.take k,aF y.1 r<0:=by
 intro y hy;obtain ⟨t,ht,rfl⟩:=No hy;rw [MR] at ht;rw [List.getElem_take];exact h t ag ag
theorem Ij {z:List Zp} {r:List Vl} {k:Nat} (x:Int) (hk:k=z.length) (h:∀ t (ht:t<z.length),t<k→aF z[t].1 r<0):cI z r x=z.take k ++ nK r x ++ z.drop k:=by
 subst hk;have:=wR h;rw [MM] at this;rw [xU r x z this,MM,NY,M8]
theorem CI {z:List Zp} {r:List Vl} {k:Nat} (x:Int) (hk:k<z.length) (h:∀ t (ht:t<z.length),t<k→aF z[t].1 r<0) (hc:aF z[k].1 r=0):cI z r x=z.take k ++ nK r (x+z[k].2) ++ z.drop (k+1):=by
 have e:z=z.take k ++ z[k] :: z.drop (k+1):=by rw [← MI hk,List.take_append_drop]
 have:=qk r x (z[k] :: z.drop (k+1)) (z.take k) (wR h);rw [← e] at this;rw [this,cI,if_neg ag,if_pos hc,Nh]
 congr 1
 unfold nK
 split <;> rfl
theorem Gx {z:List Zp} {r:List Vl} {k:Nat} (x:Int) (hk:k<z.length) (h:∀ t (ht:t<z.length),t<k→aF z[t].1 r<0) (hc:0<aF z[k].1 r):cI z r x=z.take k ++ nK r x ++ z.drop k:=by
 have e:z=z.take k ++ z[k] :: z.drop (k+1):=by rw [← MI hk,List.take_append_drop]
 have:=qk r x (z[k] :: z.drop (k+1)) (z.take k) (wR h);rw [← e] at this;rw [this,cI,if_neg ag,if_neg ag,Nh,MI hk]
 congr 1
 unfold nK
 split <;> rfl
theorem aK.take {W:World} {a:Option Addr} {z:List Zp} (h:aK W a z) (k:Nat):aK W a (z.take k):=by
 obtain ⟨h0,rfl | ⟨b,off,e,hlt,hr⟩⟩:=h
 ·exact ⟨by simp,.inl (by simp)⟩
 ·refine ⟨by rw [MR]; omega,.inr ⟨b,off,e,hlt,fun i hi=>?_⟩⟩;rw [MR] at hi;rw [List.getElem_take];exact hr i ag
theorem aK.drop {W:World} {b off:Nat} {z:List Zp} (h:aK W (some (ah b off)) z) (k:Nat):aK W (some ⟨b,off+k*2,none⟩) (z.drop k):=by
 obtain ⟨h0,rfl | ⟨b',off',e,hlt,hr⟩⟩:=h
 ·exact ⟨by simp,.inl (by simp)⟩
 ·injection e with e
  injection e with e1 e2 _
  subst e1 e2;refine ⟨by rw [NT]; omega,.inr ⟨b,off+k*2,rfl,hlt,fun i hi=>?_⟩⟩;rw [NT] at hi;rw [List.getElem_drop];have:=hr (k+i) ag;rw [show off+(k+i)*2=off+k*2+i*2 by omega] at this;exact this
theorem bT {B n N:Nat} {W w1:World} {v v':Value} {xs ys:List Value} {l t:List Zp} (ho:W.ownsRow B 47 2 v n xs) (he:ky B W xs l) (hk:ky B W ys t) (ho':w1.ownsRow B 47 2 v' N (xs ++ ys)) (hN:N=(l ++ t).length) (hg:W.grownBy w1 v.ownBlock):fJ B w1 v' (l ++ t):=Ey ho he hk (hN ▸ ho') hg
theorem kD {B:Nat} {W:World} {a:Option Addr} {cap n:Nat} {r:List Vl} {x:Int} (hn:n=r.length) (hs:aZ W a r) (ht:fi W a):ky B W [.slice a n cap,x] [(r,x)]:=by
 subst hn;refine ⟨rfl,fun i hi=>?_⟩;have:i=0:=by simp at hi; omega
 subst this;exact ⟨a,cap,rfl,rfl,hs,.inr (.inl ht)⟩
theorem JB (a:Option Addr) (cap:Nat) (b:Option Addr) (cb:Nat) (r:List Vl) (x:Int) (w:World) (hn:a=none→cap=0) (hmax:cap≤9223372036854775807) (h':aZ w b r) (h8:r.length≤8) (hx:-400000000000000000≤x∧x≤400000000000000000) :
  Calls prog 81 #[.slice a 0 cap,.slice b r.length cb,x] w fun e w'=>∃ v,e = .returned v∧fJ w w' v (cI [] r x)∧Below w w w':=by
 obtain ⟨i0,hi,hj0,hj1,hj2⟩:=info_parts Tryz.fK;rcases a with _ | ad
 have hc0:cap=0:=hn rfl;subst hc0;rotate_left;by_cases hcp:cap=0;subst hcp;rotate_left;have hcp':0<cap:=by omega
 all_goals
  clear hn
  have hbA:=aN w (.cells #[] 47);have O2:fJ w (w.alloc (.cells #[] 47)) (.slice (some (ah w 0)) 0 0) []:=⟨[],Nd w #[] 0 (Mx _) (MD _) (by simp),rfl,fun i hi=>by simp at hi⟩
  by_cases hx0:x=0
  ·subst hx0;go_enter func81,ntmps81;go_wp2_with fail
   refine NH 1 ?_;rw [NK];go_wp2
   go_ret;exact ⟨_,rfl,by simpa [cI] using O2,hbA⟩
  ·have bx:(x != 0)=true:=by simp [hx0]
   have HM:Hid (cI [] r x = [] ++ [(aX r,x)] ++ []):=by show _=_; simp [cI,hx0]
   have hlT:([]:List Zp).length=0:=rfl;clear hx0;go_enter func81,ntmps81;go_wp2_with fail
   refine NH 1 ?_;rw [NK];go_wp2_with fail
   refine (fp _ _ _ _ (h'.next hbA) h8).mono ?_;rintro e w5 ⟨⟨ab,cbb,rfl,sb,tb⟩,hb5⟩;have hb5':=bg hbA hb5;have hz5:=hb5'.size;obtain ⟨xm,hom,hem⟩:=O2.next hb5;have bN:=aN w5 (.cells #[.slice ab r.length cbb,.int .i64 (x)] 47);have hemN:=hem.next bN;have lX:ky w (w5.alloc (.cells #[.slice ab r.length cbb,.int .i64 (x)] 47)) [.slice ab r.length cbb,.int .i64 (x)] [(aX r,x)]:=kD (dB r).symm (sb.next bN) (tb.next bN)
   go_wp2_with (at_builtin; refine MX _ rfl (.tmp 55) (.tmp 60) 38 rfl w 47 i0 _ 2 32 underlying38 hi hj0 hj1 hj2 rfl (by decide) _ _ _ rfl (hom.alloc _) (ah w5 0) 1 1 [.slice ab r.length cbb,.int .i64 (x)] rfl rfl (vH rfl _ _) (C8 _ _ _ _) (by unfold maxLen; omega) ag (by simp; omega) ?_)
   intro v6 w6 ho6 hg6 _;have hb6:Below w w w6:=(hb5'.alloc hz5 _).grown hg6 (by simp; omega) (fun q hq=>((hom.alloc (.cells #[.slice ab r.length cbb,.int .i64 (x)] 47)).lt q hq).1);have O6:fJ w w6 v6 (([]:List Zp) ++ [(aX r,x)]):=bT (hom.alloc _) hemN lX ho6 (by simp [hlT]) hg6;have hl6:(([]:List Zp) ++ [(aX r,x)]).length=0+1:=by rw [ME,hlT]; rfl
   obtain ⟨a6,c6,rfl⟩:=bH ho6;clear ho6 hg6 hom hem hemN lX sb tb;obtain ⟨xo,ho,he⟩:=O6;go_wp2_with (at_builtin; refine aS rfl (.tmp 62) (.tmp 65) 38 rfl w 47 i0 _ 2 32 underlying38 hi hj0 hj1 hj2 rfl (by decide) _ _ _ rfl ho _ _ _ [] rfl (by first | exact fun _=>⟨rfl,rfl⟩ | (intro e; cases e)) (by simp) (fun ad e j u hj=>by simp at hj) (by simp) (by unfold maxLen; simp) (by simp) hb6.size ?_)
   intro v9 w9 ho9 hg9;have hb9:Below w w w9:=hb6.grown hg9 hb6.size (fun q hq=>(ho.lt q hq).1);have R:fJ w w9 v9 ([] ++ [(aX r,x)] ++ []):=bT (ys:=[]) ho he ⟨rfl,fun i hi=>by simp at hi⟩ (by rw [M8]; simpa using ho9) (by simp) hg9;obtain ⟨a9,c9,rfl⟩:=bH ho9;clear ho9 hg9 ho he;go_wp2
   go_ret;exact ⟨_,rfl,by rw [HM.out]; exact R,hb9⟩
theorem pH (a:Option Addr) (cap:Nat) (z:List Zp) (b:Option Addr) (cb:Nat) (r:List Vl) (x:Int) (w:World) (h:aK w a z) (hL:Lf a cap z.length) (h':aZ w b r) (h8:r.length≤8) (hz:z.length≤200000)
  (hr:∀ y ∈ z,bZ y.1=true) (hw:∀ y ∈ z,-400000000000000000≤y.2∧y.2≤400000000000000000) (hx:-400000000000000000≤x∧x≤400000000000000000) :
  Calls prog 81 #[.slice a z.length cap,.slice b r.length cb,x] w fun e w'=>∃ v,e = .returned v∧fJ w w' v (cI z r x)∧Below w w w':=by
 by_cases hz0:z = []
 ·subst hz0;exact JB a cap b cb r x w hL.nil (by have:=hL.max; unfold maxLen at this; omega) h' h8 hx
 have hpos:0<z.length:=List.length_pos_iff.2 hz0;clear hz0;obtain ⟨i0,hi,hj0,hj1,hj2⟩:=info_parts Tryz.fK;have HRt:Hid (∀ y ∈ z,bZ y.1=true):=hr;clear hr;go_enter func81,ntmps81;go_wp2_with fail
 go_loopw [7] (fun i wr=>∃ k:Nat,k≤z.length∧i = .int .i64 k∧Hid (∀ t (ht:t<z.length),t<k→aF z[t].1 r<0)∧Below w w wr) (fun i _=>z.length - (intOf i).toNat)
 case atStart=>exact ⟨0,MD _,rfl,fun t _ ht=>absurd ht (M9 _),Mz _ _⟩
 case round =>
  obtain ⟨k,hk,rfl,HC,hb⟩:=hrel;have hzz:=hb.size;have hcap:=hL.room;have hmax:=hL.max;unfold maxLen at hmax;by_cases hlt:k<z.length
  rotate_left;refine Wr.o ?_;rotate_left
  have i1:(0:Int)≤(k:Int):=by omega
  have i2:(k:Int)<(z.length:Int):=by omega
  obtain ⟨bz,off,rfl,hbl,c1,ar,cr,c0,sr⟩:=(h.next hb).elem hlt;have hR1:Hid (bZ z[k].1=true):=HRt.out _ (MC hlt);by_cases hc:aF z[k].1 r<0
  ·go_wp2_with fail
   refine (eW _ _ _ _ _ _ _ sr (h'.next hb) hR1.out).mono ?_;rintro e w1 ⟨rfl,hb1⟩;go_wp2
   go_roundw
   case rel=>exact ⟨k+1,by omega,by go_num,fun t ht htk=>by
    by_cases e:t=k
    ·subst e; exact hc
    ·exact HC.out t ht ag,bg hb hb1⟩
   case measure=>simp [intOf]; omega
  go_wp2_with fail
  refine (eW _ _ _ _ _ _ _ sr (h'.next hb) hR1.out).mono ?_;rintro e w1 ⟨rfl,hb1⟩;have hb1':=bg hb hb1;have hz1:=hb1'.size;obtain ⟨nT,eT,oT,eT0,cT⟩:=km (h.take k);have hlT:(z.take k).length=k:=by rw [MR]; omega
  have eTl:=eT.1;rw [hlT] at eTl;go_wp2_with (at_builtin; refine aS rfl (.tmp 25) (.tmp 28) 38 rfl w 47 i0 _ 2 32 underlying38 hi hj0 hj1 hj2 rfl (by decide) _ _ _ rfl (Nd w1 #[] 0 hz1 (MD _) (by simp)) _ k cap nT rfl (by intro e; cases e) eTl (fun ad e j u hj=>Lib.cell?_alloc_some _ ((hb1'.cell (ML _ _ (cT ad e j u hj))).trans (cT ad e j u hj))) oT (by unfold maxLen; omega) ag (by simp; omega) ?_)
  intro v2 w2 ho2 hg2;have hb2:Below w w w2:=(hb1'.alloc hz1 _).grown hg2 (by simp; omega) (fun q hq=>by simp [Value.ownBlock] at hq; omega);have hb12:Below w1 w1 w2:=(aN ..).grown hg2 (by simp) (fun q hq=>by simp [Value.ownBlock] at hq; omega);have O2:fJ w w2 v2 (z.take k):=⟨nT,by rw [hlT]; simpa using ho2,fD eT hb2⟩
  obtain ⟨a2,c2,rfl⟩:=bH ho2;clear ho2 hg2 eT oT eT0 cT eTl;have d0:=(hb12.cell (p:=⟨bz,_,none⟩) (My hbl hb1.size)).trans ((hb1.cell (p:=⟨bz,_,none⟩) hbl).trans c0);have d1:=(hb12.cell (p:=⟨bz,_,none⟩) (My hbl hb1.size)).trans ((hb1.cell (p:=⟨bz,_,none⟩) hbl).trans c1);have hbl2:=My (My hbl hb1.size) hb12.size;have sr2:=(sr.next hb1).next hb12;clear c0 c1 sr;by_cases h0:aF z[k].1 r=0
  ·have HP:Hid (cI z r x=z.take k ++ nK r (x+z[k].2) ++ z.drop (k+1)):=CI x hlt HC.out h0;have b0:(aF z[k].1 r == 0)=true:=by simpa using h0
   have hwk:=hw z[k] (MC hlt);clear h0 hc;go_wp2_with fail
   refine (eW _ _ _ _ _ _ _ sr2 (h'.next hb2) hR1.out).mono ?_;rintro e w3 ⟨rfl,hb3⟩;have d3:=(hb3.cell (p:=⟨bz,_,none⟩) hbl2).trans d1;have hb3':=bg hb2 hb3;have O3:=O2.next hb3;clear d0 d1 O2;by_cases hx0:x+z[k].2=0
   ·have HM:Hid (cI z r x=z.take k ++ z.drop (k+1)):=by
     show _=_;rw [HP.out];simp only [nK,hx0,if_true,M8]
    have bx:((x+z[k].2) != 0)=false:=by simp [hx0]
    obtain ⟨nD,eD,oD,eD0,cD⟩:=km (h.drop (k+1));have eDl:=eD.1;have hlD:(z.drop (k+1)).length=z.length - (k+1):=NT;rw [hlD] at eDl;by_cases hcc:k+1<cap
    ·have hcc1:((cap:Int) - ((k+1:Nat):Int)=0)=False:=by simp; omega
     have hcc2:¬ cap=k+1:=by omega
     have hcc3:¬ cap - (k+1)=0:=by omega
     obtain ⟨xo,ho,he⟩:=O3;go_wp2_with (at_builtin; refine aS rfl (.tmp 62) (.tmp 65) 38 rfl w 47 i0 _ 2 32 underlying38 hi hj0 hj1 hj2 rfl (by decide) _ _ _ rfl ho _ _ _ nD rfl (by intro e; cases e) ag (fun ad e j u hj=>by injection e with e; subst e; exact (hb3'.cell (ML _ _ (cD _ rfl j u hj))).trans (cD _ rfl j u hj)) oD (by unfold maxLen; omega) ag hb3'.size ?_)
     intro v9 w9 ho9 hg9;have hb9:Below w w w9:=hb3'.grown hg9 hb3'.size (fun q hq=>(ho.lt q hq).1);have R:fJ w w9 v9 (z.take k ++ z.drop (k+1)):=bT ho he (fD eD hb3') ho9 (by first | (rw [ME]; omega) | (rw [ME,ME,Nb]; omega)) hg9;obtain ⟨a9,c9,rfl⟩:=bH ho9;clear ho9 hg9 ho he;go_wp2
     go_ret;exact ⟨_,rfl,by rw [HM.out]; exact R,hb9⟩
    ·have hcc1:cap=k+1:=by omega
     have hcc2:cap - (k+1)=0:=by omega
     have hcc3:z.length - (k+1)=0:=by omega
     have ND0:Hid (nD = []):=MH ag;obtain ⟨xo,ho,he⟩:=O3;go_wp2_with (at_builtin; refine aS rfl (.tmp 62) (.tmp 65) 38 rfl w 47 i0 _ 2 32 underlying38 hi hj0 hj1 hj2 rfl (by decide) _ _ _ rfl ho _ _ _ nD rfl (by intro e; cases e) ag (fun ad e j u hj=>by rw [ND0.out] at hj; simp at hj) oD (by unfold maxLen; omega) ag hb3'.size ?_)
     intro v9 w9 ho9 hg9;have hb9:Below w w w9:=hb3'.grown hg9 hb3'.size (fun q hq=>(ho.lt q hq).1);have R:fJ w w9 v9 (z.take k ++ z.drop (k+1)):=bT ho he (fD eD hb3') ho9 (by first | (rw [ME]; omega) | (rw [ME,ME,Nb]; omega)) hg9;obtain ⟨a9,c9,rfl⟩:=bH ho9;clear ho9 hg9 ho he;go_wp2
     go_ret;exact ⟨_,rfl,by rw [HM.out]; exact R,hb9⟩
   ·have HM:Hid (cI z r x=z.take k ++ [(aX r,x+z[k].2)] ++ z.drop (k+1)):=by
     show _=_;rw [HP.out];simp only [nK,hx0,if_false]
    have bx:((x+z[k].2) != 0)=true:=by simp [hx0]
    clear hx0;go_wp2_with fail
    refine (fp _ _ _ _ (h'.next hb3') h8).mono ?_;rintro e w5 ⟨⟨ab,cbb,rfl,sb,tb⟩,hb5⟩;have hb5':=bg hb3' hb5;have hz5:=hb5'.size;obtain ⟨xm,hom,hem⟩:=O3.next hb5;have bN:=aN w5 (.cells #[.slice ab r.length cbb,.int .i64 (x+z[k].2)] 47);have hemN:=hem.next bN;have lX:ky w (w5.alloc (.cells #[.slice ab r.length cbb,.int .i64 (x+z[k].2)] 47)) [.slice ab r.length cbb,.int .i64 (x+z[k].2)] [(aX r,x+z[k].2)]:=kD (dB r).symm (sb.next bN) (tb.next bN)
    go_wp2_with (at_builtin; refine MX _ rfl (.tmp 55) (.tmp 60) 38 rfl w 47 i0 _ 2 32 underlying38 hi hj0 hj1 hj2 rfl (by decide) _ _ _ rfl (hom.alloc _) (ah w5 0) 1 1 [.slice ab r.length cbb,.int .i64 (x+z[k].2)] rfl rfl (vH rfl _ _) (C8 _ _ _ _) (by unfold maxLen; omega) ag (by simp; omega) ?_)
    intro v6 w6 ho6 hg6 _;try rw [hlT] at ho6
    have hb6:Below w w w6:=(hb5'.alloc hz5 _).grown hg6 (by simp; omega) (fun q hq=>((hom.alloc (.cells #[.slice ab r.length cbb,.int .i64 (x+z[k].2)] 47)).lt q hq).1);have O6:fJ w w6 v6 (z.take k ++ [(aX r,x+z[k].2)]):=bT (hom.alloc _) hemN lX ho6 (by simp [hlT]) hg6;have hl6:(z.take k ++ [(aX r,x+z[k].2)]).length=k+1:=by rw [ME,hlT]; rfl
    obtain ⟨a6,c6,rfl⟩:=bH ho6;clear ho6 hg6 hom hem hemN lX sb tb;obtain ⟨nD,eD,oD,eD0,cD⟩:=km (h.drop (k+1));have eDl:=eD.1;have hlD:(z.drop (k+1)).length=z.length - (k+1):=NT;rw [hlD] at eDl;by_cases hcc:k+1<cap
    ·have hcc1:((cap:Int) - ((k+1:Nat):Int)=0)=False:=by simp; omega
     have hcc2:¬ cap=k+1:=by omega
     have hcc3:¬ cap - (k+1)=0:=by omega
     obtain ⟨xo,ho,he⟩:=O6;go_wp2_with (at_builtin; refine aS rfl (.tmp 62) (.tmp 65) 38 rfl w 47 i0 _ 2 32 underlying38 hi hj0 hj1 hj2 rfl (by decide) _ _ _ rfl ho _ _ _ nD rfl (by intro e; cases e) ag (fun ad e j u hj=>by injection e with e; subst e; exact (hb6.cell (ML _ _ (cD _ rfl j u hj))).trans (cD _ rfl j u hj)) oD (by unfold maxLen; omega) ag hb6.size ?_)
     intro v9 w9 ho9 hg9;have hb9:Below w w w9:=hb6.grown hg9 hb6.size (fun q hq=>(ho.lt q hq).1);have R:fJ w w9 v9 (z.take k ++ [(aX r,x+z[k].2)] ++ z.drop (k+1)):=bT ho he (fD eD hb6) ho9 (by first | (rw [ME]; omega) | (rw [ME,ME,Nb]; omega)) hg9;obtain ⟨a9,c9,rfl⟩:=bH ho9;clear ho9 hg9 ho he;go_wp2
     go_ret;exact ⟨_,rfl,by rw [HM.out]; exact R,hb9⟩
    ·have hcc1:cap=k+1:=by omega
     have hcc2:cap - (k+1)=0:=by omega
     have hcc3:z.length - (k+1)=0:=by omega
     have ND0:Hid (nD = []):=MH ag;obtain ⟨xo,ho,he⟩:=O6;go_wp2_with (at_builtin; refine aS rfl (.tmp 62) (.tmp 65) 38 rfl w 47 i0 _ 2 32 underlying38 hi hj0 hj1 hj2 rfl (by decide) _ _ _ rfl ho _ _ _ nD rfl (by intro e; cases e) ag (fun ad e j u hj=>by rw [ND0.out] at hj; simp at hj) oD (by unfold maxLen; omega) ag hb6.size ?_)
     intro v9 w9 ho9 hg9;have hb9:Below w w w9:=hb6.grown hg9 hb6.size (fun q hq=>(ho.lt q hq).1);have R:fJ w w9 v9 (z.take k ++ [(aX r,x+z[k].2)] ++ z.drop (k+1)):=bT ho he (fD eD hb6) ho9 (by first | (rw [ME]; omega) | (rw [ME,ME,Nb]; omega)) hg9;obtain ⟨a9,c9,rfl⟩:=bH ho9;clear ho9 hg9 ho he;go_wp2
     go_ret;exact ⟨_,rfl,by rw [HM.out]; exact R,hb9⟩
  have HP:Hid (cI z r x=z.take k ++ nK r x ++ z.drop k):=Gx x hlt HC.out ag;have b0:(aF z[k].1 r == 0)=false:=by simpa using h0
  clear h0;go_wp2_with fail
  refine (eW _ _ _ _ _ _ _ sr2 (h'.next hb2) hR1.out).mono ?_;rintro e w3 ⟨rfl,hb3⟩;have hb3':=bg hb2 hb3;have O3:=O2.next hb3;clear d0 d1 O2
  refine Wr.o ?_;rotate_left;refine ⟨?_⟩
  have hke:k=z.length:=by omega
  obtain ⟨bz,off,rfl,hbl,-⟩:=(h.next hb).elem hpos;have HP:Hid (cI z r x=z.take k ++ nK r x ++ z.drop k):=Ij x hke HC.out;clear hke;have hb1:Below wr wr wr:=Mz _ _;have hb1':=bg hb hb1;have hz1:=hb1'.size;obtain ⟨nT,eT,oT,eT0,cT⟩:=km (h.take k);have hlT:(z.take k).length=k:=by rw [MR]; omega
  have eTl:=eT.1;rw [hlT] at eTl;go_wp2_with (at_builtin; refine aS rfl (.tmp 25) (.tmp 28) 38 rfl w 47 i0 _ 2 32 underlying38 hi hj0 hj1 hj2 rfl (by decide) _ _ _ rfl (Nd wr #[] 0 hz1 (MD _) (by simp)) _ k cap nT rfl (by intro e; cases e) eTl (fun ad e j u hj=>Lib.cell?_alloc_some _ ((hb1'.cell (ML _ _ (cT ad e j u hj))).trans (cT ad e j u hj))) oT (by unfold maxLen; omega) ag (by simp; omega) ?_)
  intro v2 w2 ho2 hg2;have hb3':Below w w w2:=(hb1'.alloc hz1 _).grown hg2 (by simp; omega) (fun q hq=>by simp [Value.ownBlock] at hq; omega);have hb12:Below wr wr w2:=(aN ..).grown hg2 (by simp) (fun q hq=>by simp [Value.ownBlock] at hq; omega);have O3:fJ w w2 v2 (z.take k):=⟨nT,by rw [hlT]; simpa using ho2,fD eT hb3'⟩
  obtain ⟨a2,c2,rfl⟩:=bH ho2;clear ho2 hg2 eT oT eT0 cT eTl
  refine Wr.o ?_
  all_goals
   refine ⟨?_⟩;by_cases hx0:x=0
   ·have HM:Hid (cI z r x=z.take k ++ z.drop (k)):=by
     show _=_;rw [HP.out];simp only [nK,hx0,if_true,M8]
    have bx:((x) != 0)=false:=by simp [hx0]
    obtain ⟨nD,eD,oD,eD0,cD⟩:=km (h.drop (k));have eDl:=eD.1;have hlD:(z.drop (k)).length=z.length - (k):=NT;rw [hlD] at eDl;by_cases hcc:k<cap
    ·have hcc1:((cap:Int) - ((k:Nat):Int)=0)=False:=by simp; omega
     have hcc2:¬ cap=k:=by omega
     have hcc3:¬ cap - (k)=0:=by omega
     obtain ⟨xo,ho,he⟩:=O3;go_wp2_with (at_builtin; refine aS rfl (.tmp 62) (.tmp 65) 38 rfl w 47 i0 _ 2 32 underlying38 hi hj0 hj1 hj2 rfl (by decide) _ _ _ rfl ho _ _ _ nD rfl (by intro e; cases e) ag (fun ad e j u hj=>by injection e with e; subst e; exact (hb3'.cell (ML _ _ (cD _ rfl j u hj))).trans (cD _ rfl j u hj)) oD (by unfold maxLen; omega) ag hb3'.size ?_)
     intro v9 w9 ho9 hg9;have hb9:Below w w w9:=hb3'.grown hg9 hb3'.size (fun q hq=>(ho.lt q hq).1);have R:fJ w w9 v9 (z.take k ++ z.drop (k)):=bT ho he (fD eD hb3') ho9 (by first | (rw [ME]; omega) | (rw [ME,ME,Nb]; omega)) hg9;obtain ⟨a9,c9,rfl⟩:=bH ho9;clear ho9 hg9 ho he;go_wp2
     go_ret;exact ⟨_,rfl,by rw [HM.out]; exact R,hb9⟩
    ·have hcc1:cap=k:=by omega
     have hcc2:cap - (k)=0:=by omega
     have hcc3:z.length - (k)=0:=by omega
     have ND0:Hid (nD = []):=MH ag;obtain ⟨xo,ho,he⟩:=O3;go_wp2_with (at_builtin; refine aS rfl (.tmp 62) (.tmp 65) 38 rfl w 47 i0 _ 2 32 underlying38 hi hj0 hj1 hj2 rfl (by decide) _ _ _ rfl ho _ _ _ nD rfl (by intro e; cases e) ag (fun ad e j u hj=>by rw [ND0.out] at hj; simp at hj) oD (by unfold maxLen; omega) ag hb3'.size ?_)
     intro v9 w9 ho9 hg9;have hb9:Below w w w9:=hb3'.grown hg9 hb3'.size (fun q hq=>(ho.lt q hq).1);have R:fJ w w9 v9 (z.take k ++ z.drop (k)):=bT ho he (fD eD hb3') ho9 (by first | (rw [ME]; omega) | (rw [ME,ME,Nb]; omega)) hg9;obtain ⟨a9,c9,rfl⟩:=bH ho9;clear ho9 hg9 ho he;go_wp2
     go_ret;exact ⟨_,rfl,by rw [HM.out]; exact R,hb9⟩
   ·have HM:Hid (cI z r x=z.take k ++ [(aX r,x)] ++ z.drop (k)):=by
     show _=_;rw [HP.out];simp only [nK,hx0,if_false]
    have bx:((x) != 0)=true:=by simp [hx0]
    clear hx0;go_wp2_with fail
    refine (fp _ _ _ _ (h'.next hb3') h8).mono ?_;rintro e w5 ⟨⟨ab,cbb,rfl,sb,tb⟩,hb5⟩;have hb5':=bg hb3' hb5;have hz5:=hb5'.size;obtain ⟨xm,hom,hem⟩:=O3.next hb5;have bN:=aN w5 (.cells #[.slice ab r.length cbb,.int .i64 (x)] 47);have hemN:=hem.next bN;have lX:ky w (w5.alloc (.cells #[.slice ab r.length cbb,.int .i64 (x)] 47)) [.slice ab r.length cbb,.int .i64 (x)] [(aX r,x)]:=kD (dB r).symm (sb.next bN) (tb.next bN)
    go_wp2_with (at_builtin; refine MX _ rfl (.tmp 55) (.tmp 60) 38 rfl w 47 i0 _ 2 32 underlying38 hi hj0 hj1 hj2 rfl (by decide) _ _ _ rfl (hom.alloc _) (ah w5 0) 1 1 [.slice ab r.length cbb,.int .i64 (x)] rfl rfl (vH rfl _ _) (C8 _ _ _ _) (by unfold maxLen; omega) ag (by simp; omega) ?_)
    intro v6 w6 ho6 hg6 _;try rw [hlT] at ho6
    have hb6:Below w w w6:=(hb5'.alloc hz5 _).grown hg6 (by simp; omega) (fun q hq=>((hom.alloc (.cells #[.slice ab r.length cbb,.int .i64 (x)] 47)).lt q hq).1);have O6:fJ w w6 v6 (z.take k ++ [(aX r,x)]):=bT (hom.alloc _) hemN lX ho6 (by simp [hlT]) hg6;have hl6:(z.take k ++ [(aX r,x)]).length=k+1:=by rw [ME,hlT]; rfl
    obtain ⟨a6,c6,rfl⟩:=bH ho6;clear ho6 hg6 hom hem hemN lX sb tb;obtain ⟨nD,eD,oD,eD0,cD⟩:=km (h.drop (k));have eDl:=eD.1;have hlD:(z.drop (k)).length=z.length - (k):=NT;rw [hlD] at eDl;by_cases hcc:k<cap
    ·have hcc1:((cap:Int) - ((k:Nat):Int)=0)=False:=by simp; omega
     have hcc2:¬ cap=k:=by omega
     have hcc3:¬ cap - (k)=0:=by omega
     obtain ⟨xo,ho,he⟩:=O6;go_wp2_with (at_builtin; refine aS rfl (.tmp 62) (.tmp 65) 38 rfl w 47 i0 _ 2 32 underlying38 hi hj0 hj1 hj2 rfl (by decide) _ _ _ rfl ho _ _ _ nD rfl (by intro e; cases e) ag (fun ad e j u hj=>by injection e with e; subst e; exact (hb6.cell (ML _ _ (cD _ rfl j u hj))).trans (cD _ rfl j u hj)) oD (by unfold maxLen; omega) ag hb6.size ?_)
     intro v9 w9 ho9 hg9;have hb9:Below w w w9:=hb6.grown hg9 hb6.size (fun q hq=>(ho.lt q hq).1);have R:fJ w w9 v9 (z.take k ++ [(aX r,x)] ++ z.drop (k)):=bT ho he (fD eD hb6) ho9 (by first | (rw [ME]; omega) | (rw [ME,ME,Nb]; omega)) hg9;obtain ⟨a9,c9,rfl⟩:=bH ho9;clear ho9 hg9 ho he;go_wp2
     go_ret;exact ⟨_,rfl,by rw [HM.out]; exact R,hb9⟩
    ·have hcc1:cap=k:=by omega
     have hcc2:cap - (k)=0:=by omega
     have hcc3:z.length - (k)=0:=by omega
     have ND0:Hid (nD = []):=MH ag;obtain ⟨xo,ho,he⟩:=O6;go_wp2_with (at_builtin; refine aS rfl (.tmp 62) (.tmp 65) 38 rfl w 47 i0 _ 2 32 underlying38 hi hj0 hj1 hj2 rfl (by decide) _ _ _ rfl ho _ _ _ nD rfl (by intro e; cases e) ag (fun ad e j u hj=>by rw [ND0.out] at hj; simp at hj) oD (by unfold maxLen; omega) ag hb6.size ?_)
     intro v9 w9 ho9 hg9;have hb9:Below w w w9:=hb6.grown hg9 hb6.size (fun q hq=>(ho.lt q hq).1);have R:fJ w w9 v9 (z.take k ++ [(aX r,x)] ++ z.drop (k)):=bT ho he (fD eD hb6) ho9 (by first | (rw [ME]; omega) | (rw [ME,ME,Nb]; omega)) hg9;obtain ⟨a9,c9,rfl⟩:=bH ho9;clear ho9 hg9 ho he;go_wp2
     go_ret;exact ⟨_,rfl,by rw [HM.out]; exact R,hb9⟩
theorem df (a:Option Addr) (cap:Nat) (l:List Zp) (w:World) (h:aK w a l) :
  Calls prog 80 #[.slice a l.length cap] w fun e w'=>e = .returned (.int .i64 (aM l))∧Below w w w':=by
 have hl:=h.1;unfold maxLen at hl;by_cases h8:400<l.length
 ·have e:aM l=5:=by simp [aM,h8]
  rw [e];clear e;go_enter func80,ntmps80;go_wp2
  go_ret;exact ⟨rfl,Mz _ _⟩
 ·have e:aM l=uD none l:=by simp [aM,h8]
  rw [e];clear e;go_enter func80,ntmps80;go_wp2_with fail
  go_loopw [10] (fun i w1=>∃ k:Nat,k≤l.length∧i = .int .i64 k∧Hid (uD none l=uD (jd l k) (l.drop k))∧Hid (∀ t (ht:t<l.length),t<k→aQ l[t].1=0)∧Below w w w1) (fun i _=>l.length - (intOf i).toNat)
  case atStart=>exact ⟨0,MD _,rfl,rfl,fun t _ ht=>absurd ht (M9 _),Mz _ _⟩
  case round =>
   obtain ⟨k,hk,rfl,HC,HA,hb⟩:=hrel;by_cases hlt:k<l.length
   ·have i0:(0:Int)≤(k:Int):=by omega
    have i4:(k:Int)<(l.length:Int):=by omega
    obtain ⟨b,off,rfl,hbl,c1,ar,cr,c0,sr⟩:=(h.next hb).elem hlt;have HZ:=aB h;clear h;by_cases hw:aQ l[k].1=0
    ·have Hw:=aB hw;clear hw;go_wp2_with fail
     refine bC (uF _ _ _ _ sr) fun w1 hb1=>?_;rw [Hw.out];have hb1':=bg hb hb1;have e1:=(hb1.cell (p:=⟨b,_,none⟩) hbl).trans c1;have e0:=(hb1.cell (p:=⟨b,_,none⟩) hbl).trans c0;by_cases h0:l[k].2=0
     ·have HN:=aB (HC.out.trans (oH l k hlt Hw.out (.inl h0)));go_wp2
      go_ret;exact ⟨aH HN.out.symm,hb1'⟩
     ·have g0:(l[k].2 == 0)=false:=by simpa using h0
      cases h1:gV l[k].2
      ·have HN:=aB (HC.out.trans (oH l k hlt Hw.out (.inr h1)));have H1:=aB h1;clear h1;go_wp2_with fail
       refine (iC _ _).mono ?_;rintro e w2 ⟨rfl,rfl⟩;rw [H1.out];go_wp2
       go_ret;exact ⟨aH HN.out.symm,hb1'⟩
      ·have H1:=aB h1;clear h1;by_cases hp:0<k
       ·obtain ⟨b',off',hh,hbl',⟨d1,ap,cp,d0,sp⟩,-⟩:=(HZ.out.next hb1').JZ (j:=k - 1) (k:=k) ag hlt;simp only [NQ,Addr.mk.injEq] at hh;obtain ⟨rfl,rfl,-⟩:=hh;have sr1:=sr.next hb1;have j0:(0:Int)<(k:Int):=by omega
        have j1:(0:Int)≤(k:Int) - 1:=by omega
        have j2:(k:Int) - 1<(l.length:Int):=by omega
        have j3:((k:Int) - 1).toNat=k - 1:=by omega
        have p0:=ak d0;have p1:=ak e0;have HR:=aB (((bR _).1 (HA.out (k - 1) ag ag)).2);haveI:Nonempty (cF w1):=⟨⟨w1,Mz _ _⟩⟩
        have hbd:=rF (l[k - 1]'ag).1 l[k].1;by_cases hc:0≤aF (l[k - 1]'ag).1 l[k].1
        ·have HN:=aB (HC.out.trans (yf l k hlt Hw.out h0 H1.out hp hc));have hcm:(aF (l[k - 1]'ag).1 l[k].1 != -1)=true:=by simp; omega
         clear hbd hc;go_wp2_with fail
         refine (iC _ _).mono ?_;rintro e w2 ⟨rfl,rfl⟩;rw [H1.out];go_wp2_with fail
         refine aq aG aG ?_
         repeat (go_big_quiet_step (first | (go_at_call 114; exact cG (eW _ _ _ _ _ _ _ (sp.next (cF.ok _)) (sr1.next (cF.ok _)) HR.out))))
         refine wpQuiet_nil ?_;rintro w3 ⟨⟨v3,hb3⟩,h3⟩;obtain rfl:w3=v3:=h3;go_wp2
         go_ret;exact ⟨aH HN.out.symm,bg hb1' hb3⟩
        ·have HN:=aB (HC.out.trans (px l k hlt Hw.out h0 H1.out (fun _=>hc)));have hcm:aF (l[k - 1]'ag).1 l[k].1 = -1:=by omega
         clear hbd hc;go_wp2_with fail
         refine (iC _ _).mono ?_;rintro e w2 ⟨rfl,rfl⟩;rw [H1.out];go_wp2_with fail
         refine aq aG aG ?_
         repeat (go_big_quiet_step (first | (go_at_call 114; exact cG (eW _ _ _ _ _ _ _ (sp.next (cF.ok _)) (sr1.next (cF.ok _)) HR.out))))
         refine wpQuiet_nil ?_;rintro w3 ⟨⟨v3,hb3⟩,h3⟩;obtain rfl:w3=v3:=h3;go_wp2
         go_roundw
         case rel=>exact ⟨k+1,by omega,by go_num,HN.out,fun t ht htk=>by
          by_cases e:t=k
          ·subst e; exact Hw.out
          ·exact HA.out t ht ag,bg hb1' hb3⟩
         case measure=>simp [intOf]; omega
       ·have k0:k=0:=by omega
        subst k0;have HN:=aB (HC.out.trans (px l 0 hlt Hw.out h0 H1.out (fun h=>absurd h hp)));haveI:Nonempty (cF w1):=⟨⟨w1,Mz _ _⟩⟩
        go_wp2_with fail
        refine (iC _ _).mono ?_;rintro e w2 ⟨rfl,rfl⟩;rw [H1.out];go_wp2_with fail
        refine aq aG aG ?_
        repeat (go_big_quiet_step (fail))
        refine wpQuiet_nil ?_;rintro w3 ⟨⟨v3,hb3⟩,h3⟩;obtain rfl:w3=v3:=h3;go_wp2
        go_roundw
        case rel=>exact ⟨0+1,by omega,by go_num,HN.out,fun t ht htk=>by
         have:t=0:=by omega
         subst this; exact Hw.out,bg hb1' hb3⟩
        case measure=>simp [intOf]; omega
    ·have Hw:=aB hw;have hne:(aQ l[k].1 != 0)=true:=by simpa using hw
     have HN:=aB (HC.out.trans (Cr l k hlt hw));clear hw;go_wp2_with fail
     refine bC (uF _ _ _ _ sr) fun w1 hb1=>?_;go_wp2
     go_ret;exact ⟨aH HN.out.symm,bg hb hb1⟩
   ·go_wp2
    go_ret;exact ⟨aH (by rw [HC.out,Cz l k ag]),hb⟩
def kE (z:List Zp):Int:=if lS z=true then 3 else if 400<z.length then 5 else 0
def ja (z:List Zp):List Zp:=if kE z=0 then z else []
def jL (z:List Zp) (n:Int) (w:World) (e:Ending) (w':World):Prop:=(∃ a cap,e = .returned (.tuple #[.slice a z.length cap,n])∧aK w' a z)∧Below w w w'
theorem lJ (W:World):aK W none []:=⟨by simp,.inl rfl⟩
def gvQ (p:Prop) (z:List Zp) (n:Int) (w:World) (e:Ending) (w':World):Prop:=(∃ a cap,e = .returned (.tuple #[.slice a z.length cap,n])∧aK w' a z∧(p→a=none→cap=0))∧Below w w w'
theorem ftQ (a:Option Addr) (cap:Nat) (m:List Zp) (w:World) (h:aK w a m) (hl:m.length≤200000) :
  Calls prog 82 #[.slice a m.length cap] w (gvQ (a=none→cap=0) (ja m) (kE m) w):=by
 unfold gvQ;go_enter func82,ntmps82;go_wp2_with fail
 go_loopw [8] (fun i wr=>∃ k:Nat,k≤m.length∧i = .int .i64 k∧Hid (∀ j (hj:j<m.length),j<k→gV m[j].2=true)∧Below w w wr) (fun i _=>m.length - (intOf i).toNat)
 case atStart=>exact ⟨0,MD _,rfl,fun j _ hj=>absurd hj (M9 _),Mz _ _⟩
 case round =>
  obtain ⟨k,hk,rfl,HI,hb⟩:=hrel;have hz:=hb.size;by_cases hlt:k<m.length
  ·obtain ⟨b,off,rfl,hbl,d1,ar,cr,d0,sr⟩:=(h.next hb).elem hlt;cases hin:gV m[k].2
   ·have HO:=aB hin;have he:Hid (kE m=3):=by
     show kE m=3;unfold kE;rw [if_pos (Ci hlt hin)]
    have hfz:Hid (ja m = []):=by show ja m = []; unfold ja; rw [he.out]; rfl
    clear hin;go_wp2_with fail
    refine (iC _ _).mono ?_;rintro e w2 ⟨rfl,rfl⟩;rw [HO.out];go_wp2
    exact bJ rfl rfl ⟨⟨none,0,by rw [he.out,hfz.out]; rfl,by rw [hfz.out]; exact lJ _,fun _ _=>rfl⟩,hb.alloc hz _⟩
   ·have HO:=aB hin;clear hin;go_wp2_with fail
    refine (iC _ _).mono ?_;rintro e w2 ⟨rfl,rfl⟩;rw [HO.out];go_wp2
    go_roundw
    case rel=>exact ⟨k+1,by omega,by go_num,fun j hj hjk=>by
     by_cases e:j=k
     ·subst e; exact HO.out
     ·exact HI.out j hj ag,hb.alloc hz _⟩
    case measure=>simp [intOf]; omega
  ·have e:k=m.length:=by omega
   subst e;have ho:=wm fun j hj=>HI.out j hj hj
   by_cases h4:400<m.length
   ·have he:Hid (kE m=5):=by
     show kE m=5;unfold kE;rw [ho,if_neg (by decide),if_pos h4]
    have hfz:Hid (ja m = []):=by show ja m = []; unfold ja; rw [he.out]; rfl
    go_wp2
    exact bJ rfl rfl ⟨⟨none,0,by rw [he.out,hfz.out]; rfl,by rw [hfz.out]; exact lJ _,fun _ _=>rfl⟩,hb⟩
   ·have he:Hid (kE m=0):=by
     show kE m=0;unfold kE;rw [ho,if_neg (by decide),if_neg h4]
    have hfz:Hid (ja m=m):=by show ja m=m; unfold ja; rw [he.out]; rfl
    go_wp2
    exact MA (v:=.tuple #[.slice a m.length cap,aD]) (by simp [results,results82,go_sem]) rfl ⟨⟨a,cap,by rw [he.out,hfz.out],by rw [hfz.out]; exact h.next hb,fun c=>c⟩,hb⟩
theorem oc (a:Option Addr) (cap:Nat) (m:List Zp) (w:World) (h:aK w a m) (hl:m.length≤200000) :
  Calls prog 82 #[.slice a m.length cap] w (jL (ja m) (kE m) w):=
 (ftQ a cap m w h hl).mono fun _ _ ⟨⟨a,c,e,z,_⟩,h⟩=>⟨⟨a,c,e,z⟩,h⟩
theorem iu (l:List Zp) (x:Zp):canon (l ++ [x])=cI (canon l) x.1 x.2:=by simp [canon]
theorem Kc {l:List Zp} (h:∀ x ∈ l,-1000000≤x.2∧x.2≤1000000) (q:List Vl):-(1000000*(l.length:Int))≤wt l q∧wt l q≤1000000*(l.length:Int):=by
 induction l with
 | nil=>simp [wt]
 | cons x r ih =>
  have ih:=ih (fun y hy=>h y (by simp [hy]));have hx:=h x (by simp);rw [wt,Ng]
  split <;> omega
theorem vL (r:List Vl) (w:Int):∀ z:List Zp,(cI z r w).length≤z.length+1
 | []=>by unfold cI; split <;> simp
 | y :: t=>by
  have ih:=vL r w t
  unfold cI
  split
  ·simp; omega
  ·split
   ·split <;> simp <;> omega
   ·split <;> simp <;> omega
theorem Aj (l:List Zp):∀ z:List Zp,(l.foldl (fun z x=>cI z x.1 x.2) z).length≤z.length+l.length:=by
 induction l with
 | nil=>intro z; simp
 | cons x r ih =>
  intro z;have h1:=ih (cI z x.1 x.2);have h2:=vL x.1 x.2 z;simp only [NA,Ng] at *;omega
theorem pU (l:List Zp):(canon l).length≤l.length:=by have:=Aj l []; simpa [canon] using this
structure Lh (z:List Zp):Prop where
 len:z.length≤200000
 right:∀ y ∈ z,bZ y.1=true
 bd:∀ y ∈ z,-400000000000000000≤y.2∧y.2≤400000000000000000
theorem wY {l:List Zp} (hl:l.length≤200000) (h:∀ x ∈ l,aQ x.1=0∧gV x.2=true):Lh (canon l):=by
 refine ⟨MO (pU l) hl,fun y hy=>?_,fun y hy=>?_⟩
 ·obtain ⟨x,hx,e⟩:=mL l y hy;rw [e,lC];exact ((bR _).1 (h x hx).1).2
 ·rw [← sW (eM l).i7 y hy,gS];have:=Kc (l:=l) (fun x hx=>(cK _).1 (h x hx).2) y.1;omega
theorem vB (l:List Zp):kE (canon l)=aR l∧ja (canon l)=bh l:=by
 have e:kE (canon l)=aR l:=rfl;exact ⟨e,by unfold ja bh; rw [e]⟩
theorem KM (a:Option Addr) (cap:Nat) (l:List Zp) (w:World) (h:aK w a l) (hl:l.length≤1600) (hall:∀ x ∈ l,aQ x.1=0∧gV x.2=true) :
  Calls prog 75 #[.slice a l.length cap] w (jL (bh l) (aR l) w):=by
 rw [← (vB l).1,← (vB l).2];have HAll:=aB hall;clear hall;unfold jL;go_enter func75,ntmps75;go_wp2_with fail
 go_loopw [4,9] (fun v i wr=>∃ k:Nat,k≤l.length∧i = .int .i64 k∧(∃ az cz,v = .slice az (canon (l.take k)).length cz∧aK wr az (canon (l.take k))∧Lf az cz (canon (l.take k)).length)∧Below w w wr) (fun _ i _=>l.length - (intOf i).toNat)
 case atStart=>exact ⟨0,MD _,rfl,⟨none,0,rfl,lJ _,fun _=>rfl,by simp [canon],by simp⟩,Mz _ _⟩
 case round =>
  obtain ⟨k,hk,rfl,⟨az,cz,rfl,zz,lz⟩,hb⟩:=hrel;have hz:=hb.size;by_cases hlt:k<l.length
  ·obtain ⟨b,off,rfl,hbl,c1,ar,cr,c0,sr⟩:=(h.next hb).elem hlt;have hA:=HAll.out l[k] (MC hlt);have hx:=(cK _).1 hA.2;have h8:=((bR _).1 hA.1).1;have ok:=wY (l:=l.take k) (by rw [MR]; omega) (fun x hx=>HAll.out x (N6 hx));have stp:Hid (canon (l.take (k+1))=cI (canon (l.take k)) l[k].1 l[k].2):=by
    show canon (l.take (k+1))=_;rw [MJ hlt,iu]
   have bN:=aN wr (.cells #[.slice ar l[k].1.length cr,.int .i64 l[k].2] 47);have pc:=pH az cz _ ar cr l[k].1 l[k].2 _ (zz.next bN) lz (sr.next bN) h8 ok.len ok.right ok.bd ag;have bb:=bg hb bN;clear ok hA zz lz sr;generalize canon (l.take k)=acc at *;go_wp2_with fail
   refine pc.mono ?_;clear pc;rintro e w1 ⟨v,rfl,O1,hb1⟩;obtain ⟨a1,cp1,rfl,z1,l1⟩:=O1.zs;clear O1;go_wp2
   go_roundw
   case rel=>exact ⟨k+1,by omega,by go_num,⟨a1,cp1,by rw [stp.out],by rw [stp.out]; exact z1,by rw [stp.out]; exact l1⟩,bg bb hb1⟩
   case measure=>simp [intOf]; omega
  ·have e:k=l.length:=by omega
   subst e;rw [MM] at zz;have hcl:=pU l;have ff:=oc az cz (canon l) _ zz ag;unfold jL at ff;rw [MM];clear zz lz;go_wp2_with fail
   refine ff.mono ?_;clear ff;rintro e w1 ⟨⟨a1,cp1,rfl,z1⟩,hb1⟩;go_wp2
   exact bJ rfl rfl ⟨⟨a1,cp1,rfl,z1⟩,bg hb hb1⟩
def fL (f:Int→Int) (l:List Zp):List Zp:=l.map fun x=>(x.1,f x.2)
theorem uU (f:Int→Int) (l:List Zp) (k:Nat) (h:k<l.length):fL f (l.take (k+1))=fL f (l.take k) ++ [(l[k].1,f l[k].2)]:=by
 unfold fL;rw [MJ h,Nc]; rfl
theorem sY (f:Int→Int) (l:List Zp):(fL f l).length=l.length:=by simp [fL]
theorem wz (f:Int→Int) (f0:f 0=0) (q:List Vl):∀ z:List Zp,fh z→wt (fL f z) q=f (wt z q)
 | [],_=>by simp [fL,wt,f0]
 | x :: r,h=>by
  have p:=List.pairwise_cons.1 h
  have ih:=wz f f0 q r p.2
  show (if aF x.1 q=0 then f x.2 else 0)+wt (fL f r) q=f (wt (x :: r) q)
  rw [ih,wt]
  by_cases c:aF x.1 q=0
  ·have z0:wt r q=0:=by
    rw [jz (q:=q) (q':=x.1) (by have:=bm x.1 q; omega)];exact pf p.2 p.1
   rw [if_pos c,if_pos c,z0,f0]; simp
  ·rw [if_neg c,if_neg c]; simp
theorem IU (f:Int→Int) (f0:f 0=0) {z:List Zp} (h:fh z):canon (fL f z)=bF f z :=
 (sh (nL f z h) fun q=>by rw [jy f f0 q z h,wz f f0 q z h]).symm
theorem CB (t:Int) (l:List Zp) {l':List Zp} (h:fh l'):canon (l ++ fL (bU t) l')=canon (l ++ bF (bU t) l') :=
 iS fun q=>by rw [cL,cL,jy (bU t) (by simp [bU]) q l' h,wz (bU t) (by simp [bU]) q l' h]
theorem yM {f:Int→Int} {l:List Zp} {x:Zp} (h:x ∈ fL f l):∃ y ∈ l,x=(y.1,f y.2):=by
 unfold fL at h;obtain ⟨y,hy,e⟩:=List.mem_map.1 h;exact ⟨y,hy,e.symm⟩
def ru (W:World) (v:Value) (z:List Zp):Prop:=∃ a c,v = .slice a z.length c∧aK W a z∧Lf a c z.length
theorem boQ (t:Int) (ht:t=1∨t = -1) (a b:Option Addr) (ca cb:Nat) (l l':List Zp) (w:World) (h:aK w a l) (h':aK w b l') :
  Calls prog 55 #[.slice a l.length ca,.slice b l'.length cb,t] w (gvQ True (dM t l l') (eJ t l l') w):=by
 unfold gvQ;by_cases hw:aM l=0
 ·have Hw:=aB hw;by_cases hw':aM l'=0
  ·have Hw':=aB hw';have hok:=(cq l).1 hw;have hok':=(cq l').1 hw';have eE:eJ t l l'=kE (canon (l ++ fL (bU t) l')):=by
    rw [CB t l hok'.2.2];simp only [eJ,hw,hw',if_true];rfl
   have eZ:dM t l l'=ja (canon (l ++ fL (bU t) l')):=by
    unfold dM ja;rw [← eE,CB t l hok'.2.2]
   rw [eE,eZ];have HA:Hid (∀ x ∈ l,aQ x.1=0∧gV x.2=true):=fun x hx=>⟨(hok.2.1 x hx).1,(hok.2.1 x hx).2.2⟩
   have HB:Hid (∀ x ∈ l',aQ x.1=0∧gV x.2=true):=fun x hx=>⟨(hok'.2.1 x hx).1,(hok'.2.1 x hx).2.2⟩
   have L1:=hok.1;have L2:=hok'.1;clear hw hw' eE eZ hok hok';go_enter func55,ntmps55;go_wp2_with fail
   refine bC (df _ _ _ _ h) fun w1 hb1=>?_;rw [Hw.out];go_wp2_with fail
   refine (df _ _ _ _ (h'.next hb1)).mono ?_;rintro e w2 ⟨rfl,hb2⟩;rw [Hw'.out];have bS:=aN w2 (.cells #[] 47);have zl:=((h.next hb1).next hb2).next bS;have zl':=((h'.next hb1).next hb2).next bS;have bw:=bg (bg hb1 hb2) bS;clear h h' hb1 hb2 bS;go_wp2_with fail
   generalize w2.alloc _=w3 at *;go_loopw [10,28] (fun v i wr=>∃ k:Nat,k≤l.length∧i = .int .i64 k∧ru wr v (canon (l.take k))∧Below w3 w3 wr) (fun _ i _=>l.length - (intOf i).toNat)
   case atStart=>exact ⟨0,MD _,rfl,⟨_,0,rfl,⟨by simp [canon],.inl rfl⟩,⟨fun e=>(by cases e),by simp [canon],by simp⟩⟩,Mz _ _⟩
   case round =>
    obtain ⟨k,hk,rfl,⟨az,cz,rfl,zz,lz⟩,hb⟩:=hrel;by_cases hlt:k<l.length
    ·obtain ⟨b1,off,rfl,hbl,c1,ar,cr,c0,sr⟩:=(zl.next hb).elem hlt;have hA:=HA.out l[k] (MC hlt);have hx:=(cK _).1 hA.2;have h8:=((bR _).1 hA.1).1;have ok:=wY (l:=l.take k) (by rw [MR]; omega) (fun x hx=>HA.out x (N6 hx));have stp:Hid (canon (l.take (k+1))=cI (canon (l.take k)) l[k].1 l[k].2):=by
      show canon (l.take (k+1))=_;rw [MJ hlt,iu]
     have bN:=aN wr (.cells #[.slice ar l[k].1.length cr,.int .i64 l[k].2] 47);have pc:=pH az cz _ ar cr l[k].1 l[k].2 _ (zz.next bN) lz (sr.next bN) h8 ok.len ok.right ok.bd ag;have bb:=bg hb bN;clear ok hA zz lz sr;generalize canon (l.take k)=acc at *;go_wp2_with fail
     refine pc.mono ?_;clear pc;rintro e w4 ⟨v,rfl,O1,hb4⟩;obtain ⟨a1,cp1,rfl,z1,l1⟩:=O1.zs;clear O1;go_wp2
     go_roundw
     case rel=>exact ⟨k+1,by omega,by go_num,⟨a1,cp1,by rw [stp.out],by rw [stp.out]; exact z1,by rw [stp.out]; exact l1⟩,bg bb hb4⟩
     case measure=>simp [intOf]; omega
    ·have e:k=l.length:=by omega
     subst e;rw [MM] at zz lz;rw [MM];have zl2:=zl'.next hb;have bw2:=bg bw hb;have S0:ru wr (.slice az (canon l).length cz) (canon (l ++ fL (bU t) (l'.take 0))):=⟨az,cz,by simp [fL],by simpa [fL] using zz,by simpa [fL] using lz⟩
     clear zz lz zl zl' hb bw;generalize hcl:(canon l).length=cl at *;clear hcl;go_wp2_with fail
     go_loopw [10,41] (fun v i ws=>∃ k:Nat,k≤l'.length∧i = .int .i64 k∧ru ws v (canon (l ++ fL (bU t) (l'.take k)))∧Below wr wr ws) (fun _ i _=>l'.length - (intOf i).toNat)
     case atStart=>exact ⟨0,MD _,rfl,S0,Mz _ _⟩
     case round =>
      clear S0;obtain ⟨k,hk,rfl,⟨az,cz,rfl,zz,lz⟩,hb⟩:=hrel;by_cases hlt:k<l'.length
      ·obtain ⟨b1,off,rfl,hbl,c1,ar,cr,c0,sr⟩:=(zl2.next hb).elem hlt;have hA:=HB.out l'[k] (MC hlt);have hx:=(cK _).1 hA.2;have h8:=((bR _).1 hA.1).1;have hfx:=(cK _).1 (pF t ht _ hA.2);have ok:=wY (l:=l ++ fL (bU t) (l'.take k)) (by rw [ME,sY,MR]; omega) (fun x hx=>by
        rcases List.mem_append.1 hx with hx | hx
        ·exact HA.out x hx
        ·obtain ⟨y,hy,rfl⟩:=yM hx;have:=HB.out y (N6 hy);exact ⟨this.1,pF t ht _ this.2⟩)
       have stp:Hid (canon (l ++ fL (bU t) (l'.take (k+1)))=cI (canon (l ++ fL (bU t) (l'.take k))) l'[k].1 (bU t l'[k].2)):=by
        show canon _=_;rw [uU _ _ _ hlt,← Nh,iu]
       have bN:=aN wr (.cells #[.slice ar l'[k].1.length cr,.int .i64 l'[k].2] 47);have pc:=pH az cz _ ar cr l'[k].1 (bU t l'[k].2) _ (zz.next bN) lz (sr.next bN) h8 ok.len ok.right ok.bd ag;have bb:=bg hb bN;have et:bU t l'[k].2=t*l'[k].2:=rfl;rw [et] at pc hfx;clear ok hA zz lz sr et;generalize canon (l ++ fL (bU t) (l'.take k))=acc at *;go_wp2_with fail
       refine pc.mono ?_;clear pc;rintro e w4 ⟨v,rfl,O1,hb4⟩;obtain ⟨a1,cp1,rfl,z1,l1⟩:=O1.zs;clear O1;go_wp2
       go_roundw
       case rel=>exact ⟨k+1,by omega,by go_num,⟨a1,cp1,by rw [stp.out]; rfl,by rw [stp.out]; exact z1,by rw [stp.out]; exact l1⟩,bg bb hb4⟩
       case measure=>simp [intOf]; omega
      ·have e:k=l'.length:=by omega
       subst e;rw [MM] at zz;rw [MM];have hcl:=pU (l ++ fL (bU t) l');rw [ME,sY] at hcl;have ff:=ftQ az cz (canon (l ++ fL (bU t) l')) _ zz ag;unfold gvQ at ff;have nl:=lz.nil;clear zz lz;generalize hzc:canon (l ++ fL (bU t) l')=zc at *;have HZc:=aB hzc;clear hzc;go_wp2_with fail
       refine ff.mono ?_;clear ff;rintro e w5 ⟨⟨a1,cp1,rfl,z1,n1⟩,hb5⟩;go_wp2
       exact MA (v:=.tuple #[.slice a1 (ja zc).length cp1,.int .i64 (kE zc)]) (by simp [results,results55,go_sem]) rfl ⟨⟨a1,cp1,by rw [HZc.out],by rw [HZc.out]; exact z1,fun _=>n1 nl⟩,bg (bg bw2 hb) hb5⟩
  ·have eE:eJ t l l'=aM l':=by simp [eJ,hw,hw']
   have eZ:dM t l l' = []:=by simp [dM,eE,hw']
   rw [eE,eZ];have hne:(aM l' != 0)=true:=by simpa using hw'
   clear hw hw' eE eZ;go_enter func55,ntmps55;go_wp2_with fail
   refine bC (df _ _ _ _ h) fun w1 hb1=>?_;rw [Hw.out];go_wp2_with fail
   refine (df _ _ _ _ (h'.next hb1)).mono ?_;rintro e w2 ⟨rfl,hb2⟩;go_wp2
   exact bJ rfl rfl ⟨⟨none,0,rfl,lJ _,fun _ _=>rfl⟩,bg hb1 hb2⟩
 ·have eE:eJ t l l'=aM l:=by simp [eJ,hw]
  have eZ:dM t l l' = []:=by simp [dM,eE,hw]
  rw [eE,eZ];have hne:(aM l != 0)=true:=by simpa using hw
  clear hw eE eZ;go_enter func55,ntmps55;go_wp2_with fail
  refine bC (df _ _ _ _ h) fun w1 hb1=>?_;go_wp2
  exact bJ rfl rfl ⟨⟨none,0,rfl,lJ _,fun _ _=>rfl⟩,hb1⟩
theorem CD (t:Int) (ht:t=1∨t = -1) (a b:Option Addr) (ca cb:Nat) (l l':List Zp) (w:World) (h:aK w a l) (h':aK w b l') :
  Calls prog 55 #[.slice a l.length ca,.slice b l'.length cb,t] w (jL (dM t l l') (eJ t l l') w):=
 (boQ t ht a b ca cb l l' w h h').mono fun _ _ ⟨⟨a,c,e,z,_⟩,h⟩=>⟨⟨a,c,e,z⟩,h⟩
theorem Gu (x:Int) (h:gV x=true):gV (kZ x)=true:=by
 rw [cK] at *; unfold kZ; split <;> omega
theorem GL (x:Int) (_:gV x=true):gV (ln x)=true:=by
 rw [cK] at *; unfold ln; split <;> omega
theorem Jj (w:World):oX 151 #[] kZ w:=by
 intro x W hx _;have hx:=(cK _).1 hx;show Calls prog 151 #[x] W _;by_cases h:x<0
 ·have e:kZ x=0:=by simp [kZ,h]
  rw [e];go_enter func151,ntmps151;go_wp2
  go_ret;exact ⟨rfl,Mz _ _⟩
 ·have e:kZ x=x:=by simp [kZ,h]
  rw [e];go_enter func151,ntmps151;go_wp2
  go_ret;exact ⟨rfl,Mz _ _⟩
theorem Ji (w:World):oX 152 #[] ln w:=by
 intro x W hx _;have hx:=(cK _).1 hx;show Calls prog 152 #[x] W _;by_cases h:0<x
 ·have e:ln x=1:=by simp [ln,h]
  rw [e];go_enter func152,ntmps152;go_wp2
  go_ret;exact ⟨rfl,Mz _ _⟩
 ·have e:ln x=0:=by simp [ln,h]
  rw [e];go_enter func152,ntmps152;go_wp2
  go_ret;exact ⟨rfl,Mz _ _⟩
theorem zR (g:Nat) (hn:g=151∨g=152) (f:Int→Int) (f0:f 0=0) (hf:∀ x,gV x=true→gV (f x)=true) (mkF:∀ w,oX g #[] f w) (a:Option Addr) (ca:Nat) (l:List Zp) (w:World) (h:aK w a l) :
  Calls prog 150 #[.slice a l.length ca,.func (.func g) #[] #[]] w (jL (jV f l) (aM l) w):=by
 have eg:∀ (args:Array Value) (w:World),(callFunc g args).run prog w=.ok (.enter g args) w:=by rcases hn with rfl | rfl <;> exact fun _ _=>rfl
 unfold jL;by_cases hw:aM l=0
 ·have Hw:=aB hw;have hok:=(cq l).1 hw;have eZ:jV f l=canon (fL f l):=by rw [IU f f0 hok.2.2]; unfold jV; rw [if_pos hw]
  rw [eZ];have HA:Hid (∀ x ∈ l,aQ x.1=0∧gV x.2=true):=fun x hx=>⟨(hok.2.1 x hx).1,(hok.2.1 x hx).2.2⟩
  have HF:=aB hf;have L1:=hok.1;clear hw eZ hok hf;go_enter func150,ntmps150;go_wp2_with fail
  refine bC (df _ _ _ _ h) fun w3 hb1=>?_;rw [Hw.out];have zl:=h.next hb1;clear h;go_wp2_with fail
  go_loopw [7,17] (fun v i wr=>∃ k:Nat,k≤l.length∧i = .int .i64 k∧ru wr v (canon (fL f (l.take k)))∧Below w3 w3 wr) (fun _ i _=>l.length - (intOf i).toNat)
  case atStart=>exact ⟨0,MD _,rfl,⟨_,0,rfl,⟨by simp [canon,fL],.inl rfl⟩,⟨fun _=>rfl,by simp [canon,fL],by simp⟩⟩,Mz _ _⟩
  case round =>
   obtain ⟨k,hk,rfl,⟨az,cz,rfl,zz,lz⟩,hb⟩:=hrel;by_cases hlt:k<l.length
   ·obtain ⟨b1,off,rfl,hbl,c1,ar,cr,c0,sr⟩:=(zl.next hb).elem hlt;have hA:=HA.out l[k] (MC hlt);have hx:=(cK _).1 hA.2;have h8:=((bR _).1 hA.1).1;have hfx:=(cK _).1 (HF.out _ hA.2);have ok:=wY (l:=fL f (l.take k)) (by rw [sY,MR]; omega) (fun x hx=>by
     obtain ⟨y,hy,rfl⟩:=yM hx;have:=HA.out y (N6 hy);exact ⟨this.1,HF.out _ this.2⟩)
    have stp:Hid (canon (fL f (l.take (k+1)))=cI (canon (fL f (l.take k))) l[k].1 (f l[k].2)):=by
     show canon _=_;rw [uU _ _ _ hlt,iu]
    have bN:=aN wr (.cells #[.slice ar l[k].1.length cr,.int .i64 l[k].2] 47);have zz1:=zz.next bN;have sr1:=sr.next bN;have bb:=bg hb bN;have hin:=hA.2;clear hA zz sr;generalize canon (fL f (l.take k))=acc at *;have q0:(wr.alloc (.cells #[.slice ar l[k].1.length cr,.int .i64 l[k].2] 47)).cell? (ah wr 0)=some (.slice ar l[k].1.length cr):=by simp
    have q1:(wr.alloc (.cells #[.slice ar l[k].1.length cr,.int .i64 l[k].2] 47)).cell? (ah wr 1)=some (.int .i64 l[k].2):=by simp
    have mk:∀ n:cF (wr.alloc (.cells #[.slice ar l[k].1.length cr,.int .i64 l[k].2] 47)),Calls prog g #[.int .i64 l[k].2] n.now (fun e w'=>e = .returned (.int .i64 (f l[k].2))∧Below n.now.heap.size n.now w'):=fun n=>mkF _ l[k].2 n.now hin n.ok
    have MK:=aB mk;clear mk;go_wp2_with fail
    generalize wr.alloc _=wA at *;have p0:=ak q0;have p1:=ak q1;have hB0:Below wA wA wA.drew:=(Mz _ _).drew;refine iI aG ?_;refine aT (some 21) (i:=0) (v:=.slice az acc.length cz) rfl rfl aG aG aG (fun _ _ _ h=>h) (Or.inl ⟨rfl,fun n=>?_⟩) hB0 ?_
    ·go_simp
    simp only [pX];refine aT (some 22) (i:=1) (v:=.pointer (some (ah wr 0))) rfl rfl aG aG aG (fun _ _ _ h=>h) (Or.inl ⟨rfl,fun n=>?_⟩) hB0 ?_
    ·go_simp
    simp only [pX];refine aT (some 23) (i:=2) (v:=.slice ar l[k].1.length cr) rfl rfl aG aG aG (fun _ _ _ h=>h) (Or.inl ⟨rfl,fun n=>?_⟩) hB0 ?_
    ·go_simp
    simp only [pX];refine aT (some 24) (i:=3) (v:=.func (.func g) #[] #[]) rfl rfl aG aG aG (fun _ _ _ h=>h) (Or.inl ⟨rfl,fun n=>?_⟩) hB0 ?_
    ·go_simp
    simp only [pX];refine aT (some 25) (i:=4) (v:=.pointer (some (ah wr 1))) rfl rfl aG aG aG (fun _ _ _ h=>h) (Or.inl ⟨rfl,fun n=>?_⟩) hB0 ?_
    ·go_simp
    simp only [pX];refine aT (some 26) (i:=5) (v:=.int .i64 l[k].2) rfl rfl aG aG aG (fun _ _ _ h=>h) (Or.inl ⟨rfl,fun n=>?_⟩) hB0 ?_
    ·go_simp
    simp only [pX];refine aT (some 27) (i:=6) (v:=.int .i64 (f l[k].2)) rfl rfl aG aG aG (fun _ _ _ h=>h) (Or.inl ⟨rfl,fun n=>?_⟩) hB0 ?_
    ·go_simp;exact MK.out n
    simp only [pX];refine fG (rs:=[7]) aG (by simp) ?_;intro w5 hb5 j hj;obtain rfl:j=7:=by simpa using hj
    clear hj;have D5:=chain hB0 hb5;refine wpOp_step rfl (fun K hK=>?_);go_simp;refine (pH az cz _ ar cr l[k].1 (f l[k].2) _ (zz1.next D5) lz (sr1.next D5) h8 ok.len ok.right ok.bd (by first | omega | (show -400000000000000000 ≤ -l[k].2 ∧ -l[k].2≤400000000000000000; omega))).mono ?_;rintro e w6 ⟨v,rfl,O1,hb6⟩;obtain ⟨a1,cp1,rfl,z1,l1⟩:=O1.zs;clear O1;refine hK _ _ ⟨chain D5 hb6,?_⟩;clear hK K;refine fG (rs:=[8]) aG (by simp) ?_;intro w7 hb7 j hj;obtain rfl:j=8:=by simpa using hj
    clear hj;refine wpOp_step rfl (fun K hK=>?_);go_simp;refine hK _ _ ⟨chain (chain D5 hb6) hb7,?_⟩;clear hK K;refine ml aG ?_;intro w8 hb8;have D8:=chain (chain (chain D5 hb6) hb7) hb8;have z8:=(z1.next hb7).next hb8;clear p0 p1 hB0 D5 hb5 hb6 hb7 hb8 ok zz1 sr1 q0 q1;go_wp2
    go_roundw
    case rel=>exact ⟨k+1,by omega,by go_num,⟨a1,cp1,by rw [stp.out],by rw [stp.out]; exact z8,by rw [stp.out]; exact l1⟩,bg bb D8⟩
    case measure=>simp [intOf]; omega
   ·have e:k=l.length:=by omega
    subst e;rw [MM] at zz;rw [MM];clear lz;generalize hzc:canon (fL f l)=zc at *;have HZc:=aB hzc;clear hzc;go_wp2
    exact MA (v:=.tuple #[.slice az zc.length cz,aD]) (by simp [results,results150,go_sem]) rfl ⟨⟨az,cz,by rw [Hw.out,HZc.out],by rw [HZc.out]; exact zz⟩,bg hb1 hb⟩
 ·have eZ:jV f l = []:=by simp [jV,hw]
  rw [eZ];have hne:(aM l != 0)=true:=by simpa using hw
  clear hw eZ;go_enter func150,ntmps150;go_wp2_with fail
  refine bC (df _ _ _ _ h) fun w1 hb1=>?_;go_wp2
  exact bJ rfl rfl ⟨⟨none,0,rfl,lJ _⟩,hb1⟩
theorem sK (a:Option Addr) (ca:Nat) (l:List Zp) (w:World) (h:aK w a l) :
  Calls prog 105 #[.slice a l.length ca] w (jL (jV kZ l) (aM l) w):=by
 have ec:=zR 151 (.inl rfl) kZ rfl Gu Jj a ca l w h;unfold jL at ec ⊢;go_enter func105,ntmps105;go_wp2_with fail
 refine ec.mono ?_;clear ec;rintro e w1 ⟨⟨a1,c1,rfl,z1⟩,hb1⟩;go_wp2
 exact bJ rfl rfl ⟨⟨a1,c1,rfl,z1⟩,hb1⟩
theorem tK (a:Option Addr) (ca:Nat) (l:List Zp) (w:World) (h:aK w a l) :
  Calls prog 106 #[.slice a l.length ca] w (jL (jV ln l) (aM l) w):=by
 have ec:=zR 152 (.inr rfl) ln rfl GL Ji a ca l w h;unfold jL at ec ⊢;go_enter func106,ntmps106;go_wp2_with fail
 refine ec.mono ?_;clear ec;rintro e w1 ⟨⟨a1,c1,rfl,z1⟩,hb1⟩;go_wp2
 exact bJ rfl rfl ⟨⟨a1,c1,rfl,z1⟩,hb1⟩
end Go.Proofs.YtoefpglknaiaeaaGreat
