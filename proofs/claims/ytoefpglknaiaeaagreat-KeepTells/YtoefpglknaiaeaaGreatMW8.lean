import Derived.Test.YtoefpglknaiaeaaGreatMW6
import Derived.Test.YtoefpglknaiaeaaGreatMW7
set_option maxHeartbeats 16000000
set_option maxRecDepth 100000
namespace Go.Proofs.YtoefpglknaiaeaaGreat
open Go.RowKit _root_.Go.Proofs.Tryz
theorem jH (cols:List Int) (x:Ex) (ca:Option Addr) (ccap:Nat) (a:Option Addr) (cap:Nat) (w:World) (hk:aU w w a x.ks) (hc:bf w w ca cols) (h0:(ax cols x).2=0) :
  Calls prog 169 #[.slice ca cols.length ccap,fN x.k x.v x.c a x.ks.length cap] w fun e w'=>∃ u,e = .returned (.tuple #[.int .i64 (ax cols x).1,u,aD])∧gZ cols w u (fun row=>bQ row x) w'∧Below w w w':=by
 have S0:=ki.new w x.k x.v x.c a x.ks.length cap 27;have hal:=aN w (.cells (hJ x a cap) 27);have z1:(w.alloc (.cells (hJ x a cap) 27)).heap.size=w.heap.size+1:=by simp
 have con:=rB cols x ca ccap a cap _ ((aU.next hal (Mx _) hk).up hal.size) ((hc.next hal (Mx _)).up hal.size);have ra:=Ep cols x _ (mw h0);rw [h0] at con;generalize (ax cols x).1=t at *;go_enter func169,ntmps169;go_wp2_with fail
 generalize w.alloc _=w1 at *;refine bC con fun w2 hb2=>?_;have hA:=chain hal hb2;obtain ⟨s0,s1,s2,s3,s4,s5⟩:=S0.next hb2 ag;simp only [MG] at s1 s2 s3 s4 s5;have con2:=ra w a cap w2 (aU.next hA (Mx _) hk) hA.size;clear con ra S0;go_wp2_with fail
 refine con2.mono ?_;rintro e w3 ⟨u,rfl,hA3,hb3⟩;clear s0 s1 s2 s3 s4 s5 con2;obtain ⟨g,cb,rfl⟩:∃ g cb,u = .func (.func g) #[] cb:=by obtain ⟨g,cb,e,_⟩:=hA3; exact ⟨g,cb,e⟩
 go_wp2
 exact JX rfl rfl ⟨_,rfl,hA3.down hA.size,chain hA hb3⟩
theorem mr (cols:List Int) (x:Ex) (ca:Option Addr) (ccap:Nat) (a:Option Addr) (cap:Nat) (w:World) (hk:aU w w a x.ks) (hc:bf w w ca cols) (h0:¬ (ax cols x).2=0) :
  Calls prog 169 #[.slice ca cols.length ccap,fN x.k x.v x.c a x.ks.length cap] w fun e w'=>e = .returned (.tuple #[aD,.nilFunc,.int .i64 (ax cols x).2])∧Below w w w':=by
 have hal:=aN w (.cells (hJ x a cap) 27);have con:=rB cols x ca ccap a cap _ ((aU.next hal (Mx _) hk).up hal.size) ((hc.next hal (Mx _)).up hal.size);have q:((ax cols x).2 != 0)=true:=by simpa using h0
 generalize (ax cols x).1=t at *;generalize (ax cols x).2=t2 at *;go_enter func169,ntmps169;go_wp2_with fail
 generalize w.alloc _=w1 at *;refine bC con fun w2 hb2=>?_;have hA:=chain hal hb2;clear con;go_wp2
 exact JX rfl rfl ⟨rfl,hA⟩
def lN (cols:List Int) (lo:Nat) (u:Value) (x:Ex) (w:World):Prop :=
 ∃ g cb,u = .func (.func g) #[] cb∧(∀ args w,(callFunc g args).run prog w = .ok (.enter g args) w) ∧
  ∀ (row:List Vl) (a:Option Addr) (cap:Nat) (W:World),dX cols row→aZ W a row→aI lo w W →
   Calls prog g (#[.slice a row.length cap] ++ cb) W fun e w'=>e = .returned (.bool (cX x row))∧Below W W w'
theorem lN.next {cols:List Int} {lo:Nat} {u:Value} {x:Ex} {w w1:World} (h:lN cols lo u x w) (hb:aI lo w w1):lN cols lo u x w1:=by
 obtain ⟨g,cb,e,eg,hd⟩:=h;exact ⟨g,cb,e,eg,fun row a cap W hf hs hW=>hd row a cap W hf hs (hb.trans hW)⟩
theorem lN.down {cols:List Int} {lo lo':Nat} {u:Value} {x:Ex} {w:World} (h:lN cols lo u x w) (hl:lo'≤lo):lN cols lo' u x w:=by
 obtain ⟨g,cb,e,eg,hd⟩:=h;exact ⟨g,cb,e,eg,fun row a cap W hf hs hW=>hd row a cap W hf hs (hW.up hl)⟩
theorem Il (cols:List Int) (lo:Nat) (x:Ex) (u:Value) (b:Nat) (a:Option Addr) (row:List Vl) (cap:Nat) (W:World) (h0:W.cell? (ah b 0)=some u) (hA:gZ cols lo u (fun row=>bQ row x) W) (hf:dX cols row) (hs:aZ W a row) :
  Calls prog 170 #[.slice a row.length cap,ah b 0] W fun e w'=>e = .returned (.bool (cX x row))∧Below W W w':=by
 obtain ⟨g,cb,rfl,eg,d⟩:=hA;have d:=d row a cap W hf hs (aI.refl _ _);dsimp only at d;unfold cX;generalize bQ row x=v at *;show Calls _ _ _ _ fun e w'=>e = .returned (.bool (cls v.1 v.2.1 == some true))∧_
 go_enter func170,ntmps170;go_wp2_with (go_at_fn g; refine d.mono ?_; rintro e w1 ⟨rfl,hb1⟩)
 refine bC (kB _ _ _ _) fun w2 hb2=>?_;go_wp2
 go_ret;exact ⟨rfl,chain hb1 hb2⟩
theorem vD (cols:List Int) (x:Ex) (ca:Option Addr) (ccap:Nat) (a:Option Addr) (cap:Nat) (w:World) (hk:aU w w a x.ks) (hc:bf w w ca cols) (h:cH cols x=0) :
  Calls prog 128 #[.slice ca cols.length ccap,fN x.k x.v x.c a x.ks.length cap] w fun e w'=>∃ u,e = .returned (.tuple #[u,aD])∧lN cols w u x w'∧Below w w w':=by
 obtain ⟨h0,ht⟩:=Gm h;have S0:=ki.new w x.k x.v x.c a x.ks.length cap 27;have hal:=aN w (.cells (hJ x a cap) 27);have con:=jH cols x ca ccap a cap _ ((aU.next hal (Mx _) hk).up hal.size) ((hc.next hal (Mx _)).up hal.size) h0;clear h h0;generalize (ax cols x).1=t at *;go_enter func128,ntmps128;go_wp2_with fail
 generalize w.alloc _=w1 at *;refine con.mono ?_;rintro e w2 ⟨u,rfl,hA2,hb2⟩;have hA:=chain hal hb2;clear con S0;have hA2:=hA2.down hal.size;obtain ⟨g,cb,rfl⟩:∃ g cb,u = .func (.func g) #[] cb:=by obtain ⟨g,cb,e,_⟩:=hA2; exact ⟨g,cb,e⟩
 have hal3:=aN w2 (.cells #[.func (.func g) #[] cb] 191);have fin:∀ W,aI w (w2.alloc (.cells #[.func (.func g) #[] cb] 191)) W→∀ (row:List Vl) (a:Option Addr) (cap:Nat),dX cols row→aZ W a row→Calls prog 170 #[.slice a row.length cap,ah w2 0] W fun e w'=>e = .returned (.bool (cX x row))∧Below W W w':=fun W hW row a cap hf hs =>
  Il cols w x _ w2 a row cap W ((hW.cell (p:=ah w2 0) hA.size (by simp)).trans (by simp)) ((hA2.next (aI.of hal3)).next hW) hf hs
 have HF:=aB fin;clear fin hA2;rcases ht with rfl | rfl
 rotate_left
 all_goals
  go_wp2_with fail
  exact bJ rfl rfl ⟨_,rfl,⟨170,_,rfl,enters_of func170 aG rfl,fun row a cap W hf hs hW=>HF.out W hW row a cap hf hs⟩,chain hA hal3⟩
theorem rK (cols:List Int) (x:Ex) (ca:Option Addr) (ccap:Nat) (a:Option Addr) (cap:Nat) (w:World) (hk:aU w w a x.ks) (hc:bf w w ca cols) (h:¬ cH cols x=0) :
  Calls prog 128 #[.slice ca cols.length ccap,fN x.k x.v x.c a x.ks.length cap] w fun e w'=>e = .returned (.tuple #[.nilFunc,.int .i64 (cH cols x)])∧Below w w w':=by
 have hal:=aN w (.cells (hJ x a cap) 27);have hk':=(aU.next hal (Mx _) hk).up hal.size;have hc':=(hc.next hal (Mx _)).up hal.size;by_cases h0:(ax cols x).2=0
 ·have e:cH cols x=9:=by
   unfold cH at h ⊢;rw [if_neg (by simpa using h0)] at h ⊢;by_cases q:(ax cols x).1≠2∧(ax cols x).1≠1
   ·rw [if_pos q]
   ·rw [if_neg q] at h; exact absurd rfl h
  have ht:¬ (ax cols x).1=2∧¬ (ax cols x).1=1:=by
   unfold cH at h;rw [if_neg (by simpa using h0)] at h;by_cases q:(ax cols x).1≠2∧(ax cols x).1≠1
   ·exact q
   ·rw [if_neg q] at h; exact absurd rfl h
  rw [e];have con:=jH cols x ca ccap a cap _ hk' hc' h0;clear h h0 e;generalize (ax cols x).1=t at *;have t2:(t != 2)=true:=by simpa using ht.1
  have t1:(t != 1)=true:=by simpa using ht.2
  go_enter func128,ntmps128;go_wp2_with fail
  generalize w.alloc _=w1 at *;refine con.mono ?_;rintro e w2 ⟨u,rfl,hA2,hb2⟩;have hA:=chain hal hb2;clear con;obtain ⟨g,cb,rfl⟩:∃ g cb,u = .func (.func g) #[] cb:=by obtain ⟨g,cb,e,_⟩:=hA2; exact ⟨g,cb,e⟩
  have hal3:=aN w2 (.cells #[.func (.func g) #[] cb] 191);clear hA2;go_wp2
  exact bJ rfl rfl ⟨rfl,chain hA hal3⟩
 ·have e:cH cols x=(ax cols x).2:=by unfold cH; rw [if_pos h0]
  rw [e];have con:=mr cols x ca ccap a cap _ hk' hc' h0;have q:((ax cols x).2 != 0)=true:=by simpa using h0
  clear h e h0;generalize (ax cols x).2=t2 at *;go_enter func128,ntmps128;go_wp2_with fail
  generalize w.alloc _=w1 at *;refine bC con fun w2 hb2=>?_;have hA:=chain hal hb2;have hal3:=aN w2 (.cells #[.nilFunc] 191);clear con;go_wp2
  exact bJ rfl rfl ⟨rfl,chain hA hal3⟩
def Cf (W:World) (B n:Nat) (f:Nat→Vl) (k:Nat):Prop:=∃ xs,W.ownsRow B 24 3 (.slice (some (ah B 0)) n n) n xs∧∀ j:Nat,j<n→j<k→xs[j*3]? = some (.int .i64 (f j).1)∧xs[j*3+1]? = some (.int .i64 (f j).2.1)∧xs[j*3+2]? = some (.string (f j).2.2)
theorem Cf.step {W:World} {B n:Nat} {f:Nat→Vl} {k:Nat} (h:Cf W B n f k) (hk:k<n) :
  Cf (((W.setCell ⟨B,k*3,none⟩ (.int .i64 (f k).1)).setCell ⟨B,k*3+1,none⟩ (.int .i64 (f k).2.1)).setCell ⟨B,k*3+2,none⟩ (.string (f k).2.2)) B n f (k+1):=by
 obtain ⟨xs,h1,h2⟩:=h;have lx:=h1.1;refine ⟨_,((((h1.stored (k*3) _).1.stored (k*3+1) _).1).stored (k*3+2) _).1,?_⟩;intro j hj hjk;by_cases e:j=k
 ·subst e;refine ⟨?_,?_,?_⟩ <;> simp [List.getElem?_set,lx] <;> omega
 ·obtain ⟨g0,g1,g2⟩:=h2 j hj ag;refine ⟨?_,?_,?_⟩
  ·rw [MQ ag,MQ ag,MQ ag]; exact g0
  ·rw [MQ ag,MQ ag,MQ ag]; exact g1
  ·rw [MQ ag,MQ ag,MQ ag]; exact g2
theorem Cf.next {W w1:World} {B n:Nat} {f:Nat→Vl} {k:Nat} (h:Cf W B n f k) (hb:Below W W w1):Cf w1 B n f k:=by
 obtain ⟨xs,h1,h2⟩:=h;exact ⟨xs,aL h1 hb,h2⟩
theorem Cf.cells {W:World} {B n:Nat} {f:Nat→Vl} {k:Nat} (h:Cf W B n f k) (hk:k<n):(∃ u0 u1 u2,W.cell? ⟨B,k*3,none⟩=some u0∧W.cell? ⟨B,k*3+1,none⟩=some u1∧W.cell? ⟨B,k*3+2,none⟩=some u2)∧W.frozen? ⟨B,k*3,none⟩=false∧W.frozen? ⟨B,k*3+1,none⟩=false∧W.frozen? ⟨B,k*3+2,none⟩=false∧B<W.heap.size:=by
 obtain ⟨xs,h1,h2⟩:=h;have lx:=h1.1;refine ⟨⟨xs[k*3]'ag,xs[k*3+1]'ag,xs[k*3+2]'ag,?_,?_,?_⟩,h1.frozenAt _,h1.frozenAt _,h1.frozenAt _,(h1.lt B rfl).2⟩
 ·rw [h1.cellAt _ ag]; exact M1 ag
 ·rw [h1.cellAt _ ag]; exact M1 ag
 ·rw [h1.cellAt _ ag]; exact M1 ag
theorem Cf.done {W:World} {B n:Nat} {f:Nat→Vl} (h:Cf W B n f n) (vs:List Vl) (hn:n=vs.length) (hv:∀ j (hj:j<vs.length),f j=vs[j]) (h8:vs.length≤100):aZ W (some (ah B 0)) vs∧fi W (some (ah B 0)):=by
 obtain ⟨xs,h1,h2⟩:=h;subst hn;refine ⟨⟨by unfold maxLen; omega,.inr ⟨B,0,rfl,?_,(h1.lt B rfl).2⟩⟩,?_⟩
 ·intro i hi;obtain ⟨g0,g1,g2⟩:=h2 i hi hi;rw [hv i hi] at g0 g1 g2;refine ⟨?_,?_,?_⟩
  ·rw [h1.cellAt _ ag,← g0]; congr 1; omega
  ·rw [h1.cellAt _ ag,← g1]; congr 1; omega
  ·rw [h1.cellAt _ ag,← g2]; congr 1; omega
 ·intro b off e;obtain ⟨_,⟨e',_⟩ | ⟨g,cap,cur,e',_,hh,_⟩⟩:=h1
  ·cases e'
  ·simp only [Value.slice.injEq,NQ,Addr.mk.injEq] at e e';obtain ⟨rfl,_⟩:=e;rw [← e'.1.1] at hh;exact ⟨_,_,hh⟩
def xr (B:Nat) (W:World) (l:List Vl):Prop:=aZ W (some (ah B 0)) l∧fi W (some (ah B 0))
def lM (cols:List Int) (lo:Nat) (u:Value) (xs:List Ex) (w:World):Prop :=
 ∃ g cb,u = .func (.func g) #[] cb∧(∀ args w,(callFunc g args).run prog w = .ok (.enter g args) w) ∧
  ∀ (row:List Vl) (a:Option Addr) (cap:Nat) (W:World),dX cols row→aZ W a row→aI lo w W →
   Calls prog g (#[.slice a row.length cap] ++ cb) W fun e w'=>e = .returned (.slice (some (ah W 0)) xs.length xs.length)∧xr W w' (bp xs row)∧Below W W w'
theorem lM.next {cols:List Int} {lo:Nat} {u:Value} {xs:List Ex} {w w1:World} (h:lM cols lo u xs w) (hb:aI lo w w1):lM cols lo u xs w1:=by
 obtain ⟨g,cb,e,eg,hd⟩:=h;exact ⟨g,cb,e,eg,fun row a cap W hf hs hW=>hd row a cap W hf hs (hb.trans hW)⟩
theorem lM.down {cols:List Int} {lo lo':Nat} {u:Value} {xs:List Ex} {w:World} (h:lM cols lo u xs w) (hl:lo'≤lo):lM cols lo' u xs w:=by
 obtain ⟨g,cb,e,eg,hd⟩:=h;exact ⟨g,cb,e,eg,fun row a cap W hf hs hW=>hd row a cap W hf hs (hW.up hl)⟩
theorem Gb (cols:List Int) (lo:Nat) (vb:Nat) (xs:List Ex) (a:Option Addr) (row:List Vl) (cap:Nat) (W:World) (hK:mj cols lo W vb xs) (h8:xs.length≤8) (hf:dX cols row) (hs:aZ W a row) :
  Calls prog 172 #[.slice a row.length cap,ah vb 0] W fun e w'=>e = .returned (.slice (some (ah W 0)) xs.length xs.length)∧xr W w' (bp xs row)∧Below W W w':=by
 obtain ⟨i0,hi,hz0,hz1,hz2⟩:=info_parts Tryz.pD;obtain ⟨K,k1,k2,k3,k4,k5,k6⟩:=hK;have HK:=aB k6;go_enter func172,ntmps172;go_wp2_with (first | (at_make; refine wpList_make_full _ rfl _ _ 45 rfl W 24 i0 _ 3 underlying45 hi hz0 hz1 .i64 .i64 xs.length xs.length xs.length rfl rfl rfl rfl (by rw [hz2]; omega) (by unfold maxLen; omega) (Mx _) ?_))
 intro w1 hown hgrow;have hb0:Below W W w1:=(Mz _ _).grown hgrow (Mx _) (by simp);have hB0:Cf w1 W xs.length (fun j=>bQ row (xs.getD j (.mk 0 gX 0 []))) 0:=⟨_,hown,fun j _ hj=>absurd hj (M9 _)⟩
 have c1:=(hb0.cell (p:=ah vb 0) k2).trans k5;clear hown hgrow k5 k6;go_wp2_with fail
 clear c1;go_loopw [12] (fun i wr=>∃ k:Nat,k≤xs.length∧i = .int .i64 k∧Cf wr W xs.length (fun j=>bQ row (xs.getD j (.mk 0 gX 0 []))) k∧Below W W wr) (fun i _=>xs.length - (intOf i).toNat)
 case atStart=>exact ⟨0,MD _,rfl,hB0,hb0⟩
 case round =>
  obtain ⟨k,hk,rfl,HB,hb⟩:=hrel;have hz:=hb.size;by_cases hlt:k<xs.length
  ·obtain ⟨u,cu,A⟩:=HK.out k hlt;have cu:=(hb.cell (p:=ah K k) k4).trans cu;obtain ⟨g,cb,rfl,eg,d⟩:=A;have d:=d row a cap wr hf (hs.next hb) (aI.of hb);dsimp only at d;have ev:bQ row xs[k]=(fun j=>bQ row (xs.getD j (.mk 0 gX 0 []))) k:=by simp [List.getD,hlt]
   rw [ev] at d;generalize (fun j=>bQ row (xs.getD j (.mk 0 gX 0 [])))=f at *;have i0:(0:Int)≤(k:Int):=by omega
   have i1:(k:Int)<(xs.length:Int):=by omega
   go_wp2_with (go_at_fn g; refine d.mono ?_; rintro e w2 ⟨rfl,hb2⟩; have HB2:=HB.next hb2; obtain ⟨⟨u0,u1,u2,d0,d1,d2⟩,f0,f1,f2,hlb⟩:=HB2.cells hlt; have zz:=hb2.size)
   go_roundw
   case rel =>
    refine ⟨k+1,by omega,by go_num,?_,?_⟩
    ·exact HB2.step hlt
    ·exact (((chain hb hb2).setCell (p:=⟨W,k*3,none⟩) (Mx _) _).setCell (p:=⟨W,k*3+1,none⟩) (Mx _) _).setCell (p:=⟨W,k*3+2,none⟩) (Mx _) _
   case measure=>simp [intOf]; omega
  ·have e:k=xs.length:=by omega
   subst e;go_wp2
   go_ret;exact ⟨rfl,HB.done (bp xs row) (by simp [bp]) (fun j hj=>by simp [bp] at hj; simp [bp,List.getD,hj]) (by simp [bp]; omega),hb⟩
theorem xA.Kz {cols:List Int} {w:World} {n:Nat} (ks:List Ex) (hn:n=ks.length) (T T':TypeId) :
  xA cols w (w+1) (w.heap.size+2) ((w.alloc (.cells (Array.replicate n Value.nilFunc) T)).alloc (.cells #[.slice (some (ah w 0)) n n] T')) ks 0:=by
 subst hn;refine ⟨⟨by omega,by omega,by omega,by simp⟩,?_,fun i hi=>⟨⟨Value.nilFunc,?_⟩,?_⟩,fun i _ h=>absurd h (M9 _)⟩
 ·rw [Nv _ _ _ _ (by simp)]; rfl
 ·rw [World.cell?_alloc_past _ _ _ (by simp),Nv _ _ _ _ rfl];simp [hi]
 ·rw [World.frozen?_alloc_past _ _ _ (by simp)];exact NV _ _ _ _ rfl
theorem xn (cols:List Int) (xs:List Ex) (ca:Option Addr) (ccap:Nat) (xa:Option Addr) (xcap:Nat) (w:World) (hk:aU w w xa xs) (hc:bf w w ca cols) :
  Calls prog 131 #[.slice ca cols.length ccap,.slice xa xs.length xcap] w fun e w'=>∃ u,e = .returned (.tuple #[u,.int .i64 (bM cols xs)])∧((bM cols xs=0∧lM cols w u xs w')∨(¬ bM cols xs=0∧u = .nilFunc))∧Below w w w':=by
 by_cases h8:8<xs.length
 ·have e:bM cols xs=5:=by simp [bM,h8]
  rw [e];have hz:(8:Int)<(xs.length:Int):=by omega
  go_enter func131,ntmps131;go_wp2
  exact bJ rfl rfl ⟨_,rfl,.inr ⟨by decide,rfl⟩,Mz _ _⟩
 ·have e:bM cols xs=fM cols xs:=by simp [bM,h8]
  have HE:=aB e;generalize bM cols xs=le at *;clear e;have hmk:=tU (show xs.length≤8 by omega);have F0:xA cols w (w+1) (w.heap.size+2) ((w.alloc (.cells (Array.replicate xs.length Value.nilFunc) 191)).alloc (.cells #[.slice (some (ah w 0)) xs.length xs.length] 195)) xs 0:=xA.Kz xs rfl _ _
  have hA:Below w w ((w.alloc (.cells (Array.replicate xs.length Value.nilFunc) 191)).alloc (.cells #[.slice (some (ah w 0)) xs.length xs.length] 195)):=(aN ..).alloc (by simp) _;have hz:¬ (8:Int)<(xs.length:Int):=by omega
  go_enter func131,ntmps131;go_wp2_with fail
  generalize w.alloc _=w2 at *;clear hmk;go_loopw [20] (fun i wr=>∃ j:Nat,j≤xs.length∧i = .int .i64 j∧xA cols w (w+1) (w.heap.size+2) wr xs j∧Hid (fM cols xs=fM cols (xs.drop j))∧Below w w wr) (fun i _=>xs.length - (intOf i).toNat)
  case atStart=>exact ⟨0,MD _,rfl,F0,rfl,hA⟩
  case round =>
   clear F0 hA;obtain ⟨j,hj,rfl,F,HT,hb⟩:=hrel;have hz:=hb.size;have hzF:=F.lt.2.2.2;by_cases hlt:j<xs.length
   ·obtain ⟨b,off,ai,ci,rfl,hbl,sx,kx⟩:=(aU.next hb (Mx _) hk).elem hlt;obtain ⟨x0,x1,x2,x3,x4,x5⟩:=sx;have hal:=aN wr (.cells #[.int .i64 xs[j].k,.int .i64 xs[j].v.1,.int .i64 xs[j].v.2.1,.string xs[j].v.2.2,.int .i64 xs[j].c,.slice ai xs[j].ks.length ci] 27);have Fk:=F.next hal;have Sk:=ki.new wr xs[j].k xs[j].v xs[j].c ai xs[j].ks.length ci 27
    have zk:(wr.alloc (.cells #[.int .i64 xs[j].k,.int .i64 xs[j].v.1,.int .i64 xs[j].v.2.1,.string xs[j].v.2.2,.int .i64 xs[j].c,.slice ai xs[j].ks.length ci] 27)).heap.size=wr.heap.size+1:=by simp
    have kk:=(aU.next hal hz kx).up (show w.heap.size≤(wr.alloc (.cells #[.int .i64 xs[j].k,.int .i64 xs[j].v.1,.int .i64 xs[j].v.2.1,.string xs[j].v.2.2,.int .i64 xs[j].c,.slice ai xs[j].ks.length ci] 27)).heap.size by omega);have cc:=((hc.next hb (Mx _)).next hal hz).up (show w.heap.size≤(wr.alloc (.cells #[.int .i64 xs[j].k,.int .i64 xs[j].v.1,.int .i64 xs[j].v.2.1,.string xs[j].v.2.2,.int .i64 xs[j].c,.slice ai xs[j].ks.length ci] 27)).heap.size by omega);obtain ⟨k0,k1,k2,k3,k4,k5⟩:=Sk;simp only [MG] at k1 k2 k3 k4 k5;have hjz:(j:Int)<xs.length:=by omega
    by_cases h0:(ax cols xs[j]).2=0
    ·have con:=jH cols xs[j] ca ccap ai ci _ kk cc h0;have H0:=aB h0;clear h0;generalize (ax cols xs[j]).1=t at *;go_wp2_with fail
     clear x0 x1 x2 x3 x4 x5 kx k0 k1 k2 k3 k4 k5 kk cc;generalize wr.alloc _=wk at *;refine con.mono ?_;rintro e w3 ⟨u,rfl,hA3,hb3⟩;clear con;have F3:=Fk.next hb3;have q1:=F3.box;obtain ⟨⟨un,q2⟩,q3⟩:=F3.room j hlt;obtain ⟨ug,ucb,rfl⟩:∃ g cb,u = .func (.func g) #[] cb:=by obtain ⟨g,cb,e,_⟩:=hA3; exact ⟨g,cb,e⟩
     go_wp2
     go_roundw
     case rel=>exact ⟨j+1,by omega,by go_num,F3.store hlt (hA3.down ag),HT.out.trans (qP cols xs j hlt H0.out),(chain (chain hb hal) hb3).setCell (p:=ah w j) (Mx _) _⟩
     case measure=>simp [intOf]; omega
    ·have con:=mr cols xs[j] ca ccap ai ci _ kk cc h0;have HN:=aB (HE.out.trans (HT.out.trans (sG cols xs j hlt h0)));have q:((ax cols xs[j]).2 != 0)=true:=by simpa using h0
     generalize (ax cols xs[j]).2=t2 at *;go_wp2_with fail
     clear x0 x1 x2 x3 x4 x5 kx k0 k1 k2 k3 k4 k5 kk cc;generalize wr.alloc _=wk at *;refine bC con fun w3 hb3=>?_;clear con;go_wp2
     exact MA (v:=.tuple #[.nilFunc,t2]) (by simp [results,results131,go_sem]) rfl ⟨_,by rw [HN.out],.inr ⟨by rw [HN.out]; exact h0,rfl⟩,chain (chain hb hal) hb3⟩
   ·have e:j=xs.length:=by omega
    subst e;have HN:=aB (HE.out.trans (HT.out.trans (sR cols xs _ (Mx _))));have KF:=aB (F.kids (Mx _) ag);go_wp2_with fail
    refine MA (v:=.tuple #[.func (.func 172) #[] #[ah (w+1) 0],aD]) (by simp [results,results131,go_sem]) rfl ⟨_,by rw [HN.out],.inl ⟨HN.out,172,_,rfl,enters_of func172 aG rfl,fun row a cap W hf hs hW=>?_⟩,hb⟩;exact Gb cols w (w+1) xs a row cap W (KF.out.next hW) ag hf hs
theorem uV (cols:List Int) (row:List Vl) (k:Nat) (h:row.length≤k):fZ (cols.drop k) (row.drop k)=0:=by
 rw [M7 h]; cases cols.drop k <;> rfl
theorem qO (cols:List Int) (row:List Vl) (k:Nat) (h:k<row.length) (h':k<cols.length) (e:¬ aJ row[k]=0):fZ (cols.drop k) (row.drop k)=aJ row[k]:=by
 rw [MI h,MI h',fZ,if_pos e]
theorem tS (cols:List Int) (row:List Vl) (k:Nat) (h:k<row.length) (h':k<cols.length) (e:aJ row[k]=0) (e1:¬ row[k].1=1) (e2:¬ row[k].1=cols[k]):fZ (cols.drop k) (row.drop k)=9:=by
 rw [MI h,MI h',fZ,if_neg (by simp [e]),if_pos ⟨e1,e2⟩]
theorem lL (cols:List Int) (row:List Vl) (k:Nat) (h:k<row.length) (h':k<cols.length) (e:aJ row[k]=0) (e1:row[k].1=1∨row[k].1=cols[k]):fZ (cols.drop k) (row.drop k)=fZ (cols.drop (k+1)) (row.drop (k+1)):=by
 rw [MI h,MI h',fZ,if_neg (by simp [e]),if_neg ag]
theorem JQ (cols:List Int) (row:List Vl) (ca:Option Addr) (ccap:Nat) (ra:Option Addr) (rcap:Nat) (w:World) (hc:bf w w ca cols) (hs:aZ w ra row) :
  Calls prog 24 #[.slice ca cols.length ccap,.slice ra row.length rcap] w fun e w'=>e = .returned (.int .i64 (eh cols row))∧Below w w w':=by
 have hl:=hs.1;unfold maxLen at hl;generalize hr:eh cols row=r;have HR:=aB hr;clear hr;by_cases hlen:row.length=cols.length
 ·have HG:Hid (fZ cols row=r):=by show fZ cols row=r; rw [← HR.out,eh,if_neg (by simp [hlen])]
  have HL:=aB hlen;have q:((row.length:Int) != (cols.length:Int))=false:=by simp; omega
  clear HR hlen;go_enter func24,ntmps24;go_wp2_with fail
  go_loopw [15] (fun i wr=>∃ j:Nat,j≤row.length∧i = .int .i64 j∧Hid (fZ cols row=fZ (cols.drop j) (row.drop j))∧Below w w wr) (fun i _=>row.length - (intOf i).toNat)
  case atStart=>exact ⟨0,MD _,rfl,rfl,Mz _ _⟩
  case round =>
   obtain ⟨j,hj,rfl,HE,hb⟩:=hrel;have hz:=hb.size;by_cases hlt:j<row.length
   ·have hlt':j<cols.length:=by have:=HL.out; omega
    obtain ⟨b,off,rfl,hbl,r0,r1,r2⟩:=(hs.next hb).elem hlt;obtain ⟨b',off',rfl,hbl',c0⟩:=(hc.next hb (Mx _)).elem hlt';generalize hv:row[j]=v at *;generalize hcj:cols[j]=cj at *;have HV:=aB hv;have HC:=aB hcj;clear hv hcj;obtain ⟨k,n,s⟩:=v;have A0:=cS.new wr k n s 24;have d0:(wr.alloc (.cells #[k,n,s] 24)).cell? ⟨b',off'+j,none⟩=some (.int .i64 cj):=by
     rw [World.cell?_alloc_lt _ _ _ (by show b'<wr.heap.size; omega)]; exact c0
    go_wp2_with fail
    refine bC (js _ _ _ _) fun w1 hb1=>?_;have hb1':=hb.trans (ma hb1 |>.mono hz);have A1:=A0.next hb1;have c1:=(hb1.cell (p:=⟨b',off'+j,none⟩) (by simp; omega)).trans d0;clear r0 r1 r2 c0 A0 d0;by_cases hw:aO k n s=0
    ·rw [hw];have HW:Hid (aJ row[j]=0):=by show aJ row[j]=0; rw [HV.out]; exact hw
     clear hw;have p0:=ak A1.c0;have p1:=ak c1;haveI:Nonempty (cF w1):=⟨⟨_,Mz _ _⟩⟩
     by_cases k1:k=1;subst k1;have HN:=aB (lL cols row j hlt hlt' HW.out (.inl (by rw [HV.out])));rotate_left;have q1:(k != 1)=true:=by simpa using k1
     by_cases kc:k=cj;subst kc;have HN:=aB (lL cols row j hlt hlt' HW.out (.inr (by rw [HV.out,HC.out])));rotate_left;have q2:(k != cj)=true:=by simpa using kc
     have er:r=9:=by rw [← HG.out,HE.out,tS cols row j hlt hlt' HW.out (by rw [HV.out]; exact k1) (by rw [HV.out,HC.out]; exact kc)]
     subst er;clear HG HE;go_wp2_with fail
     refine aq aG aG ?_
     repeat (go_big_quiet_step (fail))
     refine wpQuiet_nil ?_;rintro w2 ⟨⟨v2,hb2⟩,h2⟩;obtain rfl:w2=v2:=h2;clear p0 p1 A1 c1;go_wp2_with fail
     go_ret;exact ⟨rfl,chain hb1' hb2⟩
     all_goals
      go_wp2_with fail
      refine aq aG aG ?_
      repeat (go_big_quiet_step (fail))
      refine wpQuiet_nil ?_;rintro w2 ⟨⟨v2,hb2⟩,h2⟩;obtain rfl:w2=v2:=h2;clear p0 p1 A1 c1;go_wp2_with fail
      go_roundw
      case rel=>exact ⟨j+1,by omega,by go_num,HE.out.trans HN.out,chain hb1' hb2⟩
      case measure=>simp [intOf]; omega
    ·have er:r=aO k n s:=by rw [← HG.out,HE.out,qO cols row j hlt hlt' (by rw [HV.out]; exact hw),HV.out]; rfl
     subst er;clear HG HE;have q3:(aO k n s != 0)=true:=by simpa using hw
     go_wp2_with fail
     go_ret;exact ⟨rfl,hb1'⟩
   ·have er:r=0:=by rw [← HG.out,HE.out,uV cols row j ag]
    subst er;clear HG HE;go_wp2_with fail
    go_ret;exact ⟨rfl,hb⟩
 ·have er:r=8:=by rw [← HR.out,eh,if_pos hlen]
  subst er;have q:((row.length:Int) != (cols.length:Int))=true:=by simp; omega
  clear HR;go_enter func24,ntmps24;go_wp2_with fail
  go_ret;exact ⟨rfl,Mz _ _⟩
end Go.Proofs.YtoefpglknaiaeaaGreat
namespace Go.Proofs.YtoefpglknaiaeaaGreat
open Go.RowKit Go.Lib Go.Shelf _root_.Go.Proofs.Tryz
theorem hU (cols:List Int) (ca:Option Addr) (ccap:Nat) (a:Option Addr) (cap:Nat) (l:List Zp) (w:World) (hc:bf w w ca cols) (h:aK w a l) :
  Calls prog 71 #[.slice ca cols.length ccap,.slice a l.length cap] w fun e w'=>e = .returned (.int .i64 (bV cols l))∧Below w w w':=by
 have hl:=h.1;unfold maxLen at hl;have hcl:=hc.1;unfold maxLen at hcl;by_cases h8:8<cols.length
 ·have e:bV cols l=5:=by simp [bV,h8]
  rw [e];have hz:(8:Int)<(cols.length:Int):=by omega
  go_enter func71,ntmps71;go_wp2
  go_ret;exact ⟨rfl,Mz _ _⟩
 have hz:¬ (8:Int)<(cols.length:Int):=by omega
 by_cases hw:aM l=0
 ·have e:bV cols l=gH cols l:=by simp [bV,h8,hw]
  rw [e];clear e;have Hw:=aB hw;clear hw;go_enter func71,ntmps71;go_wp2_with fail
  refine bC (fP _ _ _ _ h) fun w1 hb1=>?_;rw [Hw.out];go_wp2_with fail
  go_loopw [19] (fun i wr=>∃ k:Nat,k≤l.length∧i = .int .i64 k∧Hid (gH cols l=gH cols (l.drop k))∧Below w w wr) (fun i _=>l.length - (intOf i).toNat)
  case atStart=>exact ⟨0,MD _,rfl,rfl,hb1⟩
  case round =>
   obtain ⟨k,hk,rfl,HC,hb⟩:=hrel;have hz:=hb.size;by_cases hlt:k<l.length
   ·obtain ⟨b,off,rfl,hbl,c1,ar,cr,c0,sr⟩:=(h.next hb).elem hlt;have hA:=hb.alloc hz (.cells #[.slice ar l[k].1.length cr,.int .i64 l[k].2] 47);have hal:=aN wr (.cells #[.slice ar l[k].1.length cr,.int .i64 l[k].2] 47);have con:=JQ cols l[k].1 ca ccap ar cr _ ((hc.next hA (Mx _)).up hA.size) (sr.next hal);by_cases hw:eh cols l[k].1=0
    ·have Hw:=aB hw;rw [hw] at con;clear hw;go_wp2_with fail
     refine bC con fun w2 hb2=>?_;go_wp2
     go_roundw
     case rel=>exact ⟨k+1,by omega,by go_num,HC.out.trans (nW cols l k hlt Hw.out),l9 hb hb2⟩
     case measure=>simp [intOf]; omega
    ·have HN:=aB (HC.out.trans (pT cols l k hlt hw));have hne:(eh cols l[k].1 != 0)=true:=by simpa using hw
     generalize eh cols l[k].1=t at *;go_wp2_with fail
     refine bC con fun w2 hb2=>?_;go_wp2
     go_ret;exact ⟨aH HN.out.symm,l9 hb hb2⟩
   ·have HN:=aB (HC.out.trans (pY cols l k ag));go_wp2
    go_ret;exact ⟨aH HN.out.symm,hb⟩
 ·have e:bV cols l=aM l:=by simp [bV,h8,hw]
  rw [e];have hne:(aM l != 0)=true:=by simpa using hw
  go_enter func71,ntmps71;go_wp2_with fail
  refine bC (fP _ _ _ _ h) fun w1 hb1=>?_;go_wp2
  go_ret;exact ⟨rfl,hb1⟩
def qW (w0:World) (base:Nat) (W:World) (v:Value) (l:List Zp):Prop:=∃ xs,W.ownsRow base 47 2 v l.length xs∧iy w0 xs l
theorem qW.next {w0 W w1:World} {base:Nat} {v:Value} {l:List Zp} (h:qW w0 base W v l) (hb:Below W W w1):qW w0 base w1 v l:=by
 obtain ⟨xs,h1,h2⟩:=h;exact ⟨xs,aL h1 hb,h2⟩
theorem qW.zs {w0 W:World} {base:Nat} {v:Value} {l:List Zp} (h:qW w0 base W v l) (hb:Below w0 w0 W):∃ a cap,v = .slice a l.length cap∧aK W a l∧(a=none→cap=0):=by
 obtain ⟨xs,h1,h2⟩:=h;have h1':=h1;obtain ⟨hx,⟨rfl,h0⟩ | ⟨g,cap,cur,rfl,hg,hh,hn,hc,hs,ht⟩⟩:=h1
 ·have:l = []:=MH h0;subst this;exact ⟨none,0,rfl,⟨by simp,.inl rfl⟩,fun _=>rfl⟩
 ·refine ⟨_,cap,rfl,⟨by omega,.inr ⟨g,0,rfl,(h1'.lt g rfl).2,fun i hi=>?_⟩⟩,fun e=>by cases e⟩;obtain ⟨a,cp,e0,e1,e2⟩:=h2.2 i hi;refine ⟨?_,a,cp,?_,e2.next hb⟩
  ·rw [h1'.cellAt _ ag,← e1]; congr 1; omega
  ·rw [h1'.cellAt _ ag,← e0]; congr 1; omega
theorem kF {lo base e size n:Nat} {W w1:World} {v:Value} {xs:List Value} (h:W.ownsRow base e size v n xs) (hl:lo≤base) (hs:aI lo W w1):w1.ownsRow base e size v n xs:=by
 have h':=h;obtain ⟨hx,h1 | ⟨g,cap,cur,rfl,hg,hh,rest⟩⟩:=h
 ·exact ⟨hx,.inl h1⟩
 ·exact ⟨hx,.inr ⟨g,cap,cur,rfl,hg,by rw [hs.2 g ag (h'.lt g rfl).2]; exact hh,rest⟩⟩
theorem ke {l:List Zp} (p:Zp→Bool) {k:Nat} (h:k<l.length):(l.take (k+1)).filter p=(l.take k).filter p ++ (if p l[k]=true then [l[k]] else []):=by
 rw [MJ h,Ob]
 congr 1
 rw [List.filter_cons];rfl
theorem qf (g:Nat) (cb:Array Value) (p:Zp→Bool) (a:Option Addr) (cap:Nat) (l:List Zp) (w0 w:World) (Inv:World→Prop) (h:aK w0 a l) (hl:l.length≤100000)
  (eg:∀ args w,(callFunc g args).run prog w = .ok (.enter g args) w) (hI0:Inv w) (hI1:∀ W,Inv W→Below w0 w0 W) (hI2:∀ W W',Inv W→Below w W W'→Inv W')
  (hcall:∀ x ∈ l,∀ (ra:Option Addr) (rc:Nat) (W:World),Inv W→aZ w0 ra x.1→w.heap.size≤W.heap.size→Calls prog g (#[.agg #[.slice ra x.1.length rc,x.2]] ++ cb) W fun e w'=>e = .returned (.bool (p x))∧Inv w'∧aI w W w') :
  Calls prog 129 #[.slice a l.length cap,.func (.func g) #[] cb] w fun e w'=>∃ v,e = .returned v∧qW w0 w w' v (l.filter p)∧Inv w'∧w.heap.size≤w'.heap.size:=by
 obtain ⟨i0,hi,hj0,hj1,hj2⟩:=info_parts Tryz.fK;have HC:=aB hcall;have H1:=aB hI1;have H2:=aB hI2;clear hcall hI1 hI2;go_enter func129,ntmps129;go_wp2_with fail
 go_loopw [5,10] (fun v i wr=>∃ k:Nat,k≤l.length∧i = .int .i64 k∧qW w0 w wr v ((l.take k).filter p)∧Hid (Inv wr)∧w.heap.size≤wr.heap.size) (fun _ i _=>l.length - (intOf i).toNat)
 case atStart=>exact ⟨0,MD _,rfl,⟨[],by simpa using M4 _ _ _ _,by simp [iy]⟩,hI0,Mx _⟩
 case round =>
  clear hI0;obtain ⟨k,hk,rfl,HO,HI,hz⟩:=hrel;by_cases hlt:k<l.length
  ·obtain ⟨b,off,rfl,hbl,d1,ar,cr,d0,sr⟩:=h.elem hlt;have hB:=H1.out _ HI.out;have c1:=(hB.cell (p:=⟨b,_,none⟩) hbl).trans d1;have c0:=(hB.cell (p:=⟨b,_,none⟩) hbl).trans d0;have hbl':=My hbl hB.size;have hlen:((l.take k).filter p).length≤k:=by have:=Nn p (l.take k); simp only [MR] at this; omega
   have hal:=aN wr (.cells #[.slice ar l[k].1.length cr,.int .i64 l[k].2] 47);have IA:=H2.out _ _ HI.out (hal.mono hz);have con:=HC.out l[k] (MC hlt) ar cr _ IA sr (MO hz hal.size);have q0:(wr.alloc (.cells #[.slice ar l[k].1.length cr,.int .i64 l[k].2] 47)).cell? (ah wr 0)=some (.slice ar l[k].1.length cr):=by simp
   have q1:(wr.alloc (.cells #[.slice ar l[k].1.length cr,.int .i64 l[k].2] 47)).cell? (ah wr 1)=some (.int .i64 l[k].2):=by simp
   have za:(wr.alloc (.cells #[.slice ar l[k].1.length cr,.int .i64 l[k].2] 47)).heap.size=wr.heap.size+1:=by simp
   have HS:=aB sr;obtain ⟨xs,ho,he⟩:=HO;have HE:=aB he;have ho1:=aL ho hal;clear d0 d1 sr he ho IA;by_cases hp:p l[k]=true
   ·rw [hp] at con;have HP:=aB hp;clear hp
    go_wp2_with (first | (go_at_fn g; refine con.mono ?_; rintro e w1 ⟨rfl,I1,s1⟩; have r0:=(s1.cell (p:=ah wr 0) hz (by show wr.heap.size<_; omega)).trans q0; have r1:=(s1.cell (p:=ah wr 1) hz (by show wr.heap.size<_; omega)).trans q1; have z1:=s1.1; have o1:=kF ho1 (Mx _) s1) | (at_builtin; refine MX _ rfl _ _ 38 rfl w 47 i0 _ 2 32 underlying38 hi hj0 hj1 hj2 rfl (by decide) _ _ _ rfl (o1.alloc _) (ah w1 0) 1 1 [.slice ar l[k].1.length cr,.int .i64 l[k].2] rfl rfl ?Ac1 ?Ac2 ?Ac3 ?Ac4 ?Ac5 ?_))
    case Ac1 =>
     intro j u hj
     match j,hj with
     | 0,hj=>simp at hj; subst hj; simp [Addr.add]
     | 1,hj=>simp at hj; subst hj; simp [Addr.add]
    case Ac2=>intro u hu; simp at hu; rcases hu with rfl | rfl <;> rfl
    case Ac3=>unfold maxLen; omega
    case Ac4=>omega
    case Ac5=>simp; omega
    intro v' w5 ho5 hg5 _;have hb5:=((Mz w w1).alloc ag _).grown hg5 (by simp; omega) (fun q hq=>((o1.alloc (.cells #[.slice ar l[k].1.length cr,.int .i64 l[k].2] 47)).lt q hq).1);have HI1:=aB (H2.out _ _ I1 hb5);have z5:=hb5.size;clear hg5 o1 I1 con q0 q1 ho1;go_wp2
    go_roundw
    case rel=>exact ⟨k+1,by omega,by go_num,by rw [ke p hlt,if_pos HP.out]; exact ⟨_,by simpa using ho5,HE.out.push HS.out⟩,HI1,by omega⟩
    case measure=>simp [intOf]; omega
   ·have hp:p l[k]=false:=by simpa using hp
    rw [hp] at con;have HP:=aB hp;clear hp;go_wp2_with (go_at_fn g; refine con.mono ?_; rintro e w1 ⟨rfl,I1,s1⟩)
    have o1:=kF ho1 (Mx _) s1;have z1:=s1.1;have HI1:=aB I1;clear con q0 q1 ho1 I1;go_roundw
    case rel=>exact ⟨k+1,by omega,by go_num,by rw [ke p hlt,HP.out,if_neg (by decide),M8]; exact ⟨_,o1,HE.out⟩,HI1,by omega⟩
    case measure=>simp [intOf]; omega
  ·have e:k=l.length:=by omega
   subst e;rw [MM] at HO;obtain ⟨av,cv,rfl,_⟩:=HO.zs (H1.out _ HI.out);go_wp2
   go_ret;exact ⟨_,rfl,HO,HI.out,hz⟩
theorem BD (cols:List Int) (lo:Nat) (x:Ex) (u:Value) (b:Nat) (ra:Option Addr) (rc:Nat) (row:List Vl) (n:Int) (W:World) (hb:b<W.heap.size) (h0:W.cell? (ah b 0)=some u) (hA:lN cols lo u x W) (hf:dX cols row) (hs:aZ W ra row) :
  Calls prog 130 #[.agg #[.slice ra row.length rc,n],ah b 0] W fun e w'=>e = .returned (.bool (cX x row))∧Below W W w':=by
 obtain ⟨g,cb,rfl,eg,d⟩:=hA;have hal:=aN W (.cells #[.slice ra row.length rc,n] 47);have d:=d row ra rc _ hf (hs.next hal) (aI.of hal);have c0:=(hal.cell (p:=ah b 0) hb).trans h0;generalize cX x row=t at *;go_enter func130,ntmps130;go_wp2_with (go_at_fn g; refine d.mono ?_; rintro e w1 ⟨rfl,hb1⟩)
 go_ret;exact ⟨rfl,chain hal hb1⟩
theorem JR {cols:List Int} {z:List Zp} (h:gN cols z):∀ x ∈ z,x.1.length≤8:=fun x hx=>by
 have:=(h.fit x hx).len
 have:=h.oF
 omega
theorem jb {cols:List Int} {z:List Zp} (h:gN cols z):∀ x ∈ z,gV x.2=true:=fun x hx=>(((cq z).1 h.set).2.1 x hx).2.2
theorem dg {cols:List Int} {z:List Zp} (h:gN cols z):z.length≤400:=((cq z).1 h.set).1
theorem vo (cols:List Int) (x:Ex) (ca:Option Addr) (ccap:Nat) (xa:Option Addr) (xcap:Nat) (a:Option Addr) (cap:Nat) (l:List Zp) (w:World) (hc:bf w w ca cols) (hk:aU w w xa x.ks) (h:aK w a l) :
  Calls prog 92 #[.slice ca cols.length ccap,fN x.k x.v x.c xa x.ks.length xcap,.slice a l.length cap] w fun e w'=>∃ v,e = .returned (.tuple #[v,.int .i64 (fU cols x l)])∧eA w w' v (iQ cols x l)∧Below w w w':=by
 have hal:=aN w (.cells (hJ x xa xcap) 27);have hk':=(aU.next hal (Mx _) hk).up hal.size;have hc':=(hc.next hal (Mx _)).up hal.size;by_cases h1:cH cols x=0
 ·have con:=vD cols x ca ccap xa xcap _ hk' hc' h1;have H1:=aB h1;clear h1;have HE:Hid (fU cols x l=if bV cols l≠0 then bV cols l else 0):=by
   show fU cols x l=_;unfold fU;rw [H1.out,if_neg (by simp)]
  generalize hfz:iQ cols x l=fz;generalize hfe:fU cols x l=fe;have HZ:=aB hfz;have HF:=aB hfe;clear hfz hfe;go_enter func92,ntmps92;go_wp2_with fail
  generalize w.alloc _=w1 at *;refine con.mono ?_;rintro e w2 ⟨u,rfl,hC2,hb2⟩;clear con;have hA:=chain hal hb2;have hC2:=hC2.down hal.size;obtain ⟨ug,ucb,rfl⟩:∃ g cb,u = .func (.func g) #[] cb:=by obtain ⟨g,cb,e,_⟩:=hC2; exact ⟨g,cb,e⟩
  have hal3:=aN w2 (.cells #[.func (.func ug) #[] ucb] 147);have hA3:=chain hA hal3;have con:=hU cols ca ccap a cap l _ ((hc.next hA3 (Mx _)).up hA3.size) (h.next hA3);have c3:(w2.alloc (.cells #[.func (.func ug) #[] ucb] 147)).cell? (ah w2 0)=some (.func (.func ug) #[] ucb):=by simp
  have hC3:=hC2.next (aI.of hal3);have z3:(w2.alloc (.cells #[.func (.func ug) #[] ucb] 147)).heap.size=w2.heap.size+1:=by simp
  clear hk' hc';by_cases h2:bV cols l=0
  ·have hz:=(gj cols l).1 h2;rw [h2] at con;have H2:=aB h2;clear h2;have e0:fe=0:=by rw [← HF.out,HE.out,H2.out]; rfl
   have e1:fz=canon (fB x l):=by rw [← HZ.out]; unfold iQ; rw [if_pos (by rw [HE.out,H2.out]; rfl)]
   have HN:=aB e0;have HV:=aB e1;clear e0 e1;go_wp2_with fail
   generalize w2.alloc (.cells #[.func (.func ug) #[] ucb] 147)=w3 at *;refine bC con fun w4 hb4=>?_;clear con;have hA4:=chain hA3 hb4;have c4:=(hb4.cell (p:=ah w2 0) (by show w2.heap.size<_; omega)).trans c3;have hC4:=hC3.next (aI.of hb4);have zs4:=h.next hA4;have z4:=hb4.size;have hl4:=dg hz;go_wp2_with fail
   refine (qf 130 #[ah w2 0] (fun p=>cX x p.1) a cap l w4 w4 (fun W=>Below w4 w4 W) zs4 ag (enters_of func130 aG rfl) (Mz _ _) (fun _ h=>h) (fun _ _ h k=>h.trans k) ?_).mono ?_
   ·intro y hy ra rc W hW hs _;refine (BD cols w x _ w2 ra rc y.1 y.2 W (by have:=hW.size; omega) ((hW.cell (p:=ah w2 0) (by show w2.heap.size<_; omega)).trans c4) (hC4.next (aI.of hW)) (hz.fit y hy) (hs.next hW)).mono ?_;rintro e w' ⟨rfl,hb⟩;exact ⟨rfl,chain hW hb,aI.of hb⟩
   rintro e w5 ⟨v5,rfl,O5,hb5,_⟩;obtain ⟨a5,c5,rfl,zs5,_⟩:=O5.zs hb5;have hA5:=chain hA4 hb5;have hfl:l.filter (fun p=>cX x p.1)=fB x l:=rfl;rw [hfl] at zs5;have hsub:∀ y ∈ fB x l,y ∈ l:=fun y hy=>(List.mem_filter.1 hy).1
   have hfn:(fB x l).length≤400:=MO (Nn _ _) hl4;have hg0:aR (fB x l)=0:=yj hz.set _;have con:=eU a5 c5 (fB x l) w5 zs5 ag (fun y hy=>oA (jb hz y (hsub y hy))) (fun y hy=>JR hz y (hsub y hy));have hgz:bh (fB x l)=fz:=by rw [HV.out]; unfold bh; rw [if_pos hg0]
   rw [hg0,hgz] at con;clear hg0 hgz hC2 hC3 hC4 c3 c4 O5;rw [hfl];go_wp2_with fail
   refine con.mono ?_;rintro e w6 ⟨v6,rfl,O6,hb6⟩;have O6':=O6.mono hA5.size;obtain ⟨a6,c6,rfl,_⟩:=O6.zs;go_wp2
   exact MA (v:=.tuple #[.slice a6 fz.length c6,aD]) (by simp [results,results92,go_sem]) rfl ⟨_,by rw [HN.out],O6',chain hA5 hb6⟩
  ·have e0:fe=bV cols l:=by rw [← HF.out,HE.out,if_pos h2]
   have e1:fz = []:=by rw [← HZ.out]; unfold iQ; rw [HE.out,if_pos h2,if_neg h2]
   have HN:=aB e0;have HV:=aB e1;have hne:(bV cols l != 0)=true:=by simpa using h2
   clear e0 e1;generalize bV cols l=t at *;go_wp2_with fail
   generalize w2.alloc _=w3 at *;refine bC con fun w4 hb4=>?_;clear con;go_wp2
   exact MA (v:=.tuple #[bX,t]) (by simp [results,results92,go_sem]) rfl ⟨_,by rw [HN.out],by rw [HV.out]; exact ed _ _,chain hA3 hb4⟩
 ·have con:=rK cols x ca ccap xa xcap _ hk' hc' h1;have e0:fU cols x l=cH cols x:=by unfold fU; rw [if_pos h1]
  have e1:iQ cols x l = []:=by unfold iQ; rw [e0,if_neg h1]
  rw [e0,e1];have hne:(cH cols x != 0)=true:=by simpa using h1
  generalize cH cols x=t at *;clear e0 e1;go_enter func92,ntmps92;go_wp2_with fail
  generalize w.alloc _=w1 at *;refine bC con fun w2 hb2=>?_;have hA:=chain hal hb2;have hal3:=aN w2 (.cells #[.nilFunc] 147);clear con;go_wp2
  exact bJ rfl rfl ⟨_,rfl,ed _ _,chain hA hal3⟩
end Go.Proofs.YtoefpglknaiaeaaGreat
