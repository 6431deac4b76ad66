import Derived.Test.YtoefpglknaiaeaaGreatMZ12
set_option maxHeartbeats 16000000
set_option maxRecDepth 100000
namespace Go.Proofs.YtoefpglknaiaeaaGreat
open Go.RowKit Go.Lib Go.Shelf _root_.Go.Proofs.Tryz
def C1 (lo:Nat) (u:Value) (T:List Wp→Vl) (w:World):Prop :=
 ∃ g cb,u = .func (.func g) #[] cb∧(∀ args w,(callFunc g args).run prog w = .ok (.enter g args) w) ∧
  ∀ (l:List Wp) (a:Option Addr) (cap:Nat) (W:World),JV l→0<l.length→kV W a l→aI lo w W →
   Calls prog g (#[.slice a l.length cap] ++ cb) W fun e w'=>e = .returned (dV (T l))∧Below W W w'
theorem C1.next {lo:Nat} {u:Value} {T:List Wp→Vl} {w w1:World} (h:C1 lo u T w) (hb:aI lo w w1):C1 lo u T w1:=by
 obtain ⟨g,cb,e,eg,hd⟩:=h;exact ⟨g,cb,e,eg,fun l a cap W hk h0 hs hW=>hd l a cap W hk h0 hs (hb.trans hW)⟩
def kA (T:List Wp→Vl) (l:List Wp):Vl:=if l.length=0 then (1,0,⟨#[]⟩) else T l
theorem Ap (lo:Nat) (ut:Value) (T:List Wp→Vl) (tb:Nat) (a:Option Addr) (cap:Nat) (l:List Wp) (W:World) (c0:W.cell? (ah tb 0)=some ut) (hT:C1 lo ut T W) (hk:JV l) (h:kV W a l) :
  Calls prog 239 #[.slice a l.length cap,ah tb 0] W fun e w'=>e = .returned (dV (kA T l))∧Below W W w':=by
 obtain ⟨hal,q0⟩:=iV W #[aD,aD,()] 24
 have ends:∀ w2:World,Below (W.alloc (.cells #[aD,aD,()] 24)).heap.size (W.alloc (.cells #[aD,aD,()] 24)) w2→(w2.cell? (ah W 0)=some (.int .i64 0)∧w2.cell? (ah W 1)=some (.int .i64 0)∧w2.cell? (ah W 2)=some (.string ⟨#[]⟩))∧w2.frozen? (ah W 0)=false∧w2.frozen? (ah W 1)=false∧w2.frozen? (ah W 2)=false:=fun w2 hb2=>by
  have q2:=iX hb2 q0;exact ⟨⟨cell_of (i:=0) q2 rfl,cell_of (i:=1) q2 rfl,cell_of (i:=2) q2 rfl⟩,MB w2 W 0 _ _ q2,MB w2 W 1 _ _ q2,MB w2 W 2 _ _ q2⟩
 have HEn:=aB ends;have d:=(hal.cell (p:=ah tb 0) (ML _ _ c0)).trans c0;clear ends;by_cases h0:l.length=0
 ·have e:kA T l=(1,0,⟨#[]⟩):=by unfold kA; rw [if_pos h0]
  rw [e,h0];unfold dV;clear e d hT;go_enter func239,ntmps239;go_wp2_with fail
  generalize W.alloc _=w0 at *;refine bC (eI w0) fun w2 hb2=>?_;obtain ⟨⟨d0,d1,d2⟩,f0,f1,f2⟩:=HEn.out w2 hb2;have hA2:=chain hal hb2;dsimp only;go_wp2
  exact MA (v:=.agg #[(1:Int),aD,()]) (by simp [results,results239,go_sem,d0,d1,d2]) rfl ⟨rfl,((hA2.setCell (p:=ah W 0) (Mx _) _).setCell (p:=ah W 1) (Mx _) _).setCell (p:=ah W 2) (Mx _) _⟩
 ·have e:kA T l=T l:=by unfold kA; rw [if_neg h0]
  rw [e];obtain ⟨gt,ct,rfl,egt,dt⟩:=hT;have con:=dt l a cap _ hk ag (h.next hal) (aI.of hal);have hn:¬ (l.length:Int)=0:=by omega
  have hnb:((l.length:Int) == 0)=false:=by rw [beq_eq_false_iff_ne]; exact hn
  generalize T l=res at *;unfold dV at con ⊢;clear e dt h0;go_enter func239,ntmps239;go_wp2_with fail
  generalize W.alloc _=w0 at *;go_wp2_with (go_at_fn gt; refine con.mono ?_; rintro e w2 ⟨rfl,hb2⟩; obtain ⟨⟨d0,d1,d2⟩,f0,f1,f2⟩:=HEn.out w2 hb2; have hA2:=chain hal hb2)
  exact MA (v:=.agg #[res.1,res.2.1,res.2.2]) (by simp [results,results239,go_sem,d0,d1,d2]) rfl ⟨rfl,((hA2.setCell (p:=ah W 0) (Mx _) _).setCell (p:=ah W 1) (Mx _) _).setCell (p:=ah W 2) (Mx _) _⟩
theorem ql (u:Value) (T:List Wp→Vl) (w:World) (hT:C1 w u T w) :
  Calls prog 208 #[u] w fun e w'=>∃ v,e = .returned v∧qY w v (kA T) w'∧Below w w w':=by
 have hT':=hT;obtain ⟨gt,ct,rfl,_,_⟩:=hT';obtain ⟨hal,q0⟩:=iV w #[.func (.func gt) #[] ct] 199;have fin:qY w (.func (.func 239) #[] #[ah w 0]) (kA T) (w.alloc (.cells #[.func (.func gt) #[] ct] 199)) :=
  ⟨239,_,rfl,enters_of func239 aG rfl,fun l a cap W hk hs hW=>Ap w _ T w a cap l W ((hW.cell (p:=ah w 0) (Mx _) (an q0)).trans (cell_of (i:=0) q0 rfl)) ((hT.next (aI.of hal)).next hW) hk hs⟩
 have HF:=aB fin;clear fin hT;go_enter func208,ntmps208;go_wp2
 go_ret;exact ⟨_,rfl,HF.out,hal⟩
def qG (g:Nat) (T:List Wp→Vl):Prop:=∀ (l:List Wp) (a:Option Addr) (cap:Nat) (W:World),JV l→0<l.length→kV W a l→Calls prog g #[.slice a l.length cap] W fun e w'=>e = .returned (dV (T l))∧Below W W w'
theorem qG.fn {g:Nat} {T:List Wp→Vl} (h:qG g T) (eg:∀ args w,(callFunc g args).run prog w = .ok (.enter g args) w) (lo:Nat) (w:World):C1 lo (.func (.func g) #[] #[]) T w :=
 ⟨g,#[],rfl,eg,fun l a cap W hk h0 hs _=>by simpa using h l a cap W hk h0 hs⟩
theorem CQ (h:qG 209 (eQ 3)):iK 3:=by
 intro w;have eT:kA (eQ 3)=eQ 3:=by
  funext l
  unfold kA
  split
  ·rename_i h0
   have:l = []:=MH h0;subst this;simp [eQ,CG]
  ·rfl
 have con:=ql (.func (.func 209) #[] #[]) (eQ 3) w (h.fn (enters_of func209 aG rfl) _ _);rw [eT] at con;go_enter func174,ntmps174;go_wp2_with fail
 refine con.mono ?_;rintro e w1 ⟨v,rfl,hv,hb⟩;clear con;obtain ⟨g,cb,rfl⟩:∃ g cb,v = .func (.func g) #[] cb:=by obtain ⟨g,cb,e,_⟩:=hv; exact ⟨g,cb,e⟩
 dsimp only;go_wp2
 go_ret;exact ⟨_,rfl,hv,hb⟩
theorem Du (h:qG 210 (eQ 4)):iK 4:=by
 intro w;have eT:kA (eQ 4)=eQ 4:=by
  funext l
  unfold kA
  split
  ·rename_i h0
   have:l = []:=MH h0;subst this;simp [eQ,BJ]
  ·rfl
 have con:=ql (.func (.func 210) #[] #[]) (eQ 4) w (h.fn (enters_of func210 aG rfl) _ _);rw [eT] at con;go_enter func174,ntmps174;go_wp2_with fail
 refine con.mono ?_;rintro e w1 ⟨v,rfl,hv,hb⟩;clear con;obtain ⟨g,cb,rfl⟩:∃ g cb,v = .func (.func g) #[] cb:=by obtain ⟨g,cb,e,_⟩:=hv; exact ⟨g,cb,e⟩
 dsimp only;go_wp2
 go_ret;exact ⟨_,rfl,hv,hb⟩
theorem CS (h:qG 211 (eQ 5)):iK 5:=by
 intro w;have eT:kA (eQ 5)=eQ 5:=by
  funext l
  unfold kA
  split
  ·rename_i h0
   have:l = []:=MH h0;subst this;simp [eQ,BU]
  ·rfl
 have con:=ql (.func (.func 211) #[] #[]) (eQ 5) w (h.fn (enters_of func211 aG rfl) _ _);rw [eT] at con;go_enter func174,ntmps174;go_wp2_with fail
 refine con.mono ?_;rintro e w1 ⟨v,rfl,hv,hb⟩;clear con;obtain ⟨g,cb,rfl⟩:∃ g cb,v = .func (.func g) #[] cb:=by obtain ⟨g,cb,e,_⟩:=hv; exact ⟨g,cb,e⟩
 dsimp only;go_wp2
 go_ret;exact ⟨_,rfl,hv,hb⟩
theorem tF (x y:Wp) (w:World):Calls prog 242 #[.agg #[x.1.1,x.1.2.1,x.1.2.2,x.2],.agg #[y.1.1,y.1.2.1,y.1.2.2,y.2]] w fun e w'=>e = .returned (.int .i64 (cR x.1.1 x.1.2.1 x.1.2.2 y.1.1 y.1.2.1 y.1.2.2))∧Below w w w':=by
 go_enter func242,ntmps242;go_wp2_with fail
 refine bC (mh _ _ _ _ _ _ _) fun w1 hb1=>?_;dsimp only;go_wp2
 go_ret;exact ⟨rfl,chain ((aN ..).alloc (by simp) _) hb1⟩
theorem BY (a b c d:Value) (w:World):(Instr.field 234 (.agg #[a,b,c,d]) 0).run prog w = .ok (.agg #[a,b,c]) w:=by kernel_rfl
structure gU (W:World) (b:Nat) (p:Wp):Prop where
 c0:W.cell? (ah b 0)=some (.int .i64 p.1.1)
 c1:W.cell? (ah b 1)=some (.int .i64 p.1.2.1)
 c2:W.cell? (ah b 2)=some (.string p.1.2.2)
 c3:W.cell? (ah b 3)=some (.int .i64 p.2)
 f:∀ i,W.frozen? (ah b i)=false
 lt:b<W.heap.size
theorem gU.next {W w1:World} {b:Nat} {p:Wp} (h:gU W b p) (hb:Below W W w1):gU w1 b p :=
 ⟨(hb.cell (p:=ah b 0) h.lt).trans h.c0,(hb.cell (p:=ah b 1) h.lt).trans h.c1,(hb.cell (p:=ah b 2) h.lt).trans h.c2,(hb.cell (p:=ah b 3) h.lt).trans h.c3,fun i=>(hb.frozen (p:=ah b i) h.lt).trans (h.f i),My h.lt hb.size⟩
theorem gU.new (W:World) (p:Wp) (T:TypeId):gU (W.alloc (.cells #[p.1.1,p.1.2.1,p.1.2.2,p.2] T)) W p:=by
 have q:=bq W #[p.1.1,p.1.2.1,p.1.2.2,p.2] T;exact ⟨cell_of (i:=0) q rfl,cell_of (i:=1) q rfl,cell_of (i:=2) q rfl,cell_of (i:=3) q rfl,fun i=>MB _ W i _ _ q,an q⟩
theorem gU.put {W:World} {b:Nat} {p:Wp} (h:gU W b p) (u:Wp):gU ((((W.setCell (ah b 0) u.1.1).setCell (ah b 1) u.1.2.1).setCell (ah b 2) u.1.2.2).setCell (ah b 3) u.2) b u:=by
 refine ⟨?_,?_,?_,?_,fun i=>by rw [Na,Na,Na,Na]; exact h.f i,by simpa using h.lt⟩
 ·simp [go_sem,h.c0]
 ·simp [go_sem,h.c1]
 ·simp [go_sem,h.c2]
 ·simp [go_sem,h.c3]
theorem gU.Fu {W:World} {b:Nat} {p:Wp} (h:gU W b p) (g:Nat) (u:Wp) (hn:g≠b):gU ((((W.setCell (ah g 0) u.1.1).setCell (ah g 1) u.1.2.1).setCell (ah g 2) u.1.2.2).setCell (ah g 3) u.2) b p:=by
 have key:∀ (X:World) (o o':Nat) (v:Value),(X.setCell (ah g o') v).cell? (ah b o)=X.cell? (ah b o):=fun X o o' v=>MN _ _ _ _ (by intro e; injection e with e; exact hn e)
 refine ⟨?_,?_,?_,?_,fun i=>by rw [Na,Na,Na,Na]; exact h.f i,by simpa using h.lt⟩
 ·rw [key,key,key,key]; exact h.c0
 ·rw [key,key,key,key]; exact h.c1
 ·rw [key,key,key,key]; exact h.c2
 ·rw [key,key,key,key]; exact h.c3
def lU:List Wp→Wp
 | []=>(gX,0)
 | p :: r=>r.foldl (fun m x=>if dP x.1 m.1<0 then x else m) p
theorem C0 {l:List Wp} {i:Nat} (h0:0<i) (h:i<l.length):lU (l.take (i+1))=if dP l[i].1 (lU (l.take i)).1<0 then l[i] else lU (l.take i):=by
 rw [MJ h]
 match l,i,h0,h with
 | p :: r,i+1,_,h =>
  simp only [List.take_succ_cons,Nu,lU,Oi,NA,List.foldl_nil];rfl
theorem GB {l:List Wp} (h:0<l.length):lU (l.take 1)=l[0]:=by
 match l,h with
 | p :: r,_=>rfl
theorem Ga:∀ (l:List Wp),0<l.length→(lU l).1=BJ l
 | p :: r,_=>by
  unfold lU BJ
  have aux:∀ (r:List Wp) (p:Wp),(r.foldl (fun m x=>if dP x.1 m.1<0 then x else m) p).1=r.foldl (fun m x=>if dP x.1 m<0 then x.1 else m) p.1:=by
   intro r
   induction r with
   | nil=>intro p; rfl
   | cons x t ih =>
    intro p;rw [NA,NA,ih];by_cases c:dP x.1 p.1<0
    ·rw [if_pos c,if_pos c]
    ·rw [if_neg c,if_neg c]
  exact aux r p
theorem BQ (g:Nat) (eg:∀ args w,(callFunc g args).run prog w = .ok (.enter g args) w) (hd:∀ (x y:Wp) (W:World),Calls prog g #[.agg #[x.1.1,x.1.2.1,x.1.2.2,x.2],.agg #[y.1.1,y.1.2.1,y.1.2.2,y.2]] W fun e w'=>e = .returned (.int .i64 (cR x.1.1 x.1.2.1 x.1.2.2 y.1.1 y.1.2.1 y.1.2.2))∧Below W W w') (a:Option Addr) (cap:Nat) (l:List Wp) (w:World) (h:kV w a l) (h0:0<l.length) (hl:l.length≤400) :
  Calls prog 241 #[.slice a l.length cap,.func (.func g) #[] #[]] w fun e w'=>e = .returned (.agg #[.int .i64 (lU l).1.1,.int .i64 (lU l).1.2.1,.string (lU l).1.2.2,.int .i64 (lU l).2])∧Below w w w':=by
 have hal:=aN w (.cells #[aD,aD,(),aD] 234);have V0:gU (w.alloc (.cells #[aD,aD,(),aD] 234)) w (gX,0):=gU.new w (gX,0) 234;obtain ⟨b,off,rfl,hbl,c0,c1,c2,c3⟩:=(h.next hal).elem h0;have z0:(w.alloc (.cells #[aD,aD,(),aD] 234)).heap.size > w.heap.size:=by simp
 generalize hres:lU l=res;have HRes:Hid (lU l=res):=hres;clear hres;simp only [Oa,NW] at c0 c1 c2 c3;have hn1:¬ (l.length:Int)<1:=by omega
 have hp:(0:Int)<(l.length:Int):=by omega
 go_enter func241,ntmps241;go_upto_region 3 with fail
 generalize w.alloc (.cells #[.int .i64 0,.int .i64 0,.string ⟨#[]⟩,.int .i64 0] 234)=w0 at *;have hal1:=aa w0 (.cells #[.int .i64 l[0].1.1,.int .i64 l[0].1.2.1,.string l[0].1.2.2,.int .i64 l[0].2] 234);have V1:gU (w0.alloc (.cells #[.int .i64 l[0].1.1,.int .i64 l[0].1.2.1,.string l[0].1.2.2,.int .i64 l[0].2] 234)) w0.heap.size l[0]:=gU.new w0 l[0] 234;have V0':=V0.next hal1;go_upto_region 4 with fail
 clear c0 c1 c2 c3 V0;have hA1:=chain hal hal1;generalize w0.alloc (.cells #[.int .i64 l[0].1.1,.int .i64 l[0].1.2.1,.string l[0].1.2.2,.int .i64 l[0].2] 234)=w1 at *;go_wp2_with fail
 go_loopw [6] (fun i wr=>∃ (k:Nat) (mv:Wp),0<k∧k≤l.length∧i = .int .i64 k∧gU wr w0 mv∧gU wr w (gX,0)∧Hid (mv=lU (l.take k))∧Below w w wr) (fun i _=>l.length - (intOf i).toNat)
 case atStart=>exact ⟨1,l[0],by omega,by omega,rfl,V1,V0',(GB h0).symm,hA1⟩
 case round =>
  clear V1 V0' hA1 hal1;obtain ⟨k,mv,hk0,hk,rfl,VM,VR,HM,hb⟩:=hrel;by_cases hlt:k<l.length
  ·obtain ⟨b',off',e',hbl',c0,c1,c2,c3⟩:=(h.next hb).elem hlt;have HT:=aB (C0 hk0 hlt);injection e' with e'
   injection e' with e1 e2 _
   subst e1 e2;have k0:(0:Int)≤(k:Int):=by omega
   have k1:(k:Int)<(l.length:Int):=by omega
   clear c0 c1 c2 c3;have hCC:∀ W W':World,(kV W (some (ah b off)) l∧gU W w0 mv)→Below W W W'→(kV W' (some (ah b off)) l∧gU W' w0 mv):=fun W W' h hb=>⟨h.1.next hb,h.2.next hb⟩
   have hdr:Below wr wr wr.drew:=(Mz _ _).drew;have CW:=hCC _ _ ⟨h.next hb,VM⟩ hdr;go_upto_region 7 with fail
   refine aP (fun W=>(kV W (some (ah b off)) l∧gU W w0 mv)) aG ?_;refine bB hCC 20 0 (.func (.func g) #[] #[]) (fun n hn=>?_) CW ?_
   ·go_simp
   simp only [pX];refine bB hCC 21 1 (.slice (some (ah b off)) l.length cap) (fun n hn=>?_) CW ?_
   ·go_simp
   simp only [pX];refine bB hCC 22 2 (.int .i64 (k:Int)) (fun n hn=>?_) CW ?_
   ·go_simp
   simp only [pX];refine bB hCC 23 3 (.pointer (some ⟨b,off+k*4,none⟩)) (fun n hn=>?_) CW ?_
   ·go_simp
   simp only [pX];refine bB hCC 24 4 (.agg #[.int .i64 l[k].1.1,.int .i64 l[k].1.2.1,.string l[k].1.2.2,.int .i64 l[k].2]) (fun n hn=>?_) CW ?_
   ·obtain ⟨b2,off2,e2,_,d0,d1,d2,d3⟩:=hn.1.elem hlt;injection e2 with e2
    injection e2 with e21 e22 _
    subst e21 e22;go_simp
   simp only [Act.put,pA,pB,pC];refine bB hCC 25 5 (.agg #[mv.1.1,mv.1.2.1,mv.1.2.2,mv.2]) (fun n hn=>?_) CW ?_
   ·obtain ⟨n0,n1,n2,n3,_,_⟩:=hn.2;go_simp
   simp only [Act.put,pA,pB,pC];refine gp 6 aG fun w3 hb3=>?_
   have CW3:=hCC _ _ CW hb3;have con:=hd l[k] mv w3;generalize hcm:cR l[k].1.1 l[k].1.2.1 l[k].1.2.2 mv.1.1 mv.1.2.1 mv.1.2.2=cm at con;have HCm:Hid (dP l[k].1 mv.1=cm):=hcm;clear hcm;refine wpOp_step rfl (fun K hK=>?_);go_simp
   first | (refine con.mono ?_) | (go_at_fn g; refine con.mono ?_)
   rintro e w4 ⟨rfl,hb4⟩;clear con;have CW4:=hCC _ _ CW3 hb4;refine hK _ _ ⟨CW4,?_⟩;clear hK K CW3;refine bB hCC 27 7 (.bool (decide (cm<0))) (fun n hn=>?_) CW4 ?_
   ·go_simp
   simp only [Act.put,pA,pB,pC];refine cA aG ?_;intro w7 hb7;have D7:=chain hdr (chain hb3 (chain hb4 hb7));have hB7:=chain hb D7;obtain ⟨S7,VM7⟩:=hCC _ _ CW4 hb7;have VR7:=VR.next D7;clear CW CW4 hCC hb3 hb4 hb7 VM VR;by_cases hc:cm<0
   ·have hg:decide (cm<0)=true:=decide_eq_true hc;rw [hg];have HM':Hid (l[k]=lU (l.take (k+1))):=by show _=_; rw [HT.out,← HM.out,HCm.out,if_pos hc]
    obtain ⟨b2,off2,e2,_,d0,d1,d2,d3⟩:=S7.elem hlt;injection e2 with e2
    injection e2 with e21 e22 _
    subst e21 e22;have VS:=VM7.put l[k];have VRS:=VR7.Fu w0 l[k] ag;obtain ⟨n0,n1,n2,n3,nf,nl⟩:=VM7;have nf0:=nf 0;have nf1:=nf 1;have nf2:=nf 2;have nf3:=nf 3;clear hc HM D7;go_wp2
    go_roundw
    case rel=>exact ⟨k+1,l[k],by omega,by omega,by go_num,VS,VRS,HM',(((hB7.setCell (p:=ah w0 0) (by show _≤w0.heap.size; omega) _).setCell (p:=ah w0 1) (by show _≤w0.heap.size; omega) _).setCell (p:=ah w0 2) (by show _≤w0.heap.size; omega) _).setCell (p:=ah w0 3) (by show _≤w0.heap.size; omega) _⟩
    case measure=>simp [intOf]; omega
   ·have hg:decide (cm<0)=false:=decide_eq_false hc;rw [hg];have HM':Hid (mv=lU (l.take (k+1))):=by show _=_; rw [HT.out,← HM.out,HCm.out,if_neg hc]
    clear hc HM D7 S7;go_wp2
    go_roundw
    case rel=>exact ⟨k+1,mv,by omega,by omega,by go_num,VM7,VR7,HM',hB7⟩
    case measure=>simp [intOf]; omega
  ·have e:k=l.length:=by omega
   subst e;have er:mv=res:=by rw [HM.out,MM,HRes.out]
   subst er;obtain ⟨m0,m1,m2,m3,_,_⟩:=VM;have VS:=VR.put mv;obtain ⟨n0,n1,n2,n3,nf,nl⟩:=VR;have nf0:=nf 0;have nf1:=nf 1;have nf2:=nf 2;have nf3:=nf 3;obtain ⟨s0,s1,s2,s3,_,_⟩:=VS;clear HM;go_wp2
   exact MA (v:=.agg #[.int .i64 mv.1.1,.int .i64 mv.1.2.1,.string mv.1.2.2,.int .i64 mv.2]) (by simp [results,results241,go_sem,s0,s1,s2,s3]) rfl ⟨rfl,(((hb.setCell (p:=⟨w.heap.size,0,none⟩) (Mx _) _).setCell (p:=⟨w.heap.size,1,none⟩) (Mx _) _).setCell (p:=⟨w.heap.size,2,none⟩) (Mx _) _).setCell (p:=⟨w.heap.size,3,none⟩) (Mx _) _⟩
def lV:List Wp→Wp
 | []=>(gX,0)
 | p :: r=>r.foldl (fun m x=>if 0<dP x.1 m.1 then x else m) p
theorem El {l:List Wp} {i:Nat} (h0:0<i) (h:i<l.length):lV (l.take (i+1))=if 0<dP l[i].1 (lV (l.take i)).1 then l[i] else lV (l.take i):=by
 rw [MJ h]
 match l,i,h0,h with
 | p :: r,i+1,_,h =>
  simp only [List.take_succ_cons,Nu,lV,Oi,NA,List.foldl_nil];rfl
theorem FR {l:List Wp} (h:0<l.length):lV (l.take 1)=l[0]:=by
 match l,h with
 | p :: r,_=>rfl
theorem Iu:∀ (l:List Wp),0<l.length→(lV l).1=BU l
 | p :: r,_=>by
  unfold lV BU
  have aux:∀ (r:List Wp) (p:Wp),(r.foldl (fun m x=>if 0<dP x.1 m.1 then x else m) p).1=r.foldl (fun m x=>if 0<dP x.1 m then x.1 else m) p.1:=by
   intro r
   induction r with
   | nil=>intro p; rfl
   | cons x t ih =>
    intro p;rw [NA,NA,ih];by_cases c:0<dP x.1 p.1
    ·rw [if_pos c,if_pos c]
    ·rw [if_neg c,if_neg c]
  exact aux r p
theorem As (g:Nat) (eg:∀ args w,(callFunc g args).run prog w = .ok (.enter g args) w) (hd:∀ (x y:Wp) (W:World),Calls prog g #[.agg #[x.1.1,x.1.2.1,x.1.2.2,x.2],.agg #[y.1.1,y.1.2.1,y.1.2.2,y.2]] W fun e w'=>e = .returned (.int .i64 (cR x.1.1 x.1.2.1 x.1.2.2 y.1.1 y.1.2.1 y.1.2.2))∧Below W W w') (a:Option Addr) (cap:Nat) (l:List Wp) (w:World) (h:kV w a l) (h0:0<l.length) (hl:l.length≤400) :
  Calls prog 243 #[.slice a l.length cap,.func (.func g) #[] #[]] w fun e w'=>e = .returned (.agg #[.int .i64 (lV l).1.1,.int .i64 (lV l).1.2.1,.string (lV l).1.2.2,.int .i64 (lV l).2])∧Below w w w':=by
 have hal:=aN w (.cells #[aD,aD,(),aD] 234);have V0:gU (w.alloc (.cells #[aD,aD,(),aD] 234)) w (gX,0):=gU.new w (gX,0) 234;obtain ⟨b,off,rfl,hbl,c0,c1,c2,c3⟩:=(h.next hal).elem h0;have z0:(w.alloc (.cells #[aD,aD,(),aD] 234)).heap.size > w.heap.size:=by simp
 generalize hres:lV l=res;have HRes:Hid (lV l=res):=hres;clear hres;simp only [Oa,NW] at c0 c1 c2 c3;have hn1:¬ (l.length:Int)<1:=by omega
 have hp:(0:Int)<(l.length:Int):=by omega
 go_enter func243,ntmps243;go_upto_region 3 with fail
 generalize w.alloc (.cells #[.int .i64 0,.int .i64 0,.string ⟨#[]⟩,.int .i64 0] 234)=w0 at *;have hal1:=aa w0 (.cells #[.int .i64 l[0].1.1,.int .i64 l[0].1.2.1,.string l[0].1.2.2,.int .i64 l[0].2] 234);have V1:gU (w0.alloc (.cells #[.int .i64 l[0].1.1,.int .i64 l[0].1.2.1,.string l[0].1.2.2,.int .i64 l[0].2] 234)) w0.heap.size l[0]:=gU.new w0 l[0] 234;have V0':=V0.next hal1;go_upto_region 4 with fail
 clear c0 c1 c2 c3 V0;have hA1:=chain hal hal1;generalize w0.alloc (.cells #[.int .i64 l[0].1.1,.int .i64 l[0].1.2.1,.string l[0].1.2.2,.int .i64 l[0].2] 234)=w1 at *;go_wp2_with fail
 go_loopw [6] (fun i wr=>∃ (k:Nat) (mv:Wp),0<k∧k≤l.length∧i = .int .i64 k∧gU wr w0 mv∧gU wr w (gX,0)∧Hid (mv=lV (l.take k))∧Below w w wr) (fun i _=>l.length - (intOf i).toNat)
 case atStart=>exact ⟨1,l[0],by omega,by omega,rfl,V1,V0',(FR h0).symm,hA1⟩
 case round =>
  clear V1 V0' hA1 hal1;obtain ⟨k,mv,hk0,hk,rfl,VM,VR,HM,hb⟩:=hrel;by_cases hlt:k<l.length
  ·obtain ⟨b',off',e',hbl',c0,c1,c2,c3⟩:=(h.next hb).elem hlt;have HT:=aB (El hk0 hlt);injection e' with e'
   injection e' with e1 e2 _
   subst e1 e2;have k0:(0:Int)≤(k:Int):=by omega
   have k1:(k:Int)<(l.length:Int):=by omega
   clear c0 c1 c2 c3;have hCC:∀ W W':World,(kV W (some (ah b off)) l∧gU W w0 mv)→Below W W W'→(kV W' (some (ah b off)) l∧gU W' w0 mv):=fun W W' h hb=>⟨h.1.next hb,h.2.next hb⟩
   have hdr:Below wr wr wr.drew:=(Mz _ _).drew;have CW:=hCC _ _ ⟨h.next hb,VM⟩ hdr;go_upto_region 7 with fail
   refine aP (fun W=>(kV W (some (ah b off)) l∧gU W w0 mv)) aG ?_;refine bB hCC 20 0 (.func (.func g) #[] #[]) (fun n hn=>?_) CW ?_
   ·go_simp
   simp only [pX];refine bB hCC 21 1 (.slice (some (ah b off)) l.length cap) (fun n hn=>?_) CW ?_
   ·go_simp
   simp only [pX];refine bB hCC 22 2 (.int .i64 (k:Int)) (fun n hn=>?_) CW ?_
   ·go_simp
   simp only [pX];refine bB hCC 23 3 (.pointer (some ⟨b,off+k*4,none⟩)) (fun n hn=>?_) CW ?_
   ·go_simp
   simp only [pX];refine bB hCC 24 4 (.agg #[.int .i64 l[k].1.1,.int .i64 l[k].1.2.1,.string l[k].1.2.2,.int .i64 l[k].2]) (fun n hn=>?_) CW ?_
   ·obtain ⟨b2,off2,e2,_,d0,d1,d2,d3⟩:=hn.1.elem hlt;injection e2 with e2
    injection e2 with e21 e22 _
    subst e21 e22;go_simp
   simp only [Act.put,pA,pB,pC];refine bB hCC 25 5 (.agg #[mv.1.1,mv.1.2.1,mv.1.2.2,mv.2]) (fun n hn=>?_) CW ?_
   ·obtain ⟨n0,n1,n2,n3,_,_⟩:=hn.2;go_simp
   simp only [Act.put,pA,pB,pC];refine gp 6 aG fun w3 hb3=>?_
   have CW3:=hCC _ _ CW hb3;have con:=hd l[k] mv w3;generalize hcm:cR l[k].1.1 l[k].1.2.1 l[k].1.2.2 mv.1.1 mv.1.2.1 mv.1.2.2=cm at con;have HCm:Hid (dP l[k].1 mv.1=cm):=hcm;clear hcm;refine wpOp_step rfl (fun K hK=>?_);go_simp
   first | (refine con.mono ?_) | (go_at_fn g; refine con.mono ?_)
   rintro e w4 ⟨rfl,hb4⟩;clear con;have CW4:=hCC _ _ CW3 hb4;refine hK _ _ ⟨CW4,?_⟩;clear hK K CW3;refine bB hCC 27 7 (.bool (decide (0<cm))) (fun n hn=>?_) CW4 ?_
   ·go_simp
   simp only [Act.put,pA,pB,pC];refine cA aG ?_;intro w7 hb7;have D7:=chain hdr (chain hb3 (chain hb4 hb7));have hB7:=chain hb D7;obtain ⟨S7,VM7⟩:=hCC _ _ CW4 hb7;have VR7:=VR.next D7;clear CW CW4 hCC hb3 hb4 hb7 VM VR;by_cases hc:0<cm
   ·have hg:decide (0<cm)=true:=decide_eq_true hc;rw [hg];have HM':Hid (l[k]=lV (l.take (k+1))):=by show _=_; rw [HT.out,← HM.out,HCm.out,if_pos hc]
    obtain ⟨b2,off2,e2,_,d0,d1,d2,d3⟩:=S7.elem hlt;injection e2 with e2
    injection e2 with e21 e22 _
    subst e21 e22;have VS:=VM7.put l[k];have VRS:=VR7.Fu w0 l[k] ag;obtain ⟨n0,n1,n2,n3,nf,nl⟩:=VM7;have nf0:=nf 0;have nf1:=nf 1;have nf2:=nf 2;have nf3:=nf 3;clear hc HM D7;go_wp2
    go_roundw
    case rel=>exact ⟨k+1,l[k],by omega,by omega,by go_num,VS,VRS,HM',(((hB7.setCell (p:=ah w0 0) (by show _≤w0.heap.size; omega) _).setCell (p:=ah w0 1) (by show _≤w0.heap.size; omega) _).setCell (p:=ah w0 2) (by show _≤w0.heap.size; omega) _).setCell (p:=ah w0 3) (by show _≤w0.heap.size; omega) _⟩
    case measure=>simp [intOf]; omega
   ·have hg:decide (0<cm)=false:=decide_eq_false hc;rw [hg];have HM':Hid (mv=lV (l.take (k+1))):=by show _=_; rw [HT.out,← HM.out,HCm.out,if_neg hc]
    clear hc HM D7 S7;go_wp2
    go_roundw
    case rel=>exact ⟨k+1,mv,by omega,by omega,by go_num,VM7,VR7,HM',hB7⟩
    case measure=>simp [intOf]; omega
  ·have e:k=l.length:=by omega
   subst e;have er:mv=res:=by rw [HM.out,MM,HRes.out]
   subst er;obtain ⟨m0,m1,m2,m3,_,_⟩:=VM;have VS:=VR.put mv;obtain ⟨n0,n1,n2,n3,nf,nl⟩:=VR;have nf0:=nf 0;have nf1:=nf 1;have nf2:=nf 2;have nf3:=nf 3;obtain ⟨s0,s1,s2,s3,_,_⟩:=VS;clear HM;go_wp2
   exact MA (v:=.agg #[.int .i64 mv.1.1,.int .i64 mv.1.2.1,.string mv.1.2.2,.int .i64 mv.2]) (by simp [results,results243,go_sem,s0,s1,s2,s3]) rfl ⟨rfl,(((hb.setCell (p:=⟨w.heap.size,0,none⟩) (Mx _) _).setCell (p:=⟨w.heap.size,1,none⟩) (Mx _) _).setCell (p:=⟨w.heap.size,2,none⟩) (Mx _) _).setCell (p:=⟨w.heap.size,3,none⟩) (Mx _) _⟩
theorem Hb:qG 210 (eQ 4):=by
 intro l a cap W hk h0 h;have eT:eQ 4 l=(lU l).1:=by rw [Ga l h0]; simp [eQ]
 rw [eT];obtain ⟨hal,q0⟩:=iV W #[aD,aD,()] 24;have con:=BQ 242 (enters_of func242 aG rfl) tF a cap l _ (h.next hal) h0 hk.len;generalize lU l=res at *;unfold dV;clear eT;go_enter func210,ntmps210;go_wp2_with fail
 generalize W.alloc _=w0 at *;refine bC con fun w2 hb2=>?_;clear con;have q2:=iX hb2 q0;have d0:=cell_of (i:=0) q2 rfl;have d1:=cell_of (i:=1) q2 rfl;have d2:=cell_of (i:=2) q2 rfl;have f0:=MB w2 W 0 _ _ q2;have f1:=MB w2 W 1 _ _ q2
 have f2:=MB w2 W 2 _ _ q2;have hA2:=chain hal hb2;have hfw:=BY res.1.1 res.1.2.1 res.1.2.2 res.2 w2;dsimp only;go_wp2
 exact MA (v:=.agg #[res.1.1,res.1.2.1,res.1.2.2]) (by simp [results,results210,go_sem,d0,d1,d2]) rfl ⟨rfl,((hA2.setCell (p:=ah W 0) (Mx _) _).setCell (p:=ah W 1) (Mx _) _).setCell (p:=ah W 2) (Mx _) _⟩
theorem zq:qG 211 (eQ 5):=by
 intro l a cap W hk h0 h;have eT:eQ 5 l=(lV l).1:=by rw [Iu l h0]; simp [eQ]
 rw [eT];obtain ⟨hal,q0⟩:=iV W #[aD,aD,()] 24;have con:=As 242 (enters_of func242 aG rfl) tF a cap l _ (h.next hal) h0 hk.len;generalize lV l=res at *;unfold dV;clear eT;go_enter func211,ntmps211;go_wp2_with fail
 generalize W.alloc _=w0 at *;refine bC con fun w2 hb2=>?_;clear con;have q2:=iX hb2 q0;have d0:=cell_of (i:=0) q2 rfl;have d1:=cell_of (i:=1) q2 rfl;have d2:=cell_of (i:=2) q2 rfl;have f0:=MB w2 W 0 _ _ q2;have f1:=MB w2 W 1 _ _ q2
 have f2:=MB w2 W 2 _ _ q2;have hA2:=chain hal hb2;have hfw:=BY res.1.1 res.1.2.1 res.1.2.2 res.2 w2;dsimp only;go_wp2
 exact MA (v:=.agg #[res.1.1,res.1.2.1,res.1.2.2]) (by simp [results,results211,go_sem,d0,d1,d2]) rfl ⟨rfl,((hA2.setCell (p:=ah W 0) (Mx _) _).setCell (p:=ah W 1) (Mx _) _).setCell (p:=ah W 2) (Mx _) _⟩
theorem Kd:iK 4:=Du Hb
theorem Kk:iK 5:=CS zq
def rk:List Wp→Int
 | []=>0
 | p :: r=>p.2*(p.1.2.1.tdiv 100000000)+rk r
def rf:List Wp→Int
 | []=>0
 | p :: r=>p.2*(p.1.2.1.tmod 100000000)+rf r
theorem Fm {l:List Wp} {k:Nat} (h:k<l.length):rk (l.take (k+1))=rk (l.take k)+l[k].2*(l[k].1.2.1.tdiv 100000000):=by
 have aux:∀ (l:List Wp) (p:Wp),rk (l ++ [p])=rk l+p.2*(p.1.2.1.tdiv 100000000):=by
  intro l p
  induction l with
  | nil=>simp [rk]
  | cons q r ih=>rw [Nu,rk,rk,ih]; omega
 rw [MJ h,aux]
theorem DN {l:List Wp} {k:Nat} (h:k<l.length):rf (l.take (k+1))=rf (l.take k)+l[k].2*(l[k].1.2.1.tmod 100000000):=by
 have aux:∀ (l:List Wp) (p:Wp),rf (l ++ [p])=rf l+p.2*(p.1.2.1.tmod 100000000):=by
  intro l p
  induction l with
  | nil=>simp [rf]
  | cons q r ih=>rw [Nu,rf,rf,ih]; omega
 rw [MJ h,aux]
theorem JU:∀ l:List Wp,rk l*100000000+rf l=jc l
 | []=>rfl
 | p :: r=>by
  have ih:=JU r
  have e:=Int.mul_tdiv_add_tmod p.1.2.1 100000000
  rw [rk,rf,jc,← ih]
  conv=>rhs; rw [← e]
  rw [Int.mul_add,Int.add_mul,Int.mul_assoc p.2,Int.mul_comm (Int.tdiv _ _) 100000000]
  omega
theorem CC {n:Int} (h:-1000000000000000≤n∧n≤1000000000000000):-10000000≤n.tdiv 100000000∧n.tdiv 100000000≤10000000:=by
 by_cases h0:0≤n
 ·rw [N1 h0]; omega
 ·have e:=Int.neg_tdiv (-n) 100000000;rw [Int.neg_neg] at e;rw [e,N1 ag];omega
theorem BZ {n:Int}:-100000000≤n.tmod 100000000∧n.tmod 100000000≤100000000:=by
 by_cases h0:0≤n
 ·rw [NR h0]; omega
 ·have e:=Int.neg_tmod (-n) 100000000;rw [Int.neg_neg] at e;rw [e,NR ag];omega
theorem Hy {n:Int}:-100000000<n.tmod 100000000∧n.tmod 100000000<100000000:=by
 by_cases h0:0≤n
 ·rw [NR h0]; omega
 ·have e:=Int.neg_tmod (-n) 100000000;rw [Int.neg_neg] at e;rw [e,NR ag];omega
theorem GM {x w B:Int} (h:0≤w∧w≤1000000) (hx:-B≤x∧x≤B) (hB:0≤B):-(1000000*B)≤w*x∧w*x≤1000000*B:=by
 constructor
 ·have h1:=N8 hx.1 h.1;have h2:=N7 h.2 hB;rw [Int.mul_neg] at h1;omega
 ·have h1:w*x≤w*B:=N8 hx.2 h.1;have h2:=N7 h.2 hB;omega
theorem KB:qG 209 (eQ 3):=by
 intro l a cap W hok hl0 h;have eT:eQ 3 l=if kO (jc l)=true then (3,jc l,⟨#[]⟩) else (1,0,⟨#[]⟩):=by
  have:¬ l = []:=by intro e; rw [e] at hl0; simp at hl0
  simp only [eQ,if_true,CG];rw [if_neg this]
 have hl:=hok.len;have HK:Hid (JV l):=hok;generalize hres:eQ 3 l=res;have HRes:Hid (res=if kO (jc l)=true then (3,jc l,⟨#[]⟩) else (1,0,⟨#[]⟩)):=by show _=_; rw [← hres]; exact eT
 clear hok eT hres hl0;have hal0:=aN W (.cells #[aD,aD,()] 24);have q00:=bq W #[aD,aD,()] 24;unfold dV;go_enter func209,ntmps209;go_wp2_with fail
 generalize W.alloc (.cells #[aD,aD,()] 24)=w0 at *;go_loopw [3,4,9] (fun vu vv i wr=>∃ (k:Nat) (u v:Int),k≤l.length∧i = .int .i64 k∧vu = .int .i64 u∧vv = .int .i64 v∧Hid (u=rk (l.take k)∧v=rf (l.take k)) ∧ -(10000000000000*(k:Int))≤u∧u≤10000000000000*(k:Int) ∧ -(100000000000000*(k:Int))≤v∧v≤100000000000000*(k:Int)∧Below w0 w0 wr) (fun _ _ i _=>l.length - (intOf i).toNat)
 case atStart=>exact ⟨0,0,0,MD _,rfl,rfl,rfl,⟨rfl,rfl⟩,by omega,by omega,by omega,by omega,Mz _ _⟩
 case round =>
  obtain ⟨k,u,v,hk,rfl,rfl,rfl,HN,hu0,hu1,hv0,hv1,hb⟩:=hrel;have hA:=chain hal0 hb;by_cases hlt:k<l.length
  ·obtain ⟨b,off,rfl,hbl,c0,c1,c2,c3⟩:=(h.next hA).elem hlt;have hw:=HK.out.wt _ (MC hlt);have hn:=H9 (HK.out.right _ (MC hlt)) (HK.out.num _ (MC hlt));have hal:=aN wr (.cells #[.int .i64 l[k].1.1,.int .i64 l[k].1.2.1,.string l[k].1.2.2,.int .i64 l[k].2] 234);have b1:=GM hw (CC hn) (by decide);have b2:=GM hw (BZ (n:=l[k].1.2.1)) (by decide)
   have HN':Hid (u+l[k].2*(l[k].1.2.1.tdiv 100000000)=rk (l.take (k+1))∧v+l[k].2*(l[k].1.2.1.tmod 100000000)=rf (l.take (k+1))):=⟨by rw [Fm hlt,HN.out.1],by rw [DN hlt,HN.out.2]⟩
   have t1:=CC hn;have t2:=BZ (n:=l[k].1.2.1);have hW1:IntKind.i64.wrap (l[k].2*(l[k].1.2.1.tdiv 100000000))=l[k].2*(l[k].1.2.1.tdiv 100000000):=IntWalk.i64_in _ ⟨by omega,by omega⟩;have hW2:IntKind.i64.wrap (l[k].2*(l[k].1.2.1.tmod 100000000))=l[k].2*(l[k].1.2.1.tmod 100000000):=IntWalk.i64_in _ ⟨by omega,by omega⟩;have hW3:IntKind.i64.wrap (u+l[k].2*(l[k].1.2.1.tdiv 100000000))=u+l[k].2*(l[k].1.2.1.tdiv 100000000):=IntWalk.i64_in _ ⟨by omega,by omega⟩
   have hW4:IntKind.i64.wrap (v+l[k].2*(l[k].1.2.1.tmod 100000000))=v+l[k].2*(l[k].1.2.1.tmod 100000000):=IntWalk.i64_in _ ⟨by omega,by omega⟩;have hW5:IntKind.i64.wrap (l[k].1.2.1.tdiv 100000000)=l[k].1.2.1.tdiv 100000000:=IntWalk.i64_in _ ⟨by omega,by omega⟩;have hW6:IntKind.i64.wrap (l[k].1.2.1.tmod 100000000)=l[k].1.2.1.tmod 100000000:=IntWalk.i64_in _ ⟨by omega,by omega⟩;go_wp2_with fail
   go_roundw
   case rel=>exact ⟨k+1,u+l[k].2*(l[k].1.2.1.tdiv 100000000),v+l[k].2*(l[k].1.2.1.tmod 100000000),by omega,by go_num,rfl,rfl,HN',by omega,by omega,by omega,by omega,chain hb hal⟩
   case measure=>simp [intOf]; omega
  ·have e:k=l.length:=by omega
   subst e;have es:jc l=u*100000000+v:=by
    have:=HN.out;rw [MM] at this;rw [this.1,this.2,JU]
   have ev:=Int.mul_tdiv_add_tmod v 100000000;have vb:=Hy (n:=v);have hn4:(l.length:Int)≤400:=by omega
   generalize hq:v.tdiv 100000000=vq at *;generalize hm:v.tmod 100000000=vm at *;have hs:jc l=(u+vq)*100000000+vm:=by omega
   have hW5:IntKind.i64.wrap vq=vq:=IntWalk.i64_in _ ⟨by omega,by omega⟩;have hW6:IntKind.i64.wrap vm=vm:=IntWalk.i64_in _ ⟨by omega,by omega⟩;have hW7:IntKind.i64.wrap (u+vq)=u+vq:=IntWalk.i64_in _ ⟨by omega,by omega⟩;generalize hu:u+vq=u2 at *;have HS:=aB hs;clear HN es hs ev;by_cases ho:u2 < -10000001∨10000001<u2
   ·have er:res=(1,0,⟨#[]⟩):=by
     rw [HRes.out,HS.out];have:kO (u2*100000000+vm)=false:=by simp [kO]; omega
     rw [this]; rfl
    subst er;clear HRes HS;by_cases ho1:u2 < -10000001;rotate_left;have ho2:10000001<u2:=by omega
    all_goals
     go_wp2_with fail
     refine bC (eI wr) fun w2 hb2=>?_;have q2:=((chain hb hb2).block _ (an q00)).trans q00;have d0:=cell_of (i:=0) q2 rfl;have d1:=cell_of (i:=1) q2 rfl;have d2:=cell_of (i:=2) q2 rfl;have f0:=MB w2 W 0 _ _ q2;have f1:=MB w2 W 1 _ _ q2
     have f2:w2.frozen? (ah W 2)=false:=MB w2 W 2 _ _ q2;have hA2:=chain hA hb2;dsimp only;go_wp2_with fail
     exact MA (v:=.agg #[(1:Int),aD,()]) (by simp [results,results209,go_sem,d0,d1,d2]) rfl ⟨rfl,((hA2.setCell (p:=ah W 0) (Mx _) _).setCell (p:=ah W 1) (Mx _) _).setCell (p:=ah W 2) (Mx _) _⟩
   ·have ho1:¬ u2 < -10000001:=fun h=>ho (.inl h)
    have ho2:¬ 10000001<u2:=fun h=>ho (.inr h)
    have hW8:IntKind.i64.wrap (u2*100000000)=u2*100000000:=IntWalk.i64_in _ ⟨by omega,by omega⟩;have hW9:IntKind.i64.wrap (u2*100000000+vm)=u2*100000000+vm:=IntWalk.i64_in _ ⟨by omega,by omega⟩;have con:Calls prog 240 #[.int .i64 (u2*100000000+vm)] wr fun e w'=>e = .returned (.agg #[res.1,res.2.1,res.2.2])∧Below wr wr w':=by
     rw [HRes.out,HS.out];cases hi:kO (u2*100000000+vm) with
     | true=>exact Bn _ wr hi
     | false=>exact Cg _ wr hi
    clear HRes HS ho;generalize hS:u2*100000000+vm=s at *;go_wp2_with fail
    refine bC con fun w2 hb2=>?_;clear con;have q2:=((chain hb hb2).block _ (an q00)).trans q00;have d0:=cell_of (i:=0) q2 rfl;have d1:=cell_of (i:=1) q2 rfl;have d2:=cell_of (i:=2) q2 rfl;have f0:=MB w2 W 0 _ _ q2;have f1:=MB w2 W 1 _ _ q2
    have f2:=MB w2 W 2 _ _ q2;have hA2:=chain hA hb2;dsimp only;go_wp2_with fail
    exact MA (v:=.agg #[res.1,res.2.1,res.2.2]) (by simp [results,results209,go_sem,d0,d1,d2]) rfl ⟨rfl,((hA2.setCell (p:=ah W 0) (Mx _) _).setCell (p:=ah W 1) (Mx _) _).setCell (p:=ah W 2) (Mx _) _⟩
theorem KZ:iK 3:=CQ KB
theorem vP (k:Int):iK k:=by
 by_cases h3:k=3
 ·subst h3; exact KZ
 by_cases h4:k=4
 ·subst h4; exact Kd
 by_cases h5:k=5
 ·subst h5; exact Kk
 exact DU k h3 h4 h5
end Go.Proofs.YtoefpglknaiaeaaGreat
