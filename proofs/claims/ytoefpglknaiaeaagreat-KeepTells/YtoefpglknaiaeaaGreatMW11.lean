import Derived.Test.YtoefpglknaiaeaaGreatMW10
set_option maxHeartbeats 16000000
set_option maxRecDepth 100000
namespace Go.Proofs.YtoefpglknaiaeaaGreat
open Go.RowKit Go.Lib Go.Shelf _root_.Go.Proofs.Tryz
def rU (p:Zp→Bool):Nat→List Zp→Int
 | _,[]=>-1
 | k,y :: r=>if p y then k else rU p (k+1) r
theorem zH (p:Zp→Bool):∀ (k:Nat) (l:List Zp),decide (0≤rU p k l)=l.any p
 | _,[]=>rfl
 | k,y :: r=>by
  rw [rU,List.any_cons,← zH p (k+1) r]
  cases p y <;> simp
theorem Ei (p:Zp→Bool) {l:List Zp} {k:Nat} (h:k<l.length):rU p k (l.drop k)=if p l[k] then (k:Int) else rU p (k+1) (l.drop (k+1)):=by
 rw [MI h,rU]
theorem Gz (g:Nat) (cb:Array Value) (p:Zp→Bool) (a:Option Addr) (cap:Nat) (l:List Zp) (w0 w:World) (Inv:World→Prop) (h:aK w0 a l) (hl:l.length≤100000)
  (eg:∀ args w,(callFunc g args).run prog w = .ok (.enter g args) w) (hI0:Inv w) (hI1:∀ W,Inv W→Below w0 w0 W)
  (hcall:∀ x ∈ l,∀ (ra:Option Addr) (rc:Nat) (W:World),Inv W→aZ w0 ra x.1→w.heap.size≤W.heap.size→Calls prog g (#[.agg #[.slice ra x.1.length rc,x.2]] ++ cb) W fun e w'=>e = .returned (.bool (p x))∧Inv w'∧w.heap.size≤w'.heap.size) :
  Calls prog 247 #[.slice a l.length cap,.func (.func g) #[] cb] w fun e w'=>e = .returned (.int .i64 (rU p 0 l))∧Inv w'∧w.heap.size≤w'.heap.size:=by
 have HC:=aB hcall;have H1:=aB hI1;clear hcall hI1;generalize hf:rU p 0 l=f;have HF:=aB hf;clear hf;go_enter func247,ntmps247;go_wp2_with fail
 go_loopw [8] (fun i wr=>∃ k:Nat,k≤l.length∧i = .int .i64 k∧Hid (f=rU p k (l.drop k))∧Hid (Inv wr)∧w.heap.size≤wr.heap.size) (fun i _=>l.length - (intOf i).toNat)
 case atStart=>exact ⟨0,MD _,rfl,HF.out.symm,hI0,Mx _⟩
 case round =>
  clear hI0;obtain ⟨k,hk,rfl,HK,HI,hz⟩:=hrel;by_cases hlt:k<l.length
  ·obtain ⟨b,off,rfl,hbl,d1,ar,cr,d0,sr⟩:=h.elem hlt;have hB:=H1.out _ HI.out;have c1:=(hB.cell (p:=⟨b,_,none⟩) hbl).trans d1;have c0:=(hB.cell (p:=⟨b,_,none⟩) hbl).trans d0;have con:=HC.out l[k] (MC hlt) ar cr wr HI.out sr hz;have HD:=aB (Ei p hlt);clear d0 d1 sr;by_cases hp:p l[k]=true
   ·rw [hp] at con;have HP:=aB hp;clear hp;have e:f=(k:Int):=by rw [HK.out,HD.out,HP.out,if_pos rfl]
    go_wp2_with (go_at_fn g; refine con.mono ?_; rintro e w1 ⟨rfl,I1,s1⟩)
    go_ret;exact ⟨by rw [e]; rfl,I1,s1⟩
   ·have hp:p l[k]=false:=by simpa using hp
    rw [hp] at con;have HP:=aB hp;clear hp;have HE:Hid (f=rU p (k+1) (l.drop (k+1))):=by show f=_; rw [HK.out,HD.out,HP.out,if_neg (by decide)]
    go_wp2_with (go_at_fn g; refine con.mono ?_; rintro e w1 ⟨rfl,I1,s1⟩)
    have HI1:=aB I1;clear con I1;go_roundw
    case rel=>exact ⟨k+1,by omega,by go_num,HE,HI1,s1⟩
    case measure=>simp [intOf]; omega
  ·have e:k=l.length:=by omega
   subst e;have e:f = -1:=by rw [HK.out,NY]; rfl
   go_wp2
   go_ret;exact ⟨by rw [e]; rfl,HI.out,hz⟩
theorem yn (g:Nat) (cb:Array Value) (p:Zp→Bool) (a:Option Addr) (cap:Nat) (l:List Zp) (w0 w:World) (Inv:World→Prop) (h:aK w0 a l) (hl:l.length≤100000)
  (eg:∀ args w,(callFunc g args).run prog w = .ok (.enter g args) w) (hI0:Inv w) (hI1:∀ W,Inv W→Below w0 w0 W)
  (hcall:∀ x ∈ l,∀ (ra:Option Addr) (rc:Nat) (W:World),Inv W→aZ w0 ra x.1→w.heap.size≤W.heap.size→Calls prog g (#[.agg #[.slice ra x.1.length rc,x.2]] ++ cb) W fun e w'=>e = .returned (.bool (p x))∧Inv w'∧w.heap.size≤w'.heap.size) :
  Calls prog 215 #[.slice a l.length cap,.func (.func g) #[] cb] w fun e w'=>e = .returned (.bool (l.any p))∧Inv w'∧w.heap.size≤w'.heap.size:=by
 have con:=Gz g cb p a cap l w0 w Inv h hl eg hI0 hI1 hcall;have ha:=zH p 0 l;generalize rU p 0 l=f at *;rw [← ha];clear hcall hI1 hI0 ha;go_enter func215,ntmps215;go_wp2_with fail
 refine con.mono ?_;rintro e w1 ⟨rfl,I1,s1⟩;have H1:=aB I1;clear con I1;go_wp2
 go_ret;exact ⟨rfl,H1.out,s1⟩
theorem sX (ra:Option Addr) (n rc:Nat) (x:Int) (w:World) :
  Calls prog 178 #[.agg #[.slice ra n rc,x]] w fun e w'=>e = .returned (.bool (decide (0<x)))∧Below w w w':=by
 go_enter func178,ntmps178;go_wp2
 go_ret;exact ⟨rfl,aN ..⟩
theorem ye (cols:List Int) (lo:Nat) (x:Ex) (wc wp w0:World) (R rv hv:Nat) (u:Value) (hn:pO wp R rv) (hv0:hv<R) (hc:wp.cell? (ah hv 0)=some u) (hC:lN cols lo u x wc) (hcR:wc.heap.size≤R) (hcp:aI lo wc wp) (h0:w0.heap.size≤R) (h0p:Below w0 w0 wp)
  (a b:Option Addr) (ca cb:Nat) (l r:List Zp) (pb lb:Nat) (pa qa:Option Addr) (pc qc:Nat) (y q:Zp) (W:World) (hI:fc wp R rv W) (sy:aZ w0 pa y.1) (sq:aZ w0 qa q.1) (h8:y.1.length+q.1.length≤8) (hf:dX cols (y.1 ++ q.1))
  (cp:W.heap[pb]? = some (.cells #[.slice a l.length ca,.slice b r.length cb,.func (.func 246) #[] #[ah rv 0,ah hv 0]] 170 (0,0))) (cl:W.heap[lb]? = some (.cells #[.slice pa y.1.length pc,y.2] 47 (0,0))) :
  Calls prog 216 #[.agg #[.slice qa q.1.length qc,q.2],ah pb 0,ah lb 0] W fun e w'=>e = .returned (.bool (decide (0<q.2) && cX x (y.1 ++ q.1)))∧fc wp R rv w'∧aI (rv+1) W w':=by
 obtain ⟨h1,q1⟩:=iV W #[.slice qa q.1.length qc,q.2] 47;have p1:=(h1.block pb (an cp)).trans cp;have l1:=(h1.block lb (an cl)).trans cl;have I1:=hI.eO hn hI.size h1;have e1:(W.alloc (.cells #[.slice qa q.1.length qc,q.2] 47)).heap.size=W.heap.size+1:=by simp
 have hrv:=hI.sz hn;generalize hans:(decide (0<q.2) && cX x (y.1 ++ q.1))=ans;have HA:=aB hans;clear hans;go_enter func216,ntmps216;go_wp2_with fail
 generalize W.alloc _=w1 at *;refine bC (sX qa q.1.length qc q.2 w1) fun w2 hb2=>?_;have q2:=iX hb2 q1;have p2:=iX hb2 p1;have l2:=iX hb2 l1;have I2:=I1.eO hn I1.size hb2;have S2:aI (rv+1) W w2:=aI.of (chain h1 hb2);have k0:=cell_of (i:=2) p2 rfl
 have k1:=cell_of (i:=0) l2 rfl;have k2:=cell_of (i:=0) q2 rfl;have con:=zo cols lo x wc wp w0 R rv hv u hn hv0 hc hC hcR hcp h0 h0p pa qa pc qc y.1 q.1 w2 I2 sy sq h8 hf;generalize hhp:cX x (y.1 ++ q.1)=t at *;clear hhp;have HI2:=aB I2;clear q1 p1 l1 I1 q2 p2 l2 I2 hC hI cp cl;dsimp only;by_cases hq:0<q.2
 ·have hd:decide (0<q.2)=true:=by simpa using hq
  rw [hd];have ea:t=ans:=by rw [← HA.out,hd,Bool.true_and]
  subst ea;go_wp2_with fail
  refine con.mono ?_;rintro e w3 ⟨rfl,I3,S3⟩;have HI3:=aB I3;have S4:=S2.trans S3;clear con I3;dsimp only;go_wp2
  go_ret;exact ⟨rfl,HI3.out,S4⟩
 ·have hd:decide (0<q.2)=false:=by simpa using hq
  rw [hd];have ea:ans=false:=by rw [← HA.out,hd,Bool.false_and]
  subst ea;clear con;go_wp2
  go_ret;exact ⟨rfl,HI2.out,S2⟩
theorem oO (cols:List Int) (x:Ex) (w0 wp w:World) (a b:Option Addr) (ca cb:Nat) (l r:List Zp) (v:Value) (R rv:Nat) (hP:dW cols x w0 wp a b ca cb l r v R rv) (hI:fc wp R rv w) (zb:aK w0 b r) (hr:r.length≤400) (pa:Option Addr) (pc:Nat) (y:Zp) (sy:aZ w0 pa y.1) (h8:∀ q ∈ r,y.1.length+q.1.length≤8) (hf:∀ q ∈ r,dX cols (y.1 ++ q.1)) :
  Calls prog 183 #[v,.agg #[.slice pa y.1.length pc,y.2]] w fun e w'=>e = .returned (.bool (fY x r y.1))∧fc wp R rv w'∧aI (rv+1) w w':=by
 obtain ⟨lo,wc,hv,u,rfl,hn,hv0,hc,hC,hcR,hcp,h0,h0p⟩:=hP;have hrv:=hI.sz hn;obtain ⟨h1,p1⟩:=iV w #[.slice a l.length ca,.slice b r.length cb,.func (.func 246) #[] #[ah rv 0,ah hv 0]] 170
 have e1:(w.alloc (.cells #[.slice a l.length ca,.slice b r.length cb,.func (.func 246) #[] #[ah rv 0,ah hv 0]] 170)).heap.size=w.heap.size+1:=by simp
 generalize hans:fY x r y.1=t;have HA:=aB hans;clear hans;go_enter func183,ntmps183;go_wp2_with fail
 generalize w.alloc _=w1 at *;obtain ⟨h2,l2⟩:=iV w1 #[.slice pa y.1.length pc,y.2] 47;have e2:(w1.alloc (.cells #[.slice pa y.1.length pc,y.2] 47)).heap.size=w1.heap.size+1:=by simp
 have p2:=iX h2 p1;generalize w1.alloc _=w2 at *;rw [e1] at l2;have I2:=hI.eO hn hI.size (chain h1 h2);refine (yn 216 #[ah w 0,ah (w+1) 0] (fun q=>decide (0<q.2) && cX x (y.1 ++ q.1)) b cb r w0 w2 (fun W=>fc wp R rv W∧aI (rv+1) w2 W) zb ag (enters_of func216 aG rfl) ⟨I2,aI.refl _ _⟩ (fun W hW=>h0p.trans ((hW.1.below hn).mono h0)) ?_).mono ?_
 ·intro q hq qa qc W hW sq _;refine (ye cols lo x wc wp w0 R rv hv u hn hv0 hc hC hcR hcp h0 h0p a b ca cb l r w (w+1) pa qa pc qc y q W hW.1 sy sq (h8 q hq) (hf q hq) ((hW.2.2 w ag ag).trans p2) ((hW.2.2 (w+1) ag ag).trans l2)).mono ?_;rintro e w' ⟨rfl,I',S'⟩;exact ⟨rfl,⟨I',hW.2.trans S'⟩,by have:=hW.2.1; have:=S'.1; omega⟩
 rintro e w3 ⟨rfl,⟨I3,S3⟩,_⟩;have HI3:=aB I3;have S4:=(aI.of (chain h1 h2)).trans S3;have ha:(r.any fun q=>decide (0<q.2) && cX x (y.1 ++ q.1))=t:=HA.out;rw [ha];clear p1 p2 l2 I2 I3 ha hC hI;dsimp only;go_wp2
 go_ret;exact ⟨rfl,HI3.out,S4⟩
end Go.Proofs.YtoefpglknaiaeaaGreat
namespace Go.Proofs.YtoefpglknaiaeaaGreat
open Go.RowKit Go.Lib Go.Shelf
def FV (w0 W:World) (xs:List Value) (l:List Kp):Prop:=xs.length=l.length*3∧∀ i (hi:i<l.length),∃ ka kc ra rc,xs[i*3]? = some (.slice ka l[i].1.length kc)∧xs[i*3+1]? = some (.slice ra l[i].2.1.length rc)∧xs[i*3+2]? = some (.int .i64 l[i].2.2)∧(aZ W ka l[i].1∧fi W ka)∧aZ w0 ra l[i].2.1
def pG (w0:World) (base:Nat) (W:World) (v:Value) (l:List Kp):Prop:=∃ xs,W.ownsRow base 165 3 v l.length xs∧FV w0 W xs l
theorem pG.nil (w0:World) (base:Nat) (W:World):pG w0 base W bX []:=⟨[],by simpa using M4 _ _ _ _,rfl,fun i hi=>by simp at hi⟩
theorem FV.next {w0 W w1:World} {xs:List Value} {l:List Kp} (h:FV w0 W xs l) (hb:Below W W w1):FV w0 w1 xs l:=by
 obtain ⟨h2,h3⟩:=h;refine ⟨h2,fun i hi=>?_⟩;obtain ⟨ka,kc,ra,rc,e0,e1,e2,⟨e3,e4⟩,e5⟩:=h3 i hi;exact ⟨ka,kc,ra,rc,e0,e1,e2,⟨e3.next hb,e4.next hb⟩,e5⟩
theorem pG.next {w0 W w1:World} {base:Nat} {v:Value} {l:List Kp} (h:pG w0 base W v l) (hb:Below W W w1):pG w0 base w1 v l:=by
 obtain ⟨xs,h1,h2⟩:=h;exact ⟨xs,aL h1 hb,h2.next hb⟩
theorem uY {W w1:World} {base n:Nat} {v:Value} {xs:List Value} {a:Option Addr} {r:List Vl} (h:aZ W a r) (ht:fi W a) (ho:W.ownsRow base 165 3 v n xs) (hg:W.grownBy w1 v.ownBlock):aZ w1 a r∧fi w1 a:=by
 have key:∀ b off,a=some ⟨b,off,none⟩→w1.heap[b]? = W.heap[b]?:=by
  intro b off e;obtain ⟨c,z,h1⟩:=ht b off e;have hlt:=an h1;refine hg.block b hlt ?_;obtain ⟨_,⟨rfl,_⟩ | ⟨g,cap,cur,rfl,_,hh,_⟩⟩:=ho
  ·simp [Value.ownBlock]
  ·simp only [Value.ownBlock];intro e;injection e with e
   subst e;rw [hh] at h1;simp at h1
 refine ⟨⟨h.1,?_⟩,?_⟩
 ·rcases h.2 with h | ⟨b,off,e,hr,hlt⟩
  ·exact .inl h
  ·refine .inr ⟨b,off,e,fun i hi=>?_,My hlt hg.size⟩;have k:=key b off e;obtain ⟨c0,c1,c2⟩:=hr i hi;exact ⟨(MP (a:=⟨b,_,none⟩) k).trans c0,(MP (a:=⟨b,_,none⟩) k).trans c1,(MP (a:=⟨b,_,none⟩) k).trans c2⟩
 ·intro b off e;obtain ⟨c,z,h1⟩:=ht b off e;exact ⟨c,z,(key b off e).trans h1⟩
theorem pG.push {w0 W w1:World} {base:Nat} {v v':Value} {xs:List Value} {l:List Kp} {ka ra:Option Addr} {kc rc:Nat} {x:Kp}
  (ho:W.ownsRow base 165 3 v l.length xs) (he:FV w0 W xs l) (hs:aZ W ka x.1) (ht:fi W ka) (hr:aZ w0 ra x.2.1)
  (ho':w1.ownsRow base 165 3 v' (l.length+1) (xs ++ [.slice ka x.1.length kc,.slice ra x.2.1.length rc,.int .i64 x.2.2])) (hg:W.grownBy w1 v.ownBlock):pG w0 base w1 v' (l ++ [x]):=by
 have lx:=he.1;refine ⟨_,by simpa using ho',by simp [he.1]; omega,?_⟩;intro i hi;by_cases hi':i<l.length
 ·obtain ⟨ka',kc',ra',rc',h1,h2,h3,⟨h4,h5⟩,h6⟩:=he.2 i hi';have g:=uY h4 h5 ho hg;rw [MV hi'];exact ⟨ka',kc',ra',rc',by rw [MT ag,h1],by rw [MT ag,h2],by rw [MT ag,h3],g,h6⟩
 ·have:i=l.length:=by simp at hi; omega
  subst this;have g:=uY hs ht ho hg;refine ⟨ka,kc,ra,rc,?_,?_,?_,?_,?_⟩
  ·rw [MU ag]; simp [lx]
  ·rw [MU ag]; simp [lx]
  ·rw [MU ag]; simp [lx]
  ·simpa using g
  ·simpa using hr
theorem AZ {xs:List Ex} {m:List Zp} {k:Nat} (h:k<m.length):((m.take (k+1)).map fun p=>(bp xs p.1,p))=((m.take k).map fun p=>(bp xs p.1,p)) ++ [(bp xs m[k].1,m[k])]:=by
 rw [MJ h,Nc]; rfl
theorem LC:(Tryz.prog.info? 165).map (fun i=>(i.zero,i.size,i.bytes))=some (some (.agg #[bX,bX,aD]),3,56):=by kernel_rfl
open _root_.Go.Proofs.Tryz
theorem pG.arr {w0 W:World} {base:Nat} {v:Value} {l:List Kp} (h:pG w0 base W v l) (hb:Below w0 w0 W) (hbs:w0.heap.size≤base):(l = []∧v = .slice none 0 0)∨∃ (g cap:Nat) (d:Array (Kg W g)),v = .slice (some (ah g 0)) l.length cap∧base≤g∧g<W.heap.size∧d.size=l.length∧d.toList.map (KH W g)=l∧Go.Sort.HoldsK (nV W g) 3 W g 0 d:=by
 obtain ⟨xs,h1,h2,h3⟩:=h;have h1':=h1;obtain ⟨hx,⟨rfl,h0⟩ | ⟨g,cap,cur,rfl,hg,hh,hn,hc,hs,ht⟩⟩:=h1
 ·exact .inl ⟨MH h0,rfl⟩
 ·right;have offK:∀ a r,fi W a→Lu g a r:=fun a r ha=>.inr fun b off e hbg=>by
   obtain ⟨c,z,h1⟩:=ha b off e;rw [hbg,hh] at h1;simp at h1
  have offR:∀ a r,aZ w0 a r→Lu g a r:=fun a r ha=>by
   rcases ha.2 with e | ⟨b,o,e,hr,hlt⟩
   ·exact .inl e
   ·exact .inr fun b' o' e' hbg=>by
     rw [e] at e';have e':=Nk e';injection e' with e1
     have:=(h1'.lt g rfl).1;omega
  obtain ⟨f,hf⟩:=Go.Deep.choose_lt (α:=Kg W g) (n:=l.length) (p:=fun i x=>∀ hi:i<l.length,KH W g x=l[i]∧xs[i*3]? = some (.slice x.1.ka x.1.keys.length x.1.kc)∧xs[i*3+1]? = some (.slice x.1.ra x.1.row.length x.1.rc)∧xs[i*3+2]? = some (.int .i64 x.1.w)) (fun i hi=>by
   obtain ⟨ka,kc,ra,rc,e0,e1,e2,⟨e3,e4⟩,e5⟩:=h3 i hi;exact ⟨⟨⟨ka,kc,l[i].1,ra,rc,l[i].2.1,l[i].2.2⟩,⟨e3,offK _ _ e4⟩,e5.next hb,offR _ _ e5⟩,fun _=>⟨rfl,e0,e1,e2⟩⟩)
  have hd:∀ i,i<l.length→((Array.range l.length).map f)[i]! = f i:=fun i hi=>by simp [hi]
  refine ⟨g,cap,(Array.range l.length).map f,rfl,(h1'.lt g rfl).1,(h1'.lt g rfl).2,by simp,?_,?_⟩
  ·apply List.ext_getElem
   ·simp
   ·intro i g1 g2;have:=(hf i g2 g2).1
    simpa using this
  ·intro j hj;have hj':j<l.length*3:=by simpa using hj
   refine ⟨?_,by rw [MG]; exact h1'.frozenAt j⟩;have hi:j / 3<l.length:=by omega
   obtain ⟨_,g0,g1,g2⟩:=hf (j / 3) hi hi;rw [MG,h1'.cellAt j hj'];show _=some (Go.Sort.flatK (nV W g) 3 ((Array.range l.length).map f))[j]!;rw [Go.Sort.get_flatK _ _ _ _ (by simpa using hj'),hd _ hi];have h3':j % 3=0∨j % 3=1∨j % 3=2:=by omega
   rcases h3' with e | e | e
   ·rw [e]; rw [show j / 3*3=j by omega] at g0; rw [g0]; rfl
   ·rw [e]; rw [show j / 3*3+1=j by omega] at g1; rw [g1]; rfl
   ·rw [e]; rw [show j / 3*3+2=j by omega] at g2; rw [g2]; rfl
theorem DH {w W:World} {g:Nat} {d:Array (Kg w g)} (hS:SWK (nV w g) 3 w g 0 d W) (hH:Go.Sort.HoldsK (nV w g) 3 W g 0 d) (hlt:g<W.heap.size):wb W (some (ah g 0)) (d.toList.map (KH w g)):=by
 refine .inr ⟨g,0,rfl,hlt,fun i hi=>?_⟩;have hi':i<d.size:=by simpa using hi
 have e:=getElem!_pos d i hi';have h0:=(hH (i*3) (by simp; omega)).1;have h1:=(hH (i*3+1) (by simp; omega)).1;have h2:=(hH (i*3+2) (by simp; omega)).1;show K4 W g (0+i*3) _;rw [Go.Sort.get_flatK _ _ _ _ ag,show i*3 / 3=i by omega,show i*3 % 3=0 by omega,e] at h0;rw [Go.Sort.get_flatK _ _ _ _ ag,show (i*3+1) / 3=i by omega,show (i*3+1) % 3=1 by omega,e,← Nat.add_assoc] at h1;rw [Go.Sort.get_flatK _ _ _ _ ag,show (i*3+2) / 3=i by omega,show (i*3+2) % 3=2 by omega,e,← Nat.add_assoc] at h2;simp only [NC,NP]
 exact ⟨h2,⟨d[i].1.ra,d[i].1.rc,h1,mQ d[i].2.2.1 d[i].2.2.2 hS⟩,d[i].1.ka,d[i].1.kc,h0,mQ d[i].2.1.1 d[i].2.1.2 hS⟩
theorem Jr {W:World} {g:Nat} {d:Array (Kg W g)} (hH:Go.Sort.HoldsK (nV W g) 3 W g 0 d) (hlt:g<W.heap.size):RowK (nV W g) 3 W g 0 d where
 hk _:=rfl
 h1 x v hv:=by simp [nV] at hv; rcases hv with rfl | rfl | rfl <;> rfl
 hH:=hH
 hblk:=hlt
theorem ordered {W:World} {g:Nat} {d d':Array (Kg W g)} {xs:List Ex} {z:List Zp} (hz:fh z) (hd:d.toList.map (KH W g)=dq xs z) (hp:Go.Sort.PermIn 0 d.size d d') (hs:bu (J2 W g) (F2 W g) 0 d.size d'):d'.toList.map (KH W g)=aY xs z:=by
 have hl:=hp.1;refine mH _ _ ?_ ?_ (gM hz)
 ·refine List.Perm.trans ?_ ((gm xs z).symm);rw [← hd];refine List.Perm.map _ ?_;have:=hp.2.2;rw [Array.extract_eq_self_of_le ag,Array.extract_eq_self_of_le ag] at this;exact this
 ·rw [N4,Ns];intro i j hi hj hij;have hi':i<d'.size:=by simpa using hi
  have hj':j<d'.size:=by simpa using hj
  have:=hs i j (MD _) hij ag;rw [getElem!_pos d' i hi',getElem!_pos d' j hj'] at this;exact this
theorem Jy {W:World} {g:Nat} {d:Array (Kg W g)} {xs:List Ex} {z:List Zp} (hz:fh z) (hd:d.toList.map (KH W g)=dq xs z):AK (F2 W g) 0 d.size d:=fun i j _ hij hj=>by
 have hr:=lE (xs:=xs) hz
 rw [← hd,N4,Ns] at hr
 have:=hr i j (by simpa using (by omega:i<d.size)) (by simpa using hj) hij
 rw [getElem!_pos d i ag,getElem!_pos d j hj]
 exact this
theorem Ff (W:World) (g cap:Nat) (d:Array (Kg W g)) (xs:List Ex) (z:List Zp) (hz:fh z) (hl:d.size≤1000000) (hlt:g<W.heap.size) (hd:d.toList.map (KH W g)=dq xs z) (hH:Go.Sort.HoldsK (nV W g) 3 W g 0 d) (w0:World) (hw:w0.heap.size≤g) (hb:Below w0 w0 W) :
  Calls prog 179 #[.slice (some (ah g 0)) d.size cap,.func (.func 180) #[] #[]] W fun e w'=>e = .returned (.tuple #[])∧wb w' (some (ah g 0)) (aY xs z)∧Below w0 w0 w':=by
 have R:=Jr hH hlt;have eg:=enters_of func180 aG rfl
 have eSw:=enters_of func277 aG rfl
 have eRo:=enters_of func269 aG rfl
 have eSy:=enters_of func245 aG rfl
 have eIn:=enters_of func244 aG rfl
 have eSt:=enters_of func213 aG rfl
 refine (uj 3 Tryz.Lc (nV W g) (Cn W g) 180 #[] g 0 cap d W hl (SWK.start hH) (Jy hz hd) eIn eSy eSt (Ko W g 0 cap d R hl) (Ik 3 Tryz.Lc (nV W g) (J2 W g) (F2 W g) (Cn W g) 180 #[] g 0 cap d W ag eg (FL W g 0 d.size) R eSw eRo eSy)).mono ?_;rintro e w' ⟨rfl,d',hp,hs,S⟩;refine ⟨rfl,?_,Bq hb hw S⟩;rw [← ordered hz hd hp hs];exact DH S (S.holds hlt hH hp.1) (S.lt hlt)
end Go.Proofs.YtoefpglknaiaeaaGreat
namespace Go.Proofs.YtoefpglknaiaeaaGreat
open Go.RowKit Go.Lib Go.Shelf _root_.Go.Proofs.Tryz
theorem Bb (cap:Nat) (w:World):Calls prog 244 #[.slice none 0 cap,aD,aD,.func (.func 180) #[] #[]] w fun e w'=>e = .returned (.tuple #[])∧w'=w:=by
 go_enter func244,ntmps244;go_wp2
 refine NH 1 ?_;rw [NK];go_wp2
 go_end0
 exact ⟨rfl,rfl⟩
theorem uh (cap:Nat) (w:World):Calls prog 213 #[.slice none 0 cap,aD,.func (.func 180) #[] #[]] w fun e w'=>e = .returned (.tuple #[])∧w'=w:=by
 go_enter func213,ntmps213;go_wp2
 refine NH 1 ?_;rw [NK];go_wp2_with fail
 refine (Bb cap w).mono ?_;rintro e w1 ⟨rfl,rfl⟩;dsimp only;go_wp2
 refine NH 1 ?_;rw [NK];go_wp2
 go_end0
 exact ⟨rfl,rfl⟩
theorem yD (cap:Nat) (w:World):Calls prog 179 #[.slice none 0 cap,.func (.func 180) #[] #[]] w fun e w'=>e = .returned (.tuple #[])∧Below w w w':=by
 go_enter func179,ntmps179;go_wp2_with fail
 refine (uh cap w).mono ?_;rintro e w1 ⟨rfl,rfl⟩;dsimp only;go_wp2
 go_end0
 exact ⟨rfl,Mz _ _⟩
theorem rT (cols:List Int) (xs:List Ex) (u:Value) (lo:Nat) (a:Option Addr) (cap:Nat) (l:List Zp) (w:World) (hu:lM cols lo u xs w) (hz:gN cols l) (h:aK w a l) :
  Calls prog 136 #[.slice a l.length cap,u] w fun e w'=>∃ a' c',e = .returned (.slice a' (aY xs l).length c')∧wb w' a' (aY xs l)∧Below w w w':=by
 obtain ⟨i0,hi,hj0,hj1,hj2⟩:=info_parts LC;have hl:=dg hz;have hR:fh l:=((cq l).1 hz.set).2.2;obtain ⟨g,cb,rfl,eg,hd⟩:=hu;have HD:=aB hd;have HO:=aB hz;have HR:=aB hR;clear hd hz hR
 have con:=qf 178 #[] (fun p=>decide (0<p.2)) a cap l w w (fun W=>Below w w W) h ag (enters_of func178 aG rfl) (Mz _ _) (fun _ hW=>hW) (fun W W' hW hb=>hW.trans hb) (fun x _ ra rc W hW _ _=>by
  refine (sX ra x.1.length rc x.2 W).mono ?_;rintro e w' ⟨rfl,hb⟩;exact ⟨rfl,chain hW hb,(aI.of hb)⟩)
 generalize hm:(l.filter fun p=>decide (0<p.2))=m at con;have HM:=aB hm;have hml:m.length≤l.length:=by rw [← hm]; exact Nn _ _
 have HF:Hid (∀ p ∈ m,dX cols p.1):=fun p hp=>by
  rw [← HM.out] at hp;exact HO.out.fit p (List.mem_filter.1 hp).1
 clear hm;go_enter func136,ntmps136;go_wp2_with fail
 refine con.mono ?_;rintro e w1 ⟨v1,rfl,O1,hb1,z1⟩;clear con;obtain ⟨a1,c1,rfl,zs1,_⟩:=O1.zs hb1;clear O1;dsimp only;go_wp2_with fail
 go_loopw [5,11] (fun v i wr=>∃ k:Nat,k≤m.length∧i = .int .i64 k∧pG w1 w1 wr v ((m.take k).map fun p=>(bp xs p.1,p))∧Below w1 w1 wr) (fun _ i _=>m.length - (intOf i).toNat)
 case atStart=>exact ⟨0,MD _,rfl,pG.nil _ _ _,Mz _ _⟩
 case round =>
  obtain ⟨k,hk,rfl,HK,hb⟩:=hrel;have hzr:=hb.size;by_cases hlt:k<m.length
  ·obtain ⟨b,off,rfl,hbl,d1,ar,cr,d0,sr⟩:=zs1.elem hlt;have c1':=(hb.cell (p:=⟨b,_,none⟩) hbl).trans d1;have c0':=(hb.cell (p:=⟨b,_,none⟩) hbl).trans d0;have hbl':=My hbl hzr;have HS:=aB sr;obtain ⟨hal,q0⟩:=iV wr #[.slice ar m[k].1.length cr,.int .i64 m[k].2] 47;have HT:Hid (((m.take (k+1)).map fun p=>(bp xs p.1,p))=((m.take k).map fun p=>(bp xs p.1,p)) ++ [(bp xs m[k].1,m[k])]):=AZ hlt
   have hfit:=HF.out m[k] (MC hlt);have HFk:=aB hfit;have hrl:xs.length=(bp xs m[k].1).length:=by simp [bp]
   have HRL:=aB hrl;clear d0 d1 sr hfit hrl;go_wp2_with fail
   generalize hwa:wr.alloc (.cells #[.slice ar m[k].1.length cr,.int .i64 m[k].2] 47)=wa at *;clear hwa;have hCC:∀ W W':World,W.heap[wr.heap.size]? = some (.cells #[.slice ar m[k].1.length cr,.int .i64 m[k].2] 47 (0,0))→Below W W W'→W'.heap[wr.heap.size]? = some (.cells #[.slice ar m[k].1.length cr,.int .i64 m[k].2] 47 (0,0)):=fun W W' h hb=>(hb.block _ (an h)).trans h
   have hdr:Below wa wa wa.drew:=(Mz _ _).drew;have CW:=hCC _ _ q0 hdr;refine aP (fun W=>W.heap[wr.heap.size]? = some (.cells #[.slice ar m[k].1.length cr,.int .i64 m[k].2] 47 (0,0))) aG ?_;refine bB hCC 15 0 u5 (fun n hn=>?_) CW ?_
   ·go_simp
   simp only [pX];refine bB hCC 16 1 (.func (.func g) #[] cb) (fun n hn=>?_) CW ?_
   ·go_simp
   simp only [pX];refine bB hCC 17 2 (ah wr 0) (fun n hn=>?_) CW ?_
   ·go_simp
   simp only [pX];refine bB hCC 18 3 (.slice ar m[k].1.length cr) (fun n hn=>?_) CW ?_
   ·have hcell:=cell_of (i:=0) hn rfl;go_simp
   simp only [pX];refine bB hCC 20 5 (.agg #[.slice ar m[k].1.length cr,.int .i64 m[k].2]) (fun n hn=>?_) CW ?_
   ·have hcell:=cell_of (i:=0) hn rfl;have hcell1:=cell_of (i:=1) hn rfl;go_simp
   simp only [pX];refine gp 4 aG fun w3 hb3=>?_
   have D3:=chain (chain hal hdr) hb3;have B3:=chain hb D3;have CW3:=hCC _ _ CW hb3;have con:=HD.out m[k].1 ar cr w3 HFk.out (HS.out.next B3) (aI.of (chain hb1 B3));refine wpOp_step rfl (fun K hK=>?_);go_simp
   first | (refine con.mono ?_) | (go_at_fn g; refine con.mono ?_)
   rintro e w4 ⟨rfl,hRN,hb4⟩;have D4:=chain D3 hb4;have CW4:=hCC _ _ CW3 hb4;refine hK _ _ ⟨CW4,?_⟩;clear hK K con CW3;refine bB hCC 21 6 (.agg #[.slice (some (ah w3 0)) xs.length xs.length,.slice ar m[k].1.length cr,.int .i64 m[k].2]) (fun n hn=>?_) CW4 ?_
   ·go_simp
   simp only [pX];refine gp 7 aG fun w5 hb5=>?_
   refine wpOp_step rfl (fun K hK=>?_);go_simp;have D5:=chain D4 hb5;have CW5:=hCC _ _ CW4 hb5;obtain ⟨hal5,q6⟩:=iV w5 #[.slice (some (ah w3 0)) xs.length xs.length,.slice ar m[k].1.length cr,.int .i64 m[k].2] 165;have D6:=chain D5 hal5;have CW6:=hCC _ _ CW5 hal5;have S6:=(hRN.1.next hb5).next hal5;have T6:=(hRN.2.next hb5).next hal5;refine hK _ _ ⟨CW6,?_⟩
   clear hK K CW5 CW4 hRN;generalize hw6:w5.alloc (.cells #[.slice (some (ah w3 0)) xs.length xs.length,.slice ar m[k].1.length cr,.int .i64 m[k].2] 165)=w6 at *;clear hw6;refine gp 8 aG fun w7 hb7=>?_
   have D7:=chain D6 hb7;have CW7:=hCC _ _ CW6 hb7;have S7:=S6.next hb7;have T7:=T6.next hb7;have q7:=iX hb7 q6;obtain ⟨ys,o7,en7⟩:=HK.next D7;have zz:=D7.size;have hnb:∀ g',u5.ownBlock=some g'→g'<wr.heap.size∧w1.heap.size≤g':=fun g' hg'=>by
    obtain ⟨ys0,o0,_⟩:=HK;exact ⟨(o0.lt g' hg').2,(o0.lt g' hg').1⟩
   refine wpOp_step rfl (fun K hK=>?_);refine Eq.mpr (if_pos aG) ?_;refine dH (some 23) rfl (Operand.tmp 15) (Operand.tmp 22) 159 rfl w1 165 i0 _ 3 56 underlying159 hi hj0 hj1 hj2 rfl (by decide) u5 _ ys rfl o7 (ah w5 0) 1 1 [.slice (some (ah w3 0)) xs.length xs.length,.slice ar m[k].1.length cr,.int .i64 m[k].2] rfl rfl ?Ac1 ?Ac2 ?Ac3 ?Ac4 ?Ac5 ?_
   case Ac1 =>
    intro j u hj
    match j,hj with
    | 0,hj=>simp at hj; subst hj; exact cell_of (i:=0) q7 rfl
    | 1,hj=>simp at hj; subst hj; exact cell_of (i:=1) q7 rfl
    | 2,hj=>simp at hj; subst hj; exact cell_of (i:=2) q7 rfl
   case Ac2=>intro u hu; simp at hu; rcases hu with rfl | rfl | rfl <;> rfl
   case Ac3=>simp only [Nt,MR]; unfold maxLen; omega
   case Ac4=>simp only [Nt,MR]; omega
   case Ac5=>omega
   intro v' w8 o8 g8 _;have CW8:w8.heap[wr.heap.size]? = some (.cells #[.slice ar m[k].1.length cr,.int .i64 m[k].2] 47 (0,0)):=(g8.block _ (an CW7) (fun e=>by have:=(hnb _ e.symm).1; omega)).trans CW7;have OK8:pG w1 w1 w8 v' (((m.take k).map fun p=>(bp xs p.1,p)) ++ [(bp xs m[k].1,m[k])]):=pG.push (kc:=xs.length) (rc:=cr) o7 en7 S7 T7 HS.out (by have:=HRL.out; rw [← this]; exact o8) g8;have b8:Below w1 w1 w8:=(hb.trans (D7.mono hzr)).trans ((Mz _ _).grown g8 ag (fun q hq=>(hnb q hq).2));refine hK _ _ ⟨CW8,?_⟩
   clear hK K CW7 CW6 S7 T7 S6 T6 o7 en7 o8 D7 D6 D5 D4 D3 q6 q7 g8 HK;simp only [pX];refine bB hCC 5 9 v' (fun n hn=>?_) CW8 ?_
   ·go_simp
   simp only [pX];refine cA aG ?_;intro w9 hb9;have OK9:=OK8.next hb9;have b9:=chain b8 hb9;clear OK8 b8 CW8 hb9;go_wp2
   go_roundw
   case rel=>exact ⟨k+1,by omega,by go_num,by rw [HT.out]; exact OK9,b9⟩
   case measure=>simp [intOf]; omega
  ·have e:k=m.length:=by omega
   subst e;rw [MM] at HK;have hwk:(m.map fun p=>(bp xs p.1,p))=dq xs l:=by unfold dq; rw [HM.out]
   rw [hwk] at HK;have hb':=chain hb1 hb;have hil:=(gm xs l).length_eq;have hwl:=vS xs l;rcases HK.arr hb (Mx _) with ⟨hn,rfl⟩ | ⟨gb,kc,dd,rfl,hg1,hg2,hds,hdm,hH⟩
   ·have hio:=MH (by rw [hil,hn]; rfl);have con:=yD 0 wr;clear HK;go_wp2_with fail
    refine bC con fun w2 hb2=>?_;clear con;dsimp only;go_wp2
    go_ret;exact ⟨none,0,by rw [hio]; rfl,.inl hio,chain hb' hb2⟩
   ·have con:=Ff wr gb kc dd xs l HR.out ag hg2 hdm hH w1 hg1 hb;rw [hds,← hil] at con;rw [← hil];clear HK hH hdm hil hwk hds;go_wp2_with fail
    refine con.mono ?_;rintro e w2 ⟨rfl,kd,hb2⟩;clear con;dsimp only;have HKD:=aB kd;have hA:=hb1.trans (hb2.mono hb1.size);clear kd;go_wp2
    go_ret;exact ⟨_,_,rfl,HKD.out,hA⟩
end Go.Proofs.YtoefpglknaiaeaaGreat
namespace Go.Proofs.YtoefpglknaiaeaaGreat
open Go.RowKit Go.Lib Go.Shelf
abbrev Pt:Type:=List Vl × List Zp
def cY (ps:List Pt) (x:Kp):List Pt:=if h:ps.length=0 then ps ++ [(x.1,[])] else if aF (ps[ps.length - 1]'ag).1 x.1=0 then ps else ps ++ [(x.1,[])]
def iP (ps:List Pt) (r:Zp):List Pt:=if h:ps.length=0 then ps else ps.set (ps.length - 1) ((ps[ps.length - 1]'ag).1,(ps[ps.length - 1]'ag).2 ++ [r])
def dJ (L:List Kp):List Pt:=L.foldl (fun ps x=>iP (cY ps x) x.2) []
theorem Ac {L:List Kp} {k:Nat} (h:k<L.length):dJ (L.take (k+1))=iP (cY (dJ (L.take k)) L[k]) L[k].2:=by
 unfold dJ;rw [MJ h,Oi];rfl
theorem Dj (ps:List Pt) (x:Kp):(cY ps x).length≤ps.length+1∧0<(cY ps x).length:=by
 unfold cY
 split
 ·simp
 ·split
  ·omega
  ·simp
theorem zN (ps:List Pt) (r:Zp):(iP ps r).length=ps.length:=by
 unfold iP
 split
 ·rfl
 ·simp
theorem JH {ps:List Pt} {m:Nat} (h:ps.length=m+1) (r:Zp):iP ps r=ps.set m ((ps[m]'ag).1,(ps[m]'ag).2 ++ [r]):=by
 unfold iP;rw [dif_neg ag];simp only [h,Nat.add_sub_cancel]
theorem Er {ps:List Pt} (h:ps.length=0) (x:Kp):cY ps x=ps ++ [(x.1,[])]:=by unfold cY; rw [dif_pos h]
theorem BI {ps:List Pt} {m:Nat} (h:ps.length=m+1) {x:Kp} (hc:aF (ps[m]'ag).1 x.1=0):cY ps x=ps:=by
 unfold cY;rw [dif_neg ag];simp only [h,Nat.add_sub_cancel];rw [if_pos hc]
theorem yp {ps:List Pt} {m:Nat} (h:ps.length=m+1) {x:Kp} (hc:¬ aF (ps[m]'ag).1 x.1=0):cY ps x=ps ++ [(x.1,[])]:=by
 unfold cY;rw [dif_neg ag];simp only [h,Nat.add_sub_cancel];rw [if_neg hc]
theorem qT (L:List Kp):(dJ L).length≤L.length∧∀ p ∈ dJ L,p.2.length≤L.length:=by
 have aux:∀ (L:List Kp) (ps:List Pt) (n:Nat),ps.length≤n→(∀ p ∈ ps,p.2.length≤n)→(L.foldl (fun ps x=>iP (cY ps x) x.2) ps).length≤n+L.length∧∀ p ∈ L.foldl (fun ps x=>iP (cY ps x) x.2) ps,p.2.length≤n+L.length:=by
  intro L
  induction L with
  | nil=>intro ps n h1 h2; exact ⟨h1,h2⟩
  | cons x r ih =>
   intro ps n h1 h2;have ho:∀ p ∈ cY ps x,p.2.length≤n:=fun p hp=>by
    unfold cY at hp
    split at hp
    ·rcases List.mem_append.1 hp with hp | hp
     ·exact h2 p hp
     ·rw [List.mem_singleton.1 hp]; exact MD _
    ·split at hp
     ·exact h2 p hp
     ·rcases List.mem_append.1 hp with hp | hp
      ·exact h2 p hp
      ·rw [List.mem_singleton.1 hp]; exact MD _
   have:=ih (iP (cY ps x) x.2) (n+1) (by rw [zN]; have:=(Dj ps x).1; omega) (fun p hp=>by
    unfold iP at hp
    split at hp
    ·have:=ho p hp; omega
    ·rcases List.mem_or_eq_of_mem_set hp with hp | rfl
     ·have:=ho p hp; omega
     ·have:=ho _ (MC (l:=cY ps x) (n:=(cY ps x).length - 1) ag);simp only [ME,Nb]; omega)
   simp only [NA,Ng];refine ⟨by have:=this.1; omega,fun p hp=>by have:=this.2 p hp; omega⟩
 have:=aux L [] 0 (Mx _) (fun p hp=>by simp at hp);unfold dJ
 simpa using this
theorem om {W:World} {b b':Nat} {e e':TypeId} {s s' n n':Nat} {v v':Value} {xs xs':List Value} (hne:e≠e') (h:W.ownsRow b e s v n xs) (h':W.ownsRow b' e' s' v' n' xs'):v.ownBlock=none∨v.ownBlock≠v'.ownBlock:=by
 rcases h.2 with ⟨rfl,_⟩ | ⟨g,cap,cur,rfl,_,hg,_⟩
 ·exact .inl rfl
 ·refine .inr fun e0=>?_
  rcases h'.2 with ⟨rfl,_⟩ | ⟨g',cap',cur',rfl,_,hg',_⟩
  ·simp [Value.ownBlock] at e0
  ·have e1:g=g':=by simpa [Value.ownBlock] using e0
   subst e1;rw [hg] at hg';injection hg' with hg'
   injection hg' with _ he _
   exact hne he
theorem jW {W:World} {B:Nat} {e:TypeId} {s n:Nat} {v:Value} {xs:List Value} (h:W.ownsRow B e s v n xs) {q:Nat} {cs:Array Value} {T:TypeId} {f:Nat × Nat} (hq:W.heap[q]? = some (.cells cs T f)) (hne:T≠e):v.ownBlock≠some q:=by
 intro e0;rcases h.2 with ⟨rfl,_⟩ | ⟨g,cap,cur,rfl,_,hg,_⟩
 ·simp [Value.ownBlock] at e0
 ·have e1:g=q:=by simpa [Value.ownBlock] using e0
  subst e1;rw [hg] at hq;injection hq with hq
  injection hq with _ he _
  exact hne he.symm
theorem Ih {W:World} {b b':Nat} {e:TypeId} {s n:Nat} {v:Value} {xs:List Value} (h:W.ownsRow b e s v n xs) (hb:b'≤b):W.ownsRow b' e s v n xs:=by
 obtain ⟨h0,h1⟩:=h;refine ⟨h0,?_⟩;rcases h1 with h1 | ⟨g,cap,cur,e,hg,h3⟩
 ·exact .inl h1
 ·exact .inr ⟨g,cap,cur,e,MO hb hg,h3⟩
theorem fa {W:World} {base e size n:Nat} {v:Value} {xs:List Value} (h:W.ownsRow base e size v n xs):∃ a c,v = .slice a n c:=by
 obtain ⟨_,⟨rfl,h0⟩ | ⟨g,c1,cur,rfl,_⟩⟩:=h
 ·exact ⟨none,0,by rw [h0]⟩
 ·exact ⟨_,c1,rfl⟩
structure pQ (w0:World) (B:Nat) (W:World) (v:Value) (ps:List Pt) (xs:List Value) (Bl:Nat) (rv:Nat→Value) (zs:Nat→List Value):Prop where
 own:W.ownsRow B 162 2 v ps.length xs
 lo:B≤Bl
 hi:Bl≤W.heap.size
 key:∀ i (h:i<ps.length),∃ ka kc,xs[i*2]? = some (.slice ka ps[i].1.length kc)∧aZ w0 ka ps[i].1
 cell:∀ i (_:i<ps.length),xs[i*2+1]? = some (rv i)
 row:∀ i (h:i<ps.length),W.ownsRow (if i+1=ps.length then Bl else B) 47 2 (rv i) ps[i].2.length (zs i)∧iy w0 (zs i) ps[i].2
 low:∀ i,i+1<ps.length→∀ g,(rv i).ownBlock=some g→g<Bl
def np (w0:World) (B:Nat) (W:World) (v:Value) (ps:List Pt):Prop:=∃ xs Bl rv zs,pQ w0 B W v ps xs Bl rv zs
theorem pQ.next {w0:World} {B:Nat} {W w1:World} {v:Value} {ps:List Pt} {xs:List Value} {Bl:Nat} {rv:Nat→Value} {zs:Nat→List Value} (h:pQ w0 B W v ps xs Bl rv zs) (hb:Below W W w1):pQ w0 B w1 v ps xs Bl rv zs :=
 ⟨aL h.own hb,h.lo,MO h.hi hb.size,h.key,h.cell,fun i hi=>⟨aL (h.row i hi).1 hb,(h.row i hi).2⟩,h.low⟩
theorem np.next {w0:World} {B:Nat} {W w1:World} {v:Value} {ps:List Pt} (h:np w0 B W v ps) (hb:Below W W w1):np w0 B w1 v ps:=by
 obtain ⟨xs,Bl,rv,zs,h⟩:=h;exact ⟨xs,Bl,rv,zs,h.next hb⟩
theorem np.nil (w0:World) (B:Nat) (W:World) (hB:B≤W.heap.size):np w0 B W bX [] :=
 ⟨[],B,fun _=>.slice none 0 0,fun _=>[],M4 _ _ _ _,Mx _,hB,fun _ hi=>absurd hi (M9 _),fun _ hi=>absurd hi (M9 _),fun _ hi=>absurd hi (M9 _),fun _ hi=>absurd hi (M9 _)⟩
theorem pQ.Hp {w0:World} {B:Nat} {W:World} {v:Value} {ps:List Pt} {xs:List Value} {Bl:Nat} {rv:Nat→Value} {zs:Nat→List Value} (h:pQ w0 B W v ps xs Bl rv zs) {i:Nat} (hi:i<ps.length):W.ownsRow B 47 2 (rv i) ps[i].2.length (zs i):=by
 refine Ih (h.row i hi).1 ?_
 split
 ·exact h.lo
 ·exact Mx _
theorem pQ.push {w0:World} {B:Nat} {W w1:World} {v v':Value} {ps:List Pt} {xs:List Value} {Bl:Nat} {rv:Nat→Value} {zs:Nat→List Value} (h:pQ w0 B W v ps xs Bl rv zs) {ka:Option Addr} {kc:Nat} {k:List Vl} (hs:aZ w0 ka k) (hg:W.grownBy w1 v.ownBlock)
  (ho:w1.ownsRow B 162 2 v' (ps.length+1) (xs ++ [.slice ka k.length kc,.slice none 0 0])):np w0 B w1 v' (ps ++ [(k,[])]):=by
 have lx:=h.own.1;refine ⟨_,w1.heap.size,fun i=>if i=ps.length then .slice none 0 0 else rv i,fun i=>if i=ps.length then [] else zs i,by simpa using ho,MO h.lo (MO h.hi hg.size),Mx _,fun i hi=>?_,fun i hi=>?_,fun i hi=>?_,fun i hi g hgi=>?_⟩
 ·by_cases hi':i<ps.length
  ·obtain ⟨ka',kc',e0,s0⟩:=h.key i hi';rw [MV hi'];exact ⟨ka',kc',by rw [MT ag]; exact e0,s0⟩
  ·have e:i=ps.length:=by simp at hi; omega
   subst e;refine ⟨ka,kc,?_,?_⟩
   ·rw [MU ag]; simp [lx]
   ·simpa using hs
 ·by_cases hi':i<ps.length
  ·rw [if_neg ag,MT ag]; exact h.cell i hi'
  ·have e:i=ps.length:=by simp at hi; omega
   subst e;rw [if_pos rfl,MU ag]; simp [lx]
 ·by_cases hi':i<ps.length
  ·rw [MV hi',if_neg (by simp; omega),if_neg ag,if_neg ag];exact ⟨(h.Hp hi').kept hg (om (by decide) (h.Hp hi') h.own),(h.row i hi').2⟩
  ·have e:i=ps.length:=by simp at hi; omega
   subst e;simp only [ME,Nb,if_true,N0];exact ⟨M4 _ _ _ _,rfl,fun j hj=>absurd hj (M9 _)⟩
 ·have hi':i<ps.length:=by simp at hi; omega
  rw [if_neg ag] at hgi;exact My ((h.Hp hi').lt g hgi).2 hg.size
theorem pQ.put {w0:World} {B:Nat} {W w8 w9:World} {g c m:Nat} {ps:List Pt} {xs:List Value} {Bl:Nat} {rv:Nat→Value} {zs:Nat→List Value} (h:pQ w0 B W (.slice (some (ah g 0)) (m+1) c) ps xs Bl rv zs) (hm:ps.length=m+1) {ra:Option Addr} {rc:Nat} {r:Zp} {v8:Value}
  (sr:aZ w0 ra r.1) (g8:W.grownBy w8 (rv m).ownBlock) (o8:w8.ownsRow Bl 47 2 v8 ((ps[m]'(by omega)).2.length+1) (zs m ++ [.slice ra r.1.length rc,.int .i64 r.2])) (hb:Below w8.heap.size w8 w9) :
  np w0 B (w9.setCell ⟨g,m*2+1,none⟩ v8) (.slice (some (ah g 0)) (m+1) c) (iP ps r):=by
 have hmlt:m<ps.length:=by omega
 have lx:=h.own.1;have ho:=h.own;rw [hm] at ho;have rl:W.ownsRow Bl 47 2 (rv m) (ps[m]'hmlt).2.length (zs m):=by
  have:=(h.row m hmlt).1
  rwa [if_pos hm.symm] at this
 have og:∀ {b e s n v ys},e≠162→w9.ownsRow b e s v n ys→(w9.setCell ⟨g,m*2+1,none⟩ v8).ownsRow b e s v n ys:=fun {b e s n v ys} hne hr=>by
  have o9:=aL (ho.kept g8 (om (by decide) ho (rl))) hb;rcases om hne hr o9 with e0 | e0
  ·exact ownsRow_setCell_other hr (by rw [e0]; simp) _
  ·exact ownsRow_setCell_other hr (by simpa [Value.ownBlock] using e0) _
 have o9:=aL (ho.kept g8 (om (by decide) ho rl)) hb;have hsz:(w9.setCell ⟨g,m*2+1,none⟩ v8).heap.size=w9.heap.size:=by simp [World.setCell]
 rw [JH hm];refine ⟨xs.set (m*2+1) v8,Bl,fun i=>if i=m then v8 else rv i,fun i=>if i=m then zs m ++ [.slice ra r.1.length rc,.int .i64 r.2] else zs i,?_,h.lo,?_,fun i hi=>?_,fun i hi=>?_,fun i hi=>?_,fun i hi g' hgi=>?_⟩
 ·rw [List.length_set,hm];exact (o9.stored (m*2+1) v8).1
 ·rw [hsz]; exact MO h.hi (MO g8.size hb.size)
 ·have hi0:i<ps.length:=by simpa using hi
  obtain ⟨ka',kc',e0,s0⟩:=h.key i hi0;rw [MQ ag,List.getElem_set]
  split
  ·rename_i e; subst e; exact ⟨ka',kc',e0,s0⟩
  ·exact ⟨ka',kc',e0,s0⟩
 ·have hi0:i<ps.length:=by simpa using hi
  by_cases e:i=m
  ·subst e;rw [if_pos rfl,List.getElem?_set_self ag]
  ·rw [if_neg e,MQ ag]; exact h.cell i hi0
 ·have hi0:i<ps.length:=by simpa using hi
  by_cases e:i=m
  ·subst e;simp only [List.length_set,if_true,List.getElem_set_self,ME,Nb];rw [if_pos hm.symm];refine ⟨og (by decide) (aL o8 hb),?_⟩;exact iy.push (h.row i hi0).2 (x:=r) sr
  ·simp only [List.length_set];rw [if_neg e,if_neg e,if_neg ag,NF (fun e'=>e e'.symm)];have ri:=h.Hp hi0;refine ⟨og (by decide) (aL (ri.kept g8 ?_) hb),(h.row i hi0).2⟩;by_cases e0:(rv i).ownBlock=none
   ·exact .inl e0
   ·obtain ⟨gi,hgi⟩:=Option.ne_none_iff_exists'.1 e0;refine .inr fun e1=>?_
    have h1:=h.low i ag gi hgi;have h2:=(rl.lt gi (e1 ▸ hgi)).1;omega
 ·have hi0:i+1<ps.length:=by simpa using hi
  rw [if_neg ag] at hgi;exact h.low i hi0 g' hgi
end Go.Proofs.YtoefpglknaiaeaaGreat
