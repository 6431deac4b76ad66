/- Together: G5, N1, G2, G6, SA, G7, N2, N3, N4. -/
import Derived.Laws.EntriesVeiled
import Derived.Test.YtjebpkhkjkjphaaGreatP8
import Derived.Test.YtjebpkhkjkjphaaGreatP4
import Derived.Test.YtjebpkhkjkjphaaGreatP7
import Derived.Test.YtjebpkhkjkjphaaGreatP6
namespace Go.Proofs.YtjebpkhkjkjphaaGreat
open Go.RowKit Go.Lib Go.Shelf
set_option maxRecDepth 100000
set_option maxHeartbeats 16000000
abbrev Ag:Type:=Int × Ex
def df (af:List Int) (g:Ag):Int:=if g.1=1 then 0 else if g.1<2∨5<g.1 then 1 else if (an af g.2).2≠0 then (an af g.2).2 else if g.1=3∧(an af g.2).1≠3∧(an af g.2).1≠1 then 9 else 0
def gy (g:Ag):List Vl→Vl:=if g.1=1 then fun _=>(2,1,⟨#[]⟩) else fun row=>aW row g.2
theorem xi {af:List Int} {g:Ag} (h:df af g=0):∀ row,fM af row→bt (gy g row)=0∧hM (gy g row):=by
 intro row hf;unfold gy
 split
 ·exact ⟨by simp [bt,aU],rfl⟩
 ·rename_i h1
  unfold df at h;rw [if_neg h1] at h;by_cases h2:g.1<2∨5<g.1
  ·rw [if_pos h2] at h; cases h
  ·rw [if_neg h2] at h;by_cases h3:(an af g.2).2=0
   ·exact ⟨(um hf g.2 _ (FA h3)).1,BG row g.2⟩
   ·rw [if_pos h3] at h; exact absurd h h3
def qz:List Wp→Int
 | []=>0
 | p :: r=>p.2*p.1.2.1+qz r
def Kh (l:List Wp):Vl:=if l = [] then (1,0,⟨#[]⟩) else if nM (qz l)=true then (3,qz l,⟨#[]⟩) else (1,0,⟨#[]⟩)
def IZ:List Wp→Vl
 | []=>(1,0,⟨#[]⟩)
 | p :: r=>r.foldl (fun m x=>if dI x.1 m<0 then x.1 else m) p.1
def Hj:List Wp→Vl
 | []=>(1,0,⟨#[]⟩)
 | p :: r=>r.foldl (fun m x=>if 0<dI x.1 m then x.1 else m) p.1
def fH (k:Int) (l:List Wp):Vl:=if k=3 then Kh l else if k=4 then IZ l else if k=5 then Hj l else countP l
def kv (g:Ag) (rows:List Zp):Vl:=fH g.1 (dy (gy g) rows)
def dZ (af:List Int):List Ag→Int
 | []=>0
 | g :: r=>if df af g=0 then dZ af r else df af g
theorem xK (af:List Int) (gs:List Ag) (j:Nat) (h:j<gs.length) (h0:df af gs[j]=0):dZ af (gs.drop j)=dZ af (gs.drop (j+1)):=by
 rw [Mi h,dZ,if_pos h0]
theorem DH (af:List Int) (gs:List Ag) (j:Nat) (h:j<gs.length) (h0:¬ df af gs[j]=0):dZ af (gs.drop j)=df af gs[j]:=by
 rw [Mi h,dZ,if_neg h0]
def ie (B:Nat) (W:World) (a:Option Addr) (l:List Ag):Prop:=l = []∨∃ (b off:Nat) (ai:Nat→Option Addr) (cap:Nat→Nat),a=some ⟨b,off,none⟩∧b<B∧∀ (i:Nat) (h:i<l.length),W.cell? ⟨b,off+i*7,none⟩=some (.int .i64 l[i].1)∧jP W b (off+i*7+1) l[i].2.k l[i].2.v l[i].2.c (ai i) l[i].2.ks.length (cap i)∧aX B W (ai i) l[i].2.ks
theorem ie.next {B B':Nat} {W w1:World} (hb:Below B' W w1) (hB:B≤B') {a:Option Addr} {l:List Ag} (h:ie B W a l):ie B w1 a l:=by
 rcases h with h | ⟨b,off,ai,cap,e,hlt,h⟩
 ·exact .inl h
 ·refine .inr ⟨b,off,ai,cap,e,hlt,fun i hi=>?_⟩;obtain ⟨h1,h2,h3⟩:=h i hi;exact ⟨(hb.cell (p:=⟨b,_,none⟩) (Mh hlt hB)).trans h1,h2.next hb (Mh hlt hB),aX.next hb hB h3⟩
theorem ie.up {B B':Nat} {W:World} (hB:B≤B') {a:Option Addr} {l:List Ag} (h:ie B W a l):ie B' W a l:=by
 rcases h with h | ⟨b,off,ai,cap,e,hlt,h⟩
 ·exact .inl h
 ·refine .inr ⟨b,off,ai,cap,e,Mh hlt hB,fun i hi=>?_⟩;obtain ⟨h1,h2,h3⟩:=h i hi;exact ⟨h1,h2,h3.up hB⟩
theorem ie.elem {B:Nat} {W:World} {a:Option Addr} {l:List Ag} (h:ie B W a l) {i:Nat} (hi:i<l.length):∃ b off ai ci,a=some ⟨b,off,none⟩∧b<B∧W.cell? ⟨b,off+i*7,none⟩=some (.int .i64 l[i].1)∧jP W b (off+i*7+1) l[i].2.k l[i].2.v l[i].2.c ai l[i].2.ks.length ci∧aX B W ai l[i].2.ks:=by
 rcases h with h | ⟨b,off,ai,cap,e,hlt,h⟩
 ·subst h; simp at hi
 ·exact ⟨b,off,ai i,cap i,e,hlt,h i hi⟩
theorem FN (a:Option Addr) (n cap:Nat) (w:World):Calls Tryz.prog 147 #[.slice a n cap] w fun e w'=>e = .returned (.agg #[.int .i64 2,.int .i64 1,.string ⟨#[]⟩])∧Below w.heap.size w w':=by
 have hal:=aa w (.cells #[.int .i64 0,.int .i64 0,.string ⟨#[]⟩] 24);have q0:=ak w #[.int .i64 0,.int .i64 0,.string ⟨#[]⟩] 24;go_enter Tryz.func147,Tryz.ntmps147;go_wp2_with fail
 generalize w.alloc (.cells #[.int .i64 0,.int .i64 0,.string ⟨#[]⟩] 24)=w0 at *;refine (jq w0).mono ?_;rintro e w2 ⟨rfl,hb2⟩;have q2:=(hb2.block _ (ae q0)).trans q0;have d0:w2.cell? ⟨w.heap.size,0,none⟩=some (.int .i64 0):=cell_of (i:=0) q2 rfl;have d1:w2.cell? ⟨w.heap.size,1,none⟩=some (.int .i64 0):=cell_of (i:=1) q2 rfl;have d2:w2.cell? ⟨w.heap.size,2,none⟩=some (.string ⟨#[]⟩):=cell_of (i:=2) q2 rfl;have f0:w2.frozen? ⟨w.heap.size,0,none⟩=false:=Mg w2 w.heap.size 0 _ _ q2;have f1:w2.frozen? ⟨w.heap.size,1,none⟩=false:=Mg w2 w.heap.size 1 _ _ q2
 have f2:w2.frozen? ⟨w.heap.size,2,none⟩=false:=Mg w2 w.heap.size 2 _ _ q2;have hA2:=chain hal hb2;go_wp2
 exact Me (v:=.agg #[.int .i64 2,.int .i64 1,.string ⟨#[]⟩]) (by simp [results,Tryz.results147,go_sem,d0,d1,d2]) rfl ⟨rfl,((hA2.setCell (p:=⟨w.heap.size,0,none⟩) (Mc _) _).setCell (p:=⟨w.heap.size,1,none⟩) (Mc _) _).setCell (p:=⟨w.heap.size,2,none⟩) (Mc _) _⟩
theorem rI (af:List Int) (g:Ag) (ca:Option Addr) (ccap:Nat) (a:Option Addr) (cap:Nat) (w:World) (hk:aX w.heap.size w a g.2.ks) (hc:bG w.heap.size w ca af) (h:df af g=0) :
  Calls Tryz.prog 111 #[.slice ca af.length ccap,.agg (mC g.1 g.2.k g.2.v.1 g.2.v.2.1 g.2.v.2.2 g.2.c a g.2.ks.length cap)] w fun e w'=>∃ u,e = .returned (.tuple #[u,.int .i64 0])∧gr af w.heap.size u (gy g) w'∧Below w.heap.size w w':=by
 have hal:=aa w (.cells (mC g.1 g.2.k g.2.v.1 g.2.v.2.1 g.2.v.2.2 g.2.c a g.2.ks.length cap) 67);have q0:=ak w (mC g.1 g.2.k g.2.v.1 g.2.v.2.1 g.2.v.2.2 g.2.c a g.2.ks.length cap) 67;by_cases h1:g.1=1
 ·have hF:gy g=fun _=>(2,1,⟨#[]⟩):=by unfold gy; rw [if_pos h1]
  have HF:=aw hF;clear hF h;rw [h1] at hal;generalize gy g=F at *;go_enter Tryz.func111,Tryz.ntmps111;go_wp2_with fail
  exact Me (v:=.tuple #[.func (.func 147) #[] #[],.int .i64 0]) (by simp [results,Tryz.results111,go_sem]) rfl ⟨_,rfl,by
   rw [HF.out];exact ⟨147,#[],rfl,enters_of Tryz.func147 (by kernel_rfl) rfl,fun row a cap W _ _ _=>by simpa [fW] using FN a row.length cap W⟩,hal⟩
 ·have hF:gy g=fun row=>aW row g.2:=by unfold gy; rw [if_neg h1]
  have HF:=aw hF;have h2:¬ (g.1<2∨5<g.1):=fun h2=>by unfold df at h; rw [if_neg h1,if_pos h2] at h; cases h
  have h3:(an af g.2).2=0:=Classical.byContradiction fun h3=>by unfold df at h; rw [if_neg h1,if_neg h2,if_pos h3] at h; exact h3 h
  have h4:g.1=3→(an af g.2).1=3∨(an af g.2).1=1:=fun e=>by
   unfold df at h;rw [if_neg h1,if_neg h2,if_neg (by simpa using h3)] at h;by_cases h5:(an af g.2).1=3
   ·exact .inl h5
   ·by_cases h6:(an af g.2).1=1
    ·exact .inr h6
    ·rw [if_pos ⟨e,h5,h6⟩] at h; cases h
  have con:=iG af g.2 ca ccap a cap _ ((aX.next hal (Mc _) hk).up hal.size) ((hc.next hal (Mc _)).up hal.size) h3;have hk4:g.1=2∨g.1=3∨g.1=4∨g.1=5:=by omega
  clear hF h h3 h2 h1;generalize gy g=F at *;generalize (an af g.2).1=t at *;unfold iU at con;go_enter Tryz.func111,Tryz.ntmps111;generalize hk1:g.1=kd at *;clear hk1;have main:(kd=2∨kd=4∨kd=5)∨(kd=3∧(t=3∨t=1)):=by
   rcases hk4 with e | e | e | e
   ·exact .inl (.inl e)
   ·exact .inr ⟨e,h4 e⟩
   ·exact .inl (.inr (.inl e))
   ·exact .inl (.inr (.inr e))
  clear hk4 h4;rcases main with (rfl | rfl | rfl) | ⟨rfl,rfl | rfl⟩
  all_goals (
   go_wp2_with fail
   generalize w.alloc (.cells #[_,.int .i64 g.2.k,.int .i64 g.2.v.1,.int .i64 g.2.v.2.1,.string g.2.v.2.2,.int .i64 g.2.c,.slice a g.2.ks.length cap] 67)=w1 at *;refine con.mono ?_;rintro e w2 ⟨u,rfl,hA2,hb2⟩;have hA:=chain hal hb2;have q2:=(hb2.block _ (ae q0)).trans q0;have c0:=cell_of (i:=0) q2 rfl;clear con;have hA2:=hA2.down hal.size;obtain ⟨g',cb,rfl⟩:∃ g' cb,u = .func (.func g') #[] cb:=by obtain ⟨g',cb,e,_⟩:=hA2; exact ⟨g',cb,e⟩
   dsimp only;go_wp2_with fail
   exact Me (v:=.tuple #[.func (.func g') #[] cb,.int .i64 0]) (by simp [results,Tryz.results111,go_sem]) rfl ⟨_,rfl,by rw [HF.out]; exact hA2,hA⟩)
end Go.Proofs.YtjebpkhkjkjphaaGreat
namespace Go.Proofs.YtjebpkhkjkjphaaGreat
open Go.RowKit
set_option maxRecDepth 100000
set_option maxHeartbeats 16000000
inductive Pl where
 | mk (k n:Int) (x:Ex) (xs:List Ex) (gs:List Ag) (ks:List Pl)
def Pl.k:Pl→Int | .mk k _ _ _ _ _=>k
def Pl.n:Pl→Int | .mk _ n _ _ _ _=>n
def Pl.x:Pl→Ex | .mk _ _ x _ _ _=>x
def Pl.xs:Pl→List Ex | .mk _ _ _ xs _ _=>xs
def Pl.gs:Pl→List Ag | .mk _ _ _ _ gs _=>gs
def Pl.ks:Pl→List Pl | .mk _ _ _ _ _ ks=>ks
mutual
theorem Pl.ind {P:Pl→Prop} (h:∀ k n x xs gs ks,(∀ p ∈ ks,P p)→P (.mk k n x xs gs ks)):∀ p,P p
 | .mk k n x xs gs ks=>h k n x xs gs ks (Pl.FZ h ks)
theorem Pl.FZ {P:Pl→Prop} (h:∀ k n x xs gs ks,(∀ p ∈ ks,P p)→P (.mk k n x xs gs ks)):∀ ks:List Pl,∀ p ∈ ks,P p
 | [],_,hx=>by simp at hx
 | y :: r,x,hx=>by
  rcases List.mem_cons.mp hx with e | hx
  ·exact e ▸ Pl.ind h y
  ·exact Pl.FZ h r x hx
end
structure Pw where
 xa:Option Addr
 xc:Nat
 sa:Option Addr
 sc:Nat
 ga:Option Addr
 gc:Nat
 ka:Option Addr
 kc:Nat
abbrev dS (p:Pl) (q:Pw):Array Value:=#[.int .i64 p.k,.int .i64 p.n,.int .i64 p.x.k,.int .i64 p.x.v.1,.int .i64 p.x.v.2.1,.string p.x.v.2.2,.int .i64 p.x.c,.slice q.xa p.x.ks.length q.xc,.slice q.sa p.xs.length q.sc,.slice q.ga p.gs.length q.gc,.slice q.ka p.ks.length q.kc]
abbrev l7 (p:Pl) (q:Pw) (ca:Option Addr) (n cc:Nat) (na:Option Addr) (m nc:Nat):Array Value:=#[.int .i64 p.k,.int .i64 p.n,.int .i64 p.x.k,.int .i64 p.x.v.1,.int .i64 p.x.v.2.1,.string p.x.v.2.2,.int .i64 p.x.c,.slice q.xa p.x.ks.length q.xc,.slice q.sa p.xs.length q.sc,.slice q.ga p.gs.length q.gc,.slice q.ka p.ks.length q.kc,.slice ca n cc,.slice na m nc]
abbrev BM (p:Pl) (q:Pw) (a:Option Addr) (l c:Nat):Array Value:=#[.int .i64 p.k,.int .i64 p.n,.int .i64 p.x.k,.int .i64 p.x.v.1,.int .i64 p.x.v.2.1,.string p.x.v.2.2,.int .i64 p.x.c,.slice q.xa p.x.ks.length q.xc,.slice q.sa p.xs.length q.sc,.slice q.ga p.gs.length q.gc,.slice a l c]
abbrev L9 (p:Pl) (q:Pw) (v:Value):Array Value:=#[.int .i64 p.k,.int .i64 p.n,.int .i64 p.x.k,.int .i64 p.x.v.1,.int .i64 p.x.v.2.1,.string p.x.v.2.2,.int .i64 p.x.c,.slice q.xa p.x.ks.length q.xc,.slice q.sa p.xs.length q.sc,.slice q.ga p.gs.length q.gc,v]
abbrev xw (p:Pl) (q:Pw) (a:Option Addr) (l c:Nat) (ca:Option Addr) (n cc:Nat) (na:Option Addr) (m nc:Nat):Array Value:=#[.int .i64 p.k,.int .i64 p.n,.int .i64 p.x.k,.int .i64 p.x.v.1,.int .i64 p.x.v.2.1,.string p.x.v.2.2,.int .i64 p.x.c,.slice q.xa p.x.ks.length q.xc,.slice q.sa p.xs.length q.sc,.slice q.ga p.gs.length q.gc,.slice a l c,.slice ca n cc,.slice na m nc]
structure iA (W:World) (b off:Nat) (p:Pl) (q:Pw):Prop where
 c0:W.cell? ⟨b,off,none⟩=some (.int .i64 p.k)
 c1:W.cell? ⟨b,off+1,none⟩=some (.int .i64 p.n)
 sg:jP W b (off+2) p.x.k p.x.v p.x.c q.xa p.x.ks.length q.xc
 c8:W.cell? ⟨b,off+8,none⟩=some (.slice q.sa p.xs.length q.sc)
 c9:W.cell? ⟨b,off+9,none⟩=some (.slice q.ga p.gs.length q.gc)
 eM:W.cell? ⟨b,off+10,none⟩=some (.slice q.ka p.ks.length q.kc)
theorem iA.next {B:Nat} {W w1:World} {b off:Nat} {p:Pl} {q:Pw} (h:iA W b off p q) (hb:Below B W w1) (hB:b<B):iA w1 b off p q :=
 ⟨(hb.cell (p:=⟨b,_,none⟩) hB).trans h.c0,(hb.cell (p:=⟨b,_,none⟩) hB).trans h.c1,h.sg.next hb hB,(hb.cell (p:=⟨b,_,none⟩) hB).trans h.c8,(hb.cell (p:=⟨b,_,none⟩) hB).trans h.c9,(hb.cell (p:=⟨b,_,none⟩) hB).trans h.eM⟩
theorem iA.oE {t:Nat} {W w1:World} {b off:Nat} {p:Pl} {q:Pw} (h:iA W b off p q) (hb:aP t W w1) (hB:b<W.heap.size) (hn:b≠t):iA w1 b off p q :=
 ⟨(hb.cell (p:=⟨b,_,none⟩) hB hn).trans h.c0,(hb.cell (p:=⟨b,_,none⟩) hB hn).trans h.c1,h.sg.oE hb hB hn,(hb.cell (p:=⟨b,_,none⟩) hB hn).trans h.c8,(hb.cell (p:=⟨b,_,none⟩) hB hn).trans h.c9,(hb.cell (p:=⟨b,_,none⟩) hB hn).trans h.eM⟩
inductive jF (B:Nat) (W:World):Option Addr→List Pl→Prop
 | nil (a:Option Addr):jF B W a []
 | some (b off:Nat) (l:List Pl) (q:Nat→Pw) (hb:b<B)
   (hc:∀ (i:Nat) (h:i<l.length),iA W b (off+i*11) l[i] (q i))
   (hx:∀ (i:Nat) (h:i<l.length),aX B W (q i).xa l[i].x.ks)
   (hs:∀ (i:Nat) (h:i<l.length),aX B W (q i).sa l[i].xs)
   (hg:∀ (i:Nat) (h:i<l.length),ie B W (q i).ga l[i].gs)
   (hk:∀ (i:Nat) (h:i<l.length),jF B W (q i).ka l[i].ks):jF B W (some ⟨b,off,none⟩) l
theorem jF.next {B B':Nat} {W w1:World} (hb:Below B' W w1) (hB:B≤B') {a:Option Addr} {l:List Pl} (h:jF B W a l):jF B w1 a l:=by
 induction h with
 | nil a=>exact .nil a
 | some b off l q hlt hc hx hs hg _ ih=>exact .some b off l q hlt (fun i hi=>(hc i hi).next hb (Mh hlt hB)) (fun i hi=>aX.next hb hB (hx i hi)) (fun i hi=>aX.next hb hB (hs i hi)) (fun i hi=>ie.next hb hB (hg i hi)) ih
theorem jF.up {B B':Nat} {W:World} (hB:B≤B') {a:Option Addr} {l:List Pl} (h:jF B W a l):jF B' W a l:=by
 induction h with
 | nil a=>exact .nil a
 | some b off l q hlt hc hx hs hg _ ih=>exact .some b off l q (Mh hlt hB) hc (fun i hi=>(hx i hi).up hB) (fun i hi=>(hs i hi).up hB) (fun i hi=>(hg i hi).up hB) ih
structure oh (B:Nat) (W:World) (p:Pl) (q:Pw):Prop where
 x:aX B W q.xa p.x.ks
 xs:aX B W q.sa p.xs
 gs:ie B W q.ga p.gs
 ks:jF B W q.ka p.ks
theorem oh.next {B B':Nat} {W w1:World} {p:Pl} {q:Pw} (h:oh B W p q) (hb:Below B' W w1) (hB:B≤B'):oh B w1 p q:=⟨aX.next hb hB h.x,aX.next hb hB h.xs,ie.next hb hB h.gs,jF.next hb hB h.ks⟩
theorem oh.up {B B':Nat} {W:World} {p:Pl} {q:Pw} (h:oh B W p q) (hB:B≤B'):oh B' W p q:=⟨h.x.up hB,h.xs.up hB,h.gs.up hB,h.ks.up hB⟩
theorem jF.elem {B:Nat} {W:World} {a:Option Addr} {l:List Pl} (h:jF B W a l) {k:Nat} (hk:k<l.length) :
  ∃ b off q,a=Option.some ⟨b,off,none⟩∧b<B∧iA W b (off+k*11) l[k] q∧oh B W l[k] q:=by
 cases h with
 | nil=>simp at hk
 | some b off l q hlt hc hx hs hg hh=>exact ⟨b,off,q k,rfl,hlt,hc k hk,⟨hx k hk,hs k hk,hg k hk,hh k hk⟩⟩
end Go.Proofs.YtjebpkhkjkjphaaGreat
namespace Go.Proofs.YtjebpkhkjkjphaaGreat
open Go.RowKit Go.Lib Go.Shelf
set_option maxRecDepth 100000
set_option maxHeartbeats 16000000
theorem K7:(Tryz.prog.info? 129).map (fun i=>(i.zero,i.size,i.bytes))=some (some (.agg #[.slice none 0 0,.slice none 0 0]),2,48):=by kernel_rfl
theorem BR (a:Option Addr) (cap:Nat) (L:List Kp) (w:World) (h:uq w a L) (hl:L.length≤400) :
  Calls Tryz.prog 84 #[.slice a L.length cap] w fun e w'=>∃ v,e = .returned v∧kB w w.heap.size w' v (dp L)∧Below w.heap.size w w':=by
 obtain ⟨i0,hi,hj0,hj1,hj2⟩:=info_parts Tryz.gH;obtain ⟨ip,hip,hp0,hp1,hp2⟩:=info_parts K7;go_enter Tryz.func84,Tryz.ntmps84;go_wp2_with fail
 go_loopw [3,9] (fun v i wr=>∃ k:Nat,k≤L.length∧i = .int .i64 k∧kB w w.heap.size wr v (dp (L.take k))∧Below w.heap.size w wr) (fun _ i _=>L.length - (intOf i).toNat)
 case atStart=>exact ⟨0,Mj _,rfl,kB.nil _ _ _ (Mc _),Md _ _⟩
 case round =>
  obtain ⟨k,hk,rfl,HPs,hb⟩:=hrel;have hz:=hb.size;by_cases hlt:k<L.length
  ·obtain ⟨b,off,rfl,hbl,e2,⟨ra,rc,e1,sr⟩,ka,kc,e0,sk⟩:=h.elem hlt;have p2:=(hb.cell (p:=⟨b,_,none⟩) hbl).trans e2;have p1:=(hb.cell (p:=⟨b,_,none⟩) hbl).trans e1;have p0:=(hb.cell (p:=⟨b,_,none⟩) hbl).trans e0;have hbl':b<wr.heap.size:=Mh hbl hz;have HSr:=aw sr;have HSk:=aw sk;have HT:Hid (dp (L.take (k+1))=kL (cX (dp (L.take k)) L[k]) L[k].2):=xy hlt;have hsz:=oR (L.take k);rw [MH] at hsz;have HSm:Hid (∀ p ∈ dp (L.take k),p.2.length≤400):=fun p hp=>by have:=hsz.2 p hp; omega
   have hpn:(dp (L.take k)).length≤400:=by have:=hsz.1; omega
   obtain ⟨va,vc,ev⟩:∃ va vc,u3 = .slice va (dp (L.take k)).length vc:=by obtain ⟨_,_,_,_,I⟩:=HPs; exact dU I.own
   subst ev;have hal:=aa wr (.cells #[.slice ka L[k].1.length kc,.slice ra L[k].2.1.length rc,.int .i64 L[k].2.2] 132);have q0:=ak wr #[.slice ka L[k].1.length kc,.slice ra L[k].2.1.length rc,.int .i64 L[k].2.2] 132;have hbk:=chain hb hal;have HPk:=HPs.next hal;clear e0 e1 e2 sr sk hsz HPs;go_upto_region 5 with fail
   clear p0 p1 p2;generalize wr.alloc (.cells #[.slice ka L[k].1.length kc,.slice ra L[k].2.1.length rc,.int .i64 L[k].2.2] 132)=wk at *;obtain ⟨ps,eps⟩:∃ ps,ps=dp (L.take k):=⟨_,rfl⟩
   by_cases h0:ps.length=0
   ·have HOp:Hid (cX (dp (L.take k)) L[k]=ps ++ [(L[k].1,[])]):=by show _=_; rw [← eps]; exact CE h0 _
    rw [← eps] at HPk HSm hpn ⊢;clear eps;obtain rfl:ps = []:=Mo h0;haveI:Nonempty (dG wk):=⟨⟨wk,Md _ _⟩⟩
    refine aI (by kernel_rfl) (by kernel_rfl) ?_
    repeat (go_big_quiet_step (fail))
    refine wpQuiet_nil ?_;rintro wq ⟨⟨v7,hb7⟩,h7⟩;obtain rfl:wq=v7:=h7;have HPq:=HPk.next hb7;have hbq:=chain hbk hb7;have qq:=(hb7.block _ (ae q0)).trans q0;clear HPk h0;obtain ⟨xs,Bl,rv,zs,In⟩:=HPq;have ho:=In.own;have HInq:=aw In;have kq:wq.cell? ⟨wr.heap.size,0,none⟩=some (.slice ka L[k].1.length kc):=cell_of (i:=0) qq rfl;have hzq:=hbq.size;clear In
    go_wp2_with (first | (at_builtin; refine M9 _ rfl _ _ 124 rfl w.heap.size 129 ip _ 2 48 Tryz.underlying124 hip hp0 hp1 hp2 rfl (by decide) _ _ _ rfl (ho.alloc _) ⟨wq.heap.size,0,none⟩ 1 1 [.slice ka L[k].1.length kc,.slice none 0 0] rfl rfl ?Bc1 ?Bc2 ?Bc3 ?Bc4 ?Bc5 ?_))
    case Bc1 =>
     intro i u hu
     match i,hu with
     | 0,hu=>simp at hu; subst hu; simp [Addr.add]
     | 1,hu=>simp at hu; subst hu; simp [Addr.add]
    case Bc2=>intro u hu; simp at hu; rcases hu with rfl | rfl <;> rfl
    case Bc3=>unfold maxLen; omega
    case Bc4=>omega
    case Bc5=>simp; omega
    intro v' wx ox gx _;have halq:=aa wq (.cells #[.slice ka L[k].1.length kc,.slice none 0 0] 129);have oq:=ho.alloc (.cells #[.slice ka L[k].1.length kc,.slice none 0 0] 129);have HPx:kB w w.heap.size wx v' (([]:List Pt) ++ [(L[k].1,[])]):=(HInq.out.next halq).push HSk.out gx (by first | exact ox | (rw [hm]; exact ox));have hbx:Below w.heap.size w wx:=(chain hbq halq).grown gx (by simp; omega) (fun q hq=>(oq.lt q hq).1)
    have qx:wx.heap[wr.heap.size]? = some (.cells #[.slice ka L[k].1.length kc,.slice ra L[k].2.1.length rc,.int .i64 L[k].2.2] 132 (0,0)):=by
     have qa:=(halq.block _ (ae qq)).trans qq;exact (gx.block _ (ae qa) (fun e=>jc oq qa (by decide) e.symm)).trans qa
    have q0x:=qx;obtain ⟨ps1,eps1⟩:∃ ps1,ps1=([]:List Pt) ++ [(L[k].1,[])]:=⟨_,rfl⟩
    obtain ⟨m,hmm⟩:∃ m,m=0:=⟨_,rfl⟩
    have hm4:m≤400:=by omega
    rw [← eps1] at HPx;have hm1:ps1.length=m+1:=by rw [hmm,eps1,Mw]; first | rfl | (rw [hm]; rfl)
    have eo:cX (dp (L.take k)) L[k]=ps1:=by rw [eps1]; exact HOp.out
    have hsm:∀ p ∈ ps1,p.2.length≤400:=fun p hp=>by
     rw [eps1] at hp;rcases List.mem_append.1 hp with hp | hp
     ·exact HSm.out p hp
     ·rw [List.mem_singleton.1 hp]; exact Mj _
    obtain ⟨g,c,evx⟩:∃ g c,v' = .slice (some ⟨g,0,none⟩) ps1.length c:=by
     obtain ⟨xs',_,_,_,I'⟩:=HPx;rcases I'.own.2 with ⟨_,h2⟩ | ⟨g2,c2,_,h2,_⟩
     ·omega
     ·exact ⟨g2,c2,h2⟩
    subst evx;clear eps1 ox gx oq HInq ho kq halq hmm;have hmlt:m<ps1.length:=by omega
    obtain ⟨xs,Bl,rv,zs,In⟩:=HPx;have HIn:=aw In;have hgB:w.heap.size≤g:=(In.own.lt g rfl).1;have hgx:g<wx.heap.size:=(In.own.lt g rfl).2;have hgl:g=wr.heap.size→False:=fun e=>jc In.own q0x (by decide) (show some g=some wr.heap.size by rw [e])
    obtain ⟨rva,rvc,erv⟩:∃ rva rvc,rv m = .slice rva ps1[m].2.length rvc:=dU (In.row m hmlt).1;have cx:wx.cell? ⟨g,m*2+1,none⟩=some (.slice rva ps1[m].2.length rvc):=by
     have:=In.own;rw [this.cellAt _ (by omega),In.cell m hmlt,erv]
    have hrow1:ps1[m].2.length≤400:=hsm ps1[m] (Mk hmlt);have ev:Value.slice (some ⟨g,0,none⟩) (m+1) c = .slice (some ⟨g,0,none⟩) ps1.length c:=by rw [hm1]
    have m0:(0:Int)≤(m:Int):=by omega
    have m1:(m:Int)<(m:Int)+1:=by omega
    have m2:(m:Int)≤400:=by omega
    clear In;try rw [hm1]
    go_upto_region 8 with fail
    have hCC:∀ W W':World,(W.heap[wr.heap.size]? = some (.cells #[.slice ka L[k].1.length kc,.slice ra L[k].2.1.length rc,.int .i64 L[k].2.2] 132 (0,0)))→Below W.heap.size W W'→(W'.heap[wr.heap.size]? = some (.cells #[.slice ka L[k].1.length kc,.slice ra L[k].2.1.length rc,.int .i64 L[k].2.2] 132 (0,0))):=fun W W' h hb=>(hb.block _ (ae h)).trans h
    have hdr:Below wx.heap.size wx wx.drew:=(Md _ _).drew;have CW:(wx.drew.heap[wr.heap.size]? = some (.cells #[.slice ka L[k].1.length kc,.slice ra L[k].2.1.length rc,.int .i64 L[k].2.2] 132 (0,0))):=hCC _ _ q0x hdr;refine aH (fun W=>(W.heap[wr.heap.size]? = some (.cells #[.slice ka L[k].1.length kc,.slice ra L[k].2.1.length rc,.int .i64 L[k].2.2] 132 (0,0)))) (by kernel_rfl) ?_;refine az hCC 40 0 (.pointer (some ⟨g,m*2,none⟩)) (fun n hn=>?_) CW ?_
    ·go_simp
    simp only [pD,pB,pC];refine az hCC 41 1 (.pointer (some ⟨g,m*2,none⟩)) (fun n hn=>?_) CW ?_
    ·go_simp
    simp only [pD,pB,pC];refine az hCC 42 2 (.pointer (some ⟨g,m*2,none⟩)) (fun n hn=>?_) CW ?_
    ·go_simp
    simp only [pD,pB,pC];refine az hCC 43 3 (.pointer (some ⟨g,m*2+1,none⟩)) (fun n hn=>?_) CW ?_
    ·go_simp
    simp only [pD,pB,pC];refine az hCC 45 5 (.pointer (some ⟨wr.heap.size,1,none⟩)) (fun n hn=>?_) CW ?_
    ·go_simp
    simp only [pD,pB,pC];refine az hCC 46 6 (.agg #[.slice ra L[k].2.1.length rc,.int .i64 L[k].2.2]) (fun n hn=>?_) CW ?_
    ·have hc:n.cell? ⟨wr.heap.size,1,none⟩=some (.slice ra L[k].2.1.length rc):=cell_of (i:=1) hn rfl;have hc1:n.cell? ⟨wr.heap.size,2,none⟩=some (.int .i64 L[k].2.2):=cell_of (i:=2) hn rfl;go_simp
    simp only [pD,pB,pC];refine mI (rs:=[4,7]) (by kernel_rfl) (by simp) ?_;intro w3 hb3 jj hj;have D3:=chain hdr hb3;have CW3:=hCC _ _ CW hb3;rcases (by simpa using hj:jj=4∨jj=7) with rfl | rfl
    clear hj;have c3:=(D3.cell (p:=⟨g,m*2+1,none⟩) hgx).trans cx;refine wpOp_step rfl (fun K hK=>?_);go_simp;refine hK _ _ ⟨CW3,?_⟩;clear hK K;try simp only [pD,pB,pC]
    refine bD 7 ?_;intro w5 hb5
    refine wpOp_step rfl (fun K hK=>?_);go_simp;have hal5:=aa w5 (.cells #[.slice ra L[k].2.1.length rc,.int .i64 L[k].2.2] 63);have q6:=ak w5 #[.slice ra L[k].2.1.length rc,.int .i64 L[k].2.2] 63;have D6:=chain (chain D3 hb5) hal5;have CWt:=hCC _ _ (hCC _ _ CW3 hb5) hal5;refine hK _ _ ⟨CWt,?_⟩;clear hK K c3 CW3;generalize w5.alloc (.cells #[.slice ra L[k].2.1.length rc,.int .i64 L[k].2.2] 63)=w6 at *;try simp only [pD,pB,pC]
    refine bD 8 ?_;intro w7 hb7
    have D7:=chain D6 hb7;have CW7:=hCC _ _ CWt hb7;have q7:=(hb7.block _ (ae q6)).trans q6;have I7:=HIn.out.next D7;have rl7:w7.ownsRow Bl 63 2 (.slice rva ps1[m].2.length rvc) ps1[m].2.length (zs m):=by
     have:=(I7.row m hmlt).1;rw [if_pos hm1.symm,erv] at this;exact this
    have hBl7:=I7.hi;refine wpOp_step rfl (fun K hK=>?_);refine Eq.mpr (if_pos (by kernel_rfl)) ?_;refine bW (some 48) rfl (Operand.tmp 44) (Operand.tmp 47) 37 rfl Bl 63 i0 _ 2 32 Tryz.underlying37 hi hj0 hj1 hj2 rfl (by decide) (.slice rva ps1[m].2.length rvc) ps1[m].2.length (zs m) rfl rl7 ⟨w5.heap.size,0,none⟩ 1 1 [.slice ra L[k].2.1.length rc,.int .i64 L[k].2.2] rfl rfl ?Ac1 ?Ac2 ?Ac3 ?Ac4 ?Ac5 ?_
    case Ac1 =>
     intro j u hj
     match j,hj with
     | 0,hj=>simp at hj; subst hj; exact cell_of (i:=0) q7 rfl
     | 1,hj=>simp at hj; subst hj; exact cell_of (i:=1) q7 rfl
    case Ac2=>intro u hu; simp at hu; rcases hu with rfl | rfl <;> rfl
    case Ac3=>unfold maxLen; omega
    case Ac4=>omega
    case Ac5=>exact hBl7
    rotate_left;clear hj;refine wpOp_step rfl (fun K hK=>?_);go_simp;have hal4:=aa w3 (.cells #[.slice ra L[k].2.1.length rc,.int .i64 L[k].2.2] 63);have q4:=ak w3 #[.slice ra L[k].2.1.length rc,.int .i64 L[k].2.2] 63;have D4:=chain D3 hal4;have CW4:=hCC _ _ CW3 hal4;refine hK _ _ ⟨CW4,?_⟩;clear hK K;generalize w3.alloc (.cells #[.slice ra L[k].2.1.length rc,.int .i64 L[k].2.2] 63)=w4 at *;try simp only [pD,pB,pC]
    refine bD 4 ?_;intro w6 hb6
    have D6:=chain D4 hb6;have CWt:=hCC _ _ CW4 hb6;have q6:=(hb6.block _ (ae q4)).trans q4;have c6:=(D6.cell (p:=⟨g,m*2+1,none⟩) hgx).trans cx;refine wpOp_step rfl (fun K hK=>?_);go_simp;refine hK _ _ ⟨CWt,?_⟩;clear hK K c6 CW3 CW4;try simp only [pD,pB,pC]
    refine bD 8 ?_;intro w7 hb7
    have D7:=chain D6 hb7;have CW7:=hCC _ _ CWt hb7;have q7:=(hb7.block _ (ae q6)).trans q6;have I7:=HIn.out.next D7;have rl7:w7.ownsRow Bl 63 2 (.slice rva ps1[m].2.length rvc) ps1[m].2.length (zs m):=by
     have:=(I7.row m hmlt).1;rw [if_pos hm1.symm,erv] at this;exact this
    have hBl7:=I7.hi;refine wpOp_step rfl (fun K hK=>?_);refine Eq.mpr (if_pos (by kernel_rfl)) ?_;refine bW (some 48) rfl (Operand.tmp 44) (Operand.tmp 47) 37 rfl Bl 63 i0 _ 2 32 Tryz.underlying37 hi hj0 hj1 hj2 rfl (by decide) (.slice rva ps1[m].2.length rvc) ps1[m].2.length (zs m) rfl rl7 ⟨w3.heap.size,0,none⟩ 1 1 [.slice ra L[k].2.1.length rc,.int .i64 L[k].2.2] rfl rfl ?Ac1 ?Ac2 ?Ac3 ?Ac4 ?Ac5 ?_
    case Ac1 =>
     intro j u hj
     match j,hj with
     | 0,hj=>simp at hj; subst hj; exact cell_of (i:=0) q7 rfl
     | 1,hj=>simp at hj; subst hj; exact cell_of (i:=1) q7 rfl
    case Ac2=>intro u hu; simp at hu; rcases hu with rfl | rfl <;> rfl
    case Ac3=>unfold maxLen; omega
    case Ac4=>omega
    case Ac5=>exact hBl7
    all_goals
     intro v8 w8 o8 g8 _;have nb8:∀ q,Value.ownBlock (.slice rva ps1[m].2.length rvc)=some q→w.heap.size≤q∧q<w7.heap.size∧(q=wr.heap.size→False)∧(q=g→False):=fun q hq=>by
      have h1:=rl7.lt q hq;refine ⟨Mr I7.lo h1.1,h1.2,fun e=>?_,fun e=>?_⟩
      ·exact jc rl7 CW7 (by decide) (by rw [hq,e])
      ·have o7:=I7.own;rcases mb (by decide) rl7 o7 with h2 | h2
       ·rw [h2] at hq; cases hq
       ·exact h2 (by rw [hq,e]; rfl)
     have CW8:(w8.heap[wr.heap.size]? = some (.cells #[.slice ka L[k].1.length kc,.slice ra L[k].2.1.length rc,.int .i64 L[k].2.2] 132 (0,0))):=(g8.block _ (ae CW7) (fun e=>(nb8 _ e.symm).2.2.1 rfl)).trans CW7;have c8:w8.cell? ⟨g,m*2+1,none⟩=some (.slice rva ps1[m].2.length rvc)∧w8.frozen? ⟨g,m*2+1,none⟩=false:=by
      have o7:=I7.own;rw [hm1] at o7;have hb8:w8.heap[g]? = w7.heap[g]?:=g8.block g (o7.lt g rfl).2 (fun e=>(nb8 _ e.symm).2.2.2 rfl);refine ⟨(Mv (a:=⟨g,m*2+1,none⟩) hb8).trans ?_,(Nt (a:=⟨g,m*2+1,none⟩) hb8).trans (o7.frozenAt _)⟩;rw [o7.cellAt _ (by omega),I7.cell m hmlt,erv]
     have hg8:g<w8.heap.size:=by
      have o7:=I7.own;rw [hm1] at o7;exact Mh (o7.lt g rfl).2 g8.size
     refine hK _ _ ⟨CW8,?_⟩;clear hK K;try simp only [pD,pB,pC]
     refine az hCC 49 9 (.pointer (some ⟨g,m*2,none⟩)) (fun n hn=>?_) CW8 ?_
     ·go_simp
     simp only [pD,pB,pC];refine az hCC 50 10 (.pointer (some ⟨g,m*2+1,none⟩)) (fun n hn=>?_) CW8 ?_
     ·go_simp
     simp only [pD,pB,pC];refine bD 11 ?_;intro w9 hb9
     have c9:w9.cell? ⟨g,m*2+1,none⟩=some (.slice rva ps1[m].2.length rvc):=(hb9.cell (p:=⟨g,m*2+1,none⟩) hg8).trans c8.1;have f9:w9.frozen? ⟨g,m*2+1,none⟩=false:=(hb9.frozen (p:=⟨g,m*2+1,none⟩) hg8).trans c8.2;have CW9:=hCC _ _ CW8 hb9;obtain ⟨v8a,v8c,ev8⟩:∃ v8a v8c,v8 = .slice v8a (ps1[m].2.length+1) v8c:=dU o8;have P9:kB w w.heap.size (w9.setCell ⟨g,m*2+1,none⟩ v8) (.slice (some ⟨g,0,none⟩) (m+1) c) (kL ps1 L[k].2):=by
      have I7':=I7;rw [← ev] at I7';exact oe.put I7' hm1 (rc:=rc) HSr.out (by rw [erv]; exact g8) o8 hb9
     have B9:Below w.heap.size w (w9.setCell ⟨g,m*2+1,none⟩ v8):=((chain ((chain hbx D7).trans ((Md _ _).grown g8 (Mr hbx.size D7.size) (fun q hq=>(nb8 q hq).1))) hb9)).setCell (p:=⟨g,m*2+1,none⟩) hgB _;have CW10:((w9.setCell ⟨g,m*2+1,none⟩ v8).heap[wr.heap.size]? = some (.cells #[.slice ka L[k].1.length kc,.slice ra L[k].2.1.length rc,.int .i64 L[k].2.2] 132 (0,0))):=(ML _ _ _ _ (fun e=>hgl e.symm)).trans CW9;subst ev8;refine wpOp_step rfl (fun K hK=>?_);go_simp;refine hK _ _ ⟨CW10,?_⟩;clear hK K CW7 CW8 CW9 c8 c9 f9 nb8 rl7 I7 q7 o8 g8
     generalize w9.setCell ⟨g,m*2+1,none⟩ (.slice v8a (ps1[m].2.length+1) v8c)=wS at *;try simp only [pD,pB,pC]
     refine bo (by kernel_rfl) ?_;intro wT hbT;have PT:=P9.next hbT;have BT:=chain B9 hbT;clear P9 B9 CW10 CW CWt;go_wp2_with fail
     go_roundw
     case rel=>exact ⟨k+1,by omega,by go_num,by rw [HT.out,eo]; first | exact PT | (rw [hm1]; exact PT),BT⟩
     case measure=>simp [intOf]; omega
   ·obtain ⟨mm,hm⟩:∃ mm,ps.length=mm+1:=⟨ps.length - 1,by omega⟩
    have hmm:mm<ps.length:=by omega
    rw [← eps] at HPk HSm hpn ⊢;have Eps:=aw eps;clear eps;rw [hm] at HPk ⊢;obtain ⟨g0,eva⟩:∃ g0,va=some ⟨g0,0,none⟩:=by
     obtain ⟨_,_,_,_,I⟩:=HPk;rcases I.own.2 with ⟨_,h2⟩ | ⟨g2,c2,_,h2,_⟩
     ·omega
     ·exact ⟨g2,by injection h2⟩
    subst eva;obtain ⟨la,lc,ck,sk,hgk⟩:∃ la lc,wk.cell? ⟨g0,mm*2,none⟩=some (.slice la ps[mm].1.length lc)∧bg w la ps[mm].1∧g0<wk.heap.size:=by
     obtain ⟨xs,_,_,_,I⟩:=HPk;obtain ⟨la,lc,x0,s0⟩:=I.key mm hmm;have o:=I.own;rw [hm] at o;exact ⟨la,lc,by rw [o.cellAt _ (by omega)]; exact x0,s0,(o.lt g0 rfl).2⟩
    have HSl:=aw sk;have m0:(0:Int)≤(mm:Int):=by omega
    have m1:(mm:Int)<(mm:Int)+1:=by omega
    have m2:(mm:Int)≤400:=by omega
    have mne:¬ (mm:Int)+1=0:=by omega
    have hCC:∀ W W':World,(W.heap[wr.heap.size]? = some (.cells #[.slice ka L[k].1.length kc,.slice ra L[k].2.1.length rc,.int .i64 L[k].2.2] 132 (0,0))∧W.cell? ⟨g0,mm*2,none⟩=some (.slice la ps[mm].1.length lc))→Below W.heap.size W W'→(W'.heap[wr.heap.size]? = some (.cells #[.slice ka L[k].1.length kc,.slice ra L[k].2.1.length rc,.int .i64 L[k].2.2] 132 (0,0))∧W'.cell? ⟨g0,mm*2,none⟩=some (.slice la ps[mm].1.length lc)):=fun W W' h hb=>⟨(hb.block _ (ae h.1)).trans h.1,(hb.cell (Mm _ _ h.2)).trans h.2⟩
    have hdr:Below wk.heap.size wk wk.drew:=(Md _ _).drew;have CW:(wk.drew.heap[wr.heap.size]? = some (.cells #[.slice ka L[k].1.length kc,.slice ra L[k].2.1.length rc,.int .i64 L[k].2.2] 132 (0,0))∧wk.drew.cell? ⟨g0,mm*2,none⟩=some (.slice la ps[mm].1.length lc)):=hCC _ _ ⟨q0,ck⟩ hdr;clear sk h0;refine aH (fun W=>(W.heap[wr.heap.size]? = some (.cells #[.slice ka L[k].1.length kc,.slice ra L[k].2.1.length rc,.int .i64 L[k].2.2] 132 (0,0))∧W.cell? ⟨g0,mm*2,none⟩=some (.slice la ps[mm].1.length lc))) (by kernel_rfl) ?_
    refine az hCC 13 0 (.slice (some ⟨g0,0,none⟩) (mm+1) vc) (fun n hn=>?_) CW ?_
    ·go_simp
    simp only [pD,pB,pC];refine az hCC 14 1 (.int .i64 ((mm:Int)+1)) (fun n hn=>?_) CW ?_
    ·go_simp
    simp only [pD,pB,pC];refine az hCC 15 2 (.bool false) (fun n hn=>?_) CW ?_
    ·go_simp
    simp only [pD,pB,pC];refine az hCC 16 3 (.bool false) (fun n hn=>?_) CW ?_
    ·go_simp
    simp only [pD,pB,pC];refine az hCC 17 4 (.slice (some ⟨g0,0,none⟩) (mm+1) vc) (fun n hn=>?_) CW ?_
    ·go_simp
    simp only [pD,pB,pC];refine az hCC 18 5 (.slice (some ⟨g0,0,none⟩) (mm+1) vc) (fun n hn=>?_) CW ?_
    ·go_simp
    simp only [pD,pB,pC];refine az hCC 19 6 (.int .i64 ((mm:Int)+1)) (fun n hn=>?_) CW ?_
    ·go_simp
    simp only [pD,pB,pC];refine az hCC 20 7 (.int .i64 (mm:Int)) (fun n hn=>?_) CW ?_
    ·go_simp;exact IntWalk.i64_in _ ⟨by omega,by omega⟩
    simp only [pD,pB,pC];refine az hCC 21 8 (.pointer (some ⟨g0,mm*2,none⟩)) (fun n hn=>?_) CW ?_
    ·go_simp
    simp only [pD,pB,pC];refine az hCC 22 9 (.pointer (some ⟨g0,mm*2,none⟩)) (fun n hn=>?_) CW ?_
    ·go_simp
    simp only [pD,pB,pC];refine az hCC 23 10 (.slice la ps[mm].1.length lc) (fun n hn=>?_) CW ?_
    ·have hc:=hn.2;go_simp
    simp only [pD,pB,pC];refine az hCC 24 11 (.pointer (some ⟨wr.heap.size,0,none⟩)) (fun n hn=>?_) CW ?_
    ·go_simp
    simp only [pD,pB,pC];refine az hCC 25 12 (.slice ka L[k].1.length kc) (fun n hn=>?_) CW ?_
    ·have hc:n.cell? ⟨wr.heap.size,0,none⟩=some (.slice ka L[k].1.length kc):=cell_of (i:=0) hn.1 rfl;go_simp
    simp only [pD,pB,pC];refine bD 13 ?_;intro w3 hb3
    have CW3:=hCC _ _ CW hb3;have D3:=chain hdr hb3;have con:=mK la ka lc kc ps[mm].1 L[k].1 w3 (HSl.out.next (chain hbk D3)) (HSk.out.next (chain hbk D3));generalize hcm:aK ps[mm].1 L[k].1=cm at con;have HCm:=aw hcm;clear hcm;refine wpOp_step rfl (fun K hK=>?_);go_simp;refine con.mono ?_;rintro e w4 ⟨rfl,hb4⟩;clear con;have CW4:=hCC _ _ CW3 hb4;have D4:=chain D3 hb4;refine hK _ _ ⟨CW4,?_⟩;clear hK K CW3
    refine az hCC 27 14 (.bool (cm != 0)) (fun n hn=>?_) CW4 ?_
    ·go_simp
    simp only [pD,pB,pC];refine az hCC 28 15 (.bool (cm != 0)) (fun n hn=>?_) CW4 ?_
    ·go_simp
    simp only [pD,pB,pC];refine bo (by kernel_rfl) ?_;intro wq hbw;have D5:=chain D4 hbw;have HPq:=HPk.next D5;have hbq:=chain hbk D5;have qq:=(D5.block _ (ae q0)).trans q0;clear CW CW4 hCC D4 D3 D5 hbw HPk;by_cases hc0:cm=0
    ·have hcb:(cm != 0)=false:=by simp [hc0]
     rw [hcb];have eo:cX (dp (L.take k)) L[k]=ps:=by rw [← Eps.out]; exact zm hm (by rw [HCm.out]; exact hc0)
     clear Eps hcb;obtain ⟨wx,hwx⟩:∃ z,z=wq:=⟨_,rfl⟩
     subst hwx;obtain ⟨m,hmx⟩:∃ z,z=mm:=⟨_,rfl⟩
     subst hmx;obtain ⟨ps1,hpx⟩:∃ z,z=ps:=⟨_,rfl⟩
     subst hpx;obtain ⟨g,hgx0⟩:∃ z,z=g0:=⟨_,rfl⟩
     subst hgx0;obtain ⟨c,hcx⟩:∃ z,z=vc:=⟨_,rfl⟩
     subst hcx;have hm1:=hm;have q0x:=qq;have hbx:=hbq;have hsm:=HSm.out;have HPx:kB w w.heap.size wx (.slice (some ⟨g,0,none⟩) ps1.length c) ps1:=by rw [hm]; exact HPq
     clear HPq;go_wp2_with fail
     have hmlt:m<ps1.length:=by omega
     obtain ⟨xs,Bl,rv,zs,In⟩:=HPx;have HIn:=aw In;have hgB:w.heap.size≤g:=(In.own.lt g rfl).1;have hgx:g<wx.heap.size:=(In.own.lt g rfl).2;have hgl:g=wr.heap.size→False:=fun e=>jc In.own q0x (by decide) (show some g=some wr.heap.size by rw [e])
     obtain ⟨rva,rvc,erv⟩:∃ rva rvc,rv m = .slice rva ps1[m].2.length rvc:=dU (In.row m hmlt).1;have cx:wx.cell? ⟨g,m*2+1,none⟩=some (.slice rva ps1[m].2.length rvc):=by
      have:=In.own;rw [this.cellAt _ (by omega),In.cell m hmlt,erv]
     have hrow1:ps1[m].2.length≤400:=hsm ps1[m] (Mk hmlt);have ev:Value.slice (some ⟨g,0,none⟩) (m+1) c = .slice (some ⟨g,0,none⟩) ps1.length c:=by rw [hm1]
     have m0:(0:Int)≤(m:Int):=by omega
     have m1:(m:Int)<(m:Int)+1:=by omega
     have m2:(m:Int)≤400:=by omega
     clear In;try rw [hm1]
     go_upto_region 8 with fail
     have hCC:∀ W W':World,(W.heap[wr.heap.size]? = some (.cells #[.slice ka L[k].1.length kc,.slice ra L[k].2.1.length rc,.int .i64 L[k].2.2] 132 (0,0)))→Below W.heap.size W W'→(W'.heap[wr.heap.size]? = some (.cells #[.slice ka L[k].1.length kc,.slice ra L[k].2.1.length rc,.int .i64 L[k].2.2] 132 (0,0))):=fun W W' h hb=>(hb.block _ (ae h)).trans h
     have hdr:Below wx.heap.size wx wx.drew:=(Md _ _).drew;have CW:(wx.drew.heap[wr.heap.size]? = some (.cells #[.slice ka L[k].1.length kc,.slice ra L[k].2.1.length rc,.int .i64 L[k].2.2] 132 (0,0))):=hCC _ _ q0x hdr;refine aH (fun W=>(W.heap[wr.heap.size]? = some (.cells #[.slice ka L[k].1.length kc,.slice ra L[k].2.1.length rc,.int .i64 L[k].2.2] 132 (0,0)))) (by kernel_rfl) ?_;refine az hCC 40 0 (.pointer (some ⟨g,m*2,none⟩)) (fun n hn=>?_) CW ?_
     ·go_simp
     simp only [pD,pB,pC];refine az hCC 41 1 (.pointer (some ⟨g,m*2,none⟩)) (fun n hn=>?_) CW ?_
     ·go_simp
     simp only [pD,pB,pC];refine az hCC 42 2 (.pointer (some ⟨g,m*2,none⟩)) (fun n hn=>?_) CW ?_
     ·go_simp
     simp only [pD,pB,pC];refine az hCC 43 3 (.pointer (some ⟨g,m*2+1,none⟩)) (fun n hn=>?_) CW ?_
     ·go_simp
     simp only [pD,pB,pC];refine az hCC 45 5 (.pointer (some ⟨wr.heap.size,1,none⟩)) (fun n hn=>?_) CW ?_
     ·go_simp
     simp only [pD,pB,pC];refine az hCC 46 6 (.agg #[.slice ra L[k].2.1.length rc,.int .i64 L[k].2.2]) (fun n hn=>?_) CW ?_
     ·have hc:n.cell? ⟨wr.heap.size,1,none⟩=some (.slice ra L[k].2.1.length rc):=cell_of (i:=1) hn rfl;have hc1:n.cell? ⟨wr.heap.size,2,none⟩=some (.int .i64 L[k].2.2):=cell_of (i:=2) hn rfl;go_simp
     simp only [pD,pB,pC];refine mI (rs:=[4,7]) (by kernel_rfl) (by simp) ?_;intro w3 hb3 jj hj;have D3:=chain hdr hb3;have CW3:=hCC _ _ CW hb3;rcases (by simpa using hj:jj=4∨jj=7) with rfl | rfl
     clear hj;have c3:=(D3.cell (p:=⟨g,m*2+1,none⟩) hgx).trans cx;refine wpOp_step rfl (fun K hK=>?_);go_simp;refine hK _ _ ⟨CW3,?_⟩;clear hK K;try simp only [pD,pB,pC]
     refine bD 7 ?_;intro w5 hb5
     refine wpOp_step rfl (fun K hK=>?_);go_simp;have hal5:=aa w5 (.cells #[.slice ra L[k].2.1.length rc,.int .i64 L[k].2.2] 63);have q6:=ak w5 #[.slice ra L[k].2.1.length rc,.int .i64 L[k].2.2] 63;have D6:=chain (chain D3 hb5) hal5;have CWt:=hCC _ _ (hCC _ _ CW3 hb5) hal5;refine hK _ _ ⟨CWt,?_⟩;clear hK K c3 CW3;generalize w5.alloc (.cells #[.slice ra L[k].2.1.length rc,.int .i64 L[k].2.2] 63)=w6 at *;try simp only [pD,pB,pC]
     refine bD 8 ?_;intro w7 hb7
     have D7:=chain D6 hb7;have CW7:=hCC _ _ CWt hb7;have q7:=(hb7.block _ (ae q6)).trans q6;have I7:=HIn.out.next D7;have rl7:w7.ownsRow Bl 63 2 (.slice rva ps1[m].2.length rvc) ps1[m].2.length (zs m):=by
      have:=(I7.row m hmlt).1;rw [if_pos hm1.symm,erv] at this;exact this
     have hBl7:=I7.hi;refine wpOp_step rfl (fun K hK=>?_);refine Eq.mpr (if_pos (by kernel_rfl)) ?_;refine bW (some 48) rfl (Operand.tmp 44) (Operand.tmp 47) 37 rfl Bl 63 i0 _ 2 32 Tryz.underlying37 hi hj0 hj1 hj2 rfl (by decide) (.slice rva ps1[m].2.length rvc) ps1[m].2.length (zs m) rfl rl7 ⟨w5.heap.size,0,none⟩ 1 1 [.slice ra L[k].2.1.length rc,.int .i64 L[k].2.2] rfl rfl ?Ac1 ?Ac2 ?Ac3 ?Ac4 ?Ac5 ?_
     case Ac1 =>
      intro j u hj
      match j,hj with
      | 0,hj=>simp at hj; subst hj; exact cell_of (i:=0) q7 rfl
      | 1,hj=>simp at hj; subst hj; exact cell_of (i:=1) q7 rfl
     case Ac2=>intro u hu; simp at hu; rcases hu with rfl | rfl <;> rfl
     case Ac3=>unfold maxLen; omega
     case Ac4=>omega
     case Ac5=>exact hBl7
     rotate_left;clear hj;refine wpOp_step rfl (fun K hK=>?_);go_simp;have hal4:=aa w3 (.cells #[.slice ra L[k].2.1.length rc,.int .i64 L[k].2.2] 63);have q4:=ak w3 #[.slice ra L[k].2.1.length rc,.int .i64 L[k].2.2] 63;have D4:=chain D3 hal4;have CW4:=hCC _ _ CW3 hal4;refine hK _ _ ⟨CW4,?_⟩;clear hK K;generalize w3.alloc (.cells #[.slice ra L[k].2.1.length rc,.int .i64 L[k].2.2] 63)=w4 at *;try simp only [pD,pB,pC]
     refine bD 4 ?_;intro w6 hb6
     have D6:=chain D4 hb6;have CWt:=hCC _ _ CW4 hb6;have q6:=(hb6.block _ (ae q4)).trans q4;have c6:=(D6.cell (p:=⟨g,m*2+1,none⟩) hgx).trans cx;refine wpOp_step rfl (fun K hK=>?_);go_simp;refine hK _ _ ⟨CWt,?_⟩;clear hK K c6 CW3 CW4;try simp only [pD,pB,pC]
     refine bD 8 ?_;intro w7 hb7
     have D7:=chain D6 hb7;have CW7:=hCC _ _ CWt hb7;have q7:=(hb7.block _ (ae q6)).trans q6;have I7:=HIn.out.next D7;have rl7:w7.ownsRow Bl 63 2 (.slice rva ps1[m].2.length rvc) ps1[m].2.length (zs m):=by
      have:=(I7.row m hmlt).1;rw [if_pos hm1.symm,erv] at this;exact this
     have hBl7:=I7.hi;refine wpOp_step rfl (fun K hK=>?_);refine Eq.mpr (if_pos (by kernel_rfl)) ?_;refine bW (some 48) rfl (Operand.tmp 44) (Operand.tmp 47) 37 rfl Bl 63 i0 _ 2 32 Tryz.underlying37 hi hj0 hj1 hj2 rfl (by decide) (.slice rva ps1[m].2.length rvc) ps1[m].2.length (zs m) rfl rl7 ⟨w3.heap.size,0,none⟩ 1 1 [.slice ra L[k].2.1.length rc,.int .i64 L[k].2.2] rfl rfl ?Ac1 ?Ac2 ?Ac3 ?Ac4 ?Ac5 ?_
     case Ac1 =>
      intro j u hj
      match j,hj with
      | 0,hj=>simp at hj; subst hj; exact cell_of (i:=0) q7 rfl
      | 1,hj=>simp at hj; subst hj; exact cell_of (i:=1) q7 rfl
     case Ac2=>intro u hu; simp at hu; rcases hu with rfl | rfl <;> rfl
     case Ac3=>unfold maxLen; omega
     case Ac4=>omega
     case Ac5=>exact hBl7
     all_goals
      intro v8 w8 o8 g8 _;have nb8:∀ q,Value.ownBlock (.slice rva ps1[m].2.length rvc)=some q→w.heap.size≤q∧q<w7.heap.size∧(q=wr.heap.size→False)∧(q=g→False):=fun q hq=>by
       have h1:=rl7.lt q hq;refine ⟨Mr I7.lo h1.1,h1.2,fun e=>?_,fun e=>?_⟩
       ·exact jc rl7 CW7 (by decide) (by rw [hq,e])
       ·have o7:=I7.own;rcases mb (by decide) rl7 o7 with h2 | h2
        ·rw [h2] at hq; cases hq
        ·exact h2 (by rw [hq,e]; rfl)
      have CW8:(w8.heap[wr.heap.size]? = some (.cells #[.slice ka L[k].1.length kc,.slice ra L[k].2.1.length rc,.int .i64 L[k].2.2] 132 (0,0))):=(g8.block _ (ae CW7) (fun e=>(nb8 _ e.symm).2.2.1 rfl)).trans CW7;have c8:w8.cell? ⟨g,m*2+1,none⟩=some (.slice rva ps1[m].2.length rvc)∧w8.frozen? ⟨g,m*2+1,none⟩=false:=by
       have o7:=I7.own;rw [hm1] at o7;have hb8:w8.heap[g]? = w7.heap[g]?:=g8.block g (o7.lt g rfl).2 (fun e=>(nb8 _ e.symm).2.2.2 rfl);refine ⟨(Mv (a:=⟨g,m*2+1,none⟩) hb8).trans ?_,(Nt (a:=⟨g,m*2+1,none⟩) hb8).trans (o7.frozenAt _)⟩;rw [o7.cellAt _ (by omega),I7.cell m hmlt,erv]
      have hg8:g<w8.heap.size:=by
       have o7:=I7.own;rw [hm1] at o7;exact Mh (o7.lt g rfl).2 g8.size
      refine hK _ _ ⟨CW8,?_⟩;clear hK K;try simp only [pD,pB,pC]
      refine az hCC 49 9 (.pointer (some ⟨g,m*2,none⟩)) (fun n hn=>?_) CW8 ?_
      ·go_simp
      simp only [pD,pB,pC];refine az hCC 50 10 (.pointer (some ⟨g,m*2+1,none⟩)) (fun n hn=>?_) CW8 ?_
      ·go_simp
      simp only [pD,pB,pC];refine bD 11 ?_;intro w9 hb9
      have c9:w9.cell? ⟨g,m*2+1,none⟩=some (.slice rva ps1[m].2.length rvc):=(hb9.cell (p:=⟨g,m*2+1,none⟩) hg8).trans c8.1;have f9:w9.frozen? ⟨g,m*2+1,none⟩=false:=(hb9.frozen (p:=⟨g,m*2+1,none⟩) hg8).trans c8.2;have CW9:=hCC _ _ CW8 hb9;obtain ⟨v8a,v8c,ev8⟩:∃ v8a v8c,v8 = .slice v8a (ps1[m].2.length+1) v8c:=dU o8;have P9:kB w w.heap.size (w9.setCell ⟨g,m*2+1,none⟩ v8) (.slice (some ⟨g,0,none⟩) (m+1) c) (kL ps1 L[k].2):=by
       have I7':=I7;rw [← ev] at I7';exact oe.put I7' hm1 (rc:=rc) HSr.out (by rw [erv]; exact g8) o8 hb9
      have B9:Below w.heap.size w (w9.setCell ⟨g,m*2+1,none⟩ v8):=((chain ((chain hbx D7).trans ((Md _ _).grown g8 (Mr hbx.size D7.size) (fun q hq=>(nb8 q hq).1))) hb9)).setCell (p:=⟨g,m*2+1,none⟩) hgB _;have CW10:((w9.setCell ⟨g,m*2+1,none⟩ v8).heap[wr.heap.size]? = some (.cells #[.slice ka L[k].1.length kc,.slice ra L[k].2.1.length rc,.int .i64 L[k].2.2] 132 (0,0))):=(ML _ _ _ _ (fun e=>hgl e.symm)).trans CW9;subst ev8;refine wpOp_step rfl (fun K hK=>?_);go_simp;refine hK _ _ ⟨CW10,?_⟩;clear hK K CW7 CW8 CW9 c8 c9 f9 nb8 rl7 I7 q7 o8 g8
      generalize w9.setCell ⟨g,m*2+1,none⟩ (.slice v8a (ps1[m].2.length+1) v8c)=wS at *;try simp only [pD,pB,pC]
      refine bo (by kernel_rfl) ?_;intro wT hbT;have PT:=P9.next hbT;have BT:=chain B9 hbT;clear P9 B9 CW10 CW CWt;go_wp2_with fail
      go_roundw
      case rel=>exact ⟨k+1,by omega,by go_num,by rw [HT.out,eo]; first | exact PT | (rw [hm1]; exact PT),BT⟩
      case measure=>simp [intOf]; omega
    ·have hcb:(cm != 0)=true:=by simp [hc0]
     rw [hcb];have HOp:Hid (cX (dp (L.take k)) L[k]=ps ++ [(L[k].1,[])]):=by show _=_; rw [← Eps.out]; exact xh hm (by rw [HCm.out]; exact hc0)
     clear Eps hcb;obtain ⟨xs,Bl,rv,zs,In⟩:=HPq;have ho:=In.own;have HInq:=aw In;have kq:wq.cell? ⟨wr.heap.size,0,none⟩=some (.slice ka L[k].1.length kc):=cell_of (i:=0) qq rfl;have hzq:=hbq.size;clear In;go_wp2_with (first | (at_builtin; refine M9 _ rfl _ _ 124 rfl w.heap.size 129 ip _ 2 48 Tryz.underlying124 hip hp0 hp1 hp2 rfl (by decide) _ _ _ rfl (ho.alloc _) ⟨wq.heap.size,0,none⟩ 1 1 [.slice ka L[k].1.length kc,.slice none 0 0] rfl rfl ?Bc1 ?Bc2 ?Bc3 ?Bc4 ?Bc5 ?_))
     case Bc1 =>
      intro i u hu
      match i,hu with
      | 0,hu=>simp at hu; subst hu; simp [Addr.add]
      | 1,hu=>simp at hu; subst hu; simp [Addr.add]
     case Bc2=>intro u hu; simp at hu; rcases hu with rfl | rfl <;> rfl
     case Bc3=>unfold maxLen; omega
     case Bc4=>omega
     case Bc5=>simp; omega
     intro v' wx ox gx _;have halq:=aa wq (.cells #[.slice ka L[k].1.length kc,.slice none 0 0] 129);have oq:=ho.alloc (.cells #[.slice ka L[k].1.length kc,.slice none 0 0] 129);have HPx:kB w w.heap.size wx v' (ps ++ [(L[k].1,[])]):=(HInq.out.next halq).push HSk.out gx (by first | exact ox | (rw [hm]; exact ox));have hbx:Below w.heap.size w wx:=(chain hbq halq).grown gx (by simp; omega) (fun q hq=>(oq.lt q hq).1)
     have qx:wx.heap[wr.heap.size]? = some (.cells #[.slice ka L[k].1.length kc,.slice ra L[k].2.1.length rc,.int .i64 L[k].2.2] 132 (0,0)):=by
      have qa:=(halq.block _ (ae qq)).trans qq;exact (gx.block _ (ae qa) (fun e=>jc oq qa (by decide) e.symm)).trans qa
     have q0x:=qx;obtain ⟨ps1,eps1⟩:∃ ps1,ps1=ps ++ [(L[k].1,[])]:=⟨_,rfl⟩
     obtain ⟨m,hmm⟩:∃ m,m=(mm+1):=⟨_,rfl⟩
     have hm4:m≤400:=by omega
     rw [← eps1] at HPx;have hm1:ps1.length=m+1:=by rw [hmm,eps1,Mw]; first | rfl | (rw [hm]; rfl)
     have eo:cX (dp (L.take k)) L[k]=ps1:=by rw [eps1]; exact HOp.out
     have hsm:∀ p ∈ ps1,p.2.length≤400:=fun p hp=>by
      rw [eps1] at hp;rcases List.mem_append.1 hp with hp | hp
      ·exact HSm.out p hp
      ·rw [List.mem_singleton.1 hp]; exact Mj _
     obtain ⟨g,c,evx⟩:∃ g c,v' = .slice (some ⟨g,0,none⟩) ps1.length c:=by
      obtain ⟨xs',_,_,_,I'⟩:=HPx;rcases I'.own.2 with ⟨_,h2⟩ | ⟨g2,c2,_,h2,_⟩
      ·omega
      ·exact ⟨g2,c2,h2⟩
     subst evx;clear eps1 ox gx oq HInq ho kq halq hmm;have hmlt:m<ps1.length:=by omega
     obtain ⟨xs,Bl,rv,zs,In⟩:=HPx;have HIn:=aw In;have hgB:w.heap.size≤g:=(In.own.lt g rfl).1;have hgx:g<wx.heap.size:=(In.own.lt g rfl).2;have hgl:g=wr.heap.size→False:=fun e=>jc In.own q0x (by decide) (show some g=some wr.heap.size by rw [e])
     obtain ⟨rva,rvc,erv⟩:∃ rva rvc,rv m = .slice rva ps1[m].2.length rvc:=dU (In.row m hmlt).1;have cx:wx.cell? ⟨g,m*2+1,none⟩=some (.slice rva ps1[m].2.length rvc):=by
      have:=In.own;rw [this.cellAt _ (by omega),In.cell m hmlt,erv]
     have hrow1:ps1[m].2.length≤400:=hsm ps1[m] (Mk hmlt);have ev:Value.slice (some ⟨g,0,none⟩) (m+1) c = .slice (some ⟨g,0,none⟩) ps1.length c:=by rw [hm1]
     have m0:(0:Int)≤(m:Int):=by omega
     have m1:(m:Int)<(m:Int)+1:=by omega
     have m2:(m:Int)≤400:=by omega
     clear In;try rw [hm1]
     go_upto_region 8 with fail
     have hCC:∀ W W':World,(W.heap[wr.heap.size]? = some (.cells #[.slice ka L[k].1.length kc,.slice ra L[k].2.1.length rc,.int .i64 L[k].2.2] 132 (0,0)))→Below W.heap.size W W'→(W'.heap[wr.heap.size]? = some (.cells #[.slice ka L[k].1.length kc,.slice ra L[k].2.1.length rc,.int .i64 L[k].2.2] 132 (0,0))):=fun W W' h hb=>(hb.block _ (ae h)).trans h
     have hdr:Below wx.heap.size wx wx.drew:=(Md _ _).drew;have CW:(wx.drew.heap[wr.heap.size]? = some (.cells #[.slice ka L[k].1.length kc,.slice ra L[k].2.1.length rc,.int .i64 L[k].2.2] 132 (0,0))):=hCC _ _ q0x hdr;refine aH (fun W=>(W.heap[wr.heap.size]? = some (.cells #[.slice ka L[k].1.length kc,.slice ra L[k].2.1.length rc,.int .i64 L[k].2.2] 132 (0,0)))) (by kernel_rfl) ?_;refine az hCC 40 0 (.pointer (some ⟨g,m*2,none⟩)) (fun n hn=>?_) CW ?_
     ·go_simp
     simp only [pD,pB,pC];refine az hCC 41 1 (.pointer (some ⟨g,m*2,none⟩)) (fun n hn=>?_) CW ?_
     ·go_simp
     simp only [pD,pB,pC];refine az hCC 42 2 (.pointer (some ⟨g,m*2,none⟩)) (fun n hn=>?_) CW ?_
     ·go_simp
     simp only [pD,pB,pC];refine az hCC 43 3 (.pointer (some ⟨g,m*2+1,none⟩)) (fun n hn=>?_) CW ?_
     ·go_simp
     simp only [pD,pB,pC];refine az hCC 45 5 (.pointer (some ⟨wr.heap.size,1,none⟩)) (fun n hn=>?_) CW ?_
     ·go_simp
     simp only [pD,pB,pC];refine az hCC 46 6 (.agg #[.slice ra L[k].2.1.length rc,.int .i64 L[k].2.2]) (fun n hn=>?_) CW ?_
     ·have hc:n.cell? ⟨wr.heap.size,1,none⟩=some (.slice ra L[k].2.1.length rc):=cell_of (i:=1) hn rfl;have hc1:n.cell? ⟨wr.heap.size,2,none⟩=some (.int .i64 L[k].2.2):=cell_of (i:=2) hn rfl;go_simp
     simp only [pD,pB,pC];refine mI (rs:=[4,7]) (by kernel_rfl) (by simp) ?_;intro w3 hb3 jj hj;have D3:=chain hdr hb3;have CW3:=hCC _ _ CW hb3;rcases (by simpa using hj:jj=4∨jj=7) with rfl | rfl
     clear hj;have c3:=(D3.cell (p:=⟨g,m*2+1,none⟩) hgx).trans cx;refine wpOp_step rfl (fun K hK=>?_);go_simp;refine hK _ _ ⟨CW3,?_⟩;clear hK K;try simp only [pD,pB,pC]
     refine bD 7 ?_;intro w5 hb5
     refine wpOp_step rfl (fun K hK=>?_);go_simp;have hal5:=aa w5 (.cells #[.slice ra L[k].2.1.length rc,.int .i64 L[k].2.2] 63);have q6:=ak w5 #[.slice ra L[k].2.1.length rc,.int .i64 L[k].2.2] 63;have D6:=chain (chain D3 hb5) hal5;have CWt:=hCC _ _ (hCC _ _ CW3 hb5) hal5;refine hK _ _ ⟨CWt,?_⟩;clear hK K c3 CW3;generalize w5.alloc (.cells #[.slice ra L[k].2.1.length rc,.int .i64 L[k].2.2] 63)=w6 at *;try simp only [pD,pB,pC]
     refine bD 8 ?_;intro w7 hb7
     have D7:=chain D6 hb7;have CW7:=hCC _ _ CWt hb7;have q7:=(hb7.block _ (ae q6)).trans q6;have I7:=HIn.out.next D7;have rl7:w7.ownsRow Bl 63 2 (.slice rva ps1[m].2.length rvc) ps1[m].2.length (zs m):=by
      have:=(I7.row m hmlt).1;rw [if_pos hm1.symm,erv] at this;exact this
     have hBl7:=I7.hi;refine wpOp_step rfl (fun K hK=>?_);refine Eq.mpr (if_pos (by kernel_rfl)) ?_;refine bW (some 48) rfl (Operand.tmp 44) (Operand.tmp 47) 37 rfl Bl 63 i0 _ 2 32 Tryz.underlying37 hi hj0 hj1 hj2 rfl (by decide) (.slice rva ps1[m].2.length rvc) ps1[m].2.length (zs m) rfl rl7 ⟨w5.heap.size,0,none⟩ 1 1 [.slice ra L[k].2.1.length rc,.int .i64 L[k].2.2] rfl rfl ?Ac1 ?Ac2 ?Ac3 ?Ac4 ?Ac5 ?_
     case Ac1 =>
      intro j u hj
      match j,hj with
      | 0,hj=>simp at hj; subst hj; exact cell_of (i:=0) q7 rfl
      | 1,hj=>simp at hj; subst hj; exact cell_of (i:=1) q7 rfl
     case Ac2=>intro u hu; simp at hu; rcases hu with rfl | rfl <;> rfl
     case Ac3=>unfold maxLen; omega
     case Ac4=>omega
     case Ac5=>exact hBl7
     rotate_left;clear hj;refine wpOp_step rfl (fun K hK=>?_);go_simp;have hal4:=aa w3 (.cells #[.slice ra L[k].2.1.length rc,.int .i64 L[k].2.2] 63);have q4:=ak w3 #[.slice ra L[k].2.1.length rc,.int .i64 L[k].2.2] 63;have D4:=chain D3 hal4;have CW4:=hCC _ _ CW3 hal4;refine hK _ _ ⟨CW4,?_⟩;clear hK K;generalize w3.alloc (.cells #[.slice ra L[k].2.1.length rc,.int .i64 L[k].2.2] 63)=w4 at *;try simp only [pD,pB,pC]
     refine bD 4 ?_;intro w6 hb6
     have D6:=chain D4 hb6;have CWt:=hCC _ _ CW4 hb6;have q6:=(hb6.block _ (ae q4)).trans q4;have c6:=(D6.cell (p:=⟨g,m*2+1,none⟩) hgx).trans cx;refine wpOp_step rfl (fun K hK=>?_);go_simp;refine hK _ _ ⟨CWt,?_⟩;clear hK K c6 CW3 CW4;try simp only [pD,pB,pC]
     refine bD 8 ?_;intro w7 hb7
     have D7:=chain D6 hb7;have CW7:=hCC _ _ CWt hb7;have q7:=(hb7.block _ (ae q6)).trans q6;have I7:=HIn.out.next D7;have rl7:w7.ownsRow Bl 63 2 (.slice rva ps1[m].2.length rvc) ps1[m].2.length (zs m):=by
      have:=(I7.row m hmlt).1;rw [if_pos hm1.symm,erv] at this;exact this
     have hBl7:=I7.hi;refine wpOp_step rfl (fun K hK=>?_);refine Eq.mpr (if_pos (by kernel_rfl)) ?_;refine bW (some 48) rfl (Operand.tmp 44) (Operand.tmp 47) 37 rfl Bl 63 i0 _ 2 32 Tryz.underlying37 hi hj0 hj1 hj2 rfl (by decide) (.slice rva ps1[m].2.length rvc) ps1[m].2.length (zs m) rfl rl7 ⟨w3.heap.size,0,none⟩ 1 1 [.slice ra L[k].2.1.length rc,.int .i64 L[k].2.2] rfl rfl ?Ac1 ?Ac2 ?Ac3 ?Ac4 ?Ac5 ?_
     case Ac1 =>
      intro j u hj
      match j,hj with
      | 0,hj=>simp at hj; subst hj; exact cell_of (i:=0) q7 rfl
      | 1,hj=>simp at hj; subst hj; exact cell_of (i:=1) q7 rfl
     case Ac2=>intro u hu; simp at hu; rcases hu with rfl | rfl <;> rfl
     case Ac3=>unfold maxLen; omega
     case Ac4=>omega
     case Ac5=>exact hBl7
     all_goals
      intro v8 w8 o8 g8 _;have nb8:∀ q,Value.ownBlock (.slice rva ps1[m].2.length rvc)=some q→w.heap.size≤q∧q<w7.heap.size∧(q=wr.heap.size→False)∧(q=g→False):=fun q hq=>by
       have h1:=rl7.lt q hq;refine ⟨Mr I7.lo h1.1,h1.2,fun e=>?_,fun e=>?_⟩
       ·exact jc rl7 CW7 (by decide) (by rw [hq,e])
       ·have o7:=I7.own;rcases mb (by decide) rl7 o7 with h2 | h2
        ·rw [h2] at hq; cases hq
        ·exact h2 (by rw [hq,e]; rfl)
      have CW8:(w8.heap[wr.heap.size]? = some (.cells #[.slice ka L[k].1.length kc,.slice ra L[k].2.1.length rc,.int .i64 L[k].2.2] 132 (0,0))):=(g8.block _ (ae CW7) (fun e=>(nb8 _ e.symm).2.2.1 rfl)).trans CW7;have c8:w8.cell? ⟨g,m*2+1,none⟩=some (.slice rva ps1[m].2.length rvc)∧w8.frozen? ⟨g,m*2+1,none⟩=false:=by
       have o7:=I7.own;rw [hm1] at o7;have hb8:w8.heap[g]? = w7.heap[g]?:=g8.block g (o7.lt g rfl).2 (fun e=>(nb8 _ e.symm).2.2.2 rfl);refine ⟨(Mv (a:=⟨g,m*2+1,none⟩) hb8).trans ?_,(Nt (a:=⟨g,m*2+1,none⟩) hb8).trans (o7.frozenAt _)⟩;rw [o7.cellAt _ (by omega),I7.cell m hmlt,erv]
      have hg8:g<w8.heap.size:=by
       have o7:=I7.own;rw [hm1] at o7;exact Mh (o7.lt g rfl).2 g8.size
      refine hK _ _ ⟨CW8,?_⟩;clear hK K;try simp only [pD,pB,pC]
      refine az hCC 49 9 (.pointer (some ⟨g,m*2,none⟩)) (fun n hn=>?_) CW8 ?_
      ·go_simp
      simp only [pD,pB,pC];refine az hCC 50 10 (.pointer (some ⟨g,m*2+1,none⟩)) (fun n hn=>?_) CW8 ?_
      ·go_simp
      simp only [pD,pB,pC];refine bD 11 ?_;intro w9 hb9
      have c9:w9.cell? ⟨g,m*2+1,none⟩=some (.slice rva ps1[m].2.length rvc):=(hb9.cell (p:=⟨g,m*2+1,none⟩) hg8).trans c8.1;have f9:w9.frozen? ⟨g,m*2+1,none⟩=false:=(hb9.frozen (p:=⟨g,m*2+1,none⟩) hg8).trans c8.2;have CW9:=hCC _ _ CW8 hb9;obtain ⟨v8a,v8c,ev8⟩:∃ v8a v8c,v8 = .slice v8a (ps1[m].2.length+1) v8c:=dU o8;have P9:kB w w.heap.size (w9.setCell ⟨g,m*2+1,none⟩ v8) (.slice (some ⟨g,0,none⟩) (m+1) c) (kL ps1 L[k].2):=by
       have I7':=I7;rw [← ev] at I7';exact oe.put I7' hm1 (rc:=rc) HSr.out (by rw [erv]; exact g8) o8 hb9
      have B9:Below w.heap.size w (w9.setCell ⟨g,m*2+1,none⟩ v8):=((chain ((chain hbx D7).trans ((Md _ _).grown g8 (Mr hbx.size D7.size) (fun q hq=>(nb8 q hq).1))) hb9)).setCell (p:=⟨g,m*2+1,none⟩) hgB _;have CW10:((w9.setCell ⟨g,m*2+1,none⟩ v8).heap[wr.heap.size]? = some (.cells #[.slice ka L[k].1.length kc,.slice ra L[k].2.1.length rc,.int .i64 L[k].2.2] 132 (0,0))):=(ML _ _ _ _ (fun e=>hgl e.symm)).trans CW9;subst ev8;refine wpOp_step rfl (fun K hK=>?_);go_simp;refine hK _ _ ⟨CW10,?_⟩;clear hK K CW7 CW8 CW9 c8 c9 f9 nb8 rl7 I7 q7 o8 g8
      generalize w9.setCell ⟨g,m*2+1,none⟩ (.slice v8a (ps1[m].2.length+1) v8c)=wS at *;try simp only [pD,pB,pC]
      refine bo (by kernel_rfl) ?_;intro wT hbT;have PT:=P9.next hbT;have BT:=chain B9 hbT;clear P9 B9 CW10 CW CWt;go_wp2_with fail
      go_roundw
      case rel=>exact ⟨k+1,by omega,by go_num,by rw [HT.out,eo]; first | exact PT | (rw [hm1]; exact PT),BT⟩
      case measure=>simp [intOf]; omega
  ·have e:k=L.length:=by omega
   subst e;rw [MB] at HPs;obtain ⟨va,vc,ev⟩:∃ va vc,u3 = .slice va (dp L).length vc:=by obtain ⟨_,_,_,_,I⟩:=HPs; exact dU I.own
   subst ev;go_wp2_with fail
   go_ret;exact ⟨_,rfl,HPs,hb⟩
theorem pV (af:List Int) (g:Ag) (ca:Option Addr) (ccap:Nat) (a:Option Addr) (cap:Nat) (w:World) (hk:aX w.heap.size w a g.2.ks) (hc:bG w.heap.size w ca af) (h:¬ df af g=0) :
  Calls Tryz.prog 111 #[.slice ca af.length ccap,.agg (mC g.1 g.2.k g.2.v.1 g.2.v.2.1 g.2.v.2.2 g.2.c a g.2.ks.length cap)] w fun e w'=>e = .returned (.tuple #[.nilFunc,.int .i64 (df af g)])∧Below w.heap.size w w':=by
 have hal:=aa w (.cells (mC g.1 g.2.k g.2.v.1 g.2.v.2.1 g.2.v.2.2 g.2.c a g.2.ks.length cap) 67);have q0:=ak w (mC g.1 g.2.k g.2.v.1 g.2.v.2.1 g.2.v.2.2 g.2.c a g.2.ks.length cap) 67;have h1:¬ g.1=1:=fun h1=>h (by unfold df; rw [if_pos h1])
 generalize hme:df af g=me at *;have HM:=aw hme;clear hme;by_cases h2:g.1<2∨5<g.1
 ·have e:me=1:=by rw [← HM.out]; unfold df; rw [if_neg h1,if_pos h2]
  subst e;have n1:(g.1 == 1)=false:=by simpa using h1
  have n2:(g.1 == 2)=false:=by simp; omega
  have n3:(g.1 == 3)=false:=by simp; omega
  have n4:(g.1 == 4)=false:=by simp; omega
  have n5:(g.1 == 5)=false:=by simp; omega
  clear h h1 h2;go_enter Tryz.func111,Tryz.ntmps111;go_wp2_with fail
  exact Me (v:=.tuple #[.nilFunc,.int .i64 1]) (by simp [results,Tryz.results111,go_sem]) rfl ⟨rfl,hal⟩
 ·have hk4:g.1=2∨g.1=3∨g.1=4∨g.1=5:=by omega
  by_cases h3:(an af g.2).2=0
  ·have e3:g.1=3∧(an af g.2).1≠3∧(an af g.2).1≠1:=Classical.byContradiction fun hn=>by
    have:=HM.out;unfold df at this;rw [if_neg h1,if_neg h2,if_neg (by simpa using h3),if_neg hn] at this;exact h this.symm
   have e9:me=9:=by rw [← HM.out]; unfold df; rw [if_neg h1,if_neg h2,if_neg (by simpa using h3),if_pos e3]
   subst e9;have con:=iG af g.2 ca ccap a cap _ ((aX.next hal (Mc _) hk).up hal.size) ((hc.next hal (Mc _)).up hal.size) h3;obtain ⟨e31,e32,e33⟩:=e3;generalize (an af g.2).1=t at *;unfold iU at con;go_enter Tryz.func111,Tryz.ntmps111;clear h h1 h2 h3 hk4;generalize hk1:g.1=kd at *;clear hk1;subst e31;have t3:(t != 3)=true:=by simpa using e32
   have t1:(t != 1)=true:=by simpa using e33
   clear e32 e33;go_wp2_with fail
   generalize w.alloc (.cells #[.int .i64 3,.int .i64 g.2.k,.int .i64 g.2.v.1,.int .i64 g.2.v.2.1,.string g.2.v.2.2,.int .i64 g.2.c,.slice a g.2.ks.length cap] 67)=w1 at *;refine con.mono ?_;rintro e w2 ⟨u,rfl,hA2,hb2⟩;have hA:=chain hal hb2;have q2:=(hb2.block _ (ae q0)).trans q0;have c0:w2.cell? ⟨w.heap.size,0,none⟩=some (.int .i64 3):=cell_of (i:=0) q2 rfl;clear con;obtain ⟨g',cb,rfl⟩:∃ g' cb,u = .func (.func g') #[] cb:=by obtain ⟨g',cb,e,_⟩:=hA2; exact ⟨g',cb,e⟩
   dsimp only;go_wp2_with fail
   exact Me (v:=.tuple #[.nilFunc,.int .i64 9]) (by simp [results,Tryz.results111,go_sem]) rfl ⟨rfl,hA⟩
  ·have con:=kI af g.2 ca ccap a cap _ ((aX.next hal (Mc _) hk).up hal.size) ((hc.next hal (Mc _)).up hal.size) h3;have em:me=(an af g.2).2:=by rw [← HM.out]; unfold df; rw [if_neg h1,if_neg h2,if_pos h3]
   have hne:(me != 0)=true:=by simpa using h
   rw [← em] at con;unfold iU at con;go_enter Tryz.func111,Tryz.ntmps111;clear h h1 h2 h3 em HM;generalize hk1:g.1=kd at *;clear hk1;rcases hk4 with rfl | rfl | rfl | rfl
   all_goals (
    go_wp2_with fail
    generalize w.alloc (.cells #[_,.int .i64 g.2.k,.int .i64 g.2.v.1,.int .i64 g.2.v.2.1,.string g.2.v.2.2,.int .i64 g.2.c,.slice a g.2.ks.length cap] 67)=w1 at *;refine con.mono ?_;rintro e w2 ⟨rfl,hb2⟩;have hA:=chain hal hb2;clear con;dsimp only;go_wp2_with fail
    exact Me (v:=.tuple #[.nilFunc,.int .i64 me]) (by simp [results,Tryz.results111,go_sem]) rfl ⟨rfl,hA⟩)
def gj (k:Int):Prop:=∀ w,Calls Tryz.prog 112 #[.int .i64 k] w fun e w'=>∃ u,e = .returned u∧pw w.heap.size u (fH k) w'∧Below w.heap.size w w'
theorem Dq (lo:Nat) (w:World):pw lo (.func (.func 153) #[] #[]) countP w :=
 ⟨153,#[],rfl,enters_of Tryz.func153 (by kernel_rfl) rfl,fun l a cap W hk hs _=>by simpa using EH a cap l W hs hk⟩
theorem Cv (k:Int) (h3:¬ k=3) (h4:¬ k=4) (h5:¬ k=5):gj k:=by
 intro w;have eT:fH k=countP:=by funext l; unfold fH; rw [if_neg h3,if_neg h4,if_neg h5]
 rw [eT];have n3:(k == 3)=false:=by simpa using h3
 have n4:(k == 4)=false:=by simpa using h4
 have n5:(k == 5)=false:=by simpa using h5
 clear h3 h4 h5 eT;go_enter Tryz.func112,Tryz.ntmps112;go_wp2
 go_ret;exact ⟨_,rfl,Dq _ _,Md _ _⟩
theorem vL {n:Nat} (h:n≤8) (w:World):(Instr.makeSlice 160 (.int .i64 n) (.int .i64 n)).run Tryz.prog w = .ok (.slice (some ⟨w.heap.size,0,none⟩) n n) (w.alloc (.cells (Array.replicate n Value.nilFunc) 167)):=by
 obtain rfl | rfl | rfl | rfl | rfl | rfl | rfl | rfl | rfl:n=0∨n=1∨n=2∨n=3∨n=4∨n=5∨n=6∨n=7∨n=8:=by omega
 all_goals kernel_rfl
structure Dp (af:List Int) (K kb M:Nat) (W:World) (Fs:List (List Zp→Vl)) (j:Nat):Prop where
 lt:K<M∧kb<M∧K≠kb∧M≤W.heap.size
 box:W.cell? ⟨kb,0,none⟩=some (.slice (some ⟨K,0,none⟩) Fs.length Fs.length)
 room:∀ i,i<Fs.length→(∃ u,W.cell? ⟨K,i,none⟩=some u)∧W.frozen? ⟨K,i,none⟩=false
 done:∀ i (h:i<Fs.length),i<j→∃ u,W.cell? ⟨K,i,none⟩=some u∧kh af M u Fs[i] W
theorem Dp.next {af:List Int} {K kb M:Nat} {W w1:World} {Fs:List (List Zp→Vl)} {j:Nat} (h:Dp af K kb M W Fs j) (hb:Below W.heap.size W w1):Dp af K kb M w1 Fs j:=by
 obtain ⟨h1,h2,h3,h4⟩:=h;have z:=hb.size;refine ⟨⟨h1.1,h1.2.1,h1.2.2.1,by omega⟩,(hb.cell (p:=⟨kb,0,none⟩) (by show kb<_; omega)).trans h2,fun i hi=>?_,fun i hi hj=>?_⟩
 ·obtain ⟨⟨u,hu⟩,hf⟩:=h3 i hi;exact ⟨⟨u,(hb.cell (p:=⟨K,i,none⟩) (by show K<_; omega)).trans hu⟩,(hb.frozen (p:=⟨K,i,none⟩) (by show K<_; omega)).trans hf⟩
 ·obtain ⟨u,hu,ha⟩:=h4 i hi hj;exact ⟨u,(hb.cell (p:=⟨K,i,none⟩) (by show K<_; omega)).trans hu,ha.next (Since.of hb)⟩
theorem Dp.store {af:List Int} {K kb M:Nat} {W:World} {Fs:List (List Zp→Vl)} {j:Nat} (h:Dp af K kb M W Fs j) (hj:j<Fs.length) {u:Value} (ha:kh af M u Fs[j] W):Dp af K kb M (W.setCell ⟨K,j,none⟩ u) Fs (j+1):=by
 obtain ⟨h1,h2,h3,h4⟩:=h;have hS:Since M W (W.setCell ⟨K,j,none⟩ u):=(Since.refl M W).set K j u (by omega);have same:(W.setCell ⟨K,j,none⟩ u).cell? ⟨K,j,none⟩=some u:=Nn _ _ _ (by obtain ⟨⟨u',hu⟩,_⟩:=h3 j hj; rw [hu]; rfl);refine ⟨⟨h1.1,h1.2.1,h1.2.2.1,by simpa using h1.2.2.2⟩,?_,fun i hi=>?_,fun i hi hij=>?_⟩
 ·rw [Mn _ _ _ _ (by intro e; injection e with e; omega)]; exact h2
 ·obtain ⟨⟨u',hu⟩,hf⟩:=h3 i hi;refine ⟨?_,by rw [MQ]; exact hf⟩;by_cases e:i=j
  ·subst e; exact ⟨_,same⟩
  ·exact ⟨u',by rw [Mn _ _ _ _ (by intro e; injection e with _ e; omega)]; exact hu⟩
 ·by_cases e:i=j
  ·subst e; exact ⟨u,same,ha.next hS⟩
  ·obtain ⟨u',hu,ha'⟩:=h4 i hi (by omega);exact ⟨u',by rw [Mn _ _ _ _ (by intro e; injection e with _ e; omega)]; exact hu,ha'.next hS⟩
theorem Dp.kids {af:List Int} {K kb M lo:Nat} {W:World} {Fs:List (List Zp→Vl)} (h:Dp af K kb M W Fs Fs.length) (h1:lo≤K) (h2:lo≤kb):sV af lo W kb Fs:=by
 obtain ⟨l1,l2,_,l4⟩:=h;refine ⟨K,h2,by omega,h1,by omega,l2,fun i hi=>?_⟩;obtain ⟨u,hu,ha⟩:=l4 i hi hi;exact ⟨u,hu,ha.down (by omega)⟩
theorem Dp.new {af:List Int} {w:World} {n:Nat} (Fs:List (List Zp→Vl)) (hn:n=Fs.length) (T T':TypeId) :
  Dp af w.heap.size (w.heap.size+1) (w.heap.size+2) ((w.alloc (.cells (Array.replicate n Value.nilFunc) T)).alloc (.cells #[.slice (some ⟨w.heap.size,0,none⟩) n n] T')) Fs 0:=by
 subst hn;refine ⟨⟨by omega,by omega,by omega,by simp⟩,?_,fun i hi=>⟨⟨Value.nilFunc,?_⟩,?_⟩,fun i _ h=>absurd h (MP _)⟩
 ·rw [M0 _ _ _ _ (by simp)]; rfl
 ·rw [World.cell?_alloc_past _ _ _ (by simp),M0 _ _ _ _ rfl];simp [hi]
 ·rw [World.frozen?_alloc_past _ _ _ (by simp)];exact Nu _ _ _ _ rfl
def Dr (af:List Int) (lo:Nat) (u:Value) (gs:List Ag) (w:World):Prop :=
 ∃ g cb,u = .func (.func g) #[] cb∧(∀ args w,(callFunc g args).run Tryz.prog w = .ok (.enter g args) w) ∧
  ∀ (rows:List Zp) (a:Option Addr) (cap:Nat) (W:World),Gg af rows→bc W a rows→Since lo w W →
   Calls Tryz.prog g (#[.slice a rows.length cap] ++ cb) W fun e w'=>e = .returned (.slice (some ⟨W.heap.size,0,none⟩) gs.length gs.length)∧tU W.heap.size w' (gs.map fun g=>kv g rows)∧Below W.heap.size W w'
theorem Dr.next {af:List Int} {lo:Nat} {u:Value} {gs:List Ag} {w w1:World} (h:Dr af lo u gs w) (hb:Since lo w w1):Dr af lo u gs w1:=by
 obtain ⟨g,cb,e,eg,hd⟩:=h;exact ⟨g,cb,e,eg,fun row a cap W hf hs hW=>hd row a cap W hf hs (hb.trans hW)⟩
theorem Ij {gs:List Ag} {j:Nat} (h:j<gs.length):(gs.map fun g=>kv g)[j]'(by simpa using h)=kv gs[j]:=by simp
theorem rH (af:List Int) (gs:List Ag) (hT:∀ g ∈ gs,df af g=0→gj g.1) (ca:Option Addr) (ccap:Nat) (xa:Option Addr) (xcap:Nat) (w:World) (hk:ie w.heap.size w xa gs) (hc:bG w.heap.size w ca af) (h8:gs.length≤8) :
  Calls Tryz.prog 83 #[.slice ca af.length ccap,.slice xa gs.length xcap] w fun e w'=>∃ u,e = .returned (.tuple #[u,.int .i64 (dZ af gs)])∧((dZ af gs=0∧Dr af w.heap.size u gs w')∨(¬ dZ af gs=0∧u = .nilFunc))∧Below w.heap.size w w':=by
 have HTot:=aw hT;obtain ⟨Fs,eFs⟩:∃ Fs:List (List Zp→Vl),Fs=gs.map fun g=>kv g:=⟨_,rfl⟩
 have HFs:=aw eFs;have lFs:Fs.length=gs.length:=by rw [eFs]; simp
 generalize hle:dZ af gs=le;have HE:=aw hle;clear hT eFs hle;have hmk:=vL h8;have F0:Dp af w.heap.size (w.heap.size+1) (w.heap.size+2) ((w.alloc (.cells (Array.replicate gs.length Value.nilFunc) 167)).alloc (.cells #[.slice (some ⟨w.heap.size,0,none⟩) gs.length gs.length] 160)) Fs 0:=Dp.new Fs lFs.symm _ _;have hA:Below w.heap.size w ((w.alloc (.cells (Array.replicate gs.length Value.nilFunc) 167)).alloc (.cells #[.slice (some ⟨w.heap.size,0,none⟩) gs.length gs.length] 160)):=((Md _ _).alloc (Mc _) _).alloc (by simp) _
 go_enter Tryz.func83,Tryz.ntmps83;go_wp2_with fail
 generalize (w.alloc (.cells (Array.replicate gs.length Value.nilFunc) 167)).alloc (.cells #[.slice (some ⟨w.heap.size,0,none⟩) gs.length gs.length] 160)=w2 at *;clear hmk;go_loopw [17] (fun i wr=>∃ j:Nat,j≤gs.length∧i = .int .i64 j∧Dp af w.heap.size (w.heap.size+1) (w.heap.size+2) wr Fs j∧Hid (le=dZ af (gs.drop j))∧Below w.heap.size w wr) (fun i _=>gs.length - (intOf i).toNat)
 case atStart=>exact ⟨0,Mj _,rfl,F0,HE.out.symm,hA⟩
 case round =>
  clear F0 hA;obtain ⟨j,hj,rfl,F,HT,hb⟩:=hrel;have hz:=hb.size;have hzF:=F.lt.2.2.2;by_cases hlt:j<gs.length
  ·obtain ⟨b,off,ai,ci,rfl,hbl,x0,sx,kx⟩:=(ie.next hb (Mc _) hk).elem hlt;obtain ⟨x1,x2,x3,x4,x5,x6⟩:=sx;have hal:=aa wr (.cells (mC gs[j].1 gs[j].2.k gs[j].2.v.1 gs[j].2.v.2.1 gs[j].2.v.2.2 gs[j].2.c ai gs[j].2.ks.length ci) 67);have q0:=ak wr (mC gs[j].1 gs[j].2.k gs[j].2.v.1 gs[j].2.v.2.1 gs[j].2.v.2.2 gs[j].2.c ai gs[j].2.ks.length ci) 67;have Fk:=F.next hal
   have zk:(wr.alloc (.cells (mC gs[j].1 gs[j].2.k gs[j].2.v.1 gs[j].2.v.2.1 gs[j].2.v.2.2 gs[j].2.c ai gs[j].2.ks.length ci) 67)).heap.size=wr.heap.size+1:=by simp
   have kk:=(aX.next hal hz kx).up (show w.heap.size≤(wr.alloc (.cells (mC gs[j].1 gs[j].2.k gs[j].2.v.1 gs[j].2.v.2.1 gs[j].2.v.2.2 gs[j].2.c ai gs[j].2.ks.length ci) 67)).heap.size by omega);have cc:=((hc.next hb (Mc _)).next hal hz).up (show w.heap.size≤(wr.alloc (.cells (mC gs[j].1 gs[j].2.k gs[j].2.v.1 gs[j].2.v.2.1 gs[j].2.v.2.2 gs[j].2.c ai gs[j].2.ks.length ci) 67)).heap.size by omega);have hjz:(j:Int)<gs.length:=by omega
   by_cases h0:df af gs[j]=0
   ·have con:=rI af gs[j] ca ccap ai ci _ kk cc h0;have HTo:Hid (gj gs[j].1):=HTot.out _ (Mk hlt) h0;have Hr:Hid (∀ row,fM af row→bt (gy gs[j] row)=0∧hM (gy gs[j] row)):=xi h0;have HN:Hid (le=dZ af (gs.drop (j+1))):=HT.out.trans (xK af gs j hlt h0);clear h0 HT;go_upto_region 5 with fail
    clear x0 x1 x2 x3 x4 x5 x6 kx kk cc;generalize wr.alloc (.cells (mC gs[j].1 gs[j].2.k gs[j].2.v.1 gs[j].2.v.2.1 gs[j].2.v.2.2 gs[j].2.c ai gs[j].2.ks.length ci) 67)=wk at *;have p0:wk.cell? ⟨wr.heap.size,0,none⟩=some (.int .i64 gs[j].1):=cell_of (i:=0) q0 rfl;have p1:wk.cell? ⟨wr.heap.size,1,none⟩=some (.int .i64 gs[j].2.k):=cell_of (i:=1) q0 rfl;have p2:wk.cell? ⟨wr.heap.size,2,none⟩=some (.int .i64 gs[j].2.v.1):=cell_of (i:=2) q0 rfl
    have p3:wk.cell? ⟨wr.heap.size,3,none⟩=some (.int .i64 gs[j].2.v.2.1):=cell_of (i:=3) q0 rfl;have p4:wk.cell? ⟨wr.heap.size,4,none⟩=some (.string gs[j].2.v.2.2):=cell_of (i:=4) q0 rfl;have p5:wk.cell? ⟨wr.heap.size,5,none⟩=some (.int .i64 gs[j].2.c):=cell_of (i:=5) q0 rfl;have p6:wk.cell? ⟨wr.heap.size,6,none⟩=some (.slice ai gs[j].2.ks.length ci):=cell_of (i:=6) q0 rfl;go_wp2_with fail
    refine con.mono ?_;rintro e w3 ⟨u,rfl,hA3,hb3⟩;clear con p0 p1 p2 p3 p4 p5 p6;obtain ⟨ug,ucb,rfl⟩:∃ g cb,u = .func (.func g) #[] cb:=by obtain ⟨g,cb,e,_⟩:=hA3; exact ⟨g,cb,e⟩
    have hal4:=aa w3 (.cells #[.func (.func ug) #[] ucb] 156);have q4:=ak w3 #[.func (.func ug) #[] ucb] 156;have q0':=((chain hb3 hal4).block _ (ae q0)).trans q0;have z3:=hb3.size;have hV:gr af (w.heap.size+2) (.func (.func ug) #[] ucb) (gy gs[j]) (w3.alloc (.cells #[.func (.func ug) #[] ucb] 156)):=(hA3.down (by omega)).next (Since.of hal4);have F4:=(Fk.next hb3).next hal4;have hA4:=chain (chain (chain hb hal) hb3) hal4;dsimp only;go_upto_region 8 with fail
    clear hA3;generalize w3.alloc (.cells #[.func (.func ug) #[] ucb] 156)=w4 at *;have c8:w4.cell? ⟨wr.heap.size,0,none⟩=some (.int .i64 gs[j].1):=cell_of (i:=0) q0' rfl;have con:=HTo.out w4;go_wp2_with fail
    refine con.mono ?_;rintro e w5 ⟨u5,rfl,hT5,hb5⟩;clear con c8;obtain ⟨tg,tcb,rfl⟩:∃ g cb,u5 = .func (.func g) #[] cb:=by obtain ⟨g,cb,e,_⟩:=hT5; exact ⟨g,cb,e⟩
    have hal6:=aa w5 (.cells #[.func (.func tg) #[] tcb] 163);have q6:=ak w5 #[.func (.func tg) #[] tcb] 163;have q4':=((chain hb5 hal6).block _ (ae q4)).trans q4;have z5:=hb5.size;have z4:=hal4.size;have hT6:pw (w.heap.size+2) (.func (.func tg) #[] tcb) (fH gs[j].1) (w5.alloc (.cells #[.func (.func tg) #[] tcb] 163)):=(hT5.down (by omega)).next (Since.of hal6);have hV6:=(hV.next (Since.of hb5)).next (Since.of hal6);have F6:=(F4.next hb5).next hal6;have hA6:=chain (chain hA4 hb5) hal6
    have t6:=ae q6;have v6:=ae q4';dsimp only;go_upto_region 9 with fail
    clear hT5 hV;generalize w5.alloc (.cells #[.func (.func tg) #[] tcb] 163)=w6 at *;have RF:kh af (w.heap.size+2) (.func (.func 113) #[] #[.pointer (some ⟨w5.heap.size,0,none⟩),.pointer (some ⟨w3.heap.size,0,none⟩)]) (kv gs[j]) w6:=by
     refine ⟨113,_,rfl,enters_of Tryz.func113 (by kernel_rfl) rfl,fun rows a cap W hr hs hW=>?_⟩;exact G1 af (w.heap.size+2) _ _ (fH gs[j].1) (gy gs[j]) Hr.out w5.heap.size w3.heap.size a cap rows W ((hW.cell (p:=⟨w5.heap.size,0,none⟩) (by show _≤w5.heap.size; omega) t6).trans (cell_of (i:=0) q6 rfl)) ((hW.cell (p:=⟨w3.heap.size,0,none⟩) (by show _≤w3.heap.size; omega) v6).trans (cell_of (i:=0) q4' rfl)) (hT6.next hW) (hV6.next hW) hr hs
    have HRF:Hid (kh af (w.heap.size+2) (.func (.func 113) #[] #[.pointer (some ⟨w5.heap.size,0,none⟩),.pointer (some ⟨w3.heap.size,0,none⟩)]) (Fs[j]'(by omega)) w6):=by
     show kh _ _ _ _ _;have e:Fs[j]'(by omega)=kv gs[j]:=by simp only [HFs.out]; exact Ij hlt
     rw [e]; exact RF
    have b6:=F6.box;obtain ⟨⟨un,r2⟩,r3⟩:=F6.room j (by omega);rw [lFs] at b6;clear RF hT6 hV6;go_wp2
    go_roundw
    case rel=>exact ⟨j+1,by omega,by go_num,F6.store (by omega) HRF.out,HN,hA6.setCell (p:=⟨w.heap.size,j,none⟩) (Mc _) _⟩
    case measure=>simp [intOf]; omega
   ·have con:=pV af gs[j] ca ccap ai ci _ kk cc h0;have HN:Hid (le=df af gs[j]):=HT.out.trans (DH af gs j hlt h0);have hne:(df af gs[j] != 0)=true:=by simpa using h0
    have HN0:Hid (¬ le=0):=by show ¬ _; rw [HN.out]; exact h0
    rw [← HN.out] at con hne;clear h0 HT;go_upto_region 5 with fail
    clear x0 x1 x2 x3 x4 x5 x6 kx kk cc;generalize wr.alloc (.cells (mC gs[j].1 gs[j].2.k gs[j].2.v.1 gs[j].2.v.2.1 gs[j].2.v.2.2 gs[j].2.c ai gs[j].2.ks.length ci) 67)=wk at *;have p0:wk.cell? ⟨wr.heap.size,0,none⟩=some (.int .i64 gs[j].1):=cell_of (i:=0) q0 rfl;have p1:wk.cell? ⟨wr.heap.size,1,none⟩=some (.int .i64 gs[j].2.k):=cell_of (i:=1) q0 rfl;have p2:wk.cell? ⟨wr.heap.size,2,none⟩=some (.int .i64 gs[j].2.v.1):=cell_of (i:=2) q0 rfl
    have p3:wk.cell? ⟨wr.heap.size,3,none⟩=some (.int .i64 gs[j].2.v.2.1):=cell_of (i:=3) q0 rfl;have p4:wk.cell? ⟨wr.heap.size,4,none⟩=some (.string gs[j].2.v.2.2):=cell_of (i:=4) q0 rfl;have p5:wk.cell? ⟨wr.heap.size,5,none⟩=some (.int .i64 gs[j].2.c):=cell_of (i:=5) q0 rfl;have p6:wk.cell? ⟨wr.heap.size,6,none⟩=some (.slice ai gs[j].2.ks.length ci):=cell_of (i:=6) q0 rfl;go_wp2_with fail
    refine con.mono ?_;rintro e w3 ⟨rfl,hb3⟩;clear con p0 p1 p2 p3 p4 p5 p6;have hal4:=aa w3 (.cells #[.nilFunc] 156);dsimp only;go_wp2
    exact Me (v:=.tuple #[.nilFunc,.int .i64 le]) (by simp [results,Tryz.results83,go_sem]) rfl ⟨_,rfl,.inr ⟨HN0.out,rfl⟩,chain (chain (chain hb hal) hb3) hal4⟩
  ·have e:j=gs.length:=by omega
   subst e;have e0:le=0:=by rw [HT.out,List.drop_length]; rfl
   subst e0;have KF:Hid (sV af w.heap.size wr (w.heap.size+1) Fs):=by rw [← lFs] at F; exact F.kids (Mc _) (by omega)
   have AF:Hid (Dr af w.heap.size (.func (.func 115) #[] #[.pointer (some ⟨w.heap.size+1,0,none⟩)]) gs wr):=⟨115,_,rfl,enters_of Tryz.func115 (by kernel_rfl) rfl,fun rows a cap W hr hs hW=>by
    have:=Io af w.heap.size (w.heap.size+1) Fs a rows cap W (KF.out.next hW) (by omega) hr hs;have em:(Fs.map fun F:List Zp→Vl=>F rows)=gs.map fun g=>kv g rows:=by rw [HFs.out,Nj]; rfl
    rw [lFs,em] at this;exact this⟩
   go_wp2_with fail
   first
    | exact Me (v:=.tuple #[.func (.func 115) #[] #[.pointer (some ⟨w.heap.size+1,0,none⟩)],.int .i64 0]) (by simp [results,Tryz.results83,go_sem]) rfl ⟨_,rfl,.inl ⟨rfl,AF.out⟩,hb⟩
    | exact Me (v:=.tuple #[.func (.func 115) #[] #[.pointer (some ⟨w.heap.size+1,0,none⟩)],.int .i64 0]) (by simp [results,Tryz.results83,go_sem]) rfl ⟨_,rfl,AF.out,hb⟩
def jr:Int→List Kp→List Zp
 | _,[]=>[]
 | n,x :: r=>(x.2.1,min x.2.2 n) :: jr (n - min x.2.2 n) r
theorem qv:∀ (n:Int) (l:List Kp),0≤n→(∀ x ∈ l,0<x.2.2)→∀ y ∈ jr n l,(∃ x ∈ l,y.1=x.2.1)∧0≤y.2∧y.2≤n
 | _,[],_,_,y,hy=>by simp [jr] at hy
 | n,x :: r,hn,hl,y,hy=>by
  rw [jr] at hy
  have hx:=hl x (by simp)
  rcases List.mem_cons.1 hy with rfl | hy
  ·exact ⟨⟨x,by simp,rfl⟩,by simp only; omega,by simp only; omega⟩
  ·obtain ⟨⟨q,hq,e⟩,h1,h2⟩:=qv _ r (by omega) (fun q hq=>hl q (by simp [hq])) y hy
   exact ⟨⟨q,by simp [hq],e⟩,h1,by omega⟩
theorem eO {xs:List Ex} {z:List Zp} {x:Kp}:x ∈ bj xs z↔(x.2 ∈ z∧0<x.2.2)∧x.1=fj xs x.2.1:=by
 rw [(jQ xs z).mem_iff];unfold i6;rw [Nb];constructor
 ·rintro ⟨p,hp,rfl⟩;have:=List.mem_filter.1 hp;exact ⟨⟨this.1,by simpa using this.2⟩,rfl⟩
 ·rintro ⟨⟨h1,h2⟩,h3⟩;exact ⟨x.2,List.mem_filter.2 ⟨h1,by simpa using h2⟩,by rw [← h3]⟩
def kX (af:List Int) (xs:List Ex) (k:Int) (z:List Zp):Int:=if bU af xs≠0 then bU af xs else if k<0∨50<k then 3 else if cz af z≠0 then cz af z else bh (jr k (bj xs z))
def rO (af:List Int) (xs:List Ex) (k:Int) (z:List Zp):List Zp:=if kX af xs k z=0 then canon (jr k (bj xs z)) else []
theorem Br {n:Int} {l:List Kp} {j:Nat} (h:j<l.length):jr n (l.drop j)=(l[j].2.1,min l[j].2.2 n) :: jr (n - min l[j].2.2 n) (l.drop (j+1)):=by
 rw [Mi h,jr]
theorem Gw (af:List Int) (xs:List Ex) (n:Int) (hn64:-9223372036854775808≤n∧n≤9223372036854775807) (ca:Option Addr) (ccap:Nat) (xa:Option Addr) (xcap:Nat) (a:Option Addr) (cap:Nat) (l:List Zp) (w:World) (hc:bG w.heap.size w ca af) (hk:aX w.heap.size w xa xs) (h:bc w a l) :
  Calls Tryz.prog 53 #[.slice ca af.length ccap,.slice xa xs.length xcap,.int .i64 n,.slice a l.length cap] w fun e w'=>∃ v,e = .returned (.tuple #[v,.int .i64 (kX af xs n l)])∧dH w.heap.size w' v (rO af xs n l)∧Below w.heap.size w w':=by
 obtain ⟨i0,hi,hj0,hj1,hj2⟩:=info_parts Tryz.gH;have con:=tZ af xs ca ccap xa xcap w hk hc;generalize hfz:rO af xs n l=fz;generalize hfe:kX af xs n l=fe;have HZ:=aw hfz;have HF:=aw hfe;clear hfz hfe;by_cases h1:bU af xs=0
 ·have H1:=aw h1;rw [h1] at con;clear h1;by_cases hr:n<0∨50<n
  ·have e0:fe=3:=by rw [← HF.out]; unfold kX; rw [H1.out,if_neg (by simp),if_pos hr]
   have e1:fz = []:=by rw [← HZ.out]; unfold rO; rw [HF.out,e0,if_neg (by decide)]
   subst e0;have HV:=aw e1;clear e1;go_enter Tryz.func53,Tryz.ntmps53;go_wp2_with fail
   refine con.mono ?_;rintro e w1 ⟨u,rfl,hL,hb1⟩;clear con hL;dsimp only;by_cases hr1:n<0
   ·go_wp2
    exact Me (v:=.tuple #[.slice none 0 0,.int .i64 3]) (by simp [results,Tryz.results53,go_sem]) rfl ⟨_,rfl,by rw [HV.out]; exact cY _ _,hb1⟩
   ·have hr2:50<n:=by omega
    go_wp2
    exact Me (v:=.tuple #[.slice none 0 0,.int .i64 3]) (by simp [results,Tryz.results53,go_sem]) rfl ⟨_,rfl,by rw [HV.out]; exact cY _ _,hb1⟩
  have hr1:¬ n<0:=fun h=>hr (.inl h)
  have hr2:¬ 50<n:=fun h=>hr (.inr h)
  have HRg:=aw hr;clear hr;go_enter Tryz.func53,Tryz.ntmps53;go_wp2_with fail
  refine con.mono ?_;rintro e w1 ⟨u,rfl,hL,hb1⟩;clear con;have hL:ko af w.heap.size u xs w1:=by
   rcases hL with ⟨_,hL⟩ | ⟨hL,_⟩
   ·exact hL
   ·exact absurd (by trivial) hL
  obtain ⟨g,cb,rfl,eg,d⟩:=hL;have HL:Hid (ko af w.heap.size (.func (.func g) #[] cb) xs w1):=⟨g,cb,rfl,eg,d⟩
  clear d;have con:=gK af ca ccap a cap l w1 ((hc.next hb1 (Mc _)).up hb1.size) (h.next hb1);by_cases h2:cz af l=0
  ·have hz:=(gN af l).1 h2;rw [h2] at con;have H2:=aw h2;clear h2;have HE:Hid (fe=bh (jr n (bj xs l))):=by
    show fe=_;rw [← HF.out]; unfold kX; rw [H1.out,H2.out,if_neg (by simp),if_neg HRg.out,if_neg (by simp)]
   have HV:Hid (fz=bT (jr n (bj xs l))):=by
    show fz=_;rw [← HZ.out]; unfold rO bT; rw [HF.out,HE.out]
   have hl4:=iq hz;have HO:=aw hz;dsimp only;go_wp2_with fail
   refine con.mono ?_;rintro e w2 ⟨rfl,hb2⟩;clear con;have hA:=chain hb1 hb2;have con:=rh af xs (.func (.func g) #[] cb) w.heap.size a cap l w2 (HL.out.next (Since.of hb2)) HO.out (h.next hA);have hil:=nS xs l;generalize hio:bj xs l=L at *;have HI:=aw hio;clear hio;dsimp only;go_wp2_with fail
   refine con.mono ?_;rintro e w3 ⟨a3,c3,rfl,kd,hb3⟩;clear con;have hA3:=chain hA hb3;dsimp only;have HP:Hid (∀ x ∈ L,0<x.2.2):=fun x hx=>by rw [← HI.out] at hx; exact (eO.1 hx).1.2
   have HW:Hid (∀ x ∈ L,x.2.2≤1000000):=fun x hx=>by
    rw [← HI.out] at hx;have:=mh HO.out x.2 (eO.1 hx).1.1;rw [jb] at this;exact this.2
   clear hz;go_wp2_with fail
   go_loopw [13,14,44] (fun v s14 i wr=>∃ (k:Nat) (lf:Int) (acc:List Zp),k≤L.length∧i = .int .i64 k∧s14 = .int .i64 lf∧0≤lf∧lf≤50∧acc.length≤k∧po w3 w3.heap.size wr v acc∧Hid (jr n L=acc ++ jr lf (L.drop k))∧Below w3.heap.size w3 wr) (fun _ _ i _=>L.length - (intOf i).toNat)
   case atStart=>exact ⟨0,n,[],Mj _,rfl,rfl,by omega,by omega,Mc _,⟨[],by simpa using MM _ _ _ _,by simp [ku]⟩,rfl,Md _ _⟩
   case round =>
    obtain ⟨k,lf,acc,hk',rfl,rfl,hf0,hf1,hacc,HOB,HT,hb⟩:=hrel;have hzr:=hb.size;by_cases hlt:k<L.length
    ·obtain ⟨b,off,rfl,hbl,e2,⟨ra,rc,e1,sr⟩,ka,kc,e0,_⟩:=kd.elem hlt;have p2:=(hb.cell (p:=⟨b,_,none⟩) hbl).trans e2;have p1:=(hb.cell (p:=⟨b,_,none⟩) hbl).trans e1;have p0:=(hb.cell (p:=⟨b,_,none⟩) hbl).trans e0;have hbl':b<wr.heap.size:=Mh hbl hzr;have HS:=aw sr;have hw0:=HP.out L[k] (Mk hlt);have hw1:=HW.out L[k] (Mk hlt);have HD:Hid (jr lf (L.drop k)=(L[k].2.1,min L[k].2.2 lf) :: jr (lf - min L[k].2.2 lf) (L.drop (k+1))):=Br hlt;obtain ⟨xs',ho,he⟩:=HOB;have HEn:=aw he
     have hal:=aa wr (.cells #[.slice ka L[k].1.length kc,.slice ra L[k].2.1.length rc,.int .i64 L[k].2.2] 132);have ho1:=bp ho hal;have za:(wr.alloc (.cells #[.slice ka L[k].1.length kc,.slice ra L[k].2.1.length rc,.int .i64 L[k].2.2] 132)).heap.size=wr.heap.size+1:=by simp
     clear e0 e1 e2 sr he ho;go_wp2_with (at_builtin; refine M9 _ rfl _ _ 37 rfl w3.heap.size 63 i0 _ 2 32 Tryz.underlying37 hi hj0 hj1 hj2 rfl (by decide) _ _ _ rfl (ho1.alloc _) ⟨wr.heap.size+1,0,none⟩ 1 1 [.slice ra L[k].2.1.length rc,.int .i64 (min L[k].2.2 lf)] rfl rfl ?Ac1 ?Ac2 ?Ac3 ?Ac4 ?Ac5 ?_)
     case Ac1 =>
      intro j u hj
      match j,hj with
      | 0,hj=>simp at hj; subst hj; simp [Addr.add]
      | 1,hj=>simp at hj; subst hj; simp [Addr.add]
     case Ac2=>intro u hu; simp at hu; rcases hu with rfl | rfl <;> rfl
     case Ac3=>unfold maxLen; omega
     case Ac4=>omega
     case Ac5=>simp; omega
     intro v' w5 ho5 hg5 _;have hb5:Below w3.heap.size wr w5:=(((Md w3.heap.size wr).alloc (by omega) _).alloc (by simp; omega) _).grown hg5 (by simp; omega) (fun q hq=>((ho1.alloc (.cells #[.slice ra L[k].2.1.length rc,.int .i64 (min L[k].2.2 lf)] 63)).lt q hq).1);have hb6:=hb.trans hb5;clear hg5 ho1 hal hb5;go_wp2
     go_roundw
     case rel=>exact ⟨k+1,lf - min L[k].2.2 lf,acc ++ [(L[k].2.1,min L[k].2.2 lf)],by omega,by go_num,rfl,by omega,by omega,by simp; omega,⟨_,by simpa using ho5,HEn.out.push HS.out⟩,by show jr n L=_; rw [HT.out,HD.out]; simp,hb6⟩
     case measure=>simp [intOf]; omega
    ·have e:k=L.length:=by omega
     subst e;have ea:jr n L=acc:=by have:=HT.out; rw [List.drop_length] at this; simpa [jr] using this
     obtain ⟨a4,c4,rfl,zs4,_⟩:=HOB.zs hb;have hmem:=qv n L (by omega) HP.out;have con:=dP a4 c4 acc wr zs4 (by omega) (fun y hy=>by rw [← ea] at hy; have:=hmem y hy; rw [kD]; omega) (fun y hy=>by
      rw [← ea] at hy;obtain ⟨⟨x,hx,e⟩,_⟩:=hmem y hy;rw [e];rw [← HI.out] at hx;exact Ka HO.out x.2 (eO.1 hx).1.1)
     have HV':=HV.out;have HE':=HE.out;rw [ea] at HV' HE';rw [← HE',← HV'] at con;clear HV' HE' zs4 HOB ea hmem;go_wp2_with fail
     refine con.mono ?_;rintro e w6 ⟨v6,rfl,O6,hb6⟩;have hA6:=chain hA3 hb;have O6':=O6.mono hA6.size;obtain ⟨a6,c6,rfl,_⟩:=O6.zs;clear con O6;dsimp only;go_wp2
     exact Me (v:=.tuple #[.slice a6 fz.length c6,.int .i64 fe]) (by simp [results,Tryz.results53,go_sem]) rfl ⟨_,rfl,O6',chain hA6 hb6⟩
  ·have e0:fe=cz af l:=by rw [← HF.out]; unfold kX; rw [H1.out,if_neg (by simp),if_neg HRg.out,if_pos h2]
   have e1:fz = []:=by rw [← HZ.out]; unfold rO; rw [HF.out,e0,if_neg h2]
   have hne:(cz af l != 0)=true:=by simpa using h2
   rw [← e0] at con hne;have HV:=aw e1;clear e0 e1 h2;dsimp only;go_wp2_with fail
   refine con.mono ?_;rintro e w2 ⟨rfl,hb2⟩;clear con;dsimp only;go_wp2
   exact Me (v:=.tuple #[.slice none 0 0,.int .i64 fe]) (by simp [results,Tryz.results53,go_sem]) rfl ⟨_,rfl,by rw [HV.out]; exact cY _ _,chain hb1 hb2⟩
 ·have e0:fe=bU af xs:=by rw [← HF.out]; unfold kX; rw [if_pos h1]
  have e1:fz = []:=by rw [← HZ.out]; unfold rO; rw [HF.out,e0,if_neg h1]
  have hne:(bU af xs != 0)=true:=by simpa using h1
  have HL:=aw h1;rw [← e0] at hne;have HV:=aw e1;have HN:=aw e0;clear e0 e1 h1;go_enter Tryz.func53,Tryz.ntmps53;go_wp2_with fail
  refine con.mono ?_;rintro e w1 ⟨u,rfl,hL,hb1⟩;obtain ⟨_,rfl⟩:¬ bU af xs=0∧u = .nilFunc:=by
   rcases hL with ⟨hL,_⟩ | hL
   ·exact absurd hL HL.out
   ·exact hL
  rw [← HN.out];clear con;go_wp2
  exact Me (v:=.tuple #[.slice none 0 0,.int .i64 fe]) (by simp [results,Tryz.results53,go_sem]) rfl ⟨_,rfl,by rw [HV.out]; exact cY _ _,hb1⟩
theorem sQ (L:List Kp):∀ p ∈ dp L,(∀ r ∈ p.2,∃ x ∈ L,x.2=r)∧∃ x ∈ L,p.1=x.1:=by
 have aux:∀ (L:List Kp) (ps:List Pt) (P:Zp→Prop) (Q:List Vl→Prop),(∀ x ∈ L,P x.2∧Q x.1)→(∀ p ∈ ps,(∀ r ∈ p.2,P r)∧Q p.1)→∀ p ∈ L.foldl (fun ps x=>kL (cX ps x) x.2) ps,(∀ r ∈ p.2,P r)∧Q p.1:=by
  intro L
  induction L with
  | nil=>intro ps P Q _ h; exact h
  | cons x r ih =>
   intro ps P Q hL h;rw [Nl];refine ih _ P Q (fun y hy=>hL y (by simp [hy])) ?_;have hx:=hL x (by simp);have ho:∀ p ∈ cX ps x,(∀ r ∈ p.2,P r)∧Q p.1:=fun p hp=>by
    have hnew:∀ p ∈ ps ++ [((x.1,[]):Pt)],(∀ r ∈ p.2,P r)∧Q p.1:=fun p hp=>by
     rcases List.mem_append.1 hp with hp | hp
     ·exact h p hp
     ·rw [List.mem_singleton.1 hp]; exact ⟨fun r hr=>by simp at hr,hx.2⟩
    unfold cX at hp
    split at hp
    ·exact hnew p hp
    ·split at hp
     ·exact h p hp
     ·exact hnew p hp
   intro p hp;unfold kL at hp
   split at hp
   ·exact ho p hp
   ·rename_i hne
    rcases List.mem_or_eq_of_mem_set hp with hp | rfl
    ·exact ho p hp
    ·have hl:=ho _ (Mk (l:=cX ps x) (n:=(cX ps x).length - 1) (by omega));refine ⟨fun r hr=>?_,hl.2⟩;rcases List.mem_append.1 hr with hr | hr
     ·exact hl.1 r hr
     ·rw [List.mem_singleton.1 hr]; exact hx.1
 intro p hp;exact aux L [] (fun r=>∃ x ∈ L,x.2=r) (fun k=>∃ x ∈ L,k=x.1) (fun x hx=>⟨⟨x,hx,rfl⟩,⟨x,hx,rfl⟩⟩) (fun p hp=>by simp at hp) p hp
def ek (xs:List Ex) (L:List Kp):List Pt:=if xs.length=0∧(dp L).length=0 then [([],[])] else dp L
def dC (xs:List Ex) (gs:List Ag) (L:List Kp):List Zp:=(ek xs L).map fun p=>(p.1 ++ gs.map fun g=>kv g p.2,1)
def dM (af:List Int) (xs:List Ex) (gs:List Ag) (z:List Zp):Int:=if 8<xs.length+gs.length then 5 else if bU af xs≠0 then bU af xs else if dZ af gs≠0 then dZ af gs else if cz af z≠0 then cz af z else bh (dC xs gs (bj xs z))
def iN (af:List Int) (xs:List Ex) (gs:List Ag) (z:List Zp):List Zp:=if dM af xs gs z=0 then canon (dC xs gs (bj xs z)) else []
theorem DT {af:List Int} {xs:List Ex} {z:List Zp} (h:kj af z):(ek xs (bj xs z)).length≤401∧∀ p ∈ ek xs (bj xs z),Gg af p.2∧p.1.length=xs.length:=by
 have hs:=oR (bj xs z);have hl:=nS xs z;have h4:=iq h;have hp:∀ p ∈ dp (bj xs z),Gg af p.2∧p.1.length=xs.length:=fun p hp=>by
  obtain ⟨h1,x,hx,e⟩:=sQ (bj xs z) p hp;refine ⟨⟨by have:=hs.2 p hp; omega,fun r hr=>?_,fun r hr=>?_⟩,?_⟩
  ·obtain ⟨y,hy,rfl⟩:=h1 r hr;exact h.fit _ (eO.1 hy).1.1
  ·obtain ⟨y,hy,rfl⟩:=h1 r hr;have hm:=eO.1 hy;have:=mh h y.2 hm.1.1;rw [jb] at this;have:=hm.1.2;omega
  ·rw [e,(eO.1 hx).2]; simp [fj]
 unfold ek
 split
 ·rename_i hc
  refine ⟨by simp,fun p hp'=>?_⟩;rw [List.mem_singleton.1 hp'];exact ⟨⟨Mj _,fun r hr=>by simp at hr,fun r hr=>by simp at hr⟩,hc.1.symm⟩
 ·exact ⟨by have:=hs.1; omega,hp⟩
def Ld (W:World) (b o:Nat) (p:Pt):Prop:=(∃ ka kc,W.cell? ⟨b,o,none⟩=some (.slice ka p.1.length kc)∧bg W ka p.1)∧∃ ra rc,W.cell? ⟨b,o+1,none⟩=some (.slice ra p.2.length rc)∧bc W ra p.2
theorem Ld.next {W w1:World} {b o:Nat} {p:Pt} (h:Ld W b o p) (hlt:b<W.heap.size) (hb:Below W.heap.size W w1):Ld w1 b o p:=by
 obtain ⟨⟨ka,kc,h1,h2⟩,ra,rc,h3,h4⟩:=h;exact ⟨⟨ka,kc,(hb.cell (p:=⟨b,_,none⟩) hlt).trans h1,h2.next hb⟩,ra,rc,(hb.cell (p:=⟨b,_,none⟩) hlt).trans h3,h4.next hb⟩
def zp (W:World) (a:Option Addr) (ps:List Pt):Prop:=ps = []∨∃ b off,a=some ⟨b,off,none⟩∧b<W.heap.size∧∀ i (hi:i<ps.length),Ld W b (off+i*2) ps[i]
theorem zp.next {W w1:World} {a:Option Addr} {ps:List Pt} (h:zp W a ps) (hb:Below W.heap.size W w1):zp w1 a ps:=by
 rcases h with h | ⟨b,off,e,hlt,h⟩
 ·exact .inl h
 ·exact .inr ⟨b,off,e,Mh hlt hb.size,fun i hi=>(h i hi).next hlt hb⟩
theorem zp.elem {W:World} {a:Option Addr} {ps:List Pt} (h:zp W a ps) {i:Nat} (hi:i<ps.length):∃ b off,a=some ⟨b,off,none⟩∧b<W.heap.size∧Ld W b (off+i*2) ps[i]:=by
 rcases h with h | ⟨b,off,e,hlt,h⟩
 ·subst h; simp at hi
 ·exact ⟨b,off,e,hlt,h i hi⟩
theorem kB.pt {w0:World} {B:Nat} {W:World} {v:Value} {ps:List Pt} (h:kB w0 B W v ps) (hb:Below w0.heap.size w0 W):∃ a c,v = .slice a ps.length c∧zp W a ps:=by
 obtain ⟨xs,Bl,rv,zs,I⟩:=h;have o:=I.own;rcases o.2 with ⟨rfl,h0⟩ | ⟨g,cap,cur,rfl,_⟩
 ·exact ⟨none,0,by rw [h0],.inl (Mo h0)⟩
 ·refine ⟨_,cap,rfl,.inr ⟨g,0,rfl,(o.lt g rfl).2,fun i hi=>?_⟩⟩;obtain ⟨ka,kc,e0,s0⟩:=I.key i hi;obtain ⟨ra,rc,er,zr⟩:=tW (I.FO hi) rfl (I.row i hi).2 hb;refine ⟨⟨ka,kc,?_,s0.next hb⟩,ra,rc,?_,zr⟩
  ·rw [Mq,o.cellAt _ (by omega)]; exact e0
  ·rw [Mq,o.cellAt _ (by omega),I.cell i hi,er]
theorem ve (af:List Int) (xs:List Ex) (gs:List Ag) (hT:∀ g ∈ gs,df af g=0→gj g.1) (hsum:xs.length+gs.length≤9223372036854775807) (ca:Option Addr) (ccap:Nat) (xa:Option Addr) (xcap:Nat) (ga:Option Addr) (gcap:Nat) (a:Option Addr) (cap:Nat) (l:List Zp) (w:World) (hc:bG w.heap.size w ca af) (hk:aX w.heap.size w xa xs) (hg:ie w.heap.size w ga gs) (h:bc w a l) :
  Calls Tryz.prog 52 #[.slice ca af.length ccap,.slice xa xs.length xcap,.slice ga gs.length gcap,.slice a l.length cap] w fun e w'=>∃ v,e = .returned (.tuple #[v,.int .i64 (dM af xs gs l)])∧dH w.heap.size w' v (iN af xs gs l)∧Below w.heap.size w w':=by
 obtain ⟨i0,hi,hz0,hz1,hz2⟩:=info_parts Tryz.gH;have con:=tZ af xs ca ccap xa xcap w hk hc;generalize hfz:iN af xs gs l=fz;generalize hfe:dM af xs gs l=fe;have HZ:=aw hfz;have HF:=aw hfe;have HTo:=aw hT;clear hfz hfe hT;have hW:IntKind.i64.wrap ((xs.length:Int)+(gs.length:Int))=(xs.length:Int)+(gs.length:Int):=IntWalk.i64_in _ ⟨by omega,by omega⟩;by_cases h8:8<xs.length+gs.length
 ·have e0:fe=5:=by rw [← HF.out]; unfold dM; rw [if_pos h8]
  have e1:fz = []:=by rw [← HZ.out]; unfold iN; rw [HF.out,e0,if_neg (by decide)]
  subst e0 e1;have hz:(8:Int)<(xs.length:Int)+(gs.length:Int):=by omega
  clear con;go_enter Tryz.func52,Tryz.ntmps52;go_wp2_with fail
  exact Me (v:=.tuple #[.slice none 0 0,.int .i64 5]) (by simp [results,Tryz.results52,go_sem]) rfl ⟨_,rfl,cY _ _,Md _ _⟩
 have hz:¬ (8:Int)<(xs.length:Int)+(gs.length:Int):=by omega
 have HN8:=aw h8;by_cases h1:bU af xs=0
 ·have H1:=aw h1;rw [h1] at con;clear h1;go_enter Tryz.func52,Tryz.ntmps52;go_wp2_with fail
  refine con.mono ?_;rintro e w1 ⟨u,rfl,hL,hb1⟩;clear con;have hL:ko af w.heap.size u xs w1:=by
   rcases hL with ⟨_,hL⟩ | ⟨hL,_⟩
   ·exact hL
   ·exact absurd (by trivial) hL
  have HL:=aw hL;obtain ⟨ug,ucb,rfl⟩:∃ g cb,u = .func (.func g) #[] cb:=by obtain ⟨g,cb,e,_⟩:=hL; exact ⟨g,cb,e⟩
  clear hL;have con:=rH af gs HTo.out ca ccap ga gcap w1 ((ie.next hb1 (Mc _) hg).up hb1.size) ((hc.next hb1 (Mc _)).up hb1.size) (by omega);by_cases h2:dZ af gs=0
  ·have H2:=aw h2;rw [h2] at con;clear h2;dsimp only;go_wp2_with fail
   refine con.mono ?_;rintro e w2 ⟨u2,rfl,hG,hb2⟩;clear con;have hG:Dr af w1.heap.size u2 gs w2:=by
    rcases hG with ⟨_,hG⟩ | ⟨hG,_⟩
    ·exact hG
    ·exact absurd (by trivial) hG
   obtain ⟨tg,tcb,rfl,egt,dt⟩:=hG;have HD:=aw dt;clear dt;have hA2:=chain hb1 hb2;have con:=gK af ca ccap a cap l w2 ((hc.next hA2 (Mc _)).up hA2.size) (h.next hA2);by_cases h3:cz af l=0
   ·have HO:Hid (kj af l):=(gN af l).1 h3;rw [h3] at con;have H3:=aw h3;clear h3;have HE:Hid (fe=bh (dC xs gs (bj xs l))):=by
     show fe=_;rw [← HF.out]; unfold dM; rw [if_neg HN8.out,H1.out,H2.out,H3.out,if_neg (by simp),if_neg (by simp),if_neg (by simp)]
    have HV:Hid (fz=bT (dC xs gs (bj xs l))):=by
     show fz=_;rw [← HZ.out]; unfold iN bT; rw [HF.out,HE.out]
    have hl4:=iq HO.out;dsimp only;go_wp2_with fail
    refine con.mono ?_;rintro e w3 ⟨rfl,hb3⟩;clear con;have hA3:=chain hA2 hb3;have con:=rh af xs (.func (.func ug) #[] ucb) w.heap.size a cap l w3 (HL.out.next (Since.of (chain hb2 hb3))) HO.out (h.next hA3);have hil:=nS xs l;dsimp only;go_wp2_with fail
    refine con.mono ?_;rintro e w4 ⟨a4,c4,rfl,kd,hb4⟩;clear con;have con:=BR a4 c4 (bj xs l) w4 kd (by omega);have hpk:=DT (xs:=xs) HO.out;have HPk:Hid (∀ p ∈ ek xs (bj xs l),Gg af p.2∧p.1.length=xs.length):=hpk.2;have hpl:=hpk.1;clear hpk;dsimp only;go_wp2_with fail
    refine con.mono ?_;rintro e w5 ⟨v5,rfl,PS,hb5⟩;clear con kd;obtain ⟨a5,c5,rfl,PT⟩:=PS.pt hb5;clear PS;have hA5:=chain (chain hA3 hb4) hb5;have hS5:=chain (chain hb3 hb4) hb5;have HG:Hid (dC xs gs (bj xs l)=(ek xs (bj xs l)).map fun p=>(p.1 ++ gs.map fun g=>kv g p.2,1)):=rfl;dsimp only;by_cases hcx:xs.length=0∧(dp (bj xs l)).length=0
    ·obtain ⟨hx0,hp0⟩:=hcx;have eG:ek xs (bj xs l) = [([],[])]:=by unfold ek; rw [if_pos ⟨hx0,hp0⟩]
     have hx0b:((xs.length:Int) == 0)=true:=by simp [hx0]
     have hp0b:(((dp (bj xs l)).length:Int) == 0)=true:=by simp [hp0]
     obtain ⟨ps,eps⟩:∃ ps,ps=ek xs (bj xs l):=⟨_,rfl⟩
     have HPs:Hid (ek xs (bj xs l)=ps):=eps.symm;have hpsl:ps.length=1:=by rw [eps,eG]; rfl
     have hplx:ps.length≤401:=by omega
     generalize hpn:(dp (bj xs l)).length=pn at *;have hal5:=aa w5 (.cells #[.slice none 0 0,.slice none 0 0] 129);have q5:=ak w5 #[.slice none 0 0,.slice none 0 0] 129;have PT:zp (w5.alloc (.cells #[.slice none 0 0,.slice none 0 0] 129)) (some ⟨w5.heap.size,0,none⟩) ps:=by
      rw [eps,eG];refine .inr ⟨w5.heap.size,0,rfl,ae q5,fun i hi=>?_⟩;have e0:i=0:=by simpa using hi
      subst e0;exact ⟨⟨none,0,cell_of (i:=0) q5 rfl,Mj _,.inl rfl⟩,none,0,cell_of (i:=1) q5 rfl,Mj _,.inl rfl⟩
     clear eps hpn eG hp0;go_upto_region 15 with fail
     have hbx:=chain hA5 hal5;have hSx:=chain hS5 hal5;generalize w5.alloc (.cells #[.slice none 0 0,.slice none 0 0] 129)=wx at *;obtain ⟨pa,epa⟩:∃ pa,pa=some (⟨w5.heap.size,0,none⟩:Addr):=⟨_,rfl⟩
     rw [← epa] at PT ⊢;clear epa;rw [show (1:Nat)=ps.length from hpsl.symm];clear hpsl hx0b hp0b hx0;have hgl:(dC xs gs (bj xs l)).length=ps.length:=by rw [HG.out,HPs.out]; simp
     go_wp2_with (first | (at_make; refine wpList_make_full _ rfl _ _ 37 rfl wx.heap.size 63 i0 _ 2 Tryz.underlying37 hi hz0 hz1 .i64 .i64 ps.length ps.length ps.length rfl rfl rfl rfl (by rw [hz2]; omega) (by unfold maxLen; omega) (Mc _) ?_))
     intro w6 hown hgrow;have hb6:Below wx.heap.size wx w6:=(Md _ _).grown hgrow (Mc _) (by simp);obtain ⟨f,hf⟩:∃ f:Nat→Zp,f=(fun j=>(dC xs gs (bj xs l)).getD j ([],0)):=⟨_,rfl⟩
     have HFn:=aw hf;have HGl:=aw hgl;clear hf hgl;have hB0:uC w6 wx.heap.size ps.length f 0:=⟨_,hown,fun j _ hj=>absurd hj (MP _)⟩
     clear hown hgrow;go_wp2_with fail
     go_loopw [67] (fun i wr=>∃ k:Nat,k≤ps.length∧i = .int .i64 k∧uC wr wx.heap.size ps.length f k∧wx.heap.size<wr.heap.size∧Below wx.heap.size wx wr) (fun i _=>ps.length - (intOf i).toNat)
     case atStart=>exact ⟨0,Mj _,rfl,hB0,(by obtain ⟨xs0,o0,_⟩:=hB0; exact (o0.lt wx.heap.size rfl).2),hb6⟩
     case round =>
      clear hB0 hb6;obtain ⟨k,hk',rfl,HB,hwx,hb⟩:=hrel;have hzz:=hb.size;by_cases hlt:k<ps.length
      ·obtain ⟨b,off,rfl,hbl,⟨ka,kc,c0,sk⟩,ra,rc,c1,zr⟩:=(PT.next hb).elem hlt;have hal:=aa wr (.cells #[.slice ka ps[k].1.length kc,.slice ra ps[k].2.length rc] 129);have q0:=ak wr #[.slice ka ps[k].1.length kc,.slice ra ps[k].2.length rc] 129;have hpo:=HPk.out ps[k] (by rw [HPs.out]; exact Mk hlt);have HRo:Hid (Gg af ps[k].2):=hpo.1;have hkl:=hpo.2;have HSk:=aw sk;have HZr:=aw zr;have ef:f k=(ps[k].1 ++ gs.map fun g=>kv g ps[k].2,1):=by
        rw [HFn.out];simp only [HG.out,HPs.out];simp [List.getD,hlt]
       have EF:=aw ef;have i0':(0:Int)≤(k:Int):=by omega
       have i1:(k:Int)<(ps.length:Int):=by omega
       have hkl8:ps[k].1.length+gs.length≤8:=by omega
       clear ef sk zr hpo hkl;go_wp2_with fail
       clear c0 c1;generalize wr.alloc (.cells #[.slice ka ps[k].1.length kc,.slice ra ps[k].2.length rc] 129)=wk at *;have hCC:∀ W W':World,(W.heap[wr.heap.size]? = some (.cells #[.slice ka ps[k].1.length kc,.slice ra ps[k].2.length rc] 129 (0,0)))→Below W.heap.size W W'→(W'.heap[wr.heap.size]? = some (.cells #[.slice ka ps[k].1.length kc,.slice ra ps[k].2.length rc] 129 (0,0))):=fun W W' h hb=>(hb.block _ (ae h)).trans h
       have hd:Below wk.heap.size wk wk.drew:=(Md _ _).drew;have CW:(wk.drew.heap[wr.heap.size]? = some (.cells #[.slice ka ps[k].1.length kc,.slice ra ps[k].2.length rc] 129 (0,0))):=hCC _ _ q0 hd;refine aH (fun W=>(W.heap[wr.heap.size]? = some (.cells #[.slice ka ps[k].1.length kc,.slice ra ps[k].2.length rc] 129 (0,0)))) (by kernel_rfl) ?_;refine az hCC 72 0 (.slice (some ⟨wx.heap.size,0,none⟩) ps.length ps.length) (fun n hn=>?_) CW ?_
       ·go_simp
       simp only [pD,pB,pC];refine az hCC 73 1 (.int .i64 (k:Int)) (fun n hn=>?_) CW ?_
       ·go_simp
       simp only [pD,pB,pC];refine az hCC 74 2 (.pointer (some ⟨wr.heap.size,0,none⟩)) (fun n hn=>?_) CW ?_
       ·go_simp
       simp only [pD,pB,pC];refine az hCC 75 3 (.slice ka ps[k].1.length kc) (fun n hn=>?_) CW ?_
       ·have hc:n.cell? ⟨wr.heap.size,0,none⟩=some (.slice ka ps[k].1.length kc):=cell_of (i:=0) hn rfl;go_simp
       simp only [pD,pB,pC];refine az hCC 76 4 (.func (.func tg) #[] tcb) (fun n hn=>?_) CW ?_
       ·go_simp
       simp only [pD,pB,pC];refine az hCC 77 5 (.pointer (some ⟨wr.heap.size,1,none⟩)) (fun n hn=>?_) CW ?_
       ·go_simp
       simp only [pD,pB,pC];refine az hCC 78 6 (.slice ra ps[k].2.length rc) (fun n hn=>?_) CW ?_
       ·have hc:n.cell? ⟨wr.heap.size,1,none⟩=some (.slice ra ps[k].2.length rc):=cell_of (i:=1) hn rfl;go_simp
       simp only [pD,pB,pC];refine bD 7 ?_;intro w7 hb7
       have CW7:=hCC _ _ CW hb7;have D7:=chain hal (chain hd hb7);have con:=HD.out ps[k].2 ra rc w7 HRo.out (HZr.out.next D7) (Since.of (chain hSx (chain hb D7)));refine wpOp_step rfl (fun K hK=>?_);go_simp
       first | (refine con.mono ?_) | (go_at_fn tg; refine con.mono ?_)
       rintro e w8 ⟨rfl,hRN,hb8⟩;clear con;have CW8:=hCC _ _ CW7 hb8;have D8:=chain D7 hb8;refine hK _ _ ⟨CW8,?_⟩;clear hK K;refine bD 8 ?_;intro w9 hb9
       refine wpOp_step rfl (fun K hK=>?_);go_simp;have CW9:=hCC _ _ CW8 hb9;have D9:=chain D8 hb9;have R2:=fA (hRN.1.next hb9);have hgm:(gs.map fun g=>kv g ps[k].2).length=gs.length:=by simp
       rw [hgm] at R2;have PC:=iQ.new kc gs.length (fA (HSk.out.next D9)) R2 61;have halA:=aa w9 (.cells #[.slice ka ps[k].1.length kc,.slice (some ⟨w7.heap.size,0,none⟩) gs.length gs.length] 61);have CWA:=hCC _ _ CW9 halA;have DA:=chain D9 halA;refine hK _ _ ⟨CWA,?_⟩;clear hK K R2 hgm hRN;generalize w9.alloc (.cells #[.slice ka ps[k].1.length kc,.slice (some ⟨w7.heap.size,0,none⟩) gs.length gs.length] 61)=wA at *;refine bD 9 ?_;intro wB hbB
       refine wpOp_step rfl (fun K hK=>?_);go_simp;have CWB:=hCC _ _ CWA hbB;have DB:=chain DA hbB;refine (kg _ _ _ _ _ wB (PC.next hbB) (by omega)).mono ?_;rintro e wC ⟨vC,rfl,OC,hbC⟩;rw [← bO] at OC;obtain ⟨aC,cC,rfl,SC,TC,_⟩:=kG OC (by simp);have CWC:=hCC _ _ CWB hbC;have DC:=chain DB hbC;refine hK _ _ ⟨CWC,?_⟩;clear hK K OC PC CW7 CW8 CW9 CWA CWB CW;obtain ⟨rr,err⟩:∃ rr,rr=ps[k].1 ++ gs.map fun g=>kv g ps[k].2:=⟨_,rfl⟩
       rw [← err] at SC ⊢;have EFr:Hid (f k=(rr,1)):=by show _=_; rw [err]; exact EF.out
       clear err EF;refine az hCC 82 10 (.agg #[.slice aC rr.length cC,.int .i64 1]) (fun n hn=>?_) CWC ?_
       ·go_simp
       simp only [pD,pB,pC];refine az hCC 83 11 (.pointer (some ⟨wx.heap.size,k*2,none⟩)) (fun n hn=>?_) CWC ?_
       ·go_simp
       simp only [pD,pB,pC];refine bD 12 ?_;intro wD hbD
       have CWD:=hCC _ _ CWC hbD;have DD:=chain DC hbD;have HBD:=(HB.next DD)
       obtain ⟨⟨u0,u1,d0,d1⟩,f0,f1,hlb⟩:=HBD.cells hlt;have MS:=HBD.step hlt (a:=aC) (cap:=cC) (by rw [EFr.out]; exact SC.next hbD) (TC.next hbD);rw [EFr.out] at MS;have hne:wr.heap.size≠wx.heap.size:=by omega
       have CWE:(((wD.setCell ⟨wx.heap.size,k*2,none⟩ (.slice aC rr.length cC)).setCell ⟨wx.heap.size,k*2+1,none⟩ (.int .i64 1)).heap[wr.heap.size]? = some (.cells #[.slice ka ps[k].1.length kc,.slice ra ps[k].2.length rc] 129 (0,0))):=(ML _ _ _ _ hne).trans ((ML _ _ _ _ hne).trans CWD);have BE:Below wx.heap.size wx ((wD.setCell ⟨wx.heap.size,k*2,none⟩ (.slice aC rr.length cC)).setCell ⟨wx.heap.size,k*2+1,none⟩ (.int .i64 1)):=((chain hb DD).setCell (p:=⟨wx.heap.size,k*2,none⟩) (Mc _) _).setCell (p:=⟨wx.heap.size,k*2+1,none⟩) (Mc _) _
       have zE:wx.heap.size<((wD.setCell ⟨wx.heap.size,k*2,none⟩ (.slice aC rr.length cC)).setCell ⟨wx.heap.size,k*2+1,none⟩ (.int .i64 1)).heap.size:=by simpa [World.setCell] using hlb
       refine wpOp_step rfl (fun K hK=>?_);go_simp;refine hK _ _ ⟨CWE,?_⟩;clear hK K CWD CWC d0 d1 f0 f1 HBD SC TC;generalize (wD.setCell ⟨wx.heap.size,k*2,none⟩ (.slice aC rr.length cC)).setCell ⟨wx.heap.size,k*2+1,none⟩ (.int .i64 1)=wE at *;refine bo (by kernel_rfl) ?_;intro wF hbF;have MF:=MS.next hbF;have BF:=chain BE hbF;have zF:=hbF.size;clear MS BE CWE hCC;go_wp2_with fail
       go_roundw
       case rel=>exact ⟨k+1,by omega,by go_num,MF,by omega,BF⟩
       case measure=>simp [intOf]; omega
      ·have e:k=ps.length:=by omega
       subst e;have zsm:=HB.done (dC xs gs (bj xs l)) HGl.out.symm (fun j hj=>by rw [HFn.out]; simp [List.getD,hj]) (by rw [HGl.out]; omega);have hmem:∀ y ∈ dC xs gs (bj xs l),y.2=1∧y.1.length≤8:=fun y hy=>by
        rw [HG.out] at hy;obtain ⟨p,hp,rfl⟩:=List.mem_map.1 hy;have:=(HPk.out p hp).2;exact ⟨rfl,by simp; omega⟩
       have con:=dP (some ⟨wx.heap.size,0,none⟩) ps.length (dC xs gs (bj xs l)) wr zsm (by rw [HGl.out]; omega) (fun y hy=>by rw [(hmem y hy).1]; rfl) (fun y hy=>(hmem y hy).2);rw [HGl.out,← HE.out,← HV.out] at con;clear zsm HB hmem;have hAr:=chain hbx hb;go_wp2_with fail
       refine con.mono ?_;rintro e w9 ⟨v9,rfl,O9,hb9⟩;have O9':=O9.mono hAr.size;obtain ⟨a9,c9,rfl,_⟩:=O9.zs;clear con O9;dsimp only;go_wp2_with fail
       exact Me (v:=.tuple #[.slice a9 fz.length c9,.int .i64 fe]) (by simp [results,Tryz.results52,go_sem]) rfl ⟨_,rfl,O9',chain hAr hb9⟩
    ·have eG:ek xs (bj xs l)=dp (bj xs l):=by unfold ek; rw [if_neg hcx]
     obtain ⟨ps,eps⟩:∃ ps,ps=ek xs (bj xs l):=⟨_,rfl⟩
     have HPs:Hid (ek xs (bj xs l)=ps):=eps.symm;have eP:dp (bj xs l)=ps:=by rw [eps,eG]
     rw [eP] at hcx PT ⊢;have hplx:ps.length≤401:=by rw [eps]; exact hpl
     clear eps eG eP;obtain ⟨wx,hwx5⟩:∃ z,z=w5:=⟨_,rfl⟩
     subst hwx5;have hbx:=hA5;have hSx:=hS5;by_cases e1:xs.length=0;have e2n:¬ (ps.length:Int)=0:=fun e2=>hcx ⟨e1,by omega⟩
     have e2:((ps.length:Int) == 0)=false:=by rw [beq_eq_false_iff_ne]; exact e2n
     have e1b:((xs.length:Int) == 0)=true:=by simp [e1]
     clear hcx e1;go_upto_region 15 with fail
     clear e1b e2 e2n;rotate_left;have e1n:¬ (xs.length:Int)=0:=by omega
     have e1b:((xs.length:Int) == 0)=false:=by rw [beq_eq_false_iff_ne]; exact e1n
     clear hcx e1;go_upto_region 15 with fail
     clear e1b e1n
     all_goals
      have hgl:(dC xs gs (bj xs l)).length=ps.length:=by rw [HG.out,HPs.out]; simp
      go_wp2_with (first | (at_make; refine wpList_make_full _ rfl _ _ 37 rfl wx.heap.size 63 i0 _ 2 Tryz.underlying37 hi hz0 hz1 .i64 .i64 ps.length ps.length ps.length rfl rfl rfl rfl (by rw [hz2]; omega) (by unfold maxLen; omega) (Mc _) ?_))
      intro w6 hown hgrow;have hb6:Below wx.heap.size wx w6:=(Md _ _).grown hgrow (Mc _) (by simp);obtain ⟨f,hf⟩:∃ f:Nat→Zp,f=(fun j=>(dC xs gs (bj xs l)).getD j ([],0)):=⟨_,rfl⟩
      have HFn:=aw hf;have HGl:=aw hgl;clear hf hgl;have hB0:uC w6 wx.heap.size ps.length f 0:=⟨_,hown,fun j _ hj=>absurd hj (MP _)⟩
      clear hown hgrow;go_wp2_with fail
      go_loopw [67] (fun i wr=>∃ k:Nat,k≤ps.length∧i = .int .i64 k∧uC wr wx.heap.size ps.length f k∧wx.heap.size<wr.heap.size∧Below wx.heap.size wx wr) (fun i _=>ps.length - (intOf i).toNat)
      case atStart=>exact ⟨0,Mj _,rfl,hB0,(by obtain ⟨xs0,o0,_⟩:=hB0; exact (o0.lt wx.heap.size rfl).2),hb6⟩
      case round =>
       clear hB0 hb6;obtain ⟨k,hk',rfl,HB,hwx,hb⟩:=hrel;have hzz:=hb.size;by_cases hlt:k<ps.length
       ·obtain ⟨b,off,rfl,hbl,⟨ka,kc,c0,sk⟩,ra,rc,c1,zr⟩:=(PT.next hb).elem hlt;have hal:=aa wr (.cells #[.slice ka ps[k].1.length kc,.slice ra ps[k].2.length rc] 129);have q0:=ak wr #[.slice ka ps[k].1.length kc,.slice ra ps[k].2.length rc] 129;have hpo:=HPk.out ps[k] (by rw [HPs.out]; exact Mk hlt);have HRo:Hid (Gg af ps[k].2):=hpo.1;have hkl:=hpo.2;have HSk:=aw sk;have HZr:=aw zr;have ef:f k=(ps[k].1 ++ gs.map fun g=>kv g ps[k].2,1):=by
         rw [HFn.out];simp only [HG.out,HPs.out];simp [List.getD,hlt]
        have EF:=aw ef;have i0':(0:Int)≤(k:Int):=by omega
        have i1:(k:Int)<(ps.length:Int):=by omega
        have hkl8:ps[k].1.length+gs.length≤8:=by omega
        clear ef sk zr hpo hkl;go_wp2_with fail
        clear c0 c1;generalize wr.alloc (.cells #[.slice ka ps[k].1.length kc,.slice ra ps[k].2.length rc] 129)=wk at *;have hCC:∀ W W':World,(W.heap[wr.heap.size]? = some (.cells #[.slice ka ps[k].1.length kc,.slice ra ps[k].2.length rc] 129 (0,0)))→Below W.heap.size W W'→(W'.heap[wr.heap.size]? = some (.cells #[.slice ka ps[k].1.length kc,.slice ra ps[k].2.length rc] 129 (0,0))):=fun W W' h hb=>(hb.block _ (ae h)).trans h
        have hd:Below wk.heap.size wk wk.drew:=(Md _ _).drew;have CW:(wk.drew.heap[wr.heap.size]? = some (.cells #[.slice ka ps[k].1.length kc,.slice ra ps[k].2.length rc] 129 (0,0))):=hCC _ _ q0 hd;refine aH (fun W=>(W.heap[wr.heap.size]? = some (.cells #[.slice ka ps[k].1.length kc,.slice ra ps[k].2.length rc] 129 (0,0)))) (by kernel_rfl) ?_;refine az hCC 72 0 (.slice (some ⟨wx.heap.size,0,none⟩) ps.length ps.length) (fun n hn=>?_) CW ?_
        ·go_simp
        simp only [pD,pB,pC];refine az hCC 73 1 (.int .i64 (k:Int)) (fun n hn=>?_) CW ?_
        ·go_simp
        simp only [pD,pB,pC];refine az hCC 74 2 (.pointer (some ⟨wr.heap.size,0,none⟩)) (fun n hn=>?_) CW ?_
        ·go_simp
        simp only [pD,pB,pC];refine az hCC 75 3 (.slice ka ps[k].1.length kc) (fun n hn=>?_) CW ?_
        ·have hc:n.cell? ⟨wr.heap.size,0,none⟩=some (.slice ka ps[k].1.length kc):=cell_of (i:=0) hn rfl;go_simp
        simp only [pD,pB,pC];refine az hCC 76 4 (.func (.func tg) #[] tcb) (fun n hn=>?_) CW ?_
        ·go_simp
        simp only [pD,pB,pC];refine az hCC 77 5 (.pointer (some ⟨wr.heap.size,1,none⟩)) (fun n hn=>?_) CW ?_
        ·go_simp
        simp only [pD,pB,pC];refine az hCC 78 6 (.slice ra ps[k].2.length rc) (fun n hn=>?_) CW ?_
        ·have hc:n.cell? ⟨wr.heap.size,1,none⟩=some (.slice ra ps[k].2.length rc):=cell_of (i:=1) hn rfl;go_simp
        simp only [pD,pB,pC];refine bD 7 ?_;intro w7 hb7
        have CW7:=hCC _ _ CW hb7;have D7:=chain hal (chain hd hb7);have con:=HD.out ps[k].2 ra rc w7 HRo.out (HZr.out.next D7) (Since.of (chain hSx (chain hb D7)));refine wpOp_step rfl (fun K hK=>?_);go_simp
        first | (refine con.mono ?_) | (go_at_fn tg; refine con.mono ?_)
        rintro e w8 ⟨rfl,hRN,hb8⟩;clear con;have CW8:=hCC _ _ CW7 hb8;have D8:=chain D7 hb8;refine hK _ _ ⟨CW8,?_⟩;clear hK K;refine bD 8 ?_;intro w9 hb9
        refine wpOp_step rfl (fun K hK=>?_);go_simp;have CW9:=hCC _ _ CW8 hb9;have D9:=chain D8 hb9;have R2:=fA (hRN.1.next hb9);have hgm:(gs.map fun g=>kv g ps[k].2).length=gs.length:=by simp
        rw [hgm] at R2;have PC:=iQ.new kc gs.length (fA (HSk.out.next D9)) R2 61;have halA:=aa w9 (.cells #[.slice ka ps[k].1.length kc,.slice (some ⟨w7.heap.size,0,none⟩) gs.length gs.length] 61);have CWA:=hCC _ _ CW9 halA;have DA:=chain D9 halA;refine hK _ _ ⟨CWA,?_⟩;clear hK K R2 hgm hRN;generalize w9.alloc (.cells #[.slice ka ps[k].1.length kc,.slice (some ⟨w7.heap.size,0,none⟩) gs.length gs.length] 61)=wA at *;refine bD 9 ?_;intro wB hbB
        refine wpOp_step rfl (fun K hK=>?_);go_simp;have CWB:=hCC _ _ CWA hbB;have DB:=chain DA hbB;refine (kg _ _ _ _ _ wB (PC.next hbB) (by omega)).mono ?_;rintro e wC ⟨vC,rfl,OC,hbC⟩;rw [← bO] at OC;obtain ⟨aC,cC,rfl,SC,TC,_⟩:=kG OC (by simp);have CWC:=hCC _ _ CWB hbC;have DC:=chain DB hbC;refine hK _ _ ⟨CWC,?_⟩;clear hK K OC PC CW7 CW8 CW9 CWA CWB CW;obtain ⟨rr,err⟩:∃ rr,rr=ps[k].1 ++ gs.map fun g=>kv g ps[k].2:=⟨_,rfl⟩
        rw [← err] at SC ⊢;have EFr:Hid (f k=(rr,1)):=by show _=_; rw [err]; exact EF.out
        clear err EF;refine az hCC 82 10 (.agg #[.slice aC rr.length cC,.int .i64 1]) (fun n hn=>?_) CWC ?_
        ·go_simp
        simp only [pD,pB,pC];refine az hCC 83 11 (.pointer (some ⟨wx.heap.size,k*2,none⟩)) (fun n hn=>?_) CWC ?_
        ·go_simp
        simp only [pD,pB,pC];refine bD 12 ?_;intro wD hbD
        have CWD:=hCC _ _ CWC hbD;have DD:=chain DC hbD;have HBD:=(HB.next DD)
        obtain ⟨⟨u0,u1,d0,d1⟩,f0,f1,hlb⟩:=HBD.cells hlt;have MS:=HBD.step hlt (a:=aC) (cap:=cC) (by rw [EFr.out]; exact SC.next hbD) (TC.next hbD);rw [EFr.out] at MS;have hne:wr.heap.size≠wx.heap.size:=by omega
        have CWE:(((wD.setCell ⟨wx.heap.size,k*2,none⟩ (.slice aC rr.length cC)).setCell ⟨wx.heap.size,k*2+1,none⟩ (.int .i64 1)).heap[wr.heap.size]? = some (.cells #[.slice ka ps[k].1.length kc,.slice ra ps[k].2.length rc] 129 (0,0))):=(ML _ _ _ _ hne).trans ((ML _ _ _ _ hne).trans CWD);have BE:Below wx.heap.size wx ((wD.setCell ⟨wx.heap.size,k*2,none⟩ (.slice aC rr.length cC)).setCell ⟨wx.heap.size,k*2+1,none⟩ (.int .i64 1)):=((chain hb DD).setCell (p:=⟨wx.heap.size,k*2,none⟩) (Mc _) _).setCell (p:=⟨wx.heap.size,k*2+1,none⟩) (Mc _) _
        have zE:wx.heap.size<((wD.setCell ⟨wx.heap.size,k*2,none⟩ (.slice aC rr.length cC)).setCell ⟨wx.heap.size,k*2+1,none⟩ (.int .i64 1)).heap.size:=by simpa [World.setCell] using hlb
        refine wpOp_step rfl (fun K hK=>?_);go_simp;refine hK _ _ ⟨CWE,?_⟩;clear hK K CWD CWC d0 d1 f0 f1 HBD SC TC;generalize (wD.setCell ⟨wx.heap.size,k*2,none⟩ (.slice aC rr.length cC)).setCell ⟨wx.heap.size,k*2+1,none⟩ (.int .i64 1)=wE at *;refine bo (by kernel_rfl) ?_;intro wF hbF;have MF:=MS.next hbF;have BF:=chain BE hbF;have zF:=hbF.size;clear MS BE CWE hCC;go_wp2_with fail
        go_roundw
        case rel=>exact ⟨k+1,by omega,by go_num,MF,by omega,BF⟩
        case measure=>simp [intOf]; omega
       ·have e:k=ps.length:=by omega
        subst e;have zsm:=HB.done (dC xs gs (bj xs l)) HGl.out.symm (fun j hj=>by rw [HFn.out]; simp [List.getD,hj]) (by rw [HGl.out]; omega);have hmem:∀ y ∈ dC xs gs (bj xs l),y.2=1∧y.1.length≤8:=fun y hy=>by
         rw [HG.out] at hy;obtain ⟨p,hp,rfl⟩:=List.mem_map.1 hy;have:=(HPk.out p hp).2;exact ⟨rfl,by simp; omega⟩
        have con:=dP (some ⟨wx.heap.size,0,none⟩) ps.length (dC xs gs (bj xs l)) wr zsm (by rw [HGl.out]; omega) (fun y hy=>by rw [(hmem y hy).1]; rfl) (fun y hy=>(hmem y hy).2);rw [HGl.out,← HE.out,← HV.out] at con;clear zsm HB hmem;have hAr:=chain hbx hb;go_wp2_with fail
        refine con.mono ?_;rintro e w9 ⟨v9,rfl,O9,hb9⟩;have O9':=O9.mono hAr.size;obtain ⟨a9,c9,rfl,_⟩:=O9.zs;clear con O9;dsimp only;go_wp2_with fail
        exact Me (v:=.tuple #[.slice a9 fz.length c9,.int .i64 fe]) (by simp [results,Tryz.results52,go_sem]) rfl ⟨_,rfl,O9',chain hAr hb9⟩
   ·have e0:fe=cz af l:=by rw [← HF.out]; unfold dM; rw [if_neg HN8.out,H1.out,H2.out,if_neg (by simp),if_neg (by simp),if_pos h3]
    have e1:fz = []:=by rw [← HZ.out]; unfold iN; rw [HF.out,e0,if_neg h3]
    have hne:(cz af l != 0)=true:=by simpa using h3
    rw [← e0] at con hne;have HV:=aw e1;clear e0 e1 h3;dsimp only;go_wp2_with fail
    refine con.mono ?_;rintro e w3 ⟨rfl,hb3⟩;clear con;dsimp only;go_wp2_with fail
    exact Me (v:=.tuple #[.slice none 0 0,.int .i64 fe]) (by simp [results,Tryz.results52,go_sem]) rfl ⟨_,rfl,by rw [HV.out]; exact cY _ _,chain hA2 hb3⟩
  ·have e0:fe=dZ af gs:=by rw [← HF.out]; unfold dM; rw [if_neg HN8.out,H1.out,if_neg (by simp),if_pos h2]
   have e1:fz = []:=by rw [← HZ.out]; unfold iN; rw [HF.out,e0,if_neg h2]
   have hne:(dZ af gs != 0)=true:=by simpa using h2
   have HL2:=aw h2;rw [← e0] at hne;have HV:=aw e1;have HN:=aw e0;clear e0 e1 h2;dsimp only;go_wp2_with fail
   refine con.mono ?_;rintro e w2 ⟨u2,rfl,hG,hb2⟩;obtain ⟨_,rfl⟩:¬ dZ af gs=0∧u2 = .nilFunc:=by
    rcases hG with ⟨hG,_⟩ | hG
    ·exact absurd hG HL2.out
    ·exact hG
   rw [← HN.out];clear con;dsimp only;go_wp2_with fail
   exact Me (v:=.tuple #[.slice none 0 0,.int .i64 fe]) (by simp [results,Tryz.results52,go_sem]) rfl ⟨_,rfl,by rw [HV.out]; exact cY _ _,chain hb1 hb2⟩
 ·have e0:fe=bU af xs:=by rw [← HF.out]; unfold dM; rw [if_neg HN8.out,if_pos h1]
  have e1:fz = []:=by rw [← HZ.out]; unfold iN; rw [HF.out,e0,if_neg h1]
  have hne:(bU af xs != 0)=true:=by simpa using h1
  have HL:=aw h1;rw [← e0] at hne;have HV:=aw e1;have HN:=aw e0;clear e0 e1 h1;go_enter Tryz.func52,Tryz.ntmps52;go_wp2_with fail
  refine con.mono ?_;rintro e w1 ⟨u,rfl,hL,hb1⟩;obtain ⟨_,rfl⟩:¬ bU af xs=0∧u = .nilFunc:=by
   rcases hL with ⟨hL,_⟩ | hL
   ·exact absurd hL HL.out
   ·exact hL
  rw [← HN.out];clear con;go_wp2_with fail
  exact Me (v:=.tuple #[.slice none 0 0,.int .i64 fe]) (by simp [results,Tryz.results52,go_sem]) rfl ⟨_,rfl,by rw [HV.out]; exact cY _ _,hb1⟩
end Go.Proofs.YtjebpkhkjkjphaaGreat
namespace Go.Proofs.YtjebpkhkjkjphaaGreat
open Go.RowKit
set_option maxRecDepth 100000
set_option maxHeartbeats 16000000
def dD (k:Int):Nat:=if k=1 then 0 else if 4≤k∧k≤9 then 2 else 1
theorem kV (k:Int):dD k≤2:=by
 unfold dD
 split
 ·decide
 ·split <;> decide
def dX (k:Int) (len:Nat) (n d:Int):Int:=if 60<n∨15<d then 4 else if k<1∨13<k then 1 else if len≠dD k then 5 else 0
def gT (af:List Int) (xs:List Ex):List Int:=xs.map fun x=>(an af x).1
def tX (af:List Int) (g:Ag):Int:=if g.1=4∨g.1=5 then (an af g.2).1 else 3
def jE:List Int→List Int→Int
 | a :: l,b :: r=>if (bR a b).2≠0 then (bR a b).2 else jE l r
 | _,_=>0
def fb:List Int→List Int→List Int
 | a :: l,b :: r=>(bR a b).1 :: fb l r
 | _,_=>[]
def rL (l r:List Int):Int:=if l.length≠r.length then 8 else jE l r
def fZ (k n:Int) (x:Ex) (xs:List Ex) (gs:List Ag) (af:List Int):Int:=if k=2 then gz af x [] else if k=3 then lq af xs [] else if k=12 then dM af xs gs [] else if k=13 then kX af xs n [] else 0
def jY (k:Int) (xs:List Ex) (gs:List Ag) (af:List Int):List Int:=if k=3 then gT af xs else if k=12 then gT af xs ++ gs.map (tX af) else af
def pk (k:Int) (x:Ex) (l r:List Int):Int:=if k=8∨k=9 then rL l r else cL 0 l r x [] []
def nX (k:Int) (l r:List Int):List Int:=if k=8∨k=9 then fb l r else if k=5∨k=6 then l else l ++ r
def eI (ts:List (List Int)) (k n:Int) (x:Ex) (xs:List Ex) (gs:List Ag) (cs:List (List Int)):Int:=match cs with
 | []=>if n<0∨ts.length≤n then 7 else 0
 | [c]=>fZ k n x xs gs c
 | l :: r :: _=>pk k x l r
def kC (ts:List (List Int)) (k n:Int) (xs:List Ex) (gs:List Ag) (cs:List (List Int)):List Int:=match cs with
 | []=>ts.getD n.toNat []
 | [c]=>jY k xs gs c
 | l :: r :: _=>nX k l r
mutual
def ag (ts:List (List Int)):Pl→List Int
 | .mk k n _ xs gs ks=>kC ts k n xs gs (aQ ts ks)
def aQ (ts:List (List Int)):List Pl→List (List Int)
 | []=>[]
 | p :: r=>ag ts p :: aQ ts r
end
theorem bB (ts:List (List Int)):∀ l,aQ ts l=l.map (ag ts)
 | []=>by simp [aQ]
 | p :: r=>by rw [aQ,bB ts r,Na]
mutual
def aV (ts:List (List Int)):Pl→Int→Int→Int × Int
 | .mk k n x xs gs ks,m,d =>
  if dX k ks.length (m+1) d≠0 then (dX k ks.length (m+1) d,m+1)
  else if (aS ts ks (m+1) (d+1)).1≠0 then aS ts ks (m+1) (d+1)
  else (eI ts k n x xs gs (aQ ts ks),(aS ts ks (m+1) (d+1)).2)
def aS (ts:List (List Int)):List Pl→Int→Int→Int × Int
 | [],m,_=>(0,m)
 | p :: r,m,d=>if (aV ts p m d).1≠0 then aV ts p m d else aS ts r (aV ts p m d).2 d
end
theorem pY {ts:List (List Int)} {ks:List Pl} {m d:Int} {j:Nat} (h:j<ks.length) (he:¬ (aV ts ks[j] m d).1=0):aS ts (ks.drop j) m d=aV ts ks[j] m d:=by
 rw [Mi h,aS,if_pos he]
theorem xj {ts:List (List Int)} {ks:List Pl} {m d:Int} {j:Nat} (h:j<ks.length) (he:(aV ts ks[j] m d).1=0):aS ts (ks.drop j) m d=aS ts (ks.drop (j+1)) (aV ts ks[j] m d).2 d:=by
 rw [Mi h,aS,if_neg (by simp [he])]
theorem yL {ts:List (List Int)} {ks:List Pl} {m d:Int} {j:Nat} (h:ks.length≤j):aS ts (ks.drop j) m d=(0,m):=by
 rw [MG h,aS]
def bP (data:List (List Zp)) (k n:Int) (x:Ex) (xs:List Ex) (gs:List Ag) (cs:List (List Int)) (zs:List (List Zp)):Int × List Zp:=match cs,zs with
 | [c],[z] =>
  if k=2 then (gz c x z,lY c x z) else if k=3 then (lq c xs z,ui c xs z) else if k=10 then (aR z,mn iV z) else if k=11 then (aR z,mn iv z)
  else if k=12 then (dM c xs gs z,iN c xs gs z) else (kX c xs n z,rO c xs n z)
 | l :: r :: _,a :: b :: _ =>
  if k=4 then (cL 0 l r x a b,ed 0 l r x a b) else if k=5 then (cL 1 l r x a b,ed 1 l r x a b) else if k=6 then (cL 2 l r x a b,ed 2 l r x a b) else if k=7 then (cL 3 l r x a b,ed 3 l r x a b)
  else if k=8 then (fl 1 a b,eF 1 a b) else (fl (-1) a b,eF (-1) a b)
 | _,_=>(bh (data.getD n.toNat []),bT (data.getD n.toNat []))
mutual
def bu (ts:List (List Int)) (data:List (List Zp)):Pl→Int × List Zp
 | .mk k n x xs gs ks=>if (gV ts data ks).1≠0 then ((gV ts data ks).1,[]) else bP data k n x xs gs (aQ ts ks) (gV ts data ks).2
def gV (ts:List (List Int)) (data:List (List Zp)):List Pl→Int × List (List Zp)
 | []=>(0,[])
 | p :: r=>if (bu ts data p).1≠0 then ((bu ts data p).1,[]) else ((gV ts data r).1,(bu ts data p).2 :: (gV ts data r).2)
end
def iW (B:Nat) (W:World) (a:Option Addr) (l:List (List Int)):Prop:=l = []∨∃ (b off:Nat) (ai:Nat→Option Addr) (ci:Nat→Nat),a=some ⟨b,off,none⟩∧b<B∧∀ (i:Nat) (h:i<l.length),W.cell? ⟨b,off+i,none⟩=some (.slice (ai i) l[i].length (ci i))∧bG B W (ai i) l[i]
theorem iW.next {B B':Nat} {W w1:World} {a:Option Addr} {l:List (List Int)} (h:iW B W a l) (hb:Below B' W w1) (hB:B≤B'):iW B w1 a l:=by
 rcases h with h | ⟨b,off,ai,ci,e,hlt,h⟩
 ·exact .inl h
 ·exact .inr ⟨b,off,ai,ci,e,hlt,fun i hi=>⟨(hb.cell (p:=⟨b,_,none⟩) (Mh hlt hB)).trans (h i hi).1,(h i hi).2.next hb hB⟩⟩
theorem iW.up {B B':Nat} {W:World} {a:Option Addr} {l:List (List Int)} (h:iW B W a l) (hB:B≤B'):iW B' W a l:=by
 rcases h with h | ⟨b,off,ai,ci,e,hlt,h⟩
 ·exact .inl h
 ·exact .inr ⟨b,off,ai,ci,e,Mh hlt hB,fun i hi=>⟨(h i hi).1,(h i hi).2.up hB⟩⟩
theorem iW.elem {B:Nat} {W:World} {a:Option Addr} {l:List (List Int)} (h:iW B W a l) {i:Nat} (hi:i<l.length):∃ b off ai ci,a=some ⟨b,off,none⟩∧b<B∧W.cell? ⟨b,off+i,none⟩=some (.slice ai l[i].length ci)∧bG B W ai l[i]:=by
 rcases h with h | ⟨b,off,ai,ci,e,hlt,h⟩
 ·subst h; simp at hi
 ·exact ⟨b,off,ai i,ci i,e,hlt,h i hi⟩
def rk (W:World) (a:Option Addr) (l:List (List Zp)):Prop:=l = []∨∃ (b off:Nat) (ai:Nat→Option Addr) (ci:Nat→Nat),a=some ⟨b,off,none⟩∧b<W.heap.size∧∀ (i:Nat) (h:i<l.length),W.cell? ⟨b,off+i,none⟩=some (.slice (ai i) l[i].length (ci i))∧bc W (ai i) l[i]∧(ai i=none→ci i=0)
theorem rk.next {W w1:World} {a:Option Addr} {l:List (List Zp)} (h:rk W a l) (hb:Below W.heap.size W w1):rk w1 a l:=by
 rcases h with h | ⟨b,off,ai,ci,e,hlt,h⟩
 ·exact .inl h
 ·exact .inr ⟨b,off,ai,ci,e,Mh hlt hb.size,fun i hi=>⟨(hb.cell (p:=⟨b,_,none⟩) hlt).trans (h i hi).1,(h i hi).2.1.next hb,(h i hi).2.2⟩⟩
theorem rk.elem {W:World} {a:Option Addr} {l:List (List Zp)} (h:rk W a l) {i:Nat} (hi:i<l.length):∃ b off ai ci,a=some ⟨b,off,none⟩∧b<W.heap.size∧W.cell? ⟨b,off+i,none⟩=some (.slice ai l[i].length ci)∧bc W ai l[i]∧(ai=none→ci=0):=by
 rcases h with h | ⟨b,off,ai,ci,e,hlt,h⟩
 ·subst h; simp at hi
 ·exact ⟨b,off,ai i,ci i,e,hlt,h i hi⟩
structure Kept (B lo:Nat) (W w1:World):Prop where
 low:Below B W w1
 high:∀ k,k<W.heap.size→lo≤k→w1.heap[k]? = W.heap[k]?
theorem Kept.of {B lo:Nat} {W w1:World} (h:Below W.heap.size W w1) (hB:B≤W.heap.size):Kept B lo W w1:=⟨h.mono hB,fun k hk _=>h.block k hk⟩
theorem Kept.LY {B lo t:Nat} {W w1:World} (h:aP t W w1) (hB:B≤t) (ht:t<lo):Kept B lo W w1:=⟨h.below hB,fun k hk hl=>h.2 k hk (by omega)⟩
theorem Kept.set {B lo:Nat} {W w1:World} (h:Kept B lo W w1) (g o:Nat) (u:Value) (hB:B≤g) (hg:g<lo):Kept B lo W (w1.setCell ⟨g,o,none⟩ u) :=
 ⟨h.low.setCell (p:=⟨g,o,none⟩) hB u,fun k hk hl=>by
  have h1:=((aP.refl g w1).set o u).2 k (Mh hk h.low.size) (by omega)
  rw [h1,h.high k hk hl]⟩
theorem Kept.refl (B lo:Nat) (W:World):Kept B lo W W:=⟨Md _ _,fun _ _ _=>rfl⟩
theorem Kept.cell {B lo:Nat} {W w1:World} (h:Kept B lo W w1) {b o:Nat} (hb:b<W.heap.size) (hz:b<B∨lo≤b):w1.cell? ⟨b,o,none⟩=W.cell? ⟨b,o,none⟩:=by
 rcases hz with hz | hz
 ·exact h.low.cell (p:=⟨b,o,none⟩) hz
 ·exact Mv (w:=W) (a:=⟨b,o,none⟩) (h.high b hb hz)
def nD (B lo:Nat) (W:World) (a:Option Addr) (l:List Int):Prop:=l.length≤maxLen∧(l = []∨∃ b off,a=some ⟨b,off,none⟩∧b<W.heap.size∧(b<B∨lo≤b)∧∀ (i:Nat) (h:i<l.length),W.cell? ⟨b,off+i,none⟩=some (.int .i64 l[i]))
theorem nD.next {B lo:Nat} {W w1:World} {a:Option Addr} {l:List Int} (h:nD B lo W a l) (hb:Kept B lo W w1):nD B lo w1 a l:=by
 obtain ⟨h0,h | ⟨b,off,e,hlt,hn,h⟩⟩:=h
 ·exact ⟨h0,.inl h⟩
 ·exact ⟨h0,.inr ⟨b,off,e,Mh hlt hb.low.size,hn,fun i hi=>(hb.cell hlt hn).trans (h i hi)⟩⟩
theorem nD.wide {B lo lo':Nat} {W:World} {a:Option Addr} {l:List Int} (h:nD B lo W a l) (hl:lo'≤lo):nD B lo' W a l:=by
 obtain ⟨h0,h | ⟨b,off,e,hlt,hn,h⟩⟩:=h
 ·exact ⟨h0,.inl h⟩
 ·exact ⟨h0,.inr ⟨b,off,e,hlt,by omega,h⟩⟩
theorem nD.at {B lo:Nat} {W:World} {a:Option Addr} {l:List Int} (h:nD B lo W a l):bG W.heap.size W a l:=by
 obtain ⟨h0,h | ⟨b,off,e,hlt,hn,h⟩⟩:=h
 ·exact ⟨h0,.inl h⟩
 ·exact ⟨h0,.inr ⟨b,off,e,hlt,h⟩⟩
theorem bG.t {B lo:Nat} {W:World} {a:Option Addr} {l:List Int} (h:bG B W a l) (hB:B≤W.heap.size):nD B lo W a l:=by
 obtain ⟨h0,h | ⟨b,off,e,hlt,h⟩⟩:=h
 ·exact ⟨h0,.inl h⟩
 ·exact ⟨h0,.inr ⟨b,off,e,by omega,.inl hlt,h⟩⟩
inductive qL (ts:List (List Int)) (B lo:Nat) (W:World):Option Addr→List Pl→Prop
 | nil (a:Option Addr):qL ts B lo W a []
 | some (b off:Nat) (l:List Pl) (q:Nat→Pw) (ca:Nat→Option Addr) (cc:Nat→Nat) (na:Nat→Option Addr) (nc:Nat→Nat) (hb:b<W.heap.size) (hn:lo≤b)
   (hc:∀ (i:Nat) (h:i<l.length),iA W b (off+i*13) l[i] (q i))
   (h11:∀ (i:Nat) (h:i<l.length),W.cell? ⟨b,off+i*13+11,none⟩=some (.slice (ca i) (ag ts l[i]).length (cc i)))
   (h12:∀ (i:Nat) (h:i<l.length),W.cell? ⟨b,off+i*13+12,none⟩=some (.slice (na i) l[i].ks.length (nc i)))
   (hp:∀ (i:Nat) (h:i<l.length),oh B W l[i] (q i))
   (hcol:∀ (i:Nat) (h:i<l.length),nD B lo W (ca i) (ag ts l[i]))
   (hk:∀ (i:Nat) (h:i<l.length),qL ts B lo W (na i) l[i].ks):qL ts B lo W (some ⟨b,off,none⟩) l
theorem iA.kept {B lo:Nat} {W w1:World} {b off:Nat} {p:Pl} {q:Pw} (h:iA W b off p q) (hb:Kept B lo W w1) (hB:b<W.heap.size) (hn:b<B∨lo≤b):iA w1 b off p q :=
 ⟨(hb.cell hB hn).trans h.c0,(hb.cell hB hn).trans h.c1,⟨(hb.cell hB hn).trans h.sg.c0,(hb.cell hB hn).trans h.sg.c1,(hb.cell hB hn).trans h.sg.c2,(hb.cell hB hn).trans h.sg.c3,(hb.cell hB hn).trans h.sg.c4,(hb.cell hB hn).trans h.sg.c5⟩,(hb.cell hB hn).trans h.c8,(hb.cell hB hn).trans h.c9,(hb.cell hB hn).trans h.eM⟩
theorem qL.next {ts:List (List Int)} {B lo:Nat} {W w1:World} (hb:Kept B lo W w1) {a:Option Addr} {l:List Pl} (h:qL ts B lo W a l):qL ts B lo w1 a l:=by
 induction h with
 | nil a=>exact .nil a
 | some b off l q ca cc na nc hlt hn hc h11 h12 hp hcol _ ih =>
  exact .some b off l q ca cc na nc (Mh hlt hb.low.size) hn (fun i hi=>(hc i hi).kept hb hlt (.inr hn)) (fun i hi=>(hb.cell hlt (.inr hn)).trans (h11 i hi)) (fun i hi=>(hb.cell hlt (.inr hn)).trans (h12 i hi)) (fun i hi=>(hp i hi).next hb.low (Mc _)) (fun i hi=>(hcol i hi).next hb) ih
theorem qL.wide {ts:List (List Int)} {B lo lo':Nat} {W:World} (hl:lo'≤lo) {a:Option Addr} {l:List Pl} (h:qL ts B lo W a l):qL ts B lo' W a l:=by
 induction h with
 | nil a=>exact .nil a
 | some b off l q ca cc na nc hlt hn hc h11 h12 hp hcol _ ih=>exact .some b off l q ca cc na nc hlt (Mr hl hn) hc h11 h12 hp (fun i hi=>(hcol i hi).wide hl) ih
structure Bm (ts:List (List Int)) (B lo:Nat) (W:World) (p:Pl) (q:Pw) (ca na:Option Addr):Prop where
 pl:oh B W p q
 af:nD B lo W ca (ag ts p)
 kids:qL ts B lo W na p.ks
theorem Bm.next {ts:List (List Int)} {B lo:Nat} {W w1:World} {p:Pl} {q:Pw} {ca na:Option Addr} (h:Bm ts B lo W p q ca na) (hb:Kept B lo W w1):Bm ts B lo w1 p q ca na:=⟨h.pl.next hb.low (Mc _),h.af.next hb,qL.next hb h.kids⟩
theorem Bm.wide {ts:List (List Int)} {B lo lo':Nat} {W:World} {p:Pl} {q:Pw} {ca na:Option Addr} (h:Bm ts B lo W p q ca na) (hl:lo'≤lo):Bm ts B lo' W p q ca na:=⟨h.pl,h.af.wide hl,qL.wide hl h.kids⟩
theorem qL.elem {ts:List (List Int)} {B lo:Nat} {W:World} {a:Option Addr} {l:List Pl} (h:qL ts B lo W a l) {i:Nat} (hi:i<l.length):∃ b off q ca cc na nc,a=Option.some ⟨b,off,none⟩∧b<W.heap.size∧lo≤b∧iA W b (off+i*13) l[i] q∧W.cell? ⟨b,off+i*13+11,none⟩=Option.some (.slice ca (ag ts l[i]).length cc)∧W.cell? ⟨b,off+i*13+12,none⟩=Option.some (.slice na l[i].ks.length nc)∧Bm ts B lo W l[i] q ca na:=by
 cases h with
 | nil=>simp at hi
 | some b off l q ca cc na nc hlt hn hc h11 h12 hp hcol hk=>exact ⟨b,off,q i,ca i,cc i,na i,nc i,rfl,hlt,hn,hc i hi,h11 i hi,h12 i hi,⟨hp i hi,hcol i hi,hk i hi⟩⟩
def gR (p:Pl) (q:Pw):Value:=.agg (dS p q)
def mZ (p:Pl) (q:Pw) (ca:Option Addr) (n cc:Nat) (na:Option Addr) (nc:Nat):Value:=.agg (l7 p q ca n cc na p.ks.length nc)
def kz:Value:=.agg #[.int .i64 0,.int .i64 0,.int .i64 0,.int .i64 0,.int .i64 0,.string ⟨#[]⟩,.int .i64 0,.slice none 0 0,.slice none 0 0,.slice none 0 0,.slice none 0 0,.slice none 0 0,.slice none 0 0]
theorem iA.new (w:World) (p:Pl) (q:Pw) (T:TypeId):iA (w.alloc (.cells (dS p q) T)) w.heap.size 0 p q:=by
 have h:=ak w (dS p q) T;exact ⟨cell_of (i:=0) h rfl,cell_of (i:=1) h rfl,⟨cell_of (i:=2) h rfl,cell_of (i:=3) h rfl,cell_of (i:=4) h rfl,cell_of (i:=5) h rfl,cell_of (i:=6) h rfl,cell_of (i:=7) h rfl⟩,cell_of (i:=8) h rfl,cell_of (i:=9) h rfl,cell_of (i:=10) h rfl⟩
end Go.Proofs.YtjebpkhkjkjphaaGreat
namespace Go.Proofs.YtjebpkhkjkjphaaGreat
open Go.RowKit Go.Lib Go.Shelf
set_option maxRecDepth 100000
set_option maxHeartbeats 16000000
theorem ur {n:Nat} (h:n≤8) (w:World):(Instr.makeSlice 42 (.int .i64 n) (.int .i64 n)).run Tryz.prog w = .ok (.slice (some ⟨w.heap.size,0,none⟩) n n) (w.alloc (.cells (Array.replicate n (.int .i64 0)) 3)):=by
 obtain rfl | rfl | rfl | rfl | rfl | rfl | rfl | rfl | rfl:n=0∨n=1∨n=2∨n=3∨n=4∨n=5∨n=6∨n=7∨n=8:=by omega
 all_goals kernel_rfl
theorem zY (k:Int) (w:World):Calls Tryz.prog 65 #[.int .i64 k] w fun e w'=>e = .returned (.int .i64 (dD k))∧Below w.heap.size w w':=by
 have hc:k=1∨k=4∨k=5∨k=6∨k=7∨k=8∨k=9∨(¬ k=1∧¬ (4≤k∧k≤9)):=by omega
 rcases hc with rfl | rfl | rfl | rfl | rfl | rfl | rfl | ⟨h1,h2⟩
 all_goals try (
  go_enter Tryz.func65,Tryz.ntmps65;go_wp2_with fail
  go_ret;exact ⟨rfl,Md _ _⟩)
 have e:dD k=1:=by unfold dD; rw [if_neg h1,if_neg h2]
 rw [e];have b1:(k == 1)=false:=by rw [beq_eq_false_iff_ne]; exact h1
 have b4:(k == 4)=false:=by rw [beq_eq_false_iff_ne]; omega
 have b5:(k == 5)=false:=by rw [beq_eq_false_iff_ne]; omega
 have b6:(k == 6)=false:=by rw [beq_eq_false_iff_ne]; omega
 have b7:(k == 7)=false:=by rw [beq_eq_false_iff_ne]; omega
 have b8:(k == 8)=false:=by rw [beq_eq_false_iff_ne]; omega
 have b9:(k == 9)=false:=by rw [beq_eq_false_iff_ne]; omega
 clear h1 h2 e;go_enter Tryz.func65,Tryz.ntmps65;go_wp2_with fail
 go_ret;exact ⟨rfl,Md _ _⟩
def Lc (B:Nat) (w':World) (e:Ending) (er:Int) (C:List Int):Prop:=∃ ca cc,e = .returned (.tuple #[.slice ca (if er=0 then C else []).length cc,.int .i64 er])∧bG B w' ca (if er=0 then C else [])
theorem tI (ts:List (List Int)) (n:Int) (B:Nat) (a:Option Addr) (cap:Nat) (w:World) (h:iW B w a ts) :
  Calls Tryz.prog 66 #[.slice a ts.length cap,.int .i64 n] w fun e w'=>Lc B w' e (if n<0∨ts.length≤n then 7 else 0) (ts.getD n.toNat [])∧Below w.heap.size w w':=by
 by_cases h0:n<0;rw [if_pos (.inl h0)];rotate_left;by_cases h1:(ts.length:Int)≤n;rw [if_pos (.inr h1)];rotate_left;rw [if_neg (by omega)];obtain ⟨j,rfl⟩:∃ j:Nat,n=j:=⟨n.toNat,by omega⟩
 have hj:j<ts.length:=by omega
 obtain ⟨b,off,ai,ci,rfl,hb,c0,hi⟩:=h.elem hj;have hj0:(0:Int)≤(j:Int):=by omega
 have hjl:(j:Int)<(ts.length:Int):=by omega
 have e:ts.getD (j:Int).toNat []=ts[j]:=by simp [hj]
 rw [e];clear e;go_enter Tryz.func66,Tryz.ntmps66;go_wp2_with fail
 exact Me (v:=.tuple #[.slice ai ts[j].length ci,.int .i64 0]) (by simp [results,Tryz.results66,go_sem]) rfl ⟨⟨ai,ci,rfl,hi⟩,Md _ _⟩
 all_goals
  go_enter Tryz.func66,Tryz.ntmps66;go_wp2_with fail
  exact Me (v:=.tuple #[.slice none 0 0,.int .i64 7]) (by simp [results,Tryz.results66,go_sem]) rfl ⟨⟨none,0,rfl,⟨Mj _,.inl rfl⟩⟩,Md _ _⟩
def ib (af:List Int):Int:=if 8<af.length then 5 else if ∃ c ∈ af,c<1∨4<c then 1 else 0
def jO:List (List Int)→Int
 | []=>0
 | c :: r=>if ib c≠0 then ib c else jO r
def gf (ts:List (List Int)):Int:=if 8<ts.length then 5 else jO ts
theorem BQ {ts:List (List Int)} {j:Nat} (h:j<ts.length) (he:¬ ib ts[j]=0):jO (ts.drop j)=ib ts[j]:=by
 rw [Mi h,jO,if_pos he]
theorem yI {ts:List (List Int)} {j:Nat} (h:j<ts.length) (he:ib ts[j]=0):jO (ts.drop j)=jO (ts.drop (j+1)):=by
 rw [Mi h,jO,if_neg (by simp [he])]
theorem qM (ts:List (List Int)) (a:Option Addr) (cap:Nat) (w:World) (h:iW w.heap.size w a ts) :
  Calls Tryz.prog 27 #[.slice a ts.length cap] w fun e w'=>e = .returned (.int .i64 (gf ts))∧Below w.heap.size w w':=by
 generalize hr:gf ts=r;have HR:=aw hr;clear hr;go_enter Tryz.func27,Tryz.ntmps27;by_cases h8:8<ts.length
 ·have h8z:8<(ts.length:Int):=by omega
  have e:r=5:=by rw [← HR.out]; unfold gf; rw [if_pos h8]
  subst e;go_wp2_with fail
  go_ret;exact ⟨rfl,Md _ _⟩
 have h8z:¬ 8<(ts.length:Int):=by omega
 have HR':Hid (r=jO (ts.drop 0)):=by show _=_; rw [← HR.out]; unfold gf; rw [if_neg h8]; rfl
 clear HR;go_wp2_with fail
 go_loopw [12] (fun i wr=>∃ j:Nat,j≤ts.length∧i = .int .i64 j∧Hid (r=jO (ts.drop j))∧Below w.heap.size w wr) (fun i _=>ts.length - (intOf i).toNat)
 case atStart=>exact ⟨0,Mj _,rfl,HR',Md _ _⟩
 case round =>
  obtain ⟨j,hj,rfl,HT,hb⟩:=hrel;by_cases hlt:j<ts.length
  ·obtain ⟨b,off,ai,ci,rfl,hbl,c0,hi⟩:=(h.next hb (Mc _)).elem hlt;have hjz:(j:Int)<(ts.length:Int):=by omega
   have HBad:Hid (¬ ib ts[j]=0→r=ib ts[j]):=fun c=>HT.out.trans (BQ hlt c)
   have HOk:Hid (ib ts[j]=0→r=jO (ts.drop (j+1))):=fun c=>HT.out.trans (yI hlt c)
   clear HT;generalize ts[j]=cs at *;by_cases hc8:8<cs.length
   ·have hcz:8<(cs.length:Int):=by omega
    have e1:ib cs=5:=by unfold ib; rw [if_pos hc8]
    have e:r=5:=by rw [HBad.out (by rw [e1]; decide),e1]
    subst e;clear HBad HOk e1;go_wp2_with fail
    go_ret;exact ⟨rfl,hb⟩
   ·have hcz:¬ 8<(cs.length:Int):=by omega
    have HC:Hid (ib cs=if ∃ c ∈ cs,c<1∨4<c then 1 else 0):=by show _=_; unfold ib; rw [if_neg hc8]
    obtain ⟨wo,hwo⟩:∃ z,z=wr:=⟨_,rfl⟩
    subst hwo;go_upto_region 8 with fail
    clear c0;go_wp2_with fail
    go_loopw [21] (fun i wr=>∃ k:Nat,k≤cs.length∧i = .int .i64 k∧Hid (∀ c ∈ cs.take k,¬ (c<1∨4<c))∧Below wo.heap.size wo wr) (fun i _=>cs.length - (intOf i).toNat)
    case atStart=>exact ⟨0,Mj _,rfl,(fun c hc=>by simp at hc),Md _ _⟩
    case round =>
     obtain ⟨k,hk,rfl,HK,hbk⟩:=hrel;have hbw:=hb.trans (hbk.mono hb.size);by_cases hkl:k<cs.length
     ·obtain ⟨b1,o1,rfl,hb1,c1⟩:=(hi.next hbk hb.size).elem hkl;have hkz:(k:Int)<(cs.length:Int):=by omega
      have HT1:Hid (cs.take (k+1)=cs.take k ++ [cs[k]]):=Mp hkl;have HM:Hid (cs[k] ∈ cs):=Mk hkl;generalize cs[k]=c at *;by_cases hbad:c<1∨4<c
      ·have e1:ib cs=1:=by rw [HC.out,if_pos ⟨c,HM.out,hbad⟩]
       have e:r=1:=by rw [HBad.out (by rw [e1]; decide),e1]
       subst e;clear HBad HOk e1 HC HK;have hb2:c<1∨(¬ c<1∧4<c):=by omega
       clear hbad;rcases hb2 with g1 | ⟨g1,g2⟩
       all_goals (
        go_wp2_with fail
        go_ret;exact ⟨rfl,hbw⟩)
      ·have g1:¬ c<1:=fun e=>hbad (.inl e)
       have g2:¬ 4<c:=fun e=>hbad (.inr e)
       have HK':Hid (∀ c ∈ cs.take (k+1),¬ (c<1∨4<c)):=by
        show ∀ c ∈ _,_
        rw [HT1.out];intro c' hc';rcases List.mem_append.1 hc' with hc' | hc'
        ·exact HK.out c' hc'
        ·rw [List.mem_singleton.1 hc']; exact hbad
       clear hbad HK;go_wp2_with fail
       go_roundw
       case rel=>exact ⟨k+1,by omega,by go_num,HK',hbk⟩
       case measure=>simp [intOf]; omega
     ·have e:k=cs.length:=by omega
      subst e;rw [MB] at HK;have e1:ib cs=0:=by rw [HC.out,if_neg fun ⟨c,hc,hh⟩=>HK.out c hc hh]
      have HT':Hid (r=jO (ts.drop (j+1))):=HOk.out e1;clear HBad HOk e1 HC HK;go_wp2_with fail
      go_roundw
      case rel=>exact ⟨j+1,by omega,by go_num,HT',hbw⟩
      case measure=>simp [intOf]; omega
  ·have e:j=ts.length:=by omega
   have e1:r=0:=by rw [HT.out,MG (by omega)]; rfl
   subst e1;have hjz:¬ (j:Int)<(ts.length:Int):=by omega
   clear HT;go_wp2_with fail
   go_ret;exact ⟨rfl,hb⟩
end Go.Proofs.YtjebpkhkjkjphaaGreat
