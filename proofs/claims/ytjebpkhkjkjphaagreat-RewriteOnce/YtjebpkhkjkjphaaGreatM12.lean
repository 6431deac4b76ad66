/- Together: I4, I4b, I5, I5b, I6, I7, IH, IL. -/
import Derived.Test.YtjebpkhkjkjphaaGreatM11
import Derived.Test.YtjebpkhkjkjphaaGreatM10
import Derived.Test.YtjebpkhkjkjphaaGreatM3
import Derived.Test.YtjebpkhkjkjphaaGreatM6
namespace Go.Proofs.YtjebpkhkjkjphaaGreat
open Go.RowKit Go.Lib Go.Shelf
set_option maxRecDepth 100000
set_option maxHeartbeats 16000000
theorem iT {S:Nat→Prop} {W0:World} (g:Nat) (hg:¬ S g):∀ (vs:List Value) (W:World) (o:Nat),ah S W0 W→ah S W0 (bH W g o vs)
 | [],_,_,h=>h
 | v :: r,_,o,h=>iT g hg r _ _ (h.set g o v hg)
def At (W:World) (b off:Nat) (L:List Value):Prop:=∀ j u,L[j]? = some u→W.cell? ⟨b,off+j,none⟩=some u
theorem At.gD {S:Nat→Prop} {W W':World} {b off:Nat} {L:List Value} (h:At W b off L) (hk:ah S W W') (hb:S b):At W' b off L:=fun j u hj=>hk.cell hb (h j u hj)
theorem At.of {W:World} {b:Nat} {L:List Value} {T:TypeId} (h:W.heap[b]? = some (.cells L.toArray T (0,0))):At W b 0 L:=fun j u hj=>by
 rw [Hu]
 exact cell_of (i:=j) h (by simpa using hj)
theorem At.left {W:World} {b off:Nat} {L R:List Value} (h:At W b off (L ++ R)):At W b off L:=fun j u hj=>h j u (by rw [Ia (by rcases Ic j L.length with h' | h'; exact h'; rw [Is h'] at hj; cases hj)]; exact hj)
theorem At.right {W:World} {b off:Nat} {L R:List Value} (h:At W b off (L ++ R)):At W b (off+L.length) R:=fun j u hj=>by
 have:=h (L.length+j) u (by rw [H9 (by omega)]; rw [Nat.add_sub_cancel_left]; exact hj)
 rwa [← IZ] at this
def nz (S:Nat→Prop) (W:World) (a:Option Addr) (l:List Ag):Prop:=l = []∨∃ (b off:Nat) (ai:Nat→Option Addr) (cap:Nat→Nat),a=some ⟨b,off,none⟩∧S b∧b<W.heap.size∧∀ (i:Nat) (h:i<l.length),W.cell? ⟨b,off+i*7,none⟩=some (.int .i64 l[i].1)∧ik W b (off+i*7+1) l[i].2.k l[i].2.v l[i].2.c (ai i) l[i].2.ks.length (cap i)∧dD S W (ai i) l[i].2.ks
theorem nz.next {S:Nat→Prop} {W W':World} (hk:ah S W W') {a:Option Addr} {l:List Ag} (h:nz S W a l):nz S W' a l:=by
 rcases h with h | ⟨b,off,ai,cap,e,hs,hlt,h⟩
 ·exact .inl h
 ·exact .inr ⟨b,off,ai,cap,e,hs,Hi hlt hk.1,fun i hi=>⟨hk.cell hs (h i hi).1,(h i hi).2.1.gD hk hs,(h i hi).2.2.next hk⟩⟩
theorem nz.mono {S S':Nat→Prop} {W:World} (hs:∀ b,S b→b<W.heap.size→S' b) {a:Option Addr} {l:List Ag} (h:nz S W a l):nz S' W a l:=by
 rcases h with h | ⟨b,off,ai,cap,e,h1,hlt,h⟩
 ·exact .inl h
 ·exact .inr ⟨b,off,ai,cap,e,hs b h1 hlt,hlt,fun i hi=>⟨(h i hi).1,(h i hi).2.1,(h i hi).2.2.mono hs⟩⟩
theorem nz.at {S:Nat→Prop} {W:World} {a:Option Addr} {l:List Ag} (h:nz S W a l):fJ W.heap.size W a l:=by
 rcases h with h | ⟨b,off,ai,cap,e,h1,hlt,h⟩
 ·exact .inl h
 ·exact .inr ⟨b,off,ai,cap,e,hlt,fun i hi=>⟨(h i hi).1,(h i hi).2.1,(h i hi).2.2.ks⟩⟩
theorem fJ.s {B:Nat} {W:World} (hB:B≤W.heap.size) {a:Option Addr} {l:List Ag} (h:fJ B W a l):nz (fun b=>b<B) W a l:=by
 rcases h with h | ⟨b,off,ai,cap,e,hlt,h⟩
 ·exact .inl h
 ·exact .inr ⟨b,off,ai,cap,e,hlt,Hi hlt hB,fun i hi=>⟨(h i hi).1,(h i hi).2.1,(h i hi).2.2.s hB⟩⟩
theorem nz.elem {S:Nat→Prop} {W:World} {a:Option Addr} {l:List Ag} (h:nz S W a l) {i:Nat} (hi:i<l.length):∃ b off ai ci,a=some ⟨b,off,none⟩∧S b∧b<W.heap.size∧W.cell? ⟨b,off+i*7,none⟩=some (.int .i64 l[i].1)∧ik W b (off+i*7+1) l[i].2.k l[i].2.v l[i].2.c ai l[i].2.ks.length ci∧dD S W ai l[i].2.ks:=by
 rcases h with h | ⟨b,off,ai,cap,e,h1,hlt,h⟩
 ·subst h; simp at hi
 ·exact ⟨b,off,ai i,cap i,e,h1,hlt,h i hi⟩
def CD (S:Nat→Prop) (W:World) (a:Option Addr) (l:List Int):Prop:=l.length≤maxLen∧(l = []∨∃ b off,a=some ⟨b,off,none⟩∧S b∧b<W.heap.size∧∀ (i:Nat) (h:i<l.length),W.cell? ⟨b,off+i,none⟩=some (.int .i64 l[i]))
theorem CD.next {S:Nat→Prop} {W W':World} (hk:ah S W W') {a:Option Addr} {l:List Int} (h:CD S W a l):CD S W' a l:=by
 obtain ⟨h0,h | ⟨b,off,e,h1,h2,h3⟩⟩:=h
 ·exact ⟨h0,.inl h⟩
 ·exact ⟨h0,.inr ⟨b,off,e,h1,Hi h2 hk.1,fun i hi=>hk.cell h1 (h3 i hi)⟩⟩
theorem CD.mono {S S':Nat→Prop} {W:World} (hs:∀ b,S b→b<W.heap.size→S' b) {a:Option Addr} {l:List Int} (h:CD S W a l):CD S' W a l:=by
 obtain ⟨h0,h | ⟨b,off,e,h1,h2,h3⟩⟩:=h
 ·exact ⟨h0,.inl h⟩
 ·exact ⟨h0,.inr ⟨b,off,e,hs b h1 h2,h2,h3⟩⟩
theorem CD.at {S:Nat→Prop} {W:World} {a:Option Addr} {l:List Int} (h:CD S W a l):bo W.heap.size W a l:=by
 obtain ⟨h0,h | ⟨b,off,e,h1,h2,h3⟩⟩:=h
 ·exact ⟨h0,.inl h⟩
 ·exact ⟨h0,.inr ⟨b,off,e,h2,h3⟩⟩
def EB (p:Pl) (q:Pw) (o:Nat):List Value:=[.int .i64 p.k,.int .i64 p.n,.int .i64 p.x.k,.int .i64 p.x.v.1,.int .i64 p.x.v.2.1,.string p.x.v.2.2,.int .i64 p.x.c,.slice q.xa p.x.ks.length q.xc,.slice q.sa p.xs.length q.sc,.slice q.ga p.gs.length q.gc,.slice q.ka o q.kc]
def bL (ts:List (List Int)) (p:Pl) (q:Pw) (o:Nat) (ca:Option Addr) (cc:Nat) (na:Option Addr) (nc:Nat):List Value:=[.int .i64 p.k,.int .i64 p.n,.int .i64 p.x.k,.int .i64 p.x.v.1,.int .i64 p.x.v.2.1,.string p.x.v.2.2,.int .i64 p.x.c,.slice q.xa p.x.ks.length q.xc,.slice q.sa p.xs.length q.sc,.slice q.ga p.gs.length q.gc,.slice q.ka o q.kc,.slice ca (aj ts p).length cc,.slice na p.ks.length nc]
def cH (ts:List (List Int)) (p:Pl) (q:Pw) (o:Nat) (ca:Option Addr) (cc:Nat) (na:Option Addr) (nc:Nat):Value:=.agg (bL ts p q o ca cc na nc).toArray
inductive qp (ts:List (List Int)) (S:Nat→Prop) (W:World):Option Addr→List Pl→Prop
 | nil (a:Option Addr):qp ts S W a []
 | some (b off:Nat) (l:List Pl) (q:Nat→Pw) (o:Nat→Nat) (ca:Nat→Option Addr) (cc:Nat→Nat) (na:Nat→Option Addr) (nc:Nat→Nat) (hb:S b) (hlt:b<W.heap.size)
   (hc:∀ (i:Nat) (h:i<l.length),At W b (off+i*13) (bL ts l[i] (q i) (o i) (ca i) (cc i) (na i) (nc i)))
   (hx:∀ (i:Nat) (h:i<l.length),dD S W (q i).xa l[i].x.ks)
   (hs:∀ (i:Nat) (h:i<l.length),dD S W (q i).sa l[i].xs)
   (hg:∀ (i:Nat) (h:i<l.length),nz S W (q i).ga l[i].gs)
   (hcol:∀ (i:Nat) (h:i<l.length),CD S W (ca i) (aj ts l[i]))
   (hk:∀ (i:Nat) (h:i<l.length),qp ts S W (na i) l[i].ks):qp ts S W (some ⟨b,off,none⟩) l
theorem qp.next {ts:List (List Int)} {S:Nat→Prop} {W W':World} (hk:ah S W W') {a:Option Addr} {l:List Pl} (h:qp ts S W a l):qp ts S W' a l:=by
 induction h with
 | nil a=>exact .nil a
 | some b off l q o ca cc na nc hb hlt hc hx hs hg hcol _ ih=>exact .some b off l q o ca cc na nc hb (Hi hlt hk.1) (fun i hi=>(hc i hi).gD hk hb) (fun i hi=>(hx i hi).next hk) (fun i hi=>(hs i hi).next hk) (fun i hi=>(hg i hi).next hk) (fun i hi=>(hcol i hi).next hk) ih
theorem qp.mono {ts:List (List Int)} {S S':Nat→Prop} {W:World} (hs:∀ b,S b→b<W.heap.size→S' b) {a:Option Addr} {l:List Pl} (h:qp ts S W a l):qp ts S' W a l:=by
 induction h with
 | nil a=>exact .nil a
 | some b off l q o ca cc na nc hb hlt hc hx hs' hg hcol _ ih=>exact .some b off l q o ca cc na nc (hs b hb hlt) hlt hc (fun i hi=>(hx i hi).mono hs) (fun i hi=>(hs' i hi).mono hs) (fun i hi=>(hg i hi).mono hs) (fun i hi=>(hcol i hi).mono hs) ih
structure fA (ts:List (List Int)) (S:Nat→Prop) (W:World) (p:Pl) (q:Pw) (ca na:Option Addr):Prop where
 x:dD S W q.xa p.x.ks
 xs:dD S W q.sa p.xs
 gs:nz S W q.ga p.gs
 af:CD S W ca (aj ts p)
 kids:qp ts S W na p.ks
theorem fA.next {ts:List (List Int)} {S:Nat→Prop} {W W':World} {p:Pl} {q:Pw} {ca na:Option Addr} (h:fA ts S W p q ca na) (hk:ah S W W'):fA ts S W' p q ca na:=⟨h.x.next hk,h.xs.next hk,h.gs.next hk,h.af.next hk,h.kids.next hk⟩
theorem fA.mono {ts:List (List Int)} {S S':Nat→Prop} {W:World} {p:Pl} {q:Pw} {ca na:Option Addr} (h:fA ts S W p q ca na) (hs:∀ b,S b→b<W.heap.size→S' b):fA ts S' W p q ca na:=⟨h.x.mono hs,h.xs.mono hs,h.gs.mono hs,h.af.mono hs,h.kids.mono hs⟩
theorem qp.elem {ts:List (List Int)} {S:Nat→Prop} {W:World} {a:Option Addr} {l:List Pl} (h:qp ts S W a l) {i:Nat} (hi:i<l.length):∃ b off q o ca cc na nc,a=Option.some ⟨b,off,none⟩∧S b∧b<W.heap.size∧At W b (off+i*13) (bL ts l[i] q o ca cc na nc)∧fA ts S W l[i] q ca na:=by
 cases h with
 | nil=>simp at hi
 | some b off l q o ca cc na nc hb hlt hc hx hs hg hcol hk=>exact ⟨b,off,q i,o i,ca i,cc i,na i,nc i,rfl,hb,hlt,hc i hi,⟨hx i hi,hs i hi,hg i hi,hcol i hi,hk i hi⟩⟩
theorem qp.of {ts:List (List Int)} {S:Nat→Prop} {W:World} {b off:Nat} {l:List Pl} (hb:S b) (hlt:b<W.heap.size) (h:∀ (i:Nat) (h:i<l.length),∃ q o ca cc na nc,At W b (off+i*13) (bL ts l[i] q o ca cc na nc)∧fA ts S W l[i] q ca na):qp ts S W (Option.some ⟨b,off,none⟩) l:=by
 have:∀ i:Nat,∃ t:Pw × Nat × Option Addr × Nat × Option Addr × Nat,∀ h:i<l.length,At W b (off+i*13) (bL ts l[i] t.1 t.2.1 t.2.2.1 t.2.2.2.1 t.2.2.2.2.1 t.2.2.2.2.2)∧fA ts S W l[i] t.1 t.2.2.1 t.2.2.2.2.1:=fun i=>by
  by_cases hi:i<l.length
  ·obtain ⟨q,o,ca,cc,na,nc,h1⟩:=h i hi;exact ⟨(q,o,ca,cc,na,nc),fun _=>h1⟩
  ·exact ⟨(⟨none,0,none,0,none,0,none,0⟩,0,none,0,none,0),fun h=>absurd h hi⟩
 obtain ⟨t,ht⟩:=Classical.axiomOfChoice this;exact .some b off l (fun i=>(t i).1) (fun i=>(t i).2.1) (fun i=>(t i).2.2.1) (fun i=>(t i).2.2.2.1) (fun i=>(t i).2.2.2.2.1) (fun i=>(t i).2.2.2.2.2) hb hlt (fun i hi=>(ht i hi).1) (fun i hi=>(ht i hi).2.x) (fun i hi=>(ht i hi).2.xs) (fun i hi=>(ht i hi).2.gs) (fun i hi=>(ht i hi).2.af) (fun i hi=>(ht i hi).2.kids)
def eA (S:Nat→Prop) (w:World) (b:Nat):Prop:=S b∨w.heap.size≤b
def Old (S:Nat→Prop) (w:World) (b:Nat):Prop:=S b∧b<w.heap.size
theorem cD {S:Nat→Prop} {w:World} {g k:Nat} (h1:w.heap.size≤g) (h2:g<k):¬ (Old S w g∨k≤g):=fun h=>by
 rcases h with h | h
 ·have:=h.2; omega
 ·omega
def aT (ts:List (List Int)) (S:Nat→Prop) (W:World) (v:Value) (p:Pl):Prop:=∃ q o ca cc na nc,v=cH ts p q o ca cc na nc∧fA ts S W p q ca na
theorem aT.next {ts:List (List Int)} {S:Nat→Prop} {W W':World} {v:Value} {p:Pl} (h:aT ts S W v p) (hk:ah S W W'):aT ts S W' v p:=by
 obtain ⟨q,o,ca,cc,na,nc,e,h⟩:=h;exact ⟨q,o,ca,cc,na,nc,e,h.next hk⟩
theorem aT.mono {ts:List (List Int)} {S S':Nat→Prop} {W:World} {v:Value} {p:Pl} (h:aT ts S W v p) (hs:∀ b,S b→b<W.heap.size→S' b):aT ts S' W v p:=by
 obtain ⟨q,o,ca,cc,na,nc,e,h⟩:=h;exact ⟨q,o,ca,cc,na,nc,e,h.mono hs⟩
inductive yb (S:Nat→Prop) (W:World):Option Addr→List Pl→Prop
 | nil (a:Option Addr):yb S W a []
 | some (b off:Nat) (l:List Pl) (q:Nat→Pw) (hb:S b) (hlt:b<W.heap.size)
   (hc:∀ (i:Nat) (h:i<l.length),At W b (off+i*11) (EB l[i] (q i) l[i].ks.length))
   (hx:∀ (i:Nat) (h:i<l.length),dD S W (q i).xa l[i].x.ks)
   (hs:∀ (i:Nat) (h:i<l.length),dD S W (q i).sa l[i].xs)
   (hg:∀ (i:Nat) (h:i<l.length),nz S W (q i).ga l[i].gs)
   (hk:∀ (i:Nat) (h:i<l.length),yb S W (q i).ka l[i].ks):yb S W (some ⟨b,off,none⟩) l
theorem yb.next {S:Nat→Prop} {W W':World} (hk:ah S W W') {a:Option Addr} {l:List Pl} (h:yb S W a l):yb S W' a l:=by
 induction h with
 | nil a=>exact .nil a
 | some b off l q hb hlt hc hx hs hg _ ih=>exact .some b off l q hb (Hi hlt hk.1) (fun i hi=>(hc i hi).gD hk hb) (fun i hi=>(hx i hi).next hk) (fun i hi=>(hs i hi).next hk) (fun i hi=>(hg i hi).next hk) ih
theorem yb.mono {S S':Nat→Prop} {W:World} (hs:∀ b,S b→b<W.heap.size→S' b) {a:Option Addr} {l:List Pl} (h:yb S W a l):yb S' W a l:=by
 induction h with
 | nil a=>exact .nil a
 | some b off l q hb hlt hc hx hs' hg _ ih=>exact .some b off l q (hs b hb hlt) hlt hc (fun i hi=>(hx i hi).mono hs) (fun i hi=>(hs' i hi).mono hs) (fun i hi=>(hg i hi).mono hs) ih
theorem uk {W:World} {b off:Nat} {p:Pl} {q:Pw} (h:At W b off (EB p q p.ks.length)):gQ W b off p q :=
 ⟨h 0 _ rfl,h 1 _ rfl,⟨h 2 _ rfl,h 3 _ rfl,h 4 _ rfl,h 5 _ rfl,h 6 _ rfl,h 7 _ rfl⟩,h 8 _ rfl,h 9 _ rfl,h 10 _ rfl⟩
theorem yb.at {S:Nat→Prop} {W:World} {a:Option Addr} {l:List Pl} (h:yb S W a l):gS W.heap.size W a l:=by
 induction h with
 | nil a=>exact .nil a
 | some b off l q hb hlt hc hx hs hg _ ih=>exact .some b off l q hlt (fun i hi=>uk (hc i hi)) (fun i hi=>(hx i hi).ks) (fun i hi=>(hs i hi).ks) (fun i hi=>(hg i hi).at) ih
structure lD (S:Nat→Prop) (W:World) (p:Pl) (q:Pw):Prop where
 x:dD S W q.xa p.x.ks
 xs:dD S W q.sa p.xs
 gs:nz S W q.ga p.gs
 ks:yb S W q.ka p.ks
theorem lD.next {S:Nat→Prop} {W W':World} {p:Pl} {q:Pw} (h:lD S W p q) (hk:ah S W W'):lD S W' p q:=⟨h.x.next hk,h.xs.next hk,h.gs.next hk,h.ks.next hk⟩
theorem lD.mono {S S':Nat→Prop} {W:World} {p:Pl} {q:Pw} (h:lD S W p q) (hs:∀ b,S b→b<W.heap.size→S' b):lD S' W p q:=⟨h.x.mono hs,h.xs.mono hs,h.gs.mono hs,h.ks.mono hs⟩
theorem lD.b {S:Nat→Prop} {W:World} {p:Pl} {q:Pw} (h:lD S W p q):ki W.heap.size W p q:=⟨h.x.ks,h.xs.ks,h.gs.at,h.ks.at⟩
def Ep (g:Ag) (a:Option Addr) (c:Nat):List Value:=[.int .i64 g.1,.int .i64 g.2.k,.int .i64 g.2.v.1,.int .i64 g.2.v.2.1,.string g.2.v.2.2,.int .i64 g.2.c,.slice a g.2.ks.length c]
def Gg (S:Nat→Prop) (W:World) (g:Ag) (cs:List Value):Prop:=∃ a c,cs=Ep g a c∧dD S W a g.2.ks
theorem EO:qM Gg:=⟨fun hk ⟨a,c,e,h⟩=>⟨a,c,e,h.next hk⟩,fun hs ⟨a,c,e,h⟩=>⟨a,c,e,h.mono hs⟩⟩
def BZ (S:Nat→Prop) (W:World) (p:Pl) (cs:List Value):Prop:=∃ q,cs=EB p q p.ks.length∧lD S W p q
theorem yX:qM BZ:=⟨fun hk ⟨q,e,h⟩=>⟨q,e,h.next hk⟩,fun hs ⟨q,e,h⟩=>⟨q,e,h.mono hs⟩⟩
def CB (ts:List (List Int)) (S:Nat→Prop) (W:World) (p:Pl) (cs:List Value):Prop:=∃ q o ca cc na nc,cs=bL ts p q o ca cc na nc∧fA ts S W p q ca na
theorem yz (ts:List (List Int)):qM (CB ts):=⟨fun hk ⟨q,o,ca,cc,na,nc,e,h⟩=>⟨q,o,ca,cc,na,nc,e,h.next hk⟩,fun hs ⟨q,o,ca,cc,na,nc,e,h⟩=>⟨q,o,ca,cc,na,nc,e,h.mono hs⟩⟩
theorem bR.G3 {e base:Nat} {S:Nat→Prop} {W:World} {v:Value} {l:List Ag} (h:bR Gg e 7 base S W v l) (hs:∀ b,base≤b→S b):∃ a cap,v = .slice a l.length cap∧nz S W a l:=by
 rcases h.fin EO with ⟨rfl,rfl⟩ | ⟨g,cap,rfl,h1,h2,h3⟩
 ·exact ⟨none,0,rfl,.inl rfl⟩
 ·refine ⟨_,cap,rfl,?_⟩;have:∀ i:Nat,∃ t:Option Addr × Nat,∀ h:i<l.length,W.cell? ⟨g,0+i*7,none⟩=some (.int .i64 l[i].1)∧ik W g (0+i*7+1) l[i].2.k l[i].2.v l[i].2.c t.1 l[i].2.ks.length t.2∧dD S W t.1 l[i].2.ks:=fun i=>by
   by_cases hi:i<l.length
   ·obtain ⟨cs,_,c2,a,c,rfl,hk⟩:=h3 i hi;rw [Hu];exact ⟨(a,c),fun _=>⟨c2 0 _ rfl,⟨c2 1 _ rfl,c2 2 _ rfl,c2 3 _ rfl,c2 4 _ rfl,c2 5 _ rfl,c2 6 _ rfl⟩,hk⟩⟩
   ·exact ⟨(none,0),fun h=>absurd h hi⟩
  obtain ⟨t,ht⟩:=Classical.axiomOfChoice this;exact .inr ⟨g,0,fun i=>(t i).1,fun i=>(t i).2,rfl,hs g h1,h2,ht⟩
theorem bR.Hb {e base:Nat} {S:Nat→Prop} {W:World} {v:Value} {l:List Pl} (h:bR BZ e 11 base S W v l) (hs:∀ b,base≤b→S b):∃ a cap,v = .slice a l.length cap∧yb S W a l:=by
 rcases h.fin yX with ⟨rfl,rfl⟩ | ⟨g,cap,rfl,h1,h2,h3⟩
 ·exact ⟨none,0,rfl,.nil _⟩
 ·refine ⟨_,cap,rfl,?_⟩;have:∀ i:Nat,∃ q:Pw,∀ h:i<l.length,At W g (0+i*11) (EB l[i] q l[i].ks.length)∧lD S W l[i] q:=fun i=>by
   by_cases hi:i<l.length
   ·obtain ⟨cs,_,c2,q,rfl,hk⟩:=h3 i hi;rw [Hu];exact ⟨q,fun _=>⟨c2,hk⟩⟩
   ·exact ⟨⟨none,0,none,0,none,0,none,0⟩,fun h=>absurd h hi⟩
  obtain ⟨t,ht⟩:=Classical.axiomOfChoice this;exact .some g 0 l t (hs g h1) h2 (fun i hi=>(ht i hi).1) (fun i hi=>(ht i hi).2.x) (fun i hi=>(ht i hi).2.xs) (fun i hi=>(ht i hi).2.gs) (fun i hi=>(ht i hi).2.ks)
theorem bR.GF {ts:List (List Int)} {e base:Nat} {S:Nat→Prop} {W:World} {v:Value} {l:List Pl} (h:bR (CB ts) e 13 base S W v l) (hs:∀ b,base≤b→S b):∃ a cap,v = .slice a l.length cap∧qp ts S W a l:=by
 rcases h.fin (yz ts) with ⟨rfl,rfl⟩ | ⟨g,cap,rfl,h1,h2,h3⟩
 ·exact ⟨none,0,rfl,.nil _⟩
 ·refine ⟨_,cap,rfl,qp.of (hs g h1) h2 fun i hi=>?_⟩;obtain ⟨cs,_,c2,q,o,ca,cc,na,nc,rfl,hk⟩:=h3 i hi;rw [Hu];exact ⟨q,o,ca,cc,na,nc,c2,hk⟩
set_option maxHeartbeats 2000000
theorem bf {B g:Nat} {W0 W:World} (h:Below B W0 W) (hg:B≤g) (v0 v1 v2 v3 v4 v5 v6 v7 v8 v9 v10 v11 v12:Value):Below B W0 (((((((((((((W.setCell ⟨g,0,none⟩ v0).setCell ⟨g,1,none⟩ v1).setCell ⟨g,2,none⟩ v2).setCell ⟨g,3,none⟩ v3).setCell ⟨g,4,none⟩ v4).setCell ⟨g,5,none⟩ v5).setCell ⟨g,6,none⟩ v6).setCell ⟨g,7,none⟩ v7).setCell ⟨g,8,none⟩ v8).setCell ⟨g,9,none⟩ v9).setCell ⟨g,10,none⟩ v10).setCell ⟨g,11,none⟩ v11).setCell ⟨g,12,none⟩ v12) :=
 (((((((((((((h.setCell (p:=⟨g,0,none⟩) hg v0).setCell (p:=⟨g,1,none⟩) hg v1).setCell (p:=⟨g,2,none⟩) hg v2).setCell (p:=⟨g,3,none⟩) hg v3).setCell (p:=⟨g,4,none⟩) hg v4).setCell (p:=⟨g,5,none⟩) hg v5).setCell (p:=⟨g,6,none⟩) hg v6).setCell (p:=⟨g,7,none⟩) hg v7).setCell (p:=⟨g,8,none⟩) hg v8).setCell (p:=⟨g,9,none⟩) hg v9).setCell (p:=⟨g,10,none⟩) hg v10).setCell (p:=⟨g,11,none⟩) hg v11).setCell (p:=⟨g,12,none⟩) hg v12)
theorem bC {S:Nat→Prop} {g:Nat} {W0 W:World} (h:ah S W0 W) (hg:¬ S g) (v0 v1 v2 v3 v4 v5 v6 v7 v8 v9 v10 v11 v12:Value):ah S W0 (((((((((((((W.setCell ⟨g,0,none⟩ v0).setCell ⟨g,1,none⟩ v1).setCell ⟨g,2,none⟩ v2).setCell ⟨g,3,none⟩ v3).setCell ⟨g,4,none⟩ v4).setCell ⟨g,5,none⟩ v5).setCell ⟨g,6,none⟩ v6).setCell ⟨g,7,none⟩ v7).setCell ⟨g,8,none⟩ v8).setCell ⟨g,9,none⟩ v9).setCell ⟨g,10,none⟩ v10).setCell ⟨g,11,none⟩ v11).setCell ⟨g,12,none⟩ v12) :=
 (((((((((((((h.set g (0) v0 hg).set g (1) v1 hg).set g (2) v2 hg).set g (3) v3 hg).set g (4) v4 hg).set g (5) v5 hg).set g (6) v6 hg).set g (7) v7 hg).set g (8) v8 hg).set g (9) v9 hg).set g (10) v10 hg).set g (11) v11 hg).set g (12) v12 hg)
theorem gj {g b:Nat} {W:World} {x:Option Obj} (h:W.heap[b]? = x) (hg:b≠g) (v0 v1 v2 v3 v4 v5 v6 v7 v8 v9 v10 v11 v12:Value):(((((((((((((W.setCell ⟨g,0,none⟩ v0).setCell ⟨g,1,none⟩ v1).setCell ⟨g,2,none⟩ v2).setCell ⟨g,3,none⟩ v3).setCell ⟨g,4,none⟩ v4).setCell ⟨g,5,none⟩ v5).setCell ⟨g,6,none⟩ v6).setCell ⟨g,7,none⟩ v7).setCell ⟨g,8,none⟩ v8).setCell ⟨g,9,none⟩ v9).setCell ⟨g,10,none⟩ v10).setCell ⟨g,11,none⟩ v11).setCell ⟨g,12,none⟩ v12).heap[b]? = x:=by
 rw [aq _ _ hg,aq _ _ hg,aq _ _ hg,aq _ _ hg,aq _ _ hg,aq _ _ hg,aq _ _ hg,aq _ _ hg,aq _ _ hg,aq _ _ hg,aq _ _ hg,aq _ _ hg,aq _ _ hg];exact h
theorem bw {g:Nat} {T:TypeId} {W:World} {c0 c1 c2 c3 c4 c5 c6 c7 c8 c9 dW c11 c12:Value} (h:W.heap[g]? = some (.cells #[c0,c1,c2,c3,c4,c5,c6,c7,c8,c9,dW,c11,c12] T (0,0))) (v0 v1 v2 v3 v4 v5 v6 v7 v8 v9 v10 v11 v12:Value):(((((((((((((W.setCell ⟨g,0,none⟩ v0).setCell ⟨g,1,none⟩ v1).setCell ⟨g,2,none⟩ v2).setCell ⟨g,3,none⟩ v3).setCell ⟨g,4,none⟩ v4).setCell ⟨g,5,none⟩ v5).setCell ⟨g,6,none⟩ v6).setCell ⟨g,7,none⟩ v7).setCell ⟨g,8,none⟩ v8).setCell ⟨g,9,none⟩ v9).setCell ⟨g,10,none⟩ v10).setCell ⟨g,11,none⟩ v11).setCell ⟨g,12,none⟩ v12).heap[g]? = some (.cells #[v0,v1,v2,v3,v4,v5,v6,v7,v8,v9,v10,v11,v12] T (0,0)):=by
 have h0:(W.setCell ⟨g,0,none⟩ v0).heap[g]? = some (.cells #[v0,c1,c2,c3,c4,c5,c6,c7,c8,c9,dW,c11,c12] T (0,0)):=Hn _ g 0 #[c0,c1,c2,c3,c4,c5,c6,c7,c8,c9,dW,c11,c12] _ v0 h;have h1:((W.setCell ⟨g,0,none⟩ v0).setCell ⟨g,1,none⟩ v1).heap[g]? = some (.cells #[v0,v1,c2,c3,c4,c5,c6,c7,c8,c9,dW,c11,c12] T (0,0)):=Hn _ g 1 #[v0,c1,c2,c3,c4,c5,c6,c7,c8,c9,dW,c11,c12] _ v1 h0
 have h2:(((W.setCell ⟨g,0,none⟩ v0).setCell ⟨g,1,none⟩ v1).setCell ⟨g,2,none⟩ v2).heap[g]? = some (.cells #[v0,v1,v2,c3,c4,c5,c6,c7,c8,c9,dW,c11,c12] T (0,0)):=Hn _ g 2 #[v0,v1,c2,c3,c4,c5,c6,c7,c8,c9,dW,c11,c12] _ v2 h1;have h3:((((W.setCell ⟨g,0,none⟩ v0).setCell ⟨g,1,none⟩ v1).setCell ⟨g,2,none⟩ v2).setCell ⟨g,3,none⟩ v3).heap[g]? = some (.cells #[v0,v1,v2,v3,c4,c5,c6,c7,c8,c9,dW,c11,c12] T (0,0)):=Hn _ g 3 #[v0,v1,v2,c3,c4,c5,c6,c7,c8,c9,dW,c11,c12] _ v3 h2
 have h4:(((((W.setCell ⟨g,0,none⟩ v0).setCell ⟨g,1,none⟩ v1).setCell ⟨g,2,none⟩ v2).setCell ⟨g,3,none⟩ v3).setCell ⟨g,4,none⟩ v4).heap[g]? = some (.cells #[v0,v1,v2,v3,v4,c5,c6,c7,c8,c9,dW,c11,c12] T (0,0)):=Hn _ g 4 #[v0,v1,v2,v3,c4,c5,c6,c7,c8,c9,dW,c11,c12] _ v4 h3;have h5:((((((W.setCell ⟨g,0,none⟩ v0).setCell ⟨g,1,none⟩ v1).setCell ⟨g,2,none⟩ v2).setCell ⟨g,3,none⟩ v3).setCell ⟨g,4,none⟩ v4).setCell ⟨g,5,none⟩ v5).heap[g]? = some (.cells #[v0,v1,v2,v3,v4,v5,c6,c7,c8,c9,dW,c11,c12] T (0,0)):=Hn _ g 5 #[v0,v1,v2,v3,v4,c5,c6,c7,c8,c9,dW,c11,c12] _ v5 h4
 have h6:(((((((W.setCell ⟨g,0,none⟩ v0).setCell ⟨g,1,none⟩ v1).setCell ⟨g,2,none⟩ v2).setCell ⟨g,3,none⟩ v3).setCell ⟨g,4,none⟩ v4).setCell ⟨g,5,none⟩ v5).setCell ⟨g,6,none⟩ v6).heap[g]? = some (.cells #[v0,v1,v2,v3,v4,v5,v6,c7,c8,c9,dW,c11,c12] T (0,0)):=Hn _ g 6 #[v0,v1,v2,v3,v4,v5,c6,c7,c8,c9,dW,c11,c12] _ v6 h5
 have h7:((((((((W.setCell ⟨g,0,none⟩ v0).setCell ⟨g,1,none⟩ v1).setCell ⟨g,2,none⟩ v2).setCell ⟨g,3,none⟩ v3).setCell ⟨g,4,none⟩ v4).setCell ⟨g,5,none⟩ v5).setCell ⟨g,6,none⟩ v6).setCell ⟨g,7,none⟩ v7).heap[g]? = some (.cells #[v0,v1,v2,v3,v4,v5,v6,v7,c8,c9,dW,c11,c12] T (0,0)):=Hn _ g 7 #[v0,v1,v2,v3,v4,v5,v6,c7,c8,c9,dW,c11,c12] _ v7 h6
 have h8:(((((((((W.setCell ⟨g,0,none⟩ v0).setCell ⟨g,1,none⟩ v1).setCell ⟨g,2,none⟩ v2).setCell ⟨g,3,none⟩ v3).setCell ⟨g,4,none⟩ v4).setCell ⟨g,5,none⟩ v5).setCell ⟨g,6,none⟩ v6).setCell ⟨g,7,none⟩ v7).setCell ⟨g,8,none⟩ v8).heap[g]? = some (.cells #[v0,v1,v2,v3,v4,v5,v6,v7,v8,c9,dW,c11,c12] T (0,0)):=Hn _ g 8 #[v0,v1,v2,v3,v4,v5,v6,v7,c8,c9,dW,c11,c12] _ v8 h7
 have h9:((((((((((W.setCell ⟨g,0,none⟩ v0).setCell ⟨g,1,none⟩ v1).setCell ⟨g,2,none⟩ v2).setCell ⟨g,3,none⟩ v3).setCell ⟨g,4,none⟩ v4).setCell ⟨g,5,none⟩ v5).setCell ⟨g,6,none⟩ v6).setCell ⟨g,7,none⟩ v7).setCell ⟨g,8,none⟩ v8).setCell ⟨g,9,none⟩ v9).heap[g]? = some (.cells #[v0,v1,v2,v3,v4,v5,v6,v7,v8,v9,dW,c11,c12] T (0,0)):=Hn _ g 9 #[v0,v1,v2,v3,v4,v5,v6,v7,v8,c9,dW,c11,c12] _ v9 h8
 have h10:(((((((((((W.setCell ⟨g,0,none⟩ v0).setCell ⟨g,1,none⟩ v1).setCell ⟨g,2,none⟩ v2).setCell ⟨g,3,none⟩ v3).setCell ⟨g,4,none⟩ v4).setCell ⟨g,5,none⟩ v5).setCell ⟨g,6,none⟩ v6).setCell ⟨g,7,none⟩ v7).setCell ⟨g,8,none⟩ v8).setCell ⟨g,9,none⟩ v9).setCell ⟨g,10,none⟩ v10).heap[g]? = some (.cells #[v0,v1,v2,v3,v4,v5,v6,v7,v8,v9,v10,c11,c12] T (0,0)):=Hn _ g 10 #[v0,v1,v2,v3,v4,v5,v6,v7,v8,v9,dW,c11,c12] _ v10 h9
 have h11:((((((((((((W.setCell ⟨g,0,none⟩ v0).setCell ⟨g,1,none⟩ v1).setCell ⟨g,2,none⟩ v2).setCell ⟨g,3,none⟩ v3).setCell ⟨g,4,none⟩ v4).setCell ⟨g,5,none⟩ v5).setCell ⟨g,6,none⟩ v6).setCell ⟨g,7,none⟩ v7).setCell ⟨g,8,none⟩ v8).setCell ⟨g,9,none⟩ v9).setCell ⟨g,10,none⟩ v10).setCell ⟨g,11,none⟩ v11).heap[g]? = some (.cells #[v0,v1,v2,v3,v4,v5,v6,v7,v8,v9,v10,v11,c12] T (0,0)):=Hn _ g 11 #[v0,v1,v2,v3,v4,v5,v6,v7,v8,v9,v10,c11,c12] _ v11 h10
 have h12:(((((((((((((W.setCell ⟨g,0,none⟩ v0).setCell ⟨g,1,none⟩ v1).setCell ⟨g,2,none⟩ v2).setCell ⟨g,3,none⟩ v3).setCell ⟨g,4,none⟩ v4).setCell ⟨g,5,none⟩ v5).setCell ⟨g,6,none⟩ v6).setCell ⟨g,7,none⟩ v7).setCell ⟨g,8,none⟩ v8).setCell ⟨g,9,none⟩ v9).setCell ⟨g,10,none⟩ v10).setCell ⟨g,11,none⟩ v11).setCell ⟨g,12,none⟩ v12).heap[g]? = some (.cells #[v0,v1,v2,v3,v4,v5,v6,v7,v8,v9,v10,v11,v12] T (0,0)):=Hn _ g 12 #[v0,v1,v2,v3,v4,v5,v6,v7,v8,v9,v10,v11,c12] _ v12 h11;exact h12
theorem j2 {B g:Nat} {W0 W:World} (h:Below B W0 W) (hg:B≤g) (v0 v1 v2 v3 v4 v5 v6 v7 v8 v9 v10:Value):Below B W0 (((((((((((W.setCell ⟨g,0,none⟩ v0).setCell ⟨g,1,none⟩ v1).setCell ⟨g,2,none⟩ v2).setCell ⟨g,3,none⟩ v3).setCell ⟨g,4,none⟩ v4).setCell ⟨g,5,none⟩ v5).setCell ⟨g,6,none⟩ v6).setCell ⟨g,7,none⟩ v7).setCell ⟨g,8,none⟩ v8).setCell ⟨g,9,none⟩ v9).setCell ⟨g,10,none⟩ v10) :=
 (((((((((((h.setCell (p:=⟨g,0,none⟩) hg v0).setCell (p:=⟨g,1,none⟩) hg v1).setCell (p:=⟨g,2,none⟩) hg v2).setCell (p:=⟨g,3,none⟩) hg v3).setCell (p:=⟨g,4,none⟩) hg v4).setCell (p:=⟨g,5,none⟩) hg v5).setCell (p:=⟨g,6,none⟩) hg v6).setCell (p:=⟨g,7,none⟩) hg v7).setCell (p:=⟨g,8,none⟩) hg v8).setCell (p:=⟨g,9,none⟩) hg v9).setCell (p:=⟨g,10,none⟩) hg v10)
theorem mc {S:Nat→Prop} {g:Nat} {W0 W:World} (h:ah S W0 W) (hg:¬ S g) (v0 v1 v2 v3 v4 v5 v6 v7 v8 v9 v10:Value):ah S W0 (((((((((((W.setCell ⟨g,0,none⟩ v0).setCell ⟨g,1,none⟩ v1).setCell ⟨g,2,none⟩ v2).setCell ⟨g,3,none⟩ v3).setCell ⟨g,4,none⟩ v4).setCell ⟨g,5,none⟩ v5).setCell ⟨g,6,none⟩ v6).setCell ⟨g,7,none⟩ v7).setCell ⟨g,8,none⟩ v8).setCell ⟨g,9,none⟩ v9).setCell ⟨g,10,none⟩ v10) :=
 (((((((((((h.set g (0) v0 hg).set g (1) v1 hg).set g (2) v2 hg).set g (3) v3 hg).set g (4) v4 hg).set g (5) v5 hg).set g (6) v6 hg).set g (7) v7 hg).set g (8) v8 hg).set g (9) v9 hg).set g (10) v10 hg)
theorem lp {g:Nat} {T:TypeId} {W:World} {c0 c1 c2 c3 c4 c5 c6 c7 c8 c9 dW:Value} (h:W.heap[g]? = some (.cells #[c0,c1,c2,c3,c4,c5,c6,c7,c8,c9,dW] T (0,0))) (v0 v1 v2 v3 v4 v5 v6 v7 v8 v9 v10:Value):(((((((((((W.setCell ⟨g,0,none⟩ v0).setCell ⟨g,1,none⟩ v1).setCell ⟨g,2,none⟩ v2).setCell ⟨g,3,none⟩ v3).setCell ⟨g,4,none⟩ v4).setCell ⟨g,5,none⟩ v5).setCell ⟨g,6,none⟩ v6).setCell ⟨g,7,none⟩ v7).setCell ⟨g,8,none⟩ v8).setCell ⟨g,9,none⟩ v9).setCell ⟨g,10,none⟩ v10).heap[g]? = some (.cells #[v0,v1,v2,v3,v4,v5,v6,v7,v8,v9,v10] T (0,0)):=by
 have h0:(W.setCell ⟨g,0,none⟩ v0).heap[g]? = some (.cells #[v0,c1,c2,c3,c4,c5,c6,c7,c8,c9,dW] T (0,0)):=Hn _ g 0 #[c0,c1,c2,c3,c4,c5,c6,c7,c8,c9,dW] _ v0 h;have h1:((W.setCell ⟨g,0,none⟩ v0).setCell ⟨g,1,none⟩ v1).heap[g]? = some (.cells #[v0,v1,c2,c3,c4,c5,c6,c7,c8,c9,dW] T (0,0)):=Hn _ g 1 #[v0,c1,c2,c3,c4,c5,c6,c7,c8,c9,dW] _ v1 h0;have h2:(((W.setCell ⟨g,0,none⟩ v0).setCell ⟨g,1,none⟩ v1).setCell ⟨g,2,none⟩ v2).heap[g]? = some (.cells #[v0,v1,v2,c3,c4,c5,c6,c7,c8,c9,dW] T (0,0)):=Hn _ g 2 #[v0,v1,c2,c3,c4,c5,c6,c7,c8,c9,dW] _ v2 h1
 have h3:((((W.setCell ⟨g,0,none⟩ v0).setCell ⟨g,1,none⟩ v1).setCell ⟨g,2,none⟩ v2).setCell ⟨g,3,none⟩ v3).heap[g]? = some (.cells #[v0,v1,v2,v3,c4,c5,c6,c7,c8,c9,dW] T (0,0)):=Hn _ g 3 #[v0,v1,v2,c3,c4,c5,c6,c7,c8,c9,dW] _ v3 h2;have h4:(((((W.setCell ⟨g,0,none⟩ v0).setCell ⟨g,1,none⟩ v1).setCell ⟨g,2,none⟩ v2).setCell ⟨g,3,none⟩ v3).setCell ⟨g,4,none⟩ v4).heap[g]? = some (.cells #[v0,v1,v2,v3,v4,c5,c6,c7,c8,c9,dW] T (0,0)):=Hn _ g 4 #[v0,v1,v2,v3,c4,c5,c6,c7,c8,c9,dW] _ v4 h3
 have h5:((((((W.setCell ⟨g,0,none⟩ v0).setCell ⟨g,1,none⟩ v1).setCell ⟨g,2,none⟩ v2).setCell ⟨g,3,none⟩ v3).setCell ⟨g,4,none⟩ v4).setCell ⟨g,5,none⟩ v5).heap[g]? = some (.cells #[v0,v1,v2,v3,v4,v5,c6,c7,c8,c9,dW] T (0,0)):=Hn _ g 5 #[v0,v1,v2,v3,v4,c5,c6,c7,c8,c9,dW] _ v5 h4
 have h6:(((((((W.setCell ⟨g,0,none⟩ v0).setCell ⟨g,1,none⟩ v1).setCell ⟨g,2,none⟩ v2).setCell ⟨g,3,none⟩ v3).setCell ⟨g,4,none⟩ v4).setCell ⟨g,5,none⟩ v5).setCell ⟨g,6,none⟩ v6).heap[g]? = some (.cells #[v0,v1,v2,v3,v4,v5,v6,c7,c8,c9,dW] T (0,0)):=Hn _ g 6 #[v0,v1,v2,v3,v4,v5,c6,c7,c8,c9,dW] _ v6 h5
 have h7:((((((((W.setCell ⟨g,0,none⟩ v0).setCell ⟨g,1,none⟩ v1).setCell ⟨g,2,none⟩ v2).setCell ⟨g,3,none⟩ v3).setCell ⟨g,4,none⟩ v4).setCell ⟨g,5,none⟩ v5).setCell ⟨g,6,none⟩ v6).setCell ⟨g,7,none⟩ v7).heap[g]? = some (.cells #[v0,v1,v2,v3,v4,v5,v6,v7,c8,c9,dW] T (0,0)):=Hn _ g 7 #[v0,v1,v2,v3,v4,v5,v6,c7,c8,c9,dW] _ v7 h6
 have h8:(((((((((W.setCell ⟨g,0,none⟩ v0).setCell ⟨g,1,none⟩ v1).setCell ⟨g,2,none⟩ v2).setCell ⟨g,3,none⟩ v3).setCell ⟨g,4,none⟩ v4).setCell ⟨g,5,none⟩ v5).setCell ⟨g,6,none⟩ v6).setCell ⟨g,7,none⟩ v7).setCell ⟨g,8,none⟩ v8).heap[g]? = some (.cells #[v0,v1,v2,v3,v4,v5,v6,v7,v8,c9,dW] T (0,0)):=Hn _ g 8 #[v0,v1,v2,v3,v4,v5,v6,v7,c8,c9,dW] _ v8 h7
 have h9:((((((((((W.setCell ⟨g,0,none⟩ v0).setCell ⟨g,1,none⟩ v1).setCell ⟨g,2,none⟩ v2).setCell ⟨g,3,none⟩ v3).setCell ⟨g,4,none⟩ v4).setCell ⟨g,5,none⟩ v5).setCell ⟨g,6,none⟩ v6).setCell ⟨g,7,none⟩ v7).setCell ⟨g,8,none⟩ v8).setCell ⟨g,9,none⟩ v9).heap[g]? = some (.cells #[v0,v1,v2,v3,v4,v5,v6,v7,v8,v9,dW] T (0,0)):=Hn _ g 9 #[v0,v1,v2,v3,v4,v5,v6,v7,v8,c9,dW] _ v9 h8
 have h10:(((((((((((W.setCell ⟨g,0,none⟩ v0).setCell ⟨g,1,none⟩ v1).setCell ⟨g,2,none⟩ v2).setCell ⟨g,3,none⟩ v3).setCell ⟨g,4,none⟩ v4).setCell ⟨g,5,none⟩ v5).setCell ⟨g,6,none⟩ v6).setCell ⟨g,7,none⟩ v7).setCell ⟨g,8,none⟩ v8).setCell ⟨g,9,none⟩ v9).setCell ⟨g,10,none⟩ v10).heap[g]? = some (.cells #[v0,v1,v2,v3,v4,v5,v6,v7,v8,v9,v10] T (0,0)):=Hn _ g 10 #[v0,v1,v2,v3,v4,v5,v6,v7,v8,v9,dW] _ v10 h9;exact h10
theorem qf {B g:Nat} {W0 W:World} (h:Below B W0 W) (hg:B≤g) (v0 v1 v2 v3 v4 v5:Value):Below B W0 ((((((W.setCell ⟨g,2,none⟩ v0).setCell ⟨g,3,none⟩ v1).setCell ⟨g,4,none⟩ v2).setCell ⟨g,5,none⟩ v3).setCell ⟨g,6,none⟩ v4).setCell ⟨g,7,none⟩ v5) :=
 ((((((h.setCell (p:=⟨g,2,none⟩) hg v0).setCell (p:=⟨g,3,none⟩) hg v1).setCell (p:=⟨g,4,none⟩) hg v2).setCell (p:=⟨g,5,none⟩) hg v3).setCell (p:=⟨g,6,none⟩) hg v4).setCell (p:=⟨g,7,none⟩) hg v5)
theorem qe {S:Nat→Prop} {g:Nat} {W0 W:World} (h:ah S W0 W) (hg:¬ S g) (v0 v1 v2 v3 v4 v5:Value):ah S W0 ((((((W.setCell ⟨g,2,none⟩ v0).setCell ⟨g,3,none⟩ v1).setCell ⟨g,4,none⟩ v2).setCell ⟨g,5,none⟩ v3).setCell ⟨g,6,none⟩ v4).setCell ⟨g,7,none⟩ v5) :=
 ((((((h.set g (2) v0 hg).set g (3) v1 hg).set g (4) v2 hg).set g (5) v3 hg).set g (6) v4 hg).set g (7) v5 hg)
theorem qW {g b:Nat} {W:World} {x:Option Obj} (h:W.heap[b]? = x) (hg:b≠g) (v0 v1 v2 v3 v4 v5:Value):((((((W.setCell ⟨g,2,none⟩ v0).setCell ⟨g,3,none⟩ v1).setCell ⟨g,4,none⟩ v2).setCell ⟨g,5,none⟩ v3).setCell ⟨g,6,none⟩ v4).setCell ⟨g,7,none⟩ v5).heap[b]? = x:=by
 rw [aq _ _ hg,aq _ _ hg,aq _ _ hg,aq _ _ hg,aq _ _ hg,aq _ _ hg];exact h
theorem BI {g:Nat} {W:World} (v0 v1 v2 v3 v4 v5:Value):((((((W.setCell ⟨g,2,none⟩ v0).setCell ⟨g,3,none⟩ v1).setCell ⟨g,4,none⟩ v2).setCell ⟨g,5,none⟩ v3).setCell ⟨g,6,none⟩ v4).setCell ⟨g,7,none⟩ v5).heap.size=W.heap.size:=by simp only [Ip]
theorem tN {B g j:Nat} {W0 W:World} (h:Below B W0 W) (hg:B≤g) (v0 v1 v2 v3 v4 v5 v6 v7 v8 v9 v10 v11 v12:Value):Below B W0 (((((((((((((W.setCell ⟨g,j*13,none⟩ v0).setCell ⟨g,j*13+1,none⟩ v1).setCell ⟨g,j*13+2,none⟩ v2).setCell ⟨g,j*13+3,none⟩ v3).setCell ⟨g,j*13+4,none⟩ v4).setCell ⟨g,j*13+5,none⟩ v5).setCell ⟨g,j*13+6,none⟩ v6).setCell ⟨g,j*13+7,none⟩ v7).setCell ⟨g,j*13+8,none⟩ v8).setCell ⟨g,j*13+9,none⟩ v9).setCell ⟨g,j*13+10,none⟩ v10).setCell ⟨g,j*13+11,none⟩ v11).setCell ⟨g,j*13+12,none⟩ v12) :=
 (((((((((((((h.setCell (p:=⟨g,j*13,none⟩) hg v0).setCell (p:=⟨g,j*13+1,none⟩) hg v1).setCell (p:=⟨g,j*13+2,none⟩) hg v2).setCell (p:=⟨g,j*13+3,none⟩) hg v3).setCell (p:=⟨g,j*13+4,none⟩) hg v4).setCell (p:=⟨g,j*13+5,none⟩) hg v5).setCell (p:=⟨g,j*13+6,none⟩) hg v6).setCell (p:=⟨g,j*13+7,none⟩) hg v7).setCell (p:=⟨g,j*13+8,none⟩) hg v8).setCell (p:=⟨g,j*13+9,none⟩) hg v9).setCell (p:=⟨g,j*13+10,none⟩) hg v10).setCell (p:=⟨g,j*13+11,none⟩) hg v11).setCell (p:=⟨g,j*13+12,none⟩) hg v12)
theorem rA {g b j:Nat} {W:World} {x:Option Obj} (h:W.heap[b]? = x) (hg:b≠g) (v0 v1 v2 v3 v4 v5 v6 v7 v8 v9 v10 v11 v12:Value):(((((((((((((W.setCell ⟨g,j*13,none⟩ v0).setCell ⟨g,j*13+1,none⟩ v1).setCell ⟨g,j*13+2,none⟩ v2).setCell ⟨g,j*13+3,none⟩ v3).setCell ⟨g,j*13+4,none⟩ v4).setCell ⟨g,j*13+5,none⟩ v5).setCell ⟨g,j*13+6,none⟩ v6).setCell ⟨g,j*13+7,none⟩ v7).setCell ⟨g,j*13+8,none⟩ v8).setCell ⟨g,j*13+9,none⟩ v9).setCell ⟨g,j*13+10,none⟩ v10).setCell ⟨g,j*13+11,none⟩ v11).setCell ⟨g,j*13+12,none⟩ v12).heap[b]? = x:=by
 rw [aq _ _ hg,aq _ _ hg,aq _ _ hg,aq _ _ hg,aq _ _ hg,aq _ _ hg,aq _ _ hg,aq _ _ hg,aq _ _ hg,aq _ _ hg,aq _ _ hg,aq _ _ hg,aq _ _ hg];exact h
theorem aw (W:World) (xs:Array Value) (T:TypeId) {b:Nat} (h:W.heap.size=b):(W.alloc (.cells xs T)).heap[b]? = some (.cells xs T (0,0)):=h ▸ an W xs T
theorem pM (ts:List (List Int)) (x:Ex) (p:Pl):aj ts (.mk 2 0 x [] [] [p])=aj ts p:=by rw [aj,aU,aU]; rfl
theorem mS (ts:List (List Int)) (S:Nat→Prop) (x:Ex) (xa:Option Addr) (xc:Nat) (p:Pl) (q:Pw) (o:Nat) (ca:Option Addr) (cc:Nat) (na:Option Addr) (nc:Nat) (w:World) (hx:dD S w xa x.ks) (hp:fA ts S w p q ca na) :
  Calls Tryz.prog 38 #[iY x.k x.v x.c xa x.ks.length xc,cH ts p q o ca cc na nc] w fun e w'=>∃ v,e = .returned v∧aT ts (eA S w) w' v (.mk 2 0 x [] [] [p])∧Below w.heap.size w w':=by
 obtain ⟨cl,hcl⟩:∃ cl,(aj ts p).length=cl:=⟨_,rfl⟩
 have HCL:Hid ((aj ts p).length=cl):=hcl;unfold cH bL;rw [hcl];clear hcl;have A:Below w.heap.size w (((w.alloc (.cells (aW x xa xc) 27)).alloc (.cells (aJ p q o ca cl cc na p.ks.length nc) 50)).alloc (.cells aH 50)):=((((He w.heap.size w).alloc (Hd _) (.cells (aW x xa xc) 27)).alloc (by simp only [Hg]; omega) (.cells (aJ p q o ca cl cc na p.ks.length nc) 50)).alloc (by simp only [Hg]; omega) (.cells aH 50))
 have Z:w.heap.size+3≤(((w.alloc (.cells (aW x xa xc) 27)).alloc (.cells (aJ p q o ca cl cc na p.ks.length nc) 50)).alloc (.cells aH 50)).heap.size:=by simp only [Hg]; omega
 have Q0:(((w.alloc (.cells (aW x xa xc) 27)).alloc (.cells (aJ p q o ca cl cc na p.ks.length nc) 50)).alloc (.cells aH 50)).heap[w.heap.size]? = some (.cells (aW x xa xc) 27 (0,0)):=by
  rw [aD _ _ (by simp only [Hg]; omega),aD _ _ (by simp only [Hg]; omega)];exact aw w (aW x xa xc) 27 rfl
 have Q1:(((w.alloc (.cells (aW x xa xc) 27)).alloc (.cells (aJ p q o ca cl cc na p.ks.length nc) 50)).alloc (.cells aH 50)).heap[w.heap.size+1]? = some (.cells (aJ p q o ca cl cc na p.ks.length nc) 50 (0,0)):=by
  rw [aD _ _ (by simp only [Hg]; omega)];exact aw (w.alloc (.cells (aW x xa xc) 27)) (aJ p q o ca cl cc na p.ks.length nc) 50 (by simp only [Hg])
 have Q2:(((w.alloc (.cells (aW x xa xc) 27)).alloc (.cells (aJ p q o ca cl cc na p.ks.length nc) 50)).alloc (.cells aH 50)).heap[w.heap.size+2]? = some (.cells aH 50 (0,0)):=by
  exact aw ((w.alloc (.cells (aW x xa xc) 27)).alloc (.cells (aJ p q o ca cl cc na p.ks.length nc) 50)) aH 50 (by simp only [Hg])
 have HX:Hid (dD S w xa x.ks):=hx;have HP:Hid (fA ts S w p q ca na):=hp;clear hx hp;go_enter Tryz.func38,Tryz.ntmps38;go_upto_region 1 with fail
 generalize (((w.alloc (.cells (aW x xa xc) 27)).alloc (.cells (aJ p q o ca cl cc na p.ks.length nc) 50)).alloc (.cells aH 50))=w3 at *;obtain ⟨x0,x1,x2,x3,x4,x5⟩:=cU Q0;obtain ⟨n0,n1,n2,n3,n4,n5,n6,n7,n8,n9,n10,n11,n12⟩:=aB Q1;obtain ⟨z0,z1,z2,z3,z4,z5,z6,z7,z8,z9,z10,z11,z12⟩:=aB Q2;obtain ⟨zf0,zf1,zf2,zf3,zf4,zf5,zf6,zf7,zf8,zf9,zf10,zf11,zf12⟩:=cL Q2;have L2:w.heap.size+1+1<w3.heap.size:=by omega
 go_wp2_with fail
 have AP3:Below w.heap.size w (nt w3 (w.heap.size+2) (.int .i64 2) (.int .i64 0) (.int .i64 x.k) (.int .i64 x.v.1) (.int .i64 x.v.2.1) (.string x.v.2.2) (.int .i64 x.c) (.slice xa x.ks.length xc) (.slice none 0 0) (.slice none 0 0) (.slice none 0 0) (.slice ca cl cc) (.slice (some ⟨w3.heap.size,0,none⟩) 1 1)):=(bf (g:=w.heap.size+2) A (Ir _ _) (.int .i64 2) (.int .i64 0) (.int .i64 x.k) (.int .i64 x.v.1) (.int .i64 x.v.2.1) (.string x.v.2.2) (.int .i64 x.c) (.slice xa x.ks.length xc) (.slice none 0 0) (.slice none 0 0) (.slice none 0 0) (.slice ca cl cc) (.slice (some ⟨w3.heap.size,0,none⟩) 1 1))
 have ZS:(nt w3 (w.heap.size+2) (.int .i64 2) (.int .i64 0) (.int .i64 x.k) (.int .i64 x.v.1) (.int .i64 x.v.2.1) (.string x.v.2.2) (.int .i64 x.c) (.slice xa x.ks.length xc) (.slice none 0 0) (.slice none 0 0) (.slice none 0 0) (.slice ca cl cc) (.slice (some ⟨w3.heap.size,0,none⟩) 1 1)).heap.size=w3.heap.size:=by simp only [Ip]
 have AP:Below w.heap.size w ((nt w3 (w.heap.size+2) (.int .i64 2) (.int .i64 0) (.int .i64 x.k) (.int .i64 x.v.1) (.int .i64 x.v.2.1) (.string x.v.2.2) (.int .i64 x.c) (.slice xa x.ks.length xc) (.slice none 0 0) (.slice none 0 0) (.slice none 0 0) (.slice ca cl cc) (.slice (some ⟨w3.heap.size,0,none⟩) 1 1)).alloc (.cells (aJ p q o ca cl cc na p.ks.length nc) 50)):=AP3.alloc AP3.size _
 have KP:ah (eA S w) w ((nt w3 (w.heap.size+2) (.int .i64 2) (.int .i64 0) (.int .i64 x.k) (.int .i64 x.v.1) (.int .i64 x.v.2.1) (.string x.v.2.2) (.int .i64 x.c) (.slice xa x.ks.length xc) (.slice none 0 0) (.slice none 0 0) (.slice none 0 0) (.slice ca cl cc) (.slice (some ⟨w3.heap.size,0,none⟩) 1 1)).alloc (.cells (aJ p q o ca cl cc na p.ks.length nc) 50)):=⟨AP.size,fun b _ hb=>AP.block b hb⟩
 have QG':((nt w3 (w.heap.size+2) (.int .i64 2) (.int .i64 0) (.int .i64 x.k) (.int .i64 x.v.1) (.int .i64 x.v.2.1) (.string x.v.2.2) (.int .i64 x.c) (.slice xa x.ks.length xc) (.slice none 0 0) (.slice none 0 0) (.slice none 0 0) (.slice ca cl cc) (.slice (some ⟨w3.heap.size,0,none⟩) 1 1)).alloc (.cells (aJ p q o ca cl cc na p.ks.length nc) 50)).heap[w3.heap.size]? = some (.cells (aJ p q o ca cl cc na p.ks.length nc) 50 (0,0)):=aw _ _ _ ZS
 have LT:w3.heap.size<((nt w3 (w.heap.size+2) (.int .i64 2) (.int .i64 0) (.int .i64 x.k) (.int .i64 x.v.1) (.int .i64 x.v.2.1) (.string x.v.2.2) (.int .i64 x.c) (.slice xa x.ks.length xc) (.slice none 0 0) (.slice none 0 0) (.slice none 0 0) (.slice ca cl cc) (.slice (some ⟨w3.heap.size,0,none⟩) 1 1)).alloc (.cells (aJ p q o ca cl cc na p.ks.length nc) 50)).heap.size:=ae QG'
 have FIN:aT ts (eA S w) ((nt w3 (w.heap.size+2) (.int .i64 2) (.int .i64 0) (.int .i64 x.k) (.int .i64 x.v.1) (.int .i64 x.v.2.1) (.string x.v.2.2) (.int .i64 x.c) (.slice xa x.ks.length xc) (.slice none 0 0) (.slice none 0 0) (.slice none 0 0) (.slice ca cl cc) (.slice (some ⟨w3.heap.size,0,none⟩) 1 1)).alloc (.cells (aJ p q o ca cl cc na p.ks.length nc) 50)) (.agg #[.int .i64 2,.int .i64 0,.int .i64 x.k,.int .i64 x.v.1,.int .i64 x.v.2.1,.string x.v.2.2,.int .i64 x.c,.slice xa x.ks.length xc,.slice none 0 0,.slice none 0 0,.slice none 0 0,.slice ca cl cc,.slice (some ⟨w3.heap.size,0,none⟩) 1 1]) (.mk 2 0 x [] [] [p]):=by
  clear z0 zf0 z1 zf1 z2 zf2 z3 zf3 z4 zf4 z5 zf5 z6 zf6 z7 zf7 z8 zf8 z9 zf9 z10 zf10 z11 zf11 z12 zf12 x0 x1 x2 x3 x4 x5 n0 n1 n2 n3 n4 n5 n6 n7 n8 n9 n10 n11 n12 AP;unfold nt at AP3 ZS KP QG' LT
  generalize ((((((((((((((w3.setCell ⟨w.heap.size+2,0,none⟩ (.int .i64 2)).setCell ⟨w.heap.size+2,1,none⟩ (.int .i64 0)).setCell ⟨w.heap.size+2,2,none⟩ (.int .i64 x.k)).setCell ⟨w.heap.size+2,3,none⟩ (.int .i64 x.v.1)).setCell ⟨w.heap.size+2,4,none⟩ (.int .i64 x.v.2.1)).setCell ⟨w.heap.size+2,5,none⟩ (.string x.v.2.2)).setCell ⟨w.heap.size+2,6,none⟩ (.int .i64 x.c)).setCell ⟨w.heap.size+2,7,none⟩ (.slice xa x.ks.length xc)).setCell ⟨w.heap.size+2,8,none⟩ (.slice none 0 0)).setCell ⟨w.heap.size+2,9,none⟩ (.slice none 0 0)).setCell ⟨w.heap.size+2,10,none⟩ (.slice none 0 0)).setCell ⟨w.heap.size+2,11,none⟩ (.slice ca cl cc)).setCell ⟨w.heap.size+2,12,none⟩ (.slice (some ⟨w3.heap.size,0,none⟩) 1 1)).alloc (.cells (aJ p q o ca cl cc na p.ks.length nc) 50))=w5 at *
  have BX:=(HX.out.mono (S':=eA S w) fun b h _=>.inl h).next KP;have BP:=(HP.out.mono (S':=eA S w) fun b h _=>.inl h).next KP;refine ⟨⟨xa,xc,none,0,none,0,none,0⟩,0,ca,cc,some ⟨w3.heap.size,0,none⟩,1,?_,⟨BX,.nil _,.inl rfl,by rw [pM]; exact BP.af,?_⟩⟩
  ·unfold cH bL;rw [pM,HCL.out];rfl
  ·refine qp.of (by right; omega) LT fun i hi=>?_
   obtain rfl:i=0:=by simp [Pl.ks] at hi; omega
   refine ⟨q,o,ca,cc,na,nc,?_,BP⟩;have:=At.of (L:=bL ts p q o ca cc na nc) (by unfold bL; rw [HCL.out]; exact QG')
   simpa [Pl.ks] using this
 exact Hf (v:=.agg #[.int .i64 2,.int .i64 0,.int .i64 x.k,.int .i64 x.v.1,.int .i64 x.v.2.1,.string x.v.2.2,.int .i64 x.c,.slice xa x.ks.length xc,.slice none 0 0,.slice none 0 0,.slice none 0 0,.slice ca cl cc,.slice (some ⟨w3.heap.size,0,none⟩) 1 1]) (by simp [results,Tryz.results38,go_sem,L2,z0,z1,z2,z3,z4,z5,z6,z7,z8,z9,z10,z11,z12]) rfl ⟨_,rfl,FIN,AP⟩
theorem mA (ts:List (List Int)) (p:Pl) (y:Ex):aj ts (.mk p.k p.n y p.xs p.gs p.ks)=aj ts p:=by
 obtain ⟨k,n,x,xs,gs,ks⟩:=p;rw [aj,aj];rfl
def km (ts:List (List Int)) (x:Ex) (p:Pl):Pl:=if (ak (aj ts p) (gR 4 p.x x)).2=0 then .mk p.k p.n (gR 4 p.x x) p.xs p.gs p.ks else .mk 2 0 x [] [] [p]
theorem mW (ts:List (List Int)) (S:Nat→Prop) (x:Ex) (xa:Option Addr) (xc:Nat) (p:Pl) (q:Pw) (o:Nat) (ca:Option Addr) (cc:Nat) (na:Option Addr) (nc:Nat) (w:World) (hx:dD S w xa x.ks) (hp:fA ts S w p q ca na) :
  Calls Tryz.prog 34 #[iY x.k x.v x.c xa x.ks.length xc,cH ts p q o ca cc na nc] w fun e w'=>∃ v,e = .returned v∧aT ts (eA S w) w' v (km ts x p)∧Below w.heap.size w w':=by
 obtain ⟨cl,hcl⟩:∃ cl,(aj ts p).length=cl:=⟨_,rfl⟩
 have HCL:Hid ((aj ts p).length=cl):=hcl;unfold cH bL;rw [hcl];clear hcl;obtain ⟨rp,hrp⟩:∃ rp,km ts x p=rp:=⟨_,rfl⟩
 have HRP:Hid (km ts x p=rp):=hrp;rw [hrp];clear hrp;have A:Below w.heap.size w (((w.alloc (.cells (aW x xa xc) 27)).alloc (.cells (aJ p q o ca cl cc na p.ks.length nc) 50)).alloc (.cells aH 50)):=((((He w.heap.size w).alloc (Hd _) (.cells (aW x xa xc) 27)).alloc (by simp only [Hg]; omega) (.cells (aJ p q o ca cl cc na p.ks.length nc) 50)).alloc (by simp only [Hg]; omega) (.cells aH 50))
 have Z:w.heap.size+3≤(((w.alloc (.cells (aW x xa xc) 27)).alloc (.cells (aJ p q o ca cl cc na p.ks.length nc) 50)).alloc (.cells aH 50)).heap.size:=by simp only [Hg]; omega
 have Q0:(((w.alloc (.cells (aW x xa xc) 27)).alloc (.cells (aJ p q o ca cl cc na p.ks.length nc) 50)).alloc (.cells aH 50)).heap[w.heap.size]? = some (.cells (aW x xa xc) 27 (0,0)):=by
  rw [aD _ _ (by simp only [Hg]; omega),aD _ _ (by simp only [Hg]; omega)];exact aw w (aW x xa xc) 27 rfl
 have Q1:(((w.alloc (.cells (aW x xa xc) 27)).alloc (.cells (aJ p q o ca cl cc na p.ks.length nc) 50)).alloc (.cells aH 50)).heap[w.heap.size+1]? = some (.cells (aJ p q o ca cl cc na p.ks.length nc) 50 (0,0)):=by
  rw [aD _ _ (by simp only [Hg]; omega)];exact aw (w.alloc (.cells (aW x xa xc) 27)) (aJ p q o ca cl cc na p.ks.length nc) 50 (by simp only [Hg])
 have Q2:(((w.alloc (.cells (aW x xa xc) 27)).alloc (.cells (aJ p q o ca cl cc na p.ks.length nc) 50)).alloc (.cells aH 50)).heap[w.heap.size+2]? = some (.cells aH 50 (0,0)):=by
  exact aw ((w.alloc (.cells (aW x xa xc) 27)).alloc (.cells (aJ p q o ca cl cc na p.ks.length nc) 50)) aH 50 (by simp only [Hg])
 have HX:Hid (dD S w xa x.ks):=hx;have HP:Hid (fA ts S w p q ca na):=hp;clear hx hp;obtain ⟨te,hte⟩:∃ te,(ak (aj ts p) (gR 4 p.x x)).2=te:=⟨_,rfl⟩
 have HTE:Hid ((ak (aj ts p) (gR 4 p.x x)).2=te):=hte;clear hte;go_enter Tryz.func34,Tryz.ntmps34;go_upto_region 1 with fail
 generalize (((w.alloc (.cells (aW x xa xc) 27)).alloc (.cells (aJ p q o ca cl cc na p.ks.length nc) 50)).alloc (.cells aH 50))=w3 at *;obtain ⟨x0,x1,x2,x3,x4,x5⟩:=cU Q0;obtain ⟨n0,n1,n2,n3,n4,n5,n6,n7,n8,n9,n10,n11,n12⟩:=aB Q1
 have bA:Below w3.heap.size w3 ((w3.alloc (.cells #[.int .i64 p.x.k,.int .i64 p.x.v.1,.int .i64 p.x.v.2.1,.string p.x.v.2.2,.int .i64 p.x.c,.slice q.xa p.x.ks.length q.xc,.int .i64 x.k,.int .i64 x.v.1,.int .i64 x.v.2.1,.string x.v.2.2,.int .i64 x.c,.slice xa x.ks.length xc] 27)).alloc (.cells #[.int .i64 4,.int .i64 0,.int .i64 0,.string ⟨#[]⟩,.int .i64 0,.slice (some ⟨w3.heap.size,0,none⟩) 2 2] 27)):=(((He w3.heap.size w3).alloc (Hd _) (.cells #[.int .i64 p.x.k,.int .i64 p.x.v.1,.int .i64 p.x.v.2.1,.string p.x.v.2.2,.int .i64 p.x.c,.slice q.xa p.x.ks.length q.xc,.int .i64 x.k,.int .i64 x.v.1,.int .i64 x.v.2.1,.string x.v.2.2,.int .i64 x.c,.slice xa x.ks.length xc] 27)).alloc (by simp only [Hg]; omega) (.cells #[.int .i64 4,.int .i64 0,.int .i64 0,.string ⟨#[]⟩,.int .i64 0,.slice (some ⟨w3.heap.size,0,none⟩) 2 2] 27))
 have bZ:w3.heap.size+2≤((w3.alloc (.cells #[.int .i64 p.x.k,.int .i64 p.x.v.1,.int .i64 p.x.v.2.1,.string p.x.v.2.2,.int .i64 p.x.c,.slice q.xa p.x.ks.length q.xc,.int .i64 x.k,.int .i64 x.v.1,.int .i64 x.v.2.1,.string x.v.2.2,.int .i64 x.c,.slice xa x.ks.length xc] 27)).alloc (.cells #[.int .i64 4,.int .i64 0,.int .i64 0,.string ⟨#[]⟩,.int .i64 0,.slice (some ⟨w3.heap.size,0,none⟩) 2 2] 27)).heap.size:=by simp only [Hg]; omega
 have bQ0:((w3.alloc (.cells #[.int .i64 p.x.k,.int .i64 p.x.v.1,.int .i64 p.x.v.2.1,.string p.x.v.2.2,.int .i64 p.x.c,.slice q.xa p.x.ks.length q.xc,.int .i64 x.k,.int .i64 x.v.1,.int .i64 x.v.2.1,.string x.v.2.2,.int .i64 x.c,.slice xa x.ks.length xc] 27)).alloc (.cells #[.int .i64 4,.int .i64 0,.int .i64 0,.string ⟨#[]⟩,.int .i64 0,.slice (some ⟨w3.heap.size,0,none⟩) 2 2] 27)).heap[w3.heap.size]? = some (.cells #[.int .i64 p.x.k,.int .i64 p.x.v.1,.int .i64 p.x.v.2.1,.string p.x.v.2.2,.int .i64 p.x.c,.slice q.xa p.x.ks.length q.xc,.int .i64 x.k,.int .i64 x.v.1,.int .i64 x.v.2.1,.string x.v.2.2,.int .i64 x.c,.slice xa x.ks.length xc] 27 (0,0)):=by
  rw [aD _ _ (by simp only [Hg]; omega)];exact aw w3 #[.int .i64 p.x.k,.int .i64 p.x.v.1,.int .i64 p.x.v.2.1,.string p.x.v.2.2,.int .i64 p.x.c,.slice q.xa p.x.ks.length q.xc,.int .i64 x.k,.int .i64 x.v.1,.int .i64 x.v.2.1,.string x.v.2.2,.int .i64 x.c,.slice xa x.ks.length xc] 27 rfl
 have bQ1:((w3.alloc (.cells #[.int .i64 p.x.k,.int .i64 p.x.v.1,.int .i64 p.x.v.2.1,.string p.x.v.2.2,.int .i64 p.x.c,.slice q.xa p.x.ks.length q.xc,.int .i64 x.k,.int .i64 x.v.1,.int .i64 x.v.2.1,.string x.v.2.2,.int .i64 x.c,.slice xa x.ks.length xc] 27)).alloc (.cells #[.int .i64 4,.int .i64 0,.int .i64 0,.string ⟨#[]⟩,.int .i64 0,.slice (some ⟨w3.heap.size,0,none⟩) 2 2] 27)).heap[w3.heap.size+1]? = some (.cells #[.int .i64 4,.int .i64 0,.int .i64 0,.string ⟨#[]⟩,.int .i64 0,.slice (some ⟨w3.heap.size,0,none⟩) 2 2] 27 (0,0)):=by
  exact aw (w3.alloc (.cells #[.int .i64 p.x.k,.int .i64 p.x.v.1,.int .i64 p.x.v.2.1,.string p.x.v.2.2,.int .i64 p.x.c,.slice q.xa p.x.ks.length q.xc,.int .i64 x.k,.int .i64 x.v.1,.int .i64 x.v.2.1,.string x.v.2.2,.int .i64 x.c,.slice xa x.ks.length xc] 27)) #[.int .i64 4,.int .i64 0,.int .i64 0,.string ⟨#[]⟩,.int .i64 0,.slice (some ⟨w3.heap.size,0,none⟩) 2 2] 27 (by simp only [Hg])
 go_upto_region 2 with fail
 clear x0 x1 x2 x3 x4 x5 n0 n1 n2 n3 n4 n5 n6 n7 n8 n9 n10 n11 n12;generalize ((w3.alloc (.cells #[.int .i64 p.x.k,.int .i64 p.x.v.1,.int .i64 p.x.v.2.1,.string p.x.v.2.2,.int .i64 p.x.c,.slice q.xa p.x.ks.length q.xc,.int .i64 x.k,.int .i64 x.v.1,.int .i64 x.v.2.1,.string x.v.2.2,.int .i64 x.c,.slice xa x.ks.length xc] 27)).alloc (.cells #[.int .i64 4,.int .i64 0,.int .i64 0,.string ⟨#[]⟩,.int .i64 0,.slice (some ⟨w3.heap.size,0,none⟩) 2 2] 27))=w5 at *;have A5:=chain A bA;have Q05:=(bA.block _ (by omega)).trans Q0;have Q15:=(bA.block _ (by omega)).trans Q1
 have Q25:=(bA.block _ (by omega)).trans Q2;have Z5:w.heap.size+3≤w5.heap.size:=by omega
 have KB:dD (fun b=>Old S w b∨w.heap.size+3≤b) w5 (some ⟨w3.heap.size,0,none⟩) [p.x,x]:=by
  refine .some w3.heap.size 0 [p.x,x] (fun i=>if i=0 then q.xa else xa) (fun i=>if i=0 then q.xc else xc) (.inr Z) (ae bQ0) (fun i hi=>?_) (fun i hi=>?_)
  ·match i,hi with
   | 0,_=>exact ⟨cell_of (i:=0) bQ0 rfl,cell_of (i:=1) bQ0 rfl,cell_of (i:=2) bQ0 rfl,cell_of (i:=3) bQ0 rfl,cell_of (i:=4) bQ0 rfl,cell_of (i:=5) bQ0 rfl⟩
   | 1,_=>exact ⟨cell_of (i:=6) bQ0 rfl,cell_of (i:=7) bQ0 rfl,cell_of (i:=8) bQ0 rfl,cell_of (i:=9) bQ0 rfl,cell_of (i:=10) bQ0 rfl,cell_of (i:=11) bQ0 rfl⟩
  ·match i,hi with
   | 0,_=>exact (HP.out.x.mono (S':=fun b=>Old S w b∨w.heap.size+3≤b) fun b h l=>.inl ⟨h,l⟩).next (ah.of A5)
   | 1,_=>exact (HX.out.mono (S':=fun b=>Old S w b∨w.heap.size+3≤b) fun b h l=>.inl ⟨h,l⟩).next (ah.of A5)
 have con:=ln (aj ts p) (gR 4 p.x x) ca cc (some ⟨w3.heap.size,0,none⟩) 2 w5 KB.ks (HP.out.af.next (ah.of A5)).at;rw [HCL.out,HTE.out] at con;generalize (ak (aj ts p) (gR 4 p.x x)).1=ty at con;obtain ⟨b0,b1,b2,b3,b4,b5⟩:=cU bQ1;have n11:w5.cell? ⟨w.heap.size+1,11,none⟩=some (.slice ca cl cc):=cell_of (i:=11) Q15 rfl;go_wp2_with fail
 refine con.mono ?_;rintro e w6 ⟨rfl,hb6⟩;clear con b0 b1 b2 b3 b4 b5 n11;have A6:=chain A5 hb6;have Q06:=(hb6.block _ (by omega)).trans Q05;have Q16:=(hb6.block _ (by omega)).trans Q15;have Q26:=(hb6.block _ (by omega)).trans Q25;have QB6:=(hb6.block _ (ae bQ1)).trans bQ1;have Z6:w.heap.size+3≤w6.heap.size:=by have:=hb6.size; omega
 have lb:=ae bQ1;have lb6:=hb6.size;clear Q05 Q15 Q25 Q0 Q1 Q2 bQ0 bQ1;dsimp only;by_cases he:te=0
 ·have hb0:(te != 0)=false:=by simpa using he
  have hrp:rp = .mk p.k p.n (gR 4 p.x x) p.xs p.gs p.ks:=by rw [← HRP.out,km,HTE.out,if_pos he]
  subst hrp;clear HRP;obtain ⟨b0,b1,b2,b3,b4,b5⟩:=cU QB6;obtain ⟨n0,n1,n2,n3,n4,n5,n6,n7,n8,n9,n10,n11,n12⟩:=aB Q16;obtain ⟨nf0,nf1,nf2,nf3,nf4,nf5,nf6,nf7,nf8,nf9,nf10,nf11,nf12⟩:=cL Q16;obtain ⟨z0,z1,z2,z3,z4,z5,z6,z7,z8,z9,z10,z11,z12⟩:=aB Q26;obtain ⟨zf0,zf1,zf2,zf3,zf4,zf5,zf6,zf7,zf8,zf9,zf10,zf11,zf12⟩:=cL Q26;go_wp2_with fail
  have AP:Below w.heap.size w (((((((((((((((((((w6.setCell ⟨w.heap.size+1,2,none⟩ (.int .i64 4)).setCell ⟨w.heap.size+1,3,none⟩ (.int .i64 0)).setCell ⟨w.heap.size+1,4,none⟩ (.int .i64 0)).setCell ⟨w.heap.size+1,5,none⟩ (.string ⟨#[]⟩)).setCell ⟨w.heap.size+1,6,none⟩ (.int .i64 0)).setCell ⟨w.heap.size+1,7,none⟩ (.slice (some ⟨w3.heap.size,0,none⟩) 2 2)).setCell ⟨w.heap.size+2,0,none⟩ (.int .i64 p.k)).setCell ⟨w.heap.size+2,1,none⟩ (.int .i64 p.n)).setCell ⟨w.heap.size+2,2,none⟩ (.int .i64 4)).setCell ⟨w.heap.size+2,3,none⟩ (.int .i64 0)).setCell ⟨w.heap.size+2,4,none⟩ (.int .i64 0)).setCell ⟨w.heap.size+2,5,none⟩ (.string ⟨#[]⟩)).setCell ⟨w.heap.size+2,6,none⟩ (.int .i64 0)).setCell ⟨w.heap.size+2,7,none⟩ (.slice (some ⟨w3.heap.size,0,none⟩) 2 2)).setCell ⟨w.heap.size+2,8,none⟩ (.slice q.sa p.xs.length q.sc)).setCell ⟨w.heap.size+2,9,none⟩ (.slice q.ga p.gs.length q.gc)).setCell ⟨w.heap.size+2,10,none⟩ (.slice q.ka o q.kc)).setCell ⟨w.heap.size+2,11,none⟩ (.slice ca cl cc)).setCell ⟨w.heap.size+2,12,none⟩ (.slice na p.ks.length nc)):=(bf (g:=w.heap.size+2) (qf (g:=w.heap.size+1) A6 (Ir _ _) (.int .i64 4) (.int .i64 0) (.int .i64 0) (.string ⟨#[]⟩) (.int .i64 0) (.slice (some ⟨w3.heap.size,0,none⟩) 2 2)) (Ir _ _) (.int .i64 p.k) (.int .i64 p.n) (.int .i64 4) (.int .i64 0) (.int .i64 0) (.string ⟨#[]⟩) (.int .i64 0) (.slice (some ⟨w3.heap.size,0,none⟩) 2 2) (.slice q.sa p.xs.length q.sc) (.slice q.ga p.gs.length q.gc) (.slice q.ka o q.kc) (.slice ca cl cc) (.slice na p.ks.length nc))
  have KP5:ah (fun b=>Old S w b∨w.heap.size+3≤b) w5 (((((((((((((((((((w6.setCell ⟨w.heap.size+1,2,none⟩ (.int .i64 4)).setCell ⟨w.heap.size+1,3,none⟩ (.int .i64 0)).setCell ⟨w.heap.size+1,4,none⟩ (.int .i64 0)).setCell ⟨w.heap.size+1,5,none⟩ (.string ⟨#[]⟩)).setCell ⟨w.heap.size+1,6,none⟩ (.int .i64 0)).setCell ⟨w.heap.size+1,7,none⟩ (.slice (some ⟨w3.heap.size,0,none⟩) 2 2)).setCell ⟨w.heap.size+2,0,none⟩ (.int .i64 p.k)).setCell ⟨w.heap.size+2,1,none⟩ (.int .i64 p.n)).setCell ⟨w.heap.size+2,2,none⟩ (.int .i64 4)).setCell ⟨w.heap.size+2,3,none⟩ (.int .i64 0)).setCell ⟨w.heap.size+2,4,none⟩ (.int .i64 0)).setCell ⟨w.heap.size+2,5,none⟩ (.string ⟨#[]⟩)).setCell ⟨w.heap.size+2,6,none⟩ (.int .i64 0)).setCell ⟨w.heap.size+2,7,none⟩ (.slice (some ⟨w3.heap.size,0,none⟩) 2 2)).setCell ⟨w.heap.size+2,8,none⟩ (.slice q.sa p.xs.length q.sc)).setCell ⟨w.heap.size+2,9,none⟩ (.slice q.ga p.gs.length q.gc)).setCell ⟨w.heap.size+2,10,none⟩ (.slice q.ka o q.kc)).setCell ⟨w.heap.size+2,11,none⟩ (.slice ca cl cc)).setCell ⟨w.heap.size+2,12,none⟩ (.slice na p.ks.length nc)):=(bC (g:=w.heap.size+2) (qe (g:=w.heap.size+1) (ah.of hb6) (cD (by omega) (by omega)) (.int .i64 4) (.int .i64 0) (.int .i64 0) (.string ⟨#[]⟩) (.int .i64 0) (.slice (some ⟨w3.heap.size,0,none⟩) 2 2)) (cD (by omega) (by omega)) (.int .i64 p.k) (.int .i64 p.n) (.int .i64 4) (.int .i64 0) (.int .i64 0) (.string ⟨#[]⟩) (.int .i64 0) (.slice (some ⟨w3.heap.size,0,none⟩) 2 2) (.slice q.sa p.xs.length q.sc) (.slice q.ga p.gs.length q.gc) (.slice q.ka o q.kc) (.slice ca cl cc) (.slice na p.ks.length nc))
  have QE:(((((((((((((((((((w6.setCell ⟨w.heap.size+1,2,none⟩ (.int .i64 4)).setCell ⟨w.heap.size+1,3,none⟩ (.int .i64 0)).setCell ⟨w.heap.size+1,4,none⟩ (.int .i64 0)).setCell ⟨w.heap.size+1,5,none⟩ (.string ⟨#[]⟩)).setCell ⟨w.heap.size+1,6,none⟩ (.int .i64 0)).setCell ⟨w.heap.size+1,7,none⟩ (.slice (some ⟨w3.heap.size,0,none⟩) 2 2)).setCell ⟨w.heap.size+2,0,none⟩ (.int .i64 p.k)).setCell ⟨w.heap.size+2,1,none⟩ (.int .i64 p.n)).setCell ⟨w.heap.size+2,2,none⟩ (.int .i64 4)).setCell ⟨w.heap.size+2,3,none⟩ (.int .i64 0)).setCell ⟨w.heap.size+2,4,none⟩ (.int .i64 0)).setCell ⟨w.heap.size+2,5,none⟩ (.string ⟨#[]⟩)).setCell ⟨w.heap.size+2,6,none⟩ (.int .i64 0)).setCell ⟨w.heap.size+2,7,none⟩ (.slice (some ⟨w3.heap.size,0,none⟩) 2 2)).setCell ⟨w.heap.size+2,8,none⟩ (.slice q.sa p.xs.length q.sc)).setCell ⟨w.heap.size+2,9,none⟩ (.slice q.ga p.gs.length q.gc)).setCell ⟨w.heap.size+2,10,none⟩ (.slice q.ka o q.kc)).setCell ⟨w.heap.size+2,11,none⟩ (.slice ca cl cc)).setCell ⟨w.heap.size+2,12,none⟩ (.slice na p.ks.length nc)).heap[w.heap.size+2]? = some (.cells #[.int .i64 p.k,.int .i64 p.n,.int .i64 4,.int .i64 0,.int .i64 0,.string ⟨#[]⟩,.int .i64 0,.slice (some ⟨w3.heap.size,0,none⟩) 2 2,.slice q.sa p.xs.length q.sc,.slice q.ga p.gs.length q.gc,.slice q.ka o q.kc,.slice ca cl cc,.slice na p.ks.length nc] 50 (0,0)):=(bw (g:=w.heap.size+2) (qW (g:=w.heap.size+1) Q26 (by omega) (.int .i64 4) (.int .i64 0) (.int .i64 0) (.string ⟨#[]⟩) (.int .i64 0) (.slice (some ⟨w3.heap.size,0,none⟩) 2 2)) (.int .i64 p.k) (.int .i64 p.n) (.int .i64 4) (.int .i64 0) (.int .i64 0) (.string ⟨#[]⟩) (.int .i64 0) (.slice (some ⟨w3.heap.size,0,none⟩) 2 2) (.slice q.sa p.xs.length q.sc) (.slice q.ga p.gs.length q.gc) (.slice q.ka o q.kc) (.slice ca cl cc) (.slice na p.ks.length nc))
  clear z0 zf0 z1 zf1 z2 zf2 z3 zf3 z4 zf4 z5 zf5 z6 zf6 z7 zf7 z8 zf8 z9 zf9 z10 zf10 z11 zf11 z12 zf12 b0 b1 b2 b3 b4 b5 n0 nf0 n1 nf1 n2 nf2 n3 nf3 n4 nf4 n5 nf5 n6 nf6 n7 nf7 n8 nf8 n9 nf9 n10 nf10 n11 nf11 n12 nf12
  generalize (((((((((((((((((((w6.setCell ⟨w.heap.size+1,2,none⟩ (.int .i64 4)).setCell ⟨w.heap.size+1,3,none⟩ (.int .i64 0)).setCell ⟨w.heap.size+1,4,none⟩ (.int .i64 0)).setCell ⟨w.heap.size+1,5,none⟩ (.string ⟨#[]⟩)).setCell ⟨w.heap.size+1,6,none⟩ (.int .i64 0)).setCell ⟨w.heap.size+1,7,none⟩ (.slice (some ⟨w3.heap.size,0,none⟩) 2 2)).setCell ⟨w.heap.size+2,0,none⟩ (.int .i64 p.k)).setCell ⟨w.heap.size+2,1,none⟩ (.int .i64 p.n)).setCell ⟨w.heap.size+2,2,none⟩ (.int .i64 4)).setCell ⟨w.heap.size+2,3,none⟩ (.int .i64 0)).setCell ⟨w.heap.size+2,4,none⟩ (.int .i64 0)).setCell ⟨w.heap.size+2,5,none⟩ (.string ⟨#[]⟩)).setCell ⟨w.heap.size+2,6,none⟩ (.int .i64 0)).setCell ⟨w.heap.size+2,7,none⟩ (.slice (some ⟨w3.heap.size,0,none⟩) 2 2)).setCell ⟨w.heap.size+2,8,none⟩ (.slice q.sa p.xs.length q.sc)).setCell ⟨w.heap.size+2,9,none⟩ (.slice q.ga p.gs.length q.gc)).setCell ⟨w.heap.size+2,10,none⟩ (.slice q.ka o q.kc)).setCell ⟨w.heap.size+2,11,none⟩ (.slice ca cl cc)).setCell ⟨w.heap.size+2,12,none⟩ (.slice na p.ks.length nc))=w8 at *
  have FIN:aT ts (eA S w) w8 (.agg #[.int .i64 p.k,.int .i64 p.n,.int .i64 4,.int .i64 0,.int .i64 0,.string ⟨#[]⟩,.int .i64 0,.slice (some ⟨w3.heap.size,0,none⟩) 2 2,.slice q.sa p.xs.length q.sc,.slice q.ga p.gs.length q.gc,.slice q.ka o q.kc,.slice ca cl cc,.slice na p.ks.length nc]) (.mk p.k p.n (gR 4 p.x x) p.xs p.gs p.ks):=by
   have BP:=(HP.out.mono (S':=eA S w) fun b h _=>.inl h).next (ah.of AP);have KB8:dD (eA S w) w8 (some ⟨w3.heap.size,0,none⟩) [p.x,x]:=(KB.next KP5).mono fun b h _=>by
    rcases h with h | h
    ·exact .inl h.1
    ·exact .inr (by omega)
   refine ⟨⟨some ⟨w3.heap.size,0,none⟩,2,q.sa,q.sc,q.ga,q.gc,q.ka,q.kc⟩,o,ca,cc,na,nc,?_,⟨KB8,BP.xs,BP.gs,by rw [mA]; exact BP.af,BP.kids⟩⟩;unfold cH bL;rw [mA,HCL.out];rfl
  obtain ⟨r0,r1,r2,r3,r4,r5,r6,r7,r8,r9,r10,r11,r12⟩:=aB QE;exact Hf (v:=.agg #[.int .i64 p.k,.int .i64 p.n,.int .i64 4,.int .i64 0,.int .i64 0,.string ⟨#[]⟩,.int .i64 0,.slice (some ⟨w3.heap.size,0,none⟩) 2 2,.slice q.sa p.xs.length q.sc,.slice q.ga p.gs.length q.gc,.slice q.ka o q.kc,.slice ca cl cc,.slice na p.ks.length nc]) (by simp [results,Tryz.results34,go_sem,r0,r1,r2,r3,r4,r5,r6,r7,r8,r9,r10,r11,r12]) rfl ⟨_,rfl,FIN,AP⟩
 ·have hb0:(te != 0)=true:=by simpa using he
  have hrp:rp = .mk 2 0 x [] [] [p]:=by rw [← HRP.out,km,HTE.out,if_neg he]
  clear HRP;have HRP:Hid (.mk 2 0 x [] [] [p]=rp):=hrp.symm;clear hrp;have con:=mS ts (Old S w) x xa xc p q o ca cc na nc w6 ((HX.out.mono fun b h l=>⟨h,l⟩).next (ah.of A6)) ((HP.out.mono fun b h l=>⟨h,l⟩).next (ah.of A6));unfold cH bL at con;rw [HCL.out] at con;obtain ⟨x0,x1,x2,x3,x4,x5⟩:=cU Q06;obtain ⟨n0,n1,n2,n3,n4,n5,n6,n7,n8,n9,n10,n11,n12⟩:=aB Q16;go_wp2_with fail
  refine con.mono ?_;clear x0 x1 x2 x3 x4 x5 n0 n1 n2 n3 n4 n5 n6 n7 n8 n9 n10 n11 n12;rintro e w7 ⟨v7,rfl,N7,hb7⟩;clear con;have A7:=chain A6 hb7;have QR7:=(hb7.block _ (ae Q26)).trans Q26;have lr6:=ae Q26;obtain ⟨q2,o2,ca2,cc2,na2,nc2,rfl,B7⟩:=N7;generalize hF:Pl.mk 2 0 x [] [] [p]=F at *;obtain ⟨cl2,hcl2⟩:∃ cl2,(aj ts F).length=cl2:=⟨_,rfl⟩
  have HCL2:Hid ((aj ts F).length=cl2):=hcl2;unfold cH bL;rw [hcl2];clear hcl2 hF;obtain ⟨y0,y1,y2,y3,y4,y5,y6,y7,y8,y9,y10,y11,y12⟩:=aB QR7;obtain ⟨yf0,yf1,yf2,yf3,yf4,yf5,yf6,yf7,yf8,yf9,yf10,yf11,yf12⟩:=cL QR7;go_wp2_with fail
  have AP:Below w.heap.size w (df w7 (w.heap.size+2) F q2 o2 ca2 cl2 cc2 na2 F.ks.length nc2):=(bf (g:=w.heap.size+2) A7 (by omega) (.int .i64 F.k) (.int .i64 F.n) (.int .i64 F.x.k) (.int .i64 F.x.v.1) (.int .i64 F.x.v.2.1) (.string F.x.v.2.2) (.int .i64 F.x.c) (.slice q2.xa F.x.ks.length q2.xc) (.slice q2.sa F.xs.length q2.sc) (.slice q2.ga F.gs.length q2.gc) (.slice q2.ka o2 q2.kc) (.slice ca2 cl2 cc2) (.slice na2 F.ks.length nc2))
  have KP:ah (eA (Old S w) w6) w7 (df w7 (w.heap.size+2) F q2 o2 ca2 cl2 cc2 na2 F.ks.length nc2):=(bC (g:=w.heap.size+2) (ah.refl _ w7) (cD (by omega) (by omega)) (.int .i64 F.k) (.int .i64 F.n) (.int .i64 F.x.k) (.int .i64 F.x.v.1) (.int .i64 F.x.v.2.1) (.string F.x.v.2.2) (.int .i64 F.x.c) (.slice q2.xa F.x.ks.length q2.xc) (.slice q2.sa F.xs.length q2.sc) (.slice q2.ga F.gs.length q2.gc) (.slice q2.ka o2 q2.kc) (.slice ca2 cl2 cc2) (.slice na2 F.ks.length nc2))
  have QE:(df w7 (w.heap.size+2) F q2 o2 ca2 cl2 cc2 na2 F.ks.length nc2).heap[w.heap.size+2]? = some (.cells (aJ F q2 o2 ca2 cl2 cc2 na2 F.ks.length nc2) 50 (0,0)):=(bw (g:=w.heap.size+2) QR7 (.int .i64 F.k) (.int .i64 F.n) (.int .i64 F.x.k) (.int .i64 F.x.v.1) (.int .i64 F.x.v.2.1) (.string F.x.v.2.2) (.int .i64 F.x.c) (.slice q2.xa F.x.ks.length q2.xc) (.slice q2.sa F.xs.length q2.sc) (.slice q2.ga F.gs.length q2.gc) (.slice q2.ka o2 q2.kc) (.slice ca2 cl2 cc2) (.slice na2 F.ks.length nc2))
  clear y0 yf0 y1 yf1 y2 yf2 y3 yf3 y4 yf4 y5 yf5 y6 yf6 y7 yf7 y8 yf8 y9 yf9 y10 yf10 y11 yf11 y12 yf12;unfold df at AP KP QE
  generalize (((((((((((((w7.setCell ⟨w.heap.size+2,0,none⟩ (.int .i64 F.k)).setCell ⟨w.heap.size+2,1,none⟩ (.int .i64 F.n)).setCell ⟨w.heap.size+2,2,none⟩ (.int .i64 F.x.k)).setCell ⟨w.heap.size+2,3,none⟩ (.int .i64 F.x.v.1)).setCell ⟨w.heap.size+2,4,none⟩ (.int .i64 F.x.v.2.1)).setCell ⟨w.heap.size+2,5,none⟩ (.string F.x.v.2.2)).setCell ⟨w.heap.size+2,6,none⟩ (.int .i64 F.x.c)).setCell ⟨w.heap.size+2,7,none⟩ (.slice q2.xa F.x.ks.length q2.xc)).setCell ⟨w.heap.size+2,8,none⟩ (.slice q2.sa F.xs.length q2.sc)).setCell ⟨w.heap.size+2,9,none⟩ (.slice q2.ga F.gs.length q2.gc)).setCell ⟨w.heap.size+2,10,none⟩ (.slice q2.ka o2 q2.kc)).setCell ⟨w.heap.size+2,11,none⟩ (.slice ca2 cl2 cc2)).setCell ⟨w.heap.size+2,12,none⟩ (.slice na2 F.ks.length nc2))=w8 at *
  have FIN:aT ts (eA S w) w8 (.agg (aJ F q2 o2 ca2 cl2 cc2 na2 F.ks.length nc2)) F:=by
   refine ⟨q2,o2,ca2,cc2,na2,nc2,by unfold cH bL; rw [HCL2.out],(B7.next KP).mono fun b h _=>?_⟩;rcases h with h | h
   ·exact .inl h.1
   ·exact .inr (by have:=A6.size; omega)
  obtain ⟨r0,r1,r2,r3,r4,r5,r6,r7,r8,r9,r10,r11,r12⟩:=aB QE;exact Hf (v:=.agg (aJ F q2 o2 ca2 cl2 cc2 na2 F.ks.length nc2)) (by simp [results,Tryz.results34,go_sem,r0,r1,r2,r3,r4,r5,r6,r7,r8,r9,r10,r11,r12]) rfl ⟨_,rfl,by rw [← HRP.out]; exact FIN,AP⟩
def GK (ts:List (List Int)) (u:Value) (F:Pl→Pl) (l:List Pl) (S:Nat→Prop) (w:World):Prop :=
 ∃ g cb,u = .func (.func g) #[] cb∧(∀ args w,(callFunc g args).run Tryz.prog w = .ok (.enter g args) w) ∧
  ∀ r ∈ l,∀ (q:Pw) (o:Nat) (ca:Option Addr) (cc:Nat) (na:Option Addr) (nc:Nat) (W:World),Below w.heap.size w W→fA ts S W r q ca na →
   Calls Tryz.prog g (#[cH ts r q o ca cc na nc] ++ cb) W fun e w'=>∃ v,e = .returned v∧aT ts (eA S W) w' v (F r)∧Below W.heap.size W w'
theorem CT {n:Nat} (h:n≤2) (w:World):(Instr.makeSlice 48 (.int .i64 n) (.int .i64 n)).run Tryz.prog w = .ok (.slice (some ⟨w.heap.size,0,none⟩) n n) (w.alloc (.cells (fX n) 50)):=by
 obtain rfl | rfl | rfl:n=0∨n=1∨n=2:=by omega
 all_goals kernel_rfl
structure iI (ts:List (List Int)) (S:Nat→Prop) (g:Nat) (W:World) (l:List Pl) (j:Nat):Prop where
 lt:g<W.heap.size
 no:¬ S g
 room:∀ o,o<l.length*13→∃ u,W.cell? ⟨g,o,none⟩=some u
 fz:∀ o,W.frozen? ⟨g,o,none⟩=false
 laid:∀ (i:Nat) (h:i<l.length),i<j→∃ q o ca cc na nc,At W g (i*13) (bL ts l[i] q o ca cc na nc)∧fA ts S W l[i] q ca na
theorem iI.new (ts:List (List Int)) {S:Nat→Prop} (w:World) (l:List Pl) {n:Nat} (hn:l.length=n) (hS:¬ S w.heap.size) (T:TypeId):iI ts S w.heap.size (w.alloc (.cells (fX n) T)) l 0:=by
 subst hn;have q:=an w (fX l.length) T;refine ⟨ae q,hS,fun o ho=>?_,fun o=>Hh _ w.heap.size o _ _ q,fun i _ h=>absurd h (Iu _)⟩;have hs:o<(fX l.length).size:=by rw [nN]; exact ho
 exact ⟨(fX l.length)[o],cell_of (i:=o) q (by rw [IP hs])⟩
theorem iI.next {ts:List (List Int)} {S:Nat→Prop} {g:Nat} {W w1:World} {l:List Pl} {j:Nat} (h:iI ts S g W l j) (hb:Below W.heap.size W w1):iI ts S g w1 l j :=
 ⟨Hi h.lt hb.size,h.no,fun o ho=>(h.room o ho).imp fun _ hu=>(hb.cell (p:=⟨g,o,none⟩) h.lt).trans hu,fun o=>(hb.frozen (p:=⟨g,o,none⟩) h.lt).trans (h.fz o),fun i hi hj=>by
  obtain ⟨q,o,ca,cc,na,nc,h1,h2⟩:=h.laid i hi hj
  exact ⟨q,o,ca,cc,na,nc,fun k u hk=>(hb.cell (p:=⟨g,_,none⟩) h.lt).trans (h1 k u hk),h2.next (ah.of hb)⟩⟩
theorem iI.store {ts:List (List Int)} {S:Nat→Prop} {g:Nat} {W:World} {l:List Pl} {j:Nat} (h:iI ts S g W l j) (hj:j<l.length) {q:Pw} {o:Nat} {ca:Option Addr} {cc:Nat} {na:Option Addr} {nc:Nat} (hn:fA ts S W l[j] q ca na) :
  iI ts S g (bH W g (j*13) (bL ts l[j] q o ca cc na nc)) l (j+1):=by
 have hK:=iT g h.no (bL ts l[j] q o ca cc na nc) W (j*13) (ah.refl S W);have hr:∀ k,k<(bL ts l[j] q o ca cc na nc).length→∃ u,W.cell? ⟨g,j*13+k,none⟩=some u:=fun k hk=>h.room _ (by
  have:k<13:=hk;have:(j+1)*13≤l.length*13:=Iw 13 hj;omega)
 have hs:∀ (i:Nat) (hi:i<13),(bH W g (j*13) (bL ts l[j] q o ca cc na nc)).cell? ⟨g,j*13+i,none⟩=some ((bL ts l[j] q o ca cc na nc)[i]'hi):=fun i hi=>hY g (bL ts l[j] q o ca cc na nc) W (j*13) i hi hr
 have ho:∀ x,(x<j*13∨j*13+13≤x)→(bH W g (j*13) (bL ts l[j] q o ca cc na nc)).cell? ⟨g,x,none⟩=W.cell? ⟨g,x,none⟩:=fun x h=>cR g _ W _ _ _ (.inr h)
 refine ⟨by rw [fO]; exact h.lt,h.no,fun x hl=>?_,fun x=>by rw [iN]; exact h.fz x,fun i hi hij=>?_⟩
 ·by_cases c:x<j*13∨j*13+13≤x
  ·rw [ho x c]; exact h.room x hl
  ·have:=hs (x - j*13) (by omega);rw [show j*13+(x - j*13)=x by omega] at this;exact ⟨_,this⟩
 ·by_cases e:i=j
  ·subst e;refine ⟨q,o,ca,cc,na,nc,fun k u hk=>?_,hn.next hK⟩;have hk':k<13:=by
    rcases Ic k 13 with h | h
    ·exact h
    ·rw [Is (by simpa [bL] using h)] at hk; cases hk
   rw [hs k hk',← hk];exact (H4 _).symm
  ·obtain ⟨q',o',ca',cc',na',nc',e0,e1⟩:=h.laid i hi (by omega);have hlt:i*13+13≤j*13:=by
    have:(i+1)*13≤j*13:=Iw 13 (by omega);omega
   refine ⟨q',o',ca',cc',na',nc',fun k u hk=>?_,e1.next hK⟩;have hk':k<13:=by
    rcases Ic k 13 with h | h
    ·exact h
    ·rw [Is (by simpa [bL] using h)] at hk; cases hk
   exact (ho _ (by omega)).trans (e0 k u hk)
theorem iI.GF {ts:List (List Int)} {S S':Nat→Prop} {g:Nat} {W:World} {l:List Pl} (h:iI ts S g W l l.length) (hS:∀ b,S b→S' b) (hg:S' g):qp ts S' W (some ⟨g,0,none⟩) l :=
 qp.of hg h.lt fun i hi=>by
  obtain ⟨q,o,ca,cc,na,nc,h1,h2⟩:=h.laid i hi hi
  exact ⟨q,o,ca,cc,na,nc,by rw [Hu]; exact h1,h2.mono fun b h _=>hS b h⟩
theorem pR (ts:List (List Int)) (S:Nat→Prop) (F:Pl→Pl) (u:Value) (p:Pl) (q:Pw) (o:Nat) (ca:Option Addr) (cc:Nat) (na:Option Addr) (nc:Nat) (w:World) (hu:GK ts u F p.ks (Old S w) w) (hp:fA ts S w p q ca na) (h2:p.ks.length≤2) (hc:aj ts (.mk p.k p.n p.x p.xs p.gs (p.ks.map F))=aj ts p) :
  Calls Tryz.prog 20 #[cH ts p q o ca cc na nc,u] w fun e w'=>∃ v,e = .returned v∧aT ts (eA S w) w' v (.mk p.k p.n p.x p.xs p.gs (p.ks.map F))∧Below w.heap.size w w':=by
 obtain ⟨cl,hcl⟩:∃ cl,(aj ts p).length=cl:=⟨_,rfl⟩
 obtain ⟨kl,hkl⟩:∃ kl,p.ks.length=kl:=⟨_,rfl⟩
 have HCL:Hid ((aj ts p).length=cl):=hcl;have HKL:Hid (p.ks.length=kl):=hkl;have HC:Hid (aj ts (.mk p.k p.n p.x p.xs p.gs (p.ks.map F))=aj ts p):=hc;unfold cH bL;rw [hcl,hkl];rw [hkl] at h2;clear hcl hkl hc;have A:Below w.heap.size w ((w.alloc (.cells (aJ p q o ca cl cc na kl nc) 50)).alloc (.cells aH 50)):=(((He w.heap.size w).alloc (Hd _) (.cells (aJ p q o ca cl cc na kl nc) 50)).alloc (by simp only [Hg]; omega) (.cells aH 50))
 have Z:w.heap.size+2≤((w.alloc (.cells (aJ p q o ca cl cc na kl nc) 50)).alloc (.cells aH 50)).heap.size:=by simp only [Hg]; omega
 have Q0:((w.alloc (.cells (aJ p q o ca cl cc na kl nc) 50)).alloc (.cells aH 50)).heap[w.heap.size]? = some (.cells (aJ p q o ca cl cc na kl nc) 50 (0,0)):=by
  rw [aD _ _ (by simp only [Hg]; omega)];exact aw w (aJ p q o ca cl cc na kl nc) 50 rfl
 have Q1:((w.alloc (.cells (aJ p q o ca cl cc na kl nc) 50)).alloc (.cells aH 50)).heap[w.heap.size+1]? = some (.cells aH 50 (0,0)):=by
  exact aw (w.alloc (.cells (aJ p q o ca cl cc na kl nc) 50)) aH 50 (by simp only [Hg])
 have HP:Hid (fA ts S w p q ca na):=hp;obtain ⟨g',cb,rfl,eg,hd⟩:=hu;have HD:Hid (∀ r ∈ p.ks,∀ (q:Pw) (o:Nat) (ca:Option Addr) (cc:Nat) (na:Option Addr) (nc:Nat) (W:World),Below w.heap.size w W→fA ts (Old S w) W r q ca na →
   Calls Tryz.prog g' (#[cH ts r q o ca cc na nc] ++ cb) W fun e w'=>∃ v,e = .returned v∧aT ts (eA (Old S w) W) w' v (F r)∧Below W.heap.size W w'):=hd
 clear hp hd;go_enter Tryz.func20,Tryz.ntmps20;go_upto_region 1 with fail
 generalize ((w.alloc (.cells (aJ p q o ca cl cc na kl nc) 50)).alloc (.cells aH 50))=w2 at *;have hmk:=CT h2 w2;have RT:=iI.new ts (S:=fun b=>Old S w b∨w2.heap.size<b) w2 (p.ks.map F) (n:=kl) (by rw [Ik]; exact HKL.out) (cD (by omega) (by omega)) 50;have al:=aa w2 (.cells (fX kl) 50);have n12:w2.cell? ⟨w.heap.size,12,none⟩=some (.slice na kl nc):=cell_of (i:=12) Q0 rfl;go_upto_region 2 with fail
 clear n12 hmk;generalize w2.alloc (.cells (fX kl) 50)=w3 at *;have A3:=chain A al;have Q03:=(al.block _ (by omega)).trans Q0;have Q13:=(al.block _ (by omega)).trans Q1;have g3:=RT.lt;have gw:w.heap.size+2≤w2.heap.size:=Z;clear Q0 Q1 Z A al;generalize w2.heap.size=g at *;have n12:w3.cell? ⟨w.heap.size,12,none⟩=some (.slice na kl nc):=cell_of (i:=12) Q03 rfl;go_wp2_with fail
 clear n12;go_loopw [15] (fun i wr=>∃ j:Nat,j≤kl∧i = .int .i64 j∧iI ts (fun b=>Old S w b∨g<b) g wr (p.ks.map F) j∧wr.heap[w.heap.size]? = some (.cells (aJ p q o ca cl cc na kl nc) 50 (0,0))∧wr.heap[w.heap.size+1]? = some (.cells aH 50 (0,0))∧Below w.heap.size w wr) (fun i _=>kl - (intOf i).toNat)
 case atStart=>exact ⟨0,Hl _,rfl,RT,Q03,Q13,A3⟩
 case round =>
  clear RT Q03 Q13 A3 g3;obtain ⟨j,hj,rfl,RT,Q0,Q1,hb⟩:=hrel;have gl:=RT.lt;by_cases hlt:j<kl
  ·have hlt':j<p.ks.length:=by rw [HKL.out]; exact hlt
   obtain ⟨b,off,q1,o1,ca1,cc1,na1,nc1,rfl,hSb,hbl,hAt,hB⟩:=((HP.out.kids.mono (S':=Old S w) fun b h l=>⟨h,l⟩).next (ah.of hb)).elem hlt';obtain ⟨cl1,hcl1⟩:∃ cl1,(aj ts p.ks[j]).length=cl1:=⟨_,rfl⟩
   have HCL1:Hid ((aj ts p.ks[j]).length=cl1):=hcl1;unfold bL at hAt;rw [hcl1] at hAt;clear hcl1;have e0:wr.cell? ⟨b,off+j*13,none⟩=some (.int .i64 p.ks[j].k):=hAt 0 _ rfl;have e1:wr.cell? ⟨b,off+j*13+1,none⟩=some (.int .i64 p.ks[j].n):=hAt 1 _ rfl;have e2:wr.cell? ⟨b,off+j*13+2,none⟩=some (.int .i64 p.ks[j].x.k):=hAt 2 _ rfl;have e3:wr.cell? ⟨b,off+j*13+3,none⟩=some (.int .i64 p.ks[j].x.v.1):=hAt 3 _ rfl;have e4:wr.cell? ⟨b,off+j*13+4,none⟩=some (.int .i64 p.ks[j].x.v.2.1):=hAt 4 _ rfl;have e5:wr.cell? ⟨b,off+j*13+5,none⟩=some (.string p.ks[j].x.v.2.2):=hAt 5 _ rfl
   have e6:wr.cell? ⟨b,off+j*13+6,none⟩=some (.int .i64 p.ks[j].x.c):=hAt 6 _ rfl;have e7:wr.cell? ⟨b,off+j*13+7,none⟩=some (.slice q1.xa p.ks[j].x.ks.length q1.xc):=hAt 7 _ rfl;have e8:wr.cell? ⟨b,off+j*13+8,none⟩=some (.slice q1.sa p.ks[j].xs.length q1.sc):=hAt 8 _ rfl;have e9:wr.cell? ⟨b,off+j*13+9,none⟩=some (.slice q1.ga p.ks[j].gs.length q1.gc):=hAt 9 _ rfl;have e10:wr.cell? ⟨b,off+j*13+10,none⟩=some (.slice q1.ka o1 q1.kc):=hAt 10 _ rfl;have e11:wr.cell? ⟨b,off+j*13+11,none⟩=some (.slice ca1 cl1 cc1):=hAt 11 _ rfl
   have e12:wr.cell? ⟨b,off+j*13+12,none⟩=some (.slice na1 p.ks[j].ks.length nc1):=hAt 12 _ rfl;have hjz:(j:Int)<(kl:Int):=by omega
   have hal:=aa wr (.cells #[.int .i64 p.ks[j].k,.int .i64 p.ks[j].n,.int .i64 p.ks[j].x.k,.int .i64 p.ks[j].x.v.1,.int .i64 p.ks[j].x.v.2.1,.string p.ks[j].x.v.2.2,.int .i64 p.ks[j].x.c,.slice q1.xa p.ks[j].x.ks.length q1.xc,.slice q1.sa p.ks[j].xs.length q1.sc,.slice q1.ga p.ks[j].gs.length q1.gc,.slice q1.ka o1 q1.kc,.slice ca1 cl1 cc1,.slice na1 p.ks[j].ks.length nc1] 50)
   have qk:=an wr #[.int .i64 p.ks[j].k,.int .i64 p.ks[j].n,.int .i64 p.ks[j].x.k,.int .i64 p.ks[j].x.v.1,.int .i64 p.ks[j].x.v.2.1,.string p.ks[j].x.v.2.2,.int .i64 p.ks[j].x.c,.slice q1.xa p.ks[j].x.ks.length q1.xc,.slice q1.sa p.ks[j].xs.length q1.sc,.slice q1.ga p.ks[j].gs.length q1.gc,.slice q1.ka o1 q1.kc,.slice ca1 cl1 cc1,.slice na1 p.ks[j].ks.length nc1] 50;have HB:Hid (fA ts (Old S w) wr p.ks[j] q1 ca1 na1):=hB;have hm:=Hm hlt';have HM:Hid (p.ks[j] ∈ p.ks):=hm;clear hAt hB hm;go_upto_region 5 with fail
   clear e0 e1 e2 e3 e4 e5 e6 e7 e8 e9 e10 e11 e12;have Q0a:=(hal.block _ (ae Q0)).trans Q0;have Q1a:=(hal.block _ (ae Q1)).trans Q1;have RTa:=RT.next hal;have hba:=chain hb hal;have con:=HD.out p.ks[j] HM.out q1 o1 ca1 cc1 na1 nc1 _ hba (HB.out.next (ah.of hal));unfold cH bL at con;rw [HCL1.out] at con;have za:=hal.size
   generalize wr.alloc (.cells #[.int .i64 p.ks[j].k,.int .i64 p.ks[j].n,.int .i64 p.ks[j].x.k,.int .i64 p.ks[j].x.v.1,.int .i64 p.ks[j].x.v.2.1,.string p.ks[j].x.v.2.2,.int .i64 p.ks[j].x.c,.slice q1.xa p.ks[j].x.ks.length q1.xc,.slice q1.sa p.ks[j].xs.length q1.sc,.slice q1.ga p.ks[j].gs.length q1.gc,.slice q1.ka o1 q1.kc,.slice ca1 cl1 cc1,.slice na1 p.ks[j].ks.length nc1] 50)=wa at *;obtain ⟨k0,k1,k2,k3,k4,k5,k6,k7,k8,k9,k10,k11,k12⟩:=aB qk;go_wp2_with fail
   first | (refine con.mono ?_) | (go_at_fn g'; refine con.mono ?_)
   rintro e w6 ⟨v6,rfl,N6,hb6⟩;clear con k0 k1 k2 k3 k4 k5 k6 k7 k8 k9 k10 k11 k12;have Q06:=(hb6.block _ (ae Q0a)).trans Q0a;have Q16:=(hb6.block _ (ae Q1a)).trans Q1a;have RT6:=RTa.next hb6;have hb6':=chain hba hb6;obtain ⟨q2,o2,ca2,cc2,na2,nc2,rfl,B6⟩:=N6;have hlm:j<(p.ks.map F).length:=by rw [Ik]; exact hlt'
   have hfk:(p.ks.map F)[j]=F p.ks[j]:=by rw [IJ]
   have B6':=B6.mono (S':=fun b=>Old S w b∨g<b) fun b h _=>by
    rcases h with h | h
    ·exact .inl h
    ·exact .inr (by omega)
   have ST:=RT6.store hlm (q:=q2) (o:=o2) (ca:=ca2) (cc:=cc2) (na:=na2) (nc:=nc2) (by rw [hfk]; exact B6');rw [hfk] at ST;obtain ⟨fk,hfk2⟩:∃ fk,F p.ks[j]=fk:=⟨_,rfl⟩
   rw [hfk2] at ST ⊢;obtain ⟨cl2,hcl2⟩:∃ cl2,(aj ts fk).length=cl2:=⟨_,rfl⟩
   unfold cH bL;unfold bL at ST;rw [hcl2] at ST ⊢;clear hcl2 hfk hfk2 B6 B6' RTa Q0a Q1a;have hr:∀ k,k<13→∃ u,w6.cell? ⟨g,j*13+k,none⟩=some u:=fun k hk=>RT6.room _ (by
    have:(j+1)*13≤(p.ks.map F).length*13:=Iw 13 hlm;omega)
   obtain ⟨u100,d0⟩:=hr 0 (by decide);have df0:=RT6.fz (j*13);obtain ⟨u101,d1⟩:=hr 1 (by decide);have df1:=RT6.fz (j*13+1);obtain ⟨u102,d2⟩:=hr 2 (by decide);have df2:=RT6.fz (j*13+2);obtain ⟨u103,d3⟩:=hr 3 (by decide);have df3:=RT6.fz (j*13+3);obtain ⟨u104,d4⟩:=hr 4 (by decide);have df4:=RT6.fz (j*13+4);obtain ⟨u105,d5⟩:=hr 5 (by decide);have df5:=RT6.fz (j*13+5);obtain ⟨u106,d6⟩:=hr 6 (by decide);have df6:=RT6.fz (j*13+6);obtain ⟨u107,d7⟩:=hr 7 (by decide);have df7:=RT6.fz (j*13+7);obtain ⟨u108,d8⟩:=hr 8 (by decide);have df8:=RT6.fz (j*13+8);obtain ⟨u109,d9⟩:=hr 9 (by decide)
   have df9:=RT6.fz (j*13+9);obtain ⟨u110,d10⟩:=hr 10 (by decide);have df10:=RT6.fz (j*13+10);obtain ⟨u111,d11⟩:=hr 11 (by decide);have df11:=RT6.fz (j*13+11);obtain ⟨u112,d12⟩:=hr 12 (by decide);have df12:=RT6.fz (j*13+12);simp only [IY] at d0
   have AP:Below w.heap.size w (((((((((((((w6.setCell ⟨g,j*13,none⟩ (.int .i64 fk.k)).setCell ⟨g,j*13+1,none⟩ (.int .i64 fk.n)).setCell ⟨g,j*13+2,none⟩ (.int .i64 fk.x.k)).setCell ⟨g,j*13+3,none⟩ (.int .i64 fk.x.v.1)).setCell ⟨g,j*13+4,none⟩ (.int .i64 fk.x.v.2.1)).setCell ⟨g,j*13+5,none⟩ (.string fk.x.v.2.2)).setCell ⟨g,j*13+6,none⟩ (.int .i64 fk.x.c)).setCell ⟨g,j*13+7,none⟩ (.slice q2.xa fk.x.ks.length q2.xc)).setCell ⟨g,j*13+8,none⟩ (.slice q2.sa fk.xs.length q2.sc)).setCell ⟨g,j*13+9,none⟩ (.slice q2.ga fk.gs.length q2.gc)).setCell ⟨g,j*13+10,none⟩ (.slice q2.ka o2 q2.kc)).setCell ⟨g,j*13+11,none⟩ (.slice ca2 cl2 cc2)).setCell ⟨g,j*13+12,none⟩ (.slice na2 fk.ks.length nc2)):=tN (g:=g) (j:=j) hb6' (by omega) (.int .i64 fk.k) (.int .i64 fk.n) (.int .i64 fk.x.k) (.int .i64 fk.x.v.1) (.int .i64 fk.x.v.2.1) (.string fk.x.v.2.2) (.int .i64 fk.x.c) (.slice q2.xa fk.x.ks.length q2.xc) (.slice q2.sa fk.xs.length q2.sc) (.slice q2.ga fk.gs.length q2.gc) (.slice q2.ka o2 q2.kc) (.slice ca2 cl2 cc2) (.slice na2 fk.ks.length nc2)
   have QP0:(((((((((((((w6.setCell ⟨g,j*13,none⟩ (.int .i64 fk.k)).setCell ⟨g,j*13+1,none⟩ (.int .i64 fk.n)).setCell ⟨g,j*13+2,none⟩ (.int .i64 fk.x.k)).setCell ⟨g,j*13+3,none⟩ (.int .i64 fk.x.v.1)).setCell ⟨g,j*13+4,none⟩ (.int .i64 fk.x.v.2.1)).setCell ⟨g,j*13+5,none⟩ (.string fk.x.v.2.2)).setCell ⟨g,j*13+6,none⟩ (.int .i64 fk.x.c)).setCell ⟨g,j*13+7,none⟩ (.slice q2.xa fk.x.ks.length q2.xc)).setCell ⟨g,j*13+8,none⟩ (.slice q2.sa fk.xs.length q2.sc)).setCell ⟨g,j*13+9,none⟩ (.slice q2.ga fk.gs.length q2.gc)).setCell ⟨g,j*13+10,none⟩ (.slice q2.ka o2 q2.kc)).setCell ⟨g,j*13+11,none⟩ (.slice ca2 cl2 cc2)).setCell ⟨g,j*13+12,none⟩ (.slice na2 fk.ks.length nc2)).heap[w.heap.size]? = some (.cells (aJ p q o ca cl cc (some ⟨b,off,none⟩) kl nc) 50 (0,0)):=rA (g:=g) (j:=j) Q06 (by omega) (.int .i64 fk.k) (.int .i64 fk.n) (.int .i64 fk.x.k) (.int .i64 fk.x.v.1) (.int .i64 fk.x.v.2.1) (.string fk.x.v.2.2) (.int .i64 fk.x.c) (.slice q2.xa fk.x.ks.length q2.xc) (.slice q2.sa fk.xs.length q2.sc) (.slice q2.ga fk.gs.length q2.gc) (.slice q2.ka o2 q2.kc) (.slice ca2 cl2 cc2) (.slice na2 fk.ks.length nc2)
   have QP1:(((((((((((((w6.setCell ⟨g,j*13,none⟩ (.int .i64 fk.k)).setCell ⟨g,j*13+1,none⟩ (.int .i64 fk.n)).setCell ⟨g,j*13+2,none⟩ (.int .i64 fk.x.k)).setCell ⟨g,j*13+3,none⟩ (.int .i64 fk.x.v.1)).setCell ⟨g,j*13+4,none⟩ (.int .i64 fk.x.v.2.1)).setCell ⟨g,j*13+5,none⟩ (.string fk.x.v.2.2)).setCell ⟨g,j*13+6,none⟩ (.int .i64 fk.x.c)).setCell ⟨g,j*13+7,none⟩ (.slice q2.xa fk.x.ks.length q2.xc)).setCell ⟨g,j*13+8,none⟩ (.slice q2.sa fk.xs.length q2.sc)).setCell ⟨g,j*13+9,none⟩ (.slice q2.ga fk.gs.length q2.gc)).setCell ⟨g,j*13+10,none⟩ (.slice q2.ka o2 q2.kc)).setCell ⟨g,j*13+11,none⟩ (.slice ca2 cl2 cc2)).setCell ⟨g,j*13+12,none⟩ (.slice na2 fk.ks.length nc2)).heap[w.heap.size+1]? = some (.cells aH 50 (0,0)):=rA (g:=g) (j:=j) Q16 (by omega) (.int .i64 fk.k) (.int .i64 fk.n) (.int .i64 fk.x.k) (.int .i64 fk.x.v.1) (.int .i64 fk.x.v.2.1) (.string fk.x.v.2.2) (.int .i64 fk.x.c) (.slice q2.xa fk.x.ks.length q2.xc) (.slice q2.sa fk.xs.length q2.sc) (.slice q2.ga fk.gs.length q2.gc) (.slice q2.ka o2 q2.kc) (.slice ca2 cl2 cc2) (.slice na2 fk.ks.length nc2)
   have SP:iI ts (fun b=>Old S w b∨g<b) g (((((((((((((w6.setCell ⟨g,j*13,none⟩ (.int .i64 fk.k)).setCell ⟨g,j*13+1,none⟩ (.int .i64 fk.n)).setCell ⟨g,j*13+2,none⟩ (.int .i64 fk.x.k)).setCell ⟨g,j*13+3,none⟩ (.int .i64 fk.x.v.1)).setCell ⟨g,j*13+4,none⟩ (.int .i64 fk.x.v.2.1)).setCell ⟨g,j*13+5,none⟩ (.string fk.x.v.2.2)).setCell ⟨g,j*13+6,none⟩ (.int .i64 fk.x.c)).setCell ⟨g,j*13+7,none⟩ (.slice q2.xa fk.x.ks.length q2.xc)).setCell ⟨g,j*13+8,none⟩ (.slice q2.sa fk.xs.length q2.sc)).setCell ⟨g,j*13+9,none⟩ (.slice q2.ga fk.gs.length q2.gc)).setCell ⟨g,j*13+10,none⟩ (.slice q2.ka o2 q2.kc)).setCell ⟨g,j*13+11,none⟩ (.slice ca2 cl2 cc2)).setCell ⟨g,j*13+12,none⟩ (.slice na2 fk.ks.length nc2)) (p.ks.map F) (j+1):=ST
   clear hr ST RT6 RT Q0 Q1 Q06 Q16 hb6' hb6 hba hb hal;go_wp2_with fail
   clear d0 df0 d1 df1 d2 df2 d3 df3 d4 df4 d5 df5 d6 df6 d7 df7 d8 df8 d9 df9 d10 df10 d11 df11 d12 df12
   generalize (((((((((((((w6.setCell ⟨g,j*13,none⟩ (.int .i64 fk.k)).setCell ⟨g,j*13+1,none⟩ (.int .i64 fk.n)).setCell ⟨g,j*13+2,none⟩ (.int .i64 fk.x.k)).setCell ⟨g,j*13+3,none⟩ (.int .i64 fk.x.v.1)).setCell ⟨g,j*13+4,none⟩ (.int .i64 fk.x.v.2.1)).setCell ⟨g,j*13+5,none⟩ (.string fk.x.v.2.2)).setCell ⟨g,j*13+6,none⟩ (.int .i64 fk.x.c)).setCell ⟨g,j*13+7,none⟩ (.slice q2.xa fk.x.ks.length q2.xc)).setCell ⟨g,j*13+8,none⟩ (.slice q2.sa fk.xs.length q2.sc)).setCell ⟨g,j*13+9,none⟩ (.slice q2.ga fk.gs.length q2.gc)).setCell ⟨g,j*13+10,none⟩ (.slice q2.ka o2 q2.kc)).setCell ⟨g,j*13+11,none⟩ (.slice ca2 cl2 cc2)).setCell ⟨g,j*13+12,none⟩ (.slice na2 fk.ks.length nc2))=w8 at *
   go_roundw
   case rel=>exact ⟨j+1,by omega,by go_num,SP,QP0,QP1,AP⟩
   case measure=>simp [intOf]; omega
  ·have e:j=kl:=by omega
   subst e;have hjl:(p.ks.map F).length=j:=by rw [Ik]; exact HKL.out
   rw [← hjl] at RT;have RN:=RT.GF (S':=fun b=>eA S w b∧b≠w.heap.size+1) (fun b h=>by
    rcases h with h | h
    ·exact ⟨.inl h.1,by have:=h.2; omega⟩
    ·exact ⟨.inr (by omega),by omega⟩) ⟨.inr (by omega),by omega⟩
   clear RT;obtain ⟨n0,n1,n2,n3,n4,n5,n6,n7,n8,n9,n10,n11,n12⟩:=aB Q0;obtain ⟨z0,z1,z2,z3,z4,z5,z6,z7,z8,z9,z10,z11,z12⟩:=aB Q1;obtain ⟨zf0,zf1,zf2,zf3,zf4,zf5,zf6,zf7,zf8,zf9,zf10,zf11,zf12⟩:=cL Q1;go_wp2_with fail
   have AP:Below w.heap.size w (df wr (w.heap.size+1) p q o ca cl cc (some ⟨g,0,none⟩) j j):=(bf (g:=w.heap.size+1) hb (by omega) (.int .i64 p.k) (.int .i64 p.n) (.int .i64 p.x.k) (.int .i64 p.x.v.1) (.int .i64 p.x.v.2.1) (.string p.x.v.2.2) (.int .i64 p.x.c) (.slice q.xa p.x.ks.length q.xc) (.slice q.sa p.xs.length q.sc) (.slice q.ga p.gs.length q.gc) (.slice q.ka o q.kc) (.slice ca cl cc) (.slice (some ⟨g,0,none⟩) j j))
   have KP:ah (fun b=>b≠w.heap.size+1) wr (df wr (w.heap.size+1) p q o ca cl cc (some ⟨g,0,none⟩) j j):=(bC (g:=w.heap.size+1) (ah.refl _ wr) (fun h=>h rfl) (.int .i64 p.k) (.int .i64 p.n) (.int .i64 p.x.k) (.int .i64 p.x.v.1) (.int .i64 p.x.v.2.1) (.string p.x.v.2.2) (.int .i64 p.x.c) (.slice q.xa p.x.ks.length q.xc) (.slice q.sa p.xs.length q.sc) (.slice q.ga p.gs.length q.gc) (.slice q.ka o q.kc) (.slice ca cl cc) (.slice (some ⟨g,0,none⟩) j j))
   have QE:(df wr (w.heap.size+1) p q o ca cl cc (some ⟨g,0,none⟩) j j).heap[w.heap.size+1]? = some (.cells (aJ p q o ca cl cc (some ⟨g,0,none⟩) j j) 50 (0,0)):=(bw (g:=w.heap.size+1) Q1 (.int .i64 p.k) (.int .i64 p.n) (.int .i64 p.x.k) (.int .i64 p.x.v.1) (.int .i64 p.x.v.2.1) (.string p.x.v.2.2) (.int .i64 p.x.c) (.slice q.xa p.x.ks.length q.xc) (.slice q.sa p.xs.length q.sc) (.slice q.ga p.gs.length q.gc) (.slice q.ka o q.kc) (.slice ca cl cc) (.slice (some ⟨g,0,none⟩) j j))
   clear z0 zf0 z1 zf1 z2 zf2 z3 zf3 z4 zf4 z5 zf5 z6 zf6 z7 zf7 z8 zf8 z9 zf9 z10 zf10 z11 zf11 z12 zf12 n0 n1 n2 n3 n4 n5 n6 n7 n8 n9 n10 n11 n12;unfold df at AP KP QE
   generalize (((((((((((((wr.setCell ⟨w.heap.size+1,0,none⟩ (.int .i64 p.k)).setCell ⟨w.heap.size+1,1,none⟩ (.int .i64 p.n)).setCell ⟨w.heap.size+1,2,none⟩ (.int .i64 p.x.k)).setCell ⟨w.heap.size+1,3,none⟩ (.int .i64 p.x.v.1)).setCell ⟨w.heap.size+1,4,none⟩ (.int .i64 p.x.v.2.1)).setCell ⟨w.heap.size+1,5,none⟩ (.string p.x.v.2.2)).setCell ⟨w.heap.size+1,6,none⟩ (.int .i64 p.x.c)).setCell ⟨w.heap.size+1,7,none⟩ (.slice q.xa p.x.ks.length q.xc)).setCell ⟨w.heap.size+1,8,none⟩ (.slice q.sa p.xs.length q.sc)).setCell ⟨w.heap.size+1,9,none⟩ (.slice q.ga p.gs.length q.gc)).setCell ⟨w.heap.size+1,10,none⟩ (.slice q.ka o q.kc)).setCell ⟨w.heap.size+1,11,none⟩ (.slice ca cl cc)).setCell ⟨w.heap.size+1,12,none⟩ (.slice (some ⟨g,0,none⟩) j j))=w8 at *
   have FIN:aT ts (eA S w) w8 (.agg (aJ p q o ca cl cc (some ⟨g,0,none⟩) j j)) (.mk p.k p.n p.x p.xs p.gs (p.ks.map F)):=by
    have B8:=(HP.out.mono (S':=eA S w) fun b h _=>.inl h).next (ah.of AP);refine ⟨q,o,ca,cc,some ⟨g,0,none⟩,j,?_,⟨B8.x,B8.xs,B8.gs,by rw [HC.out]; exact B8.af,?_⟩⟩
    ·unfold cH bL;rw [HC.out,HCL.out];have e:(Pl.mk p.k p.n p.x p.xs p.gs (p.ks.map F)).ks.length=j:=hjl;rw [e];rfl
    ·exact (RN.next (KP.mono fun _ h=>h.2)).mono fun b h _=>h.1
   obtain ⟨r0,r1,r2,r3,r4,r5,r6,r7,r8,r9,r10,r11,r12⟩:=aB QE;exact Hf (v:=.agg (aJ p q o ca cl cc (some ⟨g,0,none⟩) j j)) (by simp [results,Tryz.results20,go_sem,r0,r1,r2,r3,r4,r5,r6,r7,r8,r9,r10,r11,r12]) rfl ⟨_,rfl,FIN,AP⟩
theorem Cr:(Tryz.prog.info? 50).map (fun i=>(i.zero,i.size,i.bytes))=some (some (.agg aH),13,208):=by kernel_rfl
theorem qJ {ts:List (List Int)} {p:Pl} {q:Pw} {o:Nat} {ca:Option Addr} {cc:Nat} {na:Option Addr} {nc:Nat}:∀ u ∈ bL ts p q o ca cc na nc,u.oneCell'=true:=by
 intro u hu;simp only [bL,H6,I4,or_false] at hu;rcases hu with rfl | rfl | rfl | rfl | rfl | rfl | rfl | rfl | rfl | rfl | rfl | rfl | rfl <;> rfl
theorem zV (ts:List (List Int)) (S:Nat→Prop) (a:Option Addr) (cap:Nat) (l:List Pl) (w:World) (h:qp ts S w a l) (hl:l.length=2) :
  Calls Tryz.prog 62 #[.slice a 2 cap] w fun e w'=>∃ g c,e = .returned (.slice (some ⟨g,0,none⟩) 2 c)∧w.heap.size≤g∧iI ts (Old S w) g w' l 2∧Below w.heap.size w w':=by
 obtain ⟨i0,hi,hj0,hj1,hj2⟩:=info_parts Cr;obtain ⟨r0,r1,rfl⟩:∃ r0 r1,l = [r0,r1]:=by
  match l,hl with
  | [a,b],_=>exact ⟨a,b,rfl⟩
 clear hl;obtain ⟨b,off,q0,o0,ca0,cc0,na0,nc0,rfl,_,hlt,at0,B0⟩:=h.elem (i:=0) (by simp);obtain ⟨b',off',q1,o1,ca1,cc1,na1,nc1,e',_,_,at1,B1⟩:=h.elem (i:=1) (by simp);have e1:=It e';injection e1 with e1 e2
 subst e1 e2;simp only [List.getElem_cons_zero,List.getElem_cons_succ] at at0 at1 B0 B1;rw [Jg,IY] at at0;rw [Nat.one_mul] at at1;have R:Raw w (some ⟨b,off,none⟩) 2 13 (bL ts r0 q0 o0 ca0 cc0 na0 nc0 ++ bL ts r1 q1 o1 ca1 cc1 na1 nc1):=by
  refine ⟨rfl,fun u hu=>?_,fun e=>(by cases e),fun ad e j u hj=>?_⟩
  ·rcases List.mem_append.1 hu with h | h
   ·exact qJ u h
   ·exact qJ u h
  ·obtain rfl:=It e;rw [dK];by_cases hj':j<13
   ·rw [Ia (by exact hj')] at hj;exact at0 j u hj
   ·rw [H9 (by exact Nat.not_lt.1 hj')] at hj;have:=at1 (j - 13) u hj
    rwa [show off+13+(j - 13)=off+j by omega] at this
 have BB:Hid (fA ts S w r0 q0 ca0 na0∧fA ts S w r1 q1 ca1 na1):=⟨B0,B1⟩
 generalize hxs:bL ts r0 q0 o0 ca0 cc0 na0 nc0 ++ bL ts r1 q1 o1 ca1 cc1 na1 nc1=xs at R;have HX:Hid (bL ts r0 q0 o0 ca0 cc0 na0 nc0 ++ bL ts r1 q1 o1 ca1 cc1 na1 nc1=xs):=hxs;clear at0 at1 B0 B1 h hxs;have hal:=aa w (.cells #[] 50);have R1:=R.next hal;have ho:(w.alloc (.cells #[] 50)).ownsRow w.heap.size 50 13 (.slice (some ⟨w.heap.size,0,none⟩) 0 0) 0 []:=Jf w #[] 0 (Hd _) (by decide) rfl;have heq:=lH (P:=Tryz.prog) w 48 50 (some ⟨b,off,none⟩) 2 cap Tryz.underlying48
 go_enter Tryz.func62,Tryz.ntmps62;go_upto_region 3 with fail
 go_wp2_with (at_builtin; refine cO rfl _ _ 48 rfl w.heap.size 50 i0 _ 13 208 Tryz.underlying48 hi hj0 hj1 hj2 rfl (by decide) _ _ _ rfl ho _ _ _ _ rfl R1 (by unfold maxLen; omega) (by omega) (by simp) ?_)
 intro v' w5 ho5 hg5;have hb5:Below w.heap.size w w5:=hal.grown hg5 (by simp) (fun q hq=>(ho.lt q hq).1);have cells:=fun g hg i u hu=>World.ownsRow.cells ho5 (g:=g) hg i u hu
 obtain ⟨_,⟨_,e2⟩ | ⟨g,gc,cur,rfl,hg,hh,h4⟩⟩:=ho5
 ·cases e2
 have RT:iI ts (Old S w) g w5 [r0,r1] 2:=by
  have HC:∀ i u,(bL ts r0 q0 o0 ca0 cc0 na0 nc0 ++ bL ts r1 q1 o1 ca1 cc1 na1 nc1)[i]? = some u→w5.cell? ⟨g,i,none⟩=some u:=fun i u hu=>by
   rw [HX.out] at hu;have:=cells g rfl i u (by simpa using hu)
   rwa [dK,Hu] at this
  have hB:=BB.out;refine ⟨ae hh,fun h=>by have:=h.2; omega,fun o ho=>?_,fun o=>Hh _ g o _ _ hh,fun i hi _=>?_⟩
  ·have hlo:o<(bL ts r0 q0 o0 ca0 cc0 na0 nc0 ++ bL ts r1 q1 o1 ca1 cc1 na1 nc1).length:=ho;exact ⟨_,HC o _ (H4 hlo)⟩
  ·match i,hi with
   | 0,_=>exact ⟨q0,o0,ca0,cc0,na0,nc0,fun j u hj=>by
     rw [Jg,Hu];exact HC j u (by rw [Ia (by rcases Ic j (bL ts r0 q0 o0 ca0 cc0 na0 nc0).length with h | h; exact h; have hj:(bL ts r0 q0 o0 ca0 cc0 na0 nc0)[j]? = some u:=hj; rw [Is h] at hj; cases hj)]; exact hj),(hB.1.mono fun b h l=>⟨h,l⟩).next (ah.of hb5)⟩
   | 1,_=>exact ⟨q1,o1,ca1,cc1,na1,nc1,fun j u hj=>HC (1*13+j) u (by rw [H9 (by exact Ir _ _)]; rw [show 1*13+j - (bL ts r0 q0 o0 ca0 cc0 na0 nc0).length=j from Nat.add_sub_cancel_left _ _]; exact hj),(hB.2.mono fun b h l=>⟨h,l⟩).next (ah.of hb5)⟩
 go_wp2
 go_ret;exact ⟨g,gc,rfl,hg,RT,hb5⟩
theorem iI.put {ts:List (List Int)} {S:Nat→Prop} {g:Nat} {W:World} {l:List Pl} (h:iI ts S g W l l.length) {j:Nat} (hj:j<l.length) {r:Pl} {q:Pw} {o:Nat} {ca:Option Addr} {cc:Nat} {na:Option Addr} {nc:Nat} (hn:fA ts S W r q ca na) :
  iI ts S g (bH W g (j*13) (bL ts r q o ca cc na nc)) (l.set j r) (l.set j r).length:=by
 have hK:=iT g h.no (bL ts r q o ca cc na nc) W (j*13) (ah.refl S W);have hr:∀ k,k<(bL ts r q o ca cc na nc).length→∃ u,W.cell? ⟨g,j*13+k,none⟩=some u:=fun k hk=>h.room _ (by
  have:k<13:=hk;have:(j+1)*13≤l.length*13:=Iw 13 hj;omega)
 have hs:∀ (i:Nat) (hi:i<13),(bH W g (j*13) (bL ts r q o ca cc na nc)).cell? ⟨g,j*13+i,none⟩=some ((bL ts r q o ca cc na nc)[i]'hi):=fun i hi=>hY g (bL ts r q o ca cc na nc) W (j*13) i hi hr
 have ho:∀ x,(x<j*13∨j*13+13≤x)→(bH W g (j*13) (bL ts r q o ca cc na nc)).cell? ⟨g,x,none⟩=W.cell? ⟨g,x,none⟩:=fun x h=>cR g _ W _ _ _ (.inr h)
 have lt13:∀ {L:List Value} {k:Nat} {u:Value},L.length=13→L[k]? = some u→k<13:=fun {L k u} e hk=>by
  rcases Ic k 13 with h | h
  ·exact h
  ·rw [Is (by omega)] at hk; cases hk
 refine ⟨by rw [fO]; exact h.lt,h.no,fun x hl=>?_,fun x=>by rw [iN]; exact h.fz x,fun i hi _=>?_⟩
 ·rw [List.length_set] at hl;by_cases c:x<j*13∨j*13+13≤x
  ·rw [ho x c]; exact h.room x hl
  ·have:=hs (x - j*13) (by omega);rw [show j*13+(x - j*13)=x by omega] at this;exact ⟨_,this⟩
 ·have hi':i<l.length:=by rwa [List.length_set] at hi
  by_cases e:j=i
  ·subst e;rw [List.getElem_set_self];refine ⟨q,o,ca,cc,na,nc,fun k u hk=>?_,hn.next hK⟩;rw [hs k (lt13 rfl hk),← hk];exact (H4 _).symm
  ·rw [List.getElem_set_ne e];obtain ⟨q',o',ca',cc',na',nc',e0,e1⟩:=h.laid i hi' hi';refine ⟨q',o',ca',cc',na',nc',fun k u hk=>?_,e1.next hK⟩;have hk':=lt13 rfl hk;refine (ho _ ?_).trans (e0 k u hk);rcases Nat.lt_or_gt_of_ne e with e | e
   ·have:(j+1)*13≤i*13:=Iw 13 e;omega
   ·have:(i+1)*13≤j*13:=Iw 13 e;omega
theorem nP (ts:List (List Int)) (S:Nat→Prop) (F:Pl→Pl) (u:Value) (p:Pl) (q:Pw) (o:Nat) (ca:Option Addr) (cc:Nat) (na:Option Addr) (nc:Nat) (w:World) (j:Nat) (hu:GK ts u F p.ks (Old S w) w) (hp:fA ts S w p q ca na) (h2:p.ks.length=2) (hj:j<2) (hc:aj ts (.mk p.k p.n p.x p.xs p.gs (p.ks.set j (F (p.ks.getD j p))))=aj ts p) :
  Calls Tryz.prog 36 #[cH ts p q o ca cc na nc,.int .i64 j,u] w fun e w'=>∃ v,e = .returned v∧aT ts (eA S w) w' v (.mk p.k p.n p.x p.xs p.gs (p.ks.set j (F (p.ks.getD j p))))∧Below w.heap.size w w':=by
 have hjl:j<p.ks.length:=by omega
 have egd:p.ks.getD j p=p.ks[j]:=by rw [List.getD_eq_getElem?_getD,H4 hjl,Option.getD_some]
 rw [egd] at hc ⊢;obtain ⟨cl,hcl⟩:∃ cl,(aj ts p).length=cl:=⟨_,rfl⟩
 have HCL:Hid ((aj ts p).length=cl):=hcl;have HKL:Hid (p.ks.length=2):=h2;have HC:Hid (aj ts (.mk p.k p.n p.x p.xs p.gs (p.ks.set j (F p.ks[j])))=aj ts p):=hc;unfold cH bL;rw [hcl,h2];clear hcl h2 hc egd;have A:Below w.heap.size w ((w.alloc (.cells (aJ p q o ca cl cc na 2 nc) 50)).alloc (.cells aH 50)):=(((He w.heap.size w).alloc (Hd _) (.cells (aJ p q o ca cl cc na 2 nc) 50)).alloc (by simp only [Hg]; omega) (.cells aH 50))
 have Z:w.heap.size+2≤((w.alloc (.cells (aJ p q o ca cl cc na 2 nc) 50)).alloc (.cells aH 50)).heap.size:=by simp only [Hg]; omega
 have Q0:((w.alloc (.cells (aJ p q o ca cl cc na 2 nc) 50)).alloc (.cells aH 50)).heap[w.heap.size]? = some (.cells (aJ p q o ca cl cc na 2 nc) 50 (0,0)):=by
  rw [aD _ _ (by simp only [Hg]; omega)];exact aw w (aJ p q o ca cl cc na 2 nc) 50 rfl
 have Q1:((w.alloc (.cells (aJ p q o ca cl cc na 2 nc) 50)).alloc (.cells aH 50)).heap[w.heap.size+1]? = some (.cells aH 50 (0,0)):=by
  exact aw (w.alloc (.cells (aJ p q o ca cl cc na 2 nc) 50)) aH 50 (by simp only [Hg])
 have HP:Hid (fA ts S w p q ca na):=hp;obtain ⟨g',cb,rfl,eg,hd⟩:=hu;have HD:Hid (∀ (q:Pw) (o:Nat) (ca:Option Addr) (cc:Nat) (na:Option Addr) (nc:Nat) (W:World),Below w.heap.size w W→fA ts (Old S w) W p.ks[j] q ca na →
   Calls Tryz.prog g' (#[cH ts p.ks[j] q o ca cc na nc] ++ cb) W fun e w'=>∃ v,e = .returned v∧aT ts (eA (Old S w) W) w' v (F p.ks[j])∧Below W.heap.size W w'):=hd p.ks[j] (Hm hjl)
 clear hp hd;go_enter Tryz.func36,Tryz.ntmps36;go_upto_region 1 with fail
 generalize ((w.alloc (.cells (aJ p q o ca cl cc na 2 nc) 50)).alloc (.cells aH 50))=w2 at *;have con:=zV ts (Old S w) na nc p.ks w2 ((HP.out.kids.mono fun b h l=>⟨h,l⟩).next (ah.of A)) HKL.out;have n12:w2.cell? ⟨w.heap.size,12,none⟩=some (.slice na 2 nc):=cell_of (i:=12) Q0 rfl;go_wp2_with fail
 refine con.mono ?_;rintro e w3 ⟨g,gc,rfl,hg,RT,hb3⟩;clear con n12;have A3:=chain A hb3;have Q03:=(hb3.block _ (ae Q0)).trans Q0;have Q13:=(hb3.block _ (ae Q1)).trans Q1;clear Q0 Q1;obtain ⟨q1,o1,ca1,cc1,na1,nc1,at1,B1⟩:=RT.laid j hjl hj;obtain ⟨cl1,hcl1⟩:∃ cl1,(aj ts p.ks[j]).length=cl1:=⟨_,rfl⟩
 have con:=HD.out q1 o1 ca1 cc1 na1 nc1 w3 A3 (B1.mono fun b h _=>h.1);unfold cH bL at con;unfold bL at at1;rw [hcl1] at con at1;clear hcl1 B1;have e0:w3.cell? ⟨g,j*13,none⟩=some (.int .i64 p.ks[j].k):=at1 0 _ rfl;have e1:w3.cell? ⟨g,j*13+1,none⟩=some (.int .i64 p.ks[j].n):=at1 1 _ rfl;have e2:w3.cell? ⟨g,j*13+2,none⟩=some (.int .i64 p.ks[j].x.k):=at1 2 _ rfl;have e3:w3.cell? ⟨g,j*13+3,none⟩=some (.int .i64 p.ks[j].x.v.1):=at1 3 _ rfl;have e4:w3.cell? ⟨g,j*13+4,none⟩=some (.int .i64 p.ks[j].x.v.2.1):=at1 4 _ rfl;have e5:w3.cell? ⟨g,j*13+5,none⟩=some (.string p.ks[j].x.v.2.2):=at1 5 _ rfl
 have e6:w3.cell? ⟨g,j*13+6,none⟩=some (.int .i64 p.ks[j].x.c):=at1 6 _ rfl;have e7:w3.cell? ⟨g,j*13+7,none⟩=some (.slice q1.xa p.ks[j].x.ks.length q1.xc):=at1 7 _ rfl;have e8:w3.cell? ⟨g,j*13+8,none⟩=some (.slice q1.sa p.ks[j].xs.length q1.sc):=at1 8 _ rfl;have e9:w3.cell? ⟨g,j*13+9,none⟩=some (.slice q1.ga p.ks[j].gs.length q1.gc):=at1 9 _ rfl;have e10:w3.cell? ⟨g,j*13+10,none⟩=some (.slice q1.ka o1 q1.kc):=at1 10 _ rfl;have e11:w3.cell? ⟨g,j*13+11,none⟩=some (.slice ca1 cl1 cc1):=at1 11 _ rfl;have e12:w3.cell? ⟨g,j*13+12,none⟩=some (.slice na1 p.ks[j].ks.length nc1):=at1 12 _ rfl
 have hjz:(j:Int)<2:=by omega
 go_wp2_with fail
 first | (refine con.mono ?_) | (go_at_fn g'; refine con.mono ?_)
 rintro e w6 ⟨v6,rfl,N6,hb6⟩;clear con e0 e1 e2 e3 e4 e5 e6 e7 e8 e9 e10 e11 e12 at1;have Q06:=(hb6.block _ (ae Q03)).trans Q03;have Q16:=(hb6.block _ (ae Q13)).trans Q13;have RT6:=RT.next hb6;have A6:=chain A3 hb6;have lg:=RT.lt;obtain ⟨q2,o2,ca2,cc2,na2,nc2,rfl,B6⟩:=N6;have RTS:iI ts (fun b=>Old S w b∨w3.heap.size≤b) g w6 p.ks p.ks.length:=by
  rw [HKL.out];refine ⟨RT6.lt,cD (by omega) lg,RT6.room,RT6.fz,fun i hi hj=>?_⟩;obtain ⟨q,o,ca,cc,na,nc,h1,h2⟩:=RT6.laid i hi hj;exact ⟨q,o,ca,cc,na,nc,h1,h2.mono fun b h _=>.inl h.1⟩
 have ST:=RTS.put hjl (q:=q2) (o:=o2) (ca:=ca2) (cc:=cc2) (na:=na2) (nc:=nc2) B6;obtain ⟨fk,hfk2⟩:∃ fk,F p.ks[j]=fk:=⟨_,rfl⟩
 have HFK:Hid (F p.ks[j]=fk):=hfk2;rw [hfk2] at ST HC ⊢;obtain ⟨cl2,hcl2⟩:∃ cl2,(aj ts fk).length=cl2:=⟨_,rfl⟩
 unfold cH bL;unfold bL at ST;rw [hcl2] at ST ⊢;clear hcl2 hfk2 B6 HD;have hr:∀ k,k<13→∃ u,w6.cell? ⟨g,j*13+k,none⟩=some u:=fun k hk=>RT6.room _ (by
  rw [HKL.out];have:(j+1)*13≤2*13:=Iw 13 hj;omega)
 obtain ⟨u100,d0⟩:=hr 0 (by decide);have df0:=RT6.fz (j*13);obtain ⟨u101,d1⟩:=hr 1 (by decide);have df1:=RT6.fz (j*13+1);obtain ⟨u102,d2⟩:=hr 2 (by decide);have df2:=RT6.fz (j*13+2);obtain ⟨u103,d3⟩:=hr 3 (by decide);have df3:=RT6.fz (j*13+3);obtain ⟨u104,d4⟩:=hr 4 (by decide);have df4:=RT6.fz (j*13+4);obtain ⟨u105,d5⟩:=hr 5 (by decide);have df5:=RT6.fz (j*13+5);obtain ⟨u106,d6⟩:=hr 6 (by decide);have df6:=RT6.fz (j*13+6);obtain ⟨u107,d7⟩:=hr 7 (by decide);have df7:=RT6.fz (j*13+7);obtain ⟨u108,d8⟩:=hr 8 (by decide);have df8:=RT6.fz (j*13+8);obtain ⟨u109,d9⟩:=hr 9 (by decide)
 have df9:=RT6.fz (j*13+9);obtain ⟨u110,d10⟩:=hr 10 (by decide);have df10:=RT6.fz (j*13+10);obtain ⟨u111,d11⟩:=hr 11 (by decide);have df11:=RT6.fz (j*13+11);obtain ⟨u112,d12⟩:=hr 12 (by decide);have df12:=RT6.fz (j*13+12);simp only [IY] at d0;have lg6:=RT6.lt
 have AP:Below w.heap.size w (((((((((((((w6.setCell ⟨g,j*13,none⟩ (.int .i64 fk.k)).setCell ⟨g,j*13+1,none⟩ (.int .i64 fk.n)).setCell ⟨g,j*13+2,none⟩ (.int .i64 fk.x.k)).setCell ⟨g,j*13+3,none⟩ (.int .i64 fk.x.v.1)).setCell ⟨g,j*13+4,none⟩ (.int .i64 fk.x.v.2.1)).setCell ⟨g,j*13+5,none⟩ (.string fk.x.v.2.2)).setCell ⟨g,j*13+6,none⟩ (.int .i64 fk.x.c)).setCell ⟨g,j*13+7,none⟩ (.slice q2.xa fk.x.ks.length q2.xc)).setCell ⟨g,j*13+8,none⟩ (.slice q2.sa fk.xs.length q2.sc)).setCell ⟨g,j*13+9,none⟩ (.slice q2.ga fk.gs.length q2.gc)).setCell ⟨g,j*13+10,none⟩ (.slice q2.ka o2 q2.kc)).setCell ⟨g,j*13+11,none⟩ (.slice ca2 cl2 cc2)).setCell ⟨g,j*13+12,none⟩ (.slice na2 fk.ks.length nc2)):=tN (g:=g) (j:=j) A6 (by omega) (.int .i64 fk.k) (.int .i64 fk.n) (.int .i64 fk.x.k) (.int .i64 fk.x.v.1) (.int .i64 fk.x.v.2.1) (.string fk.x.v.2.2) (.int .i64 fk.x.c) (.slice q2.xa fk.x.ks.length q2.xc) (.slice q2.sa fk.xs.length q2.sc) (.slice q2.ga fk.gs.length q2.gc) (.slice q2.ka o2 q2.kc) (.slice ca2 cl2 cc2) (.slice na2 fk.ks.length nc2)
 have QP0:(((((((((((((w6.setCell ⟨g,j*13,none⟩ (.int .i64 fk.k)).setCell ⟨g,j*13+1,none⟩ (.int .i64 fk.n)).setCell ⟨g,j*13+2,none⟩ (.int .i64 fk.x.k)).setCell ⟨g,j*13+3,none⟩ (.int .i64 fk.x.v.1)).setCell ⟨g,j*13+4,none⟩ (.int .i64 fk.x.v.2.1)).setCell ⟨g,j*13+5,none⟩ (.string fk.x.v.2.2)).setCell ⟨g,j*13+6,none⟩ (.int .i64 fk.x.c)).setCell ⟨g,j*13+7,none⟩ (.slice q2.xa fk.x.ks.length q2.xc)).setCell ⟨g,j*13+8,none⟩ (.slice q2.sa fk.xs.length q2.sc)).setCell ⟨g,j*13+9,none⟩ (.slice q2.ga fk.gs.length q2.gc)).setCell ⟨g,j*13+10,none⟩ (.slice q2.ka o2 q2.kc)).setCell ⟨g,j*13+11,none⟩ (.slice ca2 cl2 cc2)).setCell ⟨g,j*13+12,none⟩ (.slice na2 fk.ks.length nc2)).heap[w.heap.size]? = some (.cells (aJ p q o ca cl cc na 2 nc) 50 (0,0)):=rA (g:=g) (j:=j) Q06 (by omega) (.int .i64 fk.k) (.int .i64 fk.n) (.int .i64 fk.x.k) (.int .i64 fk.x.v.1) (.int .i64 fk.x.v.2.1) (.string fk.x.v.2.2) (.int .i64 fk.x.c) (.slice q2.xa fk.x.ks.length q2.xc) (.slice q2.sa fk.xs.length q2.sc) (.slice q2.ga fk.gs.length q2.gc) (.slice q2.ka o2 q2.kc) (.slice ca2 cl2 cc2) (.slice na2 fk.ks.length nc2)
 have QP1:(((((((((((((w6.setCell ⟨g,j*13,none⟩ (.int .i64 fk.k)).setCell ⟨g,j*13+1,none⟩ (.int .i64 fk.n)).setCell ⟨g,j*13+2,none⟩ (.int .i64 fk.x.k)).setCell ⟨g,j*13+3,none⟩ (.int .i64 fk.x.v.1)).setCell ⟨g,j*13+4,none⟩ (.int .i64 fk.x.v.2.1)).setCell ⟨g,j*13+5,none⟩ (.string fk.x.v.2.2)).setCell ⟨g,j*13+6,none⟩ (.int .i64 fk.x.c)).setCell ⟨g,j*13+7,none⟩ (.slice q2.xa fk.x.ks.length q2.xc)).setCell ⟨g,j*13+8,none⟩ (.slice q2.sa fk.xs.length q2.sc)).setCell ⟨g,j*13+9,none⟩ (.slice q2.ga fk.gs.length q2.gc)).setCell ⟨g,j*13+10,none⟩ (.slice q2.ka o2 q2.kc)).setCell ⟨g,j*13+11,none⟩ (.slice ca2 cl2 cc2)).setCell ⟨g,j*13+12,none⟩ (.slice na2 fk.ks.length nc2)).heap[w.heap.size+1]? = some (.cells aH 50 (0,0)):=rA (g:=g) (j:=j) Q16 (by omega) (.int .i64 fk.k) (.int .i64 fk.n) (.int .i64 fk.x.k) (.int .i64 fk.x.v.1) (.int .i64 fk.x.v.2.1) (.string fk.x.v.2.2) (.int .i64 fk.x.c) (.slice q2.xa fk.x.ks.length q2.xc) (.slice q2.sa fk.xs.length q2.sc) (.slice q2.ga fk.gs.length q2.gc) (.slice q2.ka o2 q2.kc) (.slice ca2 cl2 cc2) (.slice na2 fk.ks.length nc2)
 have SP:iI ts (fun b=>Old S w b∨w3.heap.size≤b) g (((((((((((((w6.setCell ⟨g,j*13,none⟩ (.int .i64 fk.k)).setCell ⟨g,j*13+1,none⟩ (.int .i64 fk.n)).setCell ⟨g,j*13+2,none⟩ (.int .i64 fk.x.k)).setCell ⟨g,j*13+3,none⟩ (.int .i64 fk.x.v.1)).setCell ⟨g,j*13+4,none⟩ (.int .i64 fk.x.v.2.1)).setCell ⟨g,j*13+5,none⟩ (.string fk.x.v.2.2)).setCell ⟨g,j*13+6,none⟩ (.int .i64 fk.x.c)).setCell ⟨g,j*13+7,none⟩ (.slice q2.xa fk.x.ks.length q2.xc)).setCell ⟨g,j*13+8,none⟩ (.slice q2.sa fk.xs.length q2.sc)).setCell ⟨g,j*13+9,none⟩ (.slice q2.ga fk.gs.length q2.gc)).setCell ⟨g,j*13+10,none⟩ (.slice q2.ka o2 q2.kc)).setCell ⟨g,j*13+11,none⟩ (.slice ca2 cl2 cc2)).setCell ⟨g,j*13+12,none⟩ (.slice na2 fk.ks.length nc2)) (p.ks.set j fk) (p.ks.set j fk).length:=ST
 clear hr ST RTS RT6 RT Q06 Q16 A6 hb6 Q03 Q13;go_upto_region 3 with fail
 clear d0 df0 d1 df1 d2 df2 d3 df3 d4 df4 d5 df5 d6 df6 d7 df7 d8 df8 d9 df9 d10 df10 d11 df11 d12 df12
 generalize (((((((((((((w6.setCell ⟨g,j*13,none⟩ (.int .i64 fk.k)).setCell ⟨g,j*13+1,none⟩ (.int .i64 fk.n)).setCell ⟨g,j*13+2,none⟩ (.int .i64 fk.x.k)).setCell ⟨g,j*13+3,none⟩ (.int .i64 fk.x.v.1)).setCell ⟨g,j*13+4,none⟩ (.int .i64 fk.x.v.2.1)).setCell ⟨g,j*13+5,none⟩ (.string fk.x.v.2.2)).setCell ⟨g,j*13+6,none⟩ (.int .i64 fk.x.c)).setCell ⟨g,j*13+7,none⟩ (.slice q2.xa fk.x.ks.length q2.xc)).setCell ⟨g,j*13+8,none⟩ (.slice q2.sa fk.xs.length q2.sc)).setCell ⟨g,j*13+9,none⟩ (.slice q2.ga fk.gs.length q2.gc)).setCell ⟨g,j*13+10,none⟩ (.slice q2.ka o2 q2.kc)).setCell ⟨g,j*13+11,none⟩ (.slice ca2 cl2 cc2)).setCell ⟨g,j*13+12,none⟩ (.slice na2 fk.ks.length nc2))=w8 at *
 obtain ⟨n0,n1,n2,n3,n4,n5,n6,n7,n8,n9,n10,n11,n12⟩:=aB QP0;obtain ⟨z0,z1,z2,z3,z4,z5,z6,z7,z8,z9,z10,z11,z12⟩:=aB QP1;obtain ⟨zf0,zf1,zf2,zf3,zf4,zf5,zf6,zf7,zf8,zf9,zf10,zf11,zf12⟩:=cL QP1;go_wp2_with fail
 have AR:Below w.heap.size w (df w8 (w.heap.size+1) p q o ca cl cc (some ⟨g,0,none⟩) 2 gc):=(bf (g:=w.heap.size+1) AP (by omega) (.int .i64 p.k) (.int .i64 p.n) (.int .i64 p.x.k) (.int .i64 p.x.v.1) (.int .i64 p.x.v.2.1) (.string p.x.v.2.2) (.int .i64 p.x.c) (.slice q.xa p.x.ks.length q.xc) (.slice q.sa p.xs.length q.sc) (.slice q.ga p.gs.length q.gc) (.slice q.ka o q.kc) (.slice ca cl cc) (.slice (some ⟨g,0,none⟩) 2 gc))
 have KP:ah (fun b=>b≠w.heap.size+1) w8 (df w8 (w.heap.size+1) p q o ca cl cc (some ⟨g,0,none⟩) 2 gc):=(bC (g:=w.heap.size+1) (ah.refl _ w8) (fun h=>h rfl) (.int .i64 p.k) (.int .i64 p.n) (.int .i64 p.x.k) (.int .i64 p.x.v.1) (.int .i64 p.x.v.2.1) (.string p.x.v.2.2) (.int .i64 p.x.c) (.slice q.xa p.x.ks.length q.xc) (.slice q.sa p.xs.length q.sc) (.slice q.ga p.gs.length q.gc) (.slice q.ka o q.kc) (.slice ca cl cc) (.slice (some ⟨g,0,none⟩) 2 gc))
 have QE:(df w8 (w.heap.size+1) p q o ca cl cc (some ⟨g,0,none⟩) 2 gc).heap[w.heap.size+1]? = some (.cells (aJ p q o ca cl cc (some ⟨g,0,none⟩) 2 gc) 50 (0,0)):=(bw (g:=w.heap.size+1) QP1 (.int .i64 p.k) (.int .i64 p.n) (.int .i64 p.x.k) (.int .i64 p.x.v.1) (.int .i64 p.x.v.2.1) (.string p.x.v.2.2) (.int .i64 p.x.c) (.slice q.xa p.x.ks.length q.xc) (.slice q.sa p.xs.length q.sc) (.slice q.ga p.gs.length q.gc) (.slice q.ka o q.kc) (.slice ca cl cc) (.slice (some ⟨g,0,none⟩) 2 gc))
 clear z0 zf0 z1 zf1 z2 zf2 z3 zf3 z4 zf4 z5 zf5 z6 zf6 z7 zf7 z8 zf8 z9 zf9 z10 zf10 z11 zf11 z12 zf12 n0 n1 n2 n3 n4 n5 n6 n7 n8 n9 n10 n11 n12;have RN:=SP.GF (S':=fun b=>eA S w b∧b≠w.heap.size+1) (fun b h=>by
  rcases h with h | h
  ·exact ⟨.inl h.1,by have:=h.2; omega⟩
  ·exact ⟨.inr (by omega),by omega⟩) ⟨.inr (by omega),by omega⟩
 unfold df at AR KP QE
 generalize (((((((((((((w8.setCell ⟨w.heap.size+1,0,none⟩ (.int .i64 p.k)).setCell ⟨w.heap.size+1,1,none⟩ (.int .i64 p.n)).setCell ⟨w.heap.size+1,2,none⟩ (.int .i64 p.x.k)).setCell ⟨w.heap.size+1,3,none⟩ (.int .i64 p.x.v.1)).setCell ⟨w.heap.size+1,4,none⟩ (.int .i64 p.x.v.2.1)).setCell ⟨w.heap.size+1,5,none⟩ (.string p.x.v.2.2)).setCell ⟨w.heap.size+1,6,none⟩ (.int .i64 p.x.c)).setCell ⟨w.heap.size+1,7,none⟩ (.slice q.xa p.x.ks.length q.xc)).setCell ⟨w.heap.size+1,8,none⟩ (.slice q.sa p.xs.length q.sc)).setCell ⟨w.heap.size+1,9,none⟩ (.slice q.ga p.gs.length q.gc)).setCell ⟨w.heap.size+1,10,none⟩ (.slice q.ka o q.kc)).setCell ⟨w.heap.size+1,11,none⟩ (.slice ca cl cc)).setCell ⟨w.heap.size+1,12,none⟩ (.slice (some ⟨g,0,none⟩) 2 gc))=w9 at *
 have FIN:aT ts (eA S w) w9 (.agg (aJ p q o ca cl cc (some ⟨g,0,none⟩) 2 gc)) (.mk p.k p.n p.x p.xs p.gs (p.ks.set j fk)):=by
  have B8:=(HP.out.mono (S':=eA S w) fun b h _=>.inl h).next (ah.of AR);refine ⟨q,o,ca,cc,some ⟨g,0,none⟩,gc,?_,⟨B8.x,B8.xs,B8.gs,by rw [HC.out]; exact B8.af,?_⟩⟩
  ·unfold cH bL;rw [HC.out,HCL.out];have e:(Pl.mk p.k p.n p.x p.xs p.gs (p.ks.set j fk)).ks.length=2:=by show (p.ks.set j fk).length=2; rw [List.length_set]; exact HKL.out
   rw [e];rfl
  ·exact (RN.next (KP.mono fun _ h=>h.2)).mono fun b h _=>h.1
 obtain ⟨r0,r1,r2,r3,r4,r5,r6,r7,r8,r9,r10,r11,r12⟩:=aB QE;exact Hf (v:=.agg (aJ p q o ca cl cc (some ⟨g,0,none⟩) 2 gc)) (by simp [results,Tryz.results36,go_sem,r0,r1,r2,r3,r4,r5,r6,r7,r8,r9,r10,r11,r12]) rfl ⟨_,rfl,by rw [HFK.out]; exact FIN,AR⟩
theorem iL {P:Program} {w:World} {ops:Array Oper} {rest:List Oper} {o:Oper} {a:Act} {Q:Exit→Act→World→Prop} (hgd:o.guard=none) (s x:Operand) (t:TypeId)
  (ho:o.op = .call { callee:=.builtin .append,args:=#[s,x],argTypes:=#[t,t] })
  (base:Nat) (e:TypeId) (i:TypeInfo) (z:Value) (size bytes:Nat) (ht:P.underlying t=some (.slice e)) (hi:P.info? e=some i) (hz:i.zero=some z)
  (hsize:i.size=size) (hby:i.bytes=bytes) (hzs:z.cells.size=size) (hsz:0<size)
  (v:Value) (n:Nat) (xs:List Value) (hs:a.eval s=v) (hown:w.ownsRow base e size v n xs)
  (ad:Addr) (m c:Nat) (news:List Value) (hx:a.eval x = .slice (some ad) m c) (hl:news.length=m*size) (hnews:∀ j u,news[j]? = some u→w.cell? (ad.add j)=some u) (h1:∀ u ∈ news,u.oneCell'=true)
  (h63:n+m≤maxLen) (hbytes:(n+m)*bytes≤140737488355328) (hbase:base≤w.heap.size)
  (h:∀ v' w',w'.ownsRow base e size v' (n+m) (xs ++ news)→w.grownBy w' v.ownBlock→(v'.ownBlock=v.ownBlock∨v'.ownBlock=some w.heap.size)→wpList P ops Q rest (a.put o.dst v') w'):wpList P ops Q (o :: rest) a w:=by
 refine wpList_plain hgd fun K hK=>?_
 obtain ⟨v',w',hr,h2,h3,_,h5⟩:=run_append_own_at (P:=P) w base t o.type e i z size bytes ht hi hz hsize hby hzs hsz v n xs hown ad m c news hl hnews h1 h63 hbytes hbase;unfold Oper.wp;simp [execOp,ho,resolve,invoke,builtin,hs,hx,hr,Result.andThen];exact hK _ _ (h v' w' h2 h3 h5)
theorem Di {x:Ex} {a:Option Addr} {c:Nat}:∀ u ∈ lK x a c,u.oneCell'=true:=by
 intro u hu;simp only [lK,H6,I4,or_false] at hu;rcases hu with rfl | rfl | rfl | rfl | rfl | rfl <;> rfl
theorem nC {W:World} {g:Nat} {L:List Value} {T:TypeId} (h:W.heap[g]? = some (.cells L.toArray T (0,0))):∀ j u,L[j]? = some u→W.cell? ((⟨g,0,none⟩:Addr).add j)=some u:=fun j u hj=>by
 rw [dK,Hu]
 exact cell_of (i:=j) h (by simpa using hj)
theorem i6 (P:Int→Prop) (xs:List Ex) (a:Option Addr) (cap:Nat) (w:World) (hx:aO w.heap.size w a xs) (hw:∀ x ∈ xs,dz P x) (hl:xs.length≤100000) :
  Calls Tryz.prog 25 #[.slice a xs.length cap] w fun e w'=>∃ a' c',e = .returned (.slice a' xs.length c')∧dD (fun b=>w.heap.size≤b) w' a' (bB (fun c=>c) xs)∧Below w.heap.size w w':=by
 obtain ⟨i0,hi,hj0,hj1,hj2⟩:=info_parts Ey;have HW:Hid (∀ x ∈ xs,dz P x):=hw;have HX:Hid (aO w.heap.size w a xs):=hx;clear hw hx;go_enter Tryz.func25,Tryz.ntmps25;go_wp2_with fail
 go_loopw [3,8] (fun s i wr=>∃ j:Nat,j≤xs.length∧i = .int .i64 j∧bR Fu 27 6 w.heap.size (fun b=>w.heap.size≤b) wr s (bB (fun c=>c) (xs.take j))∧Below w.heap.size w wr) (fun _ i _=>xs.length - (intOf i).toNat)
 case atStart=>exact ⟨0,Hl _,rfl,by rw [List.take_zero,bB]; exact bR.nil _ _ _ _ _ _,He _ _⟩
 case round =>
  obtain ⟨j,hj,rfl,OS,hb⟩:=hrel;by_cases hlt:j<xs.length
  ·obtain ⟨b,off,ai,ci,rfl,hbl,sx,kx⟩:=(aO.next hb (Hd _) HX.out).elem hlt;obtain ⟨x0,x1,x2,x3,x4,x5⟩:=sx;have hjz:(j:Int)<(xs.length:Int):=by omega
   have hal:=aa wr (.cells (aW xs[j] ai ci) 27);have qk:=an wr (aW xs[j] ai ci) 27;have hz:=hb.size;have con:=j0 (fun c=>c) P xs[j] (.func (.func 24) #[] #[]) ai ci (wr.alloc (.cells (aW xs[j] ai ci) 27)) (qI P _) (HW.out xs[j] (Hm hlt)) ((aO.next hal hz kx).up (HJ hz hal.size));obtain ⟨y,hy⟩:∃ y,il (fun c=>c) xs[j]=y:=⟨_,rfl⟩
   rw [hy] at con;have HT:Hid (bB (fun c=>c) (xs.take (j+1))=bB (fun c=>c) (xs.take j) ++ [y]):=by show _=_; rw [← hy]; exact pO _ hlt
   have hln:(bB (fun c=>c) (xs.take j)).length=j:=by rw [dr,Ij]; omega
   have HLN:Hid ((bB (fun c=>c) (xs.take j)).length=j):=hln;have hnb:=OS.lt;clear hln hy kx;go_wp2_with fail
   refine con.mono ?_;rintro e w5 ⟨ya,yc,rfl,KY,hb5⟩;clear con x0 x1 x2 x3 x4 x5;have D5:=chain hal hb5;have al6:=aa w5 (.cells (aW y ya yc) 27);have q6:=an w5 (aW y ya yc) 27;have D6:=chain D5 al6;have KY6:=KY.next (ah.of al6);obtain ⟨ys,o6,en6'⟩:=OS.next Et D6;have z5:=D5.size;have z6:=al6.size;have l9:=HLN.out;have hws:w.heap.size≤(w5.alloc (.cells (aW y ya yc) 27)).heap.size:=by omega
   dsimp only;go_wp2_with (at_builtin; refine iL rfl _ _ 25 rfl w.heap.size 27 i0 _ 6 72 Tryz.underlying25 hi hj0 hj1 hj2 rfl (by decide) u3 _ ys rfl o6 ⟨w5.heap.size,0,none⟩ 1 1 (lK y ya yc) rfl rfl (nC q6) Di (by unfold maxLen; omega) (by omega) hws ?_)
   intro v' w7 o7 g7 hd7;have OS7:bR Fu 27 6 w.heap.size (fun b=>w.heap.size≤b) w7 v' (bB (fun c=>c) (xs.take j) ++ [y]):=bR.push Et o6 en6' rfl ⟨ya,yc,rfl,KY6.mono fun b hb hl=>⟨by have:=hal.size; omega,hl,fun e=>by have:=(hnb b e).2; have:=hal.size; omega⟩⟩ (by rw [HLN.out]; exact o7) g7 (by simpa only [Hg] using hd7);have A7:Below w.heap.size w w7:=(chain hb D6).trans ((He _ _).grown g7 (by omega) (fun q hq=>(hnb q hq).1));clear o6 en6' o7 g7 hd7 KY6 KY q6 al6 D6 D5;go_wp2
   go_roundw
   case rel=>exact ⟨j+1,by omega,by go_num,by rw [HT.out]; exact OS7,A7⟩
   case measure=>simp [intOf]; omega
  ·have e:j=xs.length:=by omega
   subst e;rw [Ib] at OS;obtain ⟨sa,sc,rfl,KS⟩:=OS.GV (fun _ h=>h);have hlen:=dr (fun c=>c) xs;have HLE:Hid ((bB (fun c=>c) xs).length=xs.length):=hlen;clear hlen OS;go_wp2
   go_ret;exact ⟨sa,sc,by simp [HLE.out],KS,hb⟩
mutual
def nQ (ts:List (List Int)):Pl→Prop
 | .mk k n x xs gs ks=>bu ts (.mk k n x xs gs ks)=0∧sg ts ks
def sg (ts:List (List Int)):List Pl→Prop
 | []=>True
 | p :: r=>nQ ts p∧sg ts r
end
theorem lN {ts:List (List Int)}:∀ {l:List Pl},sg ts l↔∀ p ∈ l,nQ ts p
 | []=>by simp [sg]
 | p :: r=>by rw [sg,lN (l:=r)]; simp
theorem tY {k:Int} {n:Nat} {m d m' d':Int} (h:dH k n m d=0) (hm:m'≤m) (hd:d'≤d):dH k n m' d'=0:=by
 unfold dH at h ⊢;by_cases c:60<m∨15<d
 ·rw [if_pos c] at h; cases h
 ·rw [if_neg c] at h;rw [if_neg (by omega)];exact h
theorem mT {ts:List (List Int)}:∀ (l:List Pl),(∀ p ∈ l,∀ m d m' d':Int,(aS ts p m d).1=0→m'≤m→d'≤d→(aS ts p m' d').1=0∧(aS ts p m' d').2 - m'=(aS ts p m d).2 - m)→∀ m d m' d':Int,(aP ts l m d).1=0→m'≤m→d'≤d→(aP ts l m' d').1=0∧(aP ts l m' d').2 - m'=(aP ts l m d).2 - m
 | [],_,m,d,m',d',_,_,_=>by simp [aP]
 | p :: r,ih,m,d,m',d',h,hm,hd=>by
  rw [aP] at h
  by_cases c:(aS ts p m d).1=0
  ·rw [if_neg (by simp [c])] at h
   obtain ⟨h1,h2⟩:=ih p (by simp) m d m' d' c hm hd
   have e1:aP ts (p :: r) m d=aP ts r (aS ts p m d).2 d:=by rw [aP,if_neg (by simp [c])]
   have e2:aP ts (p :: r) m' d'=aP ts r (aS ts p m' d').2 d':=by rw [aP,if_neg (by simp [h1])]
   rw [e1,e2]
   obtain ⟨h3,h4⟩:=mT r (fun q hq=>ih q (by simp [hq])) (aS ts p m d).2 d (aS ts p m' d').2 d' h (by omega) hd
   exact ⟨h3,by omega⟩
  ·rw [if_pos c] at h; exact absurd h c
theorem uX {ts:List (List Int)}:∀ (p:Pl) (m d m' d':Int),(aS ts p m d).1=0→m'≤m→d'≤d→(aS ts p m' d').1=0∧(aS ts p m' d').2 - m'=(aS ts p m d).2 - m :=
 Pl.ind fun k n x xs gs ks ih m d m' d' h hm hd=>by
  obtain ⟨h1,h2,h3,h4⟩:=eU h
  obtain ⟨g1,g2⟩:=mT ks (fun p hp=>ih p hp) (m+1) (d+1) (m'+1) (d'+1) h2 (by omega) (by omega)
  have h5:(aS ts (.mk k n x xs gs ks) m' d')=(ep ts k n x xs gs (aU ts ks),(aP ts ks (m'+1) (d'+1)).2):=by
   rw [aS,if_neg (by simp [tY h1 (show m'+1≤m+1 by omega) hd]),if_neg (by simp [g1])]
  rw [h5];refine ⟨h3,?_⟩;rw [h4];simp only;omega
theorem GN {ts:List (List Int)} (hts:fE ts=0):∀ (p:Pl) (m d:Int),0≤m→1≤d→(aS ts p m d).1=0→nQ ts p :=
 Pl.ind fun k n x xs gs ks ih m d hm hd h=>by
  rw [nQ]
  refine ⟨?_,lN.2 fun r hr=>?_⟩
  ·unfold bu
   rw [if_neg (by simp [hts])]
   exact (uX _ m d 0 1 h hm hd).1
  ·obtain ⟨_,h2,_⟩:=eU h
   have key:∀ (l:List Pl) (m:Int),0≤m→(aP ts l m (d+1)).1=0→∀ p ∈ l,∃ m',0≤m'∧(aS ts p m' (d+1)).1=0:=by
    intro l
    induction l with
    | nil=>intro m _ _ p hp; cases hp
    | cons q l ihl =>
     intro m hm hl p hp;rw [aP] at hl;by_cases c:(aS ts q m (d+1)).1=0
     ·rw [if_neg (by simp [c])] at hl;rcases List.mem_cons.1 hp with rfl | hp
      ·exact ⟨m,hm,c⟩
      ·exact ihl _ (by have:=(wR ts q m (d+1) c).1; omega) hl p hp
     ·rw [if_pos c] at hl; exact absurd hl c
   obtain ⟨m',hm',h'⟩:=key ks (m+1) (by omega) h2 r hr;exact ih r hr m' (d+1) hm' (by omega) h'
def Cf (ts:List (List Int)) (p:Pl):Prop:=∀ (B:Nat) (q:Pw) (ta:Option Addr) (tc:Nat) (w:World),B≤w.heap.size→ki B w p q→gP B w ta ts→nQ ts p→cF p →
 Calls Tryz.prog 12 #[.slice ta ts.length tc,fp p q] w fun e w'=>∃ v,e = .returned v∧aT ts (fun b=>b<B∨w.heap.size≤b) w' v p∧Below w.heap.size w w'
theorem BA {ts:List (List Int)} {p:Pl} (h:nQ ts p):bu ts p=0∧(∀ r ∈ p.ks,nQ ts r)∧p.ks.length≤2:=by
 obtain ⟨k,n,x,xs,gs,ks⟩:=p;rw [nQ] at h;refine ⟨h.1,lN.1 h.2,?_⟩;have h1:=(eH h.1).2;obtain ⟨h2,_⟩:=eU h1;show ks.length≤2;rw [(gG h2).1];exact kU k
theorem tE (ts:List (List Int)) (p:Pl) (ih:∀ r ∈ p.ks,Cf ts r):Cf ts p:=by
 intro B q ta tc w hBw hp hT hlk hok;obtain ⟨i0,hi,hj0,hj1,hj2⟩:=info_parts Cr;obtain ⟨cl,hcl⟩:∃ cl,(aj ts p).length=cl:=⟨_,rfl⟩
 have HCL:Hid ((aj ts p).length=cl):=hcl;have HLK:Hid (bu ts p=0∧(∀ r ∈ p.ks,nQ ts r)∧p.ks.length≤2):=BA hlk;have HOK:Hid (cF p):=hok;have HP:Hid (ki B w p q):=hp;have HT:Hid (gP B w ta ts):=hT;have IH:Hid (∀ r ∈ p.ks,Cf ts r):=ih;obtain ⟨ka,hka⟩:∃ ka,q.ka=ka:=⟨_,rfl⟩
 have HKA:Hid (q.ka=ka):=hka;have HKS:Hid (gS B w ka p.ks):=by rw [← hka]; exact hp.ks
 unfold fp gq;rw [hka];clear hcl hp hT hlk hok ih hka
 have A:Below w.heap.size w ((w.alloc (.cells #[.int .i64 p.k,.int .i64 p.n,.int .i64 p.x.k,.int .i64 p.x.v.1,.int .i64 p.x.v.2.1,.string p.x.v.2.2,.int .i64 p.x.c,.slice q.xa p.x.ks.length q.xc,.slice q.sa p.xs.length q.sc,.slice q.ga p.gs.length q.gc,.slice ka p.ks.length q.kc] 31)).alloc (.cells aH 50)):=(((He w.heap.size w).alloc (Hd _) (.cells #[.int .i64 p.k,.int .i64 p.n,.int .i64 p.x.k,.int .i64 p.x.v.1,.int .i64 p.x.v.2.1,.string p.x.v.2.2,.int .i64 p.x.c,.slice q.xa p.x.ks.length q.xc,.slice q.sa p.xs.length q.sc,.slice q.ga p.gs.length q.gc,.slice ka p.ks.length q.kc] 31)).alloc (by simp only [Hg]; omega) (.cells aH 50))
 have Z:w.heap.size+2≤((w.alloc (.cells #[.int .i64 p.k,.int .i64 p.n,.int .i64 p.x.k,.int .i64 p.x.v.1,.int .i64 p.x.v.2.1,.string p.x.v.2.2,.int .i64 p.x.c,.slice q.xa p.x.ks.length q.xc,.slice q.sa p.xs.length q.sc,.slice q.ga p.gs.length q.gc,.slice ka p.ks.length q.kc] 31)).alloc (.cells aH 50)).heap.size:=by simp only [Hg]; omega
 have Q0:((w.alloc (.cells #[.int .i64 p.k,.int .i64 p.n,.int .i64 p.x.k,.int .i64 p.x.v.1,.int .i64 p.x.v.2.1,.string p.x.v.2.2,.int .i64 p.x.c,.slice q.xa p.x.ks.length q.xc,.slice q.sa p.xs.length q.sc,.slice q.ga p.gs.length q.gc,.slice ka p.ks.length q.kc] 31)).alloc (.cells aH 50)).heap[w.heap.size]? = some (.cells #[.int .i64 p.k,.int .i64 p.n,.int .i64 p.x.k,.int .i64 p.x.v.1,.int .i64 p.x.v.2.1,.string p.x.v.2.2,.int .i64 p.x.c,.slice q.xa p.x.ks.length q.xc,.slice q.sa p.xs.length q.sc,.slice q.ga p.gs.length q.gc,.slice ka p.ks.length q.kc] 31 (0,0)):=by
  rw [aD _ _ (by simp only [Hg]; omega)];exact aw w #[.int .i64 p.k,.int .i64 p.n,.int .i64 p.x.k,.int .i64 p.x.v.1,.int .i64 p.x.v.2.1,.string p.x.v.2.2,.int .i64 p.x.c,.slice q.xa p.x.ks.length q.xc,.slice q.sa p.xs.length q.sc,.slice q.ga p.gs.length q.gc,.slice ka p.ks.length q.kc] 31 rfl
 have Q1:((w.alloc (.cells #[.int .i64 p.k,.int .i64 p.n,.int .i64 p.x.k,.int .i64 p.x.v.1,.int .i64 p.x.v.2.1,.string p.x.v.2.2,.int .i64 p.x.c,.slice q.xa p.x.ks.length q.xc,.slice q.sa p.xs.length q.sc,.slice q.ga p.gs.length q.gc,.slice ka p.ks.length q.kc] 31)).alloc (.cells aH 50)).heap[w.heap.size+1]? = some (.cells aH 50 (0,0)):=by
  exact aw (w.alloc (.cells #[.int .i64 p.k,.int .i64 p.n,.int .i64 p.x.k,.int .i64 p.x.v.1,.int .i64 p.x.v.2.1,.string p.x.v.2.2,.int .i64 p.x.c,.slice q.xa p.x.ks.length q.xc,.slice q.sa p.xs.length q.sc,.slice q.ga p.gs.length q.gc,.slice ka p.ks.length q.kc] 31)) aH 50 (by simp only [Hg])
 have con:=AW ts p q ta tc ((w.alloc (.cells #[.int .i64 p.k,.int .i64 p.n,.int .i64 p.x.k,.int .i64 p.x.v.1,.int .i64 p.x.v.2.1,.string p.x.v.2.2,.int .i64 p.x.c,.slice q.xa p.x.ks.length q.xc,.slice q.sa p.xs.length q.sc,.slice q.ga p.gs.length q.gc,.slice ka p.ks.length q.kc] 31)).alloc (.cells aH 50)) ((HT.out.next A hBw).up (HJ hBw A.size)) ((HP.out.next A hBw).up (HJ hBw A.size)) HOK.out;have eC:dv ts p=aj ts p:=by unfold dv; rw [if_pos HLK.out.1]
 rw [eC,HLK.out.1,HCL.out] at con;clear eC;unfold fp gq at con;rw [HKA.out] at con;go_enter Tryz.func12,Tryz.ntmps12;go_upto_region 1 with fail
 generalize ((w.alloc (.cells #[.int .i64 p.k,.int .i64 p.n,.int .i64 p.x.k,.int .i64 p.x.v.1,.int .i64 p.x.v.2.1,.string p.x.v.2.2,.int .i64 p.x.c,.slice q.xa p.x.ks.length q.xc,.slice q.sa p.xs.length q.sc,.slice q.ga p.gs.length q.gc,.slice ka p.ks.length q.kc] 31)).alloc (.cells aH 50))=w2 at *;obtain ⟨n0,n1,n2,n3,n4,n5,n6,n7,n8,n9,n10⟩:=bz Q0;go_wp2_with fail
 refine con.mono ?_;rintro e w3 ⟨ca,cc,rfl,IC,hb3⟩;clear con n0 n1 n2 n3 n4 n5 n6 n7 n8 n9 n10;have A3:=chain A hb3;have Q03:=(hb3.block _ (ae Q0)).trans Q0;have Q13:=(hb3.block _ (ae Q1)).trans Q1;have z3:=hb3.size;clear Q0 Q1;obtain ⟨n0,n1,n2,n3,n4,n5,n6,n7,n8,n9,n10⟩:=bz Q03
 have al:=aa w3 (.cells #[.int .i64 p.k,.int .i64 p.n,.int .i64 p.x.k,.int .i64 p.x.v.1,.int .i64 p.x.v.2.1,.string p.x.v.2.2,.int .i64 p.x.c,.slice q.xa p.x.ks.length q.xc,.slice q.sa p.xs.length q.sc,.slice q.ga p.gs.length q.gc,.slice ka p.ks.length q.kc,.slice ca cl cc,.slice none 0 0] 50)
 have QO:=an w3 #[.int .i64 p.k,.int .i64 p.n,.int .i64 p.x.k,.int .i64 p.x.v.1,.int .i64 p.x.v.2.1,.string p.x.v.2.2,.int .i64 p.x.c,.slice q.xa p.x.ks.length q.xc,.slice q.sa p.xs.length q.sc,.slice q.ga p.gs.length q.gc,.slice ka p.ks.length q.kc,.slice ca cl cc,.slice none 0 0] 50;dsimp only;go_upto_region 3 with fail
 clear n0 n1 n2 n3 n4 n5 n6 n7 n8 n9 n10;have A4:=chain A3 al;have Q04:=(al.block _ (ae Q03)).trans Q03;have Q14:=(al.block _ (ae Q13)).trans Q13;have lo:=ae QO;have HIC:Hid (kX 0 w2.heap.size w3 ca (aj ts p)):=IC;generalize w3.alloc (.cells #[.int .i64 p.k,.int .i64 p.n,.int .i64 p.x.k,.int .i64 p.x.v.1,.int .i64 p.x.v.2.1,.string p.x.v.2.2,.int .i64 p.x.c,.slice q.xa p.x.ks.length q.xc,.slice q.sa p.xs.length q.sc,.slice q.ga p.gs.length q.gc,.slice ka p.ks.length q.kc,.slice ca cl cc,.slice none 0 0] 50)=w4 at *;have z4:=al.size
 have HK34:Hid (Below w3.heap.size w3 w4):=al;clear Q03 Q13 A3 IC al A;have hx10:w4.cell? ⟨w.heap.size,10,none⟩=some (.slice ka p.ks.length q.kc):=cell_of (i:=10) Q04 rfl;have h2:=HLK.out.2.2;go_wp2_with fail
 clear hx10 Q04
 go_loopw [22] (fun i wr=>∃ j:Nat,j≤p.ks.length∧i = .int .i64 j∧(∃ s,wr.heap[w3.heap.size]? = some (.cells #[.int .i64 p.k,.int .i64 p.n,.int .i64 p.x.k,.int .i64 p.x.v.1,.int .i64 p.x.v.2.1,.string p.x.v.2.2,.int .i64 p.x.c,.slice q.xa p.x.ks.length q.xc,.slice q.sa p.xs.length q.sc,.slice q.ga p.gs.length q.gc,.slice ka p.ks.length q.kc,.slice ca cl cc,s] 50 (0,0))∧bR (CB ts) 50 13 w4.heap.size (fun b=>b<B∨w4.heap.size≤b) wr s (p.ks.take j))∧wr.heap[w.heap.size+1]? = some (.cells aH 50 (0,0))∧Below w.heap.size w wr∧ah (fun b=>w2.heap.size≤b∧b<w3.heap.size) w3 wr∧w4.heap.size≤wr.heap.size) (fun i _=>p.ks.length - (intOf i).toNat)
 case atStart=>exact ⟨0,Hl _,rfl,⟨_,QO,by rw [List.take_zero]; exact bR.nil _ _ _ _ _ _⟩,Q14,A4,ah.of HK34.out,Hd _⟩
 case round =>
  clear QO Q14 A4;obtain ⟨j,hj,rfl,⟨s,QO,OS⟩,QZ,hb,hkw,hzr⟩:=hrel;by_cases hlt:j<p.ks.length
  ·obtain ⟨b,off,q1,rfl,hbl,hel,hB⟩:=(gS.next hb hBw HKS.out).elem hlt;obtain ⟨e0,e1,⟨e2,e3,e4,e5,e6,e7⟩,e8,e9,e10⟩:=hel;simp only [IZ,Nat.reduceAdd] at e3 e4 e5 e6 e7;simp only [← IZ] at e3 e4 e5 e6 e7;have hjz:(j:Int)<(p.ks.length:Int):=by omega
   have hal:=aa wr (.cells #[.int .i64 p.ks[j].k,.int .i64 p.ks[j].n,.int .i64 p.ks[j].x.k,.int .i64 p.ks[j].x.v.1,.int .i64 p.ks[j].x.v.2.1,.string p.ks[j].x.v.2.2,.int .i64 p.ks[j].x.c,.slice q1.xa p.ks[j].x.ks.length q1.xc,.slice q1.sa p.ks[j].xs.length q1.sc,.slice q1.ga p.ks[j].gs.length q1.gc,.slice q1.ka p.ks[j].ks.length q1.kc] 31)
   have qk:=an wr #[.int .i64 p.ks[j].k,.int .i64 p.ks[j].n,.int .i64 p.ks[j].x.k,.int .i64 p.ks[j].x.v.1,.int .i64 p.ks[j].x.v.2.1,.string p.ks[j].x.v.2.2,.int .i64 p.ks[j].x.c,.slice q1.xa p.ks[j].x.ks.length q1.xc,.slice q1.sa p.ks[j].xs.length q1.sc,.slice q1.ga p.ks[j].gs.length q1.gc,.slice q1.ka p.ks[j].ks.length q1.kc] 31;have HB:Hid (ki B wr p.ks[j] q1):=hB;have hm:=Hm hlt;have HIH:Hid (Cf ts p.ks[j]∧nQ ts p.ks[j]∧cF p.ks[j]):=⟨IH.out _ hm,HLK.out.2.1 _ hm,HOK.out.ks _ hm⟩
   have HTK:Hid (p.ks.take (j+1)=p.ks.take j ++ [p.ks[j]]):=Ht hlt;have hln:(p.ks.take j).length=j:=by rw [Ij]; omega
   have HLN:Hid ((p.ks.take j).length=j):=hln;have OS':Hid (bR (CB ts) 50 13 w4.heap.size (fun b=>b<B∨w4.heap.size≤b) wr s (p.ks.take j)):=OS;have hnb:=OS.lt;clear hB hm hln OS;go_wp2_with fail
   clear e0 e1 e2 e3 e4 e5 e6 e7 e8 e9 e10;have QOa:=(hal.block _ (by omega)).trans QO;have QZa:=(hal.block _ (by omega)).trans QZ;have za:=hal.size;have lk:=ae qk;generalize wr.alloc (.cells #[.int .i64 p.ks[j].k,.int .i64 p.ks[j].n,.int .i64 p.ks[j].x.k,.int .i64 p.ks[j].x.v.1,.int .i64 p.ks[j].x.v.2.1,.string p.ks[j].x.v.2.2,.int .i64 p.ks[j].x.c,.slice q1.xa p.ks[j].x.ks.length q1.xc,.slice q1.sa p.ks[j].xs.length q1.sc,.slice q1.ga p.ks[j].gs.length q1.gc,.slice q1.ka p.ks[j].ks.length q1.kc] 31)=wa at *
   have hCC:∀ W W':World,(W.heap[w3.heap.size]? = some (.cells #[.int .i64 p.k,.int .i64 p.n,.int .i64 p.x.k,.int .i64 p.x.v.1,.int .i64 p.x.v.2.1,.string p.x.v.2.2,.int .i64 p.x.c,.slice q.xa p.x.ks.length q.xc,.slice q.sa p.xs.length q.sc,.slice q.ga p.gs.length q.gc,.slice (some ⟨b,off,none⟩) p.ks.length q.kc,.slice ca cl cc,s] 50 (0,0))∧W.heap[wr.heap.size]? = some (.cells #[.int .i64 p.ks[j].k,.int .i64 p.ks[j].n,.int .i64 p.ks[j].x.k,.int .i64 p.ks[j].x.v.1,.int .i64 p.ks[j].x.v.2.1,.string p.ks[j].x.v.2.2,.int .i64 p.ks[j].x.c,.slice q1.xa p.ks[j].x.ks.length q1.xc,.slice q1.sa p.ks[j].xs.length q1.sc,.slice q1.ga p.ks[j].gs.length q1.gc,.slice q1.ka p.ks[j].ks.length q1.kc] 31 (0,0)))→Below W.heap.size W W'→(W'.heap[w3.heap.size]? = some (.cells #[.int .i64 p.k,.int .i64 p.n,.int .i64 p.x.k,.int .i64 p.x.v.1,.int .i64 p.x.v.2.1,.string p.x.v.2.2,.int .i64 p.x.c,.slice q.xa p.x.ks.length q.xc,.slice q.sa p.xs.length q.sc,.slice q.ga p.gs.length q.gc,.slice (some ⟨b,off,none⟩) p.ks.length q.kc,.slice ca cl cc,s] 50 (0,0))∧W'.heap[wr.heap.size]? = some (.cells #[.int .i64 p.ks[j].k,.int .i64 p.ks[j].n,.int .i64 p.ks[j].x.k,.int .i64 p.ks[j].x.v.1,.int .i64 p.ks[j].x.v.2.1,.string p.ks[j].x.v.2.2,.int .i64 p.ks[j].x.c,.slice q1.xa p.ks[j].x.ks.length q1.xc,.slice q1.sa p.ks[j].xs.length q1.sc,.slice q1.ga p.ks[j].gs.length q1.gc,.slice q1.ka p.ks[j].ks.length q1.kc] 31 (0,0))):=fun W W' h hb=>⟨(hb.block _ (ae h.1)).trans h.1,(hb.block _ (ae h.2)).trans h.2⟩
   have hdr:Below wa.heap.size wa wa.drew:=(He _ _).drew;have CW:=hCC _ _ ⟨QOa,qk⟩ hdr
   refine ia (fun W=>W.heap[w3.heap.size]? = some (.cells #[.int .i64 p.k,.int .i64 p.n,.int .i64 p.x.k,.int .i64 p.x.v.1,.int .i64 p.x.v.2.1,.string p.x.v.2.2,.int .i64 p.x.c,.slice q.xa p.x.ks.length q.xc,.slice q.sa p.xs.length q.sc,.slice q.ga p.gs.length q.gc,.slice (some ⟨b,off,none⟩) p.ks.length q.kc,.slice ca cl cc,s] 50 (0,0))∧W.heap[wr.heap.size]? = some (.cells #[.int .i64 p.ks[j].k,.int .i64 p.ks[j].n,.int .i64 p.ks[j].x.k,.int .i64 p.ks[j].x.v.1,.int .i64 p.ks[j].x.v.2.1,.string p.ks[j].x.v.2.2,.int .i64 p.ks[j].x.c,.slice q1.xa p.ks[j].x.ks.length q1.xc,.slice q1.sa p.ks[j].xs.length q1.sc,.slice q1.ga p.ks[j].gs.length q1.gc,.slice q1.ka p.ks[j].ks.length q1.kc] 31 (0,0))) 8 (by kernel_rfl) ?_
   refine bD hCC (some 26) (i:=0) (v:=.pointer (some ⟨w3.heap.size,12,none⟩)) rfl rfl (by kernel_rfl) (by kernel_rfl) (by kernel_rfl) (by kernel_rfl) (by kernel_rfl) rfl (fun _ _ _ h=>h) (Or.inl ⟨rfl,fun n hn=>?_⟩) (fun _=>CW) ?_
   ·go_simp
   simp only [Act.put,pA,pB,pC];refine bD hCC (some 27) (i:=1) (v:=s) rfl rfl (by kernel_rfl) (by kernel_rfl) (by kernel_rfl) (by kernel_rfl) (by kernel_rfl) rfl (fun _ _ _ h=>h) (Or.inl ⟨rfl,fun n hn=>?_⟩) (fun _=>CW) ?_
   ·have hcell:n.cell? ⟨w3.heap.size,12,none⟩=some s:=cell_of (i:=12) hn.1 rfl;go_simp
   simp only [Act.put,pA,pB,pC];refine bD hCC (some 28) (i:=2) (v:=.slice ta ts.length tc) rfl rfl (by kernel_rfl) (by kernel_rfl) (by kernel_rfl) (by kernel_rfl) (by kernel_rfl) rfl (fun _ _ _ h=>h) (Or.inl ⟨rfl,fun n hn=>?_⟩) (fun _=>CW) ?_
   ·go_simp
   simp only [Act.put,pA,pB,pC];refine bD hCC (some 29) (i:=3) (v:=.agg #[.int .i64 p.ks[j].k,.int .i64 p.ks[j].n,.int .i64 p.ks[j].x.k,.int .i64 p.ks[j].x.v.1,.int .i64 p.ks[j].x.v.2.1,.string p.ks[j].x.v.2.2,.int .i64 p.ks[j].x.c,.slice q1.xa p.ks[j].x.ks.length q1.xc,.slice q1.sa p.ks[j].xs.length q1.sc,.slice q1.ga p.ks[j].gs.length q1.gc,.slice q1.ka p.ks[j].ks.length q1.kc]) rfl rfl (by kernel_rfl) (by kernel_rfl) (by kernel_rfl) (by kernel_rfl) (by kernel_rfl) rfl (fun _ _ _ h=>h) (Or.inl ⟨rfl,fun n hn=>?_⟩) (fun _=>CW) ?_
   ·have hc0:n.cell? ⟨wr.heap.size,0,none⟩=some (.int .i64 p.ks[j].k):=cell_of (i:=0) hn.2 rfl;have hc1:n.cell? ⟨wr.heap.size,1,none⟩=some (.int .i64 p.ks[j].n):=cell_of (i:=1) hn.2 rfl;have hc2:n.cell? ⟨wr.heap.size,2,none⟩=some (.int .i64 p.ks[j].x.k):=cell_of (i:=2) hn.2 rfl;have hc3:n.cell? ⟨wr.heap.size,3,none⟩=some (.int .i64 p.ks[j].x.v.1):=cell_of (i:=3) hn.2 rfl;have hc4:n.cell? ⟨wr.heap.size,4,none⟩=some (.int .i64 p.ks[j].x.v.2.1):=cell_of (i:=4) hn.2 rfl;have hc5:n.cell? ⟨wr.heap.size,5,none⟩=some (.string p.ks[j].x.v.2.2):=cell_of (i:=5) hn.2 rfl
    have hc6:n.cell? ⟨wr.heap.size,6,none⟩=some (.int .i64 p.ks[j].x.c):=cell_of (i:=6) hn.2 rfl;have hc7:n.cell? ⟨wr.heap.size,7,none⟩=some (.slice q1.xa p.ks[j].x.ks.length q1.xc):=cell_of (i:=7) hn.2 rfl;have hc8:n.cell? ⟨wr.heap.size,8,none⟩=some (.slice q1.sa p.ks[j].xs.length q1.sc):=cell_of (i:=8) hn.2 rfl;have hc9:n.cell? ⟨wr.heap.size,9,none⟩=some (.slice q1.ga p.ks[j].gs.length q1.gc):=cell_of (i:=9) hn.2 rfl;have hc10:n.cell? ⟨wr.heap.size,10,none⟩=some (.slice q1.ka p.ks[j].ks.length q1.kc):=cell_of (i:=10) hn.2 rfl;go_simp
   simp only [Act.put,pA,pB,pC];refine cT (rs:=[4]) (by kernel_rfl) (by simp) ?_;intro w5 hb5 jj hj;obtain rfl:jj=4:=by simpa using hj
   clear hj;have D5:=chain (chain hal hdr) hb5;have B5:=chain hb D5;have CW5:=hCC _ _ CW hb5;have con:=HIH.out.1 B q1 ta tc w5 (HJ hBw B5.size) (HB.out.next D5 (HJ hBw hb.size)) (HT.out.next B5 hBw) HIH.out.2.1 HIH.out.2.2;obtain ⟨y,hy⟩:∃ y,p.ks[j]=y:=⟨_,rfl⟩
   have HY:Hid (p.ks[j]=y):=hy;clear hy;unfold fp at con;refine wpOp_step rfl (fun K hK=>?_);go_simp;refine con.mono ?_;rintro e w6 ⟨v6,rfl,N6,hb6⟩;rw [HY.out] at N6;obtain ⟨q2,o2,ca2,cc2,na2,nc2,rfl,KY⟩:=N6;obtain ⟨cl2,hcl2⟩:∃ cl2,(aj ts y).length=cl2:=⟨_,rfl⟩
   have HCL2:Hid ((aj ts y).length=cl2):=hcl2;unfold cH bL;rw [hcl2];clear hcl2;have D6:=chain D5 hb6;have CW6:=hCC _ _ CW5 hb6;refine hK _ _ ⟨fun _=>CW6,?_⟩;clear hK K con CW5 CW;refine cT (rs:=[5]) (by kernel_rfl) (by simp) ?_;intro w7 hb7 jj hj;obtain rfl:jj=5:=by simpa using hj
   clear hj;refine wpOp_step rfl (fun K hK=>?_);go_simp;have D7:=chain D6 hb7;have CW7:=hCC _ _ CW6 hb7;have hal7:=aa w7 (.cells (aJ y q2 o2 ca2 cl2 cc2 na2 y.ks.length nc2) 50);have q8:(w7.alloc (.cells (aJ y q2 o2 ca2 cl2 cc2 na2 y.ks.length nc2) 50)).heap[w7.heap.size]? = some (.cells (bL ts y q2 o2 ca2 cc2 na2 nc2).toArray 50 (0,0)):=by
    unfold bL;rw [HCL2.out];exact an w7 _ _
   have D8:=chain D7 hal7;have CW8:=hCC _ _ CW7 hal7;have KY8:=(KY.next (ah.of hb7)).next (ah.of hal7);have b6:=hb6.size;have b7:=hb7.size;refine hK _ _ ⟨fun _=>CW8,?_⟩;clear hK K CW7 CW6 KY;generalize w7.alloc (.cells (aJ y q2 o2 ca2 cl2 cc2 na2 y.ks.length nc2) 50)=w8 at *;refine cT (rs:=[6]) (by kernel_rfl) (by simp) ?_;intro w9 hb9 jj hj;obtain rfl:jj=6:=by simpa using hj
   clear hj;have D9:=chain D8 hb9;have CW9:=hCC _ _ CW8 hb9;have KY9:=KY8.next (ah.of hb9);have q9:=(hb9.block _ (ae q8)).trans q8;have d9:=D9.size;have l8:=ae q9;obtain ⟨ys,o9,en9⟩:=OS'.out.next (yz ts) D9;have l9:=HLN.out;refine wpOp_step rfl (fun K hK=>?_);refine Eq.mpr (if_pos (by kernel_rfl)) ?_
   refine bM (some 32) rfl (Operand.tmp 27) (Operand.tmp 31) 48 rfl w4.heap.size 50 i0 _ 13 208 Tryz.underlying48 hi hj0 hj1 hj2 rfl (by decide) s _ ys rfl o9 ⟨w7.heap.size,0,none⟩ 1 1 (bL ts y q2 o2 ca2 cc2 na2 nc2) rfl rfl (nC q9) qJ (by unfold maxLen; omega) (by omega) (by omega) ?_;intro v' w10 o10 g10 hd10;have z10:=g10.size;have OS10:bR (CB ts) 50 13 w4.heap.size (fun b=>b<B∨w4.heap.size≤b) w10 v' (p.ks.take j ++ [y]):=bR.push (yz ts) o9 en9 rfl ⟨q2,o2,ca2,cc2,na2,nc2,rfl,KY9.mono fun b hb hl=>⟨by
    rcases hb with h | h
    ·exact .inl h
    ·exact .inr (by have:=D5.size; omega),hl,fun e=>by
     have h3:=hnb b e;have:=D5.size;rcases hb with h | h <;> omega⟩⟩ o10 g10 hd10
   have QO10:w10.heap[w3.heap.size]? = some (.cells #[.int .i64 p.k,.int .i64 p.n,.int .i64 p.x.k,.int .i64 p.x.v.1,.int .i64 p.x.v.2.1,.string p.x.v.2.2,.int .i64 p.x.c,.slice q.xa p.x.ks.length q.xc,.slice q.sa p.xs.length q.sc,.slice q.ga p.gs.length q.gc,.slice (some ⟨b,off,none⟩) p.ks.length q.kc,.slice ca cl cc,s] 50 (0,0)):=(g10.block _ (ae CW9.1) (fun e=>by have:=(hnb _ e.symm).1; omega)).trans CW9.1
   have QK10:w10.heap[wr.heap.size]? = some (.cells #[.int .i64 p.ks[j].k,.int .i64 p.ks[j].n,.int .i64 p.ks[j].x.k,.int .i64 p.ks[j].x.v.1,.int .i64 p.ks[j].x.v.2.1,.string p.ks[j].x.v.2.2,.int .i64 p.ks[j].x.c,.slice q1.xa p.ks[j].x.ks.length q1.xc,.slice q1.sa p.ks[j].xs.length q1.sc,.slice q1.ga p.ks[j].gs.length q1.gc,.slice q1.ka p.ks[j].ks.length q1.kc] 31 (0,0)):=(g10.block _ (ae CW9.2) (fun e=>by have:=(hnb _ e.symm).2; omega)).trans CW9.2
   have QZ10:w10.heap[w.heap.size+1]? = some (.cells aH 50 (0,0)):=(g10.block _ (by have:=hb.size; omega) (fun e=>by have:=(hnb _ e.symm).1; omega)).trans ((D9.block _ (by omega)).trans QZ);have A10:Below w.heap.size w w10:=(chain hb D9).trans ((He _ _).grown g10 (by have:=hb.size; omega) (fun q hq=>by have:=(hnb q hq).1; omega));have K10:ah (fun b=>w2.heap.size≤b∧b<w3.heap.size) w3 w10:=⟨by omega,fun b hb hl=>(g10.block b (by omega) (fun e=>by have:=(hnb b e.symm).1; omega)).trans ((D9.block b (by omega)).trans (hkw.2 b hb hl))⟩
   refine hK _ _ ⟨fun _=>⟨QO10,QK10⟩,?_⟩;clear hK K CW9 CW8 KY8 KY9 o9 en9 o10 q8 q9 g10 D8 D7 D6 hd10;simp only [Act.put,pA,pB,pC]
   have CW:w10.heap[w3.heap.size]? = some (.cells #[.int .i64 p.k,.int .i64 p.n,.int .i64 p.x.k,.int .i64 p.x.v.1,.int .i64 p.x.v.2.1,.string p.x.v.2.2,.int .i64 p.x.c,.slice q.xa p.x.ks.length q.xc,.slice q.sa p.xs.length q.sc,.slice q.ga p.gs.length q.gc,.slice (some ⟨b,off,none⟩) p.ks.length q.kc,.slice ca cl cc,s] 50 (0,0))∧w10.heap[wr.heap.size]? = some (.cells #[.int .i64 p.ks[j].k,.int .i64 p.ks[j].n,.int .i64 p.ks[j].x.k,.int .i64 p.ks[j].x.v.1,.int .i64 p.ks[j].x.v.2.1,.string p.ks[j].x.v.2.2,.int .i64 p.ks[j].x.c,.slice q1.xa p.ks[j].x.ks.length q1.xc,.slice q1.sa p.ks[j].xs.length q1.sc,.slice q1.ga p.ks[j].gs.length q1.gc,.slice q1.ka p.ks[j].ks.length q1.kc] 31 (0,0)):=⟨QO10,QK10⟩
   refine bD hCC (some 33) (i:=7) (v:=.pointer (some ⟨w3.heap.size,12,none⟩)) rfl rfl (by kernel_rfl) (by kernel_rfl) (by kernel_rfl) (by kernel_rfl) (by kernel_rfl) rfl (fun _ _ _ h=>h) (Or.inl ⟨rfl,fun n hn=>?_⟩) (fun _=>CW) ?_
   ·go_simp
   simp only [Act.put,pA,pB,pC];clear CW;refine cT (rs:=[8]) (by kernel_rfl) (by simp) ?_;intro w11 hb11 jj hj;obtain rfl:jj=8:=by simpa using hj
   clear hj;have QO11:=(hb11.block _ (ae QO10)).trans QO10;have QZ11:=(hb11.block _ (ae QZ10)).trans QZ10;have OS11:=OS10.next (yz ts) hb11;obtain ⟨va,vc,rfl⟩:=OS11.len;generalize (p.ks.take j ++ [y]).length=vn at *;have A11:=chain A10 hb11;have K11:=K10.trans (ah.of hb11);have hc5:w11.cell? ⟨w3.heap.size,12,none⟩=some s:=cell_of (i:=12) QO11 rfl;have hf5:w11.frozen? ⟨w3.heap.size,12,none⟩=false:=Hh w11 (w3.heap.size) 12 _ _ QO11;refine wpOp_step rfl (fun K hK=>?_);go_simp
   have QO12:(w11.setCell ⟨w3.heap.size,12,none⟩ (.slice va vn vc)).heap[w3.heap.size]? = some (.cells #[.int .i64 p.k,.int .i64 p.n,.int .i64 p.x.k,.int .i64 p.x.v.1,.int .i64 p.x.v.2.1,.string p.x.v.2.2,.int .i64 p.x.c,.slice q.xa p.x.ks.length q.xc,.slice q.sa p.xs.length q.sc,.slice q.ga p.gs.length q.gc,.slice (some ⟨b,off,none⟩) p.ks.length q.kc,.slice ca cl cc,.slice va vn vc] 50 (0,0)):=Hn w11 (w3.heap.size) 12 _ _ (.slice va vn vc) QO11
   have QZ12:(w11.setCell ⟨w3.heap.size,12,none⟩ (.slice va vn vc)).heap[w.heap.size+1]? = some (.cells aH 50 (0,0)):=by rw [aq _ _ (by omega)]; exact QZ11
   have A12:Below w.heap.size w (w11.setCell ⟨w3.heap.size,12,none⟩ (.slice va vn vc)):=A11.setCell (p:=⟨w3.heap.size,12,none⟩) (by show w.heap.size≤w3.heap.size; omega) _;have OS12:=OS11.gD (yz ts) (fun _ h=>.inr h) ((ah.refl _ _).set (w3.heap.size) 12 (.slice va vn vc) (by omega));have K12:=K11.set (w3.heap.size) 12 (.slice va vn vc) (fun h=>by have:=h.2; omega);refine hK _ _ ⟨fun h=>absurd h (by decide),?_⟩;clear hc5 hf5 hK K;have zz:w11.heap.size=(w11.setCell ⟨w3.heap.size,12,none⟩ (.slice va vn vc)).heap.size:=by rw [Ip]
   have z11:=hb11.size;generalize w11.setCell ⟨w3.heap.size,12,none⟩ (.slice va vn vc)=w12 at *;refine lJ (by kernel_rfl) ?_;intro w13 hb13;have A13:=chain A12 hb13;have OS13:=OS12.next (yz ts) hb13;have QO13:=(hb13.block _ (ae QO12)).trans QO12;have QZ13:=(hb13.block _ (ae QZ12)).trans QZ12;have K13:=K12.trans (ah.of hb13);have z13:w4.heap.size≤w13.heap.size:=by have:=hb13.size; omega
   clear A12 OS12 QO12 QZ12 hb13 OS11 QO11 QZ11 A11 hb11 OS10 QO10 QZ10 QK10 A10 K10 K11 K12 zz;go_wp2
   go_roundw
   case rel=>exact ⟨j+1,by omega,by go_num,⟨_,QO13,by rw [HTK.out,HY.out]; exact OS13⟩,QZ13,A13,K13,z13⟩
   case measure=>simp [intOf]; omega
  ·have e:j=p.ks.length:=by omega
   subst e;rw [Ib] at OS;obtain ⟨sa,sc,rfl,KS⟩:=OS.GF (fun _ h=>.inr h);obtain ⟨o0,o1,o2,o3,o4,o5,o6,o7,o8,o9,o10,o11,o12⟩:=aB QO;obtain ⟨z0,z1,z2,z3,z4,z5,z6,z7,z8,z9,z10,z11,z12⟩:=aB QZ;obtain ⟨zf0,zf1,zf2,zf3,zf4,zf5,zf6,zf7,zf8,zf9,zf10,zf11,zf12⟩:=cL QZ;go_wp2_with fail
   have AP:Below w.heap.size w (nt wr (w.heap.size+1) (.int .i64 p.k) (.int .i64 p.n) (.int .i64 p.x.k) (.int .i64 p.x.v.1) (.int .i64 p.x.v.2.1) (.string p.x.v.2.2) (.int .i64 p.x.c) (.slice q.xa p.x.ks.length q.xc) (.slice q.sa p.xs.length q.sc) (.slice q.ga p.gs.length q.gc) (.slice ka p.ks.length q.kc) (.slice ca cl cc) (.slice sa p.ks.length sc)):=(bf (g:=w.heap.size+1) hb (by omega) (.int .i64 p.k) (.int .i64 p.n) (.int .i64 p.x.k) (.int .i64 p.x.v.1) (.int .i64 p.x.v.2.1) (.string p.x.v.2.2) (.int .i64 p.x.c) (.slice q.xa p.x.ks.length q.xc) (.slice q.sa p.xs.length q.sc) (.slice q.ga p.gs.length q.gc) (.slice ka p.ks.length q.kc) (.slice ca cl cc) (.slice sa p.ks.length sc))
   have KP:ah (fun b=>b≠w.heap.size+1) wr (nt wr (w.heap.size+1) (.int .i64 p.k) (.int .i64 p.n) (.int .i64 p.x.k) (.int .i64 p.x.v.1) (.int .i64 p.x.v.2.1) (.string p.x.v.2.2) (.int .i64 p.x.c) (.slice q.xa p.x.ks.length q.xc) (.slice q.sa p.xs.length q.sc) (.slice q.ga p.gs.length q.gc) (.slice ka p.ks.length q.kc) (.slice ca cl cc) (.slice sa p.ks.length sc)):=(bC (g:=w.heap.size+1) (ah.refl _ wr) (fun h=>h rfl) (.int .i64 p.k) (.int .i64 p.n) (.int .i64 p.x.k) (.int .i64 p.x.v.1) (.int .i64 p.x.v.2.1) (.string p.x.v.2.2) (.int .i64 p.x.c) (.slice q.xa p.x.ks.length q.xc) (.slice q.sa p.xs.length q.sc) (.slice q.ga p.gs.length q.gc) (.slice ka p.ks.length q.kc) (.slice ca cl cc) (.slice sa p.ks.length sc))
   have QE:(nt wr (w.heap.size+1) (.int .i64 p.k) (.int .i64 p.n) (.int .i64 p.x.k) (.int .i64 p.x.v.1) (.int .i64 p.x.v.2.1) (.string p.x.v.2.2) (.int .i64 p.x.c) (.slice q.xa p.x.ks.length q.xc) (.slice q.sa p.xs.length q.sc) (.slice q.ga p.gs.length q.gc) (.slice ka p.ks.length q.kc) (.slice ca cl cc) (.slice sa p.ks.length sc)).heap[w.heap.size+1]? = some (.cells #[.int .i64 p.k,.int .i64 p.n,.int .i64 p.x.k,.int .i64 p.x.v.1,.int .i64 p.x.v.2.1,.string p.x.v.2.2,.int .i64 p.x.c,.slice q.xa p.x.ks.length q.xc,.slice q.sa p.xs.length q.sc,.slice q.ga p.gs.length q.gc,.slice ka p.ks.length q.kc,.slice ca cl cc,.slice sa p.ks.length sc] 50 (0,0)):=(bw (g:=w.heap.size+1) QZ (.int .i64 p.k) (.int .i64 p.n) (.int .i64 p.x.k) (.int .i64 p.x.v.1) (.int .i64 p.x.v.2.1) (.string p.x.v.2.2) (.int .i64 p.x.c) (.slice q.xa p.x.ks.length q.xc) (.slice q.sa p.xs.length q.sc) (.slice q.ga p.gs.length q.gc) (.slice ka p.ks.length q.kc) (.slice ca cl cc) (.slice sa p.ks.length sc))
   clear o0 o1 o2 o3 o4 o5 o6 o7 o8 o9 o10 o11 o12 z0 zf0 z1 zf1 z2 zf2 z3 zf3 z4 zf4 z5 zf5 z6 zf6 z7 zf7 z8 zf8 z9 zf9 z10 zf10 z11 zf11 z12 zf12;unfold nt at AP KP QE
   generalize (((((((((((((wr.setCell ⟨w.heap.size+1,0,none⟩ (.int .i64 p.k)).setCell ⟨w.heap.size+1,1,none⟩ (.int .i64 p.n)).setCell ⟨w.heap.size+1,2,none⟩ (.int .i64 p.x.k)).setCell ⟨w.heap.size+1,3,none⟩ (.int .i64 p.x.v.1)).setCell ⟨w.heap.size+1,4,none⟩ (.int .i64 p.x.v.2.1)).setCell ⟨w.heap.size+1,5,none⟩ (.string p.x.v.2.2)).setCell ⟨w.heap.size+1,6,none⟩ (.int .i64 p.x.c)).setCell ⟨w.heap.size+1,7,none⟩ (.slice q.xa p.x.ks.length q.xc)).setCell ⟨w.heap.size+1,8,none⟩ (.slice q.sa p.xs.length q.sc)).setCell ⟨w.heap.size+1,9,none⟩ (.slice q.ga p.gs.length q.gc)).setCell ⟨w.heap.size+1,10,none⟩ (.slice ka p.ks.length q.kc)).setCell ⟨w.heap.size+1,11,none⟩ (.slice ca cl cc)).setCell ⟨w.heap.size+1,12,none⟩ (.slice sa p.ks.length sc))=w8 at *
   have FIN:aT ts (fun b=>b<B∨w.heap.size≤b) w8 (.agg #[.int .i64 p.k,.int .i64 p.n,.int .i64 p.x.k,.int .i64 p.x.v.1,.int .i64 p.x.v.2.1,.string p.x.v.2.2,.int .i64 p.x.c,.slice q.xa p.x.ks.length q.xc,.slice q.sa p.xs.length q.sc,.slice q.ga p.gs.length q.gc,.slice ka p.ks.length q.kc,.slice ca cl cc,.slice sa p.ks.length sc]) p:=by
    have KB:ah (fun b=>b<B) w w8:=⟨AP.size,fun b hb hl=>AP.block b hl⟩
    have IC3:CD (fun b=>w2.heap.size≤b∧b<w3.heap.size) w3 ca (aj ts p):=by
     obtain ⟨h0,h | ⟨b,off,e,hl,hn,h⟩⟩:=HIC.out
     ·exact ⟨h0,.inl h⟩
     ·exact ⟨h0,.inr ⟨b,off,e,⟨by omega,hl⟩,hl,h⟩⟩
    have ICF:=(IC3.next (hkw.trans (KP.mono fun b h=>by omega))).mono (S':=fun b=>b<B∨w.heap.size≤b) fun b h _=>.inr (by omega)
    refine ⟨q,p.ks.length,ca,cc,sa,sc,by unfold cH bL; rw [HCL.out,HKA.out],⟨?_,?_,?_,ICF,?_⟩⟩
    ·exact ((HP.out.x.s hBw).next KB).mono fun b h _=>.inl h
    ·exact ((HP.out.xs.s hBw).next KB).mono fun b h _=>.inl h
    ·exact ((HP.out.gs.s hBw).next KB).mono fun b h _=>.inl h
    ·exact (KS.next (KP.mono fun b h=>by rcases h with h | h <;> omega)).mono fun b h _=>by
      rcases h with h | h
      ·exact .inl h
      ·exact .inr (by omega)
   obtain ⟨r0,r1,r2,r3,r4,r5,r6,r7,r8,r9,r10,r11,r12⟩:=aB QE;exact Hf (v:=.agg #[.int .i64 p.k,.int .i64 p.n,.int .i64 p.x.k,.int .i64 p.x.v.1,.int .i64 p.x.v.2.1,.string p.x.v.2.2,.int .i64 p.x.c,.slice q.xa p.x.ks.length q.xc,.slice q.sa p.xs.length q.sc,.slice q.ga p.gs.length q.gc,.slice ka p.ks.length q.kc,.slice ca cl cc,.slice sa p.ks.length sc]) (by simp [results,Tryz.results12,go_sem,r0,r1,r2,r3,r4,r5,r6,r7,r8,r9,r10,r11,r12]) rfl ⟨_,rfl,FIN,AP⟩
theorem uB (ts:List (List Int)):∀ p,Cf ts p:=Pl.ind fun k n y xs gs ks ih=>tE ts (.mk k n y xs gs ks) ih
end Go.Proofs.YtjebpkhkjkjphaaGreat
