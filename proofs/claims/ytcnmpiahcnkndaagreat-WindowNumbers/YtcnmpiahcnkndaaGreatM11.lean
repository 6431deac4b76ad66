/- Together: WindowKeeps, G6, G7, PF, G8, HP2, WindowNumbers, XOpen, WOpen. -/
import Derived.Maps.Own
import Derived.Maps.Views
import Derived.Deep.Slices
import Derived.Deep.Strs
import Derived.ProofKit
import Derived.OpenShut
import Derived.ChangeOld
import Derived.Lib.SmallJoins
import Derived.SizedLaws
import Derived.Test.YtcnmpiahcnkndaaGreatM10
import Derived.Test.YtcnmpiahcnkndaaGreatM9
import Derived.Test.YtcnmpiahcnkndaaGreatM8
import Derived.Test.YtcnmpiahcnkndaaGreatM7
import Derived.Test.YtcnmpiahcnkndaaGreatM4
/- tidelaw15.WindowKeeps, its arguments in their order. -/
namespace Go.Proofs.YtcnmpiahcnkndaaGreat
open Go.RowKit Go.Lib Go.Shelf
theorem windowKeeps_walk (ca:Option Addr) (ccap:Nat) (cols:List Int) (pa:Option Addr) (pcap:Nat) (ps:List Ex) (oa:Option Addr) (ocap:Nat) (os:List Ex) (ga:Option Addr) (gcap:Nat) (gs:List Ag) (a:Option Addr) (cap:Nat) (l:List Zp) (w:World) (hc:IsAt w.heap.size w ca cols) (hp:KsAt w.heap.size w pa ps) (ho:KsAt w.heap.size w oa os) (hg:AgAt w.heap.size w ga gs) (h:ZsAt w a l) (_nl:a=none→cap=0) (s0:cols.length≤100000000000000) (s3:gs.length≤100000000000000) :
  Calls Tryz.prog 3 #[.slice ca cols.length ccap,.slice pa ps.length pcap,.slice oa os.length ocap,.slice ga gs.length gcap,.slice a l.length cap] w fun e w'=>e = .returned (.bool true)∧Below w.heap.size w w' :=
 keeps_walk cols ps os gs (by omega) ca ccap pa pcap oa ocap ga gcap a cap l w hc hp ho hg h
end Go.Proofs.YtcnmpiahcnkndaaGreat
/- Aggregates: the walk. -/
namespace Go.Proofs.YtcnmpiahcnkndaaGreat
open Go.RowKit Go.Lib Go.Shelf

/-- Functions of rows in a slice in a variable, the first j of them made. -/
structure RTo (cols:List Int) (K kb M:Nat) (W:World) (Fs:List (List Zp→Vl)) (j:Nat):Prop where
 lt:K<M∧kb<M∧K≠kb∧M≤W.heap.size
 box:W.cell? ⟨kb,0,none⟩=some (.slice (some ⟨K,0,none⟩) Fs.length Fs.length)
 room:∀ i,i<Fs.length→(∃ u,W.cell? ⟨K,i,none⟩=some u)∧W.frozen? ⟨K,i,none⟩=false
 done:∀ i (h:i<Fs.length),i<j→∃ u,W.cell? ⟨K,i,none⟩=some u∧RowsF cols M u Fs[i] W
theorem RTo.next {cols:List Int} {K kb M:Nat} {W w1:World} {Fs:List (List Zp→Vl)} {j:Nat} (h:RTo cols K kb M W Fs j) (hb:Below W.heap.size W w1):RTo cols K kb M w1 Fs j:=by
 obtain ⟨h1,h2,h3,h4⟩:=h
 have z:=hb.size
 refine ⟨⟨h1.1,h1.2.1,h1.2.2.1,by omega⟩,(hb.cell (p:=⟨kb,0,none⟩) (by show kb<_; omega)).trans h2,fun i hi=>?_,fun i hi hj=>?_⟩
 ·obtain ⟨⟨u,hu⟩,hf⟩:=h3 i hi
  exact ⟨⟨u,(hb.cell (p:=⟨K,i,none⟩) (by show K<_; omega)).trans hu⟩,(hb.frozen (p:=⟨K,i,none⟩) (by show K<_; omega)).trans hf⟩
 ·obtain ⟨u,hu,ha⟩:=h4 i hi hj
  exact ⟨u,(hb.cell (p:=⟨K,i,none⟩) (by show K<_; omega)).trans hu,ha.next (Since.of hb)⟩
theorem RTo.store {cols:List Int} {K kb M:Nat} {W:World} {Fs:List (List Zp→Vl)} {j:Nat} (h:RTo cols K kb M W Fs j) (hj:j<Fs.length) {u:Value} (ha:RowsF cols M u Fs[j] W):RTo cols K kb M (W.setCell ⟨K,j,none⟩ u) Fs (j+1):=by
 obtain ⟨h1,h2,h3,h4⟩:=h
 have hS:Since M W (W.setCell ⟨K,j,none⟩ u):=(Since.refl M W).set K j u (by omega)
 have same:(W.setCell ⟨K,j,none⟩ u).cell? ⟨K,j,none⟩=some u:=World.cell?_setCell_same' _ _ _ (by obtain ⟨⟨u',hu⟩,_⟩:=h3 j hj; rw [hu]; rfl)
 refine ⟨⟨h1.1,h1.2.1,h1.2.2.1,by simpa using h1.2.2.2⟩,?_,fun i hi=>?_,fun i hi hij=>?_⟩
 ·rw [World.cell?_setCell_other _ _ _ _ (by intro e; injection e with e; omega)]; exact h2
 ·obtain ⟨⟨u',hu⟩,hf⟩:=h3 i hi
  refine ⟨?_,by rw [World.frozen?_setCell]; exact hf⟩
  by_cases e:i=j
  ·subst e; exact ⟨_,same⟩
  ·exact ⟨u',by rw [World.cell?_setCell_other _ _ _ _ (by intro e; injection e with _ e; omega)]; exact hu⟩
 ·by_cases e:i=j
  ·subst e; exact ⟨u,same,ha.next hS⟩
  ·obtain ⟨u',hu,ha'⟩:=h4 i hi (by omega)
   exact ⟨u',by rw [World.cell?_setCell_other _ _ _ _ (by intro e; injection e with _ e; omega)]; exact hu,ha'.next hS⟩
theorem RTo.kids {cols:List Int} {K kb M lo:Nat} {W:World} {Fs:List (List Zp→Vl)} (h:RTo cols K kb M W Fs Fs.length) (h1:lo≤K) (h2:lo≤kb):KidsR cols lo W kb Fs:=by
 obtain ⟨l1,l2,_,l4⟩:=h
 refine ⟨K,h2,by omega,h1,by omega,l2,fun i hi=>?_⟩
 obtain ⟨u,hu,ha⟩:=l4 i hi hi
 exact ⟨u,hu,ha.down (by omega)⟩
theorem RTo.new {cols:List Int} {w:World} {n:Nat} (Fs:List (List Zp→Vl)) (hn:n=Fs.length) (T T':TypeId) :
  RTo cols w.heap.size (w.heap.size+1) (w.heap.size+2) ((w.alloc (.cells (Array.replicate n Value.nilFunc) T)).alloc (.cells #[.slice (some ⟨w.heap.size,0,none⟩) n n] T')) Fs 0:=by
 subst hn
 refine ⟨⟨by omega,by omega,by omega,by simp⟩,?_,fun i hi=>⟨⟨Value.nilFunc,?_⟩,?_⟩,fun i _ h=>absurd h (Nat.not_lt_zero _)⟩
 ·rw [World.cell?_alloc_at _ _ _ _ (by simp)]; rfl
 ·rw [World.cell?_alloc_past _ _ _ (by simp),World.cell?_alloc_at _ _ _ _ rfl]
  simp [hi]
 ·rw [World.frozen?_alloc_past _ _ _ (by simp)]
  exact World.frozen?_alloc_at _ _ _ _ rfl
/-- A function value makes rows of what aggregates come to. -/
def AggF (cols:List Int) (lo:Nat) (u:Value) (gs:List Ag) (w:World):Prop :=
 ∃ g cb,u = .func (.func g) #[] cb∧(∀ args w,(callFunc g args).run Tryz.prog w = .ok (.enter g args) w) ∧
  ∀ (rows:List Zp) (a:Option Addr) (cap:Nat) (W:World),ROk cols rows→ZsAt W a rows→Since lo w W →
   Calls Tryz.prog g (#[.slice a rows.length cap] ++ cb) W fun e w'=>e = .returned (.slice (some ⟨W.heap.size,0,none⟩) gs.length gs.length)∧RowNew W.heap.size w' (gs.map fun g=>aggP g rows)∧Below W.heap.size W w'
theorem AggF.next {cols:List Int} {lo:Nat} {u:Value} {gs:List Ag} {w w1:World} (h:AggF cols lo u gs w) (hb:Since lo w w1):AggF cols lo u gs w1:=by
 obtain ⟨g,cb,e,eg,hd⟩:=h
 exact ⟨g,cb,e,eg,fun row a cap W hf hs hW=>hd row a cap W hf hs (hb.trans hW)⟩
end Go.Proofs.YtcnmpiahcnkndaaGreat
/- The walk of ops.Group. -/
namespace Go.Proofs.YtcnmpiahcnkndaaGreat
open Go.RowKit Go.Lib Go.Shelf

/-- Parts in memory, to be read. -/
def ElP (W:World) (b o:Nat) (p:Pt):Prop:=(∃ ka kc,W.cell? ⟨b,o,none⟩=some (.slice ka p.1.length kc)∧SlAt W ka p.1)∧∃ ra rc,W.cell? ⟨b,o+1,none⟩=some (.slice ra p.2.length rc)∧ZsAt W ra p.2
theorem ElP.next {W w1:World} {b o:Nat} {p:Pt} (h:ElP W b o p) (hlt:b<W.heap.size) (hb:Below W.heap.size W w1):ElP w1 b o p:=by
 obtain ⟨⟨ka,kc,h1,h2⟩,ra,rc,h3,h4⟩:=h
 exact ⟨⟨ka,kc,(hb.cell (p:=⟨b,_,none⟩) hlt).trans h1,h2.next hb⟩,ra,rc,(hb.cell (p:=⟨b,_,none⟩) hlt).trans h3,h4.next hb⟩
def PtAt (W:World) (a:Option Addr) (ps:List Pt):Prop:=ps = []∨∃ b off,a=some ⟨b,off,none⟩∧b<W.heap.size∧∀ i (hi:i<ps.length),ElP W b (off+i*2) ps[i]
theorem PtAt.next {W w1:World} {a:Option Addr} {ps:List Pt} (h:PtAt W a ps) (hb:Below W.heap.size W w1):PtAt w1 a ps:=by
 rcases h with h | ⟨b,off,e,hlt,h⟩
 ·exact .inl h
 ·exact .inr ⟨b,off,e,Nat.lt_of_lt_of_le hlt hb.size,fun i hi=>(h i hi).next hlt hb⟩
theorem PtAt.elem {W:World} {a:Option Addr} {ps:List Pt} (h:PtAt W a ps) {i:Nat} (hi:i<ps.length):∃ b off,a=some ⟨b,off,none⟩∧b<W.heap.size∧ElP W b (off+i*2) ps[i]:=by
 rcases h with h | ⟨b,off,e,hlt,h⟩
 ·subst h; simp at hi
 ·exact ⟨b,off,e,hlt,h i hi⟩
theorem PsAt.pt {w0:World} {B:Nat} {W:World} {v:Value} {ps:List Pt} (h:PsAt w0 B W v ps) (hb:Below w0.heap.size w0 W):∃ a c,v = .slice a ps.length c∧PtAt W a ps:=by
 obtain ⟨xs,Bl,rv,zs,I⟩:=h
 have o:=I.own
 rcases o.2 with ⟨rfl,h0⟩ | ⟨g,cap,cur,rfl,_⟩
 ·exact ⟨none,0,by rw [h0],.inl (List.eq_nil_of_length_eq_zero h0)⟩
 ·refine ⟨_,cap,rfl,.inr ⟨g,0,rfl,(o.lt g rfl).2,fun i hi=>?_⟩⟩
  obtain ⟨ka,kc,e0,s0⟩:=I.key i hi
  obtain ⟨ra,rc,er,zr⟩:=own_zsB (I.rowB hi) rfl (I.row i hi).2 hb
  refine ⟨⟨ka,kc,?_,s0.next hb⟩,ra,rc,?_,zr⟩
  ·rw [Nat.zero_add,o.cellAt _ (by omega)]; exact e0
  ·rw [Nat.zero_add,o.cellAt _ (by omega),I.cell i hi,er]

end Go.Proofs.YtcnmpiahcnkndaaGreat
/- The first rows come first: plain facts. -/
namespace Go.Proofs.YtcnmpiahcnkndaaGreat
open Go.RowKit

def oneW:List Vl→Int:=fun _=>1
theorem StK.irrefl (x:Kp):¬ StK x x:=fun h=>StK.not h h
/-- How many rows there are that are there. -/
def posW:List Zp→Int
 | []=>0
 | x :: r=>(if 0<x.2 then x.2 else 0)+posW r
structure FirstOk (cols:List Int) (key:Int) (n:Int) (z t:List Zp):Prop where
 k0:0≤key
 k1:key<cols.length
 n0:0≤n∧n≤50
 inp:InpOk cols z
 set:IsSet t
 len:t.length≤400
 row:∀ y ∈ t,1≤y.2∧y.2≤wt z y.1∧y.1.length=cols.length
 w6:∀ y ∈ t,y.2≤1000000
 kind:∀ y ∈ t,1≤(y.1.getD key.toNat vl0).1∧(y.1.getD key.toNat vl0).1≤4
 kindz:∀ y ∈ z,1≤(y.1.getD key.toNat vl0).1∧(y.1.getD key.toNat vl0).1≤4
 sum:tot oneW t=min n (posW z)
 rest:∀ r ∈ z,0<r.2→wt t r.1<r.2→tot oneW t=n∧∀ y ∈ t,0≤cmpP (r.1.getD key.toNat vl0) (y.1.getD key.toNat vl0)
end Go.Proofs.YtcnmpiahcnkndaaGreat
/- All are counted: plain facts. -/
namespace Go.Proofs.YtcnmpiahcnkndaaGreat
open Go.RowKit

theorem wt_apart {l:List Zp} (h:l.Pairwise fun x y=>cmpL x.1 y.1≠0):∀ x ∈ l,wt l x.1=x.2:=by
 induction l with
 | nil=>intro x hx; cases hx
 | cons y t ih =>
  obtain ⟨h1,h2⟩:=List.pairwise_cons.1 h
  intro x hx
  rcases List.mem_cons.1 hx with rfl | hx
  ·rw [wt,if_pos (cmpL_refl _),wt_none fun v hv hc=>h1 v hv (by have:=cmpL_neg x.1 v.1; omega)]
   omega
  ·rw [wt,if_neg (h1 x hx),ih h2 x hx]
   omega

/-- The number at a place, as far as its kind has one. -/
def numAt (k:Nat) (r:List Vl):Int:=((bareL r).getD k vl0).2.1
structure CntOk (xs:List Ex) (z t:List Zp):Prop where
 len:t.length≤401
 row:∀ y ∈ t,y.2=1∧y.1.length=xs.length+1∧0≤numAt xs.length y.1∧numAt xs.length y.1≤400000000
 num:∀ y ∈ t,(y.1.getD xs.length vl0).2.1=numAt xs.length y.1
 sum:tot (numAt xs.length) t=posW z
 one:xs.length=0→t.length=1
end Go.Proofs.YtcnmpiahcnkndaaGreat
/- Rows in one part, plainly: their numbers. -/
namespace Go.Proofs.YtcnmpiahcnkndaaGreat
open Go.RowKit Go.Lib Go.Shelf

def OneP (l:List Lp):Prop:=∀ p ∈ l,p.1 = []
theorem line_one (os:List Ex) (z:List Zp):OneP (lineL [] os z):=fun p hp=>by
 obtain ⟨q,_,_,rfl⟩:=lineL_mem hp
 rfl
theorem OneP.at {l:List Lp} (h:OneP l) (k:Nat):(l.getD k lp0).1 = []:=by
 rcases Nat.lt_or_ge k l.length with hk | hk
 ·exact h _ (getD_mem hk)
 ·simp [List.getD,hk,lp0]
theorem ahead_one {l:List Lp} (h:OneP l):∀ k,k≤l.length→aheadL l k=(l.take k).reverse
 | 0,_=>by simp [aheadL]
 | k+1,hk=>by
  have hg:l.getD k lp0=l[k]'(by omega):=by simp [List.getD,show k<l.length by omega]
  rw [aheadL,h.at k,h.at (k+1),if_pos (by rfl),ahead_one h k (by omega),List.take_succ_eq_append_getElem (by omega),List.reverse_append,hg]
  rfl
theorem intV_in {n:Int} (h0:-1000000000000000≤n) (h1:n≤1000000000000000):intV n=(3,n,⟨#[]⟩):=by
 have:inB n=true:=by unfold inB; simp; omega
 unfold intV intK intN
 simp [this]
theorem bare_int (n:Int):bareP (intV n)=intV n:=by
 unfold intV intK intN bareP bareN bareS
 split <;> simp
theorem bareL_get (r:List Vl) (n:Nat):(bareL r).getD n vl0=bareP (r.getD n vl0):=by
 unfold bareL
 rcases Nat.lt_or_ge n r.length with h | h
 ·simp [List.getD,h]
 ·simp [List.getD,h,bareP,vl0,bareN,bareS]
theorem told_at_n {gs:List Ag} {l:List Lp} {n:Nat} (hf:∀ p ∈ l,p.2.2.length=n) {k:Nat} (hk:k<l.length) (j:Nat) (hj:j<gs.length):(toldF gs l k).1.getD (n+j) vl0=winT gs[j] (aheadL l k) (l.getD k lp0):=by
 have hl:=hf _ (getD_mem hk)
 unfold toldF
 simp only [List.getD] at hl ⊢
 rw [List.getElem?_append_right (by omega),show n+j - (l[k]?.getD lp0).2.2.length=j by omega]
 simp [hj]
theorem told_num {gs:List Ag} {l:List Lp} {n:Nat} {e:Ex} (h1:OneP l) (hf:∀ p ∈ l,p.2.2.length=n) {k:Nat} (hk:k<l.length):(toldF ((1,e) :: gs) l k).1.getD n vl0=intV ((k:Int)+1):=by
 have:=told_at_n (gs:=(1,e) :: gs) hf hk 0 (by simp)
 rw [Nat.add_zero] at this
 rw [this]
 show tRow (aheadL l k) (l.getD k lp0)=_
 unfold tRow
 rw [ahead_one h1 k (by omega)]
 simp [show min k l.length=k by omega]
theorem told_apart {gs:List Ag} {l:List Lp} {n:Nat} {e:Ex} (h1:OneP l) (hf:∀ p ∈ l,p.2.2.length=n) (hl:l.length≤400):(toldL ((1,e) :: gs) l).Pairwise fun x y=>cmpL x.1 y.1≠0:=by
 unfold toldL
 rw [List.pairwise_map]
 refine (List.pairwise_lt_range).imp_of_mem fun {i j} hi hj hij he=>?_
 have hi':=List.mem_range.1 hi
 have hj':=List.mem_range.1 hj
 have e1:=bareL_of he
 have e2:=congrArg (fun r=>r.getD n vl0) e1
 simp only [bareL_get] at e2
 rw [told_num h1 hf hi',told_num h1 hf hj',bare_int,bare_int,intV_in (by omega) (by omega),intV_in (by omega) (by omega)] at e2
 simp only [Prod.mk.injEq] at e2
 omega
theorem tot_ones:∀ {l:List Zp},(∀ x ∈ l,x.2=1)→tot (fun _=>1) l=l.length
 | [],_=>rfl
 | x :: r,h=>by
  have h1:=h x (by simp)
  have h2:=tot_ones (l:=r) fun y hy=>h y (by simp [hy])
  rw [tot,h2,h1]
  simp
  omega
theorem canon_apart {l:List Zp} (h:l.Pairwise fun x y=>cmpL x.1 y.1≠0) (h1:∀ x ∈ l,x.2=1):(∀ y ∈ canon l,y.2=1)∧(canon l).length=l.length:=by
 have hw:∀ y ∈ canon l,y.2=1:=fun y hy=>by
  obtain ⟨x,hx,e⟩:=canon_row l y hy
  have a1:=wt_mem (canon_set l).rise y hy
  have a2:cmpL (bareL x.1) x.1=0:=by rw [cmpL_bare]; exact cmpL_refl _
  rw [canon_wt,e,wt_congr a2,wt_apart h x hx,h1 x hx] at a1
  exact a1.symm
 refine ⟨hw,?_⟩
 have a1:=tot_ones hw
 have a2:=tot_ones h1
 rw [tot_canon (fun _ _ _=>rfl)] at a1
 omega
/-- What is known of rows with numbers in one part. -/
structure OneOk (n:Nat) (gs:List Ag) (l:List Lp) (w:List Zp):Prop where
 one:∀ y ∈ w,y.2=1
 len:w.length=l.length
 at_:∀ y ∈ w,∃ k,k<l.length∧y.1=bareL (toldF gs l k).1
 apart:w.Pairwise fun x y=>cmpL x.1 y.1<0
theorem one_ok {cols:List Int} {os:List Ex} {gs:List Ag} {e:Ex} {z:List Zp} (h:windowE cols [] os ((1,e) :: gs) z=0):OneOk cols.length ((1,e) :: gs) (lineL [] os z) (windowZ cols [] os ((1,e) :: gs) z):=by
 have hW:=windowE_ok h
 have hf:∀ p ∈ lineL [] os z,p.2.2.length=cols.length:=fun p hp=>(fit_rowsL hW.hz p hp).len
 have hl:(lineL [] os z).length≤400:=by rw [lineL_len]; exact hW.hc
 have hap:=told_apart (gs:=gs) (e:=e) (line_one os z) hf hl
 have h1:∀ x ∈ toldL ((1,e) :: gs) (lineL [] os z),x.2=1:=fun x hx=>(told_right hW x hx).1
 have hc:=canon_apart hap h1
 rw [windowZ_eq h]
 refine ⟨hc.1,by rw [hc.2,toldL_len],fun y hy=>?_,(canon_set _).rise⟩
 obtain ⟨x,hx,e⟩:=canon_row _ y hy
 obtain ⟨k,hk,rfl⟩:=told_mem hx
 exact ⟨k,hk,e⟩

/-! ### One, two, three -/
theorem dn_rk:∀ h:List Lp,dnS h≤rkS h
 | []=>by decide
 | p :: r=>by
  have h1:=dn_rk r
  have h2:=dnS_bd r
  unfold dnS rkS
  split <;> omega
theorem dn_pos:∀ (r:List Lp) (p:Lp),1≤dnS (p :: r)
 | [],p=>by simp [dnS,newR]
 | q :: r,p=>by
  have h1:=dn_pos r q
  rw [dnS]
  split <;> omega
def gN:List Ag:=[(1,.mk 0 vl0 0 []),(2,.mk 0 vl0 0 []),(3,.mk 0 vl0 0 [])]
structure NumOk (n:Nat) (w:List Zp):Prop where
 row:∀ y ∈ w,y.2=1∧∃ k r d:Int,y.1.getD n vl0=(3,k,⟨#[]⟩)∧y.1.getD (n+1) vl0=(3,r,⟨#[]⟩)∧y.1.getD (n+2) vl0=(3,d,⟨#[]⟩)∧1≤d∧d≤r∧r≤k∧k≤w.length
 ne:w.Pairwise fun x y=>(x.1.getD n vl0).2.1≠(y.1.getD n vl0).2.1
theorem numbers_ok {cols:List Int} {os:List Ex} {z:List Zp} (h:windowE cols [] os gN z=0):NumOk cols.length (windowZ cols [] os gN z):=by
 have hW:=windowE_ok h
 have hO:=one_ok (gs:=[(2,.mk 0 vl0 0 []),(3,.mk 0 vl0 0 [])]) h
 have hf:∀ p ∈ lineL [] os z,p.2.2.length=cols.length:=fun p hp=>(fit_rowsL hW.hz p hp).len
 have hl:(lineL [] os z).length≤400:=by rw [lineL_len]; exact hW.hc
 have hlen:=hO.len
 change (windowZ cols [] os gN z).length=_ at hlen
 have key:∀ k,k<(lineL [] os z).length→∃ r d:Int,(bareL (toldF gN (lineL [] os z) k).1).getD cols.length vl0=(3,(k:Int)+1,⟨#[]⟩)∧(bareL (toldF gN (lineL [] os z) k).1).getD (cols.length+1) vl0=(3,r,⟨#[]⟩)∧(bareL (toldF gN (lineL [] os z) k).1).getD (cols.length+2) vl0=(3,d,⟨#[]⟩)∧1≤d∧d≤r∧r≤k+1:=fun k hk=>by
  have ha:(aheadL (lineL [] os z) k).length=k:=by rw [ahead_one (line_one os z) k (by omega)]; simp; omega
  have b1:=rkS_bd ((lineL [] os z).getD k lp0 :: aheadL (lineL [] os z) k)
  have b2:=dn_rk ((lineL [] os z).getD k lp0 :: aheadL (lineL [] os z) k)
  have b3:=dn_pos (aheadL (lineL [] os z) k) ((lineL [] os z).getD k lp0)
  rw [List.length_cons,ha] at b1
  refine ⟨rkS ((lineL [] os z).getD k lp0 :: aheadL (lineL [] os z) k),dnS ((lineL [] os z).getD k lp0 :: aheadL (lineL [] os z) k),?_,?_,?_,b3,b2,by omega⟩
  ·rw [bareL_get,show gN=(1,.mk 0 vl0 0 []) :: [(2,.mk 0 vl0 0 []),(3,.mk 0 vl0 0 [])] from rfl,told_num (line_one os z) hf hk,bare_int,intV_in (by omega) (by omega)]
  ·rw [bareL_get,told_at_n hf hk 1 (by decide)]
   show bareP (tRank (aheadL (lineL [] os z) k) ((lineL [] os z).getD k lp0))=_
   unfold tRank
   rw [bare_int,intV_in (by omega) (by omega)]
  ·rw [bareL_get,told_at_n hf hk 2 (by decide)]
   show bareP (tDense (aheadL (lineL [] os z) k) ((lineL [] os z).getD k lp0))=_
   unfold tDense
   rw [bare_int,intV_in (by omega) (by omega)]
 refine ⟨fun y hy=>⟨hO.one y hy,?_⟩,?_⟩
 ·obtain ⟨k,hk,e⟩:=hO.at_ y hy
  obtain ⟨r,d,k1,k2,k3,k4,k5,k6⟩:=key k hk
  exact ⟨(k:Int)+1,r,d,by rw [e]; exact k1,by rw [e]; exact k2,by rw [e]; exact k3,k4,k5,k6,by omega⟩
 ·refine hO.apart.imp_of_mem fun {x y} hx hy hlt he=>?_
  obtain ⟨i,hi,ei⟩:=hO.at_ x hx
  obtain ⟨j,hj,ej⟩:=hO.at_ y hy
  obtain ⟨_,_,k1,_⟩:=key i hi
  obtain ⟨_,_,k2,_⟩:=key j hj
  rw [ei,ej] at he
  change ((bareL (toldF gN _ i).1).getD _ vl0).2.1=((bareL (toldF gN _ j).1).getD _ vl0).2.1 at he
  rw [k1,k2] at he
  have:i=j:=by simp at he; omega
  subst this
  rw [ei,ej,cmpL_refl] at hlt
  omega
end Go.Proofs.YtcnmpiahcnkndaaGreat
/- tidelaw15.WindowNumbers. -/
namespace Go.Proofs.YtcnmpiahcnkndaaGreat
open Go.RowKit Go.Lib Go.Shelf Go.Maps

theorem lawI:Keyed Tryz.prog 2:=int_keyed Tryz.underlying2
theorem zeroB (w:World):(zeroValue 4).run Tryz.prog w = .ok (.bool false) w:=by kernel_rfl
/-- The numbers that were there. -/
def hadD (ks:List Int):DataW Unit:=setOf (.lit (.bool true)) (ks.map fun k=>.int .i64 k)
def HadM (W:World) (B:Nat) (ks:List Int):Prop:=W.ownsMap Tryz.prog 2 (plainElem Tryz.prog 4) B ks.length (hadD ks)
theorem HadM.same {W W':World} {B:Nat} {ks:List Int} (h:HadM W B ks) (hs:W'.heap[B]? = W.heap[B]?):HadM W' B ks:=by
 obtain ⟨es,clock,hb,F,hl,hD⟩:=h
 exact ⟨es,clock,hs.trans hb,F,hl,hD⟩
theorem HadM.lt {W:World} {B:Nat} {ks:List Int} (h:HadM W B ks):B<W.heap.size:=World.ownsMap.lt h
theorem HadM.next {W W':World} {B:Nat} {ks:List Int} (h:HadM W B ks) (hb:Below W.heap.size W W'):HadM W' B ks:=h.same (hb.block B h.lt)
set_option maxRecDepth 100000 in
theorem HadM.not {W:World} {B:Nat} {ks:List Int} (h:HadM W B ks) {k:Int} (hk:k ∉ ks) (hw:(Lit.int .i64 k).wf=true):(Instr.lookup 43 (.map (some B)) (.int .i64 k) false).run Tryz.prog W = .ok (.bool false) W:=by
 have hkey:=keyOf_int_mk Tryz.underlying2 hw
 obtain ⟨v,ps,hrun,hv⟩:=World.ownsMap.lookup h lawI Tryz.underlying43 (zeroB W) (plainElem_bool Tryz.underlying4 false) hkey
 have hn:Maps.has (hadD ks) (.int .i64 k)=false:=by
  unfold hadD
  rw [has_setOf _ _ _ (fun x hx=>by obtain ⟨j,_,rfl⟩:=List.mem_map.1 hx; trivial)]
  rw [List.any_eq_false]
  intro x hx
  obtain ⟨j,hj,rfl⟩:=List.mem_map.1 hx
  have hne:(Lit.int .i64 j:Lit) ≠ .int .i64 k:=fun e=>by injection e with _ e; exact hk (e ▸ hj)
  rw [sameKey_ne hne]; simp
 rw [atKey_of_not_has hn] at hv
 have:v = .bool false:=by
  unfold plainElem at hv
  rw [Tryz.underlying4] at hv
  cases v <;> simp at hv
  rw [hv.1]
 rw [hrun,this]
theorem ag_three {W:World} {b:Nat} {g1 g2 g3:Int} {T:TypeId} (h:Bk W b #[.int .i64 g1,.int .i64 0,.int .i64 0,.int .i64 0,.string ⟨#[]⟩,.int .i64 0,.slice none 0 0,.int .i64 g2,.int .i64 0,.int .i64 0,.int .i64 0,.string ⟨#[]⟩,.int .i64 0,.slice none 0 0,.int .i64 g3,.int .i64 0,.int .i64 0,.int .i64 0,.string ⟨#[]⟩,.int .i64 0,.slice none 0 0] T):AgAt W.heap.size W (some ⟨b,0,none⟩) [(g1,.mk 0 vl0 0 []),(g2,.mk 0 vl0 0 []),(g3,.mk 0 vl0 0 [])]:=by
 refine .inr ⟨b,0,fun _=>none,fun _=>0,rfl,h.lt,fun i hi=>?_⟩
 match i,hi with
 | 0,_=>exact ⟨h.cell 0 rfl,⟨h.cell 1 rfl,h.cell 2 rfl,h.cell 3 rfl,h.cell 4 rfl,h.cell 5 rfl,h.cell 6 rfl⟩,.nil _⟩
 | 1,_=>exact ⟨h.cell 7 rfl,⟨h.cell 8 rfl,h.cell 9 rfl,h.cell 10 rfl,h.cell 11 rfl,h.cell 12 rfl,h.cell 13 rfl⟩,.nil _⟩
 | 2,_=>exact ⟨h.cell 14 rfl,⟨h.cell 15 rfl,h.cell 16 rfl,h.cell 17 rfl,h.cell 18 rfl,h.cell 19 rfl,h.cell 20 rfl⟩,.nil _⟩
def numsL (n:Nat) (w:List Zp):List Int:=w.map fun y=>(y.1.getD n vl0).2.1
theorem numsL_take {n:Nat} {w:List Zp} {k:Nat} (h:k<w.length):numsL n (w.take (k+1))=numsL n (w.take k) ++ [(w[k].1.getD n vl0).2.1]:=by
 unfold numsL
 rw [List.take_succ_eq_append_getElem h,List.map_append]; rfl
theorem NumOk.new {n:Nat} {w:List Zp} (h:NumOk n w) {k:Nat} (hk:k<w.length):(w[k].1.getD n vl0).2.1 ∉ numsL n (w.take k):=fun hm=>by
 unfold numsL at hm
 obtain ⟨y,hy,e⟩:=List.mem_map.1 hm
 obtain ⟨j,hj,ej⟩:=List.mem_iff_getElem.1 hy
 have hj':j<k:=by simp at hj; omega
 rw [List.getElem_take] at ej
 subst ej
 exact List.pairwise_iff_getElem.1 h.ne j k (by omega) hk hj' e

set_option maxRecDepth 100000 in
set_option maxHeartbeats 16000000 in
theorem windowNumbers_walk (ca:Option Addr) (ccap:Nat) (cols:List Int) (oa:Option Addr) (ocap:Nat) (os:List Ex) (a:Option Addr) (cap:Nat) (l:List Zp) (w:World) (hc:IsAt w.heap.size w ca cols) (ho:KsAt w.heap.size w oa os) (h:ZsAt w a l) (_nl:a=none→cap=0) (s0:cols.length≤100000000000000) :
  Calls Tryz.prog 4 #[.slice ca cols.length ccap,.slice oa os.length ocap,.slice a l.length cap] w fun e w'=>e = .returned (.bool true)∧Below w.heap.size w w':=by
 have hmm:=@run_makeMap Tryz.prog
 go_enter Tryz.func4,Tryz.ntmps4
 go_wp2_with fail
 refine (alive15_at w).mono ?_
 rintro e w1 ⟨rfl,hb1⟩
 have n1:=(Below.refl w1.heap.size w1).alloc (Nat.le_refl _) (.cells #[.int .i64 1,.int .i64 0,.int .i64 0,.int .i64 0,.string ⟨#[]⟩,.int .i64 0,.slice none 0 0,.int .i64 2,.int .i64 0,.int .i64 0,.int .i64 0,.string ⟨#[]⟩,.int .i64 0,.slice none 0 0,.int .i64 3,.int .i64 0,.int .i64 0,.int .i64 0,.string ⟨#[]⟩,.int .i64 0,.slice none 0 0] 42)
 have G1:=Bk.new w1 #[.int .i64 1,.int .i64 0,.int .i64 0,.int .i64 0,.string ⟨#[]⟩,.int .i64 0,.slice none 0 0,.int .i64 2,.int .i64 0,.int .i64 0,.int .i64 0,.string ⟨#[]⟩,.int .i64 0,.slice none 0 0,.int .i64 3,.int .i64 0,.int .i64 0,.int .i64 0,.string ⟨#[]⟩,.int .i64 0,.slice none 0 0] 42
 go_wp2_with fail
 generalize w1.alloc (.cells #[.int .i64 1,.int .i64 0,.int .i64 0,.int .i64 0,.string ⟨#[]⟩,.int .i64 0,.slice none 0 0,.int .i64 2,.int .i64 0,.int .i64 0,.int .i64 0,.string ⟨#[]⟩,.int .i64 0,.slice none 0 0,.int .i64 3,.int .i64 0,.int .i64 0,.int .i64 0,.string ⟨#[]⟩,.int .i64 0,.slice none 0 0] 42)=wg at *
 have A1:=chain hb1 n1
 have con:Calls Tryz.prog 9 #[.slice ca cols.length ccap,.slice none 0 0,.slice oa os.length ocap,.slice (some ⟨w1.heap.size,0,none⟩) 3 3,.slice a l.length cap] wg fun e w'=>∃ v,e = .returned (.tuple #[v,.int .i64 (windowE cols [] os gN l)])∧OwnZ wg.heap.size w' v (windowZ cols [] os gN l)∧Below wg.heap.size wg w' :=
  window_at cols [] os gN (by simp [gN]; omega) ca ccap none 0 oa ocap _ 3 a cap l wg ((hc.next A1 (Nat.le_refl _)).up A1.size) (.nil _) ((KsAt.next A1 (Nat.le_refl _) ho).up A1.size) (ag_three G1) (h.next A1)
 generalize hE:windowE cols [] os gN l=e1 at con
 generalize hZ:windowZ cols [] os gN l=z1 at con
 have HE:Hid (windowE cols [] os gN l=e1):=hE
 have HZ:Hid (windowZ cols [] os gN l=z1):=hZ
 clear hE hZ G1
 refine con.mono ?_
 rintro e w2 ⟨v2,rfl,O2,hb2⟩
 have A2:=chain A1 hb2
 obtain ⟨a2,c2,rfl,zs2⟩:=O2.zs
 clear con O2
 by_cases h0:e1=0
 ·have hok:windowE cols [] os gN l=0:=by rw [HE.out]; exact h0
  subst h0
  have hnum:=numbers_ok hok
  rw [HZ.out] at hnum
  have HN:Hid (NumOk cols.length z1):=hnum
  have hrows:=window_rows hok
  rw [HZ.out] at hrows
  have HR:Hid (∀ y ∈ z1,y.1.length=cols.length+gN.length∧wrongRowF y.1=0):=hrows
  have h88:cols.length+3≤8:=(windowE_ok hok).h8
  have hww:=window_wrong hok
  rw [HZ.out] at hww
  have hl4:=((wrongZ_iff _).1 hww).1
  clear hok hnum hrows hww
  have M0:HadM (w2.alloc (.map #[] 0)) w2.heap.size []:=World.ownsMap_made w2 _ _ _
  have n2:Below w2.heap.size w2 (w2.alloc (.map #[] 0)):=(Below.refl _ _).alloc (Nat.le_refl _) _
  dsimp only
  go_wp2_with fail
  generalize w2.alloc (.map #[] 0)=w3 at *
  clear hmm
  go_loopw [37] (fun i wr=>∃ k:Nat,k≤z1.length∧i = .int .i64 k∧HadM wr w2.heap.size (numsL cols.length (z1.take k))∧Below w2.heap.size w2 wr) (fun i _=>z1.length - (intOf i).toNat)
  case atStart=>exact ⟨0,Nat.zero_le _,rfl,M0,n2⟩
  case round =>
   clear M0 n2
   obtain ⟨k,hk,rfl,M,hb⟩:=hrel
   by_cases hlt:k<z1.length
   ·obtain ⟨b,off,rfl,hbl,d1,ra,rc,d0,sr⟩:=zs2.elem hlt
    obtain ⟨hy1,kv,r,d,g1,g2,g3,q1,q2,q3,q4⟩:=HN.out.row z1[k] (List.getElem_mem hlt)
    have hyl:z1[k].1.length=cols.length+3:=(HR.out z1[k] (List.getElem_mem hlt)).1
    have hnew:=HN.out.new hlt
    have HT:Hid (numsL cols.length (z1.take (k+1))=numsL cols.length (z1.take k) ++ [(z1[k].1.getD cols.length vl0).2.1]):=numsL_take hlt
    rw [g1] at hnew
    have HT2:Hid (numsL cols.length (z1.take (k+1))=numsL cols.length (z1.take k) ++ [kv]):=by show _=_; rw [HT.out,g1]
    have hwf:(Lit.int .i64 kv).wf=true:=WalkArith.wf_i64 (by omega)
    have e1:z1[k].1[cols.length]'(by omega)=(3,kv,⟨#[]⟩):=by rw [← g1]; simp [List.getD,show cols.length<z1[k].1.length by omega]
    have e2:z1[k].1[cols.length+1]'(by omega)=(3,r,⟨#[]⟩):=by rw [← g2]; simp [List.getD,show cols.length+1<z1[k].1.length by omega]
    have e3:z1[k].1[cols.length+2]'(by omega)=(3,d,⟨#[]⟩):=by rw [← g3]; simp [List.getD,show cols.length+2<z1[k].1.length by omega]
    obtain ⟨rb,ro,rfl,rlt,-,x1,-⟩:=sr.elem (show cols.length<z1[k].1.length by omega)
    obtain ⟨rb',ro',er,-,-,y1,-⟩:=sr.elem (show cols.length+1<z1[k].1.length by omega)
    have er':=Option.some.inj er
    injection er' with er1 er2
    subst er1 er2
    obtain ⟨rb',ro',er3,-,-,u1,-⟩:=sr.elem (show cols.length+2<z1[k].1.length by omega)
    have er':=Option.some.inj er3
    injection er' with er1 er2
    subst er1 er2
    rw [e1] at x1
    rw [e2] at y1
    rw [e3] at u1
    rw [hy1] at d1
    rw [hyl] at d0
    clear e1 e2 e3 g1 g2 g3 er er3 sr HT hy1 hyl
    have c1:=(hb.cell (p:=⟨b,_,none⟩) hbl).trans d1
    have c0:=(hb.cell (p:=⟨b,_,none⟩) hbl).trans d0
    have x1:=(hb.cell (p:=⟨rb,_,none⟩) rlt).trans x1
    have y1:=(hb.cell (p:=⟨rb,_,none⟩) rlt).trans y1
    have u1:=(hb.cell (p:=⟨rb,_,none⟩) rlt).trans u1
    have hal:Below wr.heap.size wr (wr.alloc (.cells #[.slice (some ⟨rb,ro,none⟩) (cols.length+3) rc,.int .i64 1] 33)):=(Below.refl _ _).alloc (Nat.le_refl _) _
    have P:=Bk.new wr #[.slice (some ⟨rb,ro,none⟩) (cols.length+3) rc,.int .i64 1] 33
    have rlt':rb<wr.heap.size:=Nat.lt_of_lt_of_le rlt hb.size
    have x1:=(hal.cell (p:=⟨rb,_,none⟩) rlt').trans x1
    have y1:=(hal.cell (p:=⟨rb,_,none⟩) rlt').trans y1
    have u1:=(hal.cell (p:=⟨rb,_,none⟩) rlt').trans u1
    have M1:=M.next hal
    have hlz:(k:Int)<(z1.length:Int):=by omega
    have cn0:(0:Int)≤(cols.length:Int):=by omega
    have cn1:(cols.length:Int)<((cols.length+3:Nat):Int):=by omega
    have wa1:IntKind.i64.wrap ((cols.length:Int)+1)=(cols.length:Int)+1:=by rw [IntKind.wrap_i64]; omega
    have wa2:IntKind.i64.wrap ((cols.length:Int)+2)=(cols.length:Int)+2:=by rw [IntKind.wrap_i64]; omega
    have ea1:((cols.length:Int)+1).toNat=cols.length+1:=by omega
    have ea2:((cols.length:Int)+2).toNat=cols.length+2:=by omega
    have pa1:(0:Int)≤(cols.length:Int)+1:=by omega
    have pa2:(0:Int)≤(cols.length:Int)+2:=by omega
    have ba1:(cols.length:Int)+1<((cols.length+3:Nat):Int):=by omega
    have ba2:(cols.length:Int)+2<((cols.length+3:Nat):Int):=by omega
    have t1:decide (kv<1)=false:=decide_eq_false (by omega)
    have t2:decide ((z1.length:Int)<kv)=false:=decide_eq_false (by omega)
    have t3:decide (kv<r)=false:=decide_eq_false (by omega)
    have t4:decide (r<d)=false:=decide_eq_false (by omega)
    have t5:decide (d<1)=false:=decide_eq_false (by omega)
    have hB:=chain hb hal
    have HNW:Hid (kv ∉ numsL cols.length (z1.take k)):=hnew
    have HWF:Hid ((Lit.int .i64 kv).wf=true):=hwf
    have hbd:Hid (1≤kv∧kv≤400):=by show _∧_; omega
    clear hnew hwf q1 q2 q3 q4 d0 d1 M
    go_upto_region 11 with fail
    clear c0 c1
    generalize wr.alloc (.cells #[.slice (some ⟨rb,ro,none⟩) (cols.length+3) rc,.int .i64 1] 33)=wa at *
    have p0:=P.cell 0 rfl
    go_upto_region 12 with fail
    clear p0
    have q0:∀ n:Past wa,n.now.cell? ⟨wr.heap.size,0,none⟩=some (.slice (some ⟨rb,ro,none⟩) (cols.length+3) rc):=fun n=>past_cell (P.cell 0 rfl) n
    have q1:∀ n:Past wa,n.now.cell? ⟨wr.heap.size,1,none⟩=some (.int .i64 1):=fun n=>past_cell (P.cell 1 rfl) n
    have px:=past_cell x1
    have py:=past_cell y1
    have pu:=past_cell u1
    have lk:∀ n:Past wa,(Instr.lookup 43 (.map (some w2.heap.size)) (.int .i64 kv) false).run Tryz.prog n.now = .ok (.bool false) n.now:=fun n=>(M1.next n.ok).not HNW.out HWF.out
    haveI:Nonempty (Past wa):=⟨⟨wa,Below.refl _ _⟩⟩
    clear x1 y1 u1
    refine wp_region_past (by kernel_rfl) (by kernel_rfl) ?_
    repeat (go_big_quiet_step (fail))
    refine wpQuiet_nil ?_
    rintro w5 ⟨⟨v5,hb5⟩,h5⟩
    obtain rfl:w5=v5:=h5
    clear q0 q1 px py pu lk
    have M5:=M1.next hb5
    have hB5:=chain hB hb5
    clear M1 hB
    have hlen:(numsL cols.length (z1.take k)).length<maxLen:=by unfold numsL maxLen; simp; omega
    go_wp2_with (first | (at_mapUpdate; refine wpList_mapUpdate_own _ rfl _ _ _ 43 rfl 2 4 lawI Tryz.underlying43 _ w2.heap.size _ _ rfl M5 hlen _ _ _ rfl rfl (keyOf_int_mk Tryz.underlying2 HWF.out) _ [] (plainElem_bool Tryz.underlying4 true) ?_))
    intro w6 M6 g6
    have M6':HadM w6 w2.heap.size (numsL cols.length (z1.take (k+1))):=by
     rw [HT2.out]
     unfold HadM hadD
     rw [List.map_append,List.length_append]
     show World.ownsMap _ _ _ _ _ _ (setOf _ (_ ++ [Lit.int .i64 kv]))
     rw [setOf_snoc]
     exact M6
    have hB6:Below w2.heap.size w2 w6:=hB5.grown g6 hB5.size (fun j hj=>by cases hj; exact Nat.le_refl _)
    clear M6 M5 g6 hB5
    go_wp2_with fail
    go_roundw
    case rel=>exact ⟨k+1,by omega,by go_num,M6',hB6⟩
    case measure=>simp [intOf]; omega
   ·have e:k=z1.length:=by omega
    subst e
    go_wp2_with fail
    go_ret
    exact ⟨rfl,chain A2 hb⟩
 ·have hz1:z1 = []:=by rw [← HZ.out]; exact window_bad (by rw [HE.out]; exact h0)
  subst hz1
  have hne:(e1 != 0)=true:=by simpa using h0
  clear h0
  dsimp only
  go_wp2_with fail
  go_ret
  exact ⟨rfl,A2⟩
end Go.Proofs.YtcnmpiahcnkndaaGreat
/- Opening arguments: numbers, values, expressions. -/
namespace Go.Proofs.YtcnmpiahcnkndaaGreat
open Go.ChangeShapes Go.WideShapes Go.ChangeAt Go.RowKit Go.Joins

set_option maxRecDepth 100000 in
theorem addr_addX (b off i:Nat):(⟨b,off,none⟩:Addr).add i=⟨b,off+i,none⟩:=by
 unfold Addr.add
 by_cases h:i=0 <;> simp [h]
theorem q3:Tryz.prog.cellsOf 3=1:=by kernel_rfl
theorem q2:Tryz.prog.cellsOf 2=1:=by kernel_rfl
theorem q9:Tryz.prog.cellsOf 9=1:=by kernel_rfl
theorem q24:Tryz.prog.cellsOf 38=3:=by kernel_rfl
theorem q25:Tryz.prog.cellsOf 23=1:=by kernel_rfl
theorem q27:Tryz.prog.cellsOf 40=6:=by kernel_rfl
set_option maxRecDepth 100000 in
theorem open_valT {H:Type} {enc:TypeId × Value→H} {W:World} {base:Nat} {sp:Nat→Bool} {hd:Bool} {fuel:Nat} {cs:List Value} {x:DataW H × List MemPlace}
  (h:DataW.trod enc Tryz.prog W base sp hd fuel 38 cs=some x):∃ v:Vl,cs = [.int .i64 v.1,.int .i64 v.2.1,.string v.2.2]:=by
 obtain ⟨y0,y1,y2,m,_,hlen,h0,h1,h2⟩:=Go.Deep.trod_struct3 Tryz.underlying38 h
 rw [q24] at hlen
 match cs,hlen with
 | [c0,c1,c2],_ =>
  simp only [q3,q2,q9] at h0 h1 h2
  obtain ⟨k,e0,_,_⟩:=DataW.trod_int Tryz.underlying3 h0
  obtain ⟨n,e1,_,_⟩:=DataW.trod_int Tryz.underlying2 h1
  obtain ⟨s,e2,_,_⟩:=DataW.trod_string Tryz.underlying9 h2
  simp at e0 e1 e2
  subst e0 e1 e2
  exact ⟨(k,n,s),rfl⟩
set_option maxRecDepth 100000 in
theorem open_ints {H:Type} {enc:TypeId × Value→H} {W:World} {r:Reach} {b0:Nat} {v:Value} {d:DataW H} {p:List MemPlace}
  (hv:Value.okWide Tryz.prog W r b0 22 v) (h:DataW.Trod enc Tryz.prog W 0 (fun _=>true) true 22 v d p):∃ (a:Option Addr) (cap:Nat) (l:List Int),v = .slice a l.length cap∧IsAt W.heap.size W a l:=by
 obtain ⟨a0,len,cap,rfl⟩:=okWide_slice Tryz.underlying22 hv
 obtain ⟨fuel,hf⟩:=h
 rcases Go.Deep.open_slice1 Tryz.underlying22 q3 hf with ⟨hcs,_⟩ | ⟨a,len',cap',m,n,V,D,Pl,hcs,_,hl,hm,hmm,_,hx⟩
 ·simp [Value.cells] at hcs
  obtain ⟨rfl,rfl,rfl⟩:=hcs
  exact ⟨none,0,[],rfl,by simp,.inl rfl⟩
 ·simp [Value.cells] at hcs
  obtain ⟨rfl,rfl,rfl⟩:=hcs
  simp only [if_true] at hmm
  obtain ⟨f,hf'⟩:=Go.Deep.choose_lt (α:=Int) (n:=len) (p:=fun i (k:Int)=>W.cell? (a.add i)=some (.int .i64 k)) (fun i hi=>by
   obtain ⟨h1,h2⟩:=hx i (by omega)
   obtain ⟨k,e0,_,_⟩:=DataW.trod_int Tryz.underlying3 h2
   simp at e0
   exact ⟨k,by rw [h1,e0]⟩)
  refine ⟨some a,cap,(List.range len).map f,by simp,?_,?_⟩
  ·simp; omega
  by_cases h0:len=0
  ·left; simp [h0]
  ·right
   obtain ⟨b,off,spot⟩:=a
   have hc:=hf' 0 (by omega)
   have hspot:spot=none:=by simpa [Addr.add] using World.cell?_spot hc
   subst hspot
   refine ⟨b,off,rfl,World.block_lt_of_cell? W _ (by simpa [Addr.add] using hc),fun i hi=>?_⟩
   have hi':i<len:=by simpa using hi
   have:=hf' i hi'
   simp only [addr_addX] at this
   simp only [List.getElem_map,List.getElem_range]
   exact this
instance:Inhabited Ex:=⟨.mk 0 (0,0,⟨#[]⟩) 0 []⟩
/-- The kids' opening, at less fuel. -/
def KidsOpen {H:Type} (enc:TypeId × Value→H) (W:World) (hd:Bool) (m:Nat):Prop :=
 ∀ cs x,DataW.trod enc Tryz.prog W 0 (fun _=>true) hd m 23 cs=some x→∃ (a:Option Addr) (cap:Nat) (l:List Ex),cs = [.slice a l.length cap]∧KsAt W.heap.size W a l
set_option maxRecDepth 100000 in
theorem open_exprT {H:Type} {enc:TypeId × Value→H} {W:World} {hd:Bool} {fuel:Nat} (ih:∀ m,m<fuel→KidsOpen enc W hd m) {cs:List Value} {x:DataW H × List MemPlace}
  (h:DataW.trod enc Tryz.prog W 0 (fun _=>true) hd fuel 40 cs=some x) :
  ∃ (e:Ex) (a:Option Addr) (cap:Nat),cs = [.int .i64 e.k,.int .i64 e.v.1,.int .i64 e.v.2.1,.string e.v.2.2,.int .i64 e.c,.slice a e.ks.length cap]∧KsAt W.heap.size W a e.ks:=by
 obtain ⟨xs,n,hn,_,hl,hlen,hf⟩:=DataW.trod_struct Tryz.underlying40 h
 rw [q27] at hl
 match xs,hlen with
 | [y0,y1,y2,y3],_ =>
  have h0:=hf 0 _ rfl
  have h1:=hf 1 _ rfl
  have h2:=hf 2 _ rfl
  have h3:=hf 3 _ rfl
  match cs,hl with
  | [c0,c1,c2,c3,c4,c5],_ =>
   simp [q3,q24,q25] at h0 h1 h2 h3
   obtain ⟨k,e0,_,_⟩:=DataW.trod_int Tryz.underlying3 h0
   obtain ⟨v,e1⟩:=open_valT h1
   obtain ⟨c,e2,_,_⟩:=DataW.trod_int Tryz.underlying3 h2
   obtain ⟨a,cap,l,e3,hk⟩:=ih n (by omega) _ _ h3
   simp at e0 e1 e2 e3
   obtain ⟨r1,r2,r3⟩:=e1
   subst e0 r1 r2 r3 e2 e3
   exact ⟨.mk k v c l,a,cap,rfl,hk⟩
set_option maxRecDepth 100000 in
theorem kidsOpen {H:Type} (enc:TypeId × Value→H) (W:World) (hd:Bool) (fuel:Nat):KidsOpen enc W hd fuel:=by
 induction fuel using Nat.strongRecOn with
 | ind fuel ih =>
  intro cs x h
  rcases DataW.trod_slice Tryz.underlying23 h with ⟨hcs,_⟩ | ⟨a,len,cap,elems,rest,n,hn,hcs,_,_,_,_,hlen,hel,_,_⟩
  ·exact ⟨none,0,[],hcs,.nil _⟩
  ·rw [q27] at hel
   obtain ⟨f,hf⟩:=Go.Deep.choose_lt (α:=Ex × Option Addr × Nat) (n:=len) (p:=fun i (y:Ex × Option Addr × Nat) =>
     (W.cell? ((a.add (i*6)).add 0)=some (.int .i64 y.1.k)∧W.cell? ((a.add (i*6)).add 1)=some (.int .i64 y.1.v.1)∧W.cell? ((a.add (i*6)).add 2)=some (.int .i64 y.1.v.2.1)∧W.cell? ((a.add (i*6)).add 3)=some (.string y.1.v.2.2) ∧
      W.cell? ((a.add (i*6)).add 4)=some (.int .i64 y.1.c)∧W.cell? ((a.add (i*6)).add 5)=some (.slice y.2.1 y.1.ks.length y.2.2))∧KsAt W.heap.size W y.2.1 y.1.ks) (fun i hi=>by
    have key:=hel i hi
    rw [List.getElem?_eq_getElem (by omega)] at key
    obtain ⟨cs',h1,h2⟩:=Option.bind_eq_some_iff.1 key
    obtain ⟨_,hl6,hcell⟩:=World.cells?_some h1
    obtain ⟨e,ai,ci,rfl,hk⟩:=open_exprT (fun m hm=>ih m (by omega)) h2
    exact ⟨(e,ai,ci),⟨hcell 0 (by simp),hcell 1 (by simp),hcell 2 (by simp),hcell 3 (by simp),hcell 4 (by simp),hcell 5 (by simp)⟩,hk⟩)
   refine ⟨some a,cap,(List.range len).map fun i=>(f i).1,by simpa using hcs,?_⟩
   by_cases h0:len=0
   ·subst h0; exact .nil _
   ·obtain ⟨b,off,spot⟩:=a
    have hc:=(hf 0 (by omega)).1.1
    have hspot:spot=none:=by simpa [Addr.add] using World.cell?_spot hc
    subst hspot
    refine .some b off _ (fun i=>(f i).2.1) (fun i=>(f i).2.2) (World.block_lt_of_cell? W _ (by simpa [Addr.add] using hc)) (fun i hi=>?_) (fun i hi=>?_)
    ·have hi':i<len:=by simpa using hi
     have:=(hf i hi').1
     simp only [addr_addX] at this
     simp only [List.getElem_map,List.getElem_range]
     exact ⟨this.1,this.2.1,this.2.2.1,this.2.2.2.1,this.2.2.2.2.1,this.2.2.2.2.2⟩
    ·have hi':i<len:=by simpa using hi
     simp only [List.getElem_map,List.getElem_range]
     exact (hf i hi').2
set_option maxRecDepth 100000 in
theorem open_exprs {H:Type} {enc:TypeId × Value→H} {W:World} {r:Reach} {b0:Nat} {v:Value} {d:DataW H} {p:List MemPlace}
  (hv:Value.okWide Tryz.prog W r b0 23 v) (h:DataW.Trod enc Tryz.prog W 0 (fun _=>true) true 23 v d p):∃ (a:Option Addr) (cap:Nat) (l:List Ex),v = .slice a l.length cap∧KsAt W.heap.size W a l:=by
 obtain ⟨a0,len,cap,rfl⟩:=okWide_slice Tryz.underlying23 hv
 obtain ⟨fuel,hf⟩:=h
 obtain ⟨a,c,l,e,hs⟩:=kidsOpen enc W true fuel _ _ hf
 refine ⟨a,c,l,?_,hs⟩
 simpa [Value.cells] using e
end Go.Proofs.YtcnmpiahcnkndaaGreat
/- Opening lists of wins. -/
namespace Go.Proofs.YtcnmpiahcnkndaaGreat
open Go.ChangeShapes Go.WideShapes Go.ChangeAt Go.RowKit Go.Joins

theorem qWin:Tryz.prog.cellsOf 42=7:=by kernel_rfl
set_option maxRecDepth 100000 in
theorem open_winT {H:Type} {enc:TypeId × Value→H} {W:World} {hd:Bool} {fuel:Nat} {cs:List Value} {x:DataW H × List MemPlace}
  (h:DataW.trod enc Tryz.prog W 0 (fun _=>true) hd fuel 42 cs=some x) :
  ∃ (g:Ag) (a:Option Addr) (cap:Nat),cs = [.int .i64 g.1,.int .i64 g.2.k,.int .i64 g.2.v.1,.int .i64 g.2.v.2.1,.string g.2.v.2.2,.int .i64 g.2.c,.slice a g.2.ks.length cap]∧KsAt W.heap.size W a g.2.ks:=by
 obtain ⟨xs,n,hn,_,hl,hlen,hf⟩:=DataW.trod_struct Tryz.underlying42 h
 rw [qWin] at hl
 match xs,hlen with
 | [y0,y1],_ =>
  have h0:=hf 0 _ rfl
  have h1:=hf 1 _ rfl
  match cs,hl with
  | [c0,c1,c2,c3,c4,c5,c6],_ =>
   simp [q3,q27] at h0 h1
   obtain ⟨k,e0,_,_⟩:=DataW.trod_int Tryz.underlying3 h0
   obtain ⟨e,a,cap,e1,hk⟩:=open_exprT (fun m _=>kidsOpen enc W hd m) h1
   simp at e0 e1
   obtain ⟨r1,r2,r3,r4,r5,r6⟩:=e1
   subst e0 r1 r2 r3 r4 r5 r6
   exact ⟨(k,e),a,cap,rfl,hk⟩
instance:Inhabited Ag:=⟨(0,.mk 0 (0,0,⟨#[]⟩) 0 [])⟩
set_option maxRecDepth 100000 in
theorem open_wins {H:Type} {enc:TypeId × Value→H} {W:World} {r:Reach} {b0:Nat} {v:Value} {d:DataW H} {p:List MemPlace}
  (hv:Value.okWide Tryz.prog W r b0 24 v) (h:DataW.Trod enc Tryz.prog W 0 (fun _=>true) true 24 v d p):∃ (a:Option Addr) (cap:Nat) (l:List Ag),v = .slice a l.length cap∧AgAt W.heap.size W a l:=by
 obtain ⟨a0,len0,cap0,rfl⟩:=okWide_slice Tryz.underlying24 hv
 obtain ⟨fuel,hf0⟩:=h
 rcases DataW.trod_slice Tryz.underlying24 hf0 with ⟨hcs,_⟩ | ⟨a,len,cap,elems,rest,n,hn,hcs,_,_,_,_,hlen,hel,_,_⟩
 ·refine ⟨none,0,[],?_,.inl rfl⟩
  simpa [Value.cells] using hcs
 ·rw [qWin] at hel
  obtain ⟨f,hf⟩:=Go.Deep.choose_lt (α:=Ag × Option Addr × Nat) (n:=len) (p:=fun i (y:Ag × Option Addr × Nat) =>
    (W.cell? ((a.add (i*7)).add 0)=some (.int .i64 y.1.1)∧W.cell? ((a.add (i*7)).add 1)=some (.int .i64 y.1.2.k)∧W.cell? ((a.add (i*7)).add 2)=some (.int .i64 y.1.2.v.1)∧W.cell? ((a.add (i*7)).add 3)=some (.int .i64 y.1.2.v.2.1)∧W.cell? ((a.add (i*7)).add 4)=some (.string y.1.2.v.2.2) ∧
     W.cell? ((a.add (i*7)).add 5)=some (.int .i64 y.1.2.c)∧W.cell? ((a.add (i*7)).add 6)=some (.slice y.2.1 y.1.2.ks.length y.2.2))∧KsAt W.heap.size W y.2.1 y.1.2.ks) (fun i hi=>by
   have key:=hel i hi
   rw [List.getElem?_eq_getElem (by omega)] at key
   obtain ⟨cs',h1,h2⟩:=Option.bind_eq_some_iff.1 key
   obtain ⟨_,hl6,hcell⟩:=World.cells?_some h1
   obtain ⟨e,ai,ci,rfl,hk⟩:=open_winT h2
   exact ⟨(e,ai,ci),⟨hcell 0 (by simp),hcell 1 (by simp),hcell 2 (by simp),hcell 3 (by simp),hcell 4 (by simp),hcell 5 (by simp),hcell 6 (by simp)⟩,hk⟩)
  refine ⟨some a,cap,(List.range len).map fun i=>(f i).1,by simpa [Value.cells] using hcs,?_⟩
  by_cases h0:len=0
  ·subst h0; exact .inl rfl
  ·obtain ⟨b,off,spot⟩:=a
   have hc:=(hf 0 (by omega)).1.1
   have hspot:spot=none:=by simpa [Addr.add] using World.cell?_spot hc
   subst hspot
   refine .inr ⟨b,off,fun i=>(f i).2.1,fun i=>(f i).2.2,rfl,World.block_lt_of_cell? W _ (by simpa [Addr.add] using hc),fun i hi=>?_⟩
   have hi':i<len:=by simpa using hi
   obtain ⟨⟨g0,g1,g2,g3,g4,g5,g6⟩,gk⟩:=hf i hi'
   simp only [addr_addX] at g0 g1 g2 g3 g4 g5 g6
   simp only [List.getElem_map,List.getElem_range]
   exact ⟨g0,⟨g1,g2,g3,g4,g5,g6⟩,gk⟩
theorem bytes_win:8≤Tryz.prog.bytesOf 42:=by decide +kernel
theorem wins_sized {H:Type} {enc:TypeId × Value→H} {W:World} {a:Option Addr} {n cap:Nat} {d:DataW H} {p:List MemPlace} (h:DataW.Trod enc Tryz.prog W 0 (fun _=>true) true 24 (.slice a n cap) d p)
  {ts:List TypeId} {ds:List (DataW H)} (hs:(DataW.weightsEach Tryz.prog ts ds).all (· ≤ reachBytes)=true) {j:Nat} (ht:ts[j]? = some 24) (hd:ds[j]? = some d):n≤100000000000000:=by
 obtain ⟨fuel,hf⟩:=h
 rcases DataW.trod_slice Tryz.underlying24 hf with ⟨hcs,_⟩ | ⟨a',len,cap',elems,rest,m,hm,hcs,hx,_,_,_,hlen,_⟩
 ·simp [Value.cells] at hcs
  omega
 ·simp [Value.cells] at hcs
  obtain ⟨rfl,rfl,rfl⟩:=hcs
  simp only [Prod.mk.injEq] at hx
  have e:=hx.1
  subst e
  have h1:=sized_slice hs ht hd Tryz.underlying24
  simp only [List.length_map] at h1
  have h2:=reachBytes_lt
  have h3:=bytes_win
  have h4:n*8≤(elems.length+rest.length)*Tryz.prog.bytesOf 42:=Nat.mul_le_mul (by omega) h3
  omega
end Go.Proofs.YtcnmpiahcnkndaaGreat
