/- Together: N1, G2, G6, SA, G7. -/
import Derived.Test.YtohjlfhmnmcndaaGreatB8
import Derived.Test.YtohjlfhmnmcndaaGreatB5
import Derived.Test.YtohjlfhmnmcndaaGreatB7
/- Plans, and plans in memory. -/
namespace Go.Proofs.YtohjlfhmnmcndaaGreat
open Go.RowKit

/-- A plan. -/
inductive Pl where
 | mk (k n:Int) (x:Ex) (xs:List Ex) (gs:List Ag) (ks:List Pl)
def Pl.k:Pl→Int | .mk k _ _ _ _ _=>k
def Pl.n:Pl→Int | .mk _ n _ _ _ _=>n
def Pl.x:Pl→Ex | .mk _ _ x _ _ _=>x
def Pl.xs:Pl→List Ex | .mk _ _ _ xs _ _=>xs
def Pl.gs:Pl→List Ag | .mk _ _ _ _ gs _=>gs
def Pl.ks:Pl→List Pl | .mk _ _ _ _ _ ks=>ks

mutual
theorem Pl.ind {P:Pl→Prop} (h:∀ k n x xs gs ks,(∀ p ∈ ks,P p)→P (.mk k n x xs gs ks)):∀ p,P p
 | .mk k n x xs gs ks=>h k n x xs gs ks (Pl.inds h ks)
theorem Pl.inds {P:Pl→Prop} (h:∀ k n x xs gs ks,(∀ p ∈ ks,P p)→P (.mk k n x xs gs ks)):∀ ks:List Pl,∀ p ∈ ks,P p
 | [],_,hx=>by simp at hx
 | y :: r,x,hx=>by
  rcases List.mem_cons.mp hx with e | hx
  ·exact e ▸ Pl.ind h y
  ·exact Pl.inds h r x hx
end

/-- Where the lists of a plan lie. -/
structure Pw where
 xa:Option Addr
 xc:Nat
 sa:Option Addr
 sc:Nat
 ga:Option Addr
 gc:Nat
 ka:Option Addr
 kc:Nat
/-- The eleven cells of a plan. -/
structure Elv (W:World) (b off:Nat) (p:Pl) (q:Pw):Prop where
 c0:W.cell? ⟨b,off,none⟩=some (.int .i64 p.k)
 c1:W.cell? ⟨b,off+1,none⟩=some (.int .i64 p.n)
 six:Six W b (off+2) p.x.k p.x.v p.x.c q.xa p.x.ks.length q.xc
 c8:W.cell? ⟨b,off+8,none⟩=some (.slice q.sa p.xs.length q.sc)
 c9:W.cell? ⟨b,off+9,none⟩=some (.slice q.ga p.gs.length q.gc)
 c10:W.cell? ⟨b,off+10,none⟩=some (.slice q.ka p.ks.length q.kc)
theorem Elv.next {B:Nat} {W w1:World} {b off:Nat} {p:Pl} {q:Pw} (h:Elv W b off p q) (hb:Below B W w1) (hB:b<B):Elv w1 b off p q :=
 ⟨(hb.cell (p:=⟨b,_,none⟩) hB).trans h.c0,(hb.cell (p:=⟨b,_,none⟩) hB).trans h.c1,h.six.next hb hB,(hb.cell (p:=⟨b,_,none⟩) hB).trans h.c8,(hb.cell (p:=⟨b,_,none⟩) hB).trans h.c9,(hb.cell (p:=⟨b,_,none⟩) hB).trans h.c10⟩
theorem Elv.nextX {t:Nat} {W w1:World} {b off:Nat} {p:Pl} {q:Pw} (h:Elv W b off p q) (hb:BelowX t W w1) (hB:b<W.heap.size) (hn:b≠t):Elv w1 b off p q :=
 ⟨(hb.cell (p:=⟨b,_,none⟩) hB hn).trans h.c0,(hb.cell (p:=⟨b,_,none⟩) hB hn).trans h.c1,h.six.nextX hb hB hn,(hb.cell (p:=⟨b,_,none⟩) hB hn).trans h.c8,(hb.cell (p:=⟨b,_,none⟩) hB hn).trans h.c9,(hb.cell (p:=⟨b,_,none⟩) hB hn).trans h.c10⟩
/-- Plans lie in a slice, and their lists and kids behind them, all below B. -/
inductive PlAt (B:Nat) (W:World):Option Addr→List Pl→Prop
 | nil (a:Option Addr):PlAt B W a []
 | some (b off:Nat) (l:List Pl) (q:Nat→Pw) (hb:b<B)
   (hc:∀ (i:Nat) (h:i<l.length),Elv W b (off+i*11) l[i] (q i))
   (hx:∀ (i:Nat) (h:i<l.length),KsAt B W (q i).xa l[i].x.ks)
   (hs:∀ (i:Nat) (h:i<l.length),KsAt B W (q i).sa l[i].xs)
   (hg:∀ (i:Nat) (h:i<l.length),AgAt B W (q i).ga l[i].gs)
   (hk:∀ (i:Nat) (h:i<l.length),PlAt B W (q i).ka l[i].ks):PlAt B W (some ⟨b,off,none⟩) l
theorem PlAt.next {B B':Nat} {W w1:World} (hb:Below B' W w1) (hB:B≤B') {a:Option Addr} {l:List Pl} (h:PlAt B W a l):PlAt B w1 a l:=by
 induction h with
 | nil a=>exact .nil a
 | some b off l q hlt hc hx hs hg _ ih=>exact .some b off l q hlt (fun i hi=>(hc i hi).next hb (Nat.lt_of_lt_of_le hlt hB)) (fun i hi=>KsAt.next hb hB (hx i hi)) (fun i hi=>KsAt.next hb hB (hs i hi)) (fun i hi=>AgAt.next hb hB (hg i hi)) ih
theorem PlAt.up {B B':Nat} {W:World} (hB:B≤B') {a:Option Addr} {l:List Pl} (h:PlAt B W a l):PlAt B' W a l:=by
 induction h with
 | nil a=>exact .nil a
 | some b off l q hlt hc hx hs hg _ ih=>exact .some b off l q (Nat.lt_of_lt_of_le hlt hB) hc (fun i hi=>(hx i hi).up hB) (fun i hi=>(hs i hi).up hB) (fun i hi=>(hg i hi).up hB) ih
/-- What lies behind a plan. -/
structure PlB (B:Nat) (W:World) (p:Pl) (q:Pw):Prop where
 x:KsAt B W q.xa p.x.ks
 xs:KsAt B W q.sa p.xs
 gs:AgAt B W q.ga p.gs
 ks:PlAt B W q.ka p.ks
theorem PlB.next {B B':Nat} {W w1:World} {p:Pl} {q:Pw} (h:PlB B W p q) (hb:Below B' W w1) (hB:B≤B'):PlB B w1 p q:=⟨KsAt.next hb hB h.x,KsAt.next hb hB h.xs,AgAt.next hb hB h.gs,PlAt.next hb hB h.ks⟩
theorem PlB.up {B B':Nat} {W:World} {p:Pl} {q:Pw} (h:PlB B W p q) (hB:B≤B'):PlB B' W p q:=⟨h.x.up hB,h.xs.up hB,h.gs.up hB,h.ks.up hB⟩
theorem PlAt.elem {B:Nat} {W:World} {a:Option Addr} {l:List Pl} (h:PlAt B W a l) {k:Nat} (hk:k<l.length) :
  ∃ b off q,a=Option.some ⟨b,off,none⟩∧b<B∧Elv W b (off+k*11) l[k] q∧PlB B W l[k] q:=by
 cases h with
 | nil=>simp at hk
 | some b off l q hlt hc hx hs hg hh=>exact ⟨b,off,q k,rfl,hlt,hc k hk,⟨hx k hk,hs k hk,hg k hk,hh k hk⟩⟩
end Go.Proofs.YtohjlfhmnmcndaaGreat
/- The walk of ops.parted. -/
namespace Go.Proofs.YtohjlfhmnmcndaaGreat
open Go.RowKit Go.Lib Go.Shelf

theorem infoP:(Tryz.prog.info? 154).map (fun i=>(i.zero,i.size,i.bytes))=some (some (.agg #[.slice none 0 0,.slice none 0 0]),2,48):=by kernel_rfl

set_option maxRecDepth 100000 in
set_option maxHeartbeats 4000000 in
theorem parted_at (a:Option Addr) (cap:Nat) (L:List Kp) (w:World) (h:KdAt w a L) (hl:L.length≤400) :
  Calls Tryz.prog 124 #[.slice a L.length cap] w fun e w'=>∃ v,e = .returned v∧PsAt w w.heap.size w' v (partL L)∧Below w.heap.size w w':=by
 obtain ⟨i0,hi,hj0,hj1,hj2⟩:=info_parts Tryz.info42
 obtain ⟨ip,hip,hp0,hp1,hp2⟩:=info_parts infoP
 go_enter Tryz.func124,Tryz.ntmps124
 go_wp2_with fail
 go_loopw [3,9] (fun v i wr=>∃ k:Nat,k≤L.length∧i = .int .i64 k∧PsAt w w.heap.size wr v (partL (L.take k))∧Below w.heap.size w wr) (fun _ i _=>L.length - (intOf i).toNat)
 case atStart=>exact ⟨0,Nat.zero_le _,rfl,PsAt.nil _ _ _ (Nat.le_refl _),Below.refl _ _⟩
 case round =>
  obtain ⟨k,hk,rfl,HPs,hb⟩:=hrel
  have hz:=hb.size
  by_cases hlt:k<L.length
  ·obtain ⟨b,off,rfl,hbl,e2,⟨ra,rc,e1,sr⟩,ka,kc,e0,sk⟩:=h.elem hlt
   have p2:=(hb.cell (p:=⟨b,_,none⟩) hbl).trans e2
   have p1:=(hb.cell (p:=⟨b,_,none⟩) hbl).trans e1
   have p0:=(hb.cell (p:=⟨b,_,none⟩) hbl).trans e0
   have hbl':b<wr.heap.size:=Nat.lt_of_lt_of_le hbl hz
   have HSr:Hid (SlAt w ra L[k].2.1):=sr
   have HSk:Hid (SlAt w ka L[k].1):=sk
   have HT:Hid (partL (L.take (k+1))=putR (openP (partL (L.take k)) L[k]) L[k].2):=partL_take hlt
   have hsz:=partL_small (L.take k)
   rw [List.length_take] at hsz
   have HSm:Hid (∀ p ∈ partL (L.take k),p.2.length≤400):=fun p hp=>by have:=hsz.2 p hp; omega
   have hpn:(partL (L.take k)).length≤400:=by have:=hsz.1; omega
   obtain ⟨va,vc,ev⟩:∃ va vc,u3 = .slice va (partL (L.take k)).length vc:=by obtain ⟨_,_,_,_,I⟩:=HPs; exact own_shapeF I.own
   subst ev
   have hal:Below wr.heap.size wr (wr.alloc (.cells #[.slice ka L[k].1.length kc,.slice ra L[k].2.1.length rc,.int .i64 L[k].2.2] 157)):=(Below.refl _ _).alloc (Nat.le_refl _) _
   have q0:=heap_new wr #[.slice ka L[k].1.length kc,.slice ra L[k].2.1.length rc,.int .i64 L[k].2.2] 157
   have hbk:=chain hb hal
   have HPk:=HPs.next hal
   clear e0 e1 e2 sr sk hsz HPs
   go_upto_region 5 with fail
   clear p0 p1 p2
   generalize wr.alloc (.cells #[.slice ka L[k].1.length kc,.slice ra L[k].2.1.length rc,.int .i64 L[k].2.2] 157)=wk at *
   obtain ⟨ps,eps⟩:∃ ps,ps=partL (L.take k):=⟨_,rfl⟩
   by_cases h0:ps.length=0
   ·have HOp:Hid (openP (partL (L.take k)) L[k]=ps ++ [(L[k].1,[])]):=by show _=_; rw [← eps]; exact openP_nil h0 _
    rw [← eps] at HPk HSm hpn ⊢
    clear eps
    obtain rfl:ps = []:=List.eq_nil_of_length_eq_zero h0
    haveI:Nonempty (Past wk):=⟨⟨wk,Below.refl _ _⟩⟩
    refine wp_region_past (by kernel_rfl) (by kernel_rfl) ?_
    repeat (go_big_quiet_step (fail))
    refine wpQuiet_nil ?_
    rintro wq ⟨⟨v7,hb7⟩,h7⟩
    obtain rfl:wq=v7:=h7
    have HPq:=HPk.next hb7
    have hbq:=chain hbk hb7
    have qq:=(hb7.block _ (lt_of_heap q0)).trans q0
    clear HPk h0
    obtain ⟨xs,Bl,rv,zs,In⟩:=HPq
    have ho:=In.own
    have HInq:Hid (PsIn w w.heap.size wq (.slice va 0 vc) ([]:List Pt) xs Bl rv zs):=In
    have kq:wq.cell? ⟨wr.heap.size,0,none⟩=some (.slice ka L[k].1.length kc):=cell_of (i:=0) qq rfl
    have hzq:=hbq.size
    clear In
    go_wp2_with (first | (at_builtin; refine wpList_append_own _ rfl _ _ 149 rfl w.heap.size 154 ip _ 2 48 Tryz.underlying149 hip hp0 hp1 hp2 rfl (by decide) _ _ _ rfl (ho.alloc _) ⟨wq.heap.size,0,none⟩ 1 1 [.slice ka L[k].1.length kc,.slice none 0 0] rfl rfl ?Bc1 ?Bc2 ?Bc3 ?Bc4 ?Bc5 ?_))
    case Bc1 =>
     intro i u hu
     match i,hu with
     | 0,hu=>simp at hu; subst hu; simp [Addr.add]
     | 1,hu=>simp at hu; subst hu; simp [Addr.add]
    case Bc2=>intro u hu; simp at hu; rcases hu with rfl | rfl <;> rfl
    case Bc3=>unfold maxLen; omega
    case Bc4=>omega
    case Bc5=>simp; omega
    intro v' wx ox gx _
    have halq:Below wq.heap.size wq (wq.alloc (.cells #[.slice ka L[k].1.length kc,.slice none 0 0] 154)):=(Below.refl _ _).alloc (Nat.le_refl _) _
    have oq:=ho.alloc (.cells #[.slice ka L[k].1.length kc,.slice none 0 0] 154)
    have HPx:PsAt w w.heap.size wx v' (([]:List Pt) ++ [(L[k].1,[])]):=(HInq.out.next halq).push HSk.out gx (by first | exact ox | (rw [hm]; exact ox))
    have hbx:Below w.heap.size w wx:=(chain hbq halq).grown gx (by simp; omega) (fun q hq=>(oq.lt q hq).1)
    have qx:wx.heap[wr.heap.size]? = some (.cells #[.slice ka L[k].1.length kc,.slice ra L[k].2.1.length rc,.int .i64 L[k].2.2] 157 (0,0)):=by
     have qa:=(halq.block _ (lt_of_heap qq)).trans qq
     exact (gx.block _ (lt_of_heap qa) (fun e=>own_not oq qa (by decide) e.symm)).trans qa
    have q0x:=qx
    obtain ⟨ps1,eps1⟩:∃ ps1,ps1=([]:List Pt) ++ [(L[k].1,[])]:=⟨_,rfl⟩
    obtain ⟨m,hmm⟩:∃ m,m=0:=⟨_,rfl⟩
    have hm4:m≤400:=by omega
    rw [← eps1] at HPx
    have hm1:ps1.length=m+1:=by rw [hmm,eps1,List.length_append]; first | rfl | (rw [hm]; rfl)
    have eo:openP (partL (L.take k)) L[k]=ps1:=by rw [eps1]; exact HOp.out
    have hsm:∀ p ∈ ps1,p.2.length≤400:=fun p hp=>by
     rw [eps1] at hp
     rcases List.mem_append.1 hp with hp | hp
     ·exact HSm.out p hp
     ·rw [List.mem_singleton.1 hp]; exact Nat.zero_le _
    obtain ⟨g,c,evx⟩:∃ g c,v' = .slice (some ⟨g,0,none⟩) ps1.length c:=by
     obtain ⟨xs',_,_,_,I'⟩:=HPx
     rcases I'.own.2 with ⟨_,h2⟩ | ⟨g2,c2,_,h2,_⟩
     ·omega
     ·exact ⟨g2,c2,h2⟩
    subst evx
    clear eps1 ox gx oq HInq ho kq halq hmm
    have hmlt:m<ps1.length:=by omega
    obtain ⟨xs,Bl,rv,zs,In⟩:=HPx
    have HIn:Hid (PsIn w w.heap.size wx (.slice (some ⟨g,0,none⟩) ps1.length c) ps1 xs Bl rv zs):=In
    have hgB:w.heap.size≤g:=(In.own.lt g rfl).1
    have hgx:g<wx.heap.size:=(In.own.lt g rfl).2
    have hgl:g=wr.heap.size→False:=fun e=>own_not In.own q0x (by decide) (show some g=some wr.heap.size by rw [e])
    obtain ⟨rva,rvc,erv⟩:∃ rva rvc,rv m = .slice rva ps1[m].2.length rvc:=own_shapeF (In.row m hmlt).1
    have cx:wx.cell? ⟨g,m*2+1,none⟩=some (.slice rva ps1[m].2.length rvc):=by
     have:=In.own
     rw [this.cellAt _ (by omega),In.cell m hmlt,erv]
    have hrow1:ps1[m].2.length≤400:=hsm ps1[m] (List.getElem_mem hmlt)
    have ev:Value.slice (some ⟨g,0,none⟩) (m+1) c = .slice (some ⟨g,0,none⟩) ps1.length c:=by rw [hm1]
    have m0:(0:Int)≤(m:Int):=by omega
    have m1:(m:Int)<(m:Int)+1:=by omega
    have m2:(m:Int)≤400:=by omega
    clear In
    try rw [hm1]
    go_upto_region 8 with fail
    have hCC:∀ W W':World,(W.heap[wr.heap.size]? = some (.cells #[.slice ka L[k].1.length kc,.slice ra L[k].2.1.length rc,.int .i64 L[k].2.2] 157 (0,0)))→Below W.heap.size W W'→(W'.heap[wr.heap.size]? = some (.cells #[.slice ka L[k].1.length kc,.slice ra L[k].2.1.length rc,.int .i64 L[k].2.2] 157 (0,0))):=fun W W' h hb=>(hb.block _ (lt_of_heap h)).trans h
    have hdr:Below wx.heap.size wx wx.drew:=(Below.refl _ _).drew
    have CW:(wx.drew.heap[wr.heap.size]? = some (.cells #[.slice ka L[k].1.length kc,.slice ra L[k].2.1.length rc,.int .i64 L[k].2.2] 157 (0,0))):=hCC _ _ q0x hdr
    refine wp_region_cls (fun W=>(W.heap[wr.heap.size]? = some (.cells #[.slice ka L[k].1.length kc,.slice ra L[k].2.1.length rc,.int .i64 L[k].2.2] 157 (0,0)))) (by kernel_rfl) ?_
    refine wpY_take hCC (some 40) (i:=0) (v:=.pointer (some ⟨g,m*2,none⟩)) rfl rfl (by kernel_rfl) (by kernel_rfl) (by kernel_rfl) (fun _ _ _ h=>h) (Or.inl ⟨rfl,fun n hn=>?_⟩) CW ?_
    ·go_simp
    simp only [Act.put,pA,pB,pC]
    refine wpY_take hCC (some 41) (i:=1) (v:=.pointer (some ⟨g,m*2,none⟩)) rfl rfl (by kernel_rfl) (by kernel_rfl) (by kernel_rfl) (fun _ _ _ h=>h) (Or.inl ⟨rfl,fun n hn=>?_⟩) CW ?_
    ·go_simp
    simp only [Act.put,pA,pB,pC]
    refine wpY_take hCC (some 42) (i:=2) (v:=.pointer (some ⟨g,m*2,none⟩)) rfl rfl (by kernel_rfl) (by kernel_rfl) (by kernel_rfl) (fun _ _ _ h=>h) (Or.inl ⟨rfl,fun n hn=>?_⟩) CW ?_
    ·go_simp
    simp only [Act.put,pA,pB,pC]
    refine wpY_take hCC (some 43) (i:=3) (v:=.pointer (some ⟨g,m*2+1,none⟩)) rfl rfl (by kernel_rfl) (by kernel_rfl) (by kernel_rfl) (fun _ _ _ h=>h) (Or.inl ⟨rfl,fun n hn=>?_⟩) CW ?_
    ·go_simp
    simp only [Act.put,pA,pB,pC]
    refine wpY_take hCC (some 45) (i:=5) (v:=.pointer (some ⟨wr.heap.size,1,none⟩)) rfl rfl (by kernel_rfl) (by kernel_rfl) (by kernel_rfl) (fun _ _ _ h=>h) (Or.inl ⟨rfl,fun n hn=>?_⟩) CW ?_
    ·go_simp
    simp only [Act.put,pA,pB,pC]
    refine wpY_take hCC (some 46) (i:=6) (v:=.agg #[.slice ra L[k].2.1.length rc,.int .i64 L[k].2.2]) rfl rfl (by kernel_rfl) (by kernel_rfl) (by kernel_rfl) (fun _ _ _ h=>h) (Or.inl ⟨rfl,fun n hn=>?_⟩) CW ?_
    ·have hc:n.cell? ⟨wr.heap.size,1,none⟩=some (.slice ra L[k].2.1.length rc):=cell_of (i:=1) hn rfl
     have hc1:n.cell? ⟨wr.heap.size,2,none⟩=some (.int .i64 L[k].2.2):=cell_of (i:=2) hn rfl
     go_simp
    simp only [Act.put,pA,pB,pC]
    refine wpY_step (rs:=[4,7]) (by kernel_rfl) (by simp) ?_
    intro w3 hb3 jj hj
    have D3:=chain hdr hb3
    have CW3:=hCC _ _ CW hb3
    rcases (by simpa using hj:jj=4∨jj=7) with rfl | rfl
    ·clear hj
     have c3:=(D3.cell (p:=⟨g,m*2+1,none⟩) hgx).trans cx
     refine wpOp_step rfl (fun K hK=>?_)
     go_simp
     refine hK _ _ ⟨CW3,?_⟩
     clear hK K
     try simp only [Act.put,pA,pB,pC]
     refine wpY_step (rs:=[7]) (by kernel_rfl) (by simp) ?_
     intro w5 hb5 jj hj
     obtain rfl:jj=7:=by simpa using hj
     clear hj
     refine wpOp_step rfl (fun K hK=>?_)
     go_simp
     have hal5:Below w5.heap.size w5 (w5.alloc (.cells #[.slice ra L[k].2.1.length rc,.int .i64 L[k].2.2] 58)):=(Below.refl _ _).alloc (Nat.le_refl _) _
     have q6:=heap_new w5 #[.slice ra L[k].2.1.length rc,.int .i64 L[k].2.2] 58
     have D6:=chain (chain D3 hb5) hal5
     have CWt:=hCC _ _ (hCC _ _ CW3 hb5) hal5
     refine hK _ _ ⟨CWt,?_⟩
     clear hK K c3 CW3
     generalize w5.alloc (.cells #[.slice ra L[k].2.1.length rc,.int .i64 L[k].2.2] 58)=w6 at *
     try simp only [Act.put,pA,pB,pC]
     refine wpY_step (rs:=[8]) (by kernel_rfl) (by simp) ?_
     intro w7 hb7 jj hj
     obtain rfl:jj=8:=by simpa using hj
     clear hj
     have D7:=chain D6 hb7
     have CW7:=hCC _ _ CWt hb7
     have q7:=(hb7.block _ (lt_of_heap q6)).trans q6
     have I7:=HIn.out.next D7
     have rl7:w7.ownsRow Bl 58 2 (.slice rva ps1[m].2.length rvc) ps1[m].2.length (zs m):=by
      have:=(I7.row m hmlt).1
      rw [if_pos hm1.symm,erv] at this
      exact this
     have hBl7:=I7.hi
     refine wpOp_step rfl (fun K hK=>?_)
     refine Eq.mpr (if_pos (by kernel_rfl)) ?_
     refine wp_append_at (some 48) rfl (Operand.tmp 44) (Operand.tmp 47) 34 rfl Bl 58 i0 _ 2 32 Tryz.underlying34 hi hj0 hj1 hj2 rfl (by decide) (.slice rva ps1[m].2.length rvc) ps1[m].2.length (zs m) rfl rl7 ⟨w5.heap.size,0,none⟩ 1 1 [.slice ra L[k].2.1.length rc,.int .i64 L[k].2.2] rfl rfl ?Ac1 ?Ac2 ?Ac3 ?Ac4 ?Ac5 ?_
     case Ac1 =>
      intro j u hj
      match j,hj with
      | 0,hj=>simp at hj; subst hj; exact cell_of (i:=0) q7 rfl
      | 1,hj=>simp at hj; subst hj; exact cell_of (i:=1) q7 rfl
     case Ac2=>intro u hu; simp at hu; rcases hu with rfl | rfl <;> rfl
     case Ac3=>unfold maxLen; omega
     case Ac4=>omega
     case Ac5=>exact hBl7
     intro v8 w8 o8 g8 _
     have nb8:∀ q,Value.ownBlock (.slice rva ps1[m].2.length rvc)=some q→w.heap.size≤q∧q<w7.heap.size∧(q=wr.heap.size→False)∧(q=g→False):=fun q hq=>by
      have h1:=rl7.lt q hq
      refine ⟨Nat.le_trans I7.lo h1.1,h1.2,fun e=>?_,fun e=>?_⟩
      ·exact own_not rl7 CW7 (by decide) (by rw [hq,e])
      ·have o7:=I7.own
       rcases own_ne (by decide) rl7 o7 with h2 | h2
       ·rw [h2] at hq; cases hq
       ·exact h2 (by rw [hq,e]; rfl)
     have CW8:(w8.heap[wr.heap.size]? = some (.cells #[.slice ka L[k].1.length kc,.slice ra L[k].2.1.length rc,.int .i64 L[k].2.2] 157 (0,0))):=(g8.block _ (lt_of_heap CW7) (fun e=>(nb8 _ e.symm).2.2.1 rfl)).trans CW7
     have c8:w8.cell? ⟨g,m*2+1,none⟩=some (.slice rva ps1[m].2.length rvc)∧w8.frozen? ⟨g,m*2+1,none⟩=false:=by
      have o7:=I7.own
      rw [hm1] at o7
      have hb8:w8.heap[g]? = w7.heap[g]?:=g8.block g (o7.lt g rfl).2 (fun e=>(nb8 _ e.symm).2.2.2 rfl)
      refine ⟨(World.cell?_of_block (a:=⟨g,m*2+1,none⟩) hb8).trans ?_,(World.frozen?_of_block (a:=⟨g,m*2+1,none⟩) hb8).trans (o7.frozenAt _)⟩
      rw [o7.cellAt _ (by omega),I7.cell m hmlt,erv]
     have hg8:g<w8.heap.size:=by
      have o7:=I7.own
      rw [hm1] at o7
      exact Nat.lt_of_lt_of_le (o7.lt g rfl).2 g8.size
     refine hK _ _ ⟨CW8,?_⟩
     clear hK K
     try simp only [Act.put,pA,pB,pC]
     refine wpY_take hCC (some 49) (i:=9) (v:=.pointer (some ⟨g,m*2,none⟩)) rfl rfl (by kernel_rfl) (by kernel_rfl) (by kernel_rfl) (fun _ _ _ h=>h) (Or.inl ⟨rfl,fun n hn=>?_⟩) CW8 ?_
     ·go_simp
     simp only [Act.put,pA,pB,pC]
     refine wpY_take hCC (some 50) (i:=10) (v:=.pointer (some ⟨g,m*2+1,none⟩)) rfl rfl (by kernel_rfl) (by kernel_rfl) (by kernel_rfl) (fun _ _ _ h=>h) (Or.inl ⟨rfl,fun n hn=>?_⟩) CW8 ?_
     ·go_simp
     simp only [Act.put,pA,pB,pC]
     refine wpY_step (rs:=[11]) (by kernel_rfl) (by simp) ?_
     intro w9 hb9 jj hj
     obtain rfl:jj=11:=by simpa using hj
     clear hj
     have c9:w9.cell? ⟨g,m*2+1,none⟩=some (.slice rva ps1[m].2.length rvc):=(hb9.cell (p:=⟨g,m*2+1,none⟩) hg8).trans c8.1
     have f9:w9.frozen? ⟨g,m*2+1,none⟩=false:=(hb9.frozen (p:=⟨g,m*2+1,none⟩) hg8).trans c8.2
     have CW9:=hCC _ _ CW8 hb9
     obtain ⟨v8a,v8c,ev8⟩:∃ v8a v8c,v8 = .slice v8a (ps1[m].2.length+1) v8c:=own_shapeF o8
     have P9:PsAt w w.heap.size (w9.setCell ⟨g,m*2+1,none⟩ v8) (.slice (some ⟨g,0,none⟩) (m+1) c) (putR ps1 L[k].2):=by
      have I7':=I7
      rw [← ev] at I7'
      exact PsIn.put I7' hm1 (rc:=rc) HSr.out (by rw [erv]; exact g8) o8 hb9
     have B9:Below w.heap.size w (w9.setCell ⟨g,m*2+1,none⟩ v8):=((chain ((chain hbx D7).trans ((Below.refl _ _).grown g8 (Nat.le_trans hbx.size D7.size) (fun q hq=>(nb8 q hq).1))) hb9)).setCell (p:=⟨g,m*2+1,none⟩) hgB _
     have CW10:((w9.setCell ⟨g,m*2+1,none⟩ v8).heap[wr.heap.size]? = some (.cells #[.slice ka L[k].1.length kc,.slice ra L[k].2.1.length rc,.int .i64 L[k].2.2] 157 (0,0))):=(Below.heap_setCell _ _ _ _ (fun e=>hgl e.symm)).trans CW9
     subst ev8
     refine wpOp_step rfl (fun K hK=>?_)
     go_simp
     refine hK _ _ ⟨CW10,?_⟩
     clear hK K CW7 CW8 CW9 c8 c9 f9 nb8 rl7 I7 q7 o8 g8
     generalize w9.setCell ⟨g,m*2+1,none⟩ (.slice v8a (ps1[m].2.length+1) v8c)=wS at *
     try simp only [Act.put,pA,pB,pC]
     refine wpY_done (by kernel_rfl) ?_
     intro wT hbT
     have PT:=P9.next hbT
     have BT:=chain B9 hbT
     clear P9 B9 CW10 CW CWt
     go_wp2_with fail
     go_roundw
     case rel=>exact ⟨k+1,by omega,by go_num,by rw [HT.out,eo]; first | exact PT | (rw [hm1]; exact PT),BT⟩
     case measure=>simp [intOf]; omega
    ·clear hj
     refine wpOp_step rfl (fun K hK=>?_)
     go_simp
     have hal4:Below w3.heap.size w3 (w3.alloc (.cells #[.slice ra L[k].2.1.length rc,.int .i64 L[k].2.2] 58)):=(Below.refl _ _).alloc (Nat.le_refl _) _
     have q4:=heap_new w3 #[.slice ra L[k].2.1.length rc,.int .i64 L[k].2.2] 58
     have D4:=chain D3 hal4
     have CW4:=hCC _ _ CW3 hal4
     refine hK _ _ ⟨CW4,?_⟩
     clear hK K
     generalize w3.alloc (.cells #[.slice ra L[k].2.1.length rc,.int .i64 L[k].2.2] 58)=w4 at *
     try simp only [Act.put,pA,pB,pC]
     refine wpY_step (rs:=[4]) (by kernel_rfl) (by simp) ?_
     intro w6 hb6 jj hj
     obtain rfl:jj=4:=by simpa using hj
     clear hj
     have D6:=chain D4 hb6
     have CWt:=hCC _ _ CW4 hb6
     have q6:=(hb6.block _ (lt_of_heap q4)).trans q4
     have c6:=(D6.cell (p:=⟨g,m*2+1,none⟩) hgx).trans cx
     refine wpOp_step rfl (fun K hK=>?_)
     go_simp
     refine hK _ _ ⟨CWt,?_⟩
     clear hK K c6 CW3 CW4
     try simp only [Act.put,pA,pB,pC]
     refine wpY_step (rs:=[8]) (by kernel_rfl) (by simp) ?_
     intro w7 hb7 jj hj
     obtain rfl:jj=8:=by simpa using hj
     clear hj
     have D7:=chain D6 hb7
     have CW7:=hCC _ _ CWt hb7
     have q7:=(hb7.block _ (lt_of_heap q6)).trans q6
     have I7:=HIn.out.next D7
     have rl7:w7.ownsRow Bl 58 2 (.slice rva ps1[m].2.length rvc) ps1[m].2.length (zs m):=by
      have:=(I7.row m hmlt).1
      rw [if_pos hm1.symm,erv] at this
      exact this
     have hBl7:=I7.hi
     refine wpOp_step rfl (fun K hK=>?_)
     refine Eq.mpr (if_pos (by kernel_rfl)) ?_
     refine wp_append_at (some 48) rfl (Operand.tmp 44) (Operand.tmp 47) 34 rfl Bl 58 i0 _ 2 32 Tryz.underlying34 hi hj0 hj1 hj2 rfl (by decide) (.slice rva ps1[m].2.length rvc) ps1[m].2.length (zs m) rfl rl7 ⟨w3.heap.size,0,none⟩ 1 1 [.slice ra L[k].2.1.length rc,.int .i64 L[k].2.2] rfl rfl ?Ac1 ?Ac2 ?Ac3 ?Ac4 ?Ac5 ?_
     case Ac1 =>
      intro j u hj
      match j,hj with
      | 0,hj=>simp at hj; subst hj; exact cell_of (i:=0) q7 rfl
      | 1,hj=>simp at hj; subst hj; exact cell_of (i:=1) q7 rfl
     case Ac2=>intro u hu; simp at hu; rcases hu with rfl | rfl <;> rfl
     case Ac3=>unfold maxLen; omega
     case Ac4=>omega
     case Ac5=>exact hBl7
     intro v8 w8 o8 g8 _
     have nb8:∀ q,Value.ownBlock (.slice rva ps1[m].2.length rvc)=some q→w.heap.size≤q∧q<w7.heap.size∧(q=wr.heap.size→False)∧(q=g→False):=fun q hq=>by
      have h1:=rl7.lt q hq
      refine ⟨Nat.le_trans I7.lo h1.1,h1.2,fun e=>?_,fun e=>?_⟩
      ·exact own_not rl7 CW7 (by decide) (by rw [hq,e])
      ·have o7:=I7.own
       rcases own_ne (by decide) rl7 o7 with h2 | h2
       ·rw [h2] at hq; cases hq
       ·exact h2 (by rw [hq,e]; rfl)
     have CW8:(w8.heap[wr.heap.size]? = some (.cells #[.slice ka L[k].1.length kc,.slice ra L[k].2.1.length rc,.int .i64 L[k].2.2] 157 (0,0))):=(g8.block _ (lt_of_heap CW7) (fun e=>(nb8 _ e.symm).2.2.1 rfl)).trans CW7
     have c8:w8.cell? ⟨g,m*2+1,none⟩=some (.slice rva ps1[m].2.length rvc)∧w8.frozen? ⟨g,m*2+1,none⟩=false:=by
      have o7:=I7.own
      rw [hm1] at o7
      have hb8:w8.heap[g]? = w7.heap[g]?:=g8.block g (o7.lt g rfl).2 (fun e=>(nb8 _ e.symm).2.2.2 rfl)
      refine ⟨(World.cell?_of_block (a:=⟨g,m*2+1,none⟩) hb8).trans ?_,(World.frozen?_of_block (a:=⟨g,m*2+1,none⟩) hb8).trans (o7.frozenAt _)⟩
      rw [o7.cellAt _ (by omega),I7.cell m hmlt,erv]
     have hg8:g<w8.heap.size:=by
      have o7:=I7.own
      rw [hm1] at o7
      exact Nat.lt_of_lt_of_le (o7.lt g rfl).2 g8.size
     refine hK _ _ ⟨CW8,?_⟩
     clear hK K
     try simp only [Act.put,pA,pB,pC]
     refine wpY_take hCC (some 49) (i:=9) (v:=.pointer (some ⟨g,m*2,none⟩)) rfl rfl (by kernel_rfl) (by kernel_rfl) (by kernel_rfl) (fun _ _ _ h=>h) (Or.inl ⟨rfl,fun n hn=>?_⟩) CW8 ?_
     ·go_simp
     simp only [Act.put,pA,pB,pC]
     refine wpY_take hCC (some 50) (i:=10) (v:=.pointer (some ⟨g,m*2+1,none⟩)) rfl rfl (by kernel_rfl) (by kernel_rfl) (by kernel_rfl) (fun _ _ _ h=>h) (Or.inl ⟨rfl,fun n hn=>?_⟩) CW8 ?_
     ·go_simp
     simp only [Act.put,pA,pB,pC]
     refine wpY_step (rs:=[11]) (by kernel_rfl) (by simp) ?_
     intro w9 hb9 jj hj
     obtain rfl:jj=11:=by simpa using hj
     clear hj
     have c9:w9.cell? ⟨g,m*2+1,none⟩=some (.slice rva ps1[m].2.length rvc):=(hb9.cell (p:=⟨g,m*2+1,none⟩) hg8).trans c8.1
     have f9:w9.frozen? ⟨g,m*2+1,none⟩=false:=(hb9.frozen (p:=⟨g,m*2+1,none⟩) hg8).trans c8.2
     have CW9:=hCC _ _ CW8 hb9
     obtain ⟨v8a,v8c,ev8⟩:∃ v8a v8c,v8 = .slice v8a (ps1[m].2.length+1) v8c:=own_shapeF o8
     have P9:PsAt w w.heap.size (w9.setCell ⟨g,m*2+1,none⟩ v8) (.slice (some ⟨g,0,none⟩) (m+1) c) (putR ps1 L[k].2):=by
      have I7':=I7
      rw [← ev] at I7'
      exact PsIn.put I7' hm1 (rc:=rc) HSr.out (by rw [erv]; exact g8) o8 hb9
     have B9:Below w.heap.size w (w9.setCell ⟨g,m*2+1,none⟩ v8):=((chain ((chain hbx D7).trans ((Below.refl _ _).grown g8 (Nat.le_trans hbx.size D7.size) (fun q hq=>(nb8 q hq).1))) hb9)).setCell (p:=⟨g,m*2+1,none⟩) hgB _
     have CW10:((w9.setCell ⟨g,m*2+1,none⟩ v8).heap[wr.heap.size]? = some (.cells #[.slice ka L[k].1.length kc,.slice ra L[k].2.1.length rc,.int .i64 L[k].2.2] 157 (0,0))):=(Below.heap_setCell _ _ _ _ (fun e=>hgl e.symm)).trans CW9
     subst ev8
     refine wpOp_step rfl (fun K hK=>?_)
     go_simp
     refine hK _ _ ⟨CW10,?_⟩
     clear hK K CW7 CW8 CW9 c8 c9 f9 nb8 rl7 I7 q7 o8 g8
     generalize w9.setCell ⟨g,m*2+1,none⟩ (.slice v8a (ps1[m].2.length+1) v8c)=wS at *
     try simp only [Act.put,pA,pB,pC]
     refine wpY_done (by kernel_rfl) ?_
     intro wT hbT
     have PT:=P9.next hbT
     have BT:=chain B9 hbT
     clear P9 B9 CW10 CW CWt
     go_wp2_with fail
     go_roundw
     case rel=>exact ⟨k+1,by omega,by go_num,by rw [HT.out,eo]; first | exact PT | (rw [hm1]; exact PT),BT⟩
     case measure=>simp [intOf]; omega
   ·obtain ⟨mm,hm⟩:∃ mm,ps.length=mm+1:=⟨ps.length - 1,by omega⟩
    have hmm:mm<ps.length:=by omega
    rw [← eps] at HPk HSm hpn ⊢
    have Eps:Hid (ps=partL (L.take k)):=eps
    clear eps
    rw [hm] at HPk ⊢
    obtain ⟨g0,eva⟩:∃ g0,va=some ⟨g0,0,none⟩:=by
     obtain ⟨_,_,_,_,I⟩:=HPk
     rcases I.own.2 with ⟨_,h2⟩ | ⟨g2,c2,_,h2,_⟩
     ·omega
     ·exact ⟨g2,by injection h2⟩
    subst eva
    obtain ⟨la,lc,ck,sk,hgk⟩:∃ la lc,wk.cell? ⟨g0,mm*2,none⟩=some (.slice la ps[mm].1.length lc)∧SlAt w la ps[mm].1∧g0<wk.heap.size:=by
     obtain ⟨xs,_,_,_,I⟩:=HPk
     obtain ⟨la,lc,x0,s0⟩:=I.key mm hmm
     have o:=I.own
     rw [hm] at o
     exact ⟨la,lc,by rw [o.cellAt _ (by omega)]; exact x0,s0,(o.lt g0 rfl).2⟩
    have HSl:Hid (SlAt w la ps[mm].1):=sk
    have m0:(0:Int)≤(mm:Int):=by omega
    have m1:(mm:Int)<(mm:Int)+1:=by omega
    have m2:(mm:Int)≤400:=by omega
    have mne:¬ (mm:Int)+1=0:=by omega
    have hCC:∀ W W':World,(W.heap[wr.heap.size]? = some (.cells #[.slice ka L[k].1.length kc,.slice ra L[k].2.1.length rc,.int .i64 L[k].2.2] 157 (0,0))∧W.cell? ⟨g0,mm*2,none⟩=some (.slice la ps[mm].1.length lc))→Below W.heap.size W W'→(W'.heap[wr.heap.size]? = some (.cells #[.slice ka L[k].1.length kc,.slice ra L[k].2.1.length rc,.int .i64 L[k].2.2] 157 (0,0))∧W'.cell? ⟨g0,mm*2,none⟩=some (.slice la ps[mm].1.length lc)):=fun W W' h hb=>⟨(hb.block _ (lt_of_heap h.1)).trans h.1,(hb.cell (World.block_lt_of_cell? _ _ h.2)).trans h.2⟩
    have hdr:Below wk.heap.size wk wk.drew:=(Below.refl _ _).drew
    have CW:(wk.drew.heap[wr.heap.size]? = some (.cells #[.slice ka L[k].1.length kc,.slice ra L[k].2.1.length rc,.int .i64 L[k].2.2] 157 (0,0))∧wk.drew.cell? ⟨g0,mm*2,none⟩=some (.slice la ps[mm].1.length lc)):=hCC _ _ ⟨q0,ck⟩ hdr
    clear sk h0
    refine wp_region_cls (fun W=>(W.heap[wr.heap.size]? = some (.cells #[.slice ka L[k].1.length kc,.slice ra L[k].2.1.length rc,.int .i64 L[k].2.2] 157 (0,0))∧W.cell? ⟨g0,mm*2,none⟩=some (.slice la ps[mm].1.length lc))) (by kernel_rfl) ?_
    refine wpY_take hCC (some 13) (i:=0) (v:=.slice (some ⟨g0,0,none⟩) (mm+1) vc) rfl rfl (by kernel_rfl) (by kernel_rfl) (by kernel_rfl) (fun _ _ _ h=>h) (Or.inl ⟨rfl,fun n hn=>?_⟩) CW ?_
    ·go_simp
    simp only [Act.put,pA,pB,pC]
    refine wpY_take hCC (some 14) (i:=1) (v:=.int .i64 ((mm:Int)+1)) rfl rfl (by kernel_rfl) (by kernel_rfl) (by kernel_rfl) (fun _ _ _ h=>h) (Or.inl ⟨rfl,fun n hn=>?_⟩) CW ?_
    ·go_simp
    simp only [Act.put,pA,pB,pC]
    refine wpY_take hCC (some 15) (i:=2) (v:=.bool false) rfl rfl (by kernel_rfl) (by kernel_rfl) (by kernel_rfl) (fun _ _ _ h=>h) (Or.inl ⟨rfl,fun n hn=>?_⟩) CW ?_
    ·go_simp
    simp only [Act.put,pA,pB,pC]
    refine wpY_take hCC (some 16) (i:=3) (v:=.bool false) rfl rfl (by kernel_rfl) (by kernel_rfl) (by kernel_rfl) (fun _ _ _ h=>h) (Or.inl ⟨rfl,fun n hn=>?_⟩) CW ?_
    ·go_simp
    simp only [Act.put,pA,pB,pC]
    refine wpY_take hCC (some 17) (i:=4) (v:=.slice (some ⟨g0,0,none⟩) (mm+1) vc) rfl rfl (by kernel_rfl) (by kernel_rfl) (by kernel_rfl) (fun _ _ _ h=>h) (Or.inl ⟨rfl,fun n hn=>?_⟩) CW ?_
    ·go_simp
    simp only [Act.put,pA,pB,pC]
    refine wpY_take hCC (some 18) (i:=5) (v:=.slice (some ⟨g0,0,none⟩) (mm+1) vc) rfl rfl (by kernel_rfl) (by kernel_rfl) (by kernel_rfl) (fun _ _ _ h=>h) (Or.inl ⟨rfl,fun n hn=>?_⟩) CW ?_
    ·go_simp
    simp only [Act.put,pA,pB,pC]
    refine wpY_take hCC (some 19) (i:=6) (v:=.int .i64 ((mm:Int)+1)) rfl rfl (by kernel_rfl) (by kernel_rfl) (by kernel_rfl) (fun _ _ _ h=>h) (Or.inl ⟨rfl,fun n hn=>?_⟩) CW ?_
    ·go_simp
    simp only [Act.put,pA,pB,pC]
    refine wpY_take hCC (some 20) (i:=7) (v:=.int .i64 (mm:Int)) rfl rfl (by kernel_rfl) (by kernel_rfl) (by kernel_rfl) (fun _ _ _ h=>h) (Or.inl ⟨rfl,fun n hn=>?_⟩) CW ?_
    ·go_simp
     exact IntWalk.i64_in _ ⟨by omega,by omega⟩
    simp only [Act.put,pA,pB,pC]
    refine wpY_take hCC (some 21) (i:=8) (v:=.pointer (some ⟨g0,mm*2,none⟩)) rfl rfl (by kernel_rfl) (by kernel_rfl) (by kernel_rfl) (fun _ _ _ h=>h) (Or.inl ⟨rfl,fun n hn=>?_⟩) CW ?_
    ·go_simp
    simp only [Act.put,pA,pB,pC]
    refine wpY_take hCC (some 22) (i:=9) (v:=.pointer (some ⟨g0,mm*2,none⟩)) rfl rfl (by kernel_rfl) (by kernel_rfl) (by kernel_rfl) (fun _ _ _ h=>h) (Or.inl ⟨rfl,fun n hn=>?_⟩) CW ?_
    ·go_simp
    simp only [Act.put,pA,pB,pC]
    refine wpY_take hCC (some 23) (i:=10) (v:=.slice la ps[mm].1.length lc) rfl rfl (by kernel_rfl) (by kernel_rfl) (by kernel_rfl) (fun _ _ _ h=>h) (Or.inl ⟨rfl,fun n hn=>?_⟩) CW ?_
    ·have hc:=hn.2
     go_simp
    simp only [Act.put,pA,pB,pC]
    refine wpY_take hCC (some 24) (i:=11) (v:=.pointer (some ⟨wr.heap.size,0,none⟩)) rfl rfl (by kernel_rfl) (by kernel_rfl) (by kernel_rfl) (fun _ _ _ h=>h) (Or.inl ⟨rfl,fun n hn=>?_⟩) CW ?_
    ·go_simp
    simp only [Act.put,pA,pB,pC]
    refine wpY_take hCC (some 25) (i:=12) (v:=.slice ka L[k].1.length kc) rfl rfl (by kernel_rfl) (by kernel_rfl) (by kernel_rfl) (fun _ _ _ h=>h) (Or.inl ⟨rfl,fun n hn=>?_⟩) CW ?_
    ·have hc:n.cell? ⟨wr.heap.size,0,none⟩=some (.slice ka L[k].1.length kc):=cell_of (i:=0) hn.1 rfl
     go_simp
    simp only [Act.put,pA,pB,pC]
    refine wpY_step (rs:=[13]) (by kernel_rfl) (by simp) ?_
    intro w3 hb3 jj hj
    obtain rfl:jj=13:=by simpa using hj
    clear hj
    have CW3:=hCC _ _ CW hb3
    have D3:=chain hdr hb3
    have con:=rows_at la ka lc kc ps[mm].1 L[k].1 w3 (HSl.out.next (chain hbk D3)) (HSk.out.next (chain hbk D3))
    generalize hcm:cmpL ps[mm].1 L[k].1=cm at con
    have HCm:Hid (cmpL ps[mm].1 L[k].1=cm):=hcm
    clear hcm
    refine wpOp_step rfl (fun K hK=>?_)
    go_simp
    refine con.mono ?_
    rintro e w4 ⟨rfl,hb4⟩
    clear con
    have CW4:=hCC _ _ CW3 hb4
    have D4:=chain D3 hb4
    refine hK _ _ ⟨CW4,?_⟩
    clear hK K CW3
    refine wpY_take hCC (some 27) (i:=14) (v:=.bool (cm != 0)) rfl rfl (by kernel_rfl) (by kernel_rfl) (by kernel_rfl) (fun _ _ _ h=>h) (Or.inl ⟨rfl,fun n hn=>?_⟩) CW4 ?_
    ·go_simp
    simp only [Act.put,pA,pB,pC]
    refine wpY_take hCC (some 28) (i:=15) (v:=.bool (cm != 0)) rfl rfl (by kernel_rfl) (by kernel_rfl) (by kernel_rfl) (fun _ _ _ h=>h) (Or.inl ⟨rfl,fun n hn=>?_⟩) CW4 ?_
    ·go_simp
    simp only [Act.put,pA,pB,pC]
    refine wpY_done (by kernel_rfl) ?_
    intro wq hbw
    have D5:=chain D4 hbw
    have HPq:=HPk.next D5
    have hbq:=chain hbk D5
    have qq:=(D5.block _ (lt_of_heap q0)).trans q0
    clear CW CW4 hCC D4 D3 D5 hbw HPk
    by_cases hc0:cm=0
    ·have hcb:(cm != 0)=false:=by simp [hc0]
     rw [hcb]
     have eo:openP (partL (L.take k)) L[k]=ps:=by rw [← Eps.out]; exact openP_same hm (by rw [HCm.out]; exact hc0)
     clear Eps hcb
     obtain ⟨wx,hwx⟩:∃ z,z=wq:=⟨_,rfl⟩
     subst hwx
     obtain ⟨m,hmx⟩:∃ z,z=mm:=⟨_,rfl⟩
     subst hmx
     obtain ⟨ps1,hpx⟩:∃ z,z=ps:=⟨_,rfl⟩
     subst hpx
     obtain ⟨g,hgx0⟩:∃ z,z=g0:=⟨_,rfl⟩
     subst hgx0
     obtain ⟨c,hcx⟩:∃ z,z=vc:=⟨_,rfl⟩
     subst hcx
     have hm1:=hm
     have q0x:=qq
     have hbx:=hbq
     have hsm:=HSm.out
     have HPx:PsAt w w.heap.size wx (.slice (some ⟨g,0,none⟩) ps1.length c) ps1:=by rw [hm]; exact HPq
     clear HPq
     go_wp2_with fail
     have hmlt:m<ps1.length:=by omega
     obtain ⟨xs,Bl,rv,zs,In⟩:=HPx
     have HIn:Hid (PsIn w w.heap.size wx (.slice (some ⟨g,0,none⟩) ps1.length c) ps1 xs Bl rv zs):=In
     have hgB:w.heap.size≤g:=(In.own.lt g rfl).1
     have hgx:g<wx.heap.size:=(In.own.lt g rfl).2
     have hgl:g=wr.heap.size→False:=fun e=>own_not In.own q0x (by decide) (show some g=some wr.heap.size by rw [e])
     obtain ⟨rva,rvc,erv⟩:∃ rva rvc,rv m = .slice rva ps1[m].2.length rvc:=own_shapeF (In.row m hmlt).1
     have cx:wx.cell? ⟨g,m*2+1,none⟩=some (.slice rva ps1[m].2.length rvc):=by
      have:=In.own
      rw [this.cellAt _ (by omega),In.cell m hmlt,erv]
     have hrow1:ps1[m].2.length≤400:=hsm ps1[m] (List.getElem_mem hmlt)
     have ev:Value.slice (some ⟨g,0,none⟩) (m+1) c = .slice (some ⟨g,0,none⟩) ps1.length c:=by rw [hm1]
     have m0:(0:Int)≤(m:Int):=by omega
     have m1:(m:Int)<(m:Int)+1:=by omega
     have m2:(m:Int)≤400:=by omega
     clear In
     try rw [hm1]
     go_upto_region 8 with fail
     have hCC:∀ W W':World,(W.heap[wr.heap.size]? = some (.cells #[.slice ka L[k].1.length kc,.slice ra L[k].2.1.length rc,.int .i64 L[k].2.2] 157 (0,0)))→Below W.heap.size W W'→(W'.heap[wr.heap.size]? = some (.cells #[.slice ka L[k].1.length kc,.slice ra L[k].2.1.length rc,.int .i64 L[k].2.2] 157 (0,0))):=fun W W' h hb=>(hb.block _ (lt_of_heap h)).trans h
     have hdr:Below wx.heap.size wx wx.drew:=(Below.refl _ _).drew
     have CW:(wx.drew.heap[wr.heap.size]? = some (.cells #[.slice ka L[k].1.length kc,.slice ra L[k].2.1.length rc,.int .i64 L[k].2.2] 157 (0,0))):=hCC _ _ q0x hdr
     refine wp_region_cls (fun W=>(W.heap[wr.heap.size]? = some (.cells #[.slice ka L[k].1.length kc,.slice ra L[k].2.1.length rc,.int .i64 L[k].2.2] 157 (0,0)))) (by kernel_rfl) ?_
     refine wpY_take hCC (some 40) (i:=0) (v:=.pointer (some ⟨g,m*2,none⟩)) rfl rfl (by kernel_rfl) (by kernel_rfl) (by kernel_rfl) (fun _ _ _ h=>h) (Or.inl ⟨rfl,fun n hn=>?_⟩) CW ?_
     ·go_simp
     simp only [Act.put,pA,pB,pC]
     refine wpY_take hCC (some 41) (i:=1) (v:=.pointer (some ⟨g,m*2,none⟩)) rfl rfl (by kernel_rfl) (by kernel_rfl) (by kernel_rfl) (fun _ _ _ h=>h) (Or.inl ⟨rfl,fun n hn=>?_⟩) CW ?_
     ·go_simp
     simp only [Act.put,pA,pB,pC]
     refine wpY_take hCC (some 42) (i:=2) (v:=.pointer (some ⟨g,m*2,none⟩)) rfl rfl (by kernel_rfl) (by kernel_rfl) (by kernel_rfl) (fun _ _ _ h=>h) (Or.inl ⟨rfl,fun n hn=>?_⟩) CW ?_
     ·go_simp
     simp only [Act.put,pA,pB,pC]
     refine wpY_take hCC (some 43) (i:=3) (v:=.pointer (some ⟨g,m*2+1,none⟩)) rfl rfl (by kernel_rfl) (by kernel_rfl) (by kernel_rfl) (fun _ _ _ h=>h) (Or.inl ⟨rfl,fun n hn=>?_⟩) CW ?_
     ·go_simp
     simp only [Act.put,pA,pB,pC]
     refine wpY_take hCC (some 45) (i:=5) (v:=.pointer (some ⟨wr.heap.size,1,none⟩)) rfl rfl (by kernel_rfl) (by kernel_rfl) (by kernel_rfl) (fun _ _ _ h=>h) (Or.inl ⟨rfl,fun n hn=>?_⟩) CW ?_
     ·go_simp
     simp only [Act.put,pA,pB,pC]
     refine wpY_take hCC (some 46) (i:=6) (v:=.agg #[.slice ra L[k].2.1.length rc,.int .i64 L[k].2.2]) rfl rfl (by kernel_rfl) (by kernel_rfl) (by kernel_rfl) (fun _ _ _ h=>h) (Or.inl ⟨rfl,fun n hn=>?_⟩) CW ?_
     ·have hc:n.cell? ⟨wr.heap.size,1,none⟩=some (.slice ra L[k].2.1.length rc):=cell_of (i:=1) hn rfl
      have hc1:n.cell? ⟨wr.heap.size,2,none⟩=some (.int .i64 L[k].2.2):=cell_of (i:=2) hn rfl
      go_simp
     simp only [Act.put,pA,pB,pC]
     refine wpY_step (rs:=[4,7]) (by kernel_rfl) (by simp) ?_
     intro w3 hb3 jj hj
     have D3:=chain hdr hb3
     have CW3:=hCC _ _ CW hb3
     rcases (by simpa using hj:jj=4∨jj=7) with rfl | rfl
     ·clear hj
      have c3:=(D3.cell (p:=⟨g,m*2+1,none⟩) hgx).trans cx
      refine wpOp_step rfl (fun K hK=>?_)
      go_simp
      refine hK _ _ ⟨CW3,?_⟩
      clear hK K
      try simp only [Act.put,pA,pB,pC]
      refine wpY_step (rs:=[7]) (by kernel_rfl) (by simp) ?_
      intro w5 hb5 jj hj
      obtain rfl:jj=7:=by simpa using hj
      clear hj
      refine wpOp_step rfl (fun K hK=>?_)
      go_simp
      have hal5:Below w5.heap.size w5 (w5.alloc (.cells #[.slice ra L[k].2.1.length rc,.int .i64 L[k].2.2] 58)):=(Below.refl _ _).alloc (Nat.le_refl _) _
      have q6:=heap_new w5 #[.slice ra L[k].2.1.length rc,.int .i64 L[k].2.2] 58
      have D6:=chain (chain D3 hb5) hal5
      have CWt:=hCC _ _ (hCC _ _ CW3 hb5) hal5
      refine hK _ _ ⟨CWt,?_⟩
      clear hK K c3 CW3
      generalize w5.alloc (.cells #[.slice ra L[k].2.1.length rc,.int .i64 L[k].2.2] 58)=w6 at *
      try simp only [Act.put,pA,pB,pC]
      refine wpY_step (rs:=[8]) (by kernel_rfl) (by simp) ?_
      intro w7 hb7 jj hj
      obtain rfl:jj=8:=by simpa using hj
      clear hj
      have D7:=chain D6 hb7
      have CW7:=hCC _ _ CWt hb7
      have q7:=(hb7.block _ (lt_of_heap q6)).trans q6
      have I7:=HIn.out.next D7
      have rl7:w7.ownsRow Bl 58 2 (.slice rva ps1[m].2.length rvc) ps1[m].2.length (zs m):=by
       have:=(I7.row m hmlt).1
       rw [if_pos hm1.symm,erv] at this
       exact this
      have hBl7:=I7.hi
      refine wpOp_step rfl (fun K hK=>?_)
      refine Eq.mpr (if_pos (by kernel_rfl)) ?_
      refine wp_append_at (some 48) rfl (Operand.tmp 44) (Operand.tmp 47) 34 rfl Bl 58 i0 _ 2 32 Tryz.underlying34 hi hj0 hj1 hj2 rfl (by decide) (.slice rva ps1[m].2.length rvc) ps1[m].2.length (zs m) rfl rl7 ⟨w5.heap.size,0,none⟩ 1 1 [.slice ra L[k].2.1.length rc,.int .i64 L[k].2.2] rfl rfl ?Ac1 ?Ac2 ?Ac3 ?Ac4 ?Ac5 ?_
      case Ac1 =>
       intro j u hj
       match j,hj with
       | 0,hj=>simp at hj; subst hj; exact cell_of (i:=0) q7 rfl
       | 1,hj=>simp at hj; subst hj; exact cell_of (i:=1) q7 rfl
      case Ac2=>intro u hu; simp at hu; rcases hu with rfl | rfl <;> rfl
      case Ac3=>unfold maxLen; omega
      case Ac4=>omega
      case Ac5=>exact hBl7
      intro v8 w8 o8 g8 _
      have nb8:∀ q,Value.ownBlock (.slice rva ps1[m].2.length rvc)=some q→w.heap.size≤q∧q<w7.heap.size∧(q=wr.heap.size→False)∧(q=g→False):=fun q hq=>by
       have h1:=rl7.lt q hq
       refine ⟨Nat.le_trans I7.lo h1.1,h1.2,fun e=>?_,fun e=>?_⟩
       ·exact own_not rl7 CW7 (by decide) (by rw [hq,e])
       ·have o7:=I7.own
        rcases own_ne (by decide) rl7 o7 with h2 | h2
        ·rw [h2] at hq; cases hq
        ·exact h2 (by rw [hq,e]; rfl)
      have CW8:(w8.heap[wr.heap.size]? = some (.cells #[.slice ka L[k].1.length kc,.slice ra L[k].2.1.length rc,.int .i64 L[k].2.2] 157 (0,0))):=(g8.block _ (lt_of_heap CW7) (fun e=>(nb8 _ e.symm).2.2.1 rfl)).trans CW7
      have c8:w8.cell? ⟨g,m*2+1,none⟩=some (.slice rva ps1[m].2.length rvc)∧w8.frozen? ⟨g,m*2+1,none⟩=false:=by
       have o7:=I7.own
       rw [hm1] at o7
       have hb8:w8.heap[g]? = w7.heap[g]?:=g8.block g (o7.lt g rfl).2 (fun e=>(nb8 _ e.symm).2.2.2 rfl)
       refine ⟨(World.cell?_of_block (a:=⟨g,m*2+1,none⟩) hb8).trans ?_,(World.frozen?_of_block (a:=⟨g,m*2+1,none⟩) hb8).trans (o7.frozenAt _)⟩
       rw [o7.cellAt _ (by omega),I7.cell m hmlt,erv]
      have hg8:g<w8.heap.size:=by
       have o7:=I7.own
       rw [hm1] at o7
       exact Nat.lt_of_lt_of_le (o7.lt g rfl).2 g8.size
      refine hK _ _ ⟨CW8,?_⟩
      clear hK K
      try simp only [Act.put,pA,pB,pC]
      refine wpY_take hCC (some 49) (i:=9) (v:=.pointer (some ⟨g,m*2,none⟩)) rfl rfl (by kernel_rfl) (by kernel_rfl) (by kernel_rfl) (fun _ _ _ h=>h) (Or.inl ⟨rfl,fun n hn=>?_⟩) CW8 ?_
      ·go_simp
      simp only [Act.put,pA,pB,pC]
      refine wpY_take hCC (some 50) (i:=10) (v:=.pointer (some ⟨g,m*2+1,none⟩)) rfl rfl (by kernel_rfl) (by kernel_rfl) (by kernel_rfl) (fun _ _ _ h=>h) (Or.inl ⟨rfl,fun n hn=>?_⟩) CW8 ?_
      ·go_simp
      simp only [Act.put,pA,pB,pC]
      refine wpY_step (rs:=[11]) (by kernel_rfl) (by simp) ?_
      intro w9 hb9 jj hj
      obtain rfl:jj=11:=by simpa using hj
      clear hj
      have c9:w9.cell? ⟨g,m*2+1,none⟩=some (.slice rva ps1[m].2.length rvc):=(hb9.cell (p:=⟨g,m*2+1,none⟩) hg8).trans c8.1
      have f9:w9.frozen? ⟨g,m*2+1,none⟩=false:=(hb9.frozen (p:=⟨g,m*2+1,none⟩) hg8).trans c8.2
      have CW9:=hCC _ _ CW8 hb9
      obtain ⟨v8a,v8c,ev8⟩:∃ v8a v8c,v8 = .slice v8a (ps1[m].2.length+1) v8c:=own_shapeF o8
      have P9:PsAt w w.heap.size (w9.setCell ⟨g,m*2+1,none⟩ v8) (.slice (some ⟨g,0,none⟩) (m+1) c) (putR ps1 L[k].2):=by
       have I7':=I7
       rw [← ev] at I7'
       exact PsIn.put I7' hm1 (rc:=rc) HSr.out (by rw [erv]; exact g8) o8 hb9
      have B9:Below w.heap.size w (w9.setCell ⟨g,m*2+1,none⟩ v8):=((chain ((chain hbx D7).trans ((Below.refl _ _).grown g8 (Nat.le_trans hbx.size D7.size) (fun q hq=>(nb8 q hq).1))) hb9)).setCell (p:=⟨g,m*2+1,none⟩) hgB _
      have CW10:((w9.setCell ⟨g,m*2+1,none⟩ v8).heap[wr.heap.size]? = some (.cells #[.slice ka L[k].1.length kc,.slice ra L[k].2.1.length rc,.int .i64 L[k].2.2] 157 (0,0))):=(Below.heap_setCell _ _ _ _ (fun e=>hgl e.symm)).trans CW9
      subst ev8
      refine wpOp_step rfl (fun K hK=>?_)
      go_simp
      refine hK _ _ ⟨CW10,?_⟩
      clear hK K CW7 CW8 CW9 c8 c9 f9 nb8 rl7 I7 q7 o8 g8
      generalize w9.setCell ⟨g,m*2+1,none⟩ (.slice v8a (ps1[m].2.length+1) v8c)=wS at *
      try simp only [Act.put,pA,pB,pC]
      refine wpY_done (by kernel_rfl) ?_
      intro wT hbT
      have PT:=P9.next hbT
      have BT:=chain B9 hbT
      clear P9 B9 CW10 CW CWt
      go_wp2_with fail
      go_roundw
      case rel=>exact ⟨k+1,by omega,by go_num,by rw [HT.out,eo]; first | exact PT | (rw [hm1]; exact PT),BT⟩
      case measure=>simp [intOf]; omega
     ·clear hj
      refine wpOp_step rfl (fun K hK=>?_)
      go_simp
      have hal4:Below w3.heap.size w3 (w3.alloc (.cells #[.slice ra L[k].2.1.length rc,.int .i64 L[k].2.2] 58)):=(Below.refl _ _).alloc (Nat.le_refl _) _
      have q4:=heap_new w3 #[.slice ra L[k].2.1.length rc,.int .i64 L[k].2.2] 58
      have D4:=chain D3 hal4
      have CW4:=hCC _ _ CW3 hal4
      refine hK _ _ ⟨CW4,?_⟩
      clear hK K
      generalize w3.alloc (.cells #[.slice ra L[k].2.1.length rc,.int .i64 L[k].2.2] 58)=w4 at *
      try simp only [Act.put,pA,pB,pC]
      refine wpY_step (rs:=[4]) (by kernel_rfl) (by simp) ?_
      intro w6 hb6 jj hj
      obtain rfl:jj=4:=by simpa using hj
      clear hj
      have D6:=chain D4 hb6
      have CWt:=hCC _ _ CW4 hb6
      have q6:=(hb6.block _ (lt_of_heap q4)).trans q4
      have c6:=(D6.cell (p:=⟨g,m*2+1,none⟩) hgx).trans cx
      refine wpOp_step rfl (fun K hK=>?_)
      go_simp
      refine hK _ _ ⟨CWt,?_⟩
      clear hK K c6 CW3 CW4
      try simp only [Act.put,pA,pB,pC]
      refine wpY_step (rs:=[8]) (by kernel_rfl) (by simp) ?_
      intro w7 hb7 jj hj
      obtain rfl:jj=8:=by simpa using hj
      clear hj
      have D7:=chain D6 hb7
      have CW7:=hCC _ _ CWt hb7
      have q7:=(hb7.block _ (lt_of_heap q6)).trans q6
      have I7:=HIn.out.next D7
      have rl7:w7.ownsRow Bl 58 2 (.slice rva ps1[m].2.length rvc) ps1[m].2.length (zs m):=by
       have:=(I7.row m hmlt).1
       rw [if_pos hm1.symm,erv] at this
       exact this
      have hBl7:=I7.hi
      refine wpOp_step rfl (fun K hK=>?_)
      refine Eq.mpr (if_pos (by kernel_rfl)) ?_
      refine wp_append_at (some 48) rfl (Operand.tmp 44) (Operand.tmp 47) 34 rfl Bl 58 i0 _ 2 32 Tryz.underlying34 hi hj0 hj1 hj2 rfl (by decide) (.slice rva ps1[m].2.length rvc) ps1[m].2.length (zs m) rfl rl7 ⟨w3.heap.size,0,none⟩ 1 1 [.slice ra L[k].2.1.length rc,.int .i64 L[k].2.2] rfl rfl ?Ac1 ?Ac2 ?Ac3 ?Ac4 ?Ac5 ?_
      case Ac1 =>
       intro j u hj
       match j,hj with
       | 0,hj=>simp at hj; subst hj; exact cell_of (i:=0) q7 rfl
       | 1,hj=>simp at hj; subst hj; exact cell_of (i:=1) q7 rfl
      case Ac2=>intro u hu; simp at hu; rcases hu with rfl | rfl <;> rfl
      case Ac3=>unfold maxLen; omega
      case Ac4=>omega
      case Ac5=>exact hBl7
      intro v8 w8 o8 g8 _
      have nb8:∀ q,Value.ownBlock (.slice rva ps1[m].2.length rvc)=some q→w.heap.size≤q∧q<w7.heap.size∧(q=wr.heap.size→False)∧(q=g→False):=fun q hq=>by
       have h1:=rl7.lt q hq
       refine ⟨Nat.le_trans I7.lo h1.1,h1.2,fun e=>?_,fun e=>?_⟩
       ·exact own_not rl7 CW7 (by decide) (by rw [hq,e])
       ·have o7:=I7.own
        rcases own_ne (by decide) rl7 o7 with h2 | h2
        ·rw [h2] at hq; cases hq
        ·exact h2 (by rw [hq,e]; rfl)
      have CW8:(w8.heap[wr.heap.size]? = some (.cells #[.slice ka L[k].1.length kc,.slice ra L[k].2.1.length rc,.int .i64 L[k].2.2] 157 (0,0))):=(g8.block _ (lt_of_heap CW7) (fun e=>(nb8 _ e.symm).2.2.1 rfl)).trans CW7
      have c8:w8.cell? ⟨g,m*2+1,none⟩=some (.slice rva ps1[m].2.length rvc)∧w8.frozen? ⟨g,m*2+1,none⟩=false:=by
       have o7:=I7.own
       rw [hm1] at o7
       have hb8:w8.heap[g]? = w7.heap[g]?:=g8.block g (o7.lt g rfl).2 (fun e=>(nb8 _ e.symm).2.2.2 rfl)
       refine ⟨(World.cell?_of_block (a:=⟨g,m*2+1,none⟩) hb8).trans ?_,(World.frozen?_of_block (a:=⟨g,m*2+1,none⟩) hb8).trans (o7.frozenAt _)⟩
       rw [o7.cellAt _ (by omega),I7.cell m hmlt,erv]
      have hg8:g<w8.heap.size:=by
       have o7:=I7.own
       rw [hm1] at o7
       exact Nat.lt_of_lt_of_le (o7.lt g rfl).2 g8.size
      refine hK _ _ ⟨CW8,?_⟩
      clear hK K
      try simp only [Act.put,pA,pB,pC]
      refine wpY_take hCC (some 49) (i:=9) (v:=.pointer (some ⟨g,m*2,none⟩)) rfl rfl (by kernel_rfl) (by kernel_rfl) (by kernel_rfl) (fun _ _ _ h=>h) (Or.inl ⟨rfl,fun n hn=>?_⟩) CW8 ?_
      ·go_simp
      simp only [Act.put,pA,pB,pC]
      refine wpY_take hCC (some 50) (i:=10) (v:=.pointer (some ⟨g,m*2+1,none⟩)) rfl rfl (by kernel_rfl) (by kernel_rfl) (by kernel_rfl) (fun _ _ _ h=>h) (Or.inl ⟨rfl,fun n hn=>?_⟩) CW8 ?_
      ·go_simp
      simp only [Act.put,pA,pB,pC]
      refine wpY_step (rs:=[11]) (by kernel_rfl) (by simp) ?_
      intro w9 hb9 jj hj
      obtain rfl:jj=11:=by simpa using hj
      clear hj
      have c9:w9.cell? ⟨g,m*2+1,none⟩=some (.slice rva ps1[m].2.length rvc):=(hb9.cell (p:=⟨g,m*2+1,none⟩) hg8).trans c8.1
      have f9:w9.frozen? ⟨g,m*2+1,none⟩=false:=(hb9.frozen (p:=⟨g,m*2+1,none⟩) hg8).trans c8.2
      have CW9:=hCC _ _ CW8 hb9
      obtain ⟨v8a,v8c,ev8⟩:∃ v8a v8c,v8 = .slice v8a (ps1[m].2.length+1) v8c:=own_shapeF o8
      have P9:PsAt w w.heap.size (w9.setCell ⟨g,m*2+1,none⟩ v8) (.slice (some ⟨g,0,none⟩) (m+1) c) (putR ps1 L[k].2):=by
       have I7':=I7
       rw [← ev] at I7'
       exact PsIn.put I7' hm1 (rc:=rc) HSr.out (by rw [erv]; exact g8) o8 hb9
      have B9:Below w.heap.size w (w9.setCell ⟨g,m*2+1,none⟩ v8):=((chain ((chain hbx D7).trans ((Below.refl _ _).grown g8 (Nat.le_trans hbx.size D7.size) (fun q hq=>(nb8 q hq).1))) hb9)).setCell (p:=⟨g,m*2+1,none⟩) hgB _
      have CW10:((w9.setCell ⟨g,m*2+1,none⟩ v8).heap[wr.heap.size]? = some (.cells #[.slice ka L[k].1.length kc,.slice ra L[k].2.1.length rc,.int .i64 L[k].2.2] 157 (0,0))):=(Below.heap_setCell _ _ _ _ (fun e=>hgl e.symm)).trans CW9
      subst ev8
      refine wpOp_step rfl (fun K hK=>?_)
      go_simp
      refine hK _ _ ⟨CW10,?_⟩
      clear hK K CW7 CW8 CW9 c8 c9 f9 nb8 rl7 I7 q7 o8 g8
      generalize w9.setCell ⟨g,m*2+1,none⟩ (.slice v8a (ps1[m].2.length+1) v8c)=wS at *
      try simp only [Act.put,pA,pB,pC]
      refine wpY_done (by kernel_rfl) ?_
      intro wT hbT
      have PT:=P9.next hbT
      have BT:=chain B9 hbT
      clear P9 B9 CW10 CW CWt
      go_wp2_with fail
      go_roundw
      case rel=>exact ⟨k+1,by omega,by go_num,by rw [HT.out,eo]; first | exact PT | (rw [hm1]; exact PT),BT⟩
      case measure=>simp [intOf]; omega
    ·have hcb:(cm != 0)=true:=by simp [hc0]
     rw [hcb]
     have HOp:Hid (openP (partL (L.take k)) L[k]=ps ++ [(L[k].1,[])]):=by show _=_; rw [← Eps.out]; exact openP_other hm (by rw [HCm.out]; exact hc0)
     clear Eps hcb
     obtain ⟨xs,Bl,rv,zs,In⟩:=HPq
     have ho:=In.own
     have HInq:Hid (PsIn w w.heap.size wq (.slice (some ⟨g0,0,none⟩) (mm+1) vc) ps xs Bl rv zs):=In
     have kq:wq.cell? ⟨wr.heap.size,0,none⟩=some (.slice ka L[k].1.length kc):=cell_of (i:=0) qq rfl
     have hzq:=hbq.size
     clear In
     go_wp2_with (first | (at_builtin; refine wpList_append_own _ rfl _ _ 149 rfl w.heap.size 154 ip _ 2 48 Tryz.underlying149 hip hp0 hp1 hp2 rfl (by decide) _ _ _ rfl (ho.alloc _) ⟨wq.heap.size,0,none⟩ 1 1 [.slice ka L[k].1.length kc,.slice none 0 0] rfl rfl ?Bc1 ?Bc2 ?Bc3 ?Bc4 ?Bc5 ?_))
     case Bc1 =>
      intro i u hu
      match i,hu with
      | 0,hu=>simp at hu; subst hu; simp [Addr.add]
      | 1,hu=>simp at hu; subst hu; simp [Addr.add]
     case Bc2=>intro u hu; simp at hu; rcases hu with rfl | rfl <;> rfl
     case Bc3=>unfold maxLen; omega
     case Bc4=>omega
     case Bc5=>simp; omega
     intro v' wx ox gx _
     have halq:Below wq.heap.size wq (wq.alloc (.cells #[.slice ka L[k].1.length kc,.slice none 0 0] 154)):=(Below.refl _ _).alloc (Nat.le_refl _) _
     have oq:=ho.alloc (.cells #[.slice ka L[k].1.length kc,.slice none 0 0] 154)
     have HPx:PsAt w w.heap.size wx v' (ps ++ [(L[k].1,[])]):=(HInq.out.next halq).push HSk.out gx (by first | exact ox | (rw [hm]; exact ox))
     have hbx:Below w.heap.size w wx:=(chain hbq halq).grown gx (by simp; omega) (fun q hq=>(oq.lt q hq).1)
     have qx:wx.heap[wr.heap.size]? = some (.cells #[.slice ka L[k].1.length kc,.slice ra L[k].2.1.length rc,.int .i64 L[k].2.2] 157 (0,0)):=by
      have qa:=(halq.block _ (lt_of_heap qq)).trans qq
      exact (gx.block _ (lt_of_heap qa) (fun e=>own_not oq qa (by decide) e.symm)).trans qa
     have q0x:=qx
     obtain ⟨ps1,eps1⟩:∃ ps1,ps1=ps ++ [(L[k].1,[])]:=⟨_,rfl⟩
     obtain ⟨m,hmm⟩:∃ m,m=(mm+1):=⟨_,rfl⟩
     have hm4:m≤400:=by omega
     rw [← eps1] at HPx
     have hm1:ps1.length=m+1:=by rw [hmm,eps1,List.length_append]; first | rfl | (rw [hm]; rfl)
     have eo:openP (partL (L.take k)) L[k]=ps1:=by rw [eps1]; exact HOp.out
     have hsm:∀ p ∈ ps1,p.2.length≤400:=fun p hp=>by
      rw [eps1] at hp
      rcases List.mem_append.1 hp with hp | hp
      ·exact HSm.out p hp
      ·rw [List.mem_singleton.1 hp]; exact Nat.zero_le _
     obtain ⟨g,c,evx⟩:∃ g c,v' = .slice (some ⟨g,0,none⟩) ps1.length c:=by
      obtain ⟨xs',_,_,_,I'⟩:=HPx
      rcases I'.own.2 with ⟨_,h2⟩ | ⟨g2,c2,_,h2,_⟩
      ·omega
      ·exact ⟨g2,c2,h2⟩
     subst evx
     clear eps1 ox gx oq HInq ho kq halq hmm
     have hmlt:m<ps1.length:=by omega
     obtain ⟨xs,Bl,rv,zs,In⟩:=HPx
     have HIn:Hid (PsIn w w.heap.size wx (.slice (some ⟨g,0,none⟩) ps1.length c) ps1 xs Bl rv zs):=In
     have hgB:w.heap.size≤g:=(In.own.lt g rfl).1
     have hgx:g<wx.heap.size:=(In.own.lt g rfl).2
     have hgl:g=wr.heap.size→False:=fun e=>own_not In.own q0x (by decide) (show some g=some wr.heap.size by rw [e])
     obtain ⟨rva,rvc,erv⟩:∃ rva rvc,rv m = .slice rva ps1[m].2.length rvc:=own_shapeF (In.row m hmlt).1
     have cx:wx.cell? ⟨g,m*2+1,none⟩=some (.slice rva ps1[m].2.length rvc):=by
      have:=In.own
      rw [this.cellAt _ (by omega),In.cell m hmlt,erv]
     have hrow1:ps1[m].2.length≤400:=hsm ps1[m] (List.getElem_mem hmlt)
     have ev:Value.slice (some ⟨g,0,none⟩) (m+1) c = .slice (some ⟨g,0,none⟩) ps1.length c:=by rw [hm1]
     have m0:(0:Int)≤(m:Int):=by omega
     have m1:(m:Int)<(m:Int)+1:=by omega
     have m2:(m:Int)≤400:=by omega
     clear In
     try rw [hm1]
     go_upto_region 8 with fail
     have hCC:∀ W W':World,(W.heap[wr.heap.size]? = some (.cells #[.slice ka L[k].1.length kc,.slice ra L[k].2.1.length rc,.int .i64 L[k].2.2] 157 (0,0)))→Below W.heap.size W W'→(W'.heap[wr.heap.size]? = some (.cells #[.slice ka L[k].1.length kc,.slice ra L[k].2.1.length rc,.int .i64 L[k].2.2] 157 (0,0))):=fun W W' h hb=>(hb.block _ (lt_of_heap h)).trans h
     have hdr:Below wx.heap.size wx wx.drew:=(Below.refl _ _).drew
     have CW:(wx.drew.heap[wr.heap.size]? = some (.cells #[.slice ka L[k].1.length kc,.slice ra L[k].2.1.length rc,.int .i64 L[k].2.2] 157 (0,0))):=hCC _ _ q0x hdr
     refine wp_region_cls (fun W=>(W.heap[wr.heap.size]? = some (.cells #[.slice ka L[k].1.length kc,.slice ra L[k].2.1.length rc,.int .i64 L[k].2.2] 157 (0,0)))) (by kernel_rfl) ?_
     refine wpY_take hCC (some 40) (i:=0) (v:=.pointer (some ⟨g,m*2,none⟩)) rfl rfl (by kernel_rfl) (by kernel_rfl) (by kernel_rfl) (fun _ _ _ h=>h) (Or.inl ⟨rfl,fun n hn=>?_⟩) CW ?_
     ·go_simp
     simp only [Act.put,pA,pB,pC]
     refine wpY_take hCC (some 41) (i:=1) (v:=.pointer (some ⟨g,m*2,none⟩)) rfl rfl (by kernel_rfl) (by kernel_rfl) (by kernel_rfl) (fun _ _ _ h=>h) (Or.inl ⟨rfl,fun n hn=>?_⟩) CW ?_
     ·go_simp
     simp only [Act.put,pA,pB,pC]
     refine wpY_take hCC (some 42) (i:=2) (v:=.pointer (some ⟨g,m*2,none⟩)) rfl rfl (by kernel_rfl) (by kernel_rfl) (by kernel_rfl) (fun _ _ _ h=>h) (Or.inl ⟨rfl,fun n hn=>?_⟩) CW ?_
     ·go_simp
     simp only [Act.put,pA,pB,pC]
     refine wpY_take hCC (some 43) (i:=3) (v:=.pointer (some ⟨g,m*2+1,none⟩)) rfl rfl (by kernel_rfl) (by kernel_rfl) (by kernel_rfl) (fun _ _ _ h=>h) (Or.inl ⟨rfl,fun n hn=>?_⟩) CW ?_
     ·go_simp
     simp only [Act.put,pA,pB,pC]
     refine wpY_take hCC (some 45) (i:=5) (v:=.pointer (some ⟨wr.heap.size,1,none⟩)) rfl rfl (by kernel_rfl) (by kernel_rfl) (by kernel_rfl) (fun _ _ _ h=>h) (Or.inl ⟨rfl,fun n hn=>?_⟩) CW ?_
     ·go_simp
     simp only [Act.put,pA,pB,pC]
     refine wpY_take hCC (some 46) (i:=6) (v:=.agg #[.slice ra L[k].2.1.length rc,.int .i64 L[k].2.2]) rfl rfl (by kernel_rfl) (by kernel_rfl) (by kernel_rfl) (fun _ _ _ h=>h) (Or.inl ⟨rfl,fun n hn=>?_⟩) CW ?_
     ·have hc:n.cell? ⟨wr.heap.size,1,none⟩=some (.slice ra L[k].2.1.length rc):=cell_of (i:=1) hn rfl
      have hc1:n.cell? ⟨wr.heap.size,2,none⟩=some (.int .i64 L[k].2.2):=cell_of (i:=2) hn rfl
      go_simp
     simp only [Act.put,pA,pB,pC]
     refine wpY_step (rs:=[4,7]) (by kernel_rfl) (by simp) ?_
     intro w3 hb3 jj hj
     have D3:=chain hdr hb3
     have CW3:=hCC _ _ CW hb3
     rcases (by simpa using hj:jj=4∨jj=7) with rfl | rfl
     ·clear hj
      have c3:=(D3.cell (p:=⟨g,m*2+1,none⟩) hgx).trans cx
      refine wpOp_step rfl (fun K hK=>?_)
      go_simp
      refine hK _ _ ⟨CW3,?_⟩
      clear hK K
      try simp only [Act.put,pA,pB,pC]
      refine wpY_step (rs:=[7]) (by kernel_rfl) (by simp) ?_
      intro w5 hb5 jj hj
      obtain rfl:jj=7:=by simpa using hj
      clear hj
      refine wpOp_step rfl (fun K hK=>?_)
      go_simp
      have hal5:Below w5.heap.size w5 (w5.alloc (.cells #[.slice ra L[k].2.1.length rc,.int .i64 L[k].2.2] 58)):=(Below.refl _ _).alloc (Nat.le_refl _) _
      have q6:=heap_new w5 #[.slice ra L[k].2.1.length rc,.int .i64 L[k].2.2] 58
      have D6:=chain (chain D3 hb5) hal5
      have CWt:=hCC _ _ (hCC _ _ CW3 hb5) hal5
      refine hK _ _ ⟨CWt,?_⟩
      clear hK K c3 CW3
      generalize w5.alloc (.cells #[.slice ra L[k].2.1.length rc,.int .i64 L[k].2.2] 58)=w6 at *
      try simp only [Act.put,pA,pB,pC]
      refine wpY_step (rs:=[8]) (by kernel_rfl) (by simp) ?_
      intro w7 hb7 jj hj
      obtain rfl:jj=8:=by simpa using hj
      clear hj
      have D7:=chain D6 hb7
      have CW7:=hCC _ _ CWt hb7
      have q7:=(hb7.block _ (lt_of_heap q6)).trans q6
      have I7:=HIn.out.next D7
      have rl7:w7.ownsRow Bl 58 2 (.slice rva ps1[m].2.length rvc) ps1[m].2.length (zs m):=by
       have:=(I7.row m hmlt).1
       rw [if_pos hm1.symm,erv] at this
       exact this
      have hBl7:=I7.hi
      refine wpOp_step rfl (fun K hK=>?_)
      refine Eq.mpr (if_pos (by kernel_rfl)) ?_
      refine wp_append_at (some 48) rfl (Operand.tmp 44) (Operand.tmp 47) 34 rfl Bl 58 i0 _ 2 32 Tryz.underlying34 hi hj0 hj1 hj2 rfl (by decide) (.slice rva ps1[m].2.length rvc) ps1[m].2.length (zs m) rfl rl7 ⟨w5.heap.size,0,none⟩ 1 1 [.slice ra L[k].2.1.length rc,.int .i64 L[k].2.2] rfl rfl ?Ac1 ?Ac2 ?Ac3 ?Ac4 ?Ac5 ?_
      case Ac1 =>
       intro j u hj
       match j,hj with
       | 0,hj=>simp at hj; subst hj; exact cell_of (i:=0) q7 rfl
       | 1,hj=>simp at hj; subst hj; exact cell_of (i:=1) q7 rfl
      case Ac2=>intro u hu; simp at hu; rcases hu with rfl | rfl <;> rfl
      case Ac3=>unfold maxLen; omega
      case Ac4=>omega
      case Ac5=>exact hBl7
      intro v8 w8 o8 g8 _
      have nb8:∀ q,Value.ownBlock (.slice rva ps1[m].2.length rvc)=some q→w.heap.size≤q∧q<w7.heap.size∧(q=wr.heap.size→False)∧(q=g→False):=fun q hq=>by
       have h1:=rl7.lt q hq
       refine ⟨Nat.le_trans I7.lo h1.1,h1.2,fun e=>?_,fun e=>?_⟩
       ·exact own_not rl7 CW7 (by decide) (by rw [hq,e])
       ·have o7:=I7.own
        rcases own_ne (by decide) rl7 o7 with h2 | h2
        ·rw [h2] at hq; cases hq
        ·exact h2 (by rw [hq,e]; rfl)
      have CW8:(w8.heap[wr.heap.size]? = some (.cells #[.slice ka L[k].1.length kc,.slice ra L[k].2.1.length rc,.int .i64 L[k].2.2] 157 (0,0))):=(g8.block _ (lt_of_heap CW7) (fun e=>(nb8 _ e.symm).2.2.1 rfl)).trans CW7
      have c8:w8.cell? ⟨g,m*2+1,none⟩=some (.slice rva ps1[m].2.length rvc)∧w8.frozen? ⟨g,m*2+1,none⟩=false:=by
       have o7:=I7.own
       rw [hm1] at o7
       have hb8:w8.heap[g]? = w7.heap[g]?:=g8.block g (o7.lt g rfl).2 (fun e=>(nb8 _ e.symm).2.2.2 rfl)
       refine ⟨(World.cell?_of_block (a:=⟨g,m*2+1,none⟩) hb8).trans ?_,(World.frozen?_of_block (a:=⟨g,m*2+1,none⟩) hb8).trans (o7.frozenAt _)⟩
       rw [o7.cellAt _ (by omega),I7.cell m hmlt,erv]
      have hg8:g<w8.heap.size:=by
       have o7:=I7.own
       rw [hm1] at o7
       exact Nat.lt_of_lt_of_le (o7.lt g rfl).2 g8.size
      refine hK _ _ ⟨CW8,?_⟩
      clear hK K
      try simp only [Act.put,pA,pB,pC]
      refine wpY_take hCC (some 49) (i:=9) (v:=.pointer (some ⟨g,m*2,none⟩)) rfl rfl (by kernel_rfl) (by kernel_rfl) (by kernel_rfl) (fun _ _ _ h=>h) (Or.inl ⟨rfl,fun n hn=>?_⟩) CW8 ?_
      ·go_simp
      simp only [Act.put,pA,pB,pC]
      refine wpY_take hCC (some 50) (i:=10) (v:=.pointer (some ⟨g,m*2+1,none⟩)) rfl rfl (by kernel_rfl) (by kernel_rfl) (by kernel_rfl) (fun _ _ _ h=>h) (Or.inl ⟨rfl,fun n hn=>?_⟩) CW8 ?_
      ·go_simp
      simp only [Act.put,pA,pB,pC]
      refine wpY_step (rs:=[11]) (by kernel_rfl) (by simp) ?_
      intro w9 hb9 jj hj
      obtain rfl:jj=11:=by simpa using hj
      clear hj
      have c9:w9.cell? ⟨g,m*2+1,none⟩=some (.slice rva ps1[m].2.length rvc):=(hb9.cell (p:=⟨g,m*2+1,none⟩) hg8).trans c8.1
      have f9:w9.frozen? ⟨g,m*2+1,none⟩=false:=(hb9.frozen (p:=⟨g,m*2+1,none⟩) hg8).trans c8.2
      have CW9:=hCC _ _ CW8 hb9
      obtain ⟨v8a,v8c,ev8⟩:∃ v8a v8c,v8 = .slice v8a (ps1[m].2.length+1) v8c:=own_shapeF o8
      have P9:PsAt w w.heap.size (w9.setCell ⟨g,m*2+1,none⟩ v8) (.slice (some ⟨g,0,none⟩) (m+1) c) (putR ps1 L[k].2):=by
       have I7':=I7
       rw [← ev] at I7'
       exact PsIn.put I7' hm1 (rc:=rc) HSr.out (by rw [erv]; exact g8) o8 hb9
      have B9:Below w.heap.size w (w9.setCell ⟨g,m*2+1,none⟩ v8):=((chain ((chain hbx D7).trans ((Below.refl _ _).grown g8 (Nat.le_trans hbx.size D7.size) (fun q hq=>(nb8 q hq).1))) hb9)).setCell (p:=⟨g,m*2+1,none⟩) hgB _
      have CW10:((w9.setCell ⟨g,m*2+1,none⟩ v8).heap[wr.heap.size]? = some (.cells #[.slice ka L[k].1.length kc,.slice ra L[k].2.1.length rc,.int .i64 L[k].2.2] 157 (0,0))):=(Below.heap_setCell _ _ _ _ (fun e=>hgl e.symm)).trans CW9
      subst ev8
      refine wpOp_step rfl (fun K hK=>?_)
      go_simp
      refine hK _ _ ⟨CW10,?_⟩
      clear hK K CW7 CW8 CW9 c8 c9 f9 nb8 rl7 I7 q7 o8 g8
      generalize w9.setCell ⟨g,m*2+1,none⟩ (.slice v8a (ps1[m].2.length+1) v8c)=wS at *
      try simp only [Act.put,pA,pB,pC]
      refine wpY_done (by kernel_rfl) ?_
      intro wT hbT
      have PT:=P9.next hbT
      have BT:=chain B9 hbT
      clear P9 B9 CW10 CW CWt
      go_wp2_with fail
      go_roundw
      case rel=>exact ⟨k+1,by omega,by go_num,by rw [HT.out,eo]; first | exact PT | (rw [hm1]; exact PT),BT⟩
      case measure=>simp [intOf]; omega
     ·clear hj
      refine wpOp_step rfl (fun K hK=>?_)
      go_simp
      have hal4:Below w3.heap.size w3 (w3.alloc (.cells #[.slice ra L[k].2.1.length rc,.int .i64 L[k].2.2] 58)):=(Below.refl _ _).alloc (Nat.le_refl _) _
      have q4:=heap_new w3 #[.slice ra L[k].2.1.length rc,.int .i64 L[k].2.2] 58
      have D4:=chain D3 hal4
      have CW4:=hCC _ _ CW3 hal4
      refine hK _ _ ⟨CW4,?_⟩
      clear hK K
      generalize w3.alloc (.cells #[.slice ra L[k].2.1.length rc,.int .i64 L[k].2.2] 58)=w4 at *
      try simp only [Act.put,pA,pB,pC]
      refine wpY_step (rs:=[4]) (by kernel_rfl) (by simp) ?_
      intro w6 hb6 jj hj
      obtain rfl:jj=4:=by simpa using hj
      clear hj
      have D6:=chain D4 hb6
      have CWt:=hCC _ _ CW4 hb6
      have q6:=(hb6.block _ (lt_of_heap q4)).trans q4
      have c6:=(D6.cell (p:=⟨g,m*2+1,none⟩) hgx).trans cx
      refine wpOp_step rfl (fun K hK=>?_)
      go_simp
      refine hK _ _ ⟨CWt,?_⟩
      clear hK K c6 CW3 CW4
      try simp only [Act.put,pA,pB,pC]
      refine wpY_step (rs:=[8]) (by kernel_rfl) (by simp) ?_
      intro w7 hb7 jj hj
      obtain rfl:jj=8:=by simpa using hj
      clear hj
      have D7:=chain D6 hb7
      have CW7:=hCC _ _ CWt hb7
      have q7:=(hb7.block _ (lt_of_heap q6)).trans q6
      have I7:=HIn.out.next D7
      have rl7:w7.ownsRow Bl 58 2 (.slice rva ps1[m].2.length rvc) ps1[m].2.length (zs m):=by
       have:=(I7.row m hmlt).1
       rw [if_pos hm1.symm,erv] at this
       exact this
      have hBl7:=I7.hi
      refine wpOp_step rfl (fun K hK=>?_)
      refine Eq.mpr (if_pos (by kernel_rfl)) ?_
      refine wp_append_at (some 48) rfl (Operand.tmp 44) (Operand.tmp 47) 34 rfl Bl 58 i0 _ 2 32 Tryz.underlying34 hi hj0 hj1 hj2 rfl (by decide) (.slice rva ps1[m].2.length rvc) ps1[m].2.length (zs m) rfl rl7 ⟨w3.heap.size,0,none⟩ 1 1 [.slice ra L[k].2.1.length rc,.int .i64 L[k].2.2] rfl rfl ?Ac1 ?Ac2 ?Ac3 ?Ac4 ?Ac5 ?_
      case Ac1 =>
       intro j u hj
       match j,hj with
       | 0,hj=>simp at hj; subst hj; exact cell_of (i:=0) q7 rfl
       | 1,hj=>simp at hj; subst hj; exact cell_of (i:=1) q7 rfl
      case Ac2=>intro u hu; simp at hu; rcases hu with rfl | rfl <;> rfl
      case Ac3=>unfold maxLen; omega
      case Ac4=>omega
      case Ac5=>exact hBl7
      intro v8 w8 o8 g8 _
      have nb8:∀ q,Value.ownBlock (.slice rva ps1[m].2.length rvc)=some q→w.heap.size≤q∧q<w7.heap.size∧(q=wr.heap.size→False)∧(q=g→False):=fun q hq=>by
       have h1:=rl7.lt q hq
       refine ⟨Nat.le_trans I7.lo h1.1,h1.2,fun e=>?_,fun e=>?_⟩
       ·exact own_not rl7 CW7 (by decide) (by rw [hq,e])
       ·have o7:=I7.own
        rcases own_ne (by decide) rl7 o7 with h2 | h2
        ·rw [h2] at hq; cases hq
        ·exact h2 (by rw [hq,e]; rfl)
      have CW8:(w8.heap[wr.heap.size]? = some (.cells #[.slice ka L[k].1.length kc,.slice ra L[k].2.1.length rc,.int .i64 L[k].2.2] 157 (0,0))):=(g8.block _ (lt_of_heap CW7) (fun e=>(nb8 _ e.symm).2.2.1 rfl)).trans CW7
      have c8:w8.cell? ⟨g,m*2+1,none⟩=some (.slice rva ps1[m].2.length rvc)∧w8.frozen? ⟨g,m*2+1,none⟩=false:=by
       have o7:=I7.own
       rw [hm1] at o7
       have hb8:w8.heap[g]? = w7.heap[g]?:=g8.block g (o7.lt g rfl).2 (fun e=>(nb8 _ e.symm).2.2.2 rfl)
       refine ⟨(World.cell?_of_block (a:=⟨g,m*2+1,none⟩) hb8).trans ?_,(World.frozen?_of_block (a:=⟨g,m*2+1,none⟩) hb8).trans (o7.frozenAt _)⟩
       rw [o7.cellAt _ (by omega),I7.cell m hmlt,erv]
      have hg8:g<w8.heap.size:=by
       have o7:=I7.own
       rw [hm1] at o7
       exact Nat.lt_of_lt_of_le (o7.lt g rfl).2 g8.size
      refine hK _ _ ⟨CW8,?_⟩
      clear hK K
      try simp only [Act.put,pA,pB,pC]
      refine wpY_take hCC (some 49) (i:=9) (v:=.pointer (some ⟨g,m*2,none⟩)) rfl rfl (by kernel_rfl) (by kernel_rfl) (by kernel_rfl) (fun _ _ _ h=>h) (Or.inl ⟨rfl,fun n hn=>?_⟩) CW8 ?_
      ·go_simp
      simp only [Act.put,pA,pB,pC]
      refine wpY_take hCC (some 50) (i:=10) (v:=.pointer (some ⟨g,m*2+1,none⟩)) rfl rfl (by kernel_rfl) (by kernel_rfl) (by kernel_rfl) (fun _ _ _ h=>h) (Or.inl ⟨rfl,fun n hn=>?_⟩) CW8 ?_
      ·go_simp
      simp only [Act.put,pA,pB,pC]
      refine wpY_step (rs:=[11]) (by kernel_rfl) (by simp) ?_
      intro w9 hb9 jj hj
      obtain rfl:jj=11:=by simpa using hj
      clear hj
      have c9:w9.cell? ⟨g,m*2+1,none⟩=some (.slice rva ps1[m].2.length rvc):=(hb9.cell (p:=⟨g,m*2+1,none⟩) hg8).trans c8.1
      have f9:w9.frozen? ⟨g,m*2+1,none⟩=false:=(hb9.frozen (p:=⟨g,m*2+1,none⟩) hg8).trans c8.2
      have CW9:=hCC _ _ CW8 hb9
      obtain ⟨v8a,v8c,ev8⟩:∃ v8a v8c,v8 = .slice v8a (ps1[m].2.length+1) v8c:=own_shapeF o8
      have P9:PsAt w w.heap.size (w9.setCell ⟨g,m*2+1,none⟩ v8) (.slice (some ⟨g,0,none⟩) (m+1) c) (putR ps1 L[k].2):=by
       have I7':=I7
       rw [← ev] at I7'
       exact PsIn.put I7' hm1 (rc:=rc) HSr.out (by rw [erv]; exact g8) o8 hb9
      have B9:Below w.heap.size w (w9.setCell ⟨g,m*2+1,none⟩ v8):=((chain ((chain hbx D7).trans ((Below.refl _ _).grown g8 (Nat.le_trans hbx.size D7.size) (fun q hq=>(nb8 q hq).1))) hb9)).setCell (p:=⟨g,m*2+1,none⟩) hgB _
      have CW10:((w9.setCell ⟨g,m*2+1,none⟩ v8).heap[wr.heap.size]? = some (.cells #[.slice ka L[k].1.length kc,.slice ra L[k].2.1.length rc,.int .i64 L[k].2.2] 157 (0,0))):=(Below.heap_setCell _ _ _ _ (fun e=>hgl e.symm)).trans CW9
      subst ev8
      refine wpOp_step rfl (fun K hK=>?_)
      go_simp
      refine hK _ _ ⟨CW10,?_⟩
      clear hK K CW7 CW8 CW9 c8 c9 f9 nb8 rl7 I7 q7 o8 g8
      generalize w9.setCell ⟨g,m*2+1,none⟩ (.slice v8a (ps1[m].2.length+1) v8c)=wS at *
      try simp only [Act.put,pA,pB,pC]
      refine wpY_done (by kernel_rfl) ?_
      intro wT hbT
      have PT:=P9.next hbT
      have BT:=chain B9 hbT
      clear P9 B9 CW10 CW CWt
      go_wp2_with fail
      go_roundw
      case rel=>exact ⟨k+1,by omega,by go_num,by rw [HT.out,eo]; first | exact PT | (rw [hm1]; exact PT),BT⟩
      case measure=>simp [intOf]; omega
  ·have e:k=L.length:=by omega
   subst e
   rw [List.take_length] at HPs
   obtain ⟨va,vc,ev⟩:∃ va vc,u3 = .slice va (partL L).length vc:=by obtain ⟨_,_,_,_,I⟩:=HPs; exact own_shapeF I.own
   subst ev
   go_wp2_with fail
   go_ret
   exact ⟨_,rfl,HPs,hb⟩
end Go.Proofs.YtohjlfhmnmcndaaGreat
/- Aggregates: the walk. -/
namespace Go.Proofs.YtohjlfhmnmcndaaGreat
open Go.RowKit Go.Lib Go.Shelf

set_option maxRecDepth 100000 in
set_option maxHeartbeats 2000000 in
theorem measuredBad_at (cols:List Int) (g:Ag) (ca:Option Addr) (ccap:Nat) (a:Option Addr) (cap:Nat) (w:World) (hk:KsAt w.heap.size w a g.2.ks) (hc:IsAt w.heap.size w ca cols) (h:¬ measE cols g=0) :
  Calls Tryz.prog 152 #[.slice ca cols.length ccap,.agg #[.int .i64 g.1,.int .i64 g.2.k,.int .i64 g.2.v.1,.int .i64 g.2.v.2.1,.string g.2.v.2.2,.int .i64 g.2.c,.slice a g.2.ks.length cap]] w fun e w'=>e = .returned (.tuple #[.nilFunc,.int .i64 (measE cols g)])∧Below w.heap.size w w':=by
 have hal:Below w.heap.size w (w.alloc (.cells #[.int .i64 g.1,.int .i64 g.2.k,.int .i64 g.2.v.1,.int .i64 g.2.v.2.1,.string g.2.v.2.2,.int .i64 g.2.c,.slice a g.2.ks.length cap] 133)):=(Below.refl _ _).alloc (Nat.le_refl _) _
 have q0:=heap_new w #[.int .i64 g.1,.int .i64 g.2.k,.int .i64 g.2.v.1,.int .i64 g.2.v.2.1,.string g.2.v.2.2,.int .i64 g.2.c,.slice a g.2.ks.length cap] 133
 have h1:¬ g.1=1:=fun h1=>h (by unfold measE; rw [if_pos h1])
 generalize hme:measE cols g=me at *
 have HM:Hid (measE cols g=me):=hme
 clear hme
 by_cases h2:g.1<2∨5<g.1
 ·have e:me=1:=by rw [← HM.out]; unfold measE; rw [if_neg h1,if_pos h2]
  subst e
  have n1:(g.1 == 1)=false:=by simpa using h1
  have n2:(g.1 == 2)=false:=by simp; omega
  have n3:(g.1 == 3)=false:=by simp; omega
  have n4:(g.1 == 4)=false:=by simp; omega
  have n5:(g.1 == 5)=false:=by simp; omega
  clear h h1 h2
  go_enter Tryz.func152,Tryz.ntmps152
  go_wp2_with fail
  exact bodyPost_ret (v:=.tuple #[.nilFunc,.int .i64 1]) (by simp [results,Tryz.results152,go_sem]) rfl ⟨rfl,hal⟩
 ·have hk4:g.1=2∨g.1=3∨g.1=4∨g.1=5:=by omega
  by_cases h3:(typeTop cols g.2).2=0
  ·have e3:g.1=3∧(typeTop cols g.2).1≠3∧(typeTop cols g.2).1≠1:=Classical.byContradiction fun hn=>by
    have:=HM.out
    unfold measE at this
    rw [if_neg h1,if_neg h2,if_neg (by simpa using h3),if_neg hn] at this
    exact h this.symm
   have e9:me=9:=by rw [← HM.out]; unfold measE; rw [if_neg h1,if_neg h2,if_neg (by simpa using h3),if_pos e3]
   subst e9
   have con:=readyOk_at cols g.2 ca ccap a cap _ ((KsAt.next hal (Nat.le_refl _) hk).up hal.size) ((hc.next hal (Nat.le_refl _)).up hal.size) h3
   obtain ⟨e31,e32,e33⟩:=e3
   generalize (typeTop cols g.2).1=t at *
   unfold exV at con
   go_enter Tryz.func152,Tryz.ntmps152
   clear h h1 h2 h3 hk4
   generalize hk1:g.1=kd at *
   clear hk1
   subst e31
   have t3:(t != 3)=true:=by simpa using e32
   have t1:(t != 1)=true:=by simpa using e33
   clear e32 e33
   go_wp2_with fail
   generalize w.alloc (.cells #[.int .i64 3,.int .i64 g.2.k,.int .i64 g.2.v.1,.int .i64 g.2.v.2.1,.string g.2.v.2.2,.int .i64 g.2.c,.slice a g.2.ks.length cap] 133)=w1 at *
   refine con.mono ?_
   rintro e w2 ⟨u,rfl,hA2,hb2⟩
   have hA:=chain hal hb2
   have q2:=(hb2.block _ (lt_of_heap q0)).trans q0
   have c0:w2.cell? ⟨w.heap.size,0,none⟩=some (.int .i64 3):=cell_of (i:=0) q2 rfl
   clear con
   obtain ⟨g',cb,rfl⟩:∃ g' cb,u = .func (.func g') #[] cb:=by obtain ⟨g',cb,e,_⟩:=hA2; exact ⟨g',cb,e⟩
   dsimp only
   go_wp2_with fail
   exact bodyPost_ret (v:=.tuple #[.nilFunc,.int .i64 9]) (by simp [results,Tryz.results152,go_sem]) rfl ⟨rfl,hA⟩
  ·have con:=readyBad_at cols g.2 ca ccap a cap _ ((KsAt.next hal (Nat.le_refl _) hk).up hal.size) ((hc.next hal (Nat.le_refl _)).up hal.size) h3
   have em:me=(typeTop cols g.2).2:=by rw [← HM.out]; unfold measE; rw [if_neg h1,if_neg h2,if_pos h3]
   have hne:(me != 0)=true:=by simpa using h
   rw [← em] at con
   unfold exV at con
   go_enter Tryz.func152,Tryz.ntmps152
   clear h h1 h2 h3 em HM
   generalize hk1:g.1=kd at *
   clear hk1
   rcases hk4 with rfl | rfl | rfl | rfl
   all_goals (
    go_wp2_with fail
    generalize w.alloc (.cells #[_,.int .i64 g.2.k,.int .i64 g.2.v.1,.int .i64 g.2.v.2.1,.string g.2.v.2.2,.int .i64 g.2.c,.slice a g.2.ks.length cap] 133)=w1 at *
    refine con.mono ?_
    rintro e w2 ⟨rfl,hb2⟩
    have hA:=chain hal hb2
    clear con
    dsimp only
    go_wp2_with fail
    exact bodyPost_ret (v:=.tuple #[.nilFunc,.int .i64 me]) (by simp [results,Tryz.results152,go_sem]) rfl ⟨rfl,hA⟩)

/-- totalOf makes what it should of a kind. -/
def TotalOk (k:Int):Prop:=∀ w,Calls Tryz.prog 153 #[.int .i64 k] w fun e w'=>∃ u,e = .returned u∧TotF w.heap.size u (totP k) w'∧Below w.heap.size w w'
theorem count_tot (lo:Nat) (w:World):TotF lo (.func (.func 191) #[] #[]) countP w :=
 ⟨191,#[],rfl,enters_of Tryz.func191 (by kernel_rfl) rfl,fun l a cap W hk hs _=>by simpa using count_at a cap l W hs hk⟩
set_option maxHeartbeats 400000 in
theorem totalC_ok (k:Int) (h3:¬ k=3) (h4:¬ k=4) (h5:¬ k=5):TotalOk k:=by
 intro w
 have eT:totP k=countP:=by funext l; unfold totP; rw [if_neg h3,if_neg h4,if_neg h5]
 rw [eT]
 have n3:(k == 3)=false:=by simpa using h3
 have n4:(k == 4)=false:=by simpa using h4
 have n5:(k == 5)=false:=by simpa using h5
 clear h3 h4 h5 eT
 go_enter Tryz.func153,Tryz.ntmps153
 go_wp2_with fail
 go_ret
 exact ⟨_,rfl,count_tot _ _,Below.refl _ _⟩

theorem make_rfuncs {n:Nat} (h:n≤8) (w:World):(Instr.makeSlice 184 (.int .i64 n) (.int .i64 n)).run Tryz.prog w = .ok (.slice (some ⟨w.heap.size,0,none⟩) n n) (w.alloc (.cells (Array.replicate n Value.nilFunc) 191)):=by
 obtain rfl | rfl | rfl | rfl | rfl | rfl | rfl | rfl | rfl:n=0∨n=1∨n=2∨n=3∨n=4∨n=5∨n=6∨n=7∨n=8:=by omega
 all_goals kernel_rfl
/-- Functions of rows in a slice in a variable, the first j of them made. -/
structure RTo (cols:List Int) (K kb M:Nat) (W:World) (Fs:List (List Zp→Vl)) (j:Nat):Prop where
 lt:K<M∧kb<M∧K≠kb∧M≤W.heap.size
 box:W.cell? ⟨kb,0,none⟩=some (.slice (some ⟨K,0,none⟩) Fs.length Fs.length)
 room:∀ i,i<Fs.length→(∃ u,W.cell? ⟨K,i,none⟩=some u)∧W.frozen? ⟨K,i,none⟩=false
 done:∀ i (h:i<Fs.length),i<j→∃ u,W.cell? ⟨K,i,none⟩=some u∧RowsF cols M u Fs[i] W
theorem RTo.next {cols:List Int} {K kb M:Nat} {W w1:World} {Fs:List (List Zp→Vl)} {j:Nat} (h:RTo cols K kb M W Fs j) (hb:Below W.heap.size W w1):RTo cols K kb M w1 Fs j:=by
 obtain ⟨h1,h2,h3,h4⟩:=h
 have z:=hb.size
 refine ⟨⟨h1.1,h1.2.1,h1.2.2.1,by omega⟩,(hb.cell (p:=⟨kb,0,none⟩) (by show kb<_; omega)).trans h2,fun i hi=>?_,fun i hi hj=>?_⟩
 ·obtain ⟨⟨u,hu⟩,hf⟩:=h3 i hi
  exact ⟨⟨u,(hb.cell (p:=⟨K,i,none⟩) (by show K<_; omega)).trans hu⟩,(hb.frozen (p:=⟨K,i,none⟩) (by show K<_; omega)).trans hf⟩
 ·obtain ⟨u,hu,ha⟩:=h4 i hi hj
  exact ⟨u,(hb.cell (p:=⟨K,i,none⟩) (by show K<_; omega)).trans hu,ha.next (Since.of hb)⟩
theorem RTo.store {cols:List Int} {K kb M:Nat} {W:World} {Fs:List (List Zp→Vl)} {j:Nat} (h:RTo cols K kb M W Fs j) (hj:j<Fs.length) {u:Value} (ha:RowsF cols M u Fs[j] W):RTo cols K kb M (W.setCell ⟨K,j,none⟩ u) Fs (j+1):=by
 obtain ⟨h1,h2,h3,h4⟩:=h
 have hS:Since M W (W.setCell ⟨K,j,none⟩ u):=(Since.refl M W).set K j u (by omega)
 have same:(W.setCell ⟨K,j,none⟩ u).cell? ⟨K,j,none⟩=some u:=World.cell?_setCell_same' _ _ _ (by obtain ⟨⟨u',hu⟩,_⟩:=h3 j hj; rw [hu]; rfl)
 refine ⟨⟨h1.1,h1.2.1,h1.2.2.1,by simpa using h1.2.2.2⟩,?_,fun i hi=>?_,fun i hi hij=>?_⟩
 ·rw [World.cell?_setCell_other _ _ _ _ (by intro e; injection e with e; omega)]; exact h2
 ·obtain ⟨⟨u',hu⟩,hf⟩:=h3 i hi
  refine ⟨?_,by rw [World.frozen?_setCell]; exact hf⟩
  by_cases e:i=j
  ·subst e; exact ⟨_,same⟩
  ·exact ⟨u',by rw [World.cell?_setCell_other _ _ _ _ (by intro e; injection e with _ e; omega)]; exact hu⟩
 ·by_cases e:i=j
  ·subst e; exact ⟨u,same,ha.next hS⟩
  ·obtain ⟨u',hu,ha'⟩:=h4 i hi (by omega)
   exact ⟨u',by rw [World.cell?_setCell_other _ _ _ _ (by intro e; injection e with _ e; omega)]; exact hu,ha'.next hS⟩
theorem RTo.kids {cols:List Int} {K kb M lo:Nat} {W:World} {Fs:List (List Zp→Vl)} (h:RTo cols K kb M W Fs Fs.length) (h1:lo≤K) (h2:lo≤kb):KidsR cols lo W kb Fs:=by
 obtain ⟨l1,l2,_,l4⟩:=h
 refine ⟨K,h2,by omega,h1,by omega,l2,fun i hi=>?_⟩
 obtain ⟨u,hu,ha⟩:=l4 i hi hi
 exact ⟨u,hu,ha.down (by omega)⟩
theorem RTo.new {cols:List Int} {w:World} {n:Nat} (Fs:List (List Zp→Vl)) (hn:n=Fs.length) (T T':TypeId) :
  RTo cols w.heap.size (w.heap.size+1) (w.heap.size+2) ((w.alloc (.cells (Array.replicate n Value.nilFunc) T)).alloc (.cells #[.slice (some ⟨w.heap.size,0,none⟩) n n] T')) Fs 0:=by
 subst hn
 refine ⟨⟨by omega,by omega,by omega,by simp⟩,?_,fun i hi=>⟨⟨Value.nilFunc,?_⟩,?_⟩,fun i _ h=>absurd h (Nat.not_lt_zero _)⟩
 ·rw [World.cell?_alloc_at _ _ _ _ (by simp)]; rfl
 ·rw [World.cell?_alloc_past _ _ _ (by simp),World.cell?_alloc_at _ _ _ _ rfl]
  simp [hi]
 ·rw [World.frozen?_alloc_past _ _ _ (by simp)]
  exact World.frozen?_alloc_at _ _ _ _ rfl
/-- A function value makes rows of what aggregates come to. -/
def AggF (cols:List Int) (lo:Nat) (u:Value) (gs:List Ag) (w:World):Prop :=
 ∃ g cb,u = .func (.func g) #[] cb∧(∀ args w,(callFunc g args).run Tryz.prog w = .ok (.enter g args) w) ∧
  ∀ (rows:List Zp) (a:Option Addr) (cap:Nat) (W:World),ROk cols rows→ZsAt W a rows→Since lo w W →
   Calls Tryz.prog g (#[.slice a rows.length cap] ++ cb) W fun e w'=>e = .returned (.slice (some ⟨W.heap.size,0,none⟩) gs.length gs.length)∧RowNew W.heap.size w' (gs.map fun g=>aggP g rows)∧Below W.heap.size W w'
theorem AggF.next {cols:List Int} {lo:Nat} {u:Value} {gs:List Ag} {w w1:World} (h:AggF cols lo u gs w) (hb:Since lo w w1):AggF cols lo u gs w1:=by
 obtain ⟨g,cb,e,eg,hd⟩:=h
 exact ⟨g,cb,e,eg,fun row a cap W hf hs hW=>hd row a cap W hf hs (hb.trans hW)⟩
theorem agg_get {gs:List Ag} {j:Nat} (h:j<gs.length):(gs.map fun g=>aggP g)[j]'(by simpa using h)=aggP gs[j]:=by simp

set_option maxRecDepth 100000 in
set_option maxHeartbeats 4000000 in
theorem aggregates_at (cols:List Int) (gs:List Ag) (hT:∀ g ∈ gs,measE cols g=0→TotalOk g.1) (ca:Option Addr) (ccap:Nat) (xa:Option Addr) (xcap:Nat) (w:World) (hk:AgAt w.heap.size w xa gs) (hc:IsAt w.heap.size w ca cols) (h8:gs.length≤8) :
  Calls Tryz.prog 123 #[.slice ca cols.length ccap,.slice xa gs.length xcap] w fun e w'=>∃ u,e = .returned (.tuple #[u,.int .i64 (aggsE cols gs)])∧((aggsE cols gs=0∧AggF cols w.heap.size u gs w')∨(¬ aggsE cols gs=0∧u = .nilFunc))∧Below w.heap.size w w':=by
 have HTot:Hid (∀ g ∈ gs,measE cols g=0→TotalOk g.1):=hT
 obtain ⟨Fs,eFs⟩:∃ Fs:List (List Zp→Vl),Fs=gs.map fun g=>aggP g:=⟨_,rfl⟩
 have HFs:Hid (Fs=gs.map fun g=>aggP g):=eFs
 have lFs:Fs.length=gs.length:=by rw [eFs]; simp
 generalize hle:aggsE cols gs=le
 have HE:Hid (aggsE cols gs=le):=hle
 clear hT eFs hle
 have hmk:=make_rfuncs h8
 have F0:RTo cols w.heap.size (w.heap.size+1) (w.heap.size+2) ((w.alloc (.cells (Array.replicate gs.length Value.nilFunc) 191)).alloc (.cells #[.slice (some ⟨w.heap.size,0,none⟩) gs.length gs.length] 184)) Fs 0:=RTo.new Fs lFs.symm _ _
 have hA:Below w.heap.size w ((w.alloc (.cells (Array.replicate gs.length Value.nilFunc) 191)).alloc (.cells #[.slice (some ⟨w.heap.size,0,none⟩) gs.length gs.length] 184)):=((Below.refl _ _).alloc (Nat.le_refl _) _).alloc (by simp) _
 go_enter Tryz.func123,Tryz.ntmps123
 go_wp2_with fail
 generalize (w.alloc (.cells (Array.replicate gs.length Value.nilFunc) 191)).alloc (.cells #[.slice (some ⟨w.heap.size,0,none⟩) gs.length gs.length] 184)=w2 at *
 clear hmk
 go_loopw [17] (fun i wr=>∃ j:Nat,j≤gs.length∧i = .int .i64 j∧RTo cols w.heap.size (w.heap.size+1) (w.heap.size+2) wr Fs j∧Hid (le=aggsE cols (gs.drop j))∧Below w.heap.size w wr) (fun i _=>gs.length - (intOf i).toNat)
 case atStart=>exact ⟨0,Nat.zero_le _,rfl,F0,HE.out.symm,hA⟩
 case round =>
  clear F0 hA
  obtain ⟨j,hj,rfl,F,HT,hb⟩:=hrel
  have hz:=hb.size
  have hzF:=F.lt.2.2.2
  by_cases hlt:j<gs.length
  ·obtain ⟨b,off,ai,ci,rfl,hbl,x0,sx,kx⟩:=(AgAt.next hb (Nat.le_refl _) hk).elem hlt
   obtain ⟨x1,x2,x3,x4,x5,x6⟩:=sx
   have hal:Below wr.heap.size wr (wr.alloc (.cells #[.int .i64 gs[j].1,.int .i64 gs[j].2.k,.int .i64 gs[j].2.v.1,.int .i64 gs[j].2.v.2.1,.string gs[j].2.v.2.2,.int .i64 gs[j].2.c,.slice ai gs[j].2.ks.length ci] 133)):=(Below.refl _ _).alloc (Nat.le_refl _) _
   have q0:=heap_new wr #[.int .i64 gs[j].1,.int .i64 gs[j].2.k,.int .i64 gs[j].2.v.1,.int .i64 gs[j].2.v.2.1,.string gs[j].2.v.2.2,.int .i64 gs[j].2.c,.slice ai gs[j].2.ks.length ci] 133
   have Fk:=F.next hal
   have zk:(wr.alloc (.cells #[.int .i64 gs[j].1,.int .i64 gs[j].2.k,.int .i64 gs[j].2.v.1,.int .i64 gs[j].2.v.2.1,.string gs[j].2.v.2.2,.int .i64 gs[j].2.c,.slice ai gs[j].2.ks.length ci] 133)).heap.size=wr.heap.size+1:=by simp
   have kk:=(KsAt.next hal hz kx).up (show w.heap.size≤(wr.alloc (.cells #[.int .i64 gs[j].1,.int .i64 gs[j].2.k,.int .i64 gs[j].2.v.1,.int .i64 gs[j].2.v.2.1,.string gs[j].2.v.2.2,.int .i64 gs[j].2.c,.slice ai gs[j].2.ks.length ci] 133)).heap.size by omega)
   have cc:=((hc.next hb (Nat.le_refl _)).next hal hz).up (show w.heap.size≤(wr.alloc (.cells #[.int .i64 gs[j].1,.int .i64 gs[j].2.k,.int .i64 gs[j].2.v.1,.int .i64 gs[j].2.v.2.1,.string gs[j].2.v.2.2,.int .i64 gs[j].2.c,.slice ai gs[j].2.ks.length ci] 133)).heap.size by omega)
   have hjz:(j:Int)<gs.length:=by omega
   by_cases h0:measE cols gs[j]=0
   ·have con:=measuredOk_at cols gs[j] ca ccap ai ci _ kk cc h0
    have HTo:Hid (TotalOk gs[j].1):=HTot.out _ (List.getElem_mem hlt) h0
    have Hr:Hid (∀ row,FitP cols row→wrongP (measF gs[j] row)=0∧NumB (measF gs[j] row)):=measF_right h0
    have HN:Hid (le=aggsE cols (gs.drop (j+1))):=HT.out.trans (aggsE_next cols gs j hlt h0)
    clear h0 HT
    go_upto_region 5 with fail
    clear x0 x1 x2 x3 x4 x5 x6 kx kk cc
    generalize wr.alloc (.cells #[.int .i64 gs[j].1,.int .i64 gs[j].2.k,.int .i64 gs[j].2.v.1,.int .i64 gs[j].2.v.2.1,.string gs[j].2.v.2.2,.int .i64 gs[j].2.c,.slice ai gs[j].2.ks.length ci] 133)=wk at *
    have p0:wk.cell? ⟨wr.heap.size,0,none⟩=some (.int .i64 gs[j].1):=cell_of (i:=0) q0 rfl
    have p1:wk.cell? ⟨wr.heap.size,1,none⟩=some (.int .i64 gs[j].2.k):=cell_of (i:=1) q0 rfl
    have p2:wk.cell? ⟨wr.heap.size,2,none⟩=some (.int .i64 gs[j].2.v.1):=cell_of (i:=2) q0 rfl
    have p3:wk.cell? ⟨wr.heap.size,3,none⟩=some (.int .i64 gs[j].2.v.2.1):=cell_of (i:=3) q0 rfl
    have p4:wk.cell? ⟨wr.heap.size,4,none⟩=some (.string gs[j].2.v.2.2):=cell_of (i:=4) q0 rfl
    have p5:wk.cell? ⟨wr.heap.size,5,none⟩=some (.int .i64 gs[j].2.c):=cell_of (i:=5) q0 rfl
    have p6:wk.cell? ⟨wr.heap.size,6,none⟩=some (.slice ai gs[j].2.ks.length ci):=cell_of (i:=6) q0 rfl
    go_wp2_with fail
    refine con.mono ?_
    rintro e w3 ⟨u,rfl,hA3,hb3⟩
    clear con p0 p1 p2 p3 p4 p5 p6
    obtain ⟨ug,ucb,rfl⟩:∃ g cb,u = .func (.func g) #[] cb:=by obtain ⟨g,cb,e,_⟩:=hA3; exact ⟨g,cb,e⟩
    have hal4:Below w3.heap.size w3 (w3.alloc (.cells #[.func (.func ug) #[] ucb] 179)):=(Below.refl _ _).alloc (Nat.le_refl _) _
    have q4:=heap_new w3 #[.func (.func ug) #[] ucb] 179
    have q0':=((chain hb3 hal4).block _ (lt_of_heap q0)).trans q0
    have z3:=hb3.size
    have hV:Asks cols (w.heap.size+2) (.func (.func ug) #[] ucb) (measF gs[j]) (w3.alloc (.cells #[.func (.func ug) #[] ucb] 179)):=(hA3.down (by omega)).next (Since.of hal4)
    have F4:=(Fk.next hb3).next hal4
    have hA4:=chain (chain (chain hb hal) hb3) hal4
    dsimp only
    go_upto_region 8 with fail
    clear hA3
    generalize w3.alloc (.cells #[.func (.func ug) #[] ucb] 179)=w4 at *
    have c8:w4.cell? ⟨wr.heap.size,0,none⟩=some (.int .i64 gs[j].1):=cell_of (i:=0) q0' rfl
    have con:=HTo.out w4
    go_wp2_with fail
    refine con.mono ?_
    rintro e w5 ⟨u5,rfl,hT5,hb5⟩
    clear con c8
    obtain ⟨tg,tcb,rfl⟩:∃ g cb,u5 = .func (.func g) #[] cb:=by obtain ⟨g,cb,e,_⟩:=hT5; exact ⟨g,cb,e⟩
    have hal6:Below w5.heap.size w5 (w5.alloc (.cells #[.func (.func tg) #[] tcb] 187)):=(Below.refl _ _).alloc (Nat.le_refl _) _
    have q6:=heap_new w5 #[.func (.func tg) #[] tcb] 187
    have q4':=((chain hb5 hal6).block _ (lt_of_heap q4)).trans q4
    have z5:=hb5.size
    have z4:=hal4.size
    have hT6:TotF (w.heap.size+2) (.func (.func tg) #[] tcb) (totP gs[j].1) (w5.alloc (.cells #[.func (.func tg) #[] tcb] 187)):=(hT5.down (by omega)).next (Since.of hal6)
    have hV6:=(hV.next (Since.of hb5)).next (Since.of hal6)
    have F6:=(F4.next hb5).next hal6
    have hA6:=chain (chain hA4 hb5) hal6
    have t6:=lt_of_heap q6
    have v6:=lt_of_heap q4'
    dsimp only
    go_upto_region 9 with fail
    clear hT5 hV
    generalize w5.alloc (.cells #[.func (.func tg) #[] tcb] 187)=w6 at *
    have RF:RowsF cols (w.heap.size+2) (.func (.func 154) #[] #[.pointer (some ⟨w5.heap.size,0,none⟩),.pointer (some ⟨w3.heap.size,0,none⟩)]) (aggP gs[j]) w6:=by
     refine ⟨154,_,rfl,enters_of Tryz.func154 (by kernel_rfl) rfl,fun rows a cap W hr hs hW=>?_⟩
     exact agg1_at cols (w.heap.size+2) _ _ (totP gs[j].1) (measF gs[j]) Hr.out w5.heap.size w3.heap.size a cap rows W ((hW.cell (p:=⟨w5.heap.size,0,none⟩) (by show _≤w5.heap.size; omega) t6).trans (cell_of (i:=0) q6 rfl)) ((hW.cell (p:=⟨w3.heap.size,0,none⟩) (by show _≤w3.heap.size; omega) v6).trans (cell_of (i:=0) q4' rfl)) (hT6.next hW) (hV6.next hW) hr hs
    have HRF:Hid (RowsF cols (w.heap.size+2) (.func (.func 154) #[] #[.pointer (some ⟨w5.heap.size,0,none⟩),.pointer (some ⟨w3.heap.size,0,none⟩)]) (Fs[j]'(by omega)) w6):=by
     show RowsF _ _ _ _ _
     have e:Fs[j]'(by omega)=aggP gs[j]:=by simp only [HFs.out]; exact agg_get hlt
     rw [e]; exact RF
    have b6:=F6.box
    obtain ⟨⟨un,r2⟩,r3⟩:=F6.room j (by omega)
    rw [lFs] at b6
    clear RF hT6 hV6
    go_wp2_with fail
    go_roundw
    case rel=>exact ⟨j+1,by omega,by go_num,F6.store (by omega) HRF.out,HN,hA6.setCell (p:=⟨w.heap.size,j,none⟩) (Nat.le_refl _) _⟩
    case measure=>simp [intOf]; omega
   ·have con:=measuredBad_at cols gs[j] ca ccap ai ci _ kk cc h0
    have HN:Hid (le=measE cols gs[j]):=HT.out.trans (aggsE_bad cols gs j hlt h0)
    have hne:(measE cols gs[j] != 0)=true:=by simpa using h0
    have HN0:Hid (¬ le=0):=by show ¬ _; rw [HN.out]; exact h0
    rw [← HN.out] at con hne
    clear h0 HT
    go_upto_region 5 with fail
    clear x0 x1 x2 x3 x4 x5 x6 kx kk cc
    generalize wr.alloc (.cells #[.int .i64 gs[j].1,.int .i64 gs[j].2.k,.int .i64 gs[j].2.v.1,.int .i64 gs[j].2.v.2.1,.string gs[j].2.v.2.2,.int .i64 gs[j].2.c,.slice ai gs[j].2.ks.length ci] 133)=wk at *
    have p0:wk.cell? ⟨wr.heap.size,0,none⟩=some (.int .i64 gs[j].1):=cell_of (i:=0) q0 rfl
    have p1:wk.cell? ⟨wr.heap.size,1,none⟩=some (.int .i64 gs[j].2.k):=cell_of (i:=1) q0 rfl
    have p2:wk.cell? ⟨wr.heap.size,2,none⟩=some (.int .i64 gs[j].2.v.1):=cell_of (i:=2) q0 rfl
    have p3:wk.cell? ⟨wr.heap.size,3,none⟩=some (.int .i64 gs[j].2.v.2.1):=cell_of (i:=3) q0 rfl
    have p4:wk.cell? ⟨wr.heap.size,4,none⟩=some (.string gs[j].2.v.2.2):=cell_of (i:=4) q0 rfl
    have p5:wk.cell? ⟨wr.heap.size,5,none⟩=some (.int .i64 gs[j].2.c):=cell_of (i:=5) q0 rfl
    have p6:wk.cell? ⟨wr.heap.size,6,none⟩=some (.slice ai gs[j].2.ks.length ci):=cell_of (i:=6) q0 rfl
    go_wp2_with fail
    refine con.mono ?_
    rintro e w3 ⟨rfl,hb3⟩
    clear con p0 p1 p2 p3 p4 p5 p6
    have hal4:Below w3.heap.size w3 (w3.alloc (.cells #[.nilFunc] 179)):=(Below.refl _ _).alloc (Nat.le_refl _) _
    dsimp only
    go_wp2_with fail
    exact bodyPost_ret (v:=.tuple #[.nilFunc,.int .i64 le]) (by simp [results,Tryz.results123,go_sem]) rfl ⟨_,rfl,.inr ⟨HN0.out,rfl⟩,chain (chain (chain hb hal) hb3) hal4⟩
  ·have e:j=gs.length:=by omega
   subst e
   have e0:le=0:=by rw [HT.out,List.drop_length]; rfl
   subst e0
   have KF:Hid (KidsR cols w.heap.size wr (w.heap.size+1) Fs):=by rw [← lFs] at F; exact F.kids (Nat.le_refl _) (by omega)
   have AF:Hid (AggF cols w.heap.size (.func (.func 156) #[] #[.pointer (some ⟨w.heap.size+1,0,none⟩)]) gs wr):=⟨156,_,rfl,enters_of Tryz.func156 (by kernel_rfl) rfl,fun rows a cap W hr hs hW=>by
    have:=agg2_at cols w.heap.size (w.heap.size+1) Fs a rows cap W (KF.out.next hW) (by omega) hr hs
    have em:(Fs.map fun F:List Zp→Vl=>F rows)=gs.map fun g=>aggP g rows:=by rw [HFs.out,List.map_map]; rfl
    rw [lFs,em] at this
    exact this⟩
   go_wp2_with fail
   first
    | exact bodyPost_ret (v:=.tuple #[.func (.func 156) #[] #[.pointer (some ⟨w.heap.size+1,0,none⟩)],.int .i64 0]) (by simp [results,Tryz.results123,go_sem]) rfl ⟨_,rfl,.inl ⟨rfl,AF.out⟩,hb⟩
    | exact bodyPost_ret (v:=.tuple #[.func (.func 156) #[] #[.pointer (some ⟨w.heap.size+1,0,none⟩)],.int .i64 0]) (by simp [results,Tryz.results123,go_sem]) rfl ⟨_,rfl,AF.out,hb⟩
end Go.Proofs.YtohjlfhmnmcndaaGreat
/- The walk of ops.Top. -/
namespace Go.Proofs.YtohjlfhmnmcndaaGreat
open Go.RowKit Go.Lib Go.Shelf

/-- The first rows: as many as are left. -/
def topL:Int→List Kp→List Zp
 | _,[]=>[]
 | n,x :: r=>(x.2.1,min x.2.2 n) :: topL (n - min x.2.2 n) r
theorem topL_mem:∀ (n:Int) (l:List Kp),0≤n→(∀ x ∈ l,0<x.2.2)→∀ y ∈ topL n l,(∃ x ∈ l,y.1=x.2.1)∧0≤y.2∧y.2≤n
 | _,[],_,_,y,hy=>by simp [topL] at hy
 | n,x :: r,hn,hl,y,hy=>by
  rw [topL] at hy
  have hx:=hl x (by simp)
  rcases List.mem_cons.1 hy with rfl | hy
  ·exact ⟨⟨x,by simp,rfl⟩,by simp only; omega,by simp only; omega⟩
  ·obtain ⟨⟨q,hq,e⟩,h1,h2⟩:=topL_mem _ r (by omega) (fun q hq=>hl q (by simp [hq])) y hy
   exact ⟨⟨q,by simp [hq],e⟩,h1,by omega⟩
theorem inOrd_mem {xs:List Ex} {z:List Zp} {x:Kp}:x ∈ inOrd xs z↔(x.2 ∈ z∧0<x.2.2)∧x.1=rowX xs x.2.1:=by
 rw [(inOrd_perm xs z).mem_iff]
 unfold withK
 rw [List.mem_map]
 constructor
 ·rintro ⟨p,hp,rfl⟩
  have:=List.mem_filter.1 hp
  exact ⟨⟨this.1,by simpa using this.2⟩,rfl⟩
 ·rintro ⟨⟨h1,h2⟩,h3⟩
  exact ⟨x.2,List.mem_filter.2 ⟨h1,by simpa using h2⟩,by rw [← h3]⟩
def topE (cols:List Int) (xs:List Ex) (k:Int) (z:List Zp):Int:=if listE cols xs≠0 then listE cols xs else if k<0∨50<k then 3 else if inpE cols z≠0 then inpE cols z else gatherE (topL k (inOrd xs z))
def topZ (cols:List Int) (xs:List Ex) (k:Int) (z:List Zp):List Zp:=if topE cols xs k z=0 then canon (topL k (inOrd xs z)) else []
theorem topL_drop {n:Int} {l:List Kp} {j:Nat} (h:j<l.length):topL n (l.drop j)=(l[j].2.1,min l[j].2.2 n) :: topL (n - min l[j].2.2 n) (l.drop (j+1)):=by
 rw [List.drop_eq_getElem_cons h,topL]

set_option maxRecDepth 100000 in
set_option maxHeartbeats 8000000 in
theorem top_at (cols:List Int) (xs:List Ex) (n:Int) (hn64:-9223372036854775808≤n∧n≤9223372036854775807) (ca:Option Addr) (ccap:Nat) (xa:Option Addr) (xcap:Nat) (a:Option Addr) (cap:Nat) (l:List Zp) (w:World) (hc:IsAt w.heap.size w ca cols) (hk:KsAt w.heap.size w xa xs) (h:ZsAt w a l) :
  Calls Tryz.prog 98 #[.slice ca cols.length ccap,.slice xa xs.length xcap,.int .i64 n,.slice a l.length cap] w fun e w'=>∃ v,e = .returned (.tuple #[v,.int .i64 (topE cols xs n l)])∧OwnZ w.heap.size w' v (topZ cols xs n l)∧Below w.heap.size w w':=by
 obtain ⟨i0,hi,hj0,hj1,hj2⟩:=info_parts Tryz.info42
 have con:=list_at cols xs ca ccap xa xcap w hk hc
 generalize hfz:topZ cols xs n l=fz
 generalize hfe:topE cols xs n l=fe
 have HZ:Hid (topZ cols xs n l=fz):=hfz
 have HF:Hid (topE cols xs n l=fe):=hfe
 clear hfz hfe
 by_cases h1:listE cols xs=0
 ·have H1:Hid (listE cols xs=0):=h1
  rw [h1] at con
  clear h1
  by_cases hr:n<0∨50<n
  ·have e0:fe=3:=by rw [← HF.out]; unfold topE; rw [H1.out,if_neg (by simp),if_pos hr]
   have e1:fz = []:=by rw [← HZ.out]; unfold topZ; rw [HF.out,e0,if_neg (by decide)]
   subst e0
   have HV:Hid (fz = []):=e1
   clear e1
   go_enter Tryz.func98,Tryz.ntmps98
   go_wp2_with fail
   refine con.mono ?_
   rintro e w1 ⟨u,rfl,hL,hb1⟩
   clear con hL
   dsimp only
   by_cases hr1:n<0
   ·go_wp2_with fail
    exact bodyPost_ret (v:=.tuple #[.slice none 0 0,.int .i64 3]) (by simp [results,Tryz.results98,go_sem]) rfl ⟨_,rfl,by rw [HV.out]; exact own_nil _ _,hb1⟩
   ·have hr2:50<n:=by omega
    go_wp2_with fail
    exact bodyPost_ret (v:=.tuple #[.slice none 0 0,.int .i64 3]) (by simp [results,Tryz.results98,go_sem]) rfl ⟨_,rfl,by rw [HV.out]; exact own_nil _ _,hb1⟩
  have hr1:¬ n<0:=fun h=>hr (.inl h)
  have hr2:¬ 50<n:=fun h=>hr (.inr h)
  have HRg:Hid (¬ (n<0∨50<n)):=hr
  clear hr
  go_enter Tryz.func98,Tryz.ntmps98
  go_wp2_with fail
  refine con.mono ?_
  rintro e w1 ⟨u,rfl,hL,hb1⟩
  clear con
  have hL:ListF cols w.heap.size u xs w1:=by
   rcases hL with ⟨_,hL⟩ | ⟨hL,_⟩
   ·exact hL
   ·exact absurd (by trivial) hL
  obtain ⟨g,cb,rfl,eg,d⟩:=hL
  have HL:Hid (ListF cols w.heap.size (.func (.func g) #[] cb) xs w1):=⟨g,cb,rfl,eg,d⟩
  clear d
  have con:=wrongS_at cols ca ccap a cap l w1 ((hc.next hb1 (Nat.le_refl _)).up hb1.size) (h.next hb1)
  by_cases h2:inpE cols l=0
  ·have hz:=(inpE_ok cols l).1 h2
   rw [h2] at con
   have H2:Hid (inpE cols l=0):=h2
   clear h2
   have HE:Hid (fe=gatherE (topL n (inOrd xs l))):=by
    show fe=_
    rw [← HF.out]; unfold topE; rw [H1.out,H2.out,if_neg (by simp),if_neg HRg.out,if_neg (by simp)]
   have HV:Hid (fz=gatherZ (topL n (inOrd xs l))):=by
    show fz=_
    rw [← HZ.out]; unfold topZ gatherZ; rw [HF.out,HE.out]
   have hl4:=set_len hz
   have HO:Hid (InpOk cols l):=hz
   dsimp only
   go_wp2_with fail
   refine con.mono ?_
   rintro e w2 ⟨rfl,hb2⟩
   clear con
   have hA:=chain hb1 hb2
   have con:=inOrder_at cols xs (.func (.func g) #[] cb) w.heap.size a cap l w2 (HL.out.next (Since.of hb2)) HO.out (h.next hA)
   have hil:=inOrd_len xs l
   generalize hio:inOrd xs l=L at *
   have HI:Hid (inOrd xs l=L):=hio
   clear hio
   dsimp only
   go_wp2_with fail
   refine con.mono ?_
   rintro e w3 ⟨a3,c3,rfl,kd,hb3⟩
   clear con
   have hA3:=chain hA hb3
   dsimp only
   have HP:Hid (∀ x ∈ L,0<x.2.2):=fun x hx=>by rw [← HI.out] at hx; exact (inOrd_mem.1 hx).1.2
   have HW:Hid (∀ x ∈ L,x.2.2≤1000000):=fun x hx=>by
    rw [← HI.out] at hx
    have:=set_in HO.out x.2 (inOrd_mem.1 hx).1.1
    rw [inW_iff] at this
    exact this.2
   clear hz
   go_wp2_with fail
   go_loopw [13,14,44] (fun v s14 i wr=>∃ (k:Nat) (lf:Int) (acc:List Zp),k≤L.length∧i = .int .i64 k∧s14 = .int .i64 lf∧0≤lf∧lf≤50∧acc.length≤k∧OwnB w3 w3.heap.size wr v acc∧Hid (topL n L=acc ++ topL lf (L.drop k))∧Below w3.heap.size w3 wr) (fun _ _ i _=>L.length - (intOf i).toNat)
   case atStart=>exact ⟨0,n,[],Nat.zero_le _,rfl,rfl,by omega,by omega,Nat.le_refl _,⟨[],by simpa using World.ownsRow_nil _ _ _ _,by simp [EncB]⟩,rfl,Below.refl _ _⟩
   case round =>
    obtain ⟨k,lf,acc,hk',rfl,rfl,hf0,hf1,hacc,HOB,HT,hb⟩:=hrel
    have hzr:=hb.size
    by_cases hlt:k<L.length
    ·obtain ⟨b,off,rfl,hbl,e2,⟨ra,rc,e1,sr⟩,ka,kc,e0,_⟩:=kd.elem hlt
     have p2:=(hb.cell (p:=⟨b,_,none⟩) hbl).trans e2
     have p1:=(hb.cell (p:=⟨b,_,none⟩) hbl).trans e1
     have p0:=(hb.cell (p:=⟨b,_,none⟩) hbl).trans e0
     have hbl':b<wr.heap.size:=Nat.lt_of_lt_of_le hbl hzr
     have HS:Hid (SlAt w3 ra L[k].2.1):=sr
     have hw0:=HP.out L[k] (List.getElem_mem hlt)
     have hw1:=HW.out L[k] (List.getElem_mem hlt)
     have HD:Hid (topL lf (L.drop k)=(L[k].2.1,min L[k].2.2 lf) :: topL (lf - min L[k].2.2 lf) (L.drop (k+1))):=topL_drop hlt
     obtain ⟨xs',ho,he⟩:=HOB
     have HEn:Hid (EncB w3 xs' acc):=he
     have hal:Below wr.heap.size wr (wr.alloc (.cells #[.slice ka L[k].1.length kc,.slice ra L[k].2.1.length rc,.int .i64 L[k].2.2] 157)):=(Below.refl _ _).alloc (Nat.le_refl _) _
     have ho1:=own_next ho hal
     have za:(wr.alloc (.cells #[.slice ka L[k].1.length kc,.slice ra L[k].2.1.length rc,.int .i64 L[k].2.2] 157)).heap.size=wr.heap.size+1:=by simp
     clear e0 e1 e2 sr he ho
     go_wp2_with (at_builtin; refine wpList_append_own _ rfl _ _ 34 rfl w3.heap.size 58 i0 _ 2 32 Tryz.underlying34 hi hj0 hj1 hj2 rfl (by decide) _ _ _ rfl (ho1.alloc _) ⟨wr.heap.size+1,0,none⟩ 1 1 [.slice ra L[k].2.1.length rc,.int .i64 (min L[k].2.2 lf)] rfl rfl ?Ac1 ?Ac2 ?Ac3 ?Ac4 ?Ac5 ?_)
     case Ac1 =>
      intro j u hj
      match j,hj with
      | 0,hj=>simp at hj; subst hj; simp [Addr.add]
      | 1,hj=>simp at hj; subst hj; simp [Addr.add]
     case Ac2=>intro u hu; simp at hu; rcases hu with rfl | rfl <;> rfl
     case Ac3=>unfold maxLen; omega
     case Ac4=>omega
     case Ac5=>simp; omega
     intro v' w5 ho5 hg5 _
     have hb5:Below w3.heap.size wr w5:=(((Below.refl w3.heap.size wr).alloc (by omega) _).alloc (by simp; omega) _).grown hg5 (by simp; omega) (fun q hq=>((ho1.alloc (.cells #[.slice ra L[k].2.1.length rc,.int .i64 (min L[k].2.2 lf)] 58)).lt q hq).1)
     have hb6:=hb.trans hb5
     clear hg5 ho1 hal hb5
     go_wp2_with fail
     go_roundw
     case rel=>exact ⟨k+1,lf - min L[k].2.2 lf,acc ++ [(L[k].2.1,min L[k].2.2 lf)],by omega,by go_num,rfl,by omega,by omega,by simp; omega,⟨_,by simpa using ho5,HEn.out.push HS.out⟩,by show topL n L=_; rw [HT.out,HD.out]; simp,hb6⟩
     case measure=>simp [intOf]; omega
    ·have e:k=L.length:=by omega
     subst e
     have ea:topL n L=acc:=by have:=HT.out; rw [List.drop_length] at this; simpa [topL] using this
     obtain ⟨a4,c4,rfl,zs4,_⟩:=HOB.zs hb
     have hmem:=topL_mem n L (by omega) HP.out
     have con:=gathered_at a4 c4 acc wr zs4 (by omega) (fun y hy=>by rw [← ea] at hy; have:=hmem y hy; rw [bigW_iff]; omega) (fun y hy=>by
      rw [← ea] at hy
      obtain ⟨⟨x,hx,e⟩,_⟩:=hmem y hy
      rw [e]
      rw [← HI.out] at hx
      exact row8 HO.out x.2 (inOrd_mem.1 hx).1.1)
     have HV':=HV.out
     have HE':=HE.out
     rw [ea] at HV' HE'
     rw [← HE',← HV'] at con
     clear HV' HE' zs4 HOB ea hmem
     go_wp2_with fail
     refine con.mono ?_
     rintro e w6 ⟨v6,rfl,O6,hb6⟩
     have hA6:=chain hA3 hb
     have O6':=O6.mono hA6.size
     obtain ⟨a6,c6,rfl,_⟩:=O6.zs
     clear con O6
     dsimp only
     go_wp2_with fail
     exact bodyPost_ret (v:=.tuple #[.slice a6 fz.length c6,.int .i64 fe]) (by simp [results,Tryz.results98,go_sem]) rfl ⟨_,rfl,O6',chain hA6 hb6⟩
  ·have e0:fe=inpE cols l:=by rw [← HF.out]; unfold topE; rw [H1.out,if_neg (by simp),if_neg HRg.out,if_pos h2]
   have e1:fz = []:=by rw [← HZ.out]; unfold topZ; rw [HF.out,e0,if_neg h2]
   have hne:(inpE cols l != 0)=true:=by simpa using h2
   rw [← e0] at con hne
   have HV:Hid (fz = []):=e1
   clear e0 e1 h2
   dsimp only
   go_wp2_with fail
   refine con.mono ?_
   rintro e w2 ⟨rfl,hb2⟩
   clear con
   dsimp only
   go_wp2_with fail
   exact bodyPost_ret (v:=.tuple #[.slice none 0 0,.int .i64 fe]) (by simp [results,Tryz.results98,go_sem]) rfl ⟨_,rfl,by rw [HV.out]; exact own_nil _ _,chain hb1 hb2⟩
 ·have e0:fe=listE cols xs:=by rw [← HF.out]; unfold topE; rw [if_pos h1]
  have e1:fz = []:=by rw [← HZ.out]; unfold topZ; rw [HF.out,e0,if_neg h1]
  have hne:(listE cols xs != 0)=true:=by simpa using h1
  have HL:Hid (¬ listE cols xs=0):=h1
  rw [← e0] at hne
  have HV:Hid (fz = []):=e1
  have HN:Hid (fe=listE cols xs):=e0
  clear e0 e1 h1
  go_enter Tryz.func98,Tryz.ntmps98
  go_wp2_with fail
  refine con.mono ?_
  rintro e w1 ⟨u,rfl,hL,hb1⟩
  obtain ⟨_,rfl⟩:¬ listE cols xs=0∧u = .nilFunc:=by
   rcases hL with ⟨hL,_⟩ | hL
   ·exact absurd hL HL.out
   ·exact hL
  rw [← HN.out]
  clear con
  go_wp2_with fail
  exact bodyPost_ret (v:=.tuple #[.slice none 0 0,.int .i64 fe]) (by simp [results,Tryz.results98,go_sem]) rfl ⟨_,rfl,by rw [HV.out]; exact own_nil _ _,hb1⟩
end Go.Proofs.YtohjlfhmnmcndaaGreat
/- The walk of ops.Group. -/
namespace Go.Proofs.YtohjlfhmnmcndaaGreat
open Go.RowKit Go.Lib Go.Shelf

theorem partL_mem (L:List Kp):∀ p ∈ partL L,(∀ r ∈ p.2,∃ x ∈ L,x.2=r)∧∃ x ∈ L,p.1=x.1:=by
 have aux:∀ (L:List Kp) (ps:List Pt) (P:Zp→Prop) (Q:List Vl→Prop),(∀ x ∈ L,P x.2∧Q x.1)→(∀ p ∈ ps,(∀ r ∈ p.2,P r)∧Q p.1)→∀ p ∈ L.foldl (fun ps x=>putR (openP ps x) x.2) ps,(∀ r ∈ p.2,P r)∧Q p.1:=by
  intro L
  induction L with
  | nil=>intro ps P Q _ h; exact h
  | cons x r ih =>
   intro ps P Q hL h
   rw [List.foldl_cons]
   refine ih _ P Q (fun y hy=>hL y (by simp [hy])) ?_
   have hx:=hL x (by simp)
   have ho:∀ p ∈ openP ps x,(∀ r ∈ p.2,P r)∧Q p.1:=fun p hp=>by
    have hnew:∀ p ∈ ps ++ [((x.1,[]):Pt)],(∀ r ∈ p.2,P r)∧Q p.1:=fun p hp=>by
     rcases List.mem_append.1 hp with hp | hp
     ·exact h p hp
     ·rw [List.mem_singleton.1 hp]; exact ⟨fun r hr=>by simp at hr,hx.2⟩
    unfold openP at hp
    split at hp
    ·exact hnew p hp
    ·split at hp
     ·exact h p hp
     ·exact hnew p hp
   intro p hp
   unfold putR at hp
   split at hp
   ·exact ho p hp
   ·rename_i hne
    rcases List.mem_or_eq_of_mem_set hp with hp | rfl
    ·exact ho p hp
    ·have hl:=ho _ (List.getElem_mem (l:=openP ps x) (n:=(openP ps x).length - 1) (by omega))
     refine ⟨fun r hr=>?_,hl.2⟩
     rcases List.mem_append.1 hr with hr | hr
     ·exact hl.1 r hr
     ·rw [List.mem_singleton.1 hr]; exact hx.1
 intro p hp
 exact aux L [] (fun r=>∃ x ∈ L,x.2=r) (fun k=>∃ x ∈ L,k=x.1) (fun x hx=>⟨⟨x,hx,rfl⟩,⟨x,hx,rfl⟩⟩) (fun p hp=>by simp at hp) p hp
def partsG (xs:List Ex) (L:List Kp):List Pt:=if xs.length=0∧(partL L).length=0 then [([],[])] else partL L
def groupL (xs:List Ex) (gs:List Ag) (L:List Kp):List Zp:=(partsG xs L).map fun p=>(p.1 ++ gs.map fun g=>aggP g p.2,1)
def groupE (cols:List Int) (xs:List Ex) (gs:List Ag) (z:List Zp):Int:=if 8<xs.length+gs.length then 5 else if listE cols xs≠0 then listE cols xs else if aggsE cols gs≠0 then aggsE cols gs else if inpE cols z≠0 then inpE cols z else gatherE (groupL xs gs (inOrd xs z))
def groupZ (cols:List Int) (xs:List Ex) (gs:List Ag) (z:List Zp):List Zp:=if groupE cols xs gs z=0 then canon (groupL xs gs (inOrd xs z)) else []
theorem parts_ok {cols:List Int} {xs:List Ex} {z:List Zp} (h:InpOk cols z):(partsG xs (inOrd xs z)).length≤401∧∀ p ∈ partsG xs (inOrd xs z),ROk cols p.2∧p.1.length=xs.length:=by
 have hs:=partL_small (inOrd xs z)
 have hl:=inOrd_len xs z
 have h4:=set_len h
 have hp:∀ p ∈ partL (inOrd xs z),ROk cols p.2∧p.1.length=xs.length:=fun p hp=>by
  obtain ⟨h1,x,hx,e⟩:=partL_mem (inOrd xs z) p hp
  refine ⟨⟨by have:=hs.2 p hp; omega,fun r hr=>?_,fun r hr=>?_⟩,?_⟩
  ·obtain ⟨y,hy,rfl⟩:=h1 r hr
   exact h.fit _ (inOrd_mem.1 hy).1.1
  ·obtain ⟨y,hy,rfl⟩:=h1 r hr
   have hm:=inOrd_mem.1 hy
   have:=set_in h y.2 hm.1.1
   rw [inW_iff] at this
   have:=hm.1.2
   omega
  ·rw [e,(inOrd_mem.1 hx).2]; simp [rowX]
 unfold partsG
 split
 ·rename_i hc
  refine ⟨by simp,fun p hp'=>?_⟩
  rw [List.mem_singleton.1 hp']
  exact ⟨⟨Nat.zero_le _,fun r hr=>by simp at hr,fun r hr=>by simp at hr⟩,hc.1.symm⟩
 ·exact ⟨by have:=hs.1; omega,hp⟩

/-- Parts in memory, to be read. -/
def ElP (W:World) (b o:Nat) (p:Pt):Prop:=(∃ ka kc,W.cell? ⟨b,o,none⟩=some (.slice ka p.1.length kc)∧SlAt W ka p.1)∧∃ ra rc,W.cell? ⟨b,o+1,none⟩=some (.slice ra p.2.length rc)∧ZsAt W ra p.2
theorem ElP.next {W w1:World} {b o:Nat} {p:Pt} (h:ElP W b o p) (hlt:b<W.heap.size) (hb:Below W.heap.size W w1):ElP w1 b o p:=by
 obtain ⟨⟨ka,kc,h1,h2⟩,ra,rc,h3,h4⟩:=h
 exact ⟨⟨ka,kc,(hb.cell (p:=⟨b,_,none⟩) hlt).trans h1,h2.next hb⟩,ra,rc,(hb.cell (p:=⟨b,_,none⟩) hlt).trans h3,h4.next hb⟩
def PtAt (W:World) (a:Option Addr) (ps:List Pt):Prop:=ps = []∨∃ b off,a=some ⟨b,off,none⟩∧b<W.heap.size∧∀ i (hi:i<ps.length),ElP W b (off+i*2) ps[i]
theorem PtAt.next {W w1:World} {a:Option Addr} {ps:List Pt} (h:PtAt W a ps) (hb:Below W.heap.size W w1):PtAt w1 a ps:=by
 rcases h with h | ⟨b,off,e,hlt,h⟩
 ·exact .inl h
 ·exact .inr ⟨b,off,e,Nat.lt_of_lt_of_le hlt hb.size,fun i hi=>(h i hi).next hlt hb⟩
theorem PtAt.elem {W:World} {a:Option Addr} {ps:List Pt} (h:PtAt W a ps) {i:Nat} (hi:i<ps.length):∃ b off,a=some ⟨b,off,none⟩∧b<W.heap.size∧ElP W b (off+i*2) ps[i]:=by
 rcases h with h | ⟨b,off,e,hlt,h⟩
 ·subst h; simp at hi
 ·exact ⟨b,off,e,hlt,h i hi⟩
theorem PsAt.pt {w0:World} {B:Nat} {W:World} {v:Value} {ps:List Pt} (h:PsAt w0 B W v ps) (hb:Below w0.heap.size w0 W):∃ a c,v = .slice a ps.length c∧PtAt W a ps:=by
 obtain ⟨xs,Bl,rv,zs,I⟩:=h
 have o:=I.own
 rcases o.2 with ⟨rfl,h0⟩ | ⟨g,cap,cur,rfl,_⟩
 ·exact ⟨none,0,by rw [h0],.inl (List.eq_nil_of_length_eq_zero h0)⟩
 ·refine ⟨_,cap,rfl,.inr ⟨g,0,rfl,(o.lt g rfl).2,fun i hi=>?_⟩⟩
  obtain ⟨ka,kc,e0,s0⟩:=I.key i hi
  obtain ⟨ra,rc,er,zr⟩:=own_zsB (I.rowB hi) rfl (I.row i hi).2 hb
  refine ⟨⟨ka,kc,?_,s0.next hb⟩,ra,rc,?_,zr⟩
  ·rw [Nat.zero_add,o.cellAt _ (by omega)]; exact e0
  ·rw [Nat.zero_add,o.cellAt _ (by omega),I.cell i hi,er]

set_option maxRecDepth 100000 in
set_option maxHeartbeats 8000000 in
theorem group_at (cols:List Int) (xs:List Ex) (gs:List Ag) (hT:∀ g ∈ gs,measE cols g=0→TotalOk g.1) (hsum:xs.length+gs.length≤9223372036854775807) (ca:Option Addr) (ccap:Nat) (xa:Option Addr) (xcap:Nat) (ga:Option Addr) (gcap:Nat) (a:Option Addr) (cap:Nat) (l:List Zp) (w:World) (hc:IsAt w.heap.size w ca cols) (hk:KsAt w.heap.size w xa xs) (hg:AgAt w.heap.size w ga gs) (h:ZsAt w a l) :
  Calls Tryz.prog 97 #[.slice ca cols.length ccap,.slice xa xs.length xcap,.slice ga gs.length gcap,.slice a l.length cap] w fun e w'=>∃ v,e = .returned (.tuple #[v,.int .i64 (groupE cols xs gs l)])∧OwnZ w.heap.size w' v (groupZ cols xs gs l)∧Below w.heap.size w w':=by
 obtain ⟨i0,hi,hz0,hz1,hz2⟩:=info_parts Tryz.info42
 have con:=list_at cols xs ca ccap xa xcap w hk hc
 generalize hfz:groupZ cols xs gs l=fz
 generalize hfe:groupE cols xs gs l=fe
 have HZ:Hid (groupZ cols xs gs l=fz):=hfz
 have HF:Hid (groupE cols xs gs l=fe):=hfe
 have HTo:Hid (∀ g ∈ gs,measE cols g=0→TotalOk g.1):=hT
 clear hfz hfe hT
 have hW:IntKind.i64.wrap ((xs.length:Int)+(gs.length:Int))=(xs.length:Int)+(gs.length:Int):=IntWalk.i64_in _ ⟨by omega,by omega⟩
 by_cases h8:8<xs.length+gs.length
 ·have e0:fe=5:=by rw [← HF.out]; unfold groupE; rw [if_pos h8]
  have e1:fz = []:=by rw [← HZ.out]; unfold groupZ; rw [HF.out,e0,if_neg (by decide)]
  subst e0 e1
  have hz:(8:Int)<(xs.length:Int)+(gs.length:Int):=by omega
  clear con
  go_enter Tryz.func97,Tryz.ntmps97
  go_wp2_with fail
  exact bodyPost_ret (v:=.tuple #[.slice none 0 0,.int .i64 5]) (by simp [results,Tryz.results97,go_sem]) rfl ⟨_,rfl,own_nil _ _,Below.refl _ _⟩
 have hz:¬ (8:Int)<(xs.length:Int)+(gs.length:Int):=by omega
 have HN8:Hid (¬ 8<xs.length+gs.length):=h8
 by_cases h1:listE cols xs=0
 ·have H1:Hid (listE cols xs=0):=h1
  rw [h1] at con
  clear h1
  go_enter Tryz.func97,Tryz.ntmps97
  go_wp2_with fail
  refine con.mono ?_
  rintro e w1 ⟨u,rfl,hL,hb1⟩
  clear con
  have hL:ListF cols w.heap.size u xs w1:=by
   rcases hL with ⟨_,hL⟩ | ⟨hL,_⟩
   ·exact hL
   ·exact absurd (by trivial) hL
  have HL:Hid (ListF cols w.heap.size u xs w1):=hL
  obtain ⟨ug,ucb,rfl⟩:∃ g cb,u = .func (.func g) #[] cb:=by obtain ⟨g,cb,e,_⟩:=hL; exact ⟨g,cb,e⟩
  clear hL
  have con:=aggregates_at cols gs HTo.out ca ccap ga gcap w1 ((AgAt.next hb1 (Nat.le_refl _) hg).up hb1.size) ((hc.next hb1 (Nat.le_refl _)).up hb1.size) (by omega)
  by_cases h2:aggsE cols gs=0
  ·have H2:Hid (aggsE cols gs=0):=h2
   rw [h2] at con
   clear h2
   dsimp only
   go_wp2_with fail
   refine con.mono ?_
   rintro e w2 ⟨u2,rfl,hG,hb2⟩
   clear con
   have hG:AggF cols w1.heap.size u2 gs w2:=by
    rcases hG with ⟨_,hG⟩ | ⟨hG,_⟩
    ·exact hG
    ·exact absurd (by trivial) hG
   obtain ⟨tg,tcb,rfl,egt,dt⟩:=hG
   have HD:Hid (∀ (rows:List Zp) (a:Option Addr) (cap:Nat) (W:World),ROk cols rows→ZsAt W a rows→Since w1.heap.size w2 W→Calls Tryz.prog tg (#[.slice a rows.length cap] ++ tcb) W fun e w'=>e = .returned (.slice (some ⟨W.heap.size,0,none⟩) gs.length gs.length)∧RowNew W.heap.size w' (gs.map fun g=>aggP g rows)∧Below W.heap.size W w'):=dt
   clear dt
   have hA2:=chain hb1 hb2
   have con:=wrongS_at cols ca ccap a cap l w2 ((hc.next hA2 (Nat.le_refl _)).up hA2.size) (h.next hA2)
   by_cases h3:inpE cols l=0
   ·have HO:Hid (InpOk cols l):=(inpE_ok cols l).1 h3
    rw [h3] at con
    have H3:Hid (inpE cols l=0):=h3
    clear h3
    have HE:Hid (fe=gatherE (groupL xs gs (inOrd xs l))):=by
     show fe=_
     rw [← HF.out]; unfold groupE; rw [if_neg HN8.out,H1.out,H2.out,H3.out,if_neg (by simp),if_neg (by simp),if_neg (by simp)]
    have HV:Hid (fz=gatherZ (groupL xs gs (inOrd xs l))):=by
     show fz=_
     rw [← HZ.out]; unfold groupZ gatherZ; rw [HF.out,HE.out]
    have hl4:=set_len HO.out
    dsimp only
    go_wp2_with fail
    refine con.mono ?_
    rintro e w3 ⟨rfl,hb3⟩
    clear con
    have hA3:=chain hA2 hb3
    have con:=inOrder_at cols xs (.func (.func ug) #[] ucb) w.heap.size a cap l w3 (HL.out.next (Since.of (chain hb2 hb3))) HO.out (h.next hA3)
    have hil:=inOrd_len xs l
    dsimp only
    go_wp2_with fail
    refine con.mono ?_
    rintro e w4 ⟨a4,c4,rfl,kd,hb4⟩
    clear con
    have con:=parted_at a4 c4 (inOrd xs l) w4 kd (by omega)
    have hpk:=parts_ok (xs:=xs) HO.out
    have HPk:Hid (∀ p ∈ partsG xs (inOrd xs l),ROk cols p.2∧p.1.length=xs.length):=hpk.2
    have hpl:=hpk.1
    clear hpk
    dsimp only
    go_wp2_with fail
    refine con.mono ?_
    rintro e w5 ⟨v5,rfl,PS,hb5⟩
    clear con kd
    obtain ⟨a5,c5,rfl,PT⟩:=PS.pt hb5
    clear PS
    have hA5:=chain (chain hA3 hb4) hb5
    have hS5:=chain (chain hb3 hb4) hb5
    have HG:Hid (groupL xs gs (inOrd xs l)=(partsG xs (inOrd xs l)).map fun p=>(p.1 ++ gs.map fun g=>aggP g p.2,1)):=rfl
    dsimp only
    by_cases hcx:xs.length=0∧(partL (inOrd xs l)).length=0
    ·obtain ⟨hx0,hp0⟩:=hcx
     have eG:partsG xs (inOrd xs l) = [([],[])]:=by unfold partsG; rw [if_pos ⟨hx0,hp0⟩]
     have hx0b:((xs.length:Int) == 0)=true:=by simp [hx0]
     have hp0b:(((partL (inOrd xs l)).length:Int) == 0)=true:=by simp [hp0]
     obtain ⟨ps,eps⟩:∃ ps,ps=partsG xs (inOrd xs l):=⟨_,rfl⟩
     have HPs:Hid (partsG xs (inOrd xs l)=ps):=eps.symm
     have hpsl:ps.length=1:=by rw [eps,eG]; rfl
     have hplx:ps.length≤401:=by omega
     generalize hpn:(partL (inOrd xs l)).length=pn at *
     have hal5:Below w5.heap.size w5 (w5.alloc (.cells #[.slice none 0 0,.slice none 0 0] 154)):=(Below.refl _ _).alloc (Nat.le_refl _) _
     have q5:=heap_new w5 #[.slice none 0 0,.slice none 0 0] 154
     have PT:PtAt (w5.alloc (.cells #[.slice none 0 0,.slice none 0 0] 154)) (some ⟨w5.heap.size,0,none⟩) ps:=by
      rw [eps,eG]
      refine .inr ⟨w5.heap.size,0,rfl,lt_of_heap q5,fun i hi=>?_⟩
      have e0:i=0:=by simpa using hi
      subst e0
      exact ⟨⟨none,0,cell_of (i:=0) q5 rfl,Nat.zero_le _,.inl rfl⟩,none,0,cell_of (i:=1) q5 rfl,Nat.zero_le _,.inl rfl⟩
     clear eps hpn eG hp0
     go_upto_region 15 with fail
     have hbx:=chain hA5 hal5
     have hSx:=chain hS5 hal5
     generalize w5.alloc (.cells #[.slice none 0 0,.slice none 0 0] 154)=wx at *
     obtain ⟨pa,epa⟩:∃ pa,pa=some (⟨w5.heap.size,0,none⟩:Addr):=⟨_,rfl⟩
     rw [← epa] at PT ⊢
     clear epa
     rw [show (1:Nat)=ps.length from hpsl.symm]
     clear hpsl hx0b hp0b hx0
     have hgl:(groupL xs gs (inOrd xs l)).length=ps.length:=by rw [HG.out,HPs.out]; simp
     go_wp2_with (first | (at_make; refine wpList_make_full _ rfl _ _ 34 rfl wx.heap.size 58 i0 _ 2 Tryz.underlying34 hi hz0 hz1 .i64 .i64 ps.length ps.length ps.length rfl rfl rfl rfl (by rw [hz2]; omega) (by unfold maxLen; omega) (Nat.le_refl _) ?_))
     intro w6 hown hgrow
     have hb6:Below wx.heap.size wx w6:=(Below.refl _ _).grown hgrow (Nat.le_refl _) (by simp)
     obtain ⟨f,hf⟩:∃ f:Nat→Zp,f=(fun j=>(groupL xs gs (inOrd xs l)).getD j ([],0)):=⟨_,rfl⟩
     have HFn:Hid (f=(fun j=>(groupL xs gs (inOrd xs l)).getD j ([],0))):=hf
     have HGl:Hid ((groupL xs gs (inOrd xs l)).length=ps.length):=hgl
     clear hf hgl
     have hB0:MTo w6 wx.heap.size ps.length f 0:=⟨_,hown,fun j _ hj=>absurd hj (Nat.not_lt_zero _)⟩
     clear hown hgrow
     go_wp2_with fail
     go_loopw [67] (fun i wr=>∃ k:Nat,k≤ps.length∧i = .int .i64 k∧MTo wr wx.heap.size ps.length f k∧wx.heap.size<wr.heap.size∧Below wx.heap.size wx wr) (fun i _=>ps.length - (intOf i).toNat)
     case atStart=>exact ⟨0,Nat.zero_le _,rfl,hB0,(by obtain ⟨xs0,o0,_⟩:=hB0; exact (o0.lt wx.heap.size rfl).2),hb6⟩
     case round =>
      clear hB0 hb6
      obtain ⟨k,hk',rfl,HB,hwx,hb⟩:=hrel
      have hzz:=hb.size
      by_cases hlt:k<ps.length
      ·obtain ⟨b,off,rfl,hbl,⟨ka,kc,c0,sk⟩,ra,rc,c1,zr⟩:=(PT.next hb).elem hlt
       have hal:Below wr.heap.size wr (wr.alloc (.cells #[.slice ka ps[k].1.length kc,.slice ra ps[k].2.length rc] 154)):=(Below.refl _ _).alloc (Nat.le_refl _) _
       have q0:=heap_new wr #[.slice ka ps[k].1.length kc,.slice ra ps[k].2.length rc] 154
       have hpo:=HPk.out ps[k] (by rw [HPs.out]; exact List.getElem_mem hlt)
       have HRo:Hid (ROk cols ps[k].2):=hpo.1
       have hkl:=hpo.2
       have HSk:Hid (SlAt wr ka ps[k].1):=sk
       have HZr:Hid (ZsAt wr ra ps[k].2):=zr
       have ef:f k=(ps[k].1 ++ gs.map fun g=>aggP g ps[k].2,1):=by
        rw [HFn.out]
        simp only [HG.out,HPs.out]
        simp [List.getD,hlt]
       have EF:Hid (f k=(ps[k].1 ++ gs.map fun g=>aggP g ps[k].2,1)):=ef
       have i0':(0:Int)≤(k:Int):=by omega
       have i1:(k:Int)<(ps.length:Int):=by omega
       have hkl8:ps[k].1.length+gs.length≤8:=by omega
       clear ef sk zr hpo hkl
       go_wp2_with fail
       clear c0 c1
       generalize wr.alloc (.cells #[.slice ka ps[k].1.length kc,.slice ra ps[k].2.length rc] 154)=wk at *
       have hCC:∀ W W':World,(W.heap[wr.heap.size]? = some (.cells #[.slice ka ps[k].1.length kc,.slice ra ps[k].2.length rc] 154 (0,0)))→Below W.heap.size W W'→(W'.heap[wr.heap.size]? = some (.cells #[.slice ka ps[k].1.length kc,.slice ra ps[k].2.length rc] 154 (0,0))):=fun W W' h hb=>(hb.block _ (lt_of_heap h)).trans h
       have hd:Below wk.heap.size wk wk.drew:=(Below.refl _ _).drew
       have CW:(wk.drew.heap[wr.heap.size]? = some (.cells #[.slice ka ps[k].1.length kc,.slice ra ps[k].2.length rc] 154 (0,0))):=hCC _ _ q0 hd
       refine wp_region_cls (fun W=>(W.heap[wr.heap.size]? = some (.cells #[.slice ka ps[k].1.length kc,.slice ra ps[k].2.length rc] 154 (0,0)))) (by kernel_rfl) ?_
       refine wpY_take hCC (some 72) (i:=0) (v:=.slice (some ⟨wx.heap.size,0,none⟩) ps.length ps.length) rfl rfl (by kernel_rfl) (by kernel_rfl) (by kernel_rfl) (fun _ _ _ h=>h) (Or.inl ⟨rfl,fun n hn=>?_⟩) CW ?_
       ·go_simp
       simp only [Act.put,pA,pB,pC]
       refine wpY_take hCC (some 73) (i:=1) (v:=.int .i64 (k:Int)) rfl rfl (by kernel_rfl) (by kernel_rfl) (by kernel_rfl) (fun _ _ _ h=>h) (Or.inl ⟨rfl,fun n hn=>?_⟩) CW ?_
       ·go_simp
       simp only [Act.put,pA,pB,pC]
       refine wpY_take hCC (some 74) (i:=2) (v:=.pointer (some ⟨wr.heap.size,0,none⟩)) rfl rfl (by kernel_rfl) (by kernel_rfl) (by kernel_rfl) (fun _ _ _ h=>h) (Or.inl ⟨rfl,fun n hn=>?_⟩) CW ?_
       ·go_simp
       simp only [Act.put,pA,pB,pC]
       refine wpY_take hCC (some 75) (i:=3) (v:=.slice ka ps[k].1.length kc) rfl rfl (by kernel_rfl) (by kernel_rfl) (by kernel_rfl) (fun _ _ _ h=>h) (Or.inl ⟨rfl,fun n hn=>?_⟩) CW ?_
       ·have hc:n.cell? ⟨wr.heap.size,0,none⟩=some (.slice ka ps[k].1.length kc):=cell_of (i:=0) hn rfl
        go_simp
       simp only [Act.put,pA,pB,pC]
       refine wpY_take hCC (some 76) (i:=4) (v:=.func (.func tg) #[] tcb) rfl rfl (by kernel_rfl) (by kernel_rfl) (by kernel_rfl) (fun _ _ _ h=>h) (Or.inl ⟨rfl,fun n hn=>?_⟩) CW ?_
       ·go_simp
       simp only [Act.put,pA,pB,pC]
       refine wpY_take hCC (some 77) (i:=5) (v:=.pointer (some ⟨wr.heap.size,1,none⟩)) rfl rfl (by kernel_rfl) (by kernel_rfl) (by kernel_rfl) (fun _ _ _ h=>h) (Or.inl ⟨rfl,fun n hn=>?_⟩) CW ?_
       ·go_simp
       simp only [Act.put,pA,pB,pC]
       refine wpY_take hCC (some 78) (i:=6) (v:=.slice ra ps[k].2.length rc) rfl rfl (by kernel_rfl) (by kernel_rfl) (by kernel_rfl) (fun _ _ _ h=>h) (Or.inl ⟨rfl,fun n hn=>?_⟩) CW ?_
       ·have hc:n.cell? ⟨wr.heap.size,1,none⟩=some (.slice ra ps[k].2.length rc):=cell_of (i:=1) hn rfl
        go_simp
       simp only [Act.put,pA,pB,pC]
       refine wpY_step (rs:=[7]) (by kernel_rfl) (by simp) ?_
       intro w7 hb7 jj hj
       obtain rfl:jj=7:=by simpa using hj
       clear hj
       have CW7:=hCC _ _ CW hb7
       have D7:=chain hal (chain hd hb7)
       have con:=HD.out ps[k].2 ra rc w7 HRo.out (HZr.out.next D7) (Since.of (chain hSx (chain hb D7)))
       refine wpOp_step rfl (fun K hK=>?_)
       go_simp
       first | (refine con.mono ?_) | (go_at_fn tg; refine con.mono ?_)
       rintro e w8 ⟨rfl,hRN,hb8⟩
       clear con
       have CW8:=hCC _ _ CW7 hb8
       have D8:=chain D7 hb8
       refine hK _ _ ⟨CW8,?_⟩
       clear hK K
       refine wpY_step (rs:=[8]) (by kernel_rfl) (by simp) ?_
       intro w9 hb9 jj hj
       obtain rfl:jj=8:=by simpa using hj
       clear hj
       refine wpOp_step rfl (fun K hK=>?_)
       go_simp
       have CW9:=hCC _ _ CW8 hb9
       have D9:=chain D8 hb9
       have R2:=raw_vals (hRN.1.next hb9)
       have hgm:(gs.map fun g=>aggP g ps[k].2).length=gs.length:=by simp
       rw [hgm] at R2
       have PC:=PairC.new kc gs.length (raw_vals (HSk.out.next D9)) R2 56
       have halA:Below w9.heap.size w9 (w9.alloc (.cells #[.slice ka ps[k].1.length kc,.slice (some ⟨w7.heap.size,0,none⟩) gs.length gs.length] 56)):=(Below.refl _ _).alloc (Nat.le_refl _) _
       have CWA:=hCC _ _ CW9 halA
       have DA:=chain D9 halA
       refine hK _ _ ⟨CWA,?_⟩
       clear hK K R2 hgm hRN
       generalize w9.alloc (.cells #[.slice ka ps[k].1.length kc,.slice (some ⟨w7.heap.size,0,none⟩) gs.length gs.length] 56)=wA at *
       refine wpY_step (rs:=[9]) (by kernel_rfl) (by simp) ?_
       intro wB hbB jj hj
       obtain rfl:jj=9:=by simpa using hj
       clear hj
       refine wpOp_step rfl (fun K hK=>?_)
       go_simp
       have CWB:=hCC _ _ CWA hbB
       have DB:=chain DA hbB
       refine (concatV_at _ _ _ _ _ wB (PC.next hbB) (by omega)).mono ?_
       rintro e wC ⟨vC,rfl,OC,hbC⟩
       rw [← flatV_append] at OC
       obtain ⟨aC,cC,rfl,SC,TC,_⟩:=own_vals OC (by simp)
       have CWC:=hCC _ _ CWB hbC
       have DC:=chain DB hbC
       refine hK _ _ ⟨CWC,?_⟩
       clear hK K OC PC CW7 CW8 CW9 CWA CWB CW
       obtain ⟨rr,err⟩:∃ rr,rr=ps[k].1 ++ gs.map fun g=>aggP g ps[k].2:=⟨_,rfl⟩
       rw [← err] at SC ⊢
       have EFr:Hid (f k=(rr,1)):=by show _=_; rw [err]; exact EF.out
       clear err EF
       refine wpY_take hCC (some 82) (i:=10) (v:=.agg #[.slice aC rr.length cC,.int .i64 1]) rfl rfl (by kernel_rfl) (by kernel_rfl) (by kernel_rfl) (fun _ _ _ h=>h) (Or.inl ⟨rfl,fun n hn=>?_⟩) CWC ?_
       ·go_simp
       simp only [Act.put,pA,pB,pC]
       refine wpY_take hCC (some 83) (i:=11) (v:=.pointer (some ⟨wx.heap.size,k*2,none⟩)) rfl rfl (by kernel_rfl) (by kernel_rfl) (by kernel_rfl) (fun _ _ _ h=>h) (Or.inl ⟨rfl,fun n hn=>?_⟩) CWC ?_
       ·go_simp
       simp only [Act.put,pA,pB,pC]
       refine wpY_step (rs:=[12]) (by kernel_rfl) (by simp) ?_
       intro wD hbD jj hj
       obtain rfl:jj=12:=by simpa using hj
       clear hj
       have CWD:=hCC _ _ CWC hbD
       have DD:=chain DC hbD
       have HBD:=(HB.next DD)
       obtain ⟨⟨u0,u1,d0,d1⟩,f0,f1,hlb⟩:=HBD.cells hlt
       have MS:=HBD.step hlt (a:=aC) (cap:=cC) (by rw [EFr.out]; exact SC.next hbD) (TC.next hbD)
       rw [EFr.out] at MS
       have hne:wr.heap.size≠wx.heap.size:=by omega
       have CWE:(((wD.setCell ⟨wx.heap.size,k*2,none⟩ (.slice aC rr.length cC)).setCell ⟨wx.heap.size,k*2+1,none⟩ (.int .i64 1)).heap[wr.heap.size]? = some (.cells #[.slice ka ps[k].1.length kc,.slice ra ps[k].2.length rc] 154 (0,0))):=(Below.heap_setCell _ _ _ _ hne).trans ((Below.heap_setCell _ _ _ _ hne).trans CWD)
       have BE:Below wx.heap.size wx ((wD.setCell ⟨wx.heap.size,k*2,none⟩ (.slice aC rr.length cC)).setCell ⟨wx.heap.size,k*2+1,none⟩ (.int .i64 1)):=((chain hb DD).setCell (p:=⟨wx.heap.size,k*2,none⟩) (Nat.le_refl _) _).setCell (p:=⟨wx.heap.size,k*2+1,none⟩) (Nat.le_refl _) _
       have zE:wx.heap.size<((wD.setCell ⟨wx.heap.size,k*2,none⟩ (.slice aC rr.length cC)).setCell ⟨wx.heap.size,k*2+1,none⟩ (.int .i64 1)).heap.size:=by simpa [World.setCell] using hlb
       refine wpOp_step rfl (fun K hK=>?_)
       go_simp
       refine hK _ _ ⟨CWE,?_⟩
       clear hK K CWD CWC d0 d1 f0 f1 HBD SC TC
       generalize (wD.setCell ⟨wx.heap.size,k*2,none⟩ (.slice aC rr.length cC)).setCell ⟨wx.heap.size,k*2+1,none⟩ (.int .i64 1)=wE at *
       refine wpY_done (by kernel_rfl) ?_
       intro wF hbF
       have MF:=MS.next hbF
       have BF:=chain BE hbF
       have zF:=hbF.size
       clear MS BE CWE hCC
       go_wp2_with fail
       go_roundw
       case rel=>exact ⟨k+1,by omega,by go_num,MF,by omega,BF⟩
       case measure=>simp [intOf]; omega
      ·have e:k=ps.length:=by omega
       subst e
       have zsm:=HB.done (groupL xs gs (inOrd xs l)) HGl.out.symm (fun j hj=>by rw [HFn.out]; simp [List.getD,hj]) (by rw [HGl.out]; omega)
       have hmem:∀ y ∈ groupL xs gs (inOrd xs l),y.2=1∧y.1.length≤8:=fun y hy=>by
        rw [HG.out] at hy
        obtain ⟨p,hp,rfl⟩:=List.mem_map.1 hy
        have:=(HPk.out p hp).2
        exact ⟨rfl,by simp; omega⟩
       have con:=gathered_at (some ⟨wx.heap.size,0,none⟩) ps.length (groupL xs gs (inOrd xs l)) wr zsm (by rw [HGl.out]; omega) (fun y hy=>by rw [(hmem y hy).1]; rfl) (fun y hy=>(hmem y hy).2)
       rw [HGl.out,← HE.out,← HV.out] at con
       clear zsm HB hmem
       have hAr:=chain hbx hb
       go_wp2_with fail
       refine con.mono ?_
       rintro e w9 ⟨v9,rfl,O9,hb9⟩
       have O9':=O9.mono hAr.size
       obtain ⟨a9,c9,rfl,_⟩:=O9.zs
       clear con O9
       dsimp only
       go_wp2_with fail
       exact bodyPost_ret (v:=.tuple #[.slice a9 fz.length c9,.int .i64 fe]) (by simp [results,Tryz.results97,go_sem]) rfl ⟨_,rfl,O9',chain hAr hb9⟩
    ·have eG:partsG xs (inOrd xs l)=partL (inOrd xs l):=by unfold partsG; rw [if_neg hcx]
     obtain ⟨ps,eps⟩:∃ ps,ps=partsG xs (inOrd xs l):=⟨_,rfl⟩
     have HPs:Hid (partsG xs (inOrd xs l)=ps):=eps.symm
     have eP:partL (inOrd xs l)=ps:=by rw [eps,eG]
     rw [eP] at hcx PT ⊢
     have hplx:ps.length≤401:=by rw [eps]; exact hpl
     clear eps eG eP
     obtain ⟨wx,hwx5⟩:∃ z,z=w5:=⟨_,rfl⟩
     subst hwx5
     have hbx:=hA5
     have hSx:=hS5
     by_cases e1:xs.length=0
     ·have e2n:¬ (ps.length:Int)=0:=fun e2=>hcx ⟨e1,by omega⟩
      have e2:((ps.length:Int) == 0)=false:=by rw [beq_eq_false_iff_ne]; exact e2n
      have e1b:((xs.length:Int) == 0)=true:=by simp [e1]
      clear hcx e1
      go_upto_region 15 with fail
      clear e1b e2 e2n
      have hgl:(groupL xs gs (inOrd xs l)).length=ps.length:=by rw [HG.out,HPs.out]; simp
      go_wp2_with (first | (at_make; refine wpList_make_full _ rfl _ _ 34 rfl wx.heap.size 58 i0 _ 2 Tryz.underlying34 hi hz0 hz1 .i64 .i64 ps.length ps.length ps.length rfl rfl rfl rfl (by rw [hz2]; omega) (by unfold maxLen; omega) (Nat.le_refl _) ?_))
      intro w6 hown hgrow
      have hb6:Below wx.heap.size wx w6:=(Below.refl _ _).grown hgrow (Nat.le_refl _) (by simp)
      obtain ⟨f,hf⟩:∃ f:Nat→Zp,f=(fun j=>(groupL xs gs (inOrd xs l)).getD j ([],0)):=⟨_,rfl⟩
      have HFn:Hid (f=(fun j=>(groupL xs gs (inOrd xs l)).getD j ([],0))):=hf
      have HGl:Hid ((groupL xs gs (inOrd xs l)).length=ps.length):=hgl
      clear hf hgl
      have hB0:MTo w6 wx.heap.size ps.length f 0:=⟨_,hown,fun j _ hj=>absurd hj (Nat.not_lt_zero _)⟩
      clear hown hgrow
      go_wp2_with fail
      go_loopw [67] (fun i wr=>∃ k:Nat,k≤ps.length∧i = .int .i64 k∧MTo wr wx.heap.size ps.length f k∧wx.heap.size<wr.heap.size∧Below wx.heap.size wx wr) (fun i _=>ps.length - (intOf i).toNat)
      case atStart=>exact ⟨0,Nat.zero_le _,rfl,hB0,(by obtain ⟨xs0,o0,_⟩:=hB0; exact (o0.lt wx.heap.size rfl).2),hb6⟩
      case round =>
       clear hB0 hb6
       obtain ⟨k,hk',rfl,HB,hwx,hb⟩:=hrel
       have hzz:=hb.size
       by_cases hlt:k<ps.length
       ·obtain ⟨b,off,rfl,hbl,⟨ka,kc,c0,sk⟩,ra,rc,c1,zr⟩:=(PT.next hb).elem hlt
        have hal:Below wr.heap.size wr (wr.alloc (.cells #[.slice ka ps[k].1.length kc,.slice ra ps[k].2.length rc] 154)):=(Below.refl _ _).alloc (Nat.le_refl _) _
        have q0:=heap_new wr #[.slice ka ps[k].1.length kc,.slice ra ps[k].2.length rc] 154
        have hpo:=HPk.out ps[k] (by rw [HPs.out]; exact List.getElem_mem hlt)
        have HRo:Hid (ROk cols ps[k].2):=hpo.1
        have hkl:=hpo.2
        have HSk:Hid (SlAt wr ka ps[k].1):=sk
        have HZr:Hid (ZsAt wr ra ps[k].2):=zr
        have ef:f k=(ps[k].1 ++ gs.map fun g=>aggP g ps[k].2,1):=by
         rw [HFn.out]
         simp only [HG.out,HPs.out]
         simp [List.getD,hlt]
        have EF:Hid (f k=(ps[k].1 ++ gs.map fun g=>aggP g ps[k].2,1)):=ef
        have i0':(0:Int)≤(k:Int):=by omega
        have i1:(k:Int)<(ps.length:Int):=by omega
        have hkl8:ps[k].1.length+gs.length≤8:=by omega
        clear ef sk zr hpo hkl
        go_wp2_with fail
        clear c0 c1
        generalize wr.alloc (.cells #[.slice ka ps[k].1.length kc,.slice ra ps[k].2.length rc] 154)=wk at *
        have hCC:∀ W W':World,(W.heap[wr.heap.size]? = some (.cells #[.slice ka ps[k].1.length kc,.slice ra ps[k].2.length rc] 154 (0,0)))→Below W.heap.size W W'→(W'.heap[wr.heap.size]? = some (.cells #[.slice ka ps[k].1.length kc,.slice ra ps[k].2.length rc] 154 (0,0))):=fun W W' h hb=>(hb.block _ (lt_of_heap h)).trans h
        have hd:Below wk.heap.size wk wk.drew:=(Below.refl _ _).drew
        have CW:(wk.drew.heap[wr.heap.size]? = some (.cells #[.slice ka ps[k].1.length kc,.slice ra ps[k].2.length rc] 154 (0,0))):=hCC _ _ q0 hd
        refine wp_region_cls (fun W=>(W.heap[wr.heap.size]? = some (.cells #[.slice ka ps[k].1.length kc,.slice ra ps[k].2.length rc] 154 (0,0)))) (by kernel_rfl) ?_
        refine wpY_take hCC (some 72) (i:=0) (v:=.slice (some ⟨wx.heap.size,0,none⟩) ps.length ps.length) rfl rfl (by kernel_rfl) (by kernel_rfl) (by kernel_rfl) (fun _ _ _ h=>h) (Or.inl ⟨rfl,fun n hn=>?_⟩) CW ?_
        ·go_simp
        simp only [Act.put,pA,pB,pC]
        refine wpY_take hCC (some 73) (i:=1) (v:=.int .i64 (k:Int)) rfl rfl (by kernel_rfl) (by kernel_rfl) (by kernel_rfl) (fun _ _ _ h=>h) (Or.inl ⟨rfl,fun n hn=>?_⟩) CW ?_
        ·go_simp
        simp only [Act.put,pA,pB,pC]
        refine wpY_take hCC (some 74) (i:=2) (v:=.pointer (some ⟨wr.heap.size,0,none⟩)) rfl rfl (by kernel_rfl) (by kernel_rfl) (by kernel_rfl) (fun _ _ _ h=>h) (Or.inl ⟨rfl,fun n hn=>?_⟩) CW ?_
        ·go_simp
        simp only [Act.put,pA,pB,pC]
        refine wpY_take hCC (some 75) (i:=3) (v:=.slice ka ps[k].1.length kc) rfl rfl (by kernel_rfl) (by kernel_rfl) (by kernel_rfl) (fun _ _ _ h=>h) (Or.inl ⟨rfl,fun n hn=>?_⟩) CW ?_
        ·have hc:n.cell? ⟨wr.heap.size,0,none⟩=some (.slice ka ps[k].1.length kc):=cell_of (i:=0) hn rfl
         go_simp
        simp only [Act.put,pA,pB,pC]
        refine wpY_take hCC (some 76) (i:=4) (v:=.func (.func tg) #[] tcb) rfl rfl (by kernel_rfl) (by kernel_rfl) (by kernel_rfl) (fun _ _ _ h=>h) (Or.inl ⟨rfl,fun n hn=>?_⟩) CW ?_
        ·go_simp
        simp only [Act.put,pA,pB,pC]
        refine wpY_take hCC (some 77) (i:=5) (v:=.pointer (some ⟨wr.heap.size,1,none⟩)) rfl rfl (by kernel_rfl) (by kernel_rfl) (by kernel_rfl) (fun _ _ _ h=>h) (Or.inl ⟨rfl,fun n hn=>?_⟩) CW ?_
        ·go_simp
        simp only [Act.put,pA,pB,pC]
        refine wpY_take hCC (some 78) (i:=6) (v:=.slice ra ps[k].2.length rc) rfl rfl (by kernel_rfl) (by kernel_rfl) (by kernel_rfl) (fun _ _ _ h=>h) (Or.inl ⟨rfl,fun n hn=>?_⟩) CW ?_
        ·have hc:n.cell? ⟨wr.heap.size,1,none⟩=some (.slice ra ps[k].2.length rc):=cell_of (i:=1) hn rfl
         go_simp
        simp only [Act.put,pA,pB,pC]
        refine wpY_step (rs:=[7]) (by kernel_rfl) (by simp) ?_
        intro w7 hb7 jj hj
        obtain rfl:jj=7:=by simpa using hj
        clear hj
        have CW7:=hCC _ _ CW hb7
        have D7:=chain hal (chain hd hb7)
        have con:=HD.out ps[k].2 ra rc w7 HRo.out (HZr.out.next D7) (Since.of (chain hSx (chain hb D7)))
        refine wpOp_step rfl (fun K hK=>?_)
        go_simp
        first | (refine con.mono ?_) | (go_at_fn tg; refine con.mono ?_)
        rintro e w8 ⟨rfl,hRN,hb8⟩
        clear con
        have CW8:=hCC _ _ CW7 hb8
        have D8:=chain D7 hb8
        refine hK _ _ ⟨CW8,?_⟩
        clear hK K
        refine wpY_step (rs:=[8]) (by kernel_rfl) (by simp) ?_
        intro w9 hb9 jj hj
        obtain rfl:jj=8:=by simpa using hj
        clear hj
        refine wpOp_step rfl (fun K hK=>?_)
        go_simp
        have CW9:=hCC _ _ CW8 hb9
        have D9:=chain D8 hb9
        have R2:=raw_vals (hRN.1.next hb9)
        have hgm:(gs.map fun g=>aggP g ps[k].2).length=gs.length:=by simp
        rw [hgm] at R2
        have PC:=PairC.new kc gs.length (raw_vals (HSk.out.next D9)) R2 56
        have halA:Below w9.heap.size w9 (w9.alloc (.cells #[.slice ka ps[k].1.length kc,.slice (some ⟨w7.heap.size,0,none⟩) gs.length gs.length] 56)):=(Below.refl _ _).alloc (Nat.le_refl _) _
        have CWA:=hCC _ _ CW9 halA
        have DA:=chain D9 halA
        refine hK _ _ ⟨CWA,?_⟩
        clear hK K R2 hgm hRN
        generalize w9.alloc (.cells #[.slice ka ps[k].1.length kc,.slice (some ⟨w7.heap.size,0,none⟩) gs.length gs.length] 56)=wA at *
        refine wpY_step (rs:=[9]) (by kernel_rfl) (by simp) ?_
        intro wB hbB jj hj
        obtain rfl:jj=9:=by simpa using hj
        clear hj
        refine wpOp_step rfl (fun K hK=>?_)
        go_simp
        have CWB:=hCC _ _ CWA hbB
        have DB:=chain DA hbB
        refine (concatV_at _ _ _ _ _ wB (PC.next hbB) (by omega)).mono ?_
        rintro e wC ⟨vC,rfl,OC,hbC⟩
        rw [← flatV_append] at OC
        obtain ⟨aC,cC,rfl,SC,TC,_⟩:=own_vals OC (by simp)
        have CWC:=hCC _ _ CWB hbC
        have DC:=chain DB hbC
        refine hK _ _ ⟨CWC,?_⟩
        clear hK K OC PC CW7 CW8 CW9 CWA CWB CW
        obtain ⟨rr,err⟩:∃ rr,rr=ps[k].1 ++ gs.map fun g=>aggP g ps[k].2:=⟨_,rfl⟩
        rw [← err] at SC ⊢
        have EFr:Hid (f k=(rr,1)):=by show _=_; rw [err]; exact EF.out
        clear err EF
        refine wpY_take hCC (some 82) (i:=10) (v:=.agg #[.slice aC rr.length cC,.int .i64 1]) rfl rfl (by kernel_rfl) (by kernel_rfl) (by kernel_rfl) (fun _ _ _ h=>h) (Or.inl ⟨rfl,fun n hn=>?_⟩) CWC ?_
        ·go_simp
        simp only [Act.put,pA,pB,pC]
        refine wpY_take hCC (some 83) (i:=11) (v:=.pointer (some ⟨wx.heap.size,k*2,none⟩)) rfl rfl (by kernel_rfl) (by kernel_rfl) (by kernel_rfl) (fun _ _ _ h=>h) (Or.inl ⟨rfl,fun n hn=>?_⟩) CWC ?_
        ·go_simp
        simp only [Act.put,pA,pB,pC]
        refine wpY_step (rs:=[12]) (by kernel_rfl) (by simp) ?_
        intro wD hbD jj hj
        obtain rfl:jj=12:=by simpa using hj
        clear hj
        have CWD:=hCC _ _ CWC hbD
        have DD:=chain DC hbD
        have HBD:=(HB.next DD)
        obtain ⟨⟨u0,u1,d0,d1⟩,f0,f1,hlb⟩:=HBD.cells hlt
        have MS:=HBD.step hlt (a:=aC) (cap:=cC) (by rw [EFr.out]; exact SC.next hbD) (TC.next hbD)
        rw [EFr.out] at MS
        have hne:wr.heap.size≠wx.heap.size:=by omega
        have CWE:(((wD.setCell ⟨wx.heap.size,k*2,none⟩ (.slice aC rr.length cC)).setCell ⟨wx.heap.size,k*2+1,none⟩ (.int .i64 1)).heap[wr.heap.size]? = some (.cells #[.slice ka ps[k].1.length kc,.slice ra ps[k].2.length rc] 154 (0,0))):=(Below.heap_setCell _ _ _ _ hne).trans ((Below.heap_setCell _ _ _ _ hne).trans CWD)
        have BE:Below wx.heap.size wx ((wD.setCell ⟨wx.heap.size,k*2,none⟩ (.slice aC rr.length cC)).setCell ⟨wx.heap.size,k*2+1,none⟩ (.int .i64 1)):=((chain hb DD).setCell (p:=⟨wx.heap.size,k*2,none⟩) (Nat.le_refl _) _).setCell (p:=⟨wx.heap.size,k*2+1,none⟩) (Nat.le_refl _) _
        have zE:wx.heap.size<((wD.setCell ⟨wx.heap.size,k*2,none⟩ (.slice aC rr.length cC)).setCell ⟨wx.heap.size,k*2+1,none⟩ (.int .i64 1)).heap.size:=by simpa [World.setCell] using hlb
        refine wpOp_step rfl (fun K hK=>?_)
        go_simp
        refine hK _ _ ⟨CWE,?_⟩
        clear hK K CWD CWC d0 d1 f0 f1 HBD SC TC
        generalize (wD.setCell ⟨wx.heap.size,k*2,none⟩ (.slice aC rr.length cC)).setCell ⟨wx.heap.size,k*2+1,none⟩ (.int .i64 1)=wE at *
        refine wpY_done (by kernel_rfl) ?_
        intro wF hbF
        have MF:=MS.next hbF
        have BF:=chain BE hbF
        have zF:=hbF.size
        clear MS BE CWE hCC
        go_wp2_with fail
        go_roundw
        case rel=>exact ⟨k+1,by omega,by go_num,MF,by omega,BF⟩
        case measure=>simp [intOf]; omega
       ·have e:k=ps.length:=by omega
        subst e
        have zsm:=HB.done (groupL xs gs (inOrd xs l)) HGl.out.symm (fun j hj=>by rw [HFn.out]; simp [List.getD,hj]) (by rw [HGl.out]; omega)
        have hmem:∀ y ∈ groupL xs gs (inOrd xs l),y.2=1∧y.1.length≤8:=fun y hy=>by
         rw [HG.out] at hy
         obtain ⟨p,hp,rfl⟩:=List.mem_map.1 hy
         have:=(HPk.out p hp).2
         exact ⟨rfl,by simp; omega⟩
        have con:=gathered_at (some ⟨wx.heap.size,0,none⟩) ps.length (groupL xs gs (inOrd xs l)) wr zsm (by rw [HGl.out]; omega) (fun y hy=>by rw [(hmem y hy).1]; rfl) (fun y hy=>(hmem y hy).2)
        rw [HGl.out,← HE.out,← HV.out] at con
        clear zsm HB hmem
        have hAr:=chain hbx hb
        go_wp2_with fail
        refine con.mono ?_
        rintro e w9 ⟨v9,rfl,O9,hb9⟩
        have O9':=O9.mono hAr.size
        obtain ⟨a9,c9,rfl,_⟩:=O9.zs
        clear con O9
        dsimp only
        go_wp2_with fail
        exact bodyPost_ret (v:=.tuple #[.slice a9 fz.length c9,.int .i64 fe]) (by simp [results,Tryz.results97,go_sem]) rfl ⟨_,rfl,O9',chain hAr hb9⟩
     ·have e1n:¬ (xs.length:Int)=0:=by omega
      have e1b:((xs.length:Int) == 0)=false:=by rw [beq_eq_false_iff_ne]; exact e1n
      clear hcx e1
      go_upto_region 15 with fail
      clear e1b e1n
      have hgl:(groupL xs gs (inOrd xs l)).length=ps.length:=by rw [HG.out,HPs.out]; simp
      go_wp2_with (first | (at_make; refine wpList_make_full _ rfl _ _ 34 rfl wx.heap.size 58 i0 _ 2 Tryz.underlying34 hi hz0 hz1 .i64 .i64 ps.length ps.length ps.length rfl rfl rfl rfl (by rw [hz2]; omega) (by unfold maxLen; omega) (Nat.le_refl _) ?_))
      intro w6 hown hgrow
      have hb6:Below wx.heap.size wx w6:=(Below.refl _ _).grown hgrow (Nat.le_refl _) (by simp)
      obtain ⟨f,hf⟩:∃ f:Nat→Zp,f=(fun j=>(groupL xs gs (inOrd xs l)).getD j ([],0)):=⟨_,rfl⟩
      have HFn:Hid (f=(fun j=>(groupL xs gs (inOrd xs l)).getD j ([],0))):=hf
      have HGl:Hid ((groupL xs gs (inOrd xs l)).length=ps.length):=hgl
      clear hf hgl
      have hB0:MTo w6 wx.heap.size ps.length f 0:=⟨_,hown,fun j _ hj=>absurd hj (Nat.not_lt_zero _)⟩
      clear hown hgrow
      go_wp2_with fail
      go_loopw [67] (fun i wr=>∃ k:Nat,k≤ps.length∧i = .int .i64 k∧MTo wr wx.heap.size ps.length f k∧wx.heap.size<wr.heap.size∧Below wx.heap.size wx wr) (fun i _=>ps.length - (intOf i).toNat)
      case atStart=>exact ⟨0,Nat.zero_le _,rfl,hB0,(by obtain ⟨xs0,o0,_⟩:=hB0; exact (o0.lt wx.heap.size rfl).2),hb6⟩
      case round =>
       clear hB0 hb6
       obtain ⟨k,hk',rfl,HB,hwx,hb⟩:=hrel
       have hzz:=hb.size
       by_cases hlt:k<ps.length
       ·obtain ⟨b,off,rfl,hbl,⟨ka,kc,c0,sk⟩,ra,rc,c1,zr⟩:=(PT.next hb).elem hlt
        have hal:Below wr.heap.size wr (wr.alloc (.cells #[.slice ka ps[k].1.length kc,.slice ra ps[k].2.length rc] 154)):=(Below.refl _ _).alloc (Nat.le_refl _) _
        have q0:=heap_new wr #[.slice ka ps[k].1.length kc,.slice ra ps[k].2.length rc] 154
        have hpo:=HPk.out ps[k] (by rw [HPs.out]; exact List.getElem_mem hlt)
        have HRo:Hid (ROk cols ps[k].2):=hpo.1
        have hkl:=hpo.2
        have HSk:Hid (SlAt wr ka ps[k].1):=sk
        have HZr:Hid (ZsAt wr ra ps[k].2):=zr
        have ef:f k=(ps[k].1 ++ gs.map fun g=>aggP g ps[k].2,1):=by
         rw [HFn.out]
         simp only [HG.out,HPs.out]
         simp [List.getD,hlt]
        have EF:Hid (f k=(ps[k].1 ++ gs.map fun g=>aggP g ps[k].2,1)):=ef
        have i0':(0:Int)≤(k:Int):=by omega
        have i1:(k:Int)<(ps.length:Int):=by omega
        have hkl8:ps[k].1.length+gs.length≤8:=by omega
        clear ef sk zr hpo hkl
        go_wp2_with fail
        clear c0 c1
        generalize wr.alloc (.cells #[.slice ka ps[k].1.length kc,.slice ra ps[k].2.length rc] 154)=wk at *
        have hCC:∀ W W':World,(W.heap[wr.heap.size]? = some (.cells #[.slice ka ps[k].1.length kc,.slice ra ps[k].2.length rc] 154 (0,0)))→Below W.heap.size W W'→(W'.heap[wr.heap.size]? = some (.cells #[.slice ka ps[k].1.length kc,.slice ra ps[k].2.length rc] 154 (0,0))):=fun W W' h hb=>(hb.block _ (lt_of_heap h)).trans h
        have hd:Below wk.heap.size wk wk.drew:=(Below.refl _ _).drew
        have CW:(wk.drew.heap[wr.heap.size]? = some (.cells #[.slice ka ps[k].1.length kc,.slice ra ps[k].2.length rc] 154 (0,0))):=hCC _ _ q0 hd
        refine wp_region_cls (fun W=>(W.heap[wr.heap.size]? = some (.cells #[.slice ka ps[k].1.length kc,.slice ra ps[k].2.length rc] 154 (0,0)))) (by kernel_rfl) ?_
        refine wpY_take hCC (some 72) (i:=0) (v:=.slice (some ⟨wx.heap.size,0,none⟩) ps.length ps.length) rfl rfl (by kernel_rfl) (by kernel_rfl) (by kernel_rfl) (fun _ _ _ h=>h) (Or.inl ⟨rfl,fun n hn=>?_⟩) CW ?_
        ·go_simp
        simp only [Act.put,pA,pB,pC]
        refine wpY_take hCC (some 73) (i:=1) (v:=.int .i64 (k:Int)) rfl rfl (by kernel_rfl) (by kernel_rfl) (by kernel_rfl) (fun _ _ _ h=>h) (Or.inl ⟨rfl,fun n hn=>?_⟩) CW ?_
        ·go_simp
        simp only [Act.put,pA,pB,pC]
        refine wpY_take hCC (some 74) (i:=2) (v:=.pointer (some ⟨wr.heap.size,0,none⟩)) rfl rfl (by kernel_rfl) (by kernel_rfl) (by kernel_rfl) (fun _ _ _ h=>h) (Or.inl ⟨rfl,fun n hn=>?_⟩) CW ?_
        ·go_simp
        simp only [Act.put,pA,pB,pC]
        refine wpY_take hCC (some 75) (i:=3) (v:=.slice ka ps[k].1.length kc) rfl rfl (by kernel_rfl) (by kernel_rfl) (by kernel_rfl) (fun _ _ _ h=>h) (Or.inl ⟨rfl,fun n hn=>?_⟩) CW ?_
        ·have hc:n.cell? ⟨wr.heap.size,0,none⟩=some (.slice ka ps[k].1.length kc):=cell_of (i:=0) hn rfl
         go_simp
        simp only [Act.put,pA,pB,pC]
        refine wpY_take hCC (some 76) (i:=4) (v:=.func (.func tg) #[] tcb) rfl rfl (by kernel_rfl) (by kernel_rfl) (by kernel_rfl) (fun _ _ _ h=>h) (Or.inl ⟨rfl,fun n hn=>?_⟩) CW ?_
        ·go_simp
        simp only [Act.put,pA,pB,pC]
        refine wpY_take hCC (some 77) (i:=5) (v:=.pointer (some ⟨wr.heap.size,1,none⟩)) rfl rfl (by kernel_rfl) (by kernel_rfl) (by kernel_rfl) (fun _ _ _ h=>h) (Or.inl ⟨rfl,fun n hn=>?_⟩) CW ?_
        ·go_simp
        simp only [Act.put,pA,pB,pC]
        refine wpY_take hCC (some 78) (i:=6) (v:=.slice ra ps[k].2.length rc) rfl rfl (by kernel_rfl) (by kernel_rfl) (by kernel_rfl) (fun _ _ _ h=>h) (Or.inl ⟨rfl,fun n hn=>?_⟩) CW ?_
        ·have hc:n.cell? ⟨wr.heap.size,1,none⟩=some (.slice ra ps[k].2.length rc):=cell_of (i:=1) hn rfl
         go_simp
        simp only [Act.put,pA,pB,pC]
        refine wpY_step (rs:=[7]) (by kernel_rfl) (by simp) ?_
        intro w7 hb7 jj hj
        obtain rfl:jj=7:=by simpa using hj
        clear hj
        have CW7:=hCC _ _ CW hb7
        have D7:=chain hal (chain hd hb7)
        have con:=HD.out ps[k].2 ra rc w7 HRo.out (HZr.out.next D7) (Since.of (chain hSx (chain hb D7)))
        refine wpOp_step rfl (fun K hK=>?_)
        go_simp
        first | (refine con.mono ?_) | (go_at_fn tg; refine con.mono ?_)
        rintro e w8 ⟨rfl,hRN,hb8⟩
        clear con
        have CW8:=hCC _ _ CW7 hb8
        have D8:=chain D7 hb8
        refine hK _ _ ⟨CW8,?_⟩
        clear hK K
        refine wpY_step (rs:=[8]) (by kernel_rfl) (by simp) ?_
        intro w9 hb9 jj hj
        obtain rfl:jj=8:=by simpa using hj
        clear hj
        refine wpOp_step rfl (fun K hK=>?_)
        go_simp
        have CW9:=hCC _ _ CW8 hb9
        have D9:=chain D8 hb9
        have R2:=raw_vals (hRN.1.next hb9)
        have hgm:(gs.map fun g=>aggP g ps[k].2).length=gs.length:=by simp
        rw [hgm] at R2
        have PC:=PairC.new kc gs.length (raw_vals (HSk.out.next D9)) R2 56
        have halA:Below w9.heap.size w9 (w9.alloc (.cells #[.slice ka ps[k].1.length kc,.slice (some ⟨w7.heap.size,0,none⟩) gs.length gs.length] 56)):=(Below.refl _ _).alloc (Nat.le_refl _) _
        have CWA:=hCC _ _ CW9 halA
        have DA:=chain D9 halA
        refine hK _ _ ⟨CWA,?_⟩
        clear hK K R2 hgm hRN
        generalize w9.alloc (.cells #[.slice ka ps[k].1.length kc,.slice (some ⟨w7.heap.size,0,none⟩) gs.length gs.length] 56)=wA at *
        refine wpY_step (rs:=[9]) (by kernel_rfl) (by simp) ?_
        intro wB hbB jj hj
        obtain rfl:jj=9:=by simpa using hj
        clear hj
        refine wpOp_step rfl (fun K hK=>?_)
        go_simp
        have CWB:=hCC _ _ CWA hbB
        have DB:=chain DA hbB
        refine (concatV_at _ _ _ _ _ wB (PC.next hbB) (by omega)).mono ?_
        rintro e wC ⟨vC,rfl,OC,hbC⟩
        rw [← flatV_append] at OC
        obtain ⟨aC,cC,rfl,SC,TC,_⟩:=own_vals OC (by simp)
        have CWC:=hCC _ _ CWB hbC
        have DC:=chain DB hbC
        refine hK _ _ ⟨CWC,?_⟩
        clear hK K OC PC CW7 CW8 CW9 CWA CWB CW
        obtain ⟨rr,err⟩:∃ rr,rr=ps[k].1 ++ gs.map fun g=>aggP g ps[k].2:=⟨_,rfl⟩
        rw [← err] at SC ⊢
        have EFr:Hid (f k=(rr,1)):=by show _=_; rw [err]; exact EF.out
        clear err EF
        refine wpY_take hCC (some 82) (i:=10) (v:=.agg #[.slice aC rr.length cC,.int .i64 1]) rfl rfl (by kernel_rfl) (by kernel_rfl) (by kernel_rfl) (fun _ _ _ h=>h) (Or.inl ⟨rfl,fun n hn=>?_⟩) CWC ?_
        ·go_simp
        simp only [Act.put,pA,pB,pC]
        refine wpY_take hCC (some 83) (i:=11) (v:=.pointer (some ⟨wx.heap.size,k*2,none⟩)) rfl rfl (by kernel_rfl) (by kernel_rfl) (by kernel_rfl) (fun _ _ _ h=>h) (Or.inl ⟨rfl,fun n hn=>?_⟩) CWC ?_
        ·go_simp
        simp only [Act.put,pA,pB,pC]
        refine wpY_step (rs:=[12]) (by kernel_rfl) (by simp) ?_
        intro wD hbD jj hj
        obtain rfl:jj=12:=by simpa using hj
        clear hj
        have CWD:=hCC _ _ CWC hbD
        have DD:=chain DC hbD
        have HBD:=(HB.next DD)
        obtain ⟨⟨u0,u1,d0,d1⟩,f0,f1,hlb⟩:=HBD.cells hlt
        have MS:=HBD.step hlt (a:=aC) (cap:=cC) (by rw [EFr.out]; exact SC.next hbD) (TC.next hbD)
        rw [EFr.out] at MS
        have hne:wr.heap.size≠wx.heap.size:=by omega
        have CWE:(((wD.setCell ⟨wx.heap.size,k*2,none⟩ (.slice aC rr.length cC)).setCell ⟨wx.heap.size,k*2+1,none⟩ (.int .i64 1)).heap[wr.heap.size]? = some (.cells #[.slice ka ps[k].1.length kc,.slice ra ps[k].2.length rc] 154 (0,0))):=(Below.heap_setCell _ _ _ _ hne).trans ((Below.heap_setCell _ _ _ _ hne).trans CWD)
        have BE:Below wx.heap.size wx ((wD.setCell ⟨wx.heap.size,k*2,none⟩ (.slice aC rr.length cC)).setCell ⟨wx.heap.size,k*2+1,none⟩ (.int .i64 1)):=((chain hb DD).setCell (p:=⟨wx.heap.size,k*2,none⟩) (Nat.le_refl _) _).setCell (p:=⟨wx.heap.size,k*2+1,none⟩) (Nat.le_refl _) _
        have zE:wx.heap.size<((wD.setCell ⟨wx.heap.size,k*2,none⟩ (.slice aC rr.length cC)).setCell ⟨wx.heap.size,k*2+1,none⟩ (.int .i64 1)).heap.size:=by simpa [World.setCell] using hlb
        refine wpOp_step rfl (fun K hK=>?_)
        go_simp
        refine hK _ _ ⟨CWE,?_⟩
        clear hK K CWD CWC d0 d1 f0 f1 HBD SC TC
        generalize (wD.setCell ⟨wx.heap.size,k*2,none⟩ (.slice aC rr.length cC)).setCell ⟨wx.heap.size,k*2+1,none⟩ (.int .i64 1)=wE at *
        refine wpY_done (by kernel_rfl) ?_
        intro wF hbF
        have MF:=MS.next hbF
        have BF:=chain BE hbF
        have zF:=hbF.size
        clear MS BE CWE hCC
        go_wp2_with fail
        go_roundw
        case rel=>exact ⟨k+1,by omega,by go_num,MF,by omega,BF⟩
        case measure=>simp [intOf]; omega
       ·have e:k=ps.length:=by omega
        subst e
        have zsm:=HB.done (groupL xs gs (inOrd xs l)) HGl.out.symm (fun j hj=>by rw [HFn.out]; simp [List.getD,hj]) (by rw [HGl.out]; omega)
        have hmem:∀ y ∈ groupL xs gs (inOrd xs l),y.2=1∧y.1.length≤8:=fun y hy=>by
         rw [HG.out] at hy
         obtain ⟨p,hp,rfl⟩:=List.mem_map.1 hy
         have:=(HPk.out p hp).2
         exact ⟨rfl,by simp; omega⟩
        have con:=gathered_at (some ⟨wx.heap.size,0,none⟩) ps.length (groupL xs gs (inOrd xs l)) wr zsm (by rw [HGl.out]; omega) (fun y hy=>by rw [(hmem y hy).1]; rfl) (fun y hy=>(hmem y hy).2)
        rw [HGl.out,← HE.out,← HV.out] at con
        clear zsm HB hmem
        have hAr:=chain hbx hb
        go_wp2_with fail
        refine con.mono ?_
        rintro e w9 ⟨v9,rfl,O9,hb9⟩
        have O9':=O9.mono hAr.size
        obtain ⟨a9,c9,rfl,_⟩:=O9.zs
        clear con O9
        dsimp only
        go_wp2_with fail
        exact bodyPost_ret (v:=.tuple #[.slice a9 fz.length c9,.int .i64 fe]) (by simp [results,Tryz.results97,go_sem]) rfl ⟨_,rfl,O9',chain hAr hb9⟩
   ·have e0:fe=inpE cols l:=by rw [← HF.out]; unfold groupE; rw [if_neg HN8.out,H1.out,H2.out,if_neg (by simp),if_neg (by simp),if_pos h3]
    have e1:fz = []:=by rw [← HZ.out]; unfold groupZ; rw [HF.out,e0,if_neg h3]
    have hne:(inpE cols l != 0)=true:=by simpa using h3
    rw [← e0] at con hne
    have HV:Hid (fz = []):=e1
    clear e0 e1 h3
    dsimp only
    go_wp2_with fail
    refine con.mono ?_
    rintro e w3 ⟨rfl,hb3⟩
    clear con
    dsimp only
    go_wp2_with fail
    exact bodyPost_ret (v:=.tuple #[.slice none 0 0,.int .i64 fe]) (by simp [results,Tryz.results97,go_sem]) rfl ⟨_,rfl,by rw [HV.out]; exact own_nil _ _,chain hA2 hb3⟩
  ·have e0:fe=aggsE cols gs:=by rw [← HF.out]; unfold groupE; rw [if_neg HN8.out,H1.out,if_neg (by simp),if_pos h2]
   have e1:fz = []:=by rw [← HZ.out]; unfold groupZ; rw [HF.out,e0,if_neg h2]
   have hne:(aggsE cols gs != 0)=true:=by simpa using h2
   have HL2:Hid (¬ aggsE cols gs=0):=h2
   rw [← e0] at hne
   have HV:Hid (fz = []):=e1
   have HN:Hid (fe=aggsE cols gs):=e0
   clear e0 e1 h2
   dsimp only
   go_wp2_with fail
   refine con.mono ?_
   rintro e w2 ⟨u2,rfl,hG,hb2⟩
   obtain ⟨_,rfl⟩:¬ aggsE cols gs=0∧u2 = .nilFunc:=by
    rcases hG with ⟨hG,_⟩ | hG
    ·exact absurd hG HL2.out
    ·exact hG
   rw [← HN.out]
   clear con
   dsimp only
   go_wp2_with fail
   exact bodyPost_ret (v:=.tuple #[.slice none 0 0,.int .i64 fe]) (by simp [results,Tryz.results97,go_sem]) rfl ⟨_,rfl,by rw [HV.out]; exact own_nil _ _,chain hb1 hb2⟩
 ·have e0:fe=listE cols xs:=by rw [← HF.out]; unfold groupE; rw [if_neg HN8.out,if_pos h1]
  have e1:fz = []:=by rw [← HZ.out]; unfold groupZ; rw [HF.out,e0,if_neg h1]
  have hne:(listE cols xs != 0)=true:=by simpa using h1
  have HL:Hid (¬ listE cols xs=0):=h1
  rw [← e0] at hne
  have HV:Hid (fz = []):=e1
  have HN:Hid (fe=listE cols xs):=e0
  clear e0 e1 h1
  go_enter Tryz.func97,Tryz.ntmps97
  go_wp2_with fail
  refine con.mono ?_
  rintro e w1 ⟨u,rfl,hL,hb1⟩
  obtain ⟨_,rfl⟩:¬ listE cols xs=0∧u = .nilFunc:=by
   rcases hL with ⟨hL,_⟩ | hL
   ·exact absurd hL HL.out
   ·exact hL
  rw [← HN.out]
  clear con
  go_wp2_with fail
  exact bodyPost_ret (v:=.tuple #[.slice none 0 0,.int .i64 fe]) (by simp [results,Tryz.results97,go_sem]) rfl ⟨_,rfl,by rw [HV.out]; exact own_nil _ _,hb1⟩
end Go.Proofs.YtohjlfhmnmcndaaGreat
