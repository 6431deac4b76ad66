/- Together: IB, IW, IC, ICb, ICc, ICd, ICe, ID, IE. -/
import Derived.Deep.CutBlock
import Derived.Deep.DeepCutAuto
import Derived.Test.YtjebpkhkjkjphaaGreatP14
namespace Go.Proofs.YtjebpkhkjkjphaaGreat
open Go.RowKit Go.Lib Go.Shelf
set_option maxRecDepth 100000
set_option maxHeartbeats 16000000
def gn (c:Int):Prop:=0≤c∧c<16
def mj (ts:List (List Int)) (p:Pl):Prop:=∀ (S:Nat→Prop) (x:Ex) (xa:Option Addr) (xc:Nat) (q:Pw) (o:Nat) (ca:Option Addr) (cc:Nat) (na:Option Addr) (nc:Nat) (w:World),fF gn x→fD ts p→gA S w xa x.ks→kU ts S w p q ca na →
 Calls Tryz.prog 21 #[iU x.k x.v x.c xa x.ks.length xc,cU ts p q o ca cc na nc] w fun e w'=>∃ v,e = .returned v∧aY ts (fu S w) w' v (aT dw ts p x)∧Below w.heap.size w w'
theorem jS (x:Ex) (xa:Option Addr) (xc:Nat) (w:World):Calls Tryz.prog 35 #[iU x.k x.v x.c xa x.ks.length xc] w fun e w'=>e = .returned (.func (.func 61) #[] #[.pointer (some ⟨w.heap.size,0,none⟩)])∧w'.heap[w.heap.size]? = some (.cells (bC x xa xc) 27 (0,0))∧Below w.heap.size w w':=by
 have A:=aa w (.cells (bC x xa xc) 27);have Q:=ak w (bC x xa xc) 27;go_enter Tryz.func35,Tryz.ntmps35;go_upto_region 1 with fail
 generalize w.alloc (.cells (bC x xa xc) 27)=w1 at *;go_wp2
 go_ret;exact ⟨rfl,Q,A⟩
theorem xb (ts:List (List Int)) (S:Nat→Prop) (x:Ex) (xa:Option Addr) (xc:Nat) (b:Nat) (p:Pl) (q:Pw) (o:Nat) (ca:Option Addr) (cc:Nat) (na:Option Addr) (nc:Nat) (w:World) (hs:mj ts p) (hw:fF gn x) (hsh:fD ts p) (hb:w.heap[b]? = some (.cells (bC x xa xc) 27 (0,0))) (hx:gA S w xa x.ks) (hp:kU ts S w p q ca na) :
  Calls Tryz.prog 61 (#[cU ts p q o ca cc na nc] ++ #[.pointer (some ⟨b,0,none⟩)]) w fun e w'=>∃ v,e = .returned v∧aY ts (fu S w) w' v (aT dw ts p x)∧Below w.heap.size w w':=by
 have lb:=ae hb;obtain ⟨cl,hcl⟩:∃ cl,(ag ts p).length=cl:=⟨_,rfl⟩
 have HCL:=aw hcl;obtain ⟨rp,hrp⟩:∃ rp,aT dw ts p x=rp:=⟨_,rfl⟩
 have HRP:=aw hrp;rw [hrp];unfold cU bV;rw [hcl];clear hcl hrp;have A:Below w.heap.size w ((w.alloc (.cells (aL p q o ca cl cc na p.ks.length nc) 50)).alloc (.cells aJ 50)):=(((Md w.heap.size w).alloc (Mc _) (.cells (aL p q o ca cl cc na p.ks.length nc) 50)).alloc (by simp only [Mf]; omega) (.cells aJ 50))
 have Z:w.heap.size+2≤((w.alloc (.cells (aL p q o ca cl cc na p.ks.length nc) 50)).alloc (.cells aJ 50)).heap.size:=by simp only [Mf]; omega
 have Q0:((w.alloc (.cells (aL p q o ca cl cc na p.ks.length nc) 50)).alloc (.cells aJ 50)).heap[w.heap.size]? = some (.cells (aL p q o ca cl cc na p.ks.length nc) 50 (0,0)):=by
  rw [aG _ _ (by simp only [Mf]; omega)];exact aB w (aL p q o ca cl cc na p.ks.length nc) 50 rfl
 have Q1:((w.alloc (.cells (aL p q o ca cl cc na p.ks.length nc) 50)).alloc (.cells aJ 50)).heap[w.heap.size+1]? = some (.cells aJ 50 (0,0)):=by
  exact aB (w.alloc (.cells (aL p q o ca cl cc na p.ks.length nc) 50)) aJ 50 (by simp only [Mf])
 have QB:=(A.block _ lb).trans hb;have con:=hs (Old S w) x xa xc q o ca cc na nc ((w.alloc (.cells (aL p q o ca cl cc na p.ks.length nc) 50)).alloc (.cells aJ 50)) hw hsh ((hx.mono fun b h l=>⟨h,l⟩).next (ah.of A)) ((hp.mono fun b h l=>⟨h,l⟩).next (ah.of A));unfold cU bV at con;rw [HCL.out] at con;clear hs hw hsh hb hx hp;simp only [List.append_toArray,M8,List.nil_append];go_enter Tryz.func61,Tryz.ntmps61;go_upto_region 1 with fail
 generalize ((w.alloc (.cells (aL p q o ca cl cc na p.ks.length nc) 50)).alloc (.cells aJ 50))=w2 at *;obtain ⟨x0,x1,x2,x3,x4,x5⟩:=dV QB;obtain ⟨n0,n1,n2,n3,n4,n5,n6,n7,n8,n9,n10,n11,n12⟩:=aD Q0;go_wp2_with fail
 refine con.mono ?_;clear x0 x1 x2 x3 x4 x5 n0 n1 n2 n3 n4 n5 n6 n7 n8 n9 n10 n11 n12;rintro e w7 ⟨v7,rfl,N7,hb7⟩;clear con;have A7:=chain A hb7;have QR7:=(hb7.block _ (ae Q1)).trans Q1;have lr6:=ae Q1;obtain ⟨q2,o2,ca2,cc2,na2,nc2,rfl,B7⟩:=N7;generalize hF:aT dw ts p x=F at *;obtain ⟨cl2,hcl2⟩:∃ cl2,(ag ts F).length=cl2:=⟨_,rfl⟩
 have HCL2:=aw hcl2;unfold cU bV;rw [hcl2];clear hcl2 hF;obtain ⟨y0,y1,y2,y3,y4,y5,y6,y7,y8,y9,y10,y11,y12⟩:=aD QR7;obtain ⟨yf0,yf1,yf2,yf3,yf4,yf5,yf6,yf7,yf8,yf9,yf10,yf11,yf12⟩:=cT QR7;go_wp2_with fail
 have AP:Below w.heap.size w (dF w7 (w.heap.size+1) F q2 o2 ca2 cl2 cc2 na2 F.ks.length nc2):=(bq (g:=w.heap.size+1) A7 (by omega) _ _ _ _ _ _ _ _ _ _ _ _ _)
 have KP:ah (fu (Old S w) w2) w7 (dF w7 (w.heap.size+1) F q2 o2 ca2 cl2 cc2 na2 F.ks.length nc2):=(bL (g:=w.heap.size+1) (ah.refl _ w7) (cR (by omega) (by omega)) _ _ _ _ _ _ _ _ _ _ _ _ _)
 have QE:(dF w7 (w.heap.size+1) F q2 o2 ca2 cl2 cc2 na2 F.ks.length nc2).heap[w.heap.size+1]? = some (.cells (aL F q2 o2 ca2 cl2 cc2 na2 F.ks.length nc2) 50 (0,0)):=(bI (g:=w.heap.size+1) QR7 _ _ _ _ _ _ _ _ _ _ _ _ _)
 clear y0 yf0 y1 yf1 y2 yf2 y3 yf3 y4 yf4 y5 yf5 y6 yf6 y7 yf7 y8 yf8 y9 yf9 y10 yf10 y11 yf11 y12 yf12;unfold dF at AP KP QE
 generalize (((((((((((((w7.setCell ⟨w.heap.size+1,0,none⟩ (.int .i64 F.k)).setCell ⟨w.heap.size+1,1,none⟩ (.int .i64 F.n)).setCell ⟨w.heap.size+1,2,none⟩ (.int .i64 F.x.k)).setCell ⟨w.heap.size+1,3,none⟩ (.int .i64 F.x.v.1)).setCell ⟨w.heap.size+1,4,none⟩ (.int .i64 F.x.v.2.1)).setCell ⟨w.heap.size+1,5,none⟩ (.string F.x.v.2.2)).setCell ⟨w.heap.size+1,6,none⟩ (.int .i64 F.x.c)).setCell ⟨w.heap.size+1,7,none⟩ (.slice q2.xa F.x.ks.length q2.xc)).setCell ⟨w.heap.size+1,8,none⟩ (.slice q2.sa F.xs.length q2.sc)).setCell ⟨w.heap.size+1,9,none⟩ (.slice q2.ga F.gs.length q2.gc)).setCell ⟨w.heap.size+1,10,none⟩ (.slice q2.ka o2 q2.kc)).setCell ⟨w.heap.size+1,11,none⟩ (.slice ca2 cl2 cc2)).setCell ⟨w.heap.size+1,12,none⟩ (.slice na2 F.ks.length nc2))=w8 at *
 have FIN:aY ts (fu S w) w8 (.agg (aL F q2 o2 ca2 cl2 cc2 na2 F.ks.length nc2)) F:=by
  refine ⟨q2,o2,ca2,cc2,na2,nc2,by unfold cU bV; rw [HCL2.out],(B7.next KP).mono fun b h _=>?_⟩;rcases h with h | h
  ·exact .inl h.1
  ·exact .inr (by have:=A.size; omega)
 obtain ⟨r0,r1,r2,r3,r4,r5,r6,r7,r8,r9,r10,r11,r12⟩:=aD QE;exact Me (v:=.agg (aL F q2 o2 ca2 cl2 cc2 na2 F.ks.length nc2)) (by simp [results,Tryz.results61,go_sem,r0,r1,r2,r3,r4,r5,r6,r7,r8,r9,r10,r11,r12]) rfl ⟨_,rfl,by rw [← HRP.out]; exact FIN,AP⟩
theorem jT (ts:List (List Int)) (S:Nat→Prop) (x:Ex) (xa:Option Addr) (xc:Nat) (b:Nat) (l:List Pl) (w:World) (hs:∀ r ∈ l,mj ts r∧fD ts r) (hw:fF gn x) (hb:w.heap[b]? = some (.cells (bC x xa xc) 27 (0,0))) (hx:gA S w xa x.ks) :
  Lh ts (.func (.func 61) #[] #[.pointer (some ⟨b,0,none⟩)]) (fun r=>aT dw ts r x) l S w :=
 ⟨61,#[.pointer (some ⟨b,0,none⟩)],rfl,enters_of Tryz.func61 (by kernel_rfl) rfl,fun r hr q o ca cc na nc W hW hB=>xb ts S x xa xc b r q o ca cc na nc W (hs r hr).1 hw (hs r hr).2 ((hW.block _ (ae hb)).trans hb) (hx.next (ah.of hW)) hB⟩
mutual
def ln:Pl→Pl
 | .mk k n x xs gs ks=>.mk k (if k=1∨k=13 then n else 0) (if k=2∨4≤k∧k≤7 then lW (fun c=>c) x else AV) (if k=3∨k=12∨k=13 then cQ (fun c=>c) xs else []) (if k=12 then gs.map mB else []) (fV ks)
def fV:List Pl→List Pl
 | []=>[]
 | p :: r=>ln p :: fV r
end
theorem fX:∀ l,fV l=l.map ln
 | []=>by simp [fV]
 | p :: r=>by rw [fV,fX r,Na]
theorem vX (l:List Pl):(fV l).length=l.length:=by rw [fX,MA]
theorem Bz {ks:List Pl} {j:Nat} (h:j<ks.length):fV (ks.take (j+1))=fV (ks.take j) ++ [ln ks[j]]:=by
 rw [fX,fX,Mp h,M7];rfl
mutual
def oK:Pl→Prop
 | .mk k _ x xs gs ks=>(1≤k∧k≤13)∧ks.length≤2∧(k=2∨4≤k∧k≤7→fF gn x)∧(k=3∨k=12∨k=13→xs.length≤100000∧∀ x ∈ xs,fF gn x)∧(k=12→gs.length≤100000∧∀ g ∈ gs,g.1≠1→fF gn g.2)∧E8 ks
def E8:List Pl→Prop
 | []=>True
 | p :: r=>oK p∧E8 r
end
theorem lu:∀ {l:List Pl},E8 l↔∀ p ∈ l,oK p
 | []=>by simp [E8]
 | p :: r=>by rw [E8,lu (l:=r)]; simp
structure LJ (p:Pl):Prop where
 k:1≤p.k∧p.k≤13
 two:p.ks.length≤2
 x:p.k=2∨4≤p.k∧p.k≤7→fF gn p.x
 xs:p.k=3∨p.k=12∨p.k=13→p.xs.length≤100000∧∀ x ∈ p.xs,fF gn x
 gs:p.k=12→p.gs.length≤100000∧∀ g ∈ p.gs,g.1≠1→fF gn g.2
 ks:∀ r ∈ p.ks,oK r
theorem oK.q {p:Pl} (h:oK p):LJ p:=by
 obtain ⟨k,n,x,xs,gs,ks⟩:=p;rw [oK] at h;obtain ⟨h1,h2,h3,h4,h5,h6⟩:=h;exact ⟨h1,h2,h3,h4,h5,lu.1 h6⟩
theorem dQ (p:Pl):(ln p).k=p.k∧(ln p).n=(if p.k=1∨p.k=13 then p.n else 0)∧(ln p).x=(if p.k=2∨4≤p.k∧p.k≤7 then lW (fun c=>c) p.x else AV)∧(ln p).xs=(if p.k=3∨p.k=12∨p.k=13 then cQ (fun c=>c) p.xs else [])∧(ln p).gs=(if p.k=12 then p.gs.map mB else [])∧(ln p).ks=fV p.ks:=by
 obtain ⟨k,n,x,xs,gs,ks⟩:=p;rw [ln];exact ⟨rfl,rfl,rfl,rfl,rfl,rfl⟩
def Iw (ts:List (List Int)) (p:Pl):Prop:=∀ (S:Nat→Prop) (q:Pw) (o:Nat) (ca:Option Addr) (cc:Nat) (na:Option Addr) (nc:Nat) (w:World),oK p→kU ts S w p q ca na →
 Calls Tryz.prog 14 #[cU ts p q o ca cc na nc] w fun e w'=>∃ q',e = .returned (gR (ln p) q')∧mE (fun b=>w.heap.size≤b) w' (ln p) q'∧Below w.heap.size w w'
theorem Kw:(Tryz.prog.info? 31).map (fun i=>(i.zero,i.size,i.bytes))=some (some (.agg eV),11,160):=by kernel_rfl
theorem Il {p:Pl} {q:Pw} {o:Nat}:∀ u ∈ Jk p q o,u.oneCell'=true:=by
 intro u hu;simp only [Jk,Mu,Np,or_false] at hu;rcases hu with rfl | rfl | rfl | rfl | rfl | rfl | rfl | rfl | rfl | rfl | rfl <;> rfl
theorem zq {g:Nat} {T:TypeId} {W:World} {c0 c1 c2 c3 c4 c5 c6 c7 c8 c9 eM:Value} (h:W.heap[g]? = some (.cells #[c0,c1,c2,c3,c4,c5,c6,c7,c8,c9,eM] T (0,0))) (v0 v1 v2 v3 v4 v5:Value):((((((W.setCell ⟨g,2,none⟩ (v0)).setCell ⟨g,3,none⟩ (v1)).setCell ⟨g,4,none⟩ (v2)).setCell ⟨g,5,none⟩ (v3)).setCell ⟨g,6,none⟩ (v4)).setCell ⟨g,7,none⟩ (v5)).heap[g]? = some (.cells #[c0,c1,v0,v1,v2,v3,v4,v5,c8,c9,eM] T (0,0)):=by
 have h1:=Ml _ g 2 _ _ v0 h;have h2:=Ml _ g 3 _ _ v1 h1;have h3:=Ml _ g 4 _ _ v2 h2;have h4:=Ml _ g 5 _ _ v3 h3;have h5:=Ml _ g 6 _ _ v4 h4;exact Ml _ g 7 _ _ v5 h5
abbrev Ko (b:Nat) (rp:Pl) (W:World):Prop:=∃ q3:Pw,W.heap[b+2]? = some (.cells #[.int .i64 rp.k,.int .i64 rp.n,.int .i64 rp.x.k,.int .i64 rp.x.v.1,.int .i64 rp.x.v.2.1,.string rp.x.v.2.2,.int .i64 rp.x.c,.slice q3.xa rp.x.ks.length q3.xc,.slice q3.sa rp.xs.length q3.sc,.slice q3.ga rp.gs.length q3.gc,.slice none 0 0] 31 (0,0))∧gA (fun c=>b+3≤c) W q3.xa rp.x.ks∧gA (fun c=>b+3≤c) W q3.sa rp.xs∧tv (fun c=>b+3≤c) W q3.ga rp.gs
theorem ue (ts:List (List Int)) (p:Pl) (ih:∀ r ∈ p.ks,Iw ts r):Iw ts p:=by
 intro S q o ca cc na nc w hwd hp;obtain ⟨i0,hi,hj0,hj1,hj2⟩:=info_parts Kw;obtain ⟨cl,hcl⟩:∃ cl,(ag ts p).length=cl:=⟨_,rfl⟩
 obtain ⟨rp,hrp⟩:∃ rp,ln p=rp:=⟨_,rfl⟩
 have HRP:=aw hrp;have HWD:Hid (LJ p):=hwd.q;have HP:=aw hp;have IH:=aw ih;have EK:Hid (rp.k=p.k):=by show _=_; rw [← hrp]; exact (dQ p).1
 have EKS:Hid (rp.ks=fV p.ks):=by show _=_; rw [← hrp]; exact (dQ p).2.2.2.2.2
 rw [hrp];unfold cU bV;rw [hcl];clear hcl hrp hwd hp ih
 have A:Below w.heap.size w (((w.alloc (.cells (aL p q o ca cl cc na p.ks.length nc) 50)).alloc (.cells eV 31)).alloc (.cells (Ie p.k) 31)):=((((Md w.heap.size w).alloc (Mc _) (.cells (aL p q o ca cl cc na p.ks.length nc) 50)).alloc (by simp only [Mf]; omega) (.cells eV 31)).alloc (by simp only [Mf]; omega) (.cells (Ie p.k) 31))
 have Z:w.heap.size+3≤(((w.alloc (.cells (aL p q o ca cl cc na p.ks.length nc) 50)).alloc (.cells eV 31)).alloc (.cells (Ie p.k) 31)).heap.size:=by simp only [Mf]; omega
 have Q0:(((w.alloc (.cells (aL p q o ca cl cc na p.ks.length nc) 50)).alloc (.cells eV 31)).alloc (.cells (Ie p.k) 31)).heap[w.heap.size]? = some (.cells (aL p q o ca cl cc na p.ks.length nc) 50 (0,0)):=by
  rw [aG _ _ (by simp only [Mf]; omega),aG _ _ (by simp only [Mf]; omega)];exact aB w (aL p q o ca cl cc na p.ks.length nc) 50 rfl
 have Q1:(((w.alloc (.cells (aL p q o ca cl cc na p.ks.length nc) 50)).alloc (.cells eV 31)).alloc (.cells (Ie p.k) 31)).heap[w.heap.size+1]? = some (.cells eV 31 (0,0)):=by
  rw [aG _ _ (by simp only [Mf]; omega)];exact aB (w.alloc (.cells (aL p q o ca cl cc na p.ks.length nc) 50)) eV 31 (by simp only [Mf])
 have Q2:(((w.alloc (.cells (aL p q o ca cl cc na p.ks.length nc) 50)).alloc (.cells eV 31)).alloc (.cells (Ie p.k) 31)).heap[w.heap.size+2]? = some (.cells (Ie p.k) 31 (0,0)):=by
  exact aB ((w.alloc (.cells (aL p q o ca cl cc na p.ks.length nc) 50)).alloc (.cells eV 31)) (Ie p.k) 31 (by simp only [Mf])
 have hc:p.k=1∨(p.k=2∨4≤p.k∧p.k≤7)∨p.k=3∨p.k=12∨p.k=13∨(8≤p.k∧p.k≤11):=by
  have:=HWD.out.k;omega
 have HCS:=aw hc;clear hc;go_enter Tryz.func14,Tryz.ntmps14;go_upto_region 2 with fail
 generalize (((w.alloc (.cells (aL p q o ca cl cc na p.ks.length nc) 50)).alloc (.cells eV 31)).alloc (.cells (Ie p.k) 31))=w3 at *;obtain ⟨n0,n1,n2,n3,n4,n5,n6,n7,n8,n9,n10,n11,n12⟩:=aD Q0;obtain ⟨o0,o1,o2,o3,o4,o5,o6,o7,o8,o9,o10⟩:=cw Q2;obtain ⟨of0,of1,of2,of3,of4,of5,of6,of7,of8,of9,of10⟩:=nT Q2;have hc:=HCS.out;clear HCS;go_upto_block 0 with fail
 go_cut [] (fun wc=>(Ko w.heap.size rp wc)∧Below w.heap.size w wc∧wc.heap[w.heap.size]? = some (.cells (aL p q o ca cl cc na p.ks.length nc) 50 (0,0))∧wc.heap[w.heap.size+1]? = some (.cells eV 31 (0,0))∧w.heap.size+3≤wc.heap.size)
 case first =>
  rcases hc with hc1 | hc2 | hc3 | hc4 | hc5 | hc6
  all_goals first
   |(have hc:=hc1
     clear hc1;have b1:(p.k == 1)=true:=by simpa using (show p.k=1 by omega)
     have EN:Hid (rp.n=p.n):=by show _=_; rw [← HRP.out,(dQ p).2.1,if_pos (by omega)]
     have EX:Hid (rp.x=AV):=by show _=_; rw [← HRP.out,(dQ p).2.2.1,if_neg (by omega)]
     have ES:Hid (rp.xs = []):=by show _=_; rw [← HRP.out,(dQ p).2.2.2.1,if_neg (by omega)]
     have EG:Hid (rp.gs = []):=by show _=_; rw [← HRP.out,(dQ p).2.2.2.2.1,if_neg (by omega)]
     clear hc;have HS:=Ml w3 (w.heap.size+2) 1 _ _ (.int .i64 p.n) Q2
     have M4:Ko w.heap.size rp (w3.setCell ⟨w.heap.size+2,1,none⟩ (.int .i64 p.n)):=⟨⟨none,0,none,0,none,0,none,0⟩,by rw [EK.out,EN.out,EX.out,ES.out,EG.out]; exact HS,by rw [EX.out]; exact .nil _,by rw [ES.out]; exact .nil _,by rw [EG.out]; exact .inl rfl⟩
     have A4:Below w.heap.size w (w3.setCell ⟨w.heap.size+2,1,none⟩ (.int .i64 p.n)):=A.setCell (p:=⟨w.heap.size+2,1,none⟩) (MT _ _) _;have Q04:(w3.setCell ⟨w.heap.size+2,1,none⟩ (.int .i64 p.n)).heap[w.heap.size]? = some (.cells (aL p q o ca cl cc na p.ks.length nc) 50 (0,0)):=by rw [au _ _ (by omega)]; exact Q0
     have Q14:(w3.setCell ⟨w.heap.size+2,1,none⟩ (.int .i64 p.n)).heap[w.heap.size+1]? = some (.cells eV 31 (0,0)):=by rw [au _ _ (by omega)]; exact Q1
     have z4:w.heap.size+3≤(w3.setCell ⟨w.heap.size+2,1,none⟩ (.int .i64 p.n)).heap.size:=by rw [MR]; exact Z
     go_wp2_with fail
     go_meet
     case rel=>exact ⟨M4,A4,Q04,Q14,z4⟩
     skip)
   |(have hc:=hc2
     clear hc2;have b1:(p.k == 1)=false:=beq_false_of_ne (by omega)
     have EN:Hid (rp.n=0):=by show _=_; rw [← HRP.out,(dQ p).2.1,if_neg (by omega)]
     have EX:Hid (rp.x=lW (fun c=>c) p.x):=by show _=_; rw [← HRP.out,(dQ p).2.2.1,if_pos (by omega)]
     have ES:Hid (rp.xs = []):=by show _=_; rw [← HRP.out,(dQ p).2.2.2.1,if_neg (by omega)]
     have EG:Hid (rp.gs = []):=by show _=_; rw [← HRP.out,(dQ p).2.2.2.2.1,if_neg (by omega)]
     have hw:=HWD.out.x hc;have hbk:(p.k == 2)=true∨((p.k == 2)=false∧(p.k == 4)=true)∨((p.k == 2)=false∧(p.k == 4)=false∧(p.k == 5)=true)∨((p.k == 2)=false∧(p.k == 4)=false∧(p.k == 5)=false∧(p.k == 6)=true)∨((p.k == 2)=false∧(p.k == 4)=false∧(p.k == 5)=false∧(p.k == 6)=false∧(p.k == 7)=true):=by
      simp only [beq_iff_eq,beq_eq_false_iff_ne];omega
     clear hc;have con:=lD (fun c=>c) gn p.x (.func (.func 24) #[] #[]) q.xa q.xc w3 (tR gn _) hw (HP.out.x.next (ah.of A)).ks;obtain ⟨y,hy⟩:∃ y,lW (fun c=>c) p.x=y:=⟨_,rfl⟩
     rw [hy] at con EX;clear hy hw;rcases hbk with b2 | ⟨b2,b4⟩ | ⟨b2,b4,b5⟩ | ⟨b2,b4,b5,b6⟩ | ⟨b2,b4,b5,b6,b7⟩
     all_goals go_wp2_with fail
     all_goals refine con.mono ?_
     all_goals rintro e w5 ⟨ya,yc,rfl,KY,hb5⟩
     all_goals try clear b7
     all_goals try clear b6
     all_goals try clear b5
     all_goals try clear b4
     all_goals (
      clear con b2 b1;clear n0 n1 n2 n3 n4 n5 n6 n7 n8 n9 n10 n11 n12 o0 of0 o1 of1 o2 of2 o3 of3 o4 of4 o5 of5 o6 of6 o7 of7 o8 of8 o9 of9 o10 of10;have Q25:=(hb5.block _ (ae Q2)).trans Q2;have Q05:=(hb5.block _ (ae Q0)).trans Q0;have Q15:=(hb5.block _ (ae Q1)).trans Q1;have A5:=chain A hb5;have z5:=hb5.size;obtain ⟨o0,o1,o2,o3,o4,o5,o6,o7,o8,o9,o10⟩:=cw Q25;obtain ⟨of0,of1,of2,of3,of4,of5,of6,of7,of8,of9,of10⟩:=nT Q25
      have HS:((((((w5.setCell ⟨w.heap.size+2,2,none⟩ (.int .i64 y.k)).setCell ⟨w.heap.size+2,3,none⟩ (.int .i64 y.v.1)).setCell ⟨w.heap.size+2,4,none⟩ (.int .i64 y.v.2.1)).setCell ⟨w.heap.size+2,5,none⟩ (.string y.v.2.2)).setCell ⟨w.heap.size+2,6,none⟩ (.int .i64 y.c)).setCell ⟨w.heap.size+2,7,none⟩ (.slice ya y.ks.length yc)).heap[w.heap.size+2]? = some (.cells #[.int .i64 p.k,.int .i64 0,.int .i64 y.k,.int .i64 y.v.1,.int .i64 y.v.2.1,.string y.v.2.2,.int .i64 y.c,.slice ya y.ks.length yc,.slice none 0 0,.slice none 0 0,.slice none 0 0] 31 (0,0)):=zq Q25 _ _ _ _ _ _
      have KP:ah (fun b=>w.heap.size+3≤b) w5 ((((((w5.setCell ⟨w.heap.size+2,2,none⟩ (.int .i64 y.k)).setCell ⟨w.heap.size+2,3,none⟩ (.int .i64 y.v.1)).setCell ⟨w.heap.size+2,4,none⟩ (.int .i64 y.v.2.1)).setCell ⟨w.heap.size+2,5,none⟩ (.string y.v.2.2)).setCell ⟨w.heap.size+2,6,none⟩ (.int .i64 y.c)).setCell ⟨w.heap.size+2,7,none⟩ (.slice ya y.ks.length yc)):=tp (ah.refl _ _) (by omega) _ _ _ _ _ _
      have M4:Ko w.heap.size rp ((((((w5.setCell ⟨w.heap.size+2,2,none⟩ (.int .i64 y.k)).setCell ⟨w.heap.size+2,3,none⟩ (.int .i64 y.v.1)).setCell ⟨w.heap.size+2,4,none⟩ (.int .i64 y.v.2.1)).setCell ⟨w.heap.size+2,5,none⟩ (.string y.v.2.2)).setCell ⟨w.heap.size+2,6,none⟩ (.int .i64 y.c)).setCell ⟨w.heap.size+2,7,none⟩ (.slice ya y.ks.length yc)):=⟨⟨ya,yc,none,0,none,0,none,0⟩,by rw [EK.out,EN.out,EX.out,ES.out,EG.out]; exact HS,by rw [EX.out]; exact (KY.next (ah.refl _ _)).mono (S':=fun b=>w.heap.size+3≤b) (fun b h _=>by omega) |>.next KP,by rw [ES.out]; exact .nil _,by rw [EG.out]; exact .inl rfl⟩
      have A4:Below w.heap.size w ((((((w5.setCell ⟨w.heap.size+2,2,none⟩ (.int .i64 y.k)).setCell ⟨w.heap.size+2,3,none⟩ (.int .i64 y.v.1)).setCell ⟨w.heap.size+2,4,none⟩ (.int .i64 y.v.2.1)).setCell ⟨w.heap.size+2,5,none⟩ (.string y.v.2.2)).setCell ⟨w.heap.size+2,6,none⟩ (.int .i64 y.c)).setCell ⟨w.heap.size+2,7,none⟩ (.slice ya y.ks.length yc)):=sE A5 (by omega) _ _ _ _ _ _
      have Q04:((((((w5.setCell ⟨w.heap.size+2,2,none⟩ (.int .i64 y.k)).setCell ⟨w.heap.size+2,3,none⟩ (.int .i64 y.v.1)).setCell ⟨w.heap.size+2,4,none⟩ (.int .i64 y.v.2.1)).setCell ⟨w.heap.size+2,5,none⟩ (.string y.v.2.2)).setCell ⟨w.heap.size+2,6,none⟩ (.int .i64 y.c)).setCell ⟨w.heap.size+2,7,none⟩ (.slice ya y.ks.length yc)).heap[w.heap.size]? = some (.cells (aL p q o ca cl cc na p.ks.length nc) 50 (0,0)):=tN Q05 (by omega) _ _ _ _ _ _
      have Q14:((((((w5.setCell ⟨w.heap.size+2,2,none⟩ (.int .i64 y.k)).setCell ⟨w.heap.size+2,3,none⟩ (.int .i64 y.v.1)).setCell ⟨w.heap.size+2,4,none⟩ (.int .i64 y.v.2.1)).setCell ⟨w.heap.size+2,5,none⟩ (.string y.v.2.2)).setCell ⟨w.heap.size+2,6,none⟩ (.int .i64 y.c)).setCell ⟨w.heap.size+2,7,none⟩ (.slice ya y.ks.length yc)).heap[w.heap.size+1]? = some (.cells eV 31 (0,0)):=tN Q15 (by omega) _ _ _ _ _ _
      have z4:w.heap.size+3≤((((((w5.setCell ⟨w.heap.size+2,2,none⟩ (.int .i64 y.k)).setCell ⟨w.heap.size+2,3,none⟩ (.int .i64 y.v.1)).setCell ⟨w.heap.size+2,4,none⟩ (.int .i64 y.v.2.1)).setCell ⟨w.heap.size+2,5,none⟩ (.string y.v.2.2)).setCell ⟨w.heap.size+2,6,none⟩ (.int .i64 y.c)).setCell ⟨w.heap.size+2,7,none⟩ (.slice ya y.ks.length yc)).heap.size:=by rw [Fv]; omega
      go_wp2_with fail
      go_meet
      case rel=>exact ⟨M4,A4,Q04,Q14,z4⟩)
     skip)
   |(have hc:=hc3
     clear hc3;have b1:(p.k == 1)=false:=beq_false_of_ne (by omega)
     have b2:(p.k == 2)=false:=beq_false_of_ne (by omega)
     have b4:(p.k == 4)=false:=beq_false_of_ne (by omega)
     have b5:(p.k == 5)=false:=beq_false_of_ne (by omega)
     have b6:(p.k == 6)=false:=beq_false_of_ne (by omega)
     have b7:(p.k == 7)=false:=beq_false_of_ne (by omega)
     have b3:(p.k == 3)=true:=by simpa using (show p.k=3 by omega)
     have EN:Hid (rp.n=0):=by show _=_; rw [← HRP.out,(dQ p).2.1,if_neg (by omega)]
     have EX:Hid (rp.x=AV):=by show _=_; rw [← HRP.out,(dQ p).2.2.1,if_neg (by omega)]
     have ES:Hid (rp.xs=cQ (fun c=>c) p.xs):=by show _=_; rw [← HRP.out,(dQ p).2.2.2.1,if_pos (by omega)]
     have EG:Hid (rp.gs = []):=by show _=_; rw [← HRP.out,(dQ p).2.2.2.2.1,if_neg (by omega)]
     have hw:=HWD.out.xs (by omega);clear hc;have con:=jW gn p.xs q.sa q.sc w3 (HP.out.xs.next (ah.of A)).ks hw.2 hw.1;clear hw;go_wp2_with fail
     refine con.mono ?_;rintro e w5 ⟨sa,sc,rfl,KY,hb5⟩;clear con;clear n0 n1 n2 n3 n4 n5 n6 n7 n8 n9 n10 n11 n12 o0 of0 o1 of1 o2 of2 o3 of3 o4 of4 o5 of5 o6 of6 o7 of7 o8 of8 o9 of9 o10 of10;have Q25:=(hb5.block _ (ae Q2)).trans Q2;have Q05:=(hb5.block _ (ae Q0)).trans Q0;have Q15:=(hb5.block _ (ae Q1)).trans Q1;have A5:=chain A hb5;have z5:=hb5.size;have o8:w5.cell? ⟨w.heap.size+2,8,none⟩=some (.slice none 0 0):=cell_of (i:=8) Q25 rfl;have of8:w5.frozen? ⟨w.heap.size+2,8,none⟩=false:=Mg w5 (w.heap.size+2) 8 _ _ Q25
     have HS:=Ml w5 (w.heap.size+2) 8 _ _ (.slice sa p.xs.length sc) Q25;have KP:ah (fun b=>w.heap.size+3≤b) w5 (w5.setCell ⟨w.heap.size+2,8,none⟩ (.slice sa p.xs.length sc)):=(ah.refl _ _).set (w.heap.size+2) 8 _ (by omega)
     have M4:Ko w.heap.size rp (w5.setCell ⟨w.heap.size+2,8,none⟩ (.slice sa p.xs.length sc)):=⟨⟨none,0,sa,sc,none,0,none,0⟩,by rw [EK.out,EN.out,EX.out,ES.out,EG.out,dK]; exact HS,by rw [EX.out]; exact .nil _,by rw [ES.out]; exact (KY.mono (S':=fun b=>w.heap.size+3≤b) (fun b h _=>by omega)).next KP,by rw [EG.out]; exact .inl rfl⟩
     have A4:Below w.heap.size w (w5.setCell ⟨w.heap.size+2,8,none⟩ (.slice sa p.xs.length sc)):=A5.setCell (p:=⟨w.heap.size+2,8,none⟩) (MT _ _) _;have Q04:(w5.setCell ⟨w.heap.size+2,8,none⟩ (.slice sa p.xs.length sc)).heap[w.heap.size]? = some (.cells (aL p q o ca cl cc na p.ks.length nc) 50 (0,0)):=by rw [au _ _ (by omega)]; exact Q05
     have Q14:(w5.setCell ⟨w.heap.size+2,8,none⟩ (.slice sa p.xs.length sc)).heap[w.heap.size+1]? = some (.cells eV 31 (0,0)):=by rw [au _ _ (by omega)]; exact Q15
     have z4:w.heap.size+3≤(w5.setCell ⟨w.heap.size+2,8,none⟩ (.slice sa p.xs.length sc)).heap.size:=by rw [MR]; omega
     go_wp2_with fail
     go_meet
     case rel=>exact ⟨M4,A4,Q04,Q14,z4⟩
     skip)
   |(have hc:=hc4
     clear hc4;have b1:(p.k == 1)=false:=beq_false_of_ne (by omega)
     have b2:(p.k == 2)=false:=beq_false_of_ne (by omega)
     have b4:(p.k == 4)=false:=beq_false_of_ne (by omega)
     have b5:(p.k == 5)=false:=beq_false_of_ne (by omega)
     have b6:(p.k == 6)=false:=beq_false_of_ne (by omega)
     have b7:(p.k == 7)=false:=beq_false_of_ne (by omega)
     have b3:(p.k == 3)=false:=beq_false_of_ne (by omega)
     have b12:(p.k == 12)=true:=by simpa using (show p.k=12 by omega)
     have EN:Hid (rp.n=0):=by show _=_; rw [← HRP.out,(dQ p).2.1,if_neg (by omega)]
     have EX:Hid (rp.x=AV):=by show _=_; rw [← HRP.out,(dQ p).2.2.1,if_neg (by omega)]
     have ES:Hid (rp.xs=cQ (fun c=>c) p.xs):=by show _=_; rw [← HRP.out,(dQ p).2.2.2.1,if_pos (by omega)]
     have EG:Hid (rp.gs=p.gs.map mB):=by show _=_; rw [← HRP.out,(dQ p).2.2.2.2.1,if_pos (by omega)]
     have hw:=HWD.out.xs (by omega);have hg:=HWD.out.gs hc;clear hc;go_upto_region 14 with fail
     clear n0 n1 n2 n3 n4 n5 n6 n7 n8 n9 n10 n11 n12 o0 of0 o1 of1 o2 of2 o3 of3 o4 of4 o5 of5 o6 of6 o7 of7 o8 of8 o9 of9 o10 of10;have hCC:∀ W W':World,W.heap[w.heap.size]? = some (.cells (aL p q o ca cl cc na p.ks.length nc) 50 (0,0))→Below W.heap.size W W'→W'.heap[w.heap.size]? = some (.cells (aL p q o ca cl cc na p.ks.length nc) 50 (0,0)):=fun W W' h hb=>(hb.block _ (ae h)).trans h
     have hdr:Below w3.heap.size w3 w3.drew:=(Md _ _).drew;have CW:=hCC _ _ Q0 hdr;refine aH (fun W=>W.heap[w.heap.size]? = some (.cells (aL p q o ca cl cc na p.ks.length nc) 50 (0,0))) (by kernel_rfl) ?_;refine az hCC 39 0 (.pointer (some ⟨w.heap.size,0,none⟩)) (fun n hn=>?_) CW ?_
     ·go_simp
     simp only [pD,pB,pC];refine az hCC 40 1 (.pointer (some ⟨w.heap.size,8,none⟩)) (fun n hn=>?_) CW ?_
     ·go_simp
     simp only [pD,pB,pC];refine az hCC 41 2 (.slice q.sa p.xs.length q.sc) (fun n hn=>?_) CW ?_
     ·have hc:n.cell? ⟨w.heap.size,8,none⟩=some (.slice q.sa p.xs.length q.sc):=cell_of (i:=8) hn rfl;go_simp
     simp only [pD,pB,pC];refine az hCC 43 4 (.pointer (some ⟨w.heap.size,0,none⟩)) (fun n hn=>?_) CW ?_
     ·go_simp
     simp only [pD,pB,pC];refine az hCC 44 5 (.pointer (some ⟨w.heap.size,9,none⟩)) (fun n hn=>?_) CW ?_
     ·go_simp
     simp only [pD,pB,pC];refine az hCC 45 6 (.slice q.ga p.gs.length q.gc) (fun n hn=>?_) CW ?_
     ·have hc:n.cell? ⟨w.heap.size,9,none⟩=some (.slice q.ga p.gs.length q.gc):=cell_of (i:=9) hn rfl;go_simp
     simp only [pD,pB,pC];refine bD 3 ?_;intro w5 hb5
     have D5:=chain hdr hb5;have A5:=chain A D5;have CW5:=hCC _ _ CW hb5;have con:=jW gn p.xs q.sa q.sc w5 (HP.out.xs.next (ah.of A5)).ks hw.2 hw.1;refine wpOp_step rfl (fun K hK=>?_);go_simp;refine con.mono ?_;rintro e w6 ⟨sa,sc,rfl,KY,hb6⟩;have CW6:=hCC _ _ CW5 hb6;have A6:=chain A5 hb6;refine hK _ _ ⟨CW6,?_⟩;clear hK K con CW CW5;refine az hCC 47 8 (.pointer (some ⟨w.heap.size+2,8,none⟩)) (fun n hn=>?_) CW6 ?_
     ·go_simp
     simp only [pD,pB,pC];refine bD 7 ?_;intro w7 hb7
     have CW7:=hCC _ _ CW6 hb7;have A7:=chain A6 hb7;have con:=rM gn p.gs q.ga q.gc w7 (HP.out.gs.next (ah.of A7)).at hg.2 hg.1;refine wpOp_step rfl (fun K hK=>?_);go_simp;refine con.mono ?_;rintro e w8 ⟨ga,gc,rfl,KG,hb8⟩;have CW8:=hCC _ _ CW7 hb8;have A8:=chain A7 hb8;have KY8:=KY.next (ah.of (chain hb7 hb8));refine hK _ _ ⟨CW8,?_⟩;clear hK K con CW6 CW7;refine bD 9 ?_;intro w9 hb9
     have DW:Below w3.heap.size w3 w9:=chain (chain D5 hb6) (chain (chain hb7 hb8) hb9);have Q29:=(DW.block _ (ae Q2)).trans Q2;have Q19:=(DW.block _ (ae Q1)).trans Q1;have CW9:=hCC _ _ CW8 hb9;have A9:=chain A8 hb9;have o8:w9.cell? ⟨w.heap.size+2,8,none⟩=some (.slice none 0 0):=cell_of (i:=8) Q29 rfl;have of8:w9.frozen? ⟨w.heap.size+2,8,none⟩=false:=Mg w9 (w.heap.size+2) 8 _ _ Q29;refine wpOp_step rfl (fun K hK=>?_);go_simp;have H10:=Ml w9 (w.heap.size+2) 8 _ _ (.slice sa p.xs.length sc) Q29
     have C10:(w9.setCell ⟨w.heap.size+2,8,none⟩ (.slice sa p.xs.length sc)).heap[w.heap.size]? = some (.cells (aL p q o ca cl cc na p.ks.length nc) 50 (0,0)):=by rw [au _ _ (by omega)]; exact CW9
     have Q110:(w9.setCell ⟨w.heap.size+2,8,none⟩ (.slice sa p.xs.length sc)).heap[w.heap.size+1]? = some (.cells eV 31 (0,0)):=by rw [au _ _ (by omega)]; exact Q19
     have A10:Below w.heap.size w (w9.setCell ⟨w.heap.size+2,8,none⟩ (.slice sa p.xs.length sc)):=A9.setCell (p:=⟨w.heap.size+2,8,none⟩) (MT _ _) _;have K10:ah (fun b=>w.heap.size+3≤b) w8 (w9.setCell ⟨w.heap.size+2,8,none⟩ (.slice sa p.xs.length sc)):=(ah.of hb9).set (w.heap.size+2) 8 _ (by omega);refine hK _ _ ⟨C10,?_⟩;clear hK K CW8 CW9 o8 of8;generalize (w9.setCell ⟨w.heap.size+2,8,none⟩ (.slice sa p.xs.length sc))=w10 at *
     refine az hCC 48 10 (.pointer (some ⟨w.heap.size+2,9,none⟩)) (fun n hn=>?_) C10 ?_
     ·go_simp
     simp only [pD,pB,pC];refine bD 11 ?_;intro w11 hb11
     have H10:w10.heap[w.heap.size+2]? = some (.cells (Lb p.k sa p.xs.length sc) 31 (0,0)):=H10;have H11:=(hb11.block _ (ae H10)).trans H10;have Q111:=(hb11.block _ (ae Q110)).trans Q110;have C11:=hCC _ _ C10 hb11;have A11:=chain A10 hb11;have o9:w11.cell? ⟨w.heap.size+2,9,none⟩=some (.slice none 0 0):=cell_of (i:=9) H11 rfl;have of9:w11.frozen? ⟨w.heap.size+2,9,none⟩=false:=Mg w11 (w.heap.size+2) 9 _ _ H11
     refine wpOp_step rfl (fun K hK=>?_);go_simp;have H12:=Ml w11 (w.heap.size+2) 9 _ _ (.slice ga p.gs.length gc) H11;have C12:(w11.setCell ⟨w.heap.size+2,9,none⟩ (.slice ga p.gs.length gc)).heap[w.heap.size]? = some (.cells (aL p q o ca cl cc na p.ks.length nc) 50 (0,0)):=by rw [au _ _ (by omega)]; exact C11
     have Q112:(w11.setCell ⟨w.heap.size+2,9,none⟩ (.slice ga p.gs.length gc)).heap[w.heap.size+1]? = some (.cells eV 31 (0,0)):=by rw [au _ _ (by omega)]; exact Q111
     have A12:Below w.heap.size w (w11.setCell ⟨w.heap.size+2,9,none⟩ (.slice ga p.gs.length gc)):=A11.setCell (p:=⟨w.heap.size+2,9,none⟩) (MT _ _) _;have K12:ah (fun b=>w.heap.size+3≤b) w8 (w11.setCell ⟨w.heap.size+2,9,none⟩ (.slice ga p.gs.length gc)):=(K10.trans (ah.of hb11)).set (w.heap.size+2) 9 _ (by omega);refine hK _ _ ⟨C12,?_⟩;clear hK K C10 C11 o9 of9;generalize (w11.setCell ⟨w.heap.size+2,9,none⟩ (.slice ga p.gs.length gc))=w12 at *;refine bo (by kernel_rfl) ?_;intro w4 hb4;have z5:=D5.size;have z6:=hb6.size
     have HS:=(hb4.block _ (ae H12)).trans H12;have Q04:=(hb4.block _ (ae C12)).trans C12;have Q14:=(hb4.block _ (ae Q112)).trans Q112;have A4:=chain A12 hb4;have KF:=K12.trans (ah.of hb4);have z4:w.heap.size+3≤w4.heap.size:=by have:=ae HS; omega
     have z7:=hb7.size
     have M4:Ko w.heap.size rp w4:=⟨⟨none,0,sa,sc,ga,gc,none,0⟩,by rw [EK.out,EN.out,EX.out,ES.out,EG.out,dK,MA]; exact HS,by rw [EX.out]; exact .nil _,by rw [ES.out]; exact (KY8.mono (S':=fun b=>w.heap.size+3≤b) (fun b h _=>by omega)).next KF,by rw [EG.out]; exact (KG.mono (S':=fun b=>w.heap.size+3≤b) (fun b h _=>by omega)).next KF⟩
     go_wp2_with fail
     go_meet
     case rel=>exact ⟨M4,A4,Q04,Q14,z4⟩
     skip)
   |(have hc:=hc5
     clear hc5;have b1:(p.k == 1)=false:=beq_false_of_ne (by omega)
     have b2:(p.k == 2)=false:=beq_false_of_ne (by omega)
     have b4:(p.k == 4)=false:=beq_false_of_ne (by omega)
     have b5:(p.k == 5)=false:=beq_false_of_ne (by omega)
     have b6:(p.k == 6)=false:=beq_false_of_ne (by omega)
     have b7:(p.k == 7)=false:=beq_false_of_ne (by omega)
     have b3:(p.k == 3)=false:=beq_false_of_ne (by omega)
     have b12:(p.k == 12)=false:=beq_false_of_ne (by omega)
     have b13:(p.k == 13)=true:=by simpa using (show p.k=13 by omega)
     have EN:Hid (rp.n=p.n):=by show _=_; rw [← HRP.out,(dQ p).2.1,if_pos (by omega)]
     have EX:Hid (rp.x=AV):=by show _=_; rw [← HRP.out,(dQ p).2.2.1,if_neg (by omega)]
     have ES:Hid (rp.xs=cQ (fun c=>c) p.xs):=by show _=_; rw [← HRP.out,(dQ p).2.2.2.1,if_pos (by omega)]
     have EG:Hid (rp.gs = []):=by show _=_; rw [← HRP.out,(dQ p).2.2.2.2.1,if_neg (by omega)]
     have hw:=HWD.out.xs (by omega);clear hc;go_upto_region 16 with fail
     clear n0 n1 n2 n3 n4 n5 n6 n7 n8 n9 n10 n11 n12 o0 of0 o1 of1 o2 of2 o3 of3 o4 of4 o5 of5 o6 of6 o7 of7 o8 of8 o9 of9 o10 of10;have hCC:∀ W W':World,W.heap[w.heap.size]? = some (.cells (aL p q o ca cl cc na p.ks.length nc) 50 (0,0))→Below W.heap.size W W'→W'.heap[w.heap.size]? = some (.cells (aL p q o ca cl cc na p.ks.length nc) 50 (0,0)):=fun W W' h hb=>(hb.block _ (ae h)).trans h
     have hdr:Below w3.heap.size w3 w3.drew:=(Md _ _).drew;have CW:=hCC _ _ Q0 hdr;refine aH (fun W=>W.heap[w.heap.size]? = some (.cells (aL p q o ca cl cc na p.ks.length nc) 50 (0,0))) (by kernel_rfl) ?_;refine az hCC 51 0 (.pointer (some ⟨w.heap.size,0,none⟩)) (fun n hn=>?_) CW ?_
     ·go_simp
     simp only [pD,pB,pC];refine az hCC 52 1 (.pointer (some ⟨w.heap.size,8,none⟩)) (fun n hn=>?_) CW ?_
     ·go_simp
     simp only [pD,pB,pC];refine az hCC 53 2 (.slice q.sa p.xs.length q.sc) (fun n hn=>?_) CW ?_
     ·have hc:n.cell? ⟨w.heap.size,8,none⟩=some (.slice q.sa p.xs.length q.sc):=cell_of (i:=8) hn rfl;go_simp
     simp only [pD,pB,pC];refine az hCC 55 4 (.pointer (some ⟨w.heap.size,0,none⟩)) (fun n hn=>?_) CW ?_
     ·go_simp
     simp only [pD,pB,pC];refine az hCC 56 5 (.pointer (some ⟨w.heap.size,1,none⟩)) (fun n hn=>?_) CW ?_
     ·go_simp
     simp only [pD,pB,pC];refine az hCC 57 6 (.int .i64 p.n) (fun n hn=>?_) CW ?_
     ·have hc:n.cell? ⟨w.heap.size,1,none⟩=some (.int .i64 p.n):=cell_of (i:=1) hn rfl;go_simp
     simp only [pD,pB,pC];refine bD 3 ?_;intro w5 hb5
     have D5:=chain hdr hb5;have A5:=chain A D5;have CW5:=hCC _ _ CW hb5;have con:=jW gn p.xs q.sa q.sc w5 (HP.out.xs.next (ah.of A5)).ks hw.2 hw.1;refine wpOp_step rfl (fun K hK=>?_);go_simp;refine con.mono ?_;rintro e w6 ⟨sa,sc,rfl,KY,hb6⟩;have CW6:=hCC _ _ CW5 hb6;have A6:=chain A5 hb6;refine hK _ _ ⟨CW6,?_⟩;clear hK K con CW CW5;refine az hCC 58 7 (.pointer (some ⟨w.heap.size+2,8,none⟩)) (fun n hn=>?_) CW6 ?_
     ·go_simp
     simp only [pD,pB,pC];have CW8:=CW6;have A8:=A6;have KY8:=KY;have hb7:Below w6.heap.size w6 w6:=Md _ _;have hb8:Below w6.heap.size w6 w6:=Md _ _;clear CW6;refine bD 8 ?_;intro w9 hb9
     have DW:Below w3.heap.size w3 w9:=chain (chain D5 hb6) (chain (chain hb7 hb8) hb9);have Q29:=(DW.block _ (ae Q2)).trans Q2;have Q19:=(DW.block _ (ae Q1)).trans Q1;have CW9:=hCC _ _ CW8 hb9;have A9:=chain A8 hb9;have o8:w9.cell? ⟨w.heap.size+2,8,none⟩=some (.slice none 0 0):=cell_of (i:=8) Q29 rfl;have of8:w9.frozen? ⟨w.heap.size+2,8,none⟩=false:=Mg w9 (w.heap.size+2) 8 _ _ Q29;refine wpOp_step rfl (fun K hK=>?_);go_simp;have H10:=Ml w9 (w.heap.size+2) 8 _ _ (.slice sa p.xs.length sc) Q29
     have C10:(w9.setCell ⟨w.heap.size+2,8,none⟩ (.slice sa p.xs.length sc)).heap[w.heap.size]? = some (.cells (aL p q o ca cl cc na p.ks.length nc) 50 (0,0)):=by rw [au _ _ (by omega)]; exact CW9
     have Q110:(w9.setCell ⟨w.heap.size+2,8,none⟩ (.slice sa p.xs.length sc)).heap[w.heap.size+1]? = some (.cells eV 31 (0,0)):=by rw [au _ _ (by omega)]; exact Q19
     have A10:Below w.heap.size w (w9.setCell ⟨w.heap.size+2,8,none⟩ (.slice sa p.xs.length sc)):=A9.setCell (p:=⟨w.heap.size+2,8,none⟩) (MT _ _) _;have K10:ah (fun b=>w.heap.size+3≤b) w6 (w9.setCell ⟨w.heap.size+2,8,none⟩ (.slice sa p.xs.length sc)):=(ah.of hb9).set (w.heap.size+2) 8 _ (by omega);refine hK _ _ ⟨C10,?_⟩;clear hK K CW8 CW9 o8 of8;generalize (w9.setCell ⟨w.heap.size+2,8,none⟩ (.slice sa p.xs.length sc))=w10 at *
     refine az hCC 59 9 (.pointer (some ⟨w.heap.size+2,1,none⟩)) (fun n hn=>?_) C10 ?_
     ·go_simp
     simp only [pD,pB,pC];refine bD 10 ?_;intro w11 hb11
     have H10:w10.heap[w.heap.size+2]? = some (.cells (Lb p.k sa p.xs.length sc) 31 (0,0)):=H10;have H11:=(hb11.block _ (ae H10)).trans H10;have Q111:=(hb11.block _ (ae Q110)).trans Q110;have C11:=hCC _ _ C10 hb11;have A11:=chain A10 hb11;have o1:w11.cell? ⟨w.heap.size+2,1,none⟩=some (.int .i64 0):=cell_of (i:=1) H11 rfl;have of1:w11.frozen? ⟨w.heap.size+2,1,none⟩=false:=Mg w11 (w.heap.size+2) 1 _ _ H11
     refine wpOp_step rfl (fun K hK=>?_);go_simp;have H12:=Ml w11 (w.heap.size+2) 1 _ _ (.int .i64 p.n) H11;have C12:(w11.setCell ⟨w.heap.size+2,1,none⟩ (.int .i64 p.n)).heap[w.heap.size]? = some (.cells (aL p q o ca cl cc na p.ks.length nc) 50 (0,0)):=by rw [au _ _ (by omega)]; exact C11
     have Q112:(w11.setCell ⟨w.heap.size+2,1,none⟩ (.int .i64 p.n)).heap[w.heap.size+1]? = some (.cells eV 31 (0,0)):=by rw [au _ _ (by omega)]; exact Q111
     have A12:Below w.heap.size w (w11.setCell ⟨w.heap.size+2,1,none⟩ (.int .i64 p.n)):=A11.setCell (p:=⟨w.heap.size+2,1,none⟩) (MT _ _) _;have K12:ah (fun b=>w.heap.size+3≤b) w6 (w11.setCell ⟨w.heap.size+2,1,none⟩ (.int .i64 p.n)):=(K10.trans (ah.of hb11)).set (w.heap.size+2) 1 _ (by omega);refine hK _ _ ⟨C12,?_⟩;clear hK K C10 C11 o1 of1;generalize (w11.setCell ⟨w.heap.size+2,1,none⟩ (.int .i64 p.n))=w12 at *;refine bo (by kernel_rfl) ?_;intro w4 hb4;have z5:=D5.size;have z6:=hb6.size;have HS:=(hb4.block _ (ae H12)).trans H12
     have Q04:=(hb4.block _ (ae C12)).trans C12;have Q14:=(hb4.block _ (ae Q112)).trans Q112;have A4:=chain A12 hb4;have KF:=K12.trans (ah.of hb4);have z4:w.heap.size+3≤w4.heap.size:=by have:=ae HS; omega
     have M4:Ko w.heap.size rp w4:=⟨⟨none,0,sa,sc,none,0,none,0⟩,by rw [EK.out,EN.out,EX.out,ES.out,EG.out,dK]; exact HS,by rw [EX.out]; exact .nil _,by rw [ES.out]; exact (KY8.mono (S':=fun b=>w.heap.size+3≤b) (fun b h _=>by omega)).next KF,by rw [EG.out]; exact .inl rfl⟩
     go_wp2_with fail
     go_meet
     case rel=>exact ⟨M4,A4,Q04,Q14,z4⟩
     skip)
   |(have hc:=hc6
     clear hc6;have b1:(p.k == 1)=false:=beq_false_of_ne (by omega)
     have b2:(p.k == 2)=false:=beq_false_of_ne (by omega)
     have b4:(p.k == 4)=false:=beq_false_of_ne (by omega)
     have b5:(p.k == 5)=false:=beq_false_of_ne (by omega)
     have b6:(p.k == 6)=false:=beq_false_of_ne (by omega)
     have b7:(p.k == 7)=false:=beq_false_of_ne (by omega)
     have b3:(p.k == 3)=false:=beq_false_of_ne (by omega)
     have b12:(p.k == 12)=false:=beq_false_of_ne (by omega)
     have b13:(p.k == 13)=false:=beq_false_of_ne (by omega)
     have EN:Hid (rp.n=0):=by show _=_; rw [← HRP.out,(dQ p).2.1,if_neg (by omega)]
     have EX:Hid (rp.x=AV):=by show _=_; rw [← HRP.out,(dQ p).2.2.1,if_neg (by omega)]
     have ES:Hid (rp.xs = []):=by show _=_; rw [← HRP.out,(dQ p).2.2.2.1,if_neg (by omega)]
     have EG:Hid (rp.gs = []):=by show _=_; rw [← HRP.out,(dQ p).2.2.2.2.1,if_neg (by omega)]
     clear hc
     have M4:Ko w.heap.size rp w3:=⟨⟨none,0,none,0,none,0,none,0⟩,by rw [EK.out,EN.out,EX.out,ES.out,EG.out]; exact Q2,by rw [EX.out]; exact .nil _,by rw [ES.out]; exact .nil _,by rw [EG.out]; exact .inl rfl⟩
     go_wp2_with fail
     go_meet
     case rel=>exact ⟨M4,A,Q0,Q1,Z⟩
     skip)
 case rest =>
  clear hc A Z Q0 Q1 Q2 n0 n1 n2 n3 n4 n5 n6 n7 n8 n9 n10 n11 n12 o0 of0 o1 of1 o2 of2 o3 of3 o4 of4 o5 of5 o6 of6 o7 of7 o8 of8 o9 of9 o10 of10;obtain ⟨M4,A4,Q04,Q14,z4⟩:=hcut;generalize wc=w4 at *;obtain ⟨q3,QO4,FX,FS,FG⟩:=M4;have hx12:w4.cell? ⟨w.heap.size,12,none⟩=some (.slice na p.ks.length nc):=cell_of (i:=12) Q04 rfl;have HFX:Hid (gA (fun b=>w.heap.size+3≤b) w4 q3.xa rp.x.ks∧gA (fun b=>w.heap.size+3≤b) w4 q3.sa rp.xs∧tv (fun b=>w.heap.size+3≤b) w4 q3.ga rp.gs):=⟨FX,FS,FG⟩
  clear FX FS FG;have h2:=HWD.out.two;go_wp2_with fail
  clear hx12 Q04
  go_loopw [63] (fun i wr=>∃ j:Nat,j≤p.ks.length∧i = .int .i64 j∧(∃ s,wr.heap[w.heap.size+2]? = some (.cells (Cm rp.k rp.n rp.x.k rp.x.v.1 rp.x.v.2.1 rp.x.v.2.2 rp.x.c q3.xa rp.x.ks.length q3.xc q3.sa rp.xs.length q3.sc q3.ga rp.gs.length q3.gc s) 31 (0,0))∧cK Ig 31 11 w4.heap.size (fun b=>w4.heap.size≤b) wr s (fV (p.ks.take j)))∧wr.heap[w.heap.size+1]? = some (.cells eV 31 (0,0))∧Below w.heap.size w wr∧ah (fun b=>w.heap.size+3≤b∧b<w4.heap.size) w4 wr) (fun i _=>p.ks.length - (intOf i).toNat)
  case atStart=>exact ⟨0,Mj _,rfl,⟨_,QO4,by rw [List.take_zero,fV]; exact cK.nil _ _ _ _ _ _⟩,Q14,A4,ah.refl _ _⟩
  case round =>
   clear QO4 Q14 A4;obtain ⟨j,hj,rfl,⟨s,QO,OS⟩,QZ,hb,hkw⟩:=hrel;have hzr:=hkw.1;by_cases hlt:j<p.ks.length
   ·obtain ⟨b,off,q1,o1,ca1,cc1,na1,nc1,rfl,hSb,hbl,hAt,hB⟩:=((HP.out.kids.mono (S':=Old S w) fun b h l=>⟨h,l⟩).next (ah.of hb)).elem hlt;obtain ⟨cl1,hcl1⟩:∃ cl1,(ag ts p.ks[j]).length=cl1:=⟨_,rfl⟩
    have HCL1:=aw hcl1;unfold bV at hAt;rw [hcl1] at hAt;clear hcl1;have e0:wr.cell? ⟨b,off+j*13,none⟩=some (.int .i64 p.ks[j].k):=hAt 0 _ rfl;have e1:wr.cell? ⟨b,off+j*13+1,none⟩=some (.int .i64 p.ks[j].n):=hAt 1 _ rfl;have e2:wr.cell? ⟨b,off+j*13+2,none⟩=some (.int .i64 p.ks[j].x.k):=hAt 2 _ rfl;have e3:wr.cell? ⟨b,off+j*13+3,none⟩=some (.int .i64 p.ks[j].x.v.1):=hAt 3 _ rfl;have e4:wr.cell? ⟨b,off+j*13+4,none⟩=some (.int .i64 p.ks[j].x.v.2.1):=hAt 4 _ rfl;have e5:wr.cell? ⟨b,off+j*13+5,none⟩=some (.string p.ks[j].x.v.2.2):=hAt 5 _ rfl
    have e6:wr.cell? ⟨b,off+j*13+6,none⟩=some (.int .i64 p.ks[j].x.c):=hAt 6 _ rfl;have e7:wr.cell? ⟨b,off+j*13+7,none⟩=some (.slice q1.xa p.ks[j].x.ks.length q1.xc):=hAt 7 _ rfl;have e8:wr.cell? ⟨b,off+j*13+8,none⟩=some (.slice q1.sa p.ks[j].xs.length q1.sc):=hAt 8 _ rfl;have e9:wr.cell? ⟨b,off+j*13+9,none⟩=some (.slice q1.ga p.ks[j].gs.length q1.gc):=hAt 9 _ rfl;have e10:wr.cell? ⟨b,off+j*13+10,none⟩=some (.slice q1.ka o1 q1.kc):=hAt 10 _ rfl;have e11:wr.cell? ⟨b,off+j*13+11,none⟩=some (.slice ca1 cl1 cc1):=hAt 11 _ rfl
    have e12:wr.cell? ⟨b,off+j*13+12,none⟩=some (.slice na1 p.ks[j].ks.length nc1):=hAt 12 _ rfl;have hjz:(j:Int)<(p.ks.length:Int):=by omega
    have hal:=aa wr (.cells (xw p.ks[j] q1 q1.ka o1 q1.kc ca1 cl1 cc1 na1 p.ks[j].ks.length nc1) 50)
    have qk:=ak wr (xw p.ks[j] q1 q1.ka o1 q1.kc ca1 cl1 cc1 na1 p.ks[j].ks.length nc1) 50;have HB:=aw hB;have hm:=Mk hlt;have HIH:Hid (Iw ts p.ks[j]∧oK p.ks[j]):=⟨IH.out _ hm,HWD.out.ks _ hm⟩
    have HT:Hid (fV (p.ks.take (j+1))=fV (p.ks.take j) ++ [ln p.ks[j]]):=Bz hlt;have hln:(fV (p.ks.take j)).length=j:=by rw [vX,MH]; omega
    have HLN:=aw hln;have OS':=aw OS;have hnb:=OS.lt;clear hAt hB hm hln OS;go_wp2_with fail
    clear e0 e1 e2 e3 e4 e5 e6 e7 e8 e9 e10 e11 e12;have QOa:=(hal.block _ (by omega)).trans QO;have QZa:=(hal.block _ (by omega)).trans QZ;have za:=hal.size;have lk:=ae qk;generalize wr.alloc (.cells (xw p.ks[j] q1 q1.ka o1 q1.kc ca1 cl1 cc1 na1 p.ks[j].ks.length nc1) 50)=wa at *
    have hCC:∀ W W':World,(W.heap[w.heap.size+2]? = some (.cells (Cm rp.k rp.n rp.x.k rp.x.v.1 rp.x.v.2.1 rp.x.v.2.2 rp.x.c q3.xa rp.x.ks.length q3.xc q3.sa rp.xs.length q3.sc q3.ga rp.gs.length q3.gc s) 31 (0,0))∧W.heap[wr.heap.size]? = some (.cells (xw p.ks[j] q1 q1.ka o1 q1.kc ca1 cl1 cc1 na1 p.ks[j].ks.length nc1) 50 (0,0)))→Below W.heap.size W W'→(W'.heap[w.heap.size+2]? = some (.cells (Cm rp.k rp.n rp.x.k rp.x.v.1 rp.x.v.2.1 rp.x.v.2.2 rp.x.c q3.xa rp.x.ks.length q3.xc q3.sa rp.xs.length q3.sc q3.ga rp.gs.length q3.gc s) 31 (0,0))∧W'.heap[wr.heap.size]? = some (.cells (xw p.ks[j] q1 q1.ka o1 q1.kc ca1 cl1 cc1 na1 p.ks[j].ks.length nc1) 50 (0,0))):=fun W W' h hb=>⟨(hb.block _ (ae h.1)).trans h.1,(hb.block _ (ae h.2)).trans h.2⟩
    have hdr:Below wa.heap.size wa wa.drew:=(Md _ _).drew;have CW:=hCC _ _ ⟨QOa,qk⟩ hdr
    refine i4 (fun W=>W.heap[w.heap.size+2]? = some (.cells (Cm rp.k rp.n rp.x.k rp.x.v.1 rp.x.v.2.1 rp.x.v.2.2 rp.x.c q3.xa rp.x.ks.length q3.xc q3.sa rp.xs.length q3.sc q3.ga rp.gs.length q3.gc s) 31 (0,0))∧W.heap[wr.heap.size]? = some (.cells (xw p.ks[j] q1 q1.ka o1 q1.kc ca1 cl1 cc1 na1 p.ks[j].ks.length nc1) 50 (0,0))) 7 (by kernel_rfl) ?_
    refine bN hCC (some 67) (i:=0) (v:=.pointer (some ⟨w.heap.size+2,10,none⟩)) rfl rfl (by kernel_rfl) (by kernel_rfl) (by kernel_rfl) (by kernel_rfl) (by kernel_rfl) rfl (fun _ _ _ h=>h) (Or.inl ⟨rfl,fun n hn=>?_⟩) (fun _=>CW) ?_
    ·go_simp
    simp only [pD,pB,pC];refine bN hCC (some 68) (i:=1) (v:=s) rfl rfl (by kernel_rfl) (by kernel_rfl) (by kernel_rfl) (by kernel_rfl) (by kernel_rfl) rfl (fun _ _ _ h=>h) (Or.inl ⟨rfl,fun n hn=>?_⟩) (fun _=>CW) ?_
    ·have hcell:n.cell? ⟨w.heap.size+2,10,none⟩=some s:=cell_of (i:=10) hn.1 rfl;go_simp
    simp only [pD,pB,pC];refine bN hCC (some 69) (i:=2) (v:=.agg (xw p.ks[j] q1 q1.ka o1 q1.kc ca1 cl1 cc1 na1 p.ks[j].ks.length nc1)) rfl rfl (by kernel_rfl) (by kernel_rfl) (by kernel_rfl) (by kernel_rfl) (by kernel_rfl) rfl (fun _ _ _ h=>h) (Or.inl ⟨rfl,fun n hn=>?_⟩) (fun _=>CW) ?_
    ·have hc0:n.cell? ⟨wr.heap.size,0,none⟩=some (.int .i64 p.ks[j].k):=cell_of (i:=0) hn.2 rfl;have hc1:n.cell? ⟨wr.heap.size,1,none⟩=some (.int .i64 p.ks[j].n):=cell_of (i:=1) hn.2 rfl;have hc2:n.cell? ⟨wr.heap.size,2,none⟩=some (.int .i64 p.ks[j].x.k):=cell_of (i:=2) hn.2 rfl;have hc3:n.cell? ⟨wr.heap.size,3,none⟩=some (.int .i64 p.ks[j].x.v.1):=cell_of (i:=3) hn.2 rfl;have hc4:n.cell? ⟨wr.heap.size,4,none⟩=some (.int .i64 p.ks[j].x.v.2.1):=cell_of (i:=4) hn.2 rfl;have hc5:n.cell? ⟨wr.heap.size,5,none⟩=some (.string p.ks[j].x.v.2.2):=cell_of (i:=5) hn.2 rfl
     have hc6:n.cell? ⟨wr.heap.size,6,none⟩=some (.int .i64 p.ks[j].x.c):=cell_of (i:=6) hn.2 rfl;have hc7:n.cell? ⟨wr.heap.size,7,none⟩=some (.slice q1.xa p.ks[j].x.ks.length q1.xc):=cell_of (i:=7) hn.2 rfl;have hc8:n.cell? ⟨wr.heap.size,8,none⟩=some (.slice q1.sa p.ks[j].xs.length q1.sc):=cell_of (i:=8) hn.2 rfl;have hc9:n.cell? ⟨wr.heap.size,9,none⟩=some (.slice q1.ga p.ks[j].gs.length q1.gc):=cell_of (i:=9) hn.2 rfl;have hc10:n.cell? ⟨wr.heap.size,10,none⟩=some (.slice q1.ka o1 q1.kc):=cell_of (i:=10) hn.2 rfl
     have hc11:n.cell? ⟨wr.heap.size,11,none⟩=some (.slice ca1 cl1 cc1):=cell_of (i:=11) hn.2 rfl;have hc12:n.cell? ⟨wr.heap.size,12,none⟩=some (.slice na1 p.ks[j].ks.length nc1):=cell_of (i:=12) hn.2 rfl;go_simp
    simp only [pD,pB,pC];refine dg (rs:=[3]) (by kernel_rfl) (by simp) ?_;intro w5 hb5 jj hj;obtain rfl:jj=3:=by simpa using hj
    clear hj;have D5:=chain (chain hal hdr) hb5;have B5:=chain hb D5;have CW5:=hCC _ _ CW hb5;have con:=HIH.out.1 (Old S w) q1 o1 ca1 cc1 na1 nc1 w5 HIH.out.2 (HB.out.next (ah.of D5));obtain ⟨y,hy⟩:∃ y,ln p.ks[j]=y:=⟨_,rfl⟩
    rw [hy] at con;have HY:=aw hy;clear hy;unfold cU bV at con;rw [HCL1.out] at con;refine wpOp_step rfl (fun K hK=>?_);go_simp;refine con.mono ?_;rintro e w6 ⟨yq,rfl,KY,hb6⟩;unfold gR;have D6:=chain D5 hb6;have CW6:=hCC _ _ CW5 hb6;refine hK _ _ ⟨fun _=>CW6,?_⟩;clear hK K con CW5 CW;refine dg (rs:=[4]) (by kernel_rfl) (by simp) ?_;intro w7 hb7 jj hj;obtain rfl:jj=4:=by simpa using hj
    clear hj;refine wpOp_step rfl (fun K hK=>?_);go_simp;have D7:=chain D6 hb7;have CW7:=hCC _ _ CW6 hb7;have hal7:=aa w7 (.cells (mf y yq y.ks.length) 31);have q8:(w7.alloc (.cells (mf y yq y.ks.length) 31)).heap[w7.heap.size]? = some (.cells (Jk y yq y.ks.length).toArray 31 (0,0)):=ak w7 _ _;have D8:=chain D7 hal7;have CW8:=hCC _ _ CW7 hal7;have KY8:=(KY.next (ah.of hb7)).next (ah.of hal7);have b6:=hb6.size;have b7:=hb7.size;refine hK _ _ ⟨fun _=>CW8,?_⟩;clear hK K CW7 CW6 KY
    generalize w7.alloc (.cells (mf y yq y.ks.length) 31)=w8 at *;refine dg (rs:=[5]) (by kernel_rfl) (by simp) ?_;intro w9 hb9 jj hj;obtain rfl:jj=5:=by simpa using hj
    clear hj;have D9:=chain D8 hb9;have CW9:=hCC _ _ CW8 hb9;have KY9:=KY8.next (ah.of hb9);have q9:=(hb9.block _ (ae q8)).trans q8;have d9:=D9.size;have l8:=ae q9;obtain ⟨ys,o9,en9⟩:=OS'.out.next CO D9;have l9:=HLN.out;refine wpOp_step rfl (fun K hK=>?_);refine Eq.mpr (if_pos (by kernel_rfl)) ?_
    refine bW (some 72) rfl (Operand.tmp 68) (Operand.tmp 71) 29 rfl w4.heap.size 31 i0 _ 11 160 Tryz.underlying29 hi hj0 hj1 hj2 rfl (by decide) s _ ys rfl o9 ⟨w7.heap.size,0,none⟩ 1 1 (Jk y yq y.ks.length) rfl rfl (py q9) Il (by unfold maxLen; omega) (by omega) (by omega) ?_;intro v' w10 o10 g10 hd10;have z10:=g10.size;have OS10:cK Ig 31 11 w4.heap.size (fun b=>w4.heap.size≤b) w10 v' (fV (p.ks.take j) ++ [y]):=cK.push CO o9 en9 rfl ⟨yq,rfl,KY9.mono fun b hb hl=>⟨by have:=D5.size; omega,hl,fun e=>by have:=(hnb b e).2; have:=D5.size; omega⟩⟩ o10 g10 hd10
    have QO10:w10.heap[w.heap.size+2]? = some (.cells (Cm rp.k rp.n rp.x.k rp.x.v.1 rp.x.v.2.1 rp.x.v.2.2 rp.x.c q3.xa rp.x.ks.length q3.xc q3.sa rp.xs.length q3.sc q3.ga rp.gs.length q3.gc s) 31 (0,0)):=(g10.block _ (ae CW9.1) (fun e=>by have:=(hnb _ e.symm).1; omega)).trans CW9.1
    have QK10:w10.heap[wr.heap.size]? = some (.cells (xw p.ks[j] q1 q1.ka o1 q1.kc ca1 cl1 cc1 na1 p.ks[j].ks.length nc1) 50 (0,0)):=(g10.block _ (ae CW9.2) (fun e=>by have:=(hnb _ e.symm).2; omega)).trans CW9.2
    have QZ10:w10.heap[w.heap.size+1]? = some (.cells eV 31 (0,0)):=(g10.block _ (by have:=hb.size; omega) (fun e=>by have:=(hnb _ e.symm).1; omega)).trans ((D9.block _ (by omega)).trans QZ);have A10:Below w.heap.size w w10:=(chain hb D9).trans ((Md _ _).grown g10 (by have:=hb.size; omega) (fun q hq=>by have:=(hnb q hq).1; omega));have K10:ah (fun b=>w.heap.size+3≤b∧b<w4.heap.size) w4 w10:=⟨by omega,fun b hb hl=>(g10.block b (by omega) (fun e=>by have:=(hnb b e.symm).1; omega)).trans ((D9.block b (by omega)).trans (hkw.2 b hb hl))⟩
    refine hK _ _ ⟨fun _=>⟨QO10,QK10⟩,?_⟩;clear hK K CW9 CW8 KY8 KY9 o9 en9 o10 q8 q9 g10 D8 D7 D6 hd10;simp only [pD,pB,pC]
    have CW:w10.heap[w.heap.size+2]? = some (.cells (Cm rp.k rp.n rp.x.k rp.x.v.1 rp.x.v.2.1 rp.x.v.2.2 rp.x.c q3.xa rp.x.ks.length q3.xc q3.sa rp.xs.length q3.sc q3.ga rp.gs.length q3.gc s) 31 (0,0))∧w10.heap[wr.heap.size]? = some (.cells (xw p.ks[j] q1 q1.ka o1 q1.kc ca1 cl1 cc1 na1 p.ks[j].ks.length nc1) 50 (0,0)):=⟨QO10,QK10⟩
    refine bN hCC (some 73) (i:=6) (v:=.pointer (some ⟨w.heap.size+2,10,none⟩)) rfl rfl (by kernel_rfl) (by kernel_rfl) (by kernel_rfl) (by kernel_rfl) (by kernel_rfl) rfl (fun _ _ _ h=>h) (Or.inl ⟨rfl,fun n hn=>?_⟩) (fun _=>CW) ?_
    ·go_simp
    simp only [pD,pB,pC];clear CW;refine dg (rs:=[7]) (by kernel_rfl) (by simp) ?_;intro w11 hb11 jj hj;obtain rfl:jj=7:=by simpa using hj
    clear hj;have QO11:=(hb11.block _ (ae QO10)).trans QO10;have QZ11:=(hb11.block _ (ae QZ10)).trans QZ10;have OS11:=OS10.next CO hb11;obtain ⟨va,vc,rfl⟩:=OS11.len;generalize (fV (p.ks.take j) ++ [y]).length=vn at *;have A11:=chain A10 hb11;have K11:=K10.trans (ah.of hb11);have hc5:w11.cell? ⟨w.heap.size+2,10,none⟩=some s:=cell_of (i:=10) QO11 rfl;have hf5:w11.frozen? ⟨w.heap.size+2,10,none⟩=false:=Mg w11 (w.heap.size+2) 10 _ _ QO11;refine wpOp_step rfl (fun K hK=>?_);go_simp
    have QO12:(w11.setCell ⟨w.heap.size+2,10,none⟩ (.slice va vn vc)).heap[w.heap.size+2]? = some (.cells (Lx rp.k rp.n rp.x.k rp.x.v.1 rp.x.v.2.1 rp.x.v.2.2 rp.x.c q3.xa rp.x.ks.length q3.xc q3.sa rp.xs.length q3.sc q3.ga rp.gs.length q3.gc va vn vc) 31 (0,0)):=Ml w11 (w.heap.size+2) 10 _ _ (.slice va vn vc) QO11;have QZ12:(w11.setCell ⟨w.heap.size+2,10,none⟩ (.slice va vn vc)).heap[w.heap.size+1]? = some (.cells eV 31 (0,0)):=by rw [au _ _ (by omega)]; exact QZ11
    have A12:Below w.heap.size w (w11.setCell ⟨w.heap.size+2,10,none⟩ (.slice va vn vc)):=A11.setCell (p:=⟨w.heap.size+2,10,none⟩) (MT _ _) _;have OS12:=OS11.iF CO (fun _ h=>h) ((ah.refl _ _).set (w.heap.size+2) 10 (.slice va vn vc) (by omega));have K12:=K11.set (w.heap.size+2) 10 (.slice va vn vc) (fun h=>by have:=h.1; omega);refine hK _ _ ⟨fun h=>absurd h (by decide),?_⟩;clear hc5 hf5 hK K;generalize w11.setCell ⟨w.heap.size+2,10,none⟩ (.slice va vn vc)=w12 at *;refine mM (by kernel_rfl) ?_;intro w13 hb13;have A13:=chain A12 hb13;have OS13:=OS12.next CO hb13
    have QO13:=(hb13.block _ (ae QO12)).trans QO12;have QZ13:=(hb13.block _ (ae QZ12)).trans QZ12;have K13:=K12.trans (ah.of hb13);clear A12 OS12 QO12 QZ12 hb13 OS11 QO11 QZ11 A11 hb11 OS10 QO10 QZ10 QK10 A10 K10 K11 K12;go_wp2_with fail
    go_roundw
    case rel=>exact ⟨j+1,by omega,by go_num,⟨_,QO13,by rw [HT.out,HY.out]; exact OS13⟩,QZ13,A13,K13⟩
    case measure=>simp [intOf]; omega
   ·have e:j=p.ks.length:=by omega
    subst e;rw [MB] at OS;obtain ⟨sa,sc,rfl,KS⟩:=OS.LR (fun _ h=>h);obtain ⟨o0,o1,o2,o3,o4,o5,o6,o7,o8,o9,o10⟩:=cw QO;obtain ⟨z0,z1,z2,z3,z4,z5,z6,z7,z8,z9,z10⟩:=cw QZ;obtain ⟨zf0,zf1,zf2,zf3,zf4,zf5,zf6,zf7,zf8,zf9,zf10⟩:=nT QZ;go_wp2_with fail
    have AP:Below w.heap.size w (xM wr (w.heap.size+1) (.int .i64 rp.k) (.int .i64 rp.n) (.int .i64 rp.x.k) (.int .i64 rp.x.v.1) (.int .i64 rp.x.v.2.1) (.string rp.x.v.2.2) (.int .i64 rp.x.c) (.slice q3.xa rp.x.ks.length q3.xc) (.slice q3.sa rp.xs.length q3.sc) (.slice q3.ga rp.gs.length q3.gc) (.slice sa (fV p.ks).length sc)):=(lO (g:=w.heap.size+1) hb (by omega) _ _ _ _ _ _ _ _ _ _ _)
    have KP:ah (fun b=>w.heap.size+3≤b) wr (xM wr (w.heap.size+1) (.int .i64 rp.k) (.int .i64 rp.n) (.int .i64 rp.x.k) (.int .i64 rp.x.v.1) (.int .i64 rp.x.v.2.1) (.string rp.x.v.2.2) (.int .i64 rp.x.c) (.slice q3.xa rp.x.ks.length q3.xc) (.slice q3.sa rp.xs.length q3.sc) (.slice q3.ga rp.gs.length q3.gc) (.slice sa (fV p.ks).length sc)):=(nF (g:=w.heap.size+1) (ah.refl _ wr) (by omega) _ _ _ _ _ _ _ _ _ _ _)
    have QE:(xM wr (w.heap.size+1) (.int .i64 rp.k) (.int .i64 rp.n) (.int .i64 rp.x.k) (.int .i64 rp.x.v.1) (.int .i64 rp.x.v.2.1) (.string rp.x.v.2.2) (.int .i64 rp.x.c) (.slice q3.xa rp.x.ks.length q3.xc) (.slice q3.sa rp.xs.length q3.sc) (.slice q3.ga rp.gs.length q3.gc) (.slice sa (fV p.ks).length sc)).heap[w.heap.size+1]? = some (.cells (Lx rp.k rp.n rp.x.k rp.x.v.1 rp.x.v.2.1 rp.x.v.2.2 rp.x.c q3.xa rp.x.ks.length q3.xc q3.sa rp.xs.length q3.sc q3.ga rp.gs.length q3.gc sa (fV p.ks).length sc) 31 (0,0)):=(nr (g:=w.heap.size+1) QZ _ _ _ _ _ _ _ _ _ _ _)
    clear o0 o1 o2 o3 o4 o5 o6 o7 o8 o9 o10 z0 zf0 z1 zf1 z2 zf2 z3 zf3 z4 zf4 z5 zf5 z6 zf6 z7 zf7 z8 zf8 z9 zf9 z10 zf10;unfold xM at AP KP QE
    generalize (((((((((((wr.setCell ⟨w.heap.size+1,0,none⟩ (.int .i64 rp.k)).setCell ⟨w.heap.size+1,1,none⟩ (.int .i64 rp.n)).setCell ⟨w.heap.size+1,2,none⟩ (.int .i64 rp.x.k)).setCell ⟨w.heap.size+1,3,none⟩ (.int .i64 rp.x.v.1)).setCell ⟨w.heap.size+1,4,none⟩ (.int .i64 rp.x.v.2.1)).setCell ⟨w.heap.size+1,5,none⟩ (.string rp.x.v.2.2)).setCell ⟨w.heap.size+1,6,none⟩ (.int .i64 rp.x.c)).setCell ⟨w.heap.size+1,7,none⟩ (.slice q3.xa rp.x.ks.length q3.xc)).setCell ⟨w.heap.size+1,8,none⟩ (.slice q3.sa rp.xs.length q3.sc)).setCell ⟨w.heap.size+1,9,none⟩ (.slice q3.ga rp.gs.length q3.gc)).setCell ⟨w.heap.size+1,10,none⟩ (.slice sa (fV p.ks).length sc))=w8 at *
    have FIN:mE (fun b=>w.heap.size≤b) w8 rp ⟨q3.xa,q3.xc,q3.sa,q3.sc,q3.ga,q3.gc,sa,sc⟩:=by
     have KF:=hkw.trans (KP.mono fun _ h=>h.1);refine ⟨?_,?_,?_,?_⟩
     ·exact ((HFX.out.1.mono (S':=fun b=>w.heap.size+3≤b∧b<w4.heap.size) fun b h l=>⟨h,l⟩).next KF).mono fun b h _=>by omega
     ·exact ((HFX.out.2.1.mono (S':=fun b=>w.heap.size+3≤b∧b<w4.heap.size) fun b h l=>⟨h,l⟩).next KF).mono fun b h _=>by omega
     ·exact ((HFX.out.2.2.mono (S':=fun b=>w.heap.size+3≤b∧b<w4.heap.size) fun b h l=>⟨h,l⟩).next KF).mono fun b h _=>by omega
     ·rw [EKS.out];exact (KS.next (KP.mono fun _ h=>by omega)).mono fun b h _=>by omega
    obtain ⟨r0,r1,r2,r3,r4,r5,r6,r7,r8,r9,r10⟩:=cw QE;exact Me (v:=.agg (Lx rp.k rp.n rp.x.k rp.x.v.1 rp.x.v.2.1 rp.x.v.2.2 rp.x.c q3.xa rp.x.ks.length q3.xc q3.sa rp.xs.length q3.sc q3.ga rp.gs.length q3.gc sa (fV p.ks).length sc)) (by simp [results,Tryz.results14,go_sem,r0,r1,r2,r3,r4,r5,r6,r7,r8,r9,r10]) rfl ⟨⟨q3.xa,q3.xc,q3.sa,q3.sc,q3.ga,q3.gc,sa,sc⟩,by unfold gR dS; rw [EKS.out],FIN,AP⟩
theorem qU (ts:List (List Int)):∀ p,Iw ts p:=Pl.ind fun k n y xs gs ks ih=>ue ts (.mk k n y xs gs ks) ih
theorem iz (x:Ex):eY x=(x.k == 1 && (cls x.v.1 x.v.2.1 == some true)):=by rw [← uR]; rfl
theorem nZ (ok:List Int→Ex→Bool) (ts:List (List Int)) (x:Ex):∀ l,eX ok ts l x=l.map (fun r=>aT ok ts r x)
 | []=>rfl
 | p :: r=>by rw [eX,nZ ok ts x r,Na]
theorem fq {ts:List (List Int)} {p:Pl} (h:fD ts p):∀ r ∈ p.ks,fD ts r:=by
 obtain ⟨k,n,x,xs,gs,ks⟩:=p;exact (bM h).2.1
theorem lE {ts:List (List Int)} {p:Pl} (h:fD ts p):p.ks.length≤2∧(4≤p.k∧p.k≤9→p.ks.length=2):=by
 obtain ⟨k,n,x,xs,gs,ks⟩:=p;obtain ⟨_,_,h | ⟨_,a,b,e,_⟩ | ⟨_,_,a,e⟩⟩:=bM h
 ·obtain ⟨e1,e2,_⟩:=h;subst e2;exact ⟨by simp [Pl.ks],fun e=>by simp only [Pl.k] at e; omega⟩
 ·subst e; simp [Pl.ks]
 ·subst e;refine ⟨by simp [Pl.ks],fun e=>?_⟩;simp only [Pl.k] at e;omega
theorem jL {ts:List (List Int)} {p:Pl} {l:List Pl} (h:l.map (ag ts)=p.ks.map (ag ts)):ag ts (.mk p.k p.n p.x p.xs p.gs l)=ag ts p:=by
 obtain ⟨k,n,x,xs,gs,ks⟩:=p;rw [ag,ag,bB,bB];simp only [Pl.ks] at h;rw [h];rfl
theorem Cp {ts:List (List Int)} {p:Pl} (x:Ex) (h:fD ts p):(p.ks.map fun r=>aT dw ts r x).map (ag ts)=p.ks.map (ag ts):=by
 rw [Nj];exact MN fun r hr=>eS dw r x (fq h r hr)
theorem CR (ts:List (List Int)) (p:Pl):∀ (S:Nat→Prop) (x:Ex) (xa:Option Addr) (xc:Nat) (q:Pw) (o:Nat) (ca:Option Addr) (cc:Nat) (na:Option Addr) (nc:Nat) (w:World),eY x=true→fF gn x→fD ts p→gA S w xa x.ks→kU ts S w p q ca na →
 Calls Tryz.prog 21 #[iU x.k x.v x.c xa x.ks.length xc,cU ts p q o ca cc na nc] w fun e w'=>∃ v,e = .returned v∧aY ts (fu S w) w' v (aT dw ts p x)∧Below w.heap.size w w':=by
 intro S x xa xc q o ca cc na nc w ht hw hsh hx hp;obtain ⟨cl,hcl⟩:∃ cl,(ag ts p).length=cl:=⟨_,rfl⟩
 have HCL:=aw hcl;obtain ⟨rp,hrp⟩:∃ rp,aT dw ts p x=rp:=⟨_,rfl⟩
 have HRP:=aw hrp;rw [hrp];unfold cU bV;rw [hcl];clear hcl hrp;have A:Below w.heap.size w (((w.alloc (.cells (bC x xa xc) 27)).alloc (.cells (aL p q o ca cl cc na p.ks.length nc) 50)).alloc (.cells aJ 50)):=((((Md w.heap.size w).alloc (Mc _) (.cells (bC x xa xc) 27)).alloc (by simp only [Mf]; omega) (.cells (aL p q o ca cl cc na p.ks.length nc) 50)).alloc (by simp only [Mf]; omega) (.cells aJ 50))
 have Z:w.heap.size+3≤(((w.alloc (.cells (bC x xa xc) 27)).alloc (.cells (aL p q o ca cl cc na p.ks.length nc) 50)).alloc (.cells aJ 50)).heap.size:=by simp only [Mf]; omega
 have Q0:(((w.alloc (.cells (bC x xa xc) 27)).alloc (.cells (aL p q o ca cl cc na p.ks.length nc) 50)).alloc (.cells aJ 50)).heap[w.heap.size]? = some (.cells (bC x xa xc) 27 (0,0)):=by
  rw [aG _ _ (by simp only [Mf]; omega),aG _ _ (by simp only [Mf]; omega)];exact aB w (bC x xa xc) 27 rfl
 have Q1:(((w.alloc (.cells (bC x xa xc) 27)).alloc (.cells (aL p q o ca cl cc na p.ks.length nc) 50)).alloc (.cells aJ 50)).heap[w.heap.size+1]? = some (.cells (aL p q o ca cl cc na p.ks.length nc) 50 (0,0)):=by
  rw [aG _ _ (by simp only [Mf]; omega)];exact aB (w.alloc (.cells (bC x xa xc) 27)) (aL p q o ca cl cc na p.ks.length nc) 50 (by simp only [Mf])
 have Q2:(((w.alloc (.cells (bC x xa xc) 27)).alloc (.cells (aL p q o ca cl cc na p.ks.length nc) 50)).alloc (.cells aJ 50)).heap[w.heap.size+2]? = some (.cells aJ 50 (0,0)):=by
  exact aB ((w.alloc (.cells (bC x xa xc) 27)).alloc (.cells (aL p q o ca cl cc na p.ks.length nc) 50)) aJ 50 (by simp only [Mf])
 have HX:=aw hx;have HP:=aw hp;have HW:Hid (fF gn x∧fD ts p):=⟨hw,hsh⟩
 have HT:Hid (eY x=(x.k == 1 && (cls x.v.1 x.v.2.1 == some true))):=iz x;clear hx hp hw hsh;go_enter Tryz.func21,Tryz.ntmps21;go_upto_region 1 with fail
 generalize (((w.alloc (.cells (bC x xa xc) 27)).alloc (.cells (aL p q o ca cl cc na p.ks.length nc) 50)).alloc (.cells aJ 50))=w3 at *;have h1:(x.k == 1)=true:=by
  rw [HT.out,MZ] at ht;exact ht.1
 have h2:(cls x.v.1 x.v.2.1 == some true)=true:=by
  rw [HT.out,MZ] at ht;exact ht.2
 have erp:Hid (rp=p):=by
  show _=_;rw [← HRP.out];obtain ⟨k,n,y,xs,gs,ks⟩:=p;rw [aT,if_pos ht]
 clear ht HT;have x0:w3.cell? ⟨w.heap.size,0,none⟩=some (.int .i64 x.k):=cell_of (i:=0) Q0 rfl;have x1:w3.cell? ⟨w.heap.size,1,none⟩=some (.int .i64 x.v.1):=cell_of (i:=1) Q0 rfl;have x2:w3.cell? ⟨w.heap.size,2,none⟩=some (.int .i64 x.v.2.1):=cell_of (i:=2) Q0 rfl;have x3:w3.cell? ⟨w.heap.size,3,none⟩=some (.string x.v.2.2):=cell_of (i:=3) Q0 rfl;have con:=dW x.v.1 x.v.2.1 x.v.2.2 w3;rw [h2] at con;go_wp2_with fail
 refine con.mono ?_;rintro e w4 ⟨rfl,hb4⟩;clear con x0 x1 x2 x3;have A4:=chain A hb4;have Q14:=(hb4.block _ (ae Q1)).trans Q1;have Q24:=(hb4.block _ (ae Q2)).trans Q2;obtain ⟨n0,n1,n2,n3,n4,n5,n6,n7,n8,n9,n10,n11,n12⟩:=aD Q14;obtain ⟨z0,z1,z2,z3,z4,z5,z6,z7,z8,z9,z10,z11,z12⟩:=aD Q24;obtain ⟨zf0,zf1,zf2,zf3,zf4,zf5,zf6,zf7,zf8,zf9,zf10,zf11,zf12⟩:=cT Q24;go_wp2_with fail
 have AP:Below w.heap.size w (dF w4 (w.heap.size+2) p q o ca cl cc na p.ks.length nc):=(bq (g:=w.heap.size+2) A4 (by omega) _ _ _ _ _ _ _ _ _ _ _ _ _)
 have QE:(dF w4 (w.heap.size+2) p q o ca cl cc na p.ks.length nc).heap[w.heap.size+2]? = some (.cells (aL p q o ca cl cc na p.ks.length nc) 50 (0,0)):=(bI (g:=w.heap.size+2) Q24 _ _ _ _ _ _ _ _ _ _ _ _ _)
 clear n0 n1 n2 n3 n4 n5 n6 n7 n8 n9 n10 n11 n12 z0 zf0 z1 zf1 z2 zf2 z3 zf3 z4 zf4 z5 zf5 z6 zf6 z7 zf7 z8 zf8 z9 zf9 z10 zf10 z11 zf11 z12 zf12;unfold dF at AP QE
 generalize (((((((((((((w4.setCell ⟨w.heap.size+2,0,none⟩ (.int .i64 p.k)).setCell ⟨w.heap.size+2,1,none⟩ (.int .i64 p.n)).setCell ⟨w.heap.size+2,2,none⟩ (.int .i64 p.x.k)).setCell ⟨w.heap.size+2,3,none⟩ (.int .i64 p.x.v.1)).setCell ⟨w.heap.size+2,4,none⟩ (.int .i64 p.x.v.2.1)).setCell ⟨w.heap.size+2,5,none⟩ (.string p.x.v.2.2)).setCell ⟨w.heap.size+2,6,none⟩ (.int .i64 p.x.c)).setCell ⟨w.heap.size+2,7,none⟩ (.slice q.xa p.x.ks.length q.xc)).setCell ⟨w.heap.size+2,8,none⟩ (.slice q.sa p.xs.length q.sc)).setCell ⟨w.heap.size+2,9,none⟩ (.slice q.ga p.gs.length q.gc)).setCell ⟨w.heap.size+2,10,none⟩ (.slice q.ka o q.kc)).setCell ⟨w.heap.size+2,11,none⟩ (.slice ca cl cc)).setCell ⟨w.heap.size+2,12,none⟩ (.slice na p.ks.length nc))=w5 at *
 have FIN:aY ts (fu S w) w5 (.agg (aL p q o ca cl cc na p.ks.length nc)) rp:=by
  rw [erp.out];exact ⟨q,o,ca,cc,na,nc,by unfold cU bV; rw [HCL.out],(HP.out.mono fun b h _=>.inl h).next (ah.of AP)⟩
 obtain ⟨r0,r1,r2,r3,r4,r5,r6,r7,r8,r9,r10,r11,r12⟩:=aD QE;exact Me (v:=.agg (aL p q o ca cl cc na p.ks.length nc)) (by simp [results,Tryz.results21,go_sem,r0,r1,r2,r3,r4,r5,r6,r7,r8,r9,r10,r11,r12]) rfl ⟨_,rfl,FIN,AP⟩
theorem xg (ts:List (List Int)) (p:Pl) (hk:p.k=2):∀ (S:Nat→Prop) (x:Ex) (xa:Option Addr) (xc:Nat) (q:Pw) (o:Nat) (ca:Option Addr) (cc:Nat) (na:Option Addr) (nc:Nat) (w:World),eY x=false→fF gn x→fD ts p→gA S w xa x.ks→kU ts S w p q ca na →
 Calls Tryz.prog 21 #[iU x.k x.v x.c xa x.ks.length xc,cU ts p q o ca cc na nc] w fun e w'=>∃ v,e = .returned v∧aY ts (fu S w) w' v (aT dw ts p x)∧Below w.heap.size w w':=by
 intro S x xa xc q o ca cc na nc w ht hw hsh hx hp;obtain ⟨cl,hcl⟩:∃ cl,(ag ts p).length=cl:=⟨_,rfl⟩
 have HCL:=aw hcl;obtain ⟨rp,hrp⟩:∃ rp,aT dw ts p x=rp:=⟨_,rfl⟩
 have HRP:=aw hrp;rw [hrp];unfold cU bV;rw [hcl];clear hcl hrp;have A:Below w.heap.size w (((w.alloc (.cells (bC x xa xc) 27)).alloc (.cells (aL p q o ca cl cc na p.ks.length nc) 50)).alloc (.cells aJ 50)):=((((Md w.heap.size w).alloc (Mc _) (.cells (bC x xa xc) 27)).alloc (by simp only [Mf]; omega) (.cells (aL p q o ca cl cc na p.ks.length nc) 50)).alloc (by simp only [Mf]; omega) (.cells aJ 50))
 have Z:w.heap.size+3≤(((w.alloc (.cells (bC x xa xc) 27)).alloc (.cells (aL p q o ca cl cc na p.ks.length nc) 50)).alloc (.cells aJ 50)).heap.size:=by simp only [Mf]; omega
 have Q0:(((w.alloc (.cells (bC x xa xc) 27)).alloc (.cells (aL p q o ca cl cc na p.ks.length nc) 50)).alloc (.cells aJ 50)).heap[w.heap.size]? = some (.cells (bC x xa xc) 27 (0,0)):=by
  rw [aG _ _ (by simp only [Mf]; omega),aG _ _ (by simp only [Mf]; omega)];exact aB w (bC x xa xc) 27 rfl
 have Q1:(((w.alloc (.cells (bC x xa xc) 27)).alloc (.cells (aL p q o ca cl cc na p.ks.length nc) 50)).alloc (.cells aJ 50)).heap[w.heap.size+1]? = some (.cells (aL p q o ca cl cc na p.ks.length nc) 50 (0,0)):=by
  rw [aG _ _ (by simp only [Mf]; omega)];exact aB (w.alloc (.cells (bC x xa xc) 27)) (aL p q o ca cl cc na p.ks.length nc) 50 (by simp only [Mf])
 have Q2:(((w.alloc (.cells (bC x xa xc) 27)).alloc (.cells (aL p q o ca cl cc na p.ks.length nc) 50)).alloc (.cells aJ 50)).heap[w.heap.size+2]? = some (.cells aJ 50 (0,0)):=by
  exact aB ((w.alloc (.cells (bC x xa xc) 27)).alloc (.cells (aL p q o ca cl cc na p.ks.length nc) 50)) aJ 50 (by simp only [Mf])
 have HX:=aw hx;have HP:=aw hp;have HW:Hid (fF gn x∧fD ts p):=⟨hw,hsh⟩
 have HT:Hid (eY x=(x.k == 1 && (cls x.v.1 x.v.2.1 == some true))):=iz x;clear hx hp hw hsh;have b2:(p.k == 2)=true:=by simpa using hk
 have ERP:Hid (rp=mG ts x p):=by
  show _=_;rw [← HRP.out];have hsh:=HW.out.2;obtain ⟨k,n,y,xs,gs,ks⟩:=p;simp only [Pl.k] at hk;subst hk;obtain ⟨_,_,⟨e,_⟩ | ⟨e,_⟩ | ⟨_,_,r,rfl⟩⟩:=bM hsh
  ·omega
  ·omega
  rw [aT,if_neg (by rw [ht]; decide),if_pos rfl,mi];unfold mG dw iY;rw [bJ];have e:jY 2 xs gs (ag ts r)=ag ts r:=rfl;rw [e];simp only [decide_eq_true_eq];rfl
 clear hk;go_enter Tryz.func21,Tryz.ntmps21;go_upto_region 1 with fail
 generalize (((w.alloc (.cells (bC x xa xc) 27)).alloc (.cells (aL p q o ca cl cc na p.ks.length nc) 50)).alloc (.cells aJ 50))=w3 at *;have HTF:=aw ht;have x0:w3.cell? ⟨w.heap.size,0,none⟩=some (.int .i64 x.k):=cell_of (i:=0) Q0 rfl;have x1:w3.cell? ⟨w.heap.size,1,none⟩=some (.int .i64 x.v.1):=cell_of (i:=1) Q0 rfl;have x2:w3.cell? ⟨w.heap.size,2,none⟩=some (.int .i64 x.v.2.1):=cell_of (i:=2) Q0 rfl;have x3:w3.cell? ⟨w.heap.size,3,none⟩=some (.string x.v.2.2):=cell_of (i:=3) Q0 rfl;have h0:(x.k == 1)=false∨((x.k == 1)=true∧(cls x.v.1 x.v.2.1 == some true)=false):=by
  rw [HT.out] at ht;cases h1:(x.k == 1) with
  | false=>exact .inl rfl
  | true=>rw [h1,Bool.true_and] at ht; exact .inr ⟨rfl,ht⟩
 clear ht HT;rcases h0 with h1 | ⟨h1,h2⟩
 all_goals first
  |(have con:=dW x.v.1 x.v.2.1 x.v.2.2 w3
    rw [h2] at con;go_wp2_with fail
    refine con.mono ?_;rintro e w4 ⟨rfl,hb4⟩;have A4:=chain A hb4;have Q04:=(hb4.block _ (ae Q0)).trans Q0;have Q14:=(hb4.block _ (ae Q1)).trans Q1;have Q24:=(hb4.block _ (ae Q2)).trans Q2;clear con hb4 A Z Q0 Q1 Q2 h1 h2 x0 x1 x2 x3;dsimp only;go_upto_region 3 with fail)
  |(go_upto_region 3 with fail
    have A4:=A;have Q04:=Q0;have Q14:=Q1;have Q24:=Q2;clear A Z Q0 Q1 Q2 h1 x0 x1 x2 x3;generalize w3=w4 at *)
 all_goals (
  have n0:w4.cell? ⟨w.heap.size+1,0,none⟩=some (.int .i64 p.k):=cell_of (i:=0) Q14 rfl;have hrp:rp=mG ts x p:=ERP.out;clear HRP;have HRP:Hid (mG ts x p=rp):=hrp.symm;clear hrp n0;have con:=oT ts (Old S w) x xa xc p q o ca cc na nc w4 ((HX.out.mono fun b h l=>⟨h,l⟩).next (ah.of A4)) ((HP.out.mono fun b h l=>⟨h,l⟩).next (ah.of A4));unfold cU bV at con;rw [HCL.out] at con;obtain ⟨x0,x1,x2,x3,x4,x5⟩:=dV Q04;obtain ⟨n0,n1,n2,n3,n4,n5,n6,n7,n8,n9,n10,n11,n12⟩:=aD Q14;go_wp2_with fail
  refine con.mono ?_;clear x0 x1 x2 x3 x4 x5 n0 n1 n2 n3 n4 n5 n6 n7 n8 n9 n10 n11 n12;rintro e w7 ⟨v7,rfl,N7,hb7⟩;clear con;have A7:=chain A4 hb7;have QR7:=(hb7.block _ (ae Q24)).trans Q24;have lr6:=ae Q24;obtain ⟨q2,o2,ca2,cc2,na2,nc2,rfl,B7⟩:=N7;generalize hF:mG ts x p=F at *;obtain ⟨cl2,hcl2⟩:∃ cl2,(ag ts F).length=cl2:=⟨_,rfl⟩
  have HCL2:=aw hcl2;unfold cU bV;rw [hcl2];clear hcl2 hF;obtain ⟨y0,y1,y2,y3,y4,y5,y6,y7,y8,y9,y10,y11,y12⟩:=aD QR7;obtain ⟨yf0,yf1,yf2,yf3,yf4,yf5,yf6,yf7,yf8,yf9,yf10,yf11,yf12⟩:=cT QR7;go_wp2_with fail
  have AP:Below w.heap.size w (dF w7 (w.heap.size+2) F q2 o2 ca2 cl2 cc2 na2 F.ks.length nc2):=(bq (g:=w.heap.size+2) A7 (by omega) _ _ _ _ _ _ _ _ _ _ _ _ _)
  have KP:ah (fu (Old S w) w4) w7 (dF w7 (w.heap.size+2) F q2 o2 ca2 cl2 cc2 na2 F.ks.length nc2):=(bL (g:=w.heap.size+2) (ah.refl _ w7) (cR (by omega) (by omega)) _ _ _ _ _ _ _ _ _ _ _ _ _)
  have QE:(dF w7 (w.heap.size+2) F q2 o2 ca2 cl2 cc2 na2 F.ks.length nc2).heap[w.heap.size+2]? = some (.cells (aL F q2 o2 ca2 cl2 cc2 na2 F.ks.length nc2) 50 (0,0)):=(bI (g:=w.heap.size+2) QR7 _ _ _ _ _ _ _ _ _ _ _ _ _)
  clear y0 yf0 y1 yf1 y2 yf2 y3 yf3 y4 yf4 y5 yf5 y6 yf6 y7 yf7 y8 yf8 y9 yf9 y10 yf10 y11 yf11 y12 yf12;unfold dF at AP KP QE
  generalize (((((((((((((w7.setCell ⟨w.heap.size+2,0,none⟩ (.int .i64 F.k)).setCell ⟨w.heap.size+2,1,none⟩ (.int .i64 F.n)).setCell ⟨w.heap.size+2,2,none⟩ (.int .i64 F.x.k)).setCell ⟨w.heap.size+2,3,none⟩ (.int .i64 F.x.v.1)).setCell ⟨w.heap.size+2,4,none⟩ (.int .i64 F.x.v.2.1)).setCell ⟨w.heap.size+2,5,none⟩ (.string F.x.v.2.2)).setCell ⟨w.heap.size+2,6,none⟩ (.int .i64 F.x.c)).setCell ⟨w.heap.size+2,7,none⟩ (.slice q2.xa F.x.ks.length q2.xc)).setCell ⟨w.heap.size+2,8,none⟩ (.slice q2.sa F.xs.length q2.sc)).setCell ⟨w.heap.size+2,9,none⟩ (.slice q2.ga F.gs.length q2.gc)).setCell ⟨w.heap.size+2,10,none⟩ (.slice q2.ka o2 q2.kc)).setCell ⟨w.heap.size+2,11,none⟩ (.slice ca2 cl2 cc2)).setCell ⟨w.heap.size+2,12,none⟩ (.slice na2 F.ks.length nc2))=w8 at *
  have FIN:aY ts (fu S w) w8 (.agg (aL F q2 o2 ca2 cl2 cc2 na2 F.ks.length nc2)) F:=by
   refine ⟨q2,o2,ca2,cc2,na2,nc2,by unfold cU bV; rw [HCL2.out],(B7.next KP).mono fun b h _=>?_⟩;rcases h with h | h
   ·exact .inl h.1
   ·exact .inr (by have:=A4.size; omega)
  obtain ⟨r0,r1,r2,r3,r4,r5,r6,r7,r8,r9,r10,r11,r12⟩:=aD QE;exact Me (v:=.agg (aL F q2 o2 ca2 cl2 cc2 na2 F.ks.length nc2)) (by simp [results,Tryz.results21,go_sem,r0,r1,r2,r3,r4,r5,r6,r7,r8,r9,r10,r11,r12]) rfl ⟨_,rfl,by rw [← HRP.out]; exact FIN,AP⟩
  )
theorem yA (ts:List (List Int)) (p:Pl) (hk:p.k=1∨p.k=3∨p.k=7∨p.k=12∨p.k=13):∀ (S:Nat→Prop) (x:Ex) (xa:Option Addr) (xc:Nat) (q:Pw) (o:Nat) (ca:Option Addr) (cc:Nat) (na:Option Addr) (nc:Nat) (w:World),eY x=false→fF gn x→fD ts p→gA S w xa x.ks→kU ts S w p q ca na →
 Calls Tryz.prog 21 #[iU x.k x.v x.c xa x.ks.length xc,cU ts p q o ca cc na nc] w fun e w'=>∃ v,e = .returned v∧aY ts (fu S w) w' v (aT dw ts p x)∧Below w.heap.size w w':=by
 intro S x xa xc q o ca cc na nc w ht hw hsh hx hp;obtain ⟨cl,hcl⟩:∃ cl,(ag ts p).length=cl:=⟨_,rfl⟩
 have HCL:=aw hcl;obtain ⟨rp,hrp⟩:∃ rp,aT dw ts p x=rp:=⟨_,rfl⟩
 have HRP:=aw hrp;rw [hrp];unfold cU bV;rw [hcl];clear hcl hrp;have A:Below w.heap.size w (((w.alloc (.cells (bC x xa xc) 27)).alloc (.cells (aL p q o ca cl cc na p.ks.length nc) 50)).alloc (.cells aJ 50)):=((((Md w.heap.size w).alloc (Mc _) (.cells (bC x xa xc) 27)).alloc (by simp only [Mf]; omega) (.cells (aL p q o ca cl cc na p.ks.length nc) 50)).alloc (by simp only [Mf]; omega) (.cells aJ 50))
 have Z:w.heap.size+3≤(((w.alloc (.cells (bC x xa xc) 27)).alloc (.cells (aL p q o ca cl cc na p.ks.length nc) 50)).alloc (.cells aJ 50)).heap.size:=by simp only [Mf]; omega
 have Q0:(((w.alloc (.cells (bC x xa xc) 27)).alloc (.cells (aL p q o ca cl cc na p.ks.length nc) 50)).alloc (.cells aJ 50)).heap[w.heap.size]? = some (.cells (bC x xa xc) 27 (0,0)):=by
  rw [aG _ _ (by simp only [Mf]; omega),aG _ _ (by simp only [Mf]; omega)];exact aB w (bC x xa xc) 27 rfl
 have Q1:(((w.alloc (.cells (bC x xa xc) 27)).alloc (.cells (aL p q o ca cl cc na p.ks.length nc) 50)).alloc (.cells aJ 50)).heap[w.heap.size+1]? = some (.cells (aL p q o ca cl cc na p.ks.length nc) 50 (0,0)):=by
  rw [aG _ _ (by simp only [Mf]; omega)];exact aB (w.alloc (.cells (bC x xa xc) 27)) (aL p q o ca cl cc na p.ks.length nc) 50 (by simp only [Mf])
 have Q2:(((w.alloc (.cells (bC x xa xc) 27)).alloc (.cells (aL p q o ca cl cc na p.ks.length nc) 50)).alloc (.cells aJ 50)).heap[w.heap.size+2]? = some (.cells aJ 50 (0,0)):=by
  exact aB ((w.alloc (.cells (bC x xa xc) 27)).alloc (.cells (aL p q o ca cl cc na p.ks.length nc) 50)) aJ 50 (by simp only [Mf])
 have HX:=aw hx;have HP:=aw hp;have HW:Hid (fF gn x∧fD ts p):=⟨hw,hsh⟩
 have HT:Hid (eY x=(x.k == 1 && (cls x.v.1 x.v.2.1 == some true))):=iz x;clear hx hp hw hsh;have b2:(p.k == 2)=false:=beq_false_of_ne (by omega)
 have b8:(p.k == 8)=false:=beq_false_of_ne (by omega)
 have b9:(p.k == 9)=false:=beq_false_of_ne (by omega)
 have b10:(p.k == 10)=false:=beq_false_of_ne (by omega)
 have b11:(p.k == 11)=false:=beq_false_of_ne (by omega)
 have b5:(p.k == 5)=false:=beq_false_of_ne (by omega)
 have b6:(p.k == 6)=false:=beq_false_of_ne (by omega)
 have b4:(p.k == 4)=false:=beq_false_of_ne (by omega)
 have ERP:Hid (rp = .mk 2 0 x [] [] [p]):=by
  show _=_;rw [← HRP.out];obtain ⟨k,n,y,xs,gs,ks⟩:=p;simp only [Pl.k] at hk;rw [aT,if_neg (by rw [ht]; decide),if_neg (by omega),if_neg (by omega),if_neg (by omega),if_neg (by omega)];rfl
 clear hk;go_enter Tryz.func21,Tryz.ntmps21;go_upto_region 1 with fail
 generalize (((w.alloc (.cells (bC x xa xc) 27)).alloc (.cells (aL p q o ca cl cc na p.ks.length nc) 50)).alloc (.cells aJ 50))=w3 at *;have HTF:=aw ht;have x0:w3.cell? ⟨w.heap.size,0,none⟩=some (.int .i64 x.k):=cell_of (i:=0) Q0 rfl;have x1:w3.cell? ⟨w.heap.size,1,none⟩=some (.int .i64 x.v.1):=cell_of (i:=1) Q0 rfl;have x2:w3.cell? ⟨w.heap.size,2,none⟩=some (.int .i64 x.v.2.1):=cell_of (i:=2) Q0 rfl;have x3:w3.cell? ⟨w.heap.size,3,none⟩=some (.string x.v.2.2):=cell_of (i:=3) Q0 rfl;have h0:(x.k == 1)=false∨((x.k == 1)=true∧(cls x.v.1 x.v.2.1 == some true)=false):=by
  rw [HT.out] at ht;cases h1:(x.k == 1) with
  | false=>exact .inl rfl
  | true=>rw [h1,Bool.true_and] at ht; exact .inr ⟨rfl,ht⟩
 clear ht HT;rcases h0 with h1 | ⟨h1,h2⟩
 all_goals first
  |(have con:=dW x.v.1 x.v.2.1 x.v.2.2 w3
    rw [h2] at con;go_wp2_with fail
    refine con.mono ?_;rintro e w4 ⟨rfl,hb4⟩;have A4:=chain A hb4;have Q04:=(hb4.block _ (ae Q0)).trans Q0;have Q14:=(hb4.block _ (ae Q1)).trans Q1;have Q24:=(hb4.block _ (ae Q2)).trans Q2;clear con hb4 A Z Q0 Q1 Q2 h1 h2 x0 x1 x2 x3;dsimp only;go_upto_region 3 with fail)
  |(go_upto_region 3 with fail
    have A4:=A;have Q04:=Q0;have Q14:=Q1;have Q24:=Q2;clear A Z Q0 Q1 Q2 h1 x0 x1 x2 x3;generalize w3=w4 at *)
 all_goals (
  have n0:w4.cell? ⟨w.heap.size+1,0,none⟩=some (.int .i64 p.k):=cell_of (i:=0) Q14 rfl;have hrp:rp=Pl.mk 2 0 x [] [] [p]:=ERP.out;clear HRP;have HRP:Hid (Pl.mk 2 0 x [] [] [p]=rp):=hrp.symm;clear hrp n0;have con:=oX ts (Old S w) x xa xc p q o ca cc na nc w4 ((HX.out.mono fun b h l=>⟨h,l⟩).next (ah.of A4)) ((HP.out.mono fun b h l=>⟨h,l⟩).next (ah.of A4));unfold cU bV at con;rw [HCL.out] at con;obtain ⟨x0,x1,x2,x3,x4,x5⟩:=dV Q04;obtain ⟨n0,n1,n2,n3,n4,n5,n6,n7,n8,n9,n10,n11,n12⟩:=aD Q14;go_wp2_with fail
  refine con.mono ?_;clear x0 x1 x2 x3 x4 x5 n0 n1 n2 n3 n4 n5 n6 n7 n8 n9 n10 n11 n12;rintro e w7 ⟨v7,rfl,N7,hb7⟩;clear con;have A7:=chain A4 hb7;have QR7:=(hb7.block _ (ae Q24)).trans Q24;have lr6:=ae Q24;obtain ⟨q2,o2,ca2,cc2,na2,nc2,rfl,B7⟩:=N7;generalize hF:Pl.mk 2 0 x [] [] [p]=F at *;obtain ⟨cl2,hcl2⟩:∃ cl2,(ag ts F).length=cl2:=⟨_,rfl⟩
  have HCL2:=aw hcl2;unfold cU bV;rw [hcl2];clear hcl2 hF;obtain ⟨y0,y1,y2,y3,y4,y5,y6,y7,y8,y9,y10,y11,y12⟩:=aD QR7;obtain ⟨yf0,yf1,yf2,yf3,yf4,yf5,yf6,yf7,yf8,yf9,yf10,yf11,yf12⟩:=cT QR7;go_wp2_with fail
  have AP:Below w.heap.size w (dF w7 (w.heap.size+2) F q2 o2 ca2 cl2 cc2 na2 F.ks.length nc2):=(bq (g:=w.heap.size+2) A7 (by omega) _ _ _ _ _ _ _ _ _ _ _ _ _)
  have KP:ah (fu (Old S w) w4) w7 (dF w7 (w.heap.size+2) F q2 o2 ca2 cl2 cc2 na2 F.ks.length nc2):=(bL (g:=w.heap.size+2) (ah.refl _ w7) (cR (by omega) (by omega)) _ _ _ _ _ _ _ _ _ _ _ _ _)
  have QE:(dF w7 (w.heap.size+2) F q2 o2 ca2 cl2 cc2 na2 F.ks.length nc2).heap[w.heap.size+2]? = some (.cells (aL F q2 o2 ca2 cl2 cc2 na2 F.ks.length nc2) 50 (0,0)):=(bI (g:=w.heap.size+2) QR7 _ _ _ _ _ _ _ _ _ _ _ _ _)
  clear y0 yf0 y1 yf1 y2 yf2 y3 yf3 y4 yf4 y5 yf5 y6 yf6 y7 yf7 y8 yf8 y9 yf9 y10 yf10 y11 yf11 y12 yf12;unfold dF at AP KP QE
  generalize (((((((((((((w7.setCell ⟨w.heap.size+2,0,none⟩ (.int .i64 F.k)).setCell ⟨w.heap.size+2,1,none⟩ (.int .i64 F.n)).setCell ⟨w.heap.size+2,2,none⟩ (.int .i64 F.x.k)).setCell ⟨w.heap.size+2,3,none⟩ (.int .i64 F.x.v.1)).setCell ⟨w.heap.size+2,4,none⟩ (.int .i64 F.x.v.2.1)).setCell ⟨w.heap.size+2,5,none⟩ (.string F.x.v.2.2)).setCell ⟨w.heap.size+2,6,none⟩ (.int .i64 F.x.c)).setCell ⟨w.heap.size+2,7,none⟩ (.slice q2.xa F.x.ks.length q2.xc)).setCell ⟨w.heap.size+2,8,none⟩ (.slice q2.sa F.xs.length q2.sc)).setCell ⟨w.heap.size+2,9,none⟩ (.slice q2.ga F.gs.length q2.gc)).setCell ⟨w.heap.size+2,10,none⟩ (.slice q2.ka o2 q2.kc)).setCell ⟨w.heap.size+2,11,none⟩ (.slice ca2 cl2 cc2)).setCell ⟨w.heap.size+2,12,none⟩ (.slice na2 F.ks.length nc2))=w8 at *
  have FIN:aY ts (fu S w) w8 (.agg (aL F q2 o2 ca2 cl2 cc2 na2 F.ks.length nc2)) F:=by
   refine ⟨q2,o2,ca2,cc2,na2,nc2,by unfold cU bV; rw [HCL2.out],(B7.next KP).mono fun b h _=>?_⟩;rcases h with h | h
   ·exact .inl h.1
   ·exact .inr (by have:=A4.size; omega)
  obtain ⟨r0,r1,r2,r3,r4,r5,r6,r7,r8,r9,r10,r11,r12⟩:=aD QE;exact Me (v:=.agg (aL F q2 o2 ca2 cl2 cc2 na2 F.ks.length nc2)) (by simp [results,Tryz.results21,go_sem,r0,r1,r2,r3,r4,r5,r6,r7,r8,r9,r10,r11,r12]) rfl ⟨_,rfl,by rw [← HRP.out]; exact FIN,AP⟩
  )
theorem GJ (ts:List (List Int)) (p:Pl) (ih:∀ r ∈ p.ks,mj ts r) (hk:p.k=8∨p.k=9∨p.k=10∨p.k=11):∀ (S:Nat→Prop) (x:Ex) (xa:Option Addr) (xc:Nat) (q:Pw) (o:Nat) (ca:Option Addr) (cc:Nat) (na:Option Addr) (nc:Nat) (w:World),eY x=false→fF gn x→fD ts p→gA S w xa x.ks→kU ts S w p q ca na →
 Calls Tryz.prog 21 #[iU x.k x.v x.c xa x.ks.length xc,cU ts p q o ca cc na nc] w fun e w'=>∃ v,e = .returned v∧aY ts (fu S w) w' v (aT dw ts p x)∧Below w.heap.size w w':=by
 intro S x xa xc q o ca cc na nc w ht hw hsh hx hp;obtain ⟨cl,hcl⟩:∃ cl,(ag ts p).length=cl:=⟨_,rfl⟩
 have HCL:=aw hcl;obtain ⟨rp,hrp⟩:∃ rp,aT dw ts p x=rp:=⟨_,rfl⟩
 have HRP:=aw hrp;rw [hrp];unfold cU bV;rw [hcl];clear hcl hrp;have A:Below w.heap.size w (((w.alloc (.cells (bC x xa xc) 27)).alloc (.cells (aL p q o ca cl cc na p.ks.length nc) 50)).alloc (.cells aJ 50)):=((((Md w.heap.size w).alloc (Mc _) (.cells (bC x xa xc) 27)).alloc (by simp only [Mf]; omega) (.cells (aL p q o ca cl cc na p.ks.length nc) 50)).alloc (by simp only [Mf]; omega) (.cells aJ 50))
 have Z:w.heap.size+3≤(((w.alloc (.cells (bC x xa xc) 27)).alloc (.cells (aL p q o ca cl cc na p.ks.length nc) 50)).alloc (.cells aJ 50)).heap.size:=by simp only [Mf]; omega
 have Q0:(((w.alloc (.cells (bC x xa xc) 27)).alloc (.cells (aL p q o ca cl cc na p.ks.length nc) 50)).alloc (.cells aJ 50)).heap[w.heap.size]? = some (.cells (bC x xa xc) 27 (0,0)):=by
  rw [aG _ _ (by simp only [Mf]; omega),aG _ _ (by simp only [Mf]; omega)];exact aB w (bC x xa xc) 27 rfl
 have Q1:(((w.alloc (.cells (bC x xa xc) 27)).alloc (.cells (aL p q o ca cl cc na p.ks.length nc) 50)).alloc (.cells aJ 50)).heap[w.heap.size+1]? = some (.cells (aL p q o ca cl cc na p.ks.length nc) 50 (0,0)):=by
  rw [aG _ _ (by simp only [Mf]; omega)];exact aB (w.alloc (.cells (bC x xa xc) 27)) (aL p q o ca cl cc na p.ks.length nc) 50 (by simp only [Mf])
 have Q2:(((w.alloc (.cells (bC x xa xc) 27)).alloc (.cells (aL p q o ca cl cc na p.ks.length nc) 50)).alloc (.cells aJ 50)).heap[w.heap.size+2]? = some (.cells aJ 50 (0,0)):=by
  exact aB ((w.alloc (.cells (bC x xa xc) 27)).alloc (.cells (aL p q o ca cl cc na p.ks.length nc) 50)) aJ 50 (by simp only [Mf])
 have HX:=aw hx;have HP:=aw hp;have HW:Hid (fF gn x∧fD ts p):=⟨hw,hsh⟩
 have HT:Hid (eY x=(x.k == 1 && (cls x.v.1 x.v.2.1 == some true))):=iz x;clear hx hp hw hsh;have b2:(p.k == 2)=false:=beq_false_of_ne (by omega)
 have IH:=aw ih;have ERP:Hid (rp=Pl.mk p.k p.n p.x p.xs p.gs (p.ks.map fun r=>aT dw ts r x)):=by
  show _=_;rw [← HRP.out];obtain ⟨k,n,y,xs,gs,ks⟩:=p;simp only [Pl.k] at hk;rw [aT,if_neg (by rw [ht]; decide),if_neg (by omega),if_pos hk,nZ];rfl
 have hbk:(p.k == 8)=true∨((p.k == 8)=false∧(p.k == 9)=true)∨((p.k == 8)=false∧(p.k == 9)=false∧(p.k == 10)=true)∨((p.k == 8)=false∧(p.k == 9)=false∧(p.k == 10)=false∧(p.k == 11)=true):=by
  simp only [beq_iff_eq,beq_eq_false_iff_ne];omega
 clear hk ih;go_enter Tryz.func21,Tryz.ntmps21;go_upto_region 1 with fail
 generalize (((w.alloc (.cells (bC x xa xc) 27)).alloc (.cells (aL p q o ca cl cc na p.ks.length nc) 50)).alloc (.cells aJ 50))=w3 at *;have HTF:=aw ht;have x0:w3.cell? ⟨w.heap.size,0,none⟩=some (.int .i64 x.k):=cell_of (i:=0) Q0 rfl;have x1:w3.cell? ⟨w.heap.size,1,none⟩=some (.int .i64 x.v.1):=cell_of (i:=1) Q0 rfl;have x2:w3.cell? ⟨w.heap.size,2,none⟩=some (.int .i64 x.v.2.1):=cell_of (i:=2) Q0 rfl;have x3:w3.cell? ⟨w.heap.size,3,none⟩=some (.string x.v.2.2):=cell_of (i:=3) Q0 rfl;have h0:(x.k == 1)=false∨((x.k == 1)=true∧(cls x.v.1 x.v.2.1 == some true)=false):=by
  rw [HT.out] at ht;cases h1:(x.k == 1) with
  | false=>exact .inl rfl
  | true=>rw [h1,Bool.true_and] at ht; exact .inr ⟨rfl,ht⟩
 clear ht HT;rcases h0 with h1 | ⟨h1,h2⟩
 all_goals first
  |(have con:=dW x.v.1 x.v.2.1 x.v.2.2 w3
    rw [h2] at con;go_wp2_with fail
    refine con.mono ?_;rintro e w4 ⟨rfl,hb4⟩;have A4:=chain A hb4;have Q04:=(hb4.block _ (ae Q0)).trans Q0;have Q14:=(hb4.block _ (ae Q1)).trans Q1;have Q24:=(hb4.block _ (ae Q2)).trans Q2;clear con hb4 A Z Q0 Q1 Q2 h1 h2 x0 x1 x2 x3;dsimp only;go_upto_region 3 with fail)
  |(go_upto_region 3 with fail
    have A4:=A;have Q04:=Q0;have Q14:=Q1;have Q24:=Q2;clear A Z Q0 Q1 Q2 h1 x0 x1 x2 x3;generalize w3=w4 at *)
 all_goals (
  have n0:w4.cell? ⟨w.heap.size+1,0,none⟩=some (.int .i64 p.k):=cell_of (i:=0) Q14 rfl;have hrp:rp=Pl.mk p.k p.n p.x p.xs p.gs (p.ks.map fun r=>aT dw ts r x):=ERP.out;clear HRP;have HRP:Hid (Pl.mk p.k p.n p.x p.xs p.gs (p.ks.map fun r=>aT dw ts r x)=rp):=hrp.symm;clear hrp;rcases hbk with b8 | ⟨b8,b9⟩ | ⟨b8,b9,b10⟩ | ⟨b8,b9,b10,b11⟩
  all_goals go_upto_region 10 with fail
  all_goals clear n0
  all_goals try clear b8
  all_goals try clear b9
  all_goals try clear b10
  all_goals try clear b11
  all_goals (
   have hCC:∀ W W':World,(W.heap[w.heap.size]? = some (.cells (bC x xa xc) 27 (0,0))∧W.heap[w.heap.size+1]? = some (.cells (aL p q o ca cl cc na p.ks.length nc) 50 (0,0)))→Below W.heap.size W W'→(W'.heap[w.heap.size]? = some (.cells (bC x xa xc) 27 (0,0))∧W'.heap[w.heap.size+1]? = some (.cells (aL p q o ca cl cc na p.ks.length nc) 50 (0,0))):=fun W W' h hb=>⟨(hb.block _ (ae h.1)).trans h.1,(hb.block _ (ae h.2)).trans h.2⟩
   have hdr:Below w4.heap.size w4 w4.drew:=(Md _ _).drew;have CW:=hCC _ _ ⟨Q04,Q14⟩ hdr;refine aH (fun W=>W.heap[w.heap.size]? = some (.cells (bC x xa xc) 27 (0,0))∧W.heap[w.heap.size+1]? = some (.cells (aL p q o ca cl cc na p.ks.length nc) 50 (0,0))) (by kernel_rfl) ?_;refine az hCC 27 0 (.agg (aL p q o ca cl cc na p.ks.length nc)) (fun n hn=>?_) CW ?_
   ·have hc0:n.cell? ⟨w.heap.size+1,0,none⟩=some (.int .i64 p.k):=cell_of (i:=0) hn.2 rfl;have hc1:n.cell? ⟨w.heap.size+1,1,none⟩=some (.int .i64 p.n):=cell_of (i:=1) hn.2 rfl;have hc2:n.cell? ⟨w.heap.size+1,2,none⟩=some (.int .i64 p.x.k):=cell_of (i:=2) hn.2 rfl;have hc3:n.cell? ⟨w.heap.size+1,3,none⟩=some (.int .i64 p.x.v.1):=cell_of (i:=3) hn.2 rfl;have hc4:n.cell? ⟨w.heap.size+1,4,none⟩=some (.int .i64 p.x.v.2.1):=cell_of (i:=4) hn.2 rfl;have hc5:n.cell? ⟨w.heap.size+1,5,none⟩=some (.string p.x.v.2.2):=cell_of (i:=5) hn.2 rfl
    have hc6:n.cell? ⟨w.heap.size+1,6,none⟩=some (.int .i64 p.x.c):=cell_of (i:=6) hn.2 rfl;have hc7:n.cell? ⟨w.heap.size+1,7,none⟩=some (.slice q.xa p.x.ks.length q.xc):=cell_of (i:=7) hn.2 rfl;have hc8:n.cell? ⟨w.heap.size+1,8,none⟩=some (.slice q.sa p.xs.length q.sc):=cell_of (i:=8) hn.2 rfl;have hc9:n.cell? ⟨w.heap.size+1,9,none⟩=some (.slice q.ga p.gs.length q.gc):=cell_of (i:=9) hn.2 rfl;have hc10:n.cell? ⟨w.heap.size+1,10,none⟩=some (.slice q.ka o q.kc):=cell_of (i:=10) hn.2 rfl;have hc11:n.cell? ⟨w.heap.size+1,11,none⟩=some (.slice ca cl cc):=cell_of (i:=11) hn.2 rfl
    have hc12:n.cell? ⟨w.heap.size+1,12,none⟩=some (.slice na p.ks.length nc):=cell_of (i:=12) hn.2 rfl;go_simp
   simp only [pD,pB,pC];refine az hCC 28 1 (.agg (bC x xa xc)) (fun n hn=>?_) CW ?_
   ·have hc0:n.cell? ⟨w.heap.size,0,none⟩=some (.int .i64 x.k):=cell_of (i:=0) hn.1 rfl;have hc1:n.cell? ⟨w.heap.size,1,none⟩=some (.int .i64 x.v.1):=cell_of (i:=1) hn.1 rfl;have hc2:n.cell? ⟨w.heap.size,2,none⟩=some (.int .i64 x.v.2.1):=cell_of (i:=2) hn.1 rfl;have hc3:n.cell? ⟨w.heap.size,3,none⟩=some (.string x.v.2.2):=cell_of (i:=3) hn.1 rfl;have hc4:n.cell? ⟨w.heap.size,4,none⟩=some (.int .i64 x.c):=cell_of (i:=4) hn.1 rfl;have hc5:n.cell? ⟨w.heap.size,5,none⟩=some (.slice xa x.ks.length xc):=cell_of (i:=5) hn.1 rfl;go_simp
   simp only [pD,pB,pC];refine bD 2 ?_;intro w5 hb5
   have A5:=chain A4 (chain hdr hb5);have CW5:=hCC _ _ CW hb5;have QR5:=((chain hdr hb5).block _ (ae Q24)).trans Q24;have con:=jS x xa xc w5;refine wpOp_step rfl (fun K hK=>?_);go_simp;refine con.mono ?_;rintro e w6 ⟨rfl,QS6,hb6⟩;have CW6:=hCC _ _ CW5 hb6;refine hK _ _ ⟨CW6,?_⟩;clear hK K con CW CW5;refine bD 3 ?_;intro w7 hb7
   have A7:=chain A5 (chain hb6 hb7);have CW7:=hCC _ _ CW6 hb7;have QS7:=(hb7.block _ (ae QS6)).trans QS6;have QR7:=((chain hb6 hb7).block _ (ae QR5)).trans QR5;have lr7:=ae QR7;clear CW6 QS6 QR5;have HXO:gA (Old (Old S w) w7) w7 xa x.ks:=(HX.out.mono fun b h l=>⟨⟨h,l⟩,Mh l A7.size⟩).next (ah.of A7);have hfn:=jT ts (Old (Old S w) w7) x xa xc w5.heap.size p.ks w7 (fun r hr=>⟨IH.out r hr,fq HW.out.2 r hr⟩) HW.out.1 QS7 HXO
   have con:=rT ts (Old S w) (fun r=>aT dw ts r x) _ p q o ca cc na nc w7 hfn ((HP.out.mono fun b h l=>⟨h,l⟩).next (ah.of A7)) (lE HW.out.2).1 (jL (Cp x HW.out.2));clear hfn HXO;unfold cU bV at con;rw [HCL.out] at con;refine wpOp_step rfl (fun K hK=>?_);go_simp;refine con.mono ?_;rintro e w8 ⟨v8,rfl,N8,hb8⟩;clear con;obtain ⟨q2,o2,ca2,cc2,na2,nc2,rfl,B8⟩:=N8;obtain ⟨F,hF⟩:∃ F,Pl.mk p.k p.n p.x p.xs p.gs (p.ks.map fun r=>aT dw ts r x)=F:=⟨_,rfl⟩
   rw [hF] at B8 ⊢;obtain ⟨cl2,hcl2⟩:∃ cl2,(ag ts F).length=cl2:=⟨_,rfl⟩
   have HCL2:=aw hcl2;have HRF:Hid (rp=F):=by show _=_; rw [← hF,HRP.out]
   unfold cU bV;rw [hcl2];clear hcl2 hF;have CW8:=hCC _ _ CW7 hb8;refine hK _ _ ⟨CW8,?_⟩;clear hK K CW7;refine bD 4 ?_;intro w9 hb9
   have A9:=chain A7 (chain hb8 hb9);have CW9:=hCC _ _ CW8 hb9;have QR9:=((chain hb8 hb9).block _ (ae QR7)).trans QR7;have B9:=B8.next (ah.of hb9);clear CW8 B8;obtain ⟨y0,y1,y2,y3,y4,y5,y6,y7,y8,y9,y10,y11,y12⟩:=aD QR9;obtain ⟨yf0,yf1,yf2,yf3,yf4,yf5,yf6,yf7,yf8,yf9,yf10,yf11,yf12⟩:=cT QR9;refine wpOp_step rfl (fun K hK=>?_);go_simp
   have AP:Below w.heap.size w (dF w9 (w.heap.size+2) F q2 o2 ca2 cl2 cc2 na2 F.ks.length nc2):=(bq (g:=w.heap.size+2) A9 (by omega) _ _ _ _ _ _ _ _ _ _ _ _ _)
   have KP:ah (fu (Old S w) w7) w9 (dF w9 (w.heap.size+2) F q2 o2 ca2 cl2 cc2 na2 F.ks.length nc2):=(bL (g:=w.heap.size+2) (ah.refl _ w9) (cR (by omega) (by omega)) _ _ _ _ _ _ _ _ _ _ _ _ _)
   have QE:(dF w9 (w.heap.size+2) F q2 o2 ca2 cl2 cc2 na2 F.ks.length nc2).heap[w.heap.size+2]? = some (.cells (aL F q2 o2 ca2 cl2 cc2 na2 F.ks.length nc2) 50 (0,0)):=(bI (g:=w.heap.size+2) QR9 _ _ _ _ _ _ _ _ _ _ _ _ _)
   have CWE:(dF w9 (w.heap.size+2) F q2 o2 ca2 cl2 cc2 na2 F.ks.length nc2).heap[w.heap.size]? = some (.cells (bC x xa xc) 27 (0,0))∧(dF w9 (w.heap.size+2) F q2 o2 ca2 cl2 cc2 na2 F.ks.length nc2).heap[w.heap.size+1]? = some (.cells (aL p q o ca cl cc na p.ks.length nc) 50 (0,0)):=⟨(ij (g:=w.heap.size+2) CW9.1 (by omega) (.int .i64 F.k) (.int .i64 F.n) (.int .i64 F.x.k) (.int .i64 F.x.v.1) (.int .i64 F.x.v.2.1) (.string F.x.v.2.2) (.int .i64 F.x.c) (.slice q2.xa F.x.ks.length q2.xc) (.slice q2.sa F.xs.length q2.sc) (.slice q2.ga F.gs.length q2.gc) (.slice q2.ka o2 q2.kc) (.slice ca2 cl2 cc2) (.slice na2 F.ks.length nc2)),(ij (g:=w.heap.size+2) CW9.2 (by omega) (.int .i64 F.k) (.int .i64 F.n) (.int .i64 F.x.k) (.int .i64 F.x.v.1) (.int .i64 F.x.v.2.1) (.string F.x.v.2.2) (.int .i64 F.x.c) (.slice q2.xa F.x.ks.length q2.xc) (.slice q2.sa F.xs.length q2.sc) (.slice q2.ga F.gs.length q2.gc) (.slice q2.ka o2 q2.kc) (.slice ca2 cl2 cc2) (.slice na2 F.ks.length nc2))⟩
   refine hK _ _ ⟨CWE,?_⟩;clear hK K CWE CW9 y0 yf0 y1 yf1 y2 yf2 y3 yf3 y4 yf4 y5 yf5 y6 yf6 y7 yf7 y8 yf8 y9 yf9 y10 yf10 y11 yf11 y12 yf12;unfold dF at AP KP QE
   generalize (((((((((((((w9.setCell ⟨w.heap.size+2,0,none⟩ (.int .i64 F.k)).setCell ⟨w.heap.size+2,1,none⟩ (.int .i64 F.n)).setCell ⟨w.heap.size+2,2,none⟩ (.int .i64 F.x.k)).setCell ⟨w.heap.size+2,3,none⟩ (.int .i64 F.x.v.1)).setCell ⟨w.heap.size+2,4,none⟩ (.int .i64 F.x.v.2.1)).setCell ⟨w.heap.size+2,5,none⟩ (.string F.x.v.2.2)).setCell ⟨w.heap.size+2,6,none⟩ (.int .i64 F.x.c)).setCell ⟨w.heap.size+2,7,none⟩ (.slice q2.xa F.x.ks.length q2.xc)).setCell ⟨w.heap.size+2,8,none⟩ (.slice q2.sa F.xs.length q2.sc)).setCell ⟨w.heap.size+2,9,none⟩ (.slice q2.ga F.gs.length q2.gc)).setCell ⟨w.heap.size+2,10,none⟩ (.slice q2.ka o2 q2.kc)).setCell ⟨w.heap.size+2,11,none⟩ (.slice ca2 cl2 cc2)).setCell ⟨w.heap.size+2,12,none⟩ (.slice na2 F.ks.length nc2))=w10 at *
   refine bo (by kernel_rfl) ?_;intro w11 hb11;have A11:=chain AP hb11;have QE11:=(hb11.block _ (ae QE)).trans QE;have FIN:aY ts (fu S w) w11 (.agg (aL F q2 o2 ca2 cl2 cc2 na2 F.ks.length nc2)) F:=by
    refine ⟨q2,o2,ca2,cc2,na2,nc2,by unfold cU bV; rw [HCL2.out],((B9.next KP).next (ah.of hb11)).mono fun b h _=>?_⟩;rcases h with h | h
    ·exact .inl h.1
    ·exact .inr (by have:=A7.size; omega)
   obtain ⟨r0,r1,r2,r3,r4,r5,r6,r7,r8,r9,r10,r11,r12⟩:=aD QE11;go_wp2_with fail
   exact Me (v:=.agg (aL F q2 o2 ca2 cl2 cc2 na2 F.ks.length nc2)) (by simp [results,Tryz.results21,go_sem,r0,r1,r2,r3,r4,r5,r6,r7,r8,r9,r10,r11,r12]) rfl ⟨_,rfl,by rw [HRF.out]; exact FIN,A11⟩
   )
  )
theorem GA {ts:List (List Int)} {p r:Pl} {j:Nat} (hj:j<p.ks.length) (h:ag ts r=ag ts p.ks[j]):(p.ks.set j r).map (ag ts)=p.ks.map (ag ts):=by
 rw [List.map_set,h];refine List.ext_getElem (by simp) fun i h1 h2=>?_
 rw [List.getElem_set]
 split
 ·rename_i e; subst e; rw [MY]
 ·rfl
theorem pR {ts:List (List Int)} {p:Pl} (x:Ex) (h:fD ts p) {j:Nat} (hj:j<p.ks.length):ag ts (.mk p.k p.n p.x p.xs p.gs (p.ks.set j (aT dw ts (p.ks.getD j p) x)))=ag ts p:=by
 have e:p.ks.getD j p=p.ks[j]:=by rw [MD,Ms hj,Ny]
 rw [e];exact jL (GA hj (eS dw _ x (fq h _ (Mk hj))))
theorem Dj (ts:List (List Int)) (p:Pl) (ih:∀ r ∈ p.ks,mj ts r) (hk:p.k=5∨p.k=6):∀ (S:Nat→Prop) (x:Ex) (xa:Option Addr) (xc:Nat) (q:Pw) (o:Nat) (ca:Option Addr) (cc:Nat) (na:Option Addr) (nc:Nat) (w:World),eY x=false→fF gn x→fD ts p→gA S w xa x.ks→kU ts S w p q ca na →
 Calls Tryz.prog 21 #[iU x.k x.v x.c xa x.ks.length xc,cU ts p q o ca cc na nc] w fun e w'=>∃ v,e = .returned v∧aY ts (fu S w) w' v (aT dw ts p x)∧Below w.heap.size w w':=by
 intro S x xa xc q o ca cc na nc w ht hw hsh hx hp;obtain ⟨cl,hcl⟩:∃ cl,(ag ts p).length=cl:=⟨_,rfl⟩
 have HCL:=aw hcl;obtain ⟨rp,hrp⟩:∃ rp,aT dw ts p x=rp:=⟨_,rfl⟩
 have HRP:=aw hrp;rw [hrp];unfold cU bV;rw [hcl];clear hcl hrp;have A:Below w.heap.size w (((w.alloc (.cells (bC x xa xc) 27)).alloc (.cells (aL p q o ca cl cc na p.ks.length nc) 50)).alloc (.cells aJ 50)):=((((Md w.heap.size w).alloc (Mc _) (.cells (bC x xa xc) 27)).alloc (by simp only [Mf]; omega) (.cells (aL p q o ca cl cc na p.ks.length nc) 50)).alloc (by simp only [Mf]; omega) (.cells aJ 50))
 have Z:w.heap.size+3≤(((w.alloc (.cells (bC x xa xc) 27)).alloc (.cells (aL p q o ca cl cc na p.ks.length nc) 50)).alloc (.cells aJ 50)).heap.size:=by simp only [Mf]; omega
 have Q0:(((w.alloc (.cells (bC x xa xc) 27)).alloc (.cells (aL p q o ca cl cc na p.ks.length nc) 50)).alloc (.cells aJ 50)).heap[w.heap.size]? = some (.cells (bC x xa xc) 27 (0,0)):=by
  rw [aG _ _ (by simp only [Mf]; omega),aG _ _ (by simp only [Mf]; omega)];exact aB w (bC x xa xc) 27 rfl
 have Q1:(((w.alloc (.cells (bC x xa xc) 27)).alloc (.cells (aL p q o ca cl cc na p.ks.length nc) 50)).alloc (.cells aJ 50)).heap[w.heap.size+1]? = some (.cells (aL p q o ca cl cc na p.ks.length nc) 50 (0,0)):=by
  rw [aG _ _ (by simp only [Mf]; omega)];exact aB (w.alloc (.cells (bC x xa xc) 27)) (aL p q o ca cl cc na p.ks.length nc) 50 (by simp only [Mf])
 have Q2:(((w.alloc (.cells (bC x xa xc) 27)).alloc (.cells (aL p q o ca cl cc na p.ks.length nc) 50)).alloc (.cells aJ 50)).heap[w.heap.size+2]? = some (.cells aJ 50 (0,0)):=by
  exact aB ((w.alloc (.cells (bC x xa xc) 27)).alloc (.cells (aL p q o ca cl cc na p.ks.length nc) 50)) aJ 50 (by simp only [Mf])
 have HX:=aw hx;have HP:=aw hp;have HW:Hid (fF gn x∧fD ts p):=⟨hw,hsh⟩
 have HT:Hid (eY x=(x.k == 1 && (cls x.v.1 x.v.2.1 == some true))):=iz x;clear hx hp hw hsh;have b2:(p.k == 2)=false:=beq_false_of_ne (by omega)
 have b8:(p.k == 8)=false:=beq_false_of_ne (by omega)
 have b9:(p.k == 9)=false:=beq_false_of_ne (by omega)
 have b10:(p.k == 10)=false:=beq_false_of_ne (by omega)
 have b11:(p.k == 11)=false:=beq_false_of_ne (by omega)
 have IH:=aw ih;have HK:Hid (4≤p.k∧p.k≤9):=by show _∧_; omega
 have ERP:Hid (rp=Pl.mk p.k p.n p.x p.xs p.gs (p.ks.set 0 (aT dw ts (p.ks.getD 0 p) x))):=by
  show _=_;rw [← HRP.out];have hl:=(lE HW.out.2).2 HK.out;obtain ⟨k,n,y,xs,gs,ks⟩:=p;simp only [Pl.k] at hk;simp only [Pl.ks] at hl
  match ks,hl with
  | [r,s],_ =>
    rw [aT,if_neg (by rw [ht]; decide),if_neg (by omega),if_neg (by omega),if_pos hk,fc];rfl
 have hbk:(p.k == 5)=true∨((p.k == 5)=false∧(p.k == 6)=true):=by
  simp only [beq_iff_eq,beq_eq_false_iff_ne];omega
 clear hk ih;go_enter Tryz.func21,Tryz.ntmps21;go_upto_region 1 with fail
 generalize (((w.alloc (.cells (bC x xa xc) 27)).alloc (.cells (aL p q o ca cl cc na p.ks.length nc) 50)).alloc (.cells aJ 50))=w3 at *;have HTF:=aw ht;have x0:w3.cell? ⟨w.heap.size,0,none⟩=some (.int .i64 x.k):=cell_of (i:=0) Q0 rfl;have x1:w3.cell? ⟨w.heap.size,1,none⟩=some (.int .i64 x.v.1):=cell_of (i:=1) Q0 rfl;have x2:w3.cell? ⟨w.heap.size,2,none⟩=some (.int .i64 x.v.2.1):=cell_of (i:=2) Q0 rfl;have x3:w3.cell? ⟨w.heap.size,3,none⟩=some (.string x.v.2.2):=cell_of (i:=3) Q0 rfl;have h0:(x.k == 1)=false∨((x.k == 1)=true∧(cls x.v.1 x.v.2.1 == some true)=false):=by
  rw [HT.out] at ht;cases h1:(x.k == 1) with
  | false=>exact .inl rfl
  | true=>rw [h1,Bool.true_and] at ht; exact .inr ⟨rfl,ht⟩
 clear ht HT;rcases h0 with h1 | ⟨h1,h2⟩
 all_goals first
  |(have con:=dW x.v.1 x.v.2.1 x.v.2.2 w3
    rw [h2] at con;go_wp2_with fail
    refine con.mono ?_;rintro e w4 ⟨rfl,hb4⟩;have A4:=chain A hb4;have Q04:=(hb4.block _ (ae Q0)).trans Q0;have Q14:=(hb4.block _ (ae Q1)).trans Q1;have Q24:=(hb4.block _ (ae Q2)).trans Q2;clear con hb4 A Z Q0 Q1 Q2 h1 h2 x0 x1 x2 x3;dsimp only;go_upto_region 3 with fail)
  |(go_upto_region 3 with fail
    have A4:=A;have Q04:=Q0;have Q14:=Q1;have Q24:=Q2;clear A Z Q0 Q1 Q2 h1 x0 x1 x2 x3;generalize w3=w4 at *)
 all_goals (
  have n0:w4.cell? ⟨w.heap.size+1,0,none⟩=some (.int .i64 p.k):=cell_of (i:=0) Q14 rfl;have hrp:rp=Pl.mk p.k p.n p.x p.xs p.gs (p.ks.set 0 (aT dw ts (p.ks.getD 0 p) x)):=ERP.out;clear HRP;have HRP:Hid (Pl.mk p.k p.n p.x p.xs p.gs (p.ks.set 0 (aT dw ts (p.ks.getD 0 p) x))=rp):=hrp.symm;clear hrp;rcases hbk with b5 | ⟨b5,b6⟩
  all_goals go_upto_region 13 with fail
  all_goals clear n0
  all_goals try clear b5
  all_goals try clear b6
  all_goals (
   have hCC:∀ W W':World,(W.heap[w.heap.size]? = some (.cells (bC x xa xc) 27 (0,0))∧W.heap[w.heap.size+1]? = some (.cells (aL p q o ca cl cc na p.ks.length nc) 50 (0,0)))→Below W.heap.size W W'→(W'.heap[w.heap.size]? = some (.cells (bC x xa xc) 27 (0,0))∧W'.heap[w.heap.size+1]? = some (.cells (aL p q o ca cl cc na p.ks.length nc) 50 (0,0))):=fun W W' h hb=>⟨(hb.block _ (ae h.1)).trans h.1,(hb.block _ (ae h.2)).trans h.2⟩
   have hdr:Below w4.heap.size w4 w4.drew:=(Md _ _).drew;have CW:=hCC _ _ ⟨Q04,Q14⟩ hdr;refine aH (fun W=>W.heap[w.heap.size]? = some (.cells (bC x xa xc) 27 (0,0))∧W.heap[w.heap.size+1]? = some (.cells (aL p q o ca cl cc na p.ks.length nc) 50 (0,0))) (by kernel_rfl) ?_;refine az hCC 34 0 (.agg (aL p q o ca cl cc na p.ks.length nc)) (fun n hn=>?_) CW ?_
   ·have hc0:n.cell? ⟨w.heap.size+1,0,none⟩=some (.int .i64 p.k):=cell_of (i:=0) hn.2 rfl;have hc1:n.cell? ⟨w.heap.size+1,1,none⟩=some (.int .i64 p.n):=cell_of (i:=1) hn.2 rfl;have hc2:n.cell? ⟨w.heap.size+1,2,none⟩=some (.int .i64 p.x.k):=cell_of (i:=2) hn.2 rfl;have hc3:n.cell? ⟨w.heap.size+1,3,none⟩=some (.int .i64 p.x.v.1):=cell_of (i:=3) hn.2 rfl;have hc4:n.cell? ⟨w.heap.size+1,4,none⟩=some (.int .i64 p.x.v.2.1):=cell_of (i:=4) hn.2 rfl;have hc5:n.cell? ⟨w.heap.size+1,5,none⟩=some (.string p.x.v.2.2):=cell_of (i:=5) hn.2 rfl
    have hc6:n.cell? ⟨w.heap.size+1,6,none⟩=some (.int .i64 p.x.c):=cell_of (i:=6) hn.2 rfl;have hc7:n.cell? ⟨w.heap.size+1,7,none⟩=some (.slice q.xa p.x.ks.length q.xc):=cell_of (i:=7) hn.2 rfl;have hc8:n.cell? ⟨w.heap.size+1,8,none⟩=some (.slice q.sa p.xs.length q.sc):=cell_of (i:=8) hn.2 rfl;have hc9:n.cell? ⟨w.heap.size+1,9,none⟩=some (.slice q.ga p.gs.length q.gc):=cell_of (i:=9) hn.2 rfl;have hc10:n.cell? ⟨w.heap.size+1,10,none⟩=some (.slice q.ka o q.kc):=cell_of (i:=10) hn.2 rfl;have hc11:n.cell? ⟨w.heap.size+1,11,none⟩=some (.slice ca cl cc):=cell_of (i:=11) hn.2 rfl
    have hc12:n.cell? ⟨w.heap.size+1,12,none⟩=some (.slice na p.ks.length nc):=cell_of (i:=12) hn.2 rfl;go_simp
   simp only [pD,pB,pC];refine az hCC 35 1 (.agg (bC x xa xc)) (fun n hn=>?_) CW ?_
   ·have hc0:n.cell? ⟨w.heap.size,0,none⟩=some (.int .i64 x.k):=cell_of (i:=0) hn.1 rfl;have hc1:n.cell? ⟨w.heap.size,1,none⟩=some (.int .i64 x.v.1):=cell_of (i:=1) hn.1 rfl;have hc2:n.cell? ⟨w.heap.size,2,none⟩=some (.int .i64 x.v.2.1):=cell_of (i:=2) hn.1 rfl;have hc3:n.cell? ⟨w.heap.size,3,none⟩=some (.string x.v.2.2):=cell_of (i:=3) hn.1 rfl;have hc4:n.cell? ⟨w.heap.size,4,none⟩=some (.int .i64 x.c):=cell_of (i:=4) hn.1 rfl;have hc5:n.cell? ⟨w.heap.size,5,none⟩=some (.slice xa x.ks.length xc):=cell_of (i:=5) hn.1 rfl;go_simp
   simp only [pD,pB,pC];refine bD 2 ?_;intro w5 hb5
   have A5:=chain A4 (chain hdr hb5);have CW5:=hCC _ _ CW hb5;have QR5:=((chain hdr hb5).block _ (ae Q24)).trans Q24;have con:=jS x xa xc w5;refine wpOp_step rfl (fun K hK=>?_);go_simp;refine con.mono ?_;rintro e w6 ⟨rfl,QS6,hb6⟩;have CW6:=hCC _ _ CW5 hb6;refine hK _ _ ⟨CW6,?_⟩;clear hK K con CW CW5;refine bD 3 ?_;intro w7 hb7
   have A7:=chain A5 (chain hb6 hb7);have CW7:=hCC _ _ CW6 hb7;have QS7:=(hb7.block _ (ae QS6)).trans QS6;have QR7:=((chain hb6 hb7).block _ (ae QR5)).trans QR5;have lr7:=ae QR7;clear CW6 QS6 QR5;have HXO:gA (Old (Old S w) w7) w7 xa x.ks:=(HX.out.mono fun b h l=>⟨⟨h,l⟩,Mh l A7.size⟩).next (ah.of A7);have hfn:=jT ts (Old (Old S w) w7) x xa xc w5.heap.size p.ks w7 (fun r hr=>⟨IH.out r hr,fq HW.out.2 r hr⟩) HW.out.1 QS7 HXO
   have con:=qd ts (Old S w) (fun r=>aT dw ts r x) _ p q o ca cc na nc w7 0 hfn ((HP.out.mono fun b h l=>⟨h,l⟩).next (ah.of A7)) ((lE HW.out.2).2 HK.out) (by decide) (pR x HW.out.2 (by rw [(lE HW.out.2).2 HK.out]; decide));clear hfn HXO;unfold cU bV at con;rw [HCL.out] at con;refine wpOp_step rfl (fun K hK=>?_);go_simp;refine con.mono ?_;rintro e w8 ⟨v8,rfl,N8,hb8⟩;clear con;obtain ⟨q2,o2,ca2,cc2,na2,nc2,rfl,B8⟩:=N8;obtain ⟨F,hF⟩:∃ F,Pl.mk p.k p.n p.x p.xs p.gs (p.ks.set 0 (aT dw ts (p.ks.getD 0 p) x))=F:=⟨_,rfl⟩
   rw [hF] at B8 ⊢;obtain ⟨cl2,hcl2⟩:∃ cl2,(ag ts F).length=cl2:=⟨_,rfl⟩
   have HCL2:=aw hcl2;have HRF:Hid (rp=F):=by show _=_; rw [← hF,HRP.out]
   unfold cU bV;rw [hcl2];clear hcl2 hF;have CW8:=hCC _ _ CW7 hb8;refine hK _ _ ⟨CW8,?_⟩;clear hK K CW7;refine bD 4 ?_;intro w9 hb9
   have A9:=chain A7 (chain hb8 hb9);have CW9:=hCC _ _ CW8 hb9;have QR9:=((chain hb8 hb9).block _ (ae QR7)).trans QR7;have B9:=B8.next (ah.of hb9);clear CW8 B8;obtain ⟨y0,y1,y2,y3,y4,y5,y6,y7,y8,y9,y10,y11,y12⟩:=aD QR9;obtain ⟨yf0,yf1,yf2,yf3,yf4,yf5,yf6,yf7,yf8,yf9,yf10,yf11,yf12⟩:=cT QR9;refine wpOp_step rfl (fun K hK=>?_);go_simp
   have AP:Below w.heap.size w (dF w9 (w.heap.size+2) F q2 o2 ca2 cl2 cc2 na2 F.ks.length nc2):=(bq (g:=w.heap.size+2) A9 (by omega) _ _ _ _ _ _ _ _ _ _ _ _ _)
   have KP:ah (fu (Old S w) w7) w9 (dF w9 (w.heap.size+2) F q2 o2 ca2 cl2 cc2 na2 F.ks.length nc2):=(bL (g:=w.heap.size+2) (ah.refl _ w9) (cR (by omega) (by omega)) _ _ _ _ _ _ _ _ _ _ _ _ _)
   have QE:(dF w9 (w.heap.size+2) F q2 o2 ca2 cl2 cc2 na2 F.ks.length nc2).heap[w.heap.size+2]? = some (.cells (aL F q2 o2 ca2 cl2 cc2 na2 F.ks.length nc2) 50 (0,0)):=(bI (g:=w.heap.size+2) QR9 _ _ _ _ _ _ _ _ _ _ _ _ _)
   have CWE:(dF w9 (w.heap.size+2) F q2 o2 ca2 cl2 cc2 na2 F.ks.length nc2).heap[w.heap.size]? = some (.cells (bC x xa xc) 27 (0,0))∧(dF w9 (w.heap.size+2) F q2 o2 ca2 cl2 cc2 na2 F.ks.length nc2).heap[w.heap.size+1]? = some (.cells (aL p q o ca cl cc na p.ks.length nc) 50 (0,0)):=⟨(ij (g:=w.heap.size+2) CW9.1 (by omega) (.int .i64 F.k) (.int .i64 F.n) (.int .i64 F.x.k) (.int .i64 F.x.v.1) (.int .i64 F.x.v.2.1) (.string F.x.v.2.2) (.int .i64 F.x.c) (.slice q2.xa F.x.ks.length q2.xc) (.slice q2.sa F.xs.length q2.sc) (.slice q2.ga F.gs.length q2.gc) (.slice q2.ka o2 q2.kc) (.slice ca2 cl2 cc2) (.slice na2 F.ks.length nc2)),(ij (g:=w.heap.size+2) CW9.2 (by omega) (.int .i64 F.k) (.int .i64 F.n) (.int .i64 F.x.k) (.int .i64 F.x.v.1) (.int .i64 F.x.v.2.1) (.string F.x.v.2.2) (.int .i64 F.x.c) (.slice q2.xa F.x.ks.length q2.xc) (.slice q2.sa F.xs.length q2.sc) (.slice q2.ga F.gs.length q2.gc) (.slice q2.ka o2 q2.kc) (.slice ca2 cl2 cc2) (.slice na2 F.ks.length nc2))⟩
   refine hK _ _ ⟨CWE,?_⟩;clear hK K CWE CW9 y0 yf0 y1 yf1 y2 yf2 y3 yf3 y4 yf4 y5 yf5 y6 yf6 y7 yf7 y8 yf8 y9 yf9 y10 yf10 y11 yf11 y12 yf12;unfold dF at AP KP QE
   generalize (((((((((((((w9.setCell ⟨w.heap.size+2,0,none⟩ (.int .i64 F.k)).setCell ⟨w.heap.size+2,1,none⟩ (.int .i64 F.n)).setCell ⟨w.heap.size+2,2,none⟩ (.int .i64 F.x.k)).setCell ⟨w.heap.size+2,3,none⟩ (.int .i64 F.x.v.1)).setCell ⟨w.heap.size+2,4,none⟩ (.int .i64 F.x.v.2.1)).setCell ⟨w.heap.size+2,5,none⟩ (.string F.x.v.2.2)).setCell ⟨w.heap.size+2,6,none⟩ (.int .i64 F.x.c)).setCell ⟨w.heap.size+2,7,none⟩ (.slice q2.xa F.x.ks.length q2.xc)).setCell ⟨w.heap.size+2,8,none⟩ (.slice q2.sa F.xs.length q2.sc)).setCell ⟨w.heap.size+2,9,none⟩ (.slice q2.ga F.gs.length q2.gc)).setCell ⟨w.heap.size+2,10,none⟩ (.slice q2.ka o2 q2.kc)).setCell ⟨w.heap.size+2,11,none⟩ (.slice ca2 cl2 cc2)).setCell ⟨w.heap.size+2,12,none⟩ (.slice na2 F.ks.length nc2))=w10 at *
   refine bo (by kernel_rfl) ?_;intro w11 hb11;have A11:=chain AP hb11;have QE11:=(hb11.block _ (ae QE)).trans QE;have FIN:aY ts (fu S w) w11 (.agg (aL F q2 o2 ca2 cl2 cc2 na2 F.ks.length nc2)) F:=by
    refine ⟨q2,o2,ca2,cc2,na2,nc2,by unfold cU bV; rw [HCL2.out],((B9.next KP).next (ah.of hb11)).mono fun b h _=>?_⟩;rcases h with h | h
    ·exact .inl h.1
    ·exact .inr (by have:=A7.size; omega)
   obtain ⟨r0,r1,r2,r3,r4,r5,r6,r7,r8,r9,r10,r11,r12⟩:=aD QE11;go_wp2_with fail
   exact Me (v:=.agg (aL F q2 o2 ca2 cl2 cc2 na2 F.ks.length nc2)) (by simp [results,Tryz.results21,go_sem,r0,r1,r2,r3,r4,r5,r6,r7,r8,r9,r10,r11,r12]) rfl ⟨_,rfl,by rw [HRF.out]; exact FIN,A11⟩
   )
  )
theorem uP {P:Int→Prop} (f:Int→Bool):∀ x:Ex,fF P x→nn f x = !bY (fun c=>!f c) x :=
 Ex.ind fun k v c ks ih hw=>by
  rw [fF] at hw
  obtain ⟨_,h2,hs⟩:=hw
  have hs:=iI.1 hs
  have key:∀ l:List Ex,(∀ x ∈ l,x ∈ ks)→fy f l = !eK (fun c=>!f c) l:=by
   intro l
   induction l with
   | nil=>intro _; rfl
   | cons x r ihl =>
    intro hm;rw [fy,eK,ih x (hm x (by simp)) (hs x (hm x (by simp))),ihl fun y hy=>hm y (by simp [hy]),Bool.not_and]
  rw [nn,bY];by_cases e:k=2
  ·rw [(h2 e).2,if_pos e];simp [fy,e]
  ·rw [if_neg e,key ks fun _ h=>h];simp [e]
theorem AK {n:Int} (hn:0≤n):∀ x:Ex,fF gn x→bY (fun c=>decide (n≤c)) x=true→fF gn (jw n x) :=
 Ex.ind fun k v c ks ih hw hc=>by
  unfold jw
  rw [lW,fF]
  rw [fF] at hw
  obtain ⟨h1,h2,hs⟩:=hw
  have hs:=iI.1 hs
  rw [bY] at hc
  refine ⟨by rw [dK]; exact h1,fun e=>?_,iI.2 fun y hy=>?_⟩
  ·rw [if_pos e] at hc ⊢
   have:=of_decide_eq_true hc
   have h3:=(h2 e).1
   unfold gn at h3 ⊢
   rw [(h2 e).2,cQ]
   exact ⟨by omega,rfl⟩
  ·rw [fB] at hy
   obtain ⟨z,hz,rfl⟩:=List.mem_map.1 hy
   by_cases e:k=2
   ·rw [(h2 e).2] at hz; cases hz
   ·rw [if_neg e] at hc
    exact ih z hz (hs z hz) (iE hc z hz)
theorem Ih (n:Nat) (hn:n≤maxLen) (b:Nat) (w:World) (hb:w.heap[b]? = some (.cells #[.int .i64 n] 3 (0,0))):KE (.func (.func 64) #[] #[.pointer (some ⟨b,0,none⟩)]) (fun c=>c - n) gn w :=
 ⟨64,#[.pointer (some ⟨b,0,none⟩)],rfl,enters_of Tryz.func64 (by kernel_rfl) rfl,fun c W hc hW=>by
  have c0:W.cell? ⟨b,0,none⟩=some (.int .i64 n):=cell_of (i:=0) ((hW.block _ (ae hb)).trans hb) rfl
  unfold gn at hc
  obtain ⟨hc1,hc2⟩:=hc
  unfold maxLen at hn
  simp only [List.append_toArray,M8,List.nil_append]
  go_enter Tryz.func64,Tryz.ntmps64
  go_wp2
  go_ret
  exact ⟨by first | rfl | (congr 2; go_num),Md _ _⟩⟩
theorem xm (ts:List (List Int)) (p:Pl) (ih:∀ r ∈ p.ks,mj ts r) (hk:p.k=4):∀ (S:Nat→Prop) (x:Ex) (xa:Option Addr) (xc:Nat) (q:Pw) (o:Nat) (ca:Option Addr) (cc:Nat) (na:Option Addr) (nc:Nat) (w:World),eY x=false→fF gn x→fD ts p→gA S w xa x.ks→kU ts S w p q ca na →
 Calls Tryz.prog 37 #[iU x.k x.v x.c xa x.ks.length xc,cU ts p q o ca cc na nc] w fun e w'=>∃ v,e = .returned v∧aY ts (fu S w) w' v (aT dw ts p x)∧Below w.heap.size w w':=by
 intro S x xa xc q o ca cc na nc w ht hw hsh hx hp;have hl:=(lE hsh).2 (by omega);obtain ⟨cl,hcl⟩:∃ cl,(ag ts p).length=cl:=⟨_,rfl⟩
 have HCL:=aw hcl;have HL:=aw hl;obtain ⟨n,hn⟩:∃ n:Nat,(ag ts (p.ks.getD 0 p)).length=n:=⟨_,rfl⟩
 have HN:Hid (∀ h:0<p.ks.length,(ag ts p.ks[0]).length=n):=fun h=>by
  rw [← hn,MD,Ms h,Ny]
 obtain ⟨rp,hrp⟩:∃ rp,aT dw ts p x=rp:=⟨_,rfl⟩
 have HRP0:=aw hrp;obtain ⟨fi,hfi⟩:∃ fi,nn (fun c=>decide (c<(n:Int))) x=fi:=⟨_,rfl⟩
 obtain ⟨se,hse⟩:∃ se,nn (fun c=>decide ((n:Int)≤c)) x=se:=⟨_,rfl⟩
 have cfi:bY (fun c=>decide ((n:Int)≤c)) x = !fi:=by
  rw [← hfi,uP _ x hw,Bool.not_not]
  congr 1
  funext c
  rw [← decide_not]
  congr 1
  exact propext Int.not_lt.symm
 have cse:bY (fun c=>decide (c<(n:Int))) x = !se:=by
  rw [← hse,uP _ x hw,Bool.not_not]
  congr 1
  funext c
  rw [← decide_not]
  congr 1
  exact propext Int.not_le.symm
 have ERP:Hid (rp=if se=false then Pl.mk p.k p.n p.x p.xs p.gs (p.ks.set 0 (aT dw ts (p.ks.getD 0 p) x)) else if fi=false then Pl.mk p.k p.n p.x p.xs p.gs (p.ks.set 1 (aT dw ts (p.ks.getD 1 p) (jw n x))) else mG ts x p):=by
  show _=_;rw [← hrp];obtain ⟨k,m,z,xs,gs,ks⟩:=p;simp only [Pl.k] at hk;simp only [Pl.ks] at hl hn
  match ks,hl with
  | [r,s],_ =>
   subst hk;have hn':(ag ts r).length=n:=hn;rw [aT,if_neg (by rw [ht]; decide),if_neg (by decide),if_neg (by decide),if_neg (by decide),if_pos rfl,mi,hn',cse,cfi];cases se with
   | false=>simp only [Bool.not_false,if_true]; rfl
   | true =>
    cases fi with
    | false=>simp [kQ,fc,Pl.ks,Pl.k,Pl.n,Pl.x,Pl.xs,Pl.gs]
    | true =>
     simp only [Bool.not_true,if_neg (show ¬ (false=true) by decide),if_neg (show ¬ (true=false) by decide)];unfold mG dw iY;rw [ag];simp only [decide_eq_true_eq];rfl
 have HWB:Hid (fi=false→fF gn (jw n x)):=fun h=>AK (by omega) x hw (by rw [cfi,h]; rfl)
 rw [hrp];unfold cU bV;rw [hcl,hl];clear hcl hrp hn hl cfi cse ht hk;have A:Below w.heap.size w (((w.alloc (.cells (bC x xa xc) 27)).alloc (.cells (aL p q o ca cl cc na 2 nc) 50)).alloc (.cells aJ 50)):=((((Md w.heap.size w).alloc (Mc _) (.cells (bC x xa xc) 27)).alloc (by simp only [Mf]; omega) (.cells (aL p q o ca cl cc na 2 nc) 50)).alloc (by simp only [Mf]; omega) (.cells aJ 50))
 have Z:w.heap.size+3≤(((w.alloc (.cells (bC x xa xc) 27)).alloc (.cells (aL p q o ca cl cc na 2 nc) 50)).alloc (.cells aJ 50)).heap.size:=by simp only [Mf]; omega
 have Q0:(((w.alloc (.cells (bC x xa xc) 27)).alloc (.cells (aL p q o ca cl cc na 2 nc) 50)).alloc (.cells aJ 50)).heap[w.heap.size]? = some (.cells (bC x xa xc) 27 (0,0)):=by
  rw [aG _ _ (by simp only [Mf]; omega),aG _ _ (by simp only [Mf]; omega)];exact aB w (bC x xa xc) 27 rfl
 have Q1:(((w.alloc (.cells (bC x xa xc) 27)).alloc (.cells (aL p q o ca cl cc na 2 nc) 50)).alloc (.cells aJ 50)).heap[w.heap.size+1]? = some (.cells (aL p q o ca cl cc na 2 nc) 50 (0,0)):=by
  rw [aG _ _ (by simp only [Mf]; omega)];exact aB (w.alloc (.cells (bC x xa xc) 27)) (aL p q o ca cl cc na 2 nc) 50 (by simp only [Mf])
 have Q2:(((w.alloc (.cells (bC x xa xc) 27)).alloc (.cells (aL p q o ca cl cc na 2 nc) 50)).alloc (.cells aJ 50)).heap[w.heap.size+2]? = some (.cells aJ 50 (0,0)):=by
  exact aB ((w.alloc (.cells (bC x xa xc) 27)).alloc (.cells (aL p q o ca cl cc na 2 nc) 50)) aJ 50 (by simp only [Mf])
 have HX:=aw hx;have HP:=aw hp;have HW:Hid (fF gn x∧fD ts p):=⟨hw,hsh⟩
 have IH:=aw ih;clear hx hp hw hsh ih;go_enter Tryz.func37,Tryz.ntmps37;go_upto_region 1 with fail
 generalize (((w.alloc (.cells (bC x xa xc) 27)).alloc (.cells (aL p q o ca cl cc na 2 nc) 50)).alloc (.cells aJ 50))=w3 at *;obtain ⟨b,off,q1,o1,ca1,cc1,na1,nc1,rfl,_,hbl,hAt,hB1⟩:=(HP.out.kids.next (ah.of A)).elem (i:=0) (by rw [HL.out]; decide);have hn16:n≤maxLen:=by rw [← HN.out (by rw [HL.out]; decide)]; exact hB1.af.1
 clear hB1;unfold bV at hAt;rw [HN.out] at hAt;have e11:w3.cell? ⟨b,off+11,none⟩=some (.slice ca1 n cc1):=hAt 11 _ rfl;have n12:w3.cell? ⟨w.heap.size+1,12,none⟩=some (.slice (some ⟨b,off,none⟩) 2 nc):=cell_of (i:=12) Q1 rfl;have al:=aa w3 (.cells #[.int .i64 n] 3);have QA:=ak w3 #[.int .i64 n] 3;go_upto_region 2 with fail
 clear hAt e11 n12;generalize hw3a:w3.alloc (.cells #[.int .i64 n] 3)=wa at *;clear hw3a;have Aa:=chain A al;have Q0a:=(al.block _ (ae Q0)).trans Q0;have Q1a:=(al.block _ (ae Q1)).trans Q1;have Q2a:=(al.block _ (ae Q2)).trans Q2;have con:=DS (P:=gn) x n xa xc wa HW.out.1 (HX.out.next (ah.of Aa)).ks;rw [hfi,hse] at con;clear hfi hse;obtain ⟨x0,x1,x2,x3,x4,x5⟩:=dV Q0a;have ha0:wa.cell? ⟨w3.heap.size,0,none⟩=some (.int .i64 n):=cell_of (i:=0) QA rfl;go_wp2_with fail
 refine con.mono ?_;rintro e w4 ⟨rfl,hb4⟩;clear con x0 x1 x2 x3 x4 x5 ha0;have A4:=chain Aa hb4;have Q04:=(hb4.block _ (ae Q0a)).trans Q0a;have Q14:=(hb4.block _ (ae Q1a)).trans Q1a;have Q24:=(hb4.block _ (ae Q2a)).trans Q2a;have QA4:=(hb4.block _ (ae QA)).trans QA;have lA:=ae QA4;have l4:w.heap.size+3≤w4.heap.size:=by have:=hb4.size; have:=al.size; omega
 clear Q0 Q1 Q2 Q0a Q1a Q2a QA A Aa al hb4;dsimp only;cases se with
 | false =>
  have hrp:rp=Pl.mk p.k p.n p.x p.xs p.gs (p.ks.set 0 (aT dw ts (p.ks.getD 0 p) x)):=by rw [ERP.out,if_pos rfl]
  have HRP:Hid (Pl.mk p.k p.n p.x p.xs p.gs (p.ks.set 0 (aT dw ts (p.ks.getD 0 p) x))=rp):=hrp.symm;clear hrp ERP HRP0;go_upto_region 4 with fail
  have hCC:∀ W W':World,(W.heap[w.heap.size]? = some (.cells (bC x xa xc) 27 (0,0))∧W.heap[w.heap.size+1]? = some (.cells (aL p q o ca cl cc (some ⟨b,off,none⟩) 2 nc) 50 (0,0)))→Below W.heap.size W W'→(W'.heap[w.heap.size]? = some (.cells (bC x xa xc) 27 (0,0))∧W'.heap[w.heap.size+1]? = some (.cells (aL p q o ca cl cc (some ⟨b,off,none⟩) 2 nc) 50 (0,0))):=fun W W' h hb=>⟨(hb.block _ (ae h.1)).trans h.1,(hb.block _ (ae h.2)).trans h.2⟩
  have hdr:Below w4.heap.size w4 w4.drew:=(Md _ _).drew;have CW:=hCC _ _ ⟨Q04,Q14⟩ hdr;refine aH (fun W=>W.heap[w.heap.size]? = some (.cells (bC x xa xc) 27 (0,0))∧W.heap[w.heap.size+1]? = some (.cells (aL p q o ca cl cc (some ⟨b,off,none⟩) 2 nc) 50 (0,0))) (by kernel_rfl) ?_;refine az hCC 24 0 (.agg (aL p q o ca cl cc (some ⟨b,off,none⟩) 2 nc)) (fun n hn=>?_) CW ?_
  ·have hc0:n.cell? ⟨w.heap.size+1,0,none⟩=some (.int .i64 p.k):=cell_of (i:=0) hn.2 rfl;have hc1:n.cell? ⟨w.heap.size+1,1,none⟩=some (.int .i64 p.n):=cell_of (i:=1) hn.2 rfl;have hc2:n.cell? ⟨w.heap.size+1,2,none⟩=some (.int .i64 p.x.k):=cell_of (i:=2) hn.2 rfl;have hc3:n.cell? ⟨w.heap.size+1,3,none⟩=some (.int .i64 p.x.v.1):=cell_of (i:=3) hn.2 rfl;have hc4:n.cell? ⟨w.heap.size+1,4,none⟩=some (.int .i64 p.x.v.2.1):=cell_of (i:=4) hn.2 rfl;have hc5:n.cell? ⟨w.heap.size+1,5,none⟩=some (.string p.x.v.2.2):=cell_of (i:=5) hn.2 rfl
   have hc6:n.cell? ⟨w.heap.size+1,6,none⟩=some (.int .i64 p.x.c):=cell_of (i:=6) hn.2 rfl;have hc7:n.cell? ⟨w.heap.size+1,7,none⟩=some (.slice q.xa p.x.ks.length q.xc):=cell_of (i:=7) hn.2 rfl;have hc8:n.cell? ⟨w.heap.size+1,8,none⟩=some (.slice q.sa p.xs.length q.sc):=cell_of (i:=8) hn.2 rfl;have hc9:n.cell? ⟨w.heap.size+1,9,none⟩=some (.slice q.ga p.gs.length q.gc):=cell_of (i:=9) hn.2 rfl;have hc10:n.cell? ⟨w.heap.size+1,10,none⟩=some (.slice q.ka o q.kc):=cell_of (i:=10) hn.2 rfl;have hc11:n.cell? ⟨w.heap.size+1,11,none⟩=some (.slice ca cl cc):=cell_of (i:=11) hn.2 rfl
   have hc12:n.cell? ⟨w.heap.size+1,12,none⟩=some (.slice (some ⟨b,off,none⟩) 2 nc):=cell_of (i:=12) hn.2 rfl;go_simp
  simp only [pD,pB,pC];refine az hCC 25 1 (.agg (bC x xa xc)) (fun n hn=>?_) CW ?_
  ·have hc0:n.cell? ⟨w.heap.size,0,none⟩=some (.int .i64 x.k):=cell_of (i:=0) hn.1 rfl;have hc1:n.cell? ⟨w.heap.size,1,none⟩=some (.int .i64 x.v.1):=cell_of (i:=1) hn.1 rfl;have hc2:n.cell? ⟨w.heap.size,2,none⟩=some (.int .i64 x.v.2.1):=cell_of (i:=2) hn.1 rfl;have hc3:n.cell? ⟨w.heap.size,3,none⟩=some (.string x.v.2.2):=cell_of (i:=3) hn.1 rfl;have hc4:n.cell? ⟨w.heap.size,4,none⟩=some (.int .i64 x.c):=cell_of (i:=4) hn.1 rfl;have hc5:n.cell? ⟨w.heap.size,5,none⟩=some (.slice xa x.ks.length xc):=cell_of (i:=5) hn.1 rfl;go_simp
  simp only [pD,pB,pC];refine bD 2 ?_;intro w5 hb5
  have A5:=chain A4 (chain hdr hb5);have CW5:=hCC _ _ CW hb5;have QR5:=((chain hdr hb5).block _ (ae Q24)).trans Q24;have con:=jS x xa xc w5;refine wpOp_step rfl (fun K hK=>?_);go_simp;refine con.mono ?_;rintro e w6 ⟨rfl,QS6,hb6⟩;have CW6:=hCC _ _ CW5 hb6;refine hK _ _ ⟨CW6,?_⟩;clear hK K con CW CW5;refine bD 3 ?_;intro w7 hb7
  have A7:=chain A5 (chain hb6 hb7);have CW7:=hCC _ _ CW6 hb7;have QS7:=(hb7.block _ (ae QS6)).trans QS6;have QR7:=((chain hb6 hb7).block _ (ae QR5)).trans QR5;have lr7:=ae QR7;clear CW6 QS6 QR5;have HXO:gA (Old (Old S w) w7) w7 xa x.ks:=(HX.out.mono fun b h l=>⟨⟨h,l⟩,Mh l A7.size⟩).next (ah.of A7);have hfn:=jT ts (Old (Old S w) w7) x xa xc w5.heap.size p.ks w7 (fun r hr=>⟨IH.out r hr,fq HW.out.2 r hr⟩) HW.out.1 QS7 HXO
  have con:=qd ts (Old S w) (fun r=>aT dw ts r x) _ p q o ca cc (some ⟨b,off,none⟩) nc w7 0 hfn ((HP.out.mono fun b h l=>⟨h,l⟩).next (ah.of A7)) HL.out (by decide) (pR x HW.out.2 (by rw [HL.out]; decide));clear hfn HXO;unfold cU bV at con;rw [HCL.out,HL.out] at con;refine wpOp_step rfl (fun K hK=>?_);go_simp;refine con.mono ?_;rintro e w8 ⟨v8,rfl,N8,hb8⟩;clear con;obtain ⟨q2,o2,ca2,cc2,na2,nc2,rfl,B8⟩:=N8;obtain ⟨F,hF⟩:∃ F,Pl.mk p.k p.n p.x p.xs p.gs (p.ks.set 0 (aT dw ts (p.ks.getD 0 p) x))=F:=⟨_,rfl⟩
  rw [hF] at B8 ⊢;obtain ⟨cl2,hcl2⟩:∃ cl2,(ag ts F).length=cl2:=⟨_,rfl⟩
  have HCL2:=aw hcl2;have HRF:Hid (rp=F):=by show _=_; rw [← hF,HRP.out]
  unfold cU bV;rw [hcl2];clear hcl2 hF;have CW8:=hCC _ _ CW7 hb8;refine hK _ _ ⟨CW8,?_⟩;clear hK K CW7;refine bD 4 ?_;intro w9 hb9
  have A9:=chain A7 (chain hb8 hb9);have CW9:=hCC _ _ CW8 hb9;have QR9:=((chain hb8 hb9).block _ (ae QR7)).trans QR7;have B9:=B8.next (ah.of hb9);clear CW8 B8;obtain ⟨y0,y1,y2,y3,y4,y5,y6,y7,y8,y9,y10,y11,y12⟩:=aD QR9;obtain ⟨yf0,yf1,yf2,yf3,yf4,yf5,yf6,yf7,yf8,yf9,yf10,yf11,yf12⟩:=cT QR9;refine wpOp_step rfl (fun K hK=>?_);go_simp
  have AP:Below w.heap.size w (dF w9 (w.heap.size+2) F q2 o2 ca2 cl2 cc2 na2 F.ks.length nc2):=(bq (g:=w.heap.size+2) A9 (by omega) _ _ _ _ _ _ _ _ _ _ _ _ _)
  have KP:ah (fu (Old S w) w7) w9 (dF w9 (w.heap.size+2) F q2 o2 ca2 cl2 cc2 na2 F.ks.length nc2):=(bL (g:=w.heap.size+2) (ah.refl _ w9) (cR (by omega) (by omega)) _ _ _ _ _ _ _ _ _ _ _ _ _)
  have QE:(dF w9 (w.heap.size+2) F q2 o2 ca2 cl2 cc2 na2 F.ks.length nc2).heap[w.heap.size+2]? = some (.cells (aL F q2 o2 ca2 cl2 cc2 na2 F.ks.length nc2) 50 (0,0)):=(bI (g:=w.heap.size+2) QR9 _ _ _ _ _ _ _ _ _ _ _ _ _)
  have CWE:(dF w9 (w.heap.size+2) F q2 o2 ca2 cl2 cc2 na2 F.ks.length nc2).heap[w.heap.size]? = some (.cells (bC x xa xc) 27 (0,0))∧(dF w9 (w.heap.size+2) F q2 o2 ca2 cl2 cc2 na2 F.ks.length nc2).heap[w.heap.size+1]? = some (.cells (aL p q o ca cl cc (some ⟨b,off,none⟩) 2 nc) 50 (0,0)):=⟨(ij (g:=w.heap.size+2) CW9.1 (by omega) (.int .i64 F.k) (.int .i64 F.n) (.int .i64 F.x.k) (.int .i64 F.x.v.1) (.int .i64 F.x.v.2.1) (.string F.x.v.2.2) (.int .i64 F.x.c) (.slice q2.xa F.x.ks.length q2.xc) (.slice q2.sa F.xs.length q2.sc) (.slice q2.ga F.gs.length q2.gc) (.slice q2.ka o2 q2.kc) (.slice ca2 cl2 cc2) (.slice na2 F.ks.length nc2)),(ij (g:=w.heap.size+2) CW9.2 (by omega) (.int .i64 F.k) (.int .i64 F.n) (.int .i64 F.x.k) (.int .i64 F.x.v.1) (.int .i64 F.x.v.2.1) (.string F.x.v.2.2) (.int .i64 F.x.c) (.slice q2.xa F.x.ks.length q2.xc) (.slice q2.sa F.xs.length q2.sc) (.slice q2.ga F.gs.length q2.gc) (.slice q2.ka o2 q2.kc) (.slice ca2 cl2 cc2) (.slice na2 F.ks.length nc2))⟩
  refine hK _ _ ⟨CWE,?_⟩;clear hK K CWE CW9 y0 yf0 y1 yf1 y2 yf2 y3 yf3 y4 yf4 y5 yf5 y6 yf6 y7 yf7 y8 yf8 y9 yf9 y10 yf10 y11 yf11 y12 yf12;unfold dF at AP KP QE
  generalize (((((((((((((w9.setCell ⟨w.heap.size+2,0,none⟩ (.int .i64 F.k)).setCell ⟨w.heap.size+2,1,none⟩ (.int .i64 F.n)).setCell ⟨w.heap.size+2,2,none⟩ (.int .i64 F.x.k)).setCell ⟨w.heap.size+2,3,none⟩ (.int .i64 F.x.v.1)).setCell ⟨w.heap.size+2,4,none⟩ (.int .i64 F.x.v.2.1)).setCell ⟨w.heap.size+2,5,none⟩ (.string F.x.v.2.2)).setCell ⟨w.heap.size+2,6,none⟩ (.int .i64 F.x.c)).setCell ⟨w.heap.size+2,7,none⟩ (.slice q2.xa F.x.ks.length q2.xc)).setCell ⟨w.heap.size+2,8,none⟩ (.slice q2.sa F.xs.length q2.sc)).setCell ⟨w.heap.size+2,9,none⟩ (.slice q2.ga F.gs.length q2.gc)).setCell ⟨w.heap.size+2,10,none⟩ (.slice q2.ka o2 q2.kc)).setCell ⟨w.heap.size+2,11,none⟩ (.slice ca2 cl2 cc2)).setCell ⟨w.heap.size+2,12,none⟩ (.slice na2 F.ks.length nc2))=w10 at *
  refine bo (by kernel_rfl) ?_;intro w11 hb11;have A11:=chain AP hb11;have QE11:=(hb11.block _ (ae QE)).trans QE;have FIN:aY ts (fu S w) w11 (.agg (aL F q2 o2 ca2 cl2 cc2 na2 F.ks.length nc2)) F:=by
   refine ⟨q2,o2,ca2,cc2,na2,nc2,by unfold cU bV; rw [HCL2.out],((B9.next KP).next (ah.of hb11)).mono fun b h _=>?_⟩;rcases h with h | h
   ·exact .inl h.1
   ·exact .inr (by have:=A7.size; omega)
  obtain ⟨r0,r1,r2,r3,r4,r5,r6,r7,r8,r9,r10,r11,r12⟩:=aD QE11;go_wp2
  exact Me (v:=.agg (aL F q2 o2 ca2 cl2 cc2 na2 F.ks.length nc2)) (by simp [results,Tryz.results37,go_sem,r0,r1,r2,r3,r4,r5,r6,r7,r8,r9,r10,r11,r12]) rfl ⟨_,rfl,by rw [HRF.out]; exact FIN,A11⟩
 | true =>
  cases fi with
  | true =>
   have hrp:rp=mG ts x p:=by rw [ERP.out,if_neg (by decide),if_neg (by decide)]
   have HRP:Hid (mG ts x p=rp):=hrp.symm;clear hrp ERP HRP0;have con:=oT ts (Old S w) x xa xc p q o ca cc (some ⟨b,off,none⟩) nc w4 ((HX.out.mono fun b h l=>⟨h,l⟩).next (ah.of A4)) ((HP.out.mono fun b h l=>⟨h,l⟩).next (ah.of A4));unfold cU bV at con;rw [HCL.out,HL.out] at con;obtain ⟨x0,x1,x2,x3,x4,x5⟩:=dV Q04;obtain ⟨n0,n1,n2,n3,n4,n5,n6,n7,n8,n9,n10,n11,n12⟩:=aD Q14;go_wp2_with fail
   refine con.mono ?_;clear x0 x1 x2 x3 x4 x5 n0 n1 n2 n3 n4 n5 n6 n7 n8 n9 n10 n11 n12;rintro e w7 ⟨v7,rfl,N7,hb7⟩;clear con;have A7:=chain A4 hb7;have QR7:=(hb7.block _ (ae Q24)).trans Q24;have lr6:=ae Q24;obtain ⟨q2,o2,ca2,cc2,na2,nc2,rfl,B7⟩:=N7;generalize hF:mG ts x p=F at *;obtain ⟨cl2,hcl2⟩:∃ cl2,(ag ts F).length=cl2:=⟨_,rfl⟩
   have HCL2:=aw hcl2;unfold cU bV;rw [hcl2];clear hcl2 hF;obtain ⟨y0,y1,y2,y3,y4,y5,y6,y7,y8,y9,y10,y11,y12⟩:=aD QR7;obtain ⟨yf0,yf1,yf2,yf3,yf4,yf5,yf6,yf7,yf8,yf9,yf10,yf11,yf12⟩:=cT QR7;go_wp2_with fail
   have AP:Below w.heap.size w (dF w7 (w.heap.size+2) F q2 o2 ca2 cl2 cc2 na2 F.ks.length nc2):=(bq (g:=w.heap.size+2) A7 (by omega) _ _ _ _ _ _ _ _ _ _ _ _ _)
   have KP:ah (fu (Old S w) w4) w7 (dF w7 (w.heap.size+2) F q2 o2 ca2 cl2 cc2 na2 F.ks.length nc2):=(bL (g:=w.heap.size+2) (ah.refl _ w7) (cR (by omega) (by omega)) _ _ _ _ _ _ _ _ _ _ _ _ _)
   have QE:(dF w7 (w.heap.size+2) F q2 o2 ca2 cl2 cc2 na2 F.ks.length nc2).heap[w.heap.size+2]? = some (.cells (aL F q2 o2 ca2 cl2 cc2 na2 F.ks.length nc2) 50 (0,0)):=(bI (g:=w.heap.size+2) QR7 _ _ _ _ _ _ _ _ _ _ _ _ _)
   clear y0 yf0 y1 yf1 y2 yf2 y3 yf3 y4 yf4 y5 yf5 y6 yf6 y7 yf7 y8 yf8 y9 yf9 y10 yf10 y11 yf11 y12 yf12;unfold dF at AP KP QE
   generalize (((((((((((((w7.setCell ⟨w.heap.size+2,0,none⟩ (.int .i64 F.k)).setCell ⟨w.heap.size+2,1,none⟩ (.int .i64 F.n)).setCell ⟨w.heap.size+2,2,none⟩ (.int .i64 F.x.k)).setCell ⟨w.heap.size+2,3,none⟩ (.int .i64 F.x.v.1)).setCell ⟨w.heap.size+2,4,none⟩ (.int .i64 F.x.v.2.1)).setCell ⟨w.heap.size+2,5,none⟩ (.string F.x.v.2.2)).setCell ⟨w.heap.size+2,6,none⟩ (.int .i64 F.x.c)).setCell ⟨w.heap.size+2,7,none⟩ (.slice q2.xa F.x.ks.length q2.xc)).setCell ⟨w.heap.size+2,8,none⟩ (.slice q2.sa F.xs.length q2.sc)).setCell ⟨w.heap.size+2,9,none⟩ (.slice q2.ga F.gs.length q2.gc)).setCell ⟨w.heap.size+2,10,none⟩ (.slice q2.ka o2 q2.kc)).setCell ⟨w.heap.size+2,11,none⟩ (.slice ca2 cl2 cc2)).setCell ⟨w.heap.size+2,12,none⟩ (.slice na2 F.ks.length nc2))=w8 at *
   have FIN:aY ts (fu S w) w8 (.agg (aL F q2 o2 ca2 cl2 cc2 na2 F.ks.length nc2)) F:=by
    refine ⟨q2,o2,ca2,cc2,na2,nc2,by unfold cU bV; rw [HCL2.out],(B7.next KP).mono fun b h _=>?_⟩;rcases h with h | h
    ·exact .inl h.1
    ·exact .inr (by have:=A4.size; omega)
   obtain ⟨r0,r1,r2,r3,r4,r5,r6,r7,r8,r9,r10,r11,r12⟩:=aD QE;exact Me (v:=.agg (aL F q2 o2 ca2 cl2 cc2 na2 F.ks.length nc2)) (by simp [results,Tryz.results37,go_sem,r0,r1,r2,r3,r4,r5,r6,r7,r8,r9,r10,r11,r12]) rfl ⟨_,rfl,by rw [← HRP.out]; exact FIN,AP⟩
  | false =>
   have con:=lD (fun c=>c - n) gn x (.func (.func 64) #[] #[.pointer (some ⟨w3.heap.size,0,none⟩)]) xa xc w4 (Ih n hn16 w3.heap.size w4 QA4) HW.out.1 (HX.out.next (ah.of A4)).ks;obtain ⟨y,hy⟩:∃ y,lW (fun c=>c - n) x=y:=⟨_,rfl⟩
   rw [hy] at con;have hrp:rp=Pl.mk p.k p.n p.x p.xs p.gs (p.ks.set 1 (aT dw ts (p.ks.getD 1 p) y)):=by rw [ERP.out,if_neg (by decide),if_pos rfl]; unfold jw; rw [hy]
   have HWY:Hid (fF gn y):=by rw [← hy]; exact HWB.out rfl
   have HRP:Hid (Pl.mk p.k p.n p.x p.xs p.gs (p.ks.set 1 (aT dw ts (p.ks.getD 1 p) y))=rp):=hrp.symm;clear hrp ERP HRP0 HWB hy;obtain ⟨x0,x1,x2,x3,x4,x5⟩:=dV Q04;go_upto_region 6 with fail
   go_wp2_with fail
   refine con.mono ?_;rintro e w8 ⟨ya,yc,rfl,KY,hb8⟩;clear con x0 x1 x2 x3 x4 x5;have A8:=chain A4 hb8;have alm:=aa w8 (.cells (bC y ya yc) 27);have Qm:=ak w8 (bC y ya yc) 27;have Am:=chain A8 alm;have Q1m:=((chain hb8 alm).block _ (ae Q14)).trans Q14;have Q2m:=((chain hb8 alm).block _ (ae Q24)).trans Q24;have KY:=(KY.next (ah.of alm)).mono (S':=fun b=>w.heap.size+3≤b) fun b h _=>by omega
   clear Q04 Q14 Q24 QA4 A4 A8;have lbm:w.heap.size+3≤w8.heap.size:=by have:=hb8.size; omega
   go_upto_region 7 with fail
   generalize w8.alloc (.cells (bC y ya yc) 27)=wm at *;clear alm hb8;generalize w8.heap.size=bm at *;have hCC:∀ W W':World,(W.heap[bm]? = some (.cells (bC y ya yc) 27 (0,0))∧W.heap[w.heap.size+1]? = some (.cells (aL p q o ca cl cc (some ⟨b,off,none⟩) 2 nc) 50 (0,0)))→Below W.heap.size W W'→(W'.heap[bm]? = some (.cells (bC y ya yc) 27 (0,0))∧W'.heap[w.heap.size+1]? = some (.cells (aL p q o ca cl cc (some ⟨b,off,none⟩) 2 nc) 50 (0,0))):=fun W W' h hb=>⟨(hb.block _ (ae h.1)).trans h.1,(hb.block _ (ae h.2)).trans h.2⟩
   have hdr:Below wm.heap.size wm wm.drew:=(Md _ _).drew;have CW:=hCC _ _ ⟨Qm,Q1m⟩ hdr;refine aH (fun W=>W.heap[bm]? = some (.cells (bC y ya yc) 27 (0,0))∧W.heap[w.heap.size+1]? = some (.cells (aL p q o ca cl cc (some ⟨b,off,none⟩) 2 nc) 50 (0,0))) (by kernel_rfl) ?_;refine az hCC 34 0 (.agg (aL p q o ca cl cc (some ⟨b,off,none⟩) 2 nc)) (fun n hn=>?_) CW ?_
   ·have hc0:n.cell? ⟨w.heap.size+1,0,none⟩=some (.int .i64 p.k):=cell_of (i:=0) hn.2 rfl;have hc1:n.cell? ⟨w.heap.size+1,1,none⟩=some (.int .i64 p.n):=cell_of (i:=1) hn.2 rfl;have hc2:n.cell? ⟨w.heap.size+1,2,none⟩=some (.int .i64 p.x.k):=cell_of (i:=2) hn.2 rfl;have hc3:n.cell? ⟨w.heap.size+1,3,none⟩=some (.int .i64 p.x.v.1):=cell_of (i:=3) hn.2 rfl;have hc4:n.cell? ⟨w.heap.size+1,4,none⟩=some (.int .i64 p.x.v.2.1):=cell_of (i:=4) hn.2 rfl;have hc5:n.cell? ⟨w.heap.size+1,5,none⟩=some (.string p.x.v.2.2):=cell_of (i:=5) hn.2 rfl
    have hc6:n.cell? ⟨w.heap.size+1,6,none⟩=some (.int .i64 p.x.c):=cell_of (i:=6) hn.2 rfl;have hc7:n.cell? ⟨w.heap.size+1,7,none⟩=some (.slice q.xa p.x.ks.length q.xc):=cell_of (i:=7) hn.2 rfl;have hc8:n.cell? ⟨w.heap.size+1,8,none⟩=some (.slice q.sa p.xs.length q.sc):=cell_of (i:=8) hn.2 rfl;have hc9:n.cell? ⟨w.heap.size+1,9,none⟩=some (.slice q.ga p.gs.length q.gc):=cell_of (i:=9) hn.2 rfl;have hc10:n.cell? ⟨w.heap.size+1,10,none⟩=some (.slice q.ka o q.kc):=cell_of (i:=10) hn.2 rfl;have hc11:n.cell? ⟨w.heap.size+1,11,none⟩=some (.slice ca cl cc):=cell_of (i:=11) hn.2 rfl
    have hc12:n.cell? ⟨w.heap.size+1,12,none⟩=some (.slice (some ⟨b,off,none⟩) 2 nc):=cell_of (i:=12) hn.2 rfl;go_simp
   simp only [pD,pB,pC];refine az hCC 35 1 (.agg (bC y ya yc)) (fun n hn=>?_) CW ?_
   ·have hc0:n.cell? ⟨bm,0,none⟩=some (.int .i64 y.k):=cell_of (i:=0) hn.1 rfl;have hc1:n.cell? ⟨bm,1,none⟩=some (.int .i64 y.v.1):=cell_of (i:=1) hn.1 rfl;have hc2:n.cell? ⟨bm,2,none⟩=some (.int .i64 y.v.2.1):=cell_of (i:=2) hn.1 rfl;have hc3:n.cell? ⟨bm,3,none⟩=some (.string y.v.2.2):=cell_of (i:=3) hn.1 rfl;have hc4:n.cell? ⟨bm,4,none⟩=some (.int .i64 y.c):=cell_of (i:=4) hn.1 rfl;have hc5:n.cell? ⟨bm,5,none⟩=some (.slice ya y.ks.length yc):=cell_of (i:=5) hn.1 rfl;go_simp
   simp only [pD,pB,pC];refine bD 2 ?_;intro w5 hb5
   have A5:=chain Am (chain hdr hb5);have CW5:=hCC _ _ CW hb5;have QR5:=((chain hdr hb5).block _ (ae Q2m)).trans Q2m;have con:=jS y ya yc w5;refine wpOp_step rfl (fun K hK=>?_);go_simp;refine con.mono ?_;rintro e w6 ⟨rfl,QS6,hb6⟩;have CW6:=hCC _ _ CW5 hb6;refine hK _ _ ⟨CW6,?_⟩;clear hK K con CW CW5;refine bD 3 ?_;intro w7 hb7
   have A7:=chain A5 (chain hb6 hb7);have CW7:=hCC _ _ CW6 hb7;have QS7:=(hb7.block _ (ae QS6)).trans QS6;have QR7:=((chain hb6 hb7).block _ (ae QR5)).trans QR5;have lr7:=ae QR7;clear CW6 QS6 QR5;have HXO:gA (Old (fun b=>Old S w b∨w.heap.size+3≤b) w7) w7 ya y.ks:=(((KY.next (ah.of (chain hdr (chain hb5 (chain hb6 hb7))))).mono fun b h l=>⟨.inr h,l⟩))
   have hfn:=jT ts (Old (fun b=>Old S w b∨w.heap.size+3≤b) w7) y ya yc w5.heap.size p.ks w7 (fun r hr=>⟨IH.out r hr,fq HW.out.2 r hr⟩) HWY.out QS7 HXO;have con:=qd ts (fun b=>Old S w b∨w.heap.size+3≤b) (fun r=>aT dw ts r y) _ p q o ca cc (some ⟨b,off,none⟩) nc w7 1 hfn ((HP.out.mono fun b h l=>.inl ⟨h,l⟩).next (ah.of A7)) HL.out (by decide) (pR y HW.out.2 (by rw [HL.out]; decide));clear hfn HXO;unfold cU bV at con;rw [HCL.out,HL.out] at con;refine wpOp_step rfl (fun K hK=>?_);go_simp;refine con.mono ?_;rintro e w8 ⟨v8,rfl,N8,hb8⟩;clear con
   obtain ⟨q2,o2,ca2,cc2,na2,nc2,rfl,B8⟩:=N8;obtain ⟨F,hF⟩:∃ F,Pl.mk p.k p.n p.x p.xs p.gs (p.ks.set 1 (aT dw ts (p.ks.getD 1 p) y))=F:=⟨_,rfl⟩
   rw [hF] at B8 ⊢;obtain ⟨cl2,hcl2⟩:∃ cl2,(ag ts F).length=cl2:=⟨_,rfl⟩
   have HCL2:=aw hcl2;have HRF:Hid (rp=F):=by show _=_; rw [← hF,HRP.out]
   unfold cU bV;rw [hcl2];clear hcl2 hF;have CW8:=hCC _ _ CW7 hb8;refine hK _ _ ⟨CW8,?_⟩;clear hK K CW7;refine bD 4 ?_;intro w9 hb9
   have A9:=chain A7 (chain hb8 hb9);have CW9:=hCC _ _ CW8 hb9;have QR9:=((chain hb8 hb9).block _ (ae QR7)).trans QR7;have B9:=B8.next (ah.of hb9);clear CW8 B8;obtain ⟨y0,y1,y2,y3,y4,y5,y6,y7,y8,y9,y10,y11,y12⟩:=aD QR9;obtain ⟨yf0,yf1,yf2,yf3,yf4,yf5,yf6,yf7,yf8,yf9,yf10,yf11,yf12⟩:=cT QR9;refine wpOp_step rfl (fun K hK=>?_);go_simp
   have AP:Below w.heap.size w (dF w9 (w.heap.size+2) F q2 o2 ca2 cl2 cc2 na2 F.ks.length nc2):=(bq (g:=w.heap.size+2) A9 (by omega) _ _ _ _ _ _ _ _ _ _ _ _ _)
   have KP:ah (fu (fun b=>Old S w b∨w.heap.size+3≤b) w7) w9 (dF w9 (w.heap.size+2) F q2 o2 ca2 cl2 cc2 na2 F.ks.length nc2):=(bL (g:=w.heap.size+2) (ah.refl _ w9) (fun h=>by rcases h with h | h; exact cR (by omega) (by omega) h; omega) _ _ _ _ _ _ _ _ _ _ _ _ _)
   have QE:(dF w9 (w.heap.size+2) F q2 o2 ca2 cl2 cc2 na2 F.ks.length nc2).heap[w.heap.size+2]? = some (.cells (aL F q2 o2 ca2 cl2 cc2 na2 F.ks.length nc2) 50 (0,0)):=(bI (g:=w.heap.size+2) QR9 _ _ _ _ _ _ _ _ _ _ _ _ _)
   have CWE:(dF w9 (w.heap.size+2) F q2 o2 ca2 cl2 cc2 na2 F.ks.length nc2).heap[bm]? = some (.cells (bC y ya yc) 27 (0,0))∧(dF w9 (w.heap.size+2) F q2 o2 ca2 cl2 cc2 na2 F.ks.length nc2).heap[w.heap.size+1]? = some (.cells (aL p q o ca cl cc (some ⟨b,off,none⟩) 2 nc) 50 (0,0)):=⟨(ij (g:=w.heap.size+2) CW9.1 (by omega) (.int .i64 F.k) (.int .i64 F.n) (.int .i64 F.x.k) (.int .i64 F.x.v.1) (.int .i64 F.x.v.2.1) (.string F.x.v.2.2) (.int .i64 F.x.c) (.slice q2.xa F.x.ks.length q2.xc) (.slice q2.sa F.xs.length q2.sc) (.slice q2.ga F.gs.length q2.gc) (.slice q2.ka o2 q2.kc) (.slice ca2 cl2 cc2) (.slice na2 F.ks.length nc2)),(ij (g:=w.heap.size+2) CW9.2 (by omega) (.int .i64 F.k) (.int .i64 F.n) (.int .i64 F.x.k) (.int .i64 F.x.v.1) (.int .i64 F.x.v.2.1) (.string F.x.v.2.2) (.int .i64 F.x.c) (.slice q2.xa F.x.ks.length q2.xc) (.slice q2.sa F.xs.length q2.sc) (.slice q2.ga F.gs.length q2.gc) (.slice q2.ka o2 q2.kc) (.slice ca2 cl2 cc2) (.slice na2 F.ks.length nc2))⟩
   refine hK _ _ ⟨CWE,?_⟩;clear hK K CWE CW9 y0 yf0 y1 yf1 y2 yf2 y3 yf3 y4 yf4 y5 yf5 y6 yf6 y7 yf7 y8 yf8 y9 yf9 y10 yf10 y11 yf11 y12 yf12;unfold dF at AP KP QE
   generalize (((((((((((((w9.setCell ⟨w.heap.size+2,0,none⟩ (.int .i64 F.k)).setCell ⟨w.heap.size+2,1,none⟩ (.int .i64 F.n)).setCell ⟨w.heap.size+2,2,none⟩ (.int .i64 F.x.k)).setCell ⟨w.heap.size+2,3,none⟩ (.int .i64 F.x.v.1)).setCell ⟨w.heap.size+2,4,none⟩ (.int .i64 F.x.v.2.1)).setCell ⟨w.heap.size+2,5,none⟩ (.string F.x.v.2.2)).setCell ⟨w.heap.size+2,6,none⟩ (.int .i64 F.x.c)).setCell ⟨w.heap.size+2,7,none⟩ (.slice q2.xa F.x.ks.length q2.xc)).setCell ⟨w.heap.size+2,8,none⟩ (.slice q2.sa F.xs.length q2.sc)).setCell ⟨w.heap.size+2,9,none⟩ (.slice q2.ga F.gs.length q2.gc)).setCell ⟨w.heap.size+2,10,none⟩ (.slice q2.ka o2 q2.kc)).setCell ⟨w.heap.size+2,11,none⟩ (.slice ca2 cl2 cc2)).setCell ⟨w.heap.size+2,12,none⟩ (.slice na2 F.ks.length nc2))=w10 at *
   refine bo (by kernel_rfl) ?_;intro w11 hb11;have A11:=chain AP hb11;have QE11:=(hb11.block _ (ae QE)).trans QE;have FIN:aY ts (fu S w) w11 (.agg (aL F q2 o2 ca2 cl2 cc2 na2 F.ks.length nc2)) F:=by
    refine ⟨q2,o2,ca2,cc2,na2,nc2,by unfold cU bV; rw [HCL2.out],((B9.next KP).next (ah.of hb11)).mono fun b h _=>?_⟩;rcases h with (h | h) | h
    ·exact .inl h.1
    ·exact .inr (by omega)
    ·exact .inr (by have:=A7.size; omega)
   obtain ⟨r0,r1,r2,r3,r4,r5,r6,r7,r8,r9,r10,r11,r12⟩:=aD QE11;go_wp2
   exact Me (v:=.agg (aL F q2 o2 ca2 cl2 cc2 na2 F.ks.length nc2)) (by simp [results,Tryz.results37,go_sem,r0,r1,r2,r3,r4,r5,r6,r7,r8,r9,r10,r11,r12]) rfl ⟨_,rfl,by rw [HRF.out]; exact FIN,A11⟩
theorem Di (ts:List (List Int)) (p:Pl) (ih:∀ r ∈ p.ks,mj ts r) (hk:p.k=4):∀ (S:Nat→Prop) (x:Ex) (xa:Option Addr) (xc:Nat) (q:Pw) (o:Nat) (ca:Option Addr) (cc:Nat) (na:Option Addr) (nc:Nat) (w:World),eY x=false→fF gn x→fD ts p→gA S w xa x.ks→kU ts S w p q ca na →
 Calls Tryz.prog 21 #[iU x.k x.v x.c xa x.ks.length xc,cU ts p q o ca cc na nc] w fun e w'=>∃ v,e = .returned v∧aY ts (fu S w) w' v (aT dw ts p x)∧Below w.heap.size w w':=by
 intro S x xa xc q o ca cc na nc w ht hw hsh hx hp;obtain ⟨cl,hcl⟩:∃ cl,(ag ts p).length=cl:=⟨_,rfl⟩
 have HCL:=aw hcl;obtain ⟨rp,hrp⟩:∃ rp,aT dw ts p x=rp:=⟨_,rfl⟩
 have HRP:=aw hrp;rw [hrp];unfold cU bV;rw [hcl];clear hcl hrp;have A:Below w.heap.size w (((w.alloc (.cells (bC x xa xc) 27)).alloc (.cells (aL p q o ca cl cc na p.ks.length nc) 50)).alloc (.cells aJ 50)):=((((Md w.heap.size w).alloc (Mc _) (.cells (bC x xa xc) 27)).alloc (by simp only [Mf]; omega) (.cells (aL p q o ca cl cc na p.ks.length nc) 50)).alloc (by simp only [Mf]; omega) (.cells aJ 50))
 have Z:w.heap.size+3≤(((w.alloc (.cells (bC x xa xc) 27)).alloc (.cells (aL p q o ca cl cc na p.ks.length nc) 50)).alloc (.cells aJ 50)).heap.size:=by simp only [Mf]; omega
 have Q0:(((w.alloc (.cells (bC x xa xc) 27)).alloc (.cells (aL p q o ca cl cc na p.ks.length nc) 50)).alloc (.cells aJ 50)).heap[w.heap.size]? = some (.cells (bC x xa xc) 27 (0,0)):=by
  rw [aG _ _ (by simp only [Mf]; omega),aG _ _ (by simp only [Mf]; omega)];exact aB w (bC x xa xc) 27 rfl
 have Q1:(((w.alloc (.cells (bC x xa xc) 27)).alloc (.cells (aL p q o ca cl cc na p.ks.length nc) 50)).alloc (.cells aJ 50)).heap[w.heap.size+1]? = some (.cells (aL p q o ca cl cc na p.ks.length nc) 50 (0,0)):=by
  rw [aG _ _ (by simp only [Mf]; omega)];exact aB (w.alloc (.cells (bC x xa xc) 27)) (aL p q o ca cl cc na p.ks.length nc) 50 (by simp only [Mf])
 have Q2:(((w.alloc (.cells (bC x xa xc) 27)).alloc (.cells (aL p q o ca cl cc na p.ks.length nc) 50)).alloc (.cells aJ 50)).heap[w.heap.size+2]? = some (.cells aJ 50 (0,0)):=by
  exact aB ((w.alloc (.cells (bC x xa xc) 27)).alloc (.cells (aL p q o ca cl cc na p.ks.length nc) 50)) aJ 50 (by simp only [Mf])
 have HX:=aw hx;have HP:=aw hp;have HW:Hid (fF gn x∧fD ts p):=⟨hw,hsh⟩
 have HT:Hid (eY x=(x.k == 1 && (cls x.v.1 x.v.2.1 == some true))):=iz x;clear hx hp hw hsh;have b2:(p.k == 2)=false:=beq_false_of_ne (by omega)
 have b8:(p.k == 8)=false:=beq_false_of_ne (by omega)
 have b9:(p.k == 9)=false:=beq_false_of_ne (by omega)
 have b10:(p.k == 10)=false:=beq_false_of_ne (by omega)
 have b11:(p.k == 11)=false:=beq_false_of_ne (by omega)
 have b5:(p.k == 5)=false:=beq_false_of_ne (by omega)
 have b6:(p.k == 6)=false:=beq_false_of_ne (by omega)
 have b4:(p.k == 4)=true:=by simpa using hk
 have IH:=aw ih;have HK:=aw hk;clear hk ih;go_enter Tryz.func21,Tryz.ntmps21;go_upto_region 1 with fail
 generalize (((w.alloc (.cells (bC x xa xc) 27)).alloc (.cells (aL p q o ca cl cc na p.ks.length nc) 50)).alloc (.cells aJ 50))=w3 at *;have HTF:=aw ht;have x0:w3.cell? ⟨w.heap.size,0,none⟩=some (.int .i64 x.k):=cell_of (i:=0) Q0 rfl;have x1:w3.cell? ⟨w.heap.size,1,none⟩=some (.int .i64 x.v.1):=cell_of (i:=1) Q0 rfl;have x2:w3.cell? ⟨w.heap.size,2,none⟩=some (.int .i64 x.v.2.1):=cell_of (i:=2) Q0 rfl;have x3:w3.cell? ⟨w.heap.size,3,none⟩=some (.string x.v.2.2):=cell_of (i:=3) Q0 rfl;have h0:(x.k == 1)=false∨((x.k == 1)=true∧(cls x.v.1 x.v.2.1 == some true)=false):=by
  rw [HT.out] at ht;cases h1:(x.k == 1) with
  | false=>exact .inl rfl
  | true=>rw [h1,Bool.true_and] at ht; exact .inr ⟨rfl,ht⟩
 clear ht HT;rcases h0 with h1 | ⟨h1,h2⟩
 all_goals first
  |(have con:=dW x.v.1 x.v.2.1 x.v.2.2 w3
    rw [h2] at con;go_wp2_with fail
    refine con.mono ?_;rintro e w4 ⟨rfl,hb4⟩;have A4:=chain A hb4;have Q04:=(hb4.block _ (ae Q0)).trans Q0;have Q14:=(hb4.block _ (ae Q1)).trans Q1;have Q24:=(hb4.block _ (ae Q2)).trans Q2;clear con hb4 A Z Q0 Q1 Q2 h1 h2 x0 x1 x2 x3;dsimp only;go_upto_region 3 with fail)
  |(go_upto_region 3 with fail
    have A4:=A;have Q04:=Q0;have Q14:=Q1;have Q24:=Q2;clear A Z Q0 Q1 Q2 h1 x0 x1 x2 x3;generalize w3=w4 at *)
 all_goals (
  have n0:w4.cell? ⟨w.heap.size+1,0,none⟩=some (.int .i64 p.k):=cell_of (i:=0) Q14 rfl;clear n0;have con:=xm ts p IH.out HK.out (Old S w) x xa xc q o ca cc na nc w4 HTF.out HW.out.1 HW.out.2 ((HX.out.mono fun b h l=>⟨h,l⟩).next (ah.of A4)) ((HP.out.mono fun b h l=>⟨h,l⟩).next (ah.of A4));unfold cU bV at con;rw [HCL.out] at con;obtain ⟨x0,x1,x2,x3,x4,x5⟩:=dV Q04;obtain ⟨n0,n1,n2,n3,n4,n5,n6,n7,n8,n9,n10,n11,n12⟩:=aD Q14;go_wp2_with fail
  refine con.mono ?_;clear x0 x1 x2 x3 x4 x5 n0 n1 n2 n3 n4 n5 n6 n7 n8 n9 n10 n11 n12;rintro e w7 ⟨v7,rfl,N7,hb7⟩;clear con;have A7:=chain A4 hb7;have QR7:=(hb7.block _ (ae Q24)).trans Q24;have lr6:=ae Q24;obtain ⟨q2,o2,ca2,cc2,na2,nc2,rfl,B7⟩:=N7;generalize hF:aT dw ts p x=F at *;obtain ⟨cl2,hcl2⟩:∃ cl2,(ag ts F).length=cl2:=⟨_,rfl⟩
  have HCL2:=aw hcl2;unfold cU bV;rw [hcl2];clear hcl2 hF;obtain ⟨y0,y1,y2,y3,y4,y5,y6,y7,y8,y9,y10,y11,y12⟩:=aD QR7;obtain ⟨yf0,yf1,yf2,yf3,yf4,yf5,yf6,yf7,yf8,yf9,yf10,yf11,yf12⟩:=cT QR7;go_wp2_with fail
  have AP:Below w.heap.size w (dF w7 (w.heap.size+2) F q2 o2 ca2 cl2 cc2 na2 F.ks.length nc2):=(bq (g:=w.heap.size+2) A7 (by omega) _ _ _ _ _ _ _ _ _ _ _ _ _)
  have KP:ah (fu (Old S w) w4) w7 (dF w7 (w.heap.size+2) F q2 o2 ca2 cl2 cc2 na2 F.ks.length nc2):=(bL (g:=w.heap.size+2) (ah.refl _ w7) (cR (by omega) (by omega)) _ _ _ _ _ _ _ _ _ _ _ _ _)
  have QE:(dF w7 (w.heap.size+2) F q2 o2 ca2 cl2 cc2 na2 F.ks.length nc2).heap[w.heap.size+2]? = some (.cells (aL F q2 o2 ca2 cl2 cc2 na2 F.ks.length nc2) 50 (0,0)):=(bI (g:=w.heap.size+2) QR7 _ _ _ _ _ _ _ _ _ _ _ _ _)
  clear y0 yf0 y1 yf1 y2 yf2 y3 yf3 y4 yf4 y5 yf5 y6 yf6 y7 yf7 y8 yf8 y9 yf9 y10 yf10 y11 yf11 y12 yf12;unfold dF at AP KP QE
  generalize (((((((((((((w7.setCell ⟨w.heap.size+2,0,none⟩ (.int .i64 F.k)).setCell ⟨w.heap.size+2,1,none⟩ (.int .i64 F.n)).setCell ⟨w.heap.size+2,2,none⟩ (.int .i64 F.x.k)).setCell ⟨w.heap.size+2,3,none⟩ (.int .i64 F.x.v.1)).setCell ⟨w.heap.size+2,4,none⟩ (.int .i64 F.x.v.2.1)).setCell ⟨w.heap.size+2,5,none⟩ (.string F.x.v.2.2)).setCell ⟨w.heap.size+2,6,none⟩ (.int .i64 F.x.c)).setCell ⟨w.heap.size+2,7,none⟩ (.slice q2.xa F.x.ks.length q2.xc)).setCell ⟨w.heap.size+2,8,none⟩ (.slice q2.sa F.xs.length q2.sc)).setCell ⟨w.heap.size+2,9,none⟩ (.slice q2.ga F.gs.length q2.gc)).setCell ⟨w.heap.size+2,10,none⟩ (.slice q2.ka o2 q2.kc)).setCell ⟨w.heap.size+2,11,none⟩ (.slice ca2 cl2 cc2)).setCell ⟨w.heap.size+2,12,none⟩ (.slice na2 F.ks.length nc2))=w8 at *
  have FIN:aY ts (fu S w) w8 (.agg (aL F q2 o2 ca2 cl2 cc2 na2 F.ks.length nc2)) F:=by
   refine ⟨q2,o2,ca2,cc2,na2,nc2,by unfold cU bV; rw [HCL2.out],(B7.next KP).mono fun b h _=>?_⟩;rcases h with h | h
   ·exact .inl h.1
   ·exact .inr (by have:=A4.size; omega)
  obtain ⟨r0,r1,r2,r3,r4,r5,r6,r7,r8,r9,r10,r11,r12⟩:=aD QE;exact Me (v:=.agg (aL F q2 o2 ca2 cl2 cc2 na2 F.ks.length nc2)) (by simp [results,Tryz.results21,go_sem,r0,r1,r2,r3,r4,r5,r6,r7,r8,r9,r10,r11,r12]) rfl ⟨_,rfl,by rw [← HRP.out]; exact FIN,AP⟩
  )
theorem H4 (ts:List (List Int)):∀ p,mj ts p:=Pl.ind fun k n y xs gs ks ih=>by
 intro S x xa xc q o ca cc na nc w hw hsh hx hp
 cases ht:eY x with
 | true=>exact CR ts (.mk k n y xs gs ks) S x xa xc q o ca cc na nc w ht hw hsh hx hp
 | false =>
  have hk:1≤k∧k≤13:=(bM hsh).1
  have cs:k=2∨(k=8∨k=9∨k=10∨k=11)∨(k=5∨k=6)∨k=4∨(k=1∨k=3∨k=7∨k=12∨k=13):=by omega
  rcases cs with c | c | c | c | c
  ·exact xg ts (.mk k n y xs gs ks) c S x xa xc q o ca cc na nc w ht hw hsh hx hp
  ·exact GJ ts (.mk k n y xs gs ks) ih c S x xa xc q o ca cc na nc w ht hw hsh hx hp
  ·exact Dj ts (.mk k n y xs gs ks) ih c S x xa xc q o ca cc na nc w ht hw hsh hx hp
  ·exact Di ts (.mk k n y xs gs ks) ih c S x xa xc q o ca cc na nc w ht hw hsh hx hp
  ·exact yA ts (.mk k n y xs gs ks) c S x xa xc q o ca cc na nc w ht hw hsh hx hp
end Go.Proofs.YtjebpkhkjkjphaaGreat
