/- Together: G1, G3, G4, G5, N1, G2, G6, SA. -/
import Derived.Test.YtohjlfhmnmcndaaGreatM8
import Derived.Test.YtohjlfhmnmcndaaGreatM6
import Derived.Test.YtohjlfhmnmcndaaGreatM7
namespace Go.Proofs.YtohjlfhmnmcndaaGreat
open Go.RowKit Go.Lib Go.Shelf
set_option maxRecDepth 100000
set_option maxHeartbeats 16000000
abbrev Pt:Type:=List Vl × List Zp
def dL (ps:List Pt) (x:Kp):List Pt:=if h:ps.length=0 then ps ++ [(x.1,[])] else if aG (ps[ps.length - 1]'(by omega)).1 x.1=0 then ps else ps ++ [(x.1,[])]
def lZ (ps:List Pt) (r:Zp):List Pt:=if h:ps.length=0 then ps else ps.set (ps.length - 1) ((ps[ps.length - 1]'(by omega)).1,(ps[ps.length - 1]'(by omega)).2 ++ [r])
def dD (L:List Kp):List Pt:=L.foldl (fun ps x=>lZ (dL ps x) x.2) []
theorem BJ {L:List Kp} {k:Nat} (h:k<L.length):dD (L.take (k+1))=lZ (dL (dD (L.take k)) L[k]) L[k].2:=by
 unfold dD;rw [Nz h,List.foldl_append];rfl
theorem DK (ps:List Pt) (x:Kp):(dL ps x).length≤ps.length+1∧0<(dL ps x).length:=by
 unfold dL
 split
 ·simp
 ·split
  ·omega
  ·simp
theorem Fj (ps:List Pt) (r:Zp):(lZ ps r).length=ps.length:=by
 unfold lZ
 split
 ·rfl
 ·simp
theorem Js {ps:List Pt} {m:Nat} (h:ps.length=m+1) (r:Zp):lZ ps r=ps.set m ((ps[m]'(by omega)).1,(ps[m]'(by omega)).2 ++ [r]):=by
 unfold lZ;rw [dif_neg (by omega)];simp only [h,Nat.add_sub_cancel]
theorem Ed {ps:List Pt} (h:ps.length=0) (x:Kp):dL ps x=ps ++ [(x.1,[])]:=by unfold dL; rw [dif_pos h]
theorem Aj {ps:List Pt} {m:Nat} (h:ps.length=m+1) {x:Kp} (hc:aG (ps[m]'(by omega)).1 x.1=0):dL ps x=ps:=by
 unfold dL;rw [dif_neg (by omega)];simp only [h,Nat.add_sub_cancel];rw [if_pos hc]
theorem xw {ps:List Pt} {m:Nat} (h:ps.length=m+1) {x:Kp} (hc:¬ aG (ps[m]'(by omega)).1 x.1=0):dL ps x=ps ++ [(x.1,[])]:=by
 unfold dL;rw [dif_neg (by omega)];simp only [h,Nat.add_sub_cancel];rw [if_neg hc]
theorem qu (L:List Kp):(dD L).length≤L.length∧∀ p ∈ dD L,p.2.length≤L.length:=by
 have aux:∀ (L:List Kp) (ps:List Pt) (n:Nat),ps.length≤n→(∀ p ∈ ps,p.2.length≤n)→(L.foldl (fun ps x=>lZ (dL ps x) x.2) ps).length≤n+L.length∧∀ p ∈ L.foldl (fun ps x=>lZ (dL ps x) x.2) ps,p.2.length≤n+L.length:=by
  intro L
  induction L with
  | nil=>intro ps n h1 h2; exact ⟨h1,h2⟩
  | cons x r ih =>
   intro ps n h1 h2;have ho:∀ p ∈ dL ps x,p.2.length≤n:=fun p hp=>by
    unfold dL at hp
    split at hp
    ·rcases List.mem_append.1 hp with hp | hp
     ·exact h2 p hp
     ·rw [List.mem_singleton.1 hp]; exact Nr _
    ·split at hp
     ·exact h2 p hp
     ·rcases List.mem_append.1 hp with hp | hp
      ·exact h2 p hp
      ·rw [List.mem_singleton.1 hp]; exact Nr _
   have:=ih (lZ (dL ps x) x.2) (n+1) (by rw [Fj]; have:=(DK ps x).1; omega) (fun p hp=>by
    unfold lZ at hp
    split at hp
    ·have:=ho p hp; omega
    ·rcases List.mem_or_eq_of_mem_set hp with hp | rfl
     ·have:=ho p hp; omega
     ·have:=ho _ (Ns (l:=dL ps x) (n:=(dL ps x).length - 1) (by omega));simp only [Nx,Pd]; omega)
   simp only [OL,N4];refine ⟨by have:=this.1; omega,fun p hp=>by have:=this.2 p hp; omega⟩
 have:=aux L [] 0 (Nj _) (fun p hp=>by simp at hp);unfold dD
 simpa using this
theorem nF {W:World} {b b':Nat} {e e':TypeId} {s s' n n':Nat} {v v':Value} {xs xs':List Value} (hne:e≠e') (h:W.ownsRow b e s v n xs) (h':W.ownsRow b' e' s' v' n' xs'):v.ownBlock=none∨v.ownBlock≠v'.ownBlock:=by
 rcases h.2 with ⟨rfl,_⟩ | ⟨g,cap,cur,rfl,_,hg,_⟩
 ·exact .inl rfl
 ·refine .inr fun e0=>?_
  rcases h'.2 with ⟨rfl,_⟩ | ⟨g',cap',cur',rfl,_,hg',_⟩
  ·simp [Value.ownBlock] at e0
  ·have e1:g=g':=by simpa [Value.ownBlock] using e0
   subst e1;rw [hg] at hg';injection hg' with hg'
   injection hg' with _ he _
   exact hne he
theorem jy {W:World} {B:Nat} {e:TypeId} {s n:Nat} {v:Value} {xs:List Value} (h:W.ownsRow B e s v n xs) {q:Nat} {cs:Array Value} {T:TypeId} {f:Nat × Nat} (hq:W.heap[q]? = some (.cells cs T f)) (hne:T≠e):v.ownBlock≠some q:=by
 intro e0;rcases h.2 with ⟨rfl,_⟩ | ⟨g,cap,cur,rfl,_,hg,_⟩
 ·simp [Value.ownBlock] at e0
 ·have e1:g=q:=by simpa [Value.ownBlock] using e0
  subst e1;rw [hg] at hq;injection hq with hq
  injection hq with _ he _
  exact hne he.symm
theorem H7 {W:World} {b b':Nat} {e:TypeId} {s n:Nat} {v:Value} {xs:List Value} (h:W.ownsRow b e s v n xs) (hb:b'≤b):W.ownsRow b' e s v n xs:=by
 obtain ⟨h0,h1⟩:=h;refine ⟨h0,?_⟩;rcases h1 with h1 | ⟨g,cap,cur,e,hg,h3⟩
 ·exact .inl h1
 ·exact .inr ⟨g,cap,cur,e,Nw hb hg,h3⟩
theorem eD {W:World} {base e size n:Nat} {v:Value} {xs:List Value} (h:W.ownsRow base e size v n xs):∃ a c,v = .slice a n c:=by
 obtain ⟨_,⟨rfl,h0⟩ | ⟨g,c1,cur,rfl,_⟩⟩:=h
 ·exact ⟨none,0,by rw [h0]⟩
 ·exact ⟨_,c1,rfl⟩
structure lB (w0:World) (B:Nat) (W:World) (v:Value) (ps:List Pt) (xs:List Value) (Bl:Nat) (rv:Nat→Value) (zs:Nat→List Value):Prop where
 own:W.ownsRow B 154 2 v ps.length xs
 lo:B≤Bl
 hi:Bl≤W.heap.size
 key:∀ i (h:i<ps.length),∃ ka kc,xs[i*2]? = some (.slice ka ps[i].1.length kc)∧aM w0 ka ps[i].1
 cell:∀ i (_:i<ps.length),xs[i*2+1]? = some (rv i)
 row:∀ i (h:i<ps.length),W.ownsRow (if i+1=ps.length then Bl else B) 58 2 (rv i) ps[i].2.length (zs i)∧jF w0 (zs i) ps[i].2
 low:∀ i,i+1<ps.length→∀ g,(rv i).ownBlock=some g→g<Bl
def lq (w0:World) (B:Nat) (W:World) (v:Value) (ps:List Pt):Prop:=∃ xs Bl rv zs,lB w0 B W v ps xs Bl rv zs
theorem lB.next {w0:World} {B:Nat} {W w1:World} {v:Value} {ps:List Pt} {xs:List Value} {Bl:Nat} {rv:Nat→Value} {zs:Nat→List Value} (h:lB w0 B W v ps xs Bl rv zs) (hb:Below W.heap.size W w1):lB w0 B w1 v ps xs Bl rv zs :=
 ⟨aS h.own hb,h.lo,Nw h.hi hb.size,h.key,h.cell,fun i hi=>⟨aS (h.row i hi).1 hb,(h.row i hi).2⟩,h.low⟩
theorem lq.next {w0:World} {B:Nat} {W w1:World} {v:Value} {ps:List Pt} (h:lq w0 B W v ps) (hb:Below W.heap.size W w1):lq w0 B w1 v ps:=by
 obtain ⟨xs,Bl,rv,zs,h⟩:=h;exact ⟨xs,Bl,rv,zs,h.next hb⟩
theorem lq.nil (w0:World) (B:Nat) (W:World) (hB:B≤W.heap.size):lq w0 B W (.slice none 0 0) [] :=
 ⟨[],B,fun _=>.slice none 0 0,fun _=>[],NP _ _ _ _,Nj _,hB,fun _ hi=>absurd hi (N7 _),fun _ hi=>absurd hi (N7 _),fun _ hi=>absurd hi (N7 _),fun _ hi=>absurd hi (N7 _)⟩
theorem lB.Io {w0:World} {B:Nat} {W:World} {v:Value} {ps:List Pt} {xs:List Value} {Bl:Nat} {rv:Nat→Value} {zs:Nat→List Value} (h:lB w0 B W v ps xs Bl rv zs) {i:Nat} (hi:i<ps.length):W.ownsRow B 58 2 (rv i) ps[i].2.length (zs i):=by
 refine H7 (h.row i hi).1 ?_
 split
 ·exact h.lo
 ·exact Nj _
theorem lB.push {w0:World} {B:Nat} {W w1:World} {v v':Value} {ps:List Pt} {xs:List Value} {Bl:Nat} {rv:Nat→Value} {zs:Nat→List Value} (h:lB w0 B W v ps xs Bl rv zs) {ka:Option Addr} {kc:Nat} {k:List Vl} (hs:aM w0 ka k) (hg:W.grownBy w1 v.ownBlock)
  (ho:w1.ownsRow B 154 2 v' (ps.length+1) (xs ++ [.slice ka k.length kc,.slice none 0 0])):lq w0 B w1 v' (ps ++ [(k,[])]):=by
 have lx:=h.own.1;refine ⟨_,w1.heap.size,fun i=>if i=ps.length then .slice none 0 0 else rv i,fun i=>if i=ps.length then [] else zs i,by simpa using ho,Nw h.lo (Nw h.hi hg.size),Nj _,fun i hi=>?_,fun i hi=>?_,fun i hi=>?_,fun i hi g hgi=>?_⟩
 ·by_cases hi':i<ps.length
  ·obtain ⟨ka',kc',e0,s0⟩:=h.key i hi';rw [Ny hi'];exact ⟨ka',kc',by rw [NC (by omega)]; exact e0,s0⟩
  ·have e:i=ps.length:=by simp at hi; omega
   subst e;refine ⟨ka,kc,?_,?_⟩
   ·rw [NG (by omega)]; simp [lx]
   ·simpa using hs
 ·by_cases hi':i<ps.length
  ·rw [if_neg (by omega),NC (by omega)]; exact h.cell i hi'
  ·have e:i=ps.length:=by simp at hi; omega
   subst e;rw [if_pos rfl,NG (by omega)]; simp [lx]
 ·by_cases hi':i<ps.length
  ·rw [Ny hi',if_neg (by simp; omega),if_neg (by omega),if_neg (by omega)];exact ⟨(h.Io hi').kept hg (nF (by decide) (h.Io hi') h.own),(h.row i hi').2⟩
  ·have e:i=ps.length:=by simp at hi; omega
   subst e;simp only [Nx,Pd,if_true,OS];exact ⟨NP _ _ _ _,rfl,fun j hj=>absurd hj (N7 _)⟩
 ·have hi':i<ps.length:=by simp at hi; omega
  rw [if_neg (by omega)] at hgi;exact Nn ((h.Io hi').lt g hgi).2 hg.size
theorem lB.put {w0:World} {B:Nat} {W w8 w9:World} {g c m:Nat} {ps:List Pt} {xs:List Value} {Bl:Nat} {rv:Nat→Value} {zs:Nat→List Value} (h:lB w0 B W (.slice (some ⟨g,0,none⟩) (m+1) c) ps xs Bl rv zs) (hm:ps.length=m+1) {ra:Option Addr} {rc:Nat} {r:Zp} {v8:Value}
  (sr:aM w0 ra r.1) (g8:W.grownBy w8 (rv m).ownBlock) (o8:w8.ownsRow Bl 58 2 v8 ((ps[m]'(by omega)).2.length+1) (zs m ++ [.slice ra r.1.length rc,.int .i64 r.2])) (hb:Below w8.heap.size w8 w9) :
  lq w0 B (w9.setCell ⟨g,m*2+1,none⟩ v8) (.slice (some ⟨g,0,none⟩) (m+1) c) (lZ ps r):=by
 have hmlt:m<ps.length:=by omega
 have lx:=h.own.1;have ho:=h.own;rw [hm] at ho;have rl:W.ownsRow Bl 58 2 (rv m) (ps[m]'hmlt).2.length (zs m):=by
  have:=(h.row m hmlt).1
  rwa [if_pos hm.symm] at this
 have og:∀ {b e s n v ys},e≠154→w9.ownsRow b e s v n ys→(w9.setCell ⟨g,m*2+1,none⟩ v8).ownsRow b e s v n ys:=fun {b e s n v ys} hne hr=>by
  have o9:w9.ownsRow B 154 2 (.slice (some ⟨g,0,none⟩) (m+1) c) (m+1) xs:=aS (ho.kept g8 (nF (by decide) ho (rl))) hb;rcases nF hne hr o9 with e0 | e0
  ·exact ownsRow_setCell_other hr (by rw [e0]; simp) _
  ·exact ownsRow_setCell_other hr (by simpa [Value.ownBlock] using e0) _
 have o9:w9.ownsRow B 154 2 (.slice (some ⟨g,0,none⟩) (m+1) c) (m+1) xs:=aS (ho.kept g8 (nF (by decide) ho rl)) hb;have hsz:(w9.setCell ⟨g,m*2+1,none⟩ v8).heap.size=w9.heap.size:=by simp [World.setCell]
 rw [Js hm];refine ⟨xs.set (m*2+1) v8,Bl,fun i=>if i=m then v8 else rv i,fun i=>if i=m then zs m ++ [.slice ra r.1.length rc,.int .i64 r.2] else zs i,?_,h.lo,?_,fun i hi=>?_,fun i hi=>?_,fun i hi=>?_,fun i hi g' hgi=>?_⟩
 ·rw [List.length_set,hm];exact (o9.stored (m*2+1) v8).1
 ·rw [hsz]; exact Nw h.hi (Nw g8.size hb.size)
 ·have hi0:i<ps.length:=by simpa using hi
  obtain ⟨ka',kc',e0,s0⟩:=h.key i hi0;rw [NB (by omega),List.getElem_set]
  split
  ·rename_i e; subst e; exact ⟨ka',kc',e0,s0⟩
  ·exact ⟨ka',kc',e0,s0⟩
 ·have hi0:i<ps.length:=by simpa using hi
  by_cases e:i=m
  ·subst e;rw [if_pos rfl,List.getElem?_set_self (by omega)]
  ·rw [if_neg e,NB (by omega)]; exact h.cell i hi0
 ·have hi0:i<ps.length:=by simpa using hi
  by_cases e:i=m
  ·subst e;simp only [List.length_set,if_true,List.getElem_set_self,Nx,Pd];rw [if_pos hm.symm];refine ⟨og (by decide) (aS o8 hb),?_⟩;exact jF.push (h.row i hi0).2 (x:=r) sr
  ·simp only [List.length_set];rw [if_neg e,if_neg e,if_neg (by omega),List.getElem_set_ne (fun e'=>e e'.symm)];have ri:=h.Io hi0;refine ⟨og (by decide) (aS (ri.kept g8 ?_) hb),(h.row i hi0).2⟩;by_cases e0:(rv i).ownBlock=none
   ·exact .inl e0
   ·obtain ⟨gi,hgi⟩:=Option.ne_none_iff_exists'.1 e0;refine .inr fun e1=>?_
    have h1:=h.low i (by omega) gi hgi;have h2:=(rl.lt gi (e1 ▸ hgi)).1;omega
 ·have hi0:i+1<ps.length:=by simpa using hi
  rw [if_neg (by omega)] at hgi;exact h.low i hi0 g' hgi
abbrev Wp:Type:=Vl × Int
def jm:List Wp→List Value
 | []=>[]
 | p :: r=>.int .i64 p.1.1 :: .int .i64 p.1.2.1 :: .string p.1.2.2 :: .int .i64 p.2 :: jm r
theorem nL:∀ l r:List Wp,jm (l ++ r)=jm l ++ jm r
 | [],_=>rfl
 | p :: t,r=>by rw [OD,jm,jm,nL t r]; rfl
theorem yB:∀ (l:List Wp) (i:Nat) (h:i<l.length),(jm l)[i*4]? = some (.int .i64 l[i].1.1)∧(jm l)[i*4+1]? = some (.int .i64 l[i].1.2.1)∧(jm l)[i*4+2]? = some (.string l[i].1.2.2)∧(jm l)[i*4+3]? = some (.int .i64 l[i].2)
 | p :: r,0,_=>⟨rfl,rfl,rfl,rfl⟩
 | p :: r,i+1,h=>by
  have ih:=yB r i (by simpa using h)
  have e:(i+1)*4=i*4+4:=by omega
  rw [e]
  exact ih
def cT (f:List Vl→Vl) (rows:List Zp):List Wp:=rows.filterMap fun r=>if (f r.1).1=1 then none else some (f r.1,r.2)
theorem yJ (f:List Vl→Vl) {rows:List Zp} {k:Nat} (h:k<rows.length):cT f (rows.take (k+1))=cT f (rows.take k) ++ (if (f rows[k].1).1=1 then [] else [(f rows[k].1,rows[k].2)]):=by
 unfold cT;rw [Nz h,List.filterMap_append]
 congr 1
 by_cases c:(f rows[k].1).1=1
 ·simp [c]
 ·simp [c]
theorem sH (f:List Vl→Vl) (rows:List Zp):(cT f rows).length≤rows.length:=List.length_filterMap_le _ _
theorem Mf:(Tryz.prog.info? 221).map (fun i=>(i.zero,i.size,i.bytes))=some (some (.agg #[.int .i64 0,.int .i64 0,.string ⟨#[]⟩,.int .i64 0]),4,40):=by kernel_rfl
theorem Hx (cols:List Int) (lo:Nat) (u:Value) (f:List Vl→Vl) (a:Option Addr) (cap:Nat) (rows:List Zp) (w:World) (hA:fX cols lo u f w) (h:aL w a rows) (hf:∀ p ∈ rows,cL cols p.1) (hl:rows.length≤400) :
  Calls Tryz.prog 155 #[.slice a rows.length cap,u] w fun e w'=>∃ v,e = .returned v∧w'.ownsRow w.heap.size 221 4 v (cT f rows).length (jm (cT f rows))∧Below w.heap.size w w':=by
 obtain ⟨iw,hi,hj0,hj1,hj2⟩:=info_parts Mf;obtain ⟨g,cb,rfl,eg,hd⟩:=hA;have HD:Hid (∀ (row:List Vl) (a:Option Addr) (cap:Nat) (W:World),cL cols row→aM W a row→ax lo w W→Calls Tryz.prog g (#[.slice a row.length cap] ++ cb) W fun e w'=>e = .returned (fW (f row))∧Below W.heap.size W w'):=hd;have HF:Hid (∀ p ∈ rows,cL cols p.1):=hf;clear hd hf;go_enter Tryz.func155,Tryz.ntmps155;go_wp2_with fail
 go_loopw [5,11] (fun v i wr=>∃ k:Nat,k≤rows.length∧i = .int .i64 k∧wr.ownsRow w.heap.size 221 4 v (cT f (rows.take k)).length (jm (cT f (rows.take k)))∧Below w.heap.size w wr) (fun _ i _=>rows.length - (intOf i).toNat)
 case atStart=>exact ⟨0,Nr _,rfl,NP _ _ _ _,Nk _ _⟩
 case round =>
  obtain ⟨k,hk,rfl,HO,hb⟩:=hrel;have hz:=hb.size;by_cases hlt:k<rows.length
  ·obtain ⟨b,off,rfl,hbl,c1,ar,cr,c0,sr⟩:=(h.next hb).elem hlt;have hal:=aa wr (.cells #[.slice ar rows[k].1.length cr,.int .i64 rows[k].2] 58);have q0:=aw wr #[.slice ar rows[k].1.length cr,.int .i64 rows[k].2] 58;have hal':=chain hb hal;have con:=HD.out rows[k].1 ar cr _ (HF.out _ (Ns hlt)) (sr.next hal) (ax.of hal');have HT:Hid (cT f (rows.take (k+1))=cT f (rows.take k) ++ (if (f rows[k].1).1=1 then [] else [(f rows[k].1,rows[k].2)])):=yJ f hlt;have hkl:=sH f (rows.take k)
   rw [NN] at hkl;have O1:=aS HO hal;generalize f rows[k].1=fv at *;generalize cT f (rows.take k)=acc at *;unfold fW at con;go_upto_region 5 with fail
   clear c0 c1 sr HO;generalize wr.alloc (.cells #[.slice ar rows[k].1.length cr,.int .i64 rows[k].2] 58)=wk at *;have p0:wk.cell? ⟨wr.heap.size,0,none⟩=some (.slice ar rows[k].1.length cr):=cell_of (i:=0) q0 rfl;go_upto_region 6 with (go_at_fn g; refine con.mono ?_; rintro e w2 ⟨rfl,hb2⟩)
   clear con p0;have q2:=(hb2.block _ (ae q0)).trans q0;have O2:=aS O1 hb2;have hal2:=aa w2 (.cells #[.int .i64 fv.1,.int .i64 fv.2.1,.string fv.2.2] 24);have q3:=aw w2 #[.int .i64 fv.1,.int .i64 fv.2.1,.string fv.2.2] 24;have q2:=(hal2.block _ (ae q2)).trans q2;have O3:=aS O2 hal2;have hA3:=chain (chain hal' hb2) hal2;have hz3:=hA3.size;generalize w2.alloc (.cells #[.int .i64 fv.1,.int .i64 fv.2.1,.string fv.2.2] 24)=w3 at *
   have c0:w3.cell? ⟨w2.heap.size,0,none⟩=some (.int .i64 fv.1):=cell_of (i:=0) q3 rfl;have c1:w3.cell? ⟨w2.heap.size,1,none⟩=some (.int .i64 fv.2.1):=cell_of (i:=1) q3 rfl;have c2:w3.cell? ⟨w2.heap.size,2,none⟩=some (.string fv.2.2):=cell_of (i:=2) q3 rfl;have c3:w3.cell? ⟨wr.heap.size,1,none⟩=some (.int .i64 rows[k].2):=cell_of (i:=1) q2 rfl;by_cases hn:fv.1=1
   ·have hnb:(fv.1 != 1)=false:=by simp [hn]
    have HT':Hid (cT f (rows.take (k+1))=acc):=by show _=_; rw [HT.out,if_pos hn,OG]
    clear hn;go_wp2
    go_roundw
    case rel=>exact ⟨k+1,by omega,by go_num,by rw [HT'.out]; exact O3,hA3⟩
    case measure=>simp [intOf]; omega
   ·have hnb:(fv.1 != 1)=true:=by simp [hn]
    have HT':Hid (cT f (rows.take (k+1))=acc ++ [(fv,rows[k].2)]):=by show _=_; rw [HT.out,if_neg hn]
    clear hn;go_wp2_with (first | (at_builtin; refine NZ _ rfl _ _ 189 rfl w.heap.size 221 iw _ 4 40 Tryz.underlying189 hi hj0 hj1 hj2 rfl (by decide) _ _ _ rfl (O3.alloc _) ⟨w3.heap.size,0,none⟩ 1 1 [.int .i64 fv.1,.int .i64 fv.2.1,.string fv.2.2,.int .i64 rows[k].2] rfl rfl ?Ac1 ?Ac2 ?Ac3 ?Ac4 ?Ac5 ?_))
    case Ac1 =>
     intro i u hu
     match i,hu with
     | 0,hu=>simp at hu; subst hu; simp [Addr.add]
     | 1,hu=>simp at hu; subst hu; simp [Addr.add]
     | 2,hu=>simp at hu; subst hu; simp [Addr.add]
     | 3,hu=>simp at hu; subst hu; simp [Addr.add]
    case Ac2=>intro u hu; simp at hu; rcases hu with rfl | rfl | rfl | rfl <;> rfl
    case Ac3=>unfold maxLen; omega
    case Ac4=>omega
    case Ac5=>simp; omega
    intro v' w4 o4 g4 _;have hb4:Below w.heap.size w w4:=hA3.trans (((Nk _ _).alloc (by omega) _).grown g4 (by simp; omega) (fun q hq=>((O3.alloc (.cells #[.int .i64 fv.1,.int .i64 fv.2.1,.string fv.2.2,.int .i64 rows[k].2] 221)).lt q hq).1));have o4':w4.ownsRow w.heap.size 221 4 v' (acc ++ [(fv,rows[k].2)]).length (jm (acc ++ [(fv,rows[k].2)])):=by rw [nL,Nx]; exact o4
    clear g4 o4 O3 O2 O1;go_wp2
    go_roundw
    case rel=>exact ⟨k+1,by omega,by go_num,by rw [HT'.out]; exact o4',hb4⟩
    case measure=>simp [intOf]; omega
  ·have e:k=rows.length:=by omega
   subst e;rw [NL] at HO;obtain ⟨av,cv,rfl⟩:=eD HO;go_wp2
   go_ret;exact ⟨_,rfl,HO,hb⟩
def jh (W:World) (a:Option Addr) (l:List Wp):Prop:=l.length≤maxLen∧(l = []∨∃ b off,a=some ⟨b,off,none⟩∧b<W.heap.size∧∀ (i:Nat) (h:i<l.length),W.cell? ⟨b,off+i*4,none⟩=some (.int .i64 l[i].1.1)∧W.cell? ⟨b,off+i*4+1,none⟩=some (.int .i64 l[i].1.2.1)∧W.cell? ⟨b,off+i*4+2,none⟩=some (.string l[i].1.2.2)∧W.cell? ⟨b,off+i*4+3,none⟩=some (.int .i64 l[i].2))
theorem jh.next {W w1:World} {a:Option Addr} {l:List Wp} (h:jh W a l) (hb:Below W.heap.size W w1):jh w1 a l:=by
 obtain ⟨h0,h | ⟨b,off,e,hlt,hr⟩⟩:=h
 ·exact ⟨h0,.inl h⟩
 ·refine ⟨h0,.inr ⟨b,off,e,Nn hlt hb.size,fun i hi=>?_⟩⟩;obtain ⟨a0,a1,a2,a3⟩:=hr i hi;exact ⟨(hb.cell (p:=⟨b,_,none⟩) hlt).trans a0,(hb.cell (p:=⟨b,_,none⟩) hlt).trans a1,(hb.cell (p:=⟨b,_,none⟩) hlt).trans a2,(hb.cell (p:=⟨b,_,none⟩) hlt).trans a3⟩
theorem jh.elem {W:World} {a:Option Addr} {l:List Wp} (h:jh W a l) {i:Nat} (hi:i<l.length):∃ b off,a=some ⟨b,off,none⟩∧b<W.heap.size∧W.cell? ⟨b,off+i*4,none⟩=some (.int .i64 l[i].1.1)∧W.cell? ⟨b,off+i*4+1,none⟩=some (.int .i64 l[i].1.2.1)∧W.cell? ⟨b,off+i*4+2,none⟩=some (.string l[i].1.2.2)∧W.cell? ⟨b,off+i*4+3,none⟩=some (.int .i64 l[i].2):=by
 obtain ⟨_,h | ⟨b,off,e,hlt,hr⟩⟩:=h
 ·subst h; simp at hi
 ·exact ⟨b,off,e,hlt,hr i hi⟩
theorem K2 {W:World} {B:Nat} {v:Value} {l:List Wp} (h:W.ownsRow B 221 4 v l.length (jm l)):∃ a c,v = .slice a l.length c∧jh W a l:=by
 have h':=h;rcases h.2 with ⟨rfl,h0⟩ | ⟨g,cap,cur,rfl,_,_,hn,hc,_⟩
 ·have:l = []:=Nu h0;subst this;exact ⟨none,0,rfl,Nr _,.inl rfl⟩
 ·refine ⟨_,_,rfl,Nw hn hc,.inr ⟨g,0,rfl,(h'.lt g rfl).2,fun i hi=>?_⟩⟩;obtain ⟨a0,a1,a2,a3⟩:=yB l i hi;refine ⟨?_,?_,?_,?_⟩
  ·rw [h'.cellAt _ (by omega),← a0]; congr 1; omega
  ·rw [h'.cellAt _ (by omega),← a1]; congr 1; omega
  ·rw [h'.cellAt _ (by omega),← a2]; congr 1; omega
  ·rw [h'.cellAt _ (by omega),← a3]; congr 1; omega
def ik (v:Vl):Prop:=fF v.1 v.2.1=v.2.1
theorem uX (v:Vl):ik (cB v):=by
 unfold ik cB fF;by_cases h:v.1=2∨v.1=3 <;> simp [h]
theorem iZ (o:Option Bool):ik (zT o):=by rcases o with _ | _ | _ <;> rfl
theorem tF (c:Int) (a b:Vl):ik (oG c a b):=by
 unfold ik oG;generalize qL c a.1 a.2.1 b.1 b.2.1=o;cases o with
 | none=>simp [wH,Ah,fF]
 | some n =>
  simp only [wH,Ah,kV,lG]
  split <;> simp [fF]
theorem Er (a b:Vl):ik (qg a b):=by
 unfold ik qg;generalize lp a.1 a.2.2 b.1 b.2.2=k;simp [fF]
theorem Hu {k:Int} {a b:Vl} (ha:ik a) (hb:ik b):ik (qD k a b):=by
 have h1:ik (JB a b):=by unfold JB; exact iZ _
 have h2:ik (MA a b):=by unfold MA; exact iZ _
 have h3:∀ a b,ik (LS a b):=fun a b=>by unfold LS; exact iZ _
 have h4:∀ a,ik (oX a):=fun a=>by unfold oX; exact iZ _
 have h5:∀ a b,ik (IN a b):=fun a b=>by unfold IN; exact iZ _
 have h6:=tF 43 a b;have h7:=tF 45 a b;have h8:=tF 42 a b;have h9:=Er a b;have hc:ik (mP a b):=by
  unfold mP
  split
  ·exact hb
  ·exact ha
 have n1:=h4 (LS a b);have n2:=h4 (IN a b);have n3:=h4 (IN b a);have e1:=h3 a b;have l1:=h5 a b;have l2:=h5 b a;clear h3 h4 h5;unfold qD;by_cases k4:k=4
 ·rw [if_pos k4]; exact h1
 rw [if_neg k4];by_cases k5:k=5
 ·rw [if_pos k5]; exact h2
 rw [if_neg k5];by_cases k6:k=6
 ·rw [if_pos k6]; exact e1
 rw [if_neg k6];by_cases k7:k=7
 ·rw [if_pos k7]; exact n1
 rw [if_neg k7];by_cases k8:k=8
 ·rw [if_pos k8]; exact l1
 rw [if_neg k8];by_cases k11:k=11
 ·rw [if_pos k11]; exact n2
 rw [if_neg k11];by_cases k10:k=10
 ·rw [if_pos k10]; exact l2
 rw [if_neg k10];by_cases k9:k=9
 ·rw [if_pos k9]; exact n3
 rw [if_neg k9];by_cases k12:k=12
 ·rw [if_pos k12]; exact h6
 rw [if_neg k12];by_cases k13:k=13
 ·rw [if_pos k13]; exact h7
 rw [if_neg k13];by_cases k14:k=14
 ·rw [if_pos k14]; exact h8
 rw [if_neg k14];by_cases k15:k=15
 ·rw [if_pos k15]; exact h9
 rw [if_neg k15];exact hc
theorem Dm (row:List Vl):∀ x,ik (bB row x):=Ex.ind fun k v c ks ih=>by
 have hk:∀ i,ik ((mQ row ks).getD i fH):=fun i=>by
  rw [iI]
  by_cases h:i<ks.length
  ·have:(ks.map (bB row)).getD i fH=bB row ks[i]:=by simp [List.getD,h]
   rw [this]
   exact ih _ (Ns h)
  ·have:(ks.map (bB row)).getD i fH=fH:=by simp [List.getD,h]
   rw [this]
   rfl
 rw [bB]
 unfold mK
 split
 ·exact uX _
 split
 ·exact uX _
 split
 ·exact iZ _
 split
 ·exact iZ _
 split
 ·split
  ·exact hk 1
  ·exact hk 2
 ·exact Hu (hk 0) (hk 1)
theorem K4 {v:Vl} (h:aY v=0) (hn:ik v):-1000000000000000≤v.2.1∧v.2.1≤1000000000000000:=by
 unfold ik fF at hn;unfold aY aI at h
 split at hn
 ·rename_i hk
  rcases hk with hk | hk
  ·rw [hk] at h;simp at h;omega
  ·rw [hk] at h;simp at h;omega
 ·omega
structure Iw (l:List Wp):Prop where
 len:l.length≤400
 wt:∀ p ∈ l,0≤p.2∧p.2≤1000000
 right:∀ p ∈ l,aY p.1=0
 num:∀ p ∈ l,ik p.1
def lM:List Wp→Int
 | []=>0
 | p :: r=>p.2+lM r
theorem Dp {l:List Wp} {k:Nat} (h:k<l.length):lM (l.take (k+1))=lM (l.take k)+l[k].2:=by
 have aux:∀ (l:List Wp) (p:Wp),lM (l ++ [p])=lM l+p.2:=by
  intro l p
  induction l with
  | nil=>simp [lM]
  | cons q r ih=>rw [OD,lM,lM,ih]; omega
 rw [Nz h,aux]
theorem Jy {l:List Wp} (h:∀ p ∈ l,0≤p.2∧p.2≤1000000):0≤lM l∧lM l≤1000000*(l.length:Int):=by
 induction l with
 | nil=>simp [lM]
 | cons p r ih =>
  have h1:=h p (by simp);have h2:=ih fun q hq=>h q (by simp [hq])
  rw [lM,N4];omega
def countP (l:List Wp):Vl:=(3,lM l,⟨#[]⟩)
theorem Gl (a:Option Addr) (cap:Nat) (l:List Wp) (w:World) (h:jh w a l) (hok:Iw l) :
  Calls Tryz.prog 191 #[.slice a l.length cap] w fun e w'=>e = .returned (fW (countP l))∧Below w.heap.size w w':=by
 have hl:=hok.len;have HK:Hid (Iw l):=hok;clear hok;have hal0:=aa w (.cells #[.int .i64 0,.int .i64 0,.string ⟨#[]⟩] 24);have q00:=aw w #[.int .i64 0,.int .i64 0,.string ⟨#[]⟩] 24;unfold fW countP;generalize hs:lM l=s;have HS:Hid (lM l=s):=hs;clear hs;go_enter Tryz.func191,Tryz.ntmps191;go_wp2_with fail
 generalize w.alloc (.cells #[.int .i64 0,.int .i64 0,.string ⟨#[]⟩] 24)=w0 at *;go_loopw [3,8] (fun v i wr=>∃ (k:Nat) (n:Int),k≤l.length∧i = .int .i64 k∧v = .int .i64 n∧Hid (n=lM (l.take k))∧0≤n∧n≤1000000*(k:Int)∧Below w0.heap.size w0 wr) (fun _ i _=>l.length - (intOf i).toNat)
 case atStart=>exact ⟨0,0,Nr _,rfl,rfl,rfl,by omega,by omega,Nk _ _⟩
 case round =>
  obtain ⟨k,n,hk,rfl,rfl,HN,hn0,hn1,hb⟩:=hrel;have hA:=chain hal0 hb;by_cases hlt:k<l.length
  ·obtain ⟨b,off,rfl,hbl,c0,c1,c2,c3⟩:=(h.next hA).elem hlt;have hw:=HK.out.wt _ (Ns hlt);have hal:=aa wr (.cells #[.int .i64 l[k].1.1,.int .i64 l[k].1.2.1,.string l[k].1.2.2,.int .i64 l[k].2] 221);have HN':Hid (n+l[k].2=lM (l.take (k+1))):=by show _=_; rw [Dp hlt,HN.out]
   go_wp2
   go_roundw
   case rel=>exact ⟨k+1,n+l[k].2,by omega,by go_num,rfl,HN',by omega,by omega,chain hb hal⟩
   case measure=>simp [intOf]; omega
  ·have e:k=l.length:=by omega
   subst e;have es:n=s:=by rw [HN.out,NL,HS.out]
   subst es;have con:=AP n wr (by simp [oV]; omega);have c0:w0.cell? ⟨w.heap.size,0,none⟩=some (.int .i64 0):=cell_of (i:=0) q00 rfl;go_wp2_with fail
   refine con.mono ?_;rintro e w2 ⟨rfl,hb2⟩;clear con;have q2:=((chain hb hb2).block _ (ae q00)).trans q00;have d0:w2.cell? ⟨w.heap.size,0,none⟩=some (.int .i64 0):=cell_of (i:=0) q2 rfl;have d1:w2.cell? ⟨w.heap.size,1,none⟩=some (.int .i64 0):=cell_of (i:=1) q2 rfl;have d2:w2.cell? ⟨w.heap.size,2,none⟩=some (.string ⟨#[]⟩):=cell_of (i:=2) q2 rfl;have f0:w2.frozen? ⟨w.heap.size,0,none⟩=false:=No w2 w.heap.size 0 _ _ q2;have f1:w2.frozen? ⟨w.heap.size,1,none⟩=false:=No w2 w.heap.size 1 _ _ q2
   have f2:w2.frozen? ⟨w.heap.size,2,none⟩=false:=No w2 w.heap.size 2 _ _ q2;have hA2:=chain hA hb2;go_wp2
   exact Nl (v:=.agg #[.int .i64 3,.int .i64 n,.string ⟨#[]⟩]) (by simp [results,Tryz.results191,go_sem,d0,d1,d2]) rfl ⟨rfl,((hA2.setCell (p:=⟨w.heap.size,0,none⟩) (Nj _) _).setCell (p:=⟨w.heap.size,1,none⟩) (Nj _) _).setCell (p:=⟨w.heap.size,2,none⟩) (Nj _) _⟩
structure BY (cols:List Int) (rows:List Zp):Prop where
 len:rows.length≤400
 fit:∀ p ∈ rows,cL cols p.1
 wt:∀ p ∈ rows,0≤p.2∧p.2≤1000000
theorem BY.known {cols:List Int} {rows:List Zp} (h:BY cols rows) {f:List Vl→Vl} (hf:∀ row,cL cols row→aY (f row)=0∧ik (f row)):Iw (cT f rows):=by
 have hm:∀ p ∈ cT f rows,∃ q ∈ rows,p=(f q.1,q.2):=fun p hp=>by
  unfold cT at hp;obtain ⟨q,hq,e⟩:=List.mem_filterMap.1 hp
  split at e
  ·cases e
  ·exact ⟨q,hq,(NU e).symm⟩
 refine ⟨Nw (sH f rows) h.len,fun p hp=>?_,fun p hp=>?_,fun p hp=>?_⟩
 ·obtain ⟨q,hq,rfl⟩:=hm p hp; exact h.wt q hq
 ·obtain ⟨q,hq,rfl⟩:=hm p hp; exact (hf _ (h.fit q hq)).1
 ·obtain ⟨q,hq,rfl⟩:=hm p hp; exact (hf _ (h.fit q hq)).2
def qK (lo:Nat) (u:Value) (T:List Wp→Vl) (w:World):Prop :=
 ∃ g cb,u = .func (.func g) #[] cb∧(∀ args w,(callFunc g args).run Tryz.prog w = .ok (.enter g args) w) ∧
  ∀ (l:List Wp) (a:Option Addr) (cap:Nat) (W:World),Iw l→jh W a l→ax lo w W →
   Calls Tryz.prog g (#[.slice a l.length cap] ++ cb) W fun e w'=>e = .returned (fW (T l))∧Below W.heap.size W w'
theorem qK.next {lo:Nat} {u:Value} {T:List Wp→Vl} {w w1:World} (h:qK lo u T w) (hb:ax lo w w1):qK lo u T w1:=by
 obtain ⟨g,cb,e,eg,hd⟩:=h;exact ⟨g,cb,e,eg,fun l a cap W hk hs hW=>hd l a cap W hk hs (hb.trans hW)⟩
theorem qK.down {lo lo':Nat} {u:Value} {T:List Wp→Vl} {w:World} (h:qK lo u T w) (hl:lo'≤lo):qK lo' u T w:=by
 obtain ⟨g,cb,e,eg,hd⟩:=h;exact ⟨g,cb,e,eg,fun l a cap W hk hs hW=>hd l a cap W hk hs (hW.up hl)⟩
def km (cols:List Int) (lo:Nat) (u:Value) (F:List Zp→Vl) (w:World):Prop :=
 ∃ g cb,u = .func (.func g) #[] cb∧(∀ args w,(callFunc g args).run Tryz.prog w = .ok (.enter g args) w) ∧
  ∀ (rows:List Zp) (a:Option Addr) (cap:Nat) (W:World),BY cols rows→aL W a rows→ax lo w W →
   Calls Tryz.prog g (#[.slice a rows.length cap] ++ cb) W fun e w'=>e = .returned (fW (F rows))∧Below W.heap.size W w'
theorem km.next {cols:List Int} {lo:Nat} {u:Value} {F:List Zp→Vl} {w w1:World} (h:km cols lo u F w) (hb:ax lo w w1):km cols lo u F w1:=by
 obtain ⟨g,cb,e,eg,hd⟩:=h;exact ⟨g,cb,e,eg,fun l a cap W hk hs hW=>hd l a cap W hk hs (hb.trans hW)⟩
theorem km.down {cols:List Int} {lo lo':Nat} {u:Value} {F:List Zp→Vl} {w:World} (h:km cols lo u F w) (hl:lo'≤lo):km cols lo' u F w:=by
 obtain ⟨g,cb,e,eg,hd⟩:=h;exact ⟨g,cb,e,eg,fun l a cap W hk hs hW=>hd l a cap W hk hs (hW.up hl)⟩
theorem JN (cols:List Int) (lo:Nat) (ut uv:Value) (T:List Wp→Vl) (f:List Vl→Vl) (hfr:∀ row,cL cols row→aY (f row)=0∧ik (f row)) (tb vb:Nat) (a:Option Addr) (cap:Nat) (rows:List Zp) (W:World) (c0:W.cell? ⟨tb,0,none⟩=some ut) (c1:W.cell? ⟨vb,0,none⟩=some uv) (hT:qK lo ut T W) (hV:fX cols lo uv f W) (hr:BY cols rows) (h:aL W a rows) :
  Calls Tryz.prog 154 #[.slice a rows.length cap,.pointer (some ⟨tb,0,none⟩),.pointer (some ⟨vb,0,none⟩)] W fun e w'=>e = .returned (fW (T (cT f rows)))∧Below W.heap.size W w':=by
 have hV':=hV;obtain ⟨gv,cv,rfl,_,_⟩:=hV';have hT':=hT;obtain ⟨gt,ct,rfl,egt,dt⟩:=hT';have HDt:Hid (∀ (l:List Wp) (a:Option Addr) (cap:Nat) (W':World),Iw l→jh W' a l→ax lo W W'→Calls Tryz.prog gt (#[.slice a l.length cap] ++ ct) W' fun e w'=>e = .returned (fW (T l))∧Below W'.heap.size W' w'):=dt;have HV:Hid (fX cols lo (.func (.func gv) #[] cv) f W):=hV;have HW:Hid (Iw (cT f rows)):=hr.known hfr;have HR:Hid (BY cols rows):=hr;clear hV hT dt hr hfr;have hal:=aa W (.cells #[.int .i64 0,.int .i64 0,.string ⟨#[]⟩] 24)
 have q0:=aw W #[.int .i64 0,.int .i64 0,.string ⟨#[]⟩] 24;generalize hres:T (cT f rows)=res;have HRes:Hid (T (cT f rows)=res):=hres;clear hres;go_enter Tryz.func154,Tryz.ntmps154;go_wp2_with fail
 generalize W.alloc (.cells #[.int .i64 0,.int .i64 0,.string ⟨#[]⟩] 24)=w0 at *;have d0:=(hal.cell (p:=⟨tb,0,none⟩) (Nt _ _ c0)).trans c0;have d1:=(hal.cell (p:=⟨vb,0,none⟩) (Nt _ _ c1)).trans c1;have lt0:tb<W.heap.size:=Nt _ _ c0;have lt1:vb<W.heap.size:=Nt _ _ c1
 have hCC:∀ X X':World,(X.cell? ⟨tb,0,none⟩=some (.func (.func gt) #[] ct)∧X.cell? ⟨vb,0,none⟩=some (.func (.func gv) #[] cv))→Below X.heap.size X X'→(X'.cell? ⟨tb,0,none⟩=some (.func (.func gt) #[] ct)∧X'.cell? ⟨vb,0,none⟩=some (.func (.func gv) #[] cv)):=fun X X' h hb=>⟨(hb.cell (Nt _ _ h.1)).trans h.1,(hb.cell (Nt _ _ h.2)).trans h.2⟩
 have hdr:Below w0.heap.size w0 w0.drew:=(Nk _ _).drew;have CW:(w0.drew.cell? ⟨tb,0,none⟩=some (.func (.func gt) #[] ct)∧w0.drew.cell? ⟨vb,0,none⟩=some (.func (.func gv) #[] cv)):=hCC _ _ ⟨d0,d1⟩ hdr;clear c0 c1;refine aK (fun X=>(X.cell? ⟨tb,0,none⟩=some (.func (.func gt) #[] ct)∧X.cell? ⟨vb,0,none⟩=some (.func (.func gv) #[] cv))) (by kernel_rfl) ?_;refine ab hCC 5 (i:=0) (v:=.func (.func gt) #[] ct) (fun n hn=>?_) CW ?_
 ·have hc:=hn.1;go_simp
 simp only [Act.put,pA,pB,pC];refine ab hCC 6 (i:=1) (v:=.slice a rows.length cap) (fun n hn=>?_) CW ?_
 ·go_simp
 simp only [Act.put,pA,pB,pC];refine ab hCC 7 (i:=2) (v:=.func (.func gv) #[] cv) (fun n hn=>?_) CW ?_
 ·have hc:=hn.2;go_simp
 simp only [Act.put,pA,pB,pC];refine az (rs:=[3]) (by kernel_rfl) (by simp) ?_;intro w3 hb3 jj hj;obtain rfl:jj=3:=by simpa using hj
 clear hj;have CW3:=hCC _ _ CW hb3;have D3:=chain hal (chain hdr hb3);have con:=Hx cols lo _ f a cap rows w3 (HV.out.next (ax.of D3)) (h.next D3) HR.out.fit HR.out.len;refine wpOp_step rfl (fun K hK=>?_);go_simp;refine con.mono ?_;rintro e w4 ⟨v4,rfl,O4,hb4⟩;clear con;obtain ⟨a4,c4,rfl,S4⟩:=K2 O4;have CW4:=hCC _ _ CW3 hb4;have D4:=chain D3 hb4;refine hK _ _ ⟨CW4,?_⟩;clear hK K O4;refine az (rs:=[4]) (by kernel_rfl) (by simp) ?_;intro w5 hb5 jj hj;obtain rfl:jj=4:=by simpa using hj
 clear hj;have CW5:=hCC _ _ CW4 hb5;have D5:=chain D4 hb5;have con:=HDt.out (cT f rows) a4 c4 w5 HW.out (S4.next hb5) (ax.of D5);rw [HRes.out] at con;refine wpOp_step rfl (fun K hK=>?_);go_simp
 first | (refine con.mono ?_) | (go_at_fn gt; refine con.mono ?_)
 rintro e w6 ⟨rfl,hb6⟩;clear con;have CW6:=hCC _ _ CW5 hb6;have D6:=chain D5 hb6;refine hK _ _ ⟨CW6,?_⟩;clear hK K;refine az (rs:=[5]) (by kernel_rfl) (by simp) ?_;intro w7 hb7 jj hj;obtain rfl:jj=5:=by simpa using hj
 clear hj;have CW7:=hCC _ _ CW6 hb7;have D7:=chain D6 hb7;have q7:w7.heap[W.heap.size]? = some (.cells #[.int .i64 0,.int .i64 0,.string ⟨#[]⟩] 24 (0,0)):=((chain hdr (chain hb3 (chain hb4 (chain hb5 (chain hb6 hb7))))).block _ (ae q0)).trans q0;have e0:w7.cell? ⟨W.heap.size,0,none⟩=some (.int .i64 0):=cell_of (i:=0) q7 rfl;have e1:w7.cell? ⟨W.heap.size,1,none⟩=some (.int .i64 0):=cell_of (i:=1) q7 rfl;have e2:w7.cell? ⟨W.heap.size,2,none⟩=some (.string ⟨#[]⟩):=cell_of (i:=2) q7 rfl;have f0:w7.frozen? ⟨W.heap.size,0,none⟩=false:=No w7 W.heap.size 0 _ _ q7
 have f1:w7.frozen? ⟨W.heap.size,1,none⟩=false:=No w7 W.heap.size 1 _ _ q7;have f2:w7.frozen? ⟨W.heap.size,2,none⟩=false:=No w7 W.heap.size 2 _ _ q7;have ne0:∀ o u (X:World),(X.setCell ⟨W.heap.size,o,none⟩ u).cell? ⟨tb,0,none⟩=X.cell? ⟨tb,0,none⟩:=fun o u X=>Nv _ _ _ _ (by intro e; injection e with e; omega)
 have ne1:∀ o u (X:World),(X.setCell ⟨W.heap.size,o,none⟩ u).cell? ⟨vb,0,none⟩=X.cell? ⟨vb,0,none⟩:=fun o u X=>Nv _ _ _ _ (by intro e; injection e with e; omega)
 unfold fW;refine wpOp_step rfl (fun K hK=>?_);go_simp;refine hK _ _ ⟨⟨by rw [ne0,ne0,ne0]; exact CW7.1,by rw [ne1,ne1,ne1]; exact CW7.2⟩,?_⟩;clear hK K CW3 CW4 CW5 CW6;have B8:Below W.heap.size W (((w7.setCell ⟨W.heap.size,0,none⟩ (.int .i64 res.1)).setCell ⟨W.heap.size,1,none⟩ (.int .i64 res.2.1)).setCell ⟨W.heap.size,2,none⟩ (.string res.2.2)):=((D7.setCell (p:=⟨W.heap.size,0,none⟩) (Nj _) _).setCell (p:=⟨W.heap.size,1,none⟩) (Nj _) _).setCell (p:=⟨W.heap.size,2,none⟩) (Nj _) _
 have g0:(((w7.setCell ⟨W.heap.size,0,none⟩ (.int .i64 res.1)).setCell ⟨W.heap.size,1,none⟩ (.int .i64 res.2.1)).setCell ⟨W.heap.size,2,none⟩ (.string res.2.2)).cell? ⟨W.heap.size,0,none⟩=some (.int .i64 res.1):=by simp [go_sem,e0]
 have g1:(((w7.setCell ⟨W.heap.size,0,none⟩ (.int .i64 res.1)).setCell ⟨W.heap.size,1,none⟩ (.int .i64 res.2.1)).setCell ⟨W.heap.size,2,none⟩ (.string res.2.2)).cell? ⟨W.heap.size,1,none⟩=some (.int .i64 res.2.1):=by simp [go_sem,e1]
 have g2:(((w7.setCell ⟨W.heap.size,0,none⟩ (.int .i64 res.1)).setCell ⟨W.heap.size,1,none⟩ (.int .i64 res.2.1)).setCell ⟨W.heap.size,2,none⟩ (.string res.2.2)).cell? ⟨W.heap.size,2,none⟩=some (.string res.2.2):=by simp [go_sem,e2]
 have l8:W.heap.size<(((w7.setCell ⟨W.heap.size,0,none⟩ (.int .i64 res.1)).setCell ⟨W.heap.size,1,none⟩ (.int .i64 res.2.1)).setCell ⟨W.heap.size,2,none⟩ (.string res.2.2)).heap.size:=Nt _ _ g0;clear e0 e1 e2 f0 f1 f2 q7 CW7 ne0 ne1;generalize (((w7.setCell ⟨W.heap.size,0,none⟩ (.int .i64 res.1)).setCell ⟨W.heap.size,1,none⟩ (.int .i64 res.2.1)).setCell ⟨W.heap.size,2,none⟩ (.string res.2.2))=w8 at *;refine bL (by kernel_rfl) ?_;intro w9 hb9;have k0:=(hb9.cell (p:=⟨W.heap.size,0,none⟩) l8).trans g0;have k1:=(hb9.cell (p:=⟨W.heap.size,1,none⟩) l8).trans g1
 have k2:=(hb9.cell (p:=⟨W.heap.size,2,none⟩) l8).trans g2;have B9:=chain B8 hb9;clear g0 g1 g2 CW hCC;go_wp2
 exact Nl (v:=.agg #[.int .i64 res.1,.int .i64 res.2.1,.string res.2.2]) (by simp [results,Tryz.results154,go_sem,k0,k1,k2]) rfl ⟨rfl,B9⟩
def vn (cols:List Int) (lo:Nat) (W:World) (kb:Nat) (Fs:List (List Zp→Vl)):Prop :=
 ∃ K,lo≤kb∧kb<W.heap.size∧lo≤K∧K<W.heap.size∧W.cell? ⟨kb,0,none⟩=some (.slice (some ⟨K,0,none⟩) Fs.length Fs.length) ∧
  ∀ (i:Nat) (h:i<Fs.length),∃ u,W.cell? ⟨K,i,none⟩=some u∧km cols lo u Fs[i] W
theorem vn.next {cols:List Int} {lo:Nat} {W w1:World} {kb:Nat} {Fs:List (List Zp→Vl)} (h:vn cols lo W kb Fs) (hb:ax lo W w1):vn cols lo w1 kb Fs:=by
 obtain ⟨K,h1,h2,h3,h4,h5,h6⟩:=h;refine ⟨K,h1,Nn h2 hb.1,h3,Nn h4 hb.1,(hb.cell (p:=⟨kb,0,none⟩) h1 h2).trans h5,fun i hi=>?_⟩;obtain ⟨u,c,a⟩:=h6 i hi;exact ⟨u,(hb.cell (p:=⟨K,i,none⟩) h3 h4).trans c,a.next hb⟩
theorem Je (cols:List Int) (lo:Nat) (vb:Nat) (Fs:List (List Zp→Vl)) (a:Option Addr) (rows:List Zp) (cap:Nat) (W:World) (hK:vn cols lo W vb Fs) (h8:Fs.length≤8) (hr:BY cols rows) (hs:aL W a rows) :
  Calls Tryz.prog 156 #[.slice a rows.length cap,.pointer (some ⟨vb,0,none⟩)] W fun e w'=>e = .returned (.slice (some ⟨W.heap.size,0,none⟩) Fs.length Fs.length)∧mT W.heap.size w' (Fs.map fun F=>F rows)∧Below W.heap.size W w':=by
 obtain ⟨i0,hi,hz0,hz1,hz2⟩:=info_parts Tryz.sL;obtain ⟨K,k1,k2,k3,k4,k5,k6⟩:=hK;have HK:Hid (∀ (i:Nat) (h:i<Fs.length),∃ u,W.cell? ⟨K,i,none⟩=some u∧km cols lo u Fs[i] W):=k6;go_enter Tryz.func156,Tryz.ntmps156;go_wp2_with (first | (at_make; refine wpList_make_full _ rfl _ _ 56 rfl W.heap.size 24 i0 _ 3 Tryz.underlying56 hi hz0 hz1 .i64 .i64 Fs.length Fs.length Fs.length rfl rfl rfl rfl (by rw [hz2]; omega) (by unfold maxLen; omega) (Nj _) ?_))
 intro w1 hown hgrow;have hb0:Below W.heap.size W w1:=(Nk _ _).grown hgrow (Nj _) (by simp);have hB0:BU w1 W.heap.size Fs.length (fun j=>(Fs.getD j (fun _=>fH)) rows) 0:=⟨_,hown,fun j _ hj=>absurd hj (N7 _)⟩
 have c1:=(hb0.cell (p:=⟨vb,0,none⟩) k2).trans k5;clear hown hgrow k5 k6;go_wp2_with fail
 clear c1;go_loopw [12] (fun i wr=>∃ k:Nat,k≤Fs.length∧i = .int .i64 k∧BU wr W.heap.size Fs.length (fun j=>(Fs.getD j (fun _=>fH)) rows) k∧Below W.heap.size W wr) (fun i _=>Fs.length - (intOf i).toNat)
 case atStart=>exact ⟨0,Nr _,rfl,hB0,hb0⟩
 case round =>
  obtain ⟨k,hk,rfl,HB,hb⟩:=hrel;have hz:=hb.size;by_cases hlt:k<Fs.length
  ·obtain ⟨u,cu,A⟩:=HK.out k hlt;have cu:=(hb.cell (p:=⟨K,k,none⟩) k4).trans cu;obtain ⟨g,cb,rfl,eg,d⟩:=A;have d:=d rows a cap wr hr (hs.next hb) (ax.of hb);have ev:Fs[k] rows=(fun j=>(Fs.getD j (fun _=>fH)) rows) k:=by simp [List.getD,hlt]
   rw [ev] at d;generalize (fun j=>(Fs.getD j (fun _=>fH)) rows)=f at *;have i0:(0:Int)≤(k:Int):=by omega
   have i1:(k:Int)<(Fs.length:Int):=by omega
   go_wp2_with (go_at_fn g; refine d.mono ?_; rintro e w2 ⟨rfl,hb2⟩; have HB2:=HB.next hb2; obtain ⟨⟨u0,u1,u2,d0,d1,d2⟩,f0,f1,f2,hlb⟩:=HB2.cells hlt; have zz:=hb2.size)
   go_roundw
   case rel =>
    refine ⟨k+1,by omega,by go_num,?_,?_⟩
    ·exact HB2.step hlt
    ·exact (((chain hb hb2).setCell (p:=⟨W.heap.size,k*3,none⟩) (Nj _) _).setCell (p:=⟨W.heap.size,k*3+1,none⟩) (Nj _) _).setCell (p:=⟨W.heap.size,k*3+2,none⟩) (Nj _) _
   case measure=>simp [intOf]; omega
  ·have e:k=Fs.length:=by omega
   subst e;go_wp2
   go_ret;exact ⟨rfl,HB.done (Fs.map fun F:List Zp→Vl=>F rows) (by simp) (fun j hj=>by simp at hj; simp [List.getD,hj]) (by simp; omega),hb⟩
abbrev Ag:Type:=Int × Ex
def bX (cols:List Int) (g:Ag):Int:=if g.1=1 then 0 else if g.1<2∨5<g.1 then 1 else if (an cols g.2).2≠0 then (an cols g.2).2 else if g.1=3∧(an cols g.2).1≠3∧(an cols g.2).1≠1 then 9 else 0
def fU (g:Ag):List Vl→Vl:=if g.1=1 then fun _=>(2,1,⟨#[]⟩) else fun row=>bB row g.2
theorem qA {cols:List Int} {g:Ag} (h:bX cols g=0):∀ row,cL cols row→aY (fU g row)=0∧ik (fU g row):=by
 intro row hf;unfold fU
 split
 ·exact ⟨by simp [aY,aI],rfl⟩
 ·rename_i h1
  unfold bX at h;rw [if_neg h1] at h;by_cases h2:g.1<2∨5<g.1
  ·rw [if_pos h2] at h; cases h
  ·rw [if_neg h2] at h;by_cases h3:(an cols g.2).2=0
   ·exact ⟨(qX hf g.2 _ (AK h3)).1,Dm row g.2⟩
   ·rw [if_pos h3] at h; exact absurd h h3
def qG:List Wp→Int
 | []=>0
 | p :: r=>p.2*p.1.2.1+qG r
def Jm (l:List Wp):Vl:=if l = [] then (1,0,⟨#[]⟩) else if oV (qG l)=true then (3,qG l,⟨#[]⟩) else (1,0,⟨#[]⟩)
def Ef:List Wp→Vl
 | []=>(1,0,⟨#[]⟩)
 | p :: r=>r.foldl (fun m x=>if cZ x.1 m<0 then x.1 else m) p.1
def EX:List Wp→Vl
 | []=>(1,0,⟨#[]⟩)
 | p :: r=>r.foldl (fun m x=>if 0<cZ x.1 m then x.1 else m) p.1
def fx (k:Int) (l:List Wp):Vl:=if k=3 then Jm l else if k=4 then Ef l else if k=5 then EX l else countP l
def jd (g:Ag) (rows:List Zp):Vl:=fx g.1 (cT (fU g) rows)
def bV (cols:List Int):List Ag→Int
 | []=>0
 | g :: r=>if bX cols g=0 then bV cols r else bX cols g
theorem sR (cols:List Int) (gs:List Ag) (j:Nat) (h:j<gs.length) (h0:bX cols gs[j]=0):bV cols (gs.drop j)=bV cols (gs.drop (j+1)):=by
 rw [Nq h,bV,if_pos h0]
theorem vR (cols:List Int) (gs:List Ag) (j:Nat) (h:j<gs.length) (h0:¬ bX cols gs[j]=0):bV cols (gs.drop j)=bX cols gs[j]:=by
 rw [Nq h,bV,if_neg h0]
def jD (B:Nat) (W:World) (a:Option Addr) (l:List Ag):Prop:=l = []∨∃ (b off:Nat) (ai:Nat→Option Addr) (cap:Nat→Nat),a=some ⟨b,off,none⟩∧b<B∧∀ (i:Nat) (h:i<l.length),W.cell? ⟨b,off+i*7,none⟩=some (.int .i64 l[i].1)∧mb W b (off+i*7+1) l[i].2.k l[i].2.v l[i].2.c (ai i) l[i].2.ks.length (cap i)∧bd B W (ai i) l[i].2.ks
theorem jD.next {B B':Nat} {W w1:World} (hb:Below B' W w1) (hB:B≤B') {a:Option Addr} {l:List Ag} (h:jD B W a l):jD B w1 a l:=by
 rcases h with h | ⟨b,off,ai,cap,e,hlt,h⟩
 ·exact .inl h
 ·refine .inr ⟨b,off,ai,cap,e,hlt,fun i hi=>?_⟩;obtain ⟨h1,h2,h3⟩:=h i hi;exact ⟨(hb.cell (p:=⟨b,_,none⟩) (Nn hlt hB)).trans h1,h2.next hb (Nn hlt hB),bd.next hb hB h3⟩
theorem jD.up {B B':Nat} {W:World} (hB:B≤B') {a:Option Addr} {l:List Ag} (h:jD B W a l):jD B' W a l:=by
 rcases h with h | ⟨b,off,ai,cap,e,hlt,h⟩
 ·exact .inl h
 ·refine .inr ⟨b,off,ai,cap,e,Nn hlt hB,fun i hi=>?_⟩;obtain ⟨h1,h2,h3⟩:=h i hi;exact ⟨h1,h2,h3.up hB⟩
theorem jD.elem {B:Nat} {W:World} {a:Option Addr} {l:List Ag} (h:jD B W a l) {i:Nat} (hi:i<l.length):∃ b off ai ci,a=some ⟨b,off,none⟩∧b<B∧W.cell? ⟨b,off+i*7,none⟩=some (.int .i64 l[i].1)∧mb W b (off+i*7+1) l[i].2.k l[i].2.v l[i].2.c ai l[i].2.ks.length ci∧bd B W ai l[i].2.ks:=by
 rcases h with h | ⟨b,off,ai,cap,e,hlt,h⟩
 ·subst h; simp at hi
 ·exact ⟨b,off,ai i,cap i,e,hlt,h i hi⟩
theorem Ir (a:Option Addr) (n cap:Nat) (w:World):Calls Tryz.prog 185 #[.slice a n cap] w fun e w'=>e = .returned (.agg #[.int .i64 2,.int .i64 1,.string ⟨#[]⟩])∧Below w.heap.size w w':=by
 have hal:=aa w (.cells #[.int .i64 0,.int .i64 0,.string ⟨#[]⟩] 24);have q0:=aw w #[.int .i64 0,.int .i64 0,.string ⟨#[]⟩] 24;go_enter Tryz.func185,Tryz.ntmps185;go_wp2_with fail
 generalize w.alloc (.cells #[.int .i64 0,.int .i64 0,.string ⟨#[]⟩] 24)=w0 at *;refine (kf w0).mono ?_;rintro e w2 ⟨rfl,hb2⟩;have q2:=(hb2.block _ (ae q0)).trans q0;have d0:w2.cell? ⟨w.heap.size,0,none⟩=some (.int .i64 0):=cell_of (i:=0) q2 rfl;have d1:w2.cell? ⟨w.heap.size,1,none⟩=some (.int .i64 0):=cell_of (i:=1) q2 rfl;have d2:w2.cell? ⟨w.heap.size,2,none⟩=some (.string ⟨#[]⟩):=cell_of (i:=2) q2 rfl;have f0:w2.frozen? ⟨w.heap.size,0,none⟩=false:=No w2 w.heap.size 0 _ _ q2;have f1:w2.frozen? ⟨w.heap.size,1,none⟩=false:=No w2 w.heap.size 1 _ _ q2
 have f2:w2.frozen? ⟨w.heap.size,2,none⟩=false:=No w2 w.heap.size 2 _ _ q2;have hA2:=chain hal hb2;go_wp2
 exact Nl (v:=.agg #[.int .i64 2,.int .i64 1,.string ⟨#[]⟩]) (by simp [results,Tryz.results185,go_sem,d0,d1,d2]) rfl ⟨rfl,((hA2.setCell (p:=⟨w.heap.size,0,none⟩) (Nj _) _).setCell (p:=⟨w.heap.size,1,none⟩) (Nj _) _).setCell (p:=⟨w.heap.size,2,none⟩) (Nj _) _⟩
theorem uq (cols:List Int) (g:Ag) (ca:Option Addr) (ccap:Nat) (a:Option Addr) (cap:Nat) (w:World) (hk:bd w.heap.size w a g.2.ks) (hc:bc w.heap.size w ca cols) (h:bX cols g=0) :
  Calls Tryz.prog 152 #[.slice ca cols.length ccap,.agg #[.int .i64 g.1,.int .i64 g.2.k,.int .i64 g.2.v.1,.int .i64 g.2.v.2.1,.string g.2.v.2.2,.int .i64 g.2.c,.slice a g.2.ks.length cap]] w fun e w'=>∃ u,e = .returned (.tuple #[u,.int .i64 0])∧fX cols w.heap.size u (fU g) w'∧Below w.heap.size w w':=by
 have hal:=aa w (.cells #[.int .i64 g.1,.int .i64 g.2.k,.int .i64 g.2.v.1,.int .i64 g.2.v.2.1,.string g.2.v.2.2,.int .i64 g.2.c,.slice a g.2.ks.length cap] 133);have q0:=aw w #[.int .i64 g.1,.int .i64 g.2.k,.int .i64 g.2.v.1,.int .i64 g.2.v.2.1,.string g.2.v.2.2,.int .i64 g.2.c,.slice a g.2.ks.length cap] 133;by_cases h1:g.1=1
 ·have hF:fU g=fun _=>(2,1,⟨#[]⟩):=by unfold fU; rw [if_pos h1]
  have HF:Hid (fU g=fun _=>(2,1,⟨#[]⟩)):=hF;clear hF h;rw [h1] at hal;generalize fU g=F at *;go_enter Tryz.func152,Tryz.ntmps152;go_wp2
  exact Nl (v:=.tuple #[.func (.func 185) #[] #[],.int .i64 0]) (by simp [results,Tryz.results152,go_sem]) rfl ⟨_,rfl,by
   rw [HF.out];exact ⟨185,#[],rfl,enters_of Tryz.func185 (by kernel_rfl) rfl,fun row a cap W _ _ _=>by simpa [fW] using Ir a row.length cap W⟩,hal⟩
 ·have hF:fU g=fun row=>bB row g.2:=by unfold fU; rw [if_neg h1]
  have HF:Hid (fU g=fun row=>bB row g.2):=hF;have h2:¬ (g.1<2∨5<g.1):=fun h2=>by unfold bX at h; rw [if_neg h1,if_pos h2] at h; cases h
  have h3:(an cols g.2).2=0:=Classical.byContradiction fun h3=>by unfold bX at h; rw [if_neg h1,if_neg h2,if_pos h3] at h; exact h3 h
  have h4:g.1=3→(an cols g.2).1=3∨(an cols g.2).1=1:=fun e=>by
   unfold bX at h;rw [if_neg h1,if_neg h2,if_neg (by simpa using h3)] at h;by_cases h5:(an cols g.2).1=3
   ·exact .inl h5
   ·by_cases h6:(an cols g.2).1=1
    ·exact .inr h6
    ·rw [if_pos ⟨e,h5,h6⟩] at h; cases h
  have con:=iQ cols g.2 ca ccap a cap _ ((bd.next hal (Nj _) hk).up hal.size) ((hc.next hal (Nj _)).up hal.size) h3;have hk4:g.1=2∨g.1=3∨g.1=4∨g.1=5:=by omega
  clear hF h h3 h2 h1;generalize fU g=F at *;generalize (an cols g.2).1=t at *;unfold lC at con;go_enter Tryz.func152,Tryz.ntmps152;generalize hk1:g.1=kd at *;clear hk1;have main:(kd=2∨kd=4∨kd=5)∨(kd=3∧(t=3∨t=1)):=by
   rcases hk4 with e | e | e | e
   ·exact .inl (.inl e)
   ·exact .inr ⟨e,h4 e⟩
   ·exact .inl (.inr (.inl e))
   ·exact .inl (.inr (.inr e))
  clear hk4 h4;rcases main with (rfl | rfl | rfl) | ⟨rfl,rfl | rfl⟩
  all_goals (
   go_wp2_with fail
   generalize w.alloc (.cells #[_,.int .i64 g.2.k,.int .i64 g.2.v.1,.int .i64 g.2.v.2.1,.string g.2.v.2.2,.int .i64 g.2.c,.slice a g.2.ks.length cap] 133)=w1 at *;refine con.mono ?_;rintro e w2 ⟨u,rfl,hA2,hb2⟩;have hA:=chain hal hb2;have q2:=(hb2.block _ (ae q0)).trans q0;have c0:=cell_of (i:=0) q2 rfl;clear con;have hA2:=hA2.down hal.size;obtain ⟨g',cb,rfl⟩:∃ g' cb,u = .func (.func g') #[] cb:=by obtain ⟨g',cb,e,_⟩:=hA2; exact ⟨g',cb,e⟩
   dsimp only;go_wp2
   exact Nl (v:=.tuple #[.func (.func g') #[] cb,.int .i64 0]) (by simp [results,Tryz.results152,go_sem]) rfl ⟨_,rfl,by rw [HF.out]; exact hA2,hA⟩)
end Go.Proofs.YtohjlfhmnmcndaaGreat
namespace Go.Proofs.YtohjlfhmnmcndaaGreat
open Go.RowKit
set_option maxRecDepth 100000
set_option maxHeartbeats 16000000
inductive Pl where
 | mk (k n:Int) (x:Ex) (xs:List Ex) (gs:List Ag) (ks:List Pl)
def Pl.k:Pl→Int | .mk k _ _ _ _ _=>k
def Pl.n:Pl→Int | .mk _ n _ _ _ _=>n
def Pl.x:Pl→Ex | .mk _ _ x _ _ _=>x
def Pl.xs:Pl→List Ex | .mk _ _ _ xs _ _=>xs
def Pl.gs:Pl→List Ag | .mk _ _ _ _ gs _=>gs
def Pl.ks:Pl→List Pl | .mk _ _ _ _ _ ks=>ks
mutual
theorem Pl.ind {P:Pl→Prop} (h:∀ k n x xs gs ks,(∀ p ∈ ks,P p)→P (.mk k n x xs gs ks)):∀ p,P p
 | .mk k n x xs gs ks=>h k n x xs gs ks (Pl.FP h ks)
theorem Pl.FP {P:Pl→Prop} (h:∀ k n x xs gs ks,(∀ p ∈ ks,P p)→P (.mk k n x xs gs ks)):∀ ks:List Pl,∀ p ∈ ks,P p
 | [],_,hx=>by simp at hx
 | y :: r,x,hx=>by
  rcases List.mem_cons.mp hx with e | hx
  ·exact e ▸ Pl.ind h y
  ·exact Pl.FP h r x hx
end
structure Pw where
 xa:Option Addr
 xc:Nat
 sa:Option Addr
 sc:Nat
 ga:Option Addr
 gc:Nat
 ka:Option Addr
 kc:Nat
abbrev eS (p:Pl) (q:Pw):Array Value:=#[.int .i64 p.k,.int .i64 p.n,.int .i64 p.x.k,.int .i64 p.x.v.1,.int .i64 p.x.v.2.1,.string p.x.v.2.2,.int .i64 p.x.c,.slice q.xa p.x.ks.length q.xc,.slice q.sa p.xs.length q.sc,.slice q.ga p.gs.length q.gc,.slice q.ka p.ks.length q.kc]
abbrev pd (p:Pl) (q:Pw) (ca:Option Addr) (n cc:Nat) (na:Option Addr) (m nc:Nat):Array Value:=#[.int .i64 p.k,.int .i64 p.n,.int .i64 p.x.k,.int .i64 p.x.v.1,.int .i64 p.x.v.2.1,.string p.x.v.2.2,.int .i64 p.x.c,.slice q.xa p.x.ks.length q.xc,.slice q.sa p.xs.length q.sc,.slice q.ga p.gs.length q.gc,.slice q.ka p.ks.length q.kc,.slice ca n cc,.slice na m nc]
structure gY (W:World) (b off:Nat) (p:Pl) (q:Pw):Prop where
 c0:W.cell? ⟨b,off,none⟩=some (.int .i64 p.k)
 c1:W.cell? ⟨b,off+1,none⟩=some (.int .i64 p.n)
 ub:mb W b (off+2) p.x.k p.x.v p.x.c q.xa p.x.ks.length q.xc
 c8:W.cell? ⟨b,off+8,none⟩=some (.slice q.sa p.xs.length q.sc)
 c9:W.cell? ⟨b,off+9,none⟩=some (.slice q.ga p.gs.length q.gc)
 zY:W.cell? ⟨b,off+10,none⟩=some (.slice q.ka p.ks.length q.kc)
theorem gY.next {B:Nat} {W w1:World} {b off:Nat} {p:Pl} {q:Pw} (h:gY W b off p q) (hb:Below B W w1) (hB:b<B):gY w1 b off p q :=
 ⟨(hb.cell (p:=⟨b,_,none⟩) hB).trans h.c0,(hb.cell (p:=⟨b,_,none⟩) hB).trans h.c1,h.ub.next hb hB,(hb.cell (p:=⟨b,_,none⟩) hB).trans h.c8,(hb.cell (p:=⟨b,_,none⟩) hB).trans h.c9,(hb.cell (p:=⟨b,_,none⟩) hB).trans h.zY⟩
theorem gY.mN {t:Nat} {W w1:World} {b off:Nat} {p:Pl} {q:Pw} (h:gY W b off p q) (hb:au t W w1) (hB:b<W.heap.size) (hn:b≠t):gY w1 b off p q :=
 ⟨(hb.cell (p:=⟨b,_,none⟩) hB hn).trans h.c0,(hb.cell (p:=⟨b,_,none⟩) hB hn).trans h.c1,h.ub.mN hb hB hn,(hb.cell (p:=⟨b,_,none⟩) hB hn).trans h.c8,(hb.cell (p:=⟨b,_,none⟩) hB hn).trans h.c9,(hb.cell (p:=⟨b,_,none⟩) hB hn).trans h.zY⟩
inductive ft (B:Nat) (W:World):Option Addr→List Pl→Prop
 | nil (a:Option Addr):ft B W a []
 | some (b off:Nat) (l:List Pl) (q:Nat→Pw) (hb:b<B)
   (hc:∀ (i:Nat) (h:i<l.length),gY W b (off+i*11) l[i] (q i))
   (hx:∀ (i:Nat) (h:i<l.length),bd B W (q i).xa l[i].x.ks)
   (hs:∀ (i:Nat) (h:i<l.length),bd B W (q i).sa l[i].xs)
   (hg:∀ (i:Nat) (h:i<l.length),jD B W (q i).ga l[i].gs)
   (hk:∀ (i:Nat) (h:i<l.length),ft B W (q i).ka l[i].ks):ft B W (some ⟨b,off,none⟩) l
theorem ft.next {B B':Nat} {W w1:World} (hb:Below B' W w1) (hB:B≤B') {a:Option Addr} {l:List Pl} (h:ft B W a l):ft B w1 a l:=by
 induction h with
 | nil a=>exact .nil a
 | some b off l q hlt hc hx hs hg _ ih=>exact .some b off l q hlt (fun i hi=>(hc i hi).next hb (Nn hlt hB)) (fun i hi=>bd.next hb hB (hx i hi)) (fun i hi=>bd.next hb hB (hs i hi)) (fun i hi=>jD.next hb hB (hg i hi)) ih
theorem ft.up {B B':Nat} {W:World} (hB:B≤B') {a:Option Addr} {l:List Pl} (h:ft B W a l):ft B' W a l:=by
 induction h with
 | nil a=>exact .nil a
 | some b off l q hlt hc hx hs hg _ ih=>exact .some b off l q (Nn hlt hB) hc (fun i hi=>(hx i hi).up hB) (fun i hi=>(hs i hi).up hB) (fun i hi=>(hg i hi).up hB) ih
structure ja (B:Nat) (W:World) (p:Pl) (q:Pw):Prop where
 x:bd B W q.xa p.x.ks
 xs:bd B W q.sa p.xs
 gs:jD B W q.ga p.gs
 ks:ft B W q.ka p.ks
theorem ja.next {B B':Nat} {W w1:World} {p:Pl} {q:Pw} (h:ja B W p q) (hb:Below B' W w1) (hB:B≤B'):ja B w1 p q:=⟨bd.next hb hB h.x,bd.next hb hB h.xs,jD.next hb hB h.gs,ft.next hb hB h.ks⟩
theorem ja.up {B B':Nat} {W:World} {p:Pl} {q:Pw} (h:ja B W p q) (hB:B≤B'):ja B' W p q:=⟨h.x.up hB,h.xs.up hB,h.gs.up hB,h.ks.up hB⟩
theorem ft.elem {B:Nat} {W:World} {a:Option Addr} {l:List Pl} (h:ft B W a l) {k:Nat} (hk:k<l.length) :
  ∃ b off q,a=Option.some ⟨b,off,none⟩∧b<B∧gY W b (off+k*11) l[k] q∧ja B W l[k] q:=by
 cases h with
 | nil=>simp at hk
 | some b off l q hlt hc hx hs hg hh=>exact ⟨b,off,q k,rfl,hlt,hc k hk,⟨hx k hk,hs k hk,hg k hk,hh k hk⟩⟩
end Go.Proofs.YtohjlfhmnmcndaaGreat
namespace Go.Proofs.YtohjlfhmnmcndaaGreat
open Go.RowKit Go.Lib Go.Shelf
set_option maxRecDepth 100000
set_option maxHeartbeats 16000000
theorem Mb:(Tryz.prog.info? 154).map (fun i=>(i.zero,i.size,i.bytes))=some (some (.agg #[.slice none 0 0,.slice none 0 0]),2,48):=by kernel_rfl
theorem El (a:Option Addr) (cap:Nat) (L:List Kp) (w:World) (h:uk w a L) (hl:L.length≤400) :
  Calls Tryz.prog 124 #[.slice a L.length cap] w fun e w'=>∃ v,e = .returned v∧lq w w.heap.size w' v (dD L)∧Below w.heap.size w w':=by
 obtain ⟨i0,hi,hj0,hj1,hj2⟩:=info_parts Tryz.gX;obtain ⟨ip,hip,hp0,hp1,hp2⟩:=info_parts Mb;go_enter Tryz.func124,Tryz.ntmps124;go_wp2_with fail
 go_loopw [3,9] (fun v i wr=>∃ k:Nat,k≤L.length∧i = .int .i64 k∧lq w w.heap.size wr v (dD (L.take k))∧Below w.heap.size w wr) (fun _ i _=>L.length - (intOf i).toNat)
 case atStart=>exact ⟨0,Nr _,rfl,lq.nil _ _ _ (Nj _),Nk _ _⟩
 case round =>
  obtain ⟨k,hk,rfl,HPs,hb⟩:=hrel;have hz:=hb.size;by_cases hlt:k<L.length
  ·obtain ⟨b,off,rfl,hbl,e2,⟨ra,rc,e1,sr⟩,ka,kc,e0,sk⟩:=h.elem hlt;have p2:=(hb.cell (p:=⟨b,_,none⟩) hbl).trans e2;have p1:=(hb.cell (p:=⟨b,_,none⟩) hbl).trans e1;have p0:=(hb.cell (p:=⟨b,_,none⟩) hbl).trans e0;have hbl':b<wr.heap.size:=Nn hbl hz;have HSr:Hid (aM w ra L[k].2.1):=sr;have HSk:Hid (aM w ka L[k].1):=sk;have HT:Hid (dD (L.take (k+1))=lZ (dL (dD (L.take k)) L[k]) L[k].2):=BJ hlt;have hsz:=qu (L.take k);rw [NN] at hsz;have HSm:Hid (∀ p ∈ dD (L.take k),p.2.length≤400):=fun p hp=>by have:=hsz.2 p hp; omega
   have hpn:(dD (L.take k)).length≤400:=by have:=hsz.1; omega
   obtain ⟨va,vc,ev⟩:∃ va vc,u3 = .slice va (dD (L.take k)).length vc:=by obtain ⟨_,_,_,_,I⟩:=HPs; exact eD I.own
   subst ev;have hal:=aa wr (.cells #[.slice ka L[k].1.length kc,.slice ra L[k].2.1.length rc,.int .i64 L[k].2.2] 157);have q0:=aw wr #[.slice ka L[k].1.length kc,.slice ra L[k].2.1.length rc,.int .i64 L[k].2.2] 157;have hbk:=chain hb hal;have HPk:=HPs.next hal;clear e0 e1 e2 sr sk hsz HPs;go_upto_region 5 with fail
   clear p0 p1 p2;generalize wr.alloc (.cells #[.slice ka L[k].1.length kc,.slice ra L[k].2.1.length rc,.int .i64 L[k].2.2] 157)=wk at *;obtain ⟨ps,eps⟩:∃ ps,ps=dD (L.take k):=⟨_,rfl⟩
   by_cases h0:ps.length=0
   ·have HOp:Hid (dL (dD (L.take k)) L[k]=ps ++ [(L[k].1,[])]):=by show _=_; rw [← eps]; exact Ed h0 _
    rw [← eps] at HPk HSm hpn ⊢;clear eps;obtain rfl:ps = []:=Nu h0;haveI:Nonempty (bW wk):=⟨⟨wk,Nk _ _⟩⟩
    refine aq (by kernel_rfl) (by kernel_rfl) ?_
    repeat (go_big_quiet_step (fail))
    refine wpQuiet_nil ?_;rintro wq ⟨⟨v7,hb7⟩,h7⟩;obtain rfl:wq=v7:=h7;have HPq:=HPk.next hb7;have hbq:=chain hbk hb7;have qq:=(hb7.block _ (ae q0)).trans q0;clear HPk h0;obtain ⟨xs,Bl,rv,zs,In⟩:=HPq;have ho:=In.own;have HInq:Hid (lB w w.heap.size wq (.slice va 0 vc) ([]:List Pt) xs Bl rv zs):=In;have kq:wq.cell? ⟨wr.heap.size,0,none⟩=some (.slice ka L[k].1.length kc):=cell_of (i:=0) qq rfl;have hzq:=hbq.size;clear In
    go_wp2_with (first | (at_builtin; refine NZ _ rfl _ _ 149 rfl w.heap.size 154 ip _ 2 48 Tryz.underlying149 hip hp0 hp1 hp2 rfl (by decide) _ _ _ rfl (ho.alloc _) ⟨wq.heap.size,0,none⟩ 1 1 [.slice ka L[k].1.length kc,.slice none 0 0] rfl rfl ?Bc1 ?Bc2 ?Bc3 ?Bc4 ?Bc5 ?_))
    case Bc1 =>
     intro i u hu
     match i,hu with
     | 0,hu=>simp at hu; subst hu; simp [Addr.add]
     | 1,hu=>simp at hu; subst hu; simp [Addr.add]
    case Bc2=>intro u hu; simp at hu; rcases hu with rfl | rfl <;> rfl
    case Bc3=>unfold maxLen; omega
    case Bc4=>omega
    case Bc5=>simp; omega
    intro v' wx ox gx _;have halq:=aa wq (.cells #[.slice ka L[k].1.length kc,.slice none 0 0] 154);have oq:=ho.alloc (.cells #[.slice ka L[k].1.length kc,.slice none 0 0] 154);have HPx:lq w w.heap.size wx v' (([]:List Pt) ++ [(L[k].1,[])]):=(HInq.out.next halq).push HSk.out gx (by first | exact ox | (rw [hm]; exact ox));have hbx:Below w.heap.size w wx:=(chain hbq halq).grown gx (by simp; omega) (fun q hq=>(oq.lt q hq).1)
    have qx:wx.heap[wr.heap.size]? = some (.cells #[.slice ka L[k].1.length kc,.slice ra L[k].2.1.length rc,.int .i64 L[k].2.2] 157 (0,0)):=by
     have qa:=(halq.block _ (ae qq)).trans qq;exact (gx.block _ (ae qa) (fun e=>jy oq qa (by decide) e.symm)).trans qa
    have q0x:=qx;obtain ⟨ps1,eps1⟩:∃ ps1,ps1=([]:List Pt) ++ [(L[k].1,[])]:=⟨_,rfl⟩
    obtain ⟨m,hmm⟩:∃ m,m=0:=⟨_,rfl⟩
    have hm4:m≤400:=by omega
    rw [← eps1] at HPx;have hm1:ps1.length=m+1:=by rw [hmm,eps1,Nx]; first | rfl | (rw [hm]; rfl)
    have eo:dL (dD (L.take k)) L[k]=ps1:=by rw [eps1]; exact HOp.out
    have hsm:∀ p ∈ ps1,p.2.length≤400:=fun p hp=>by
     rw [eps1] at hp;rcases List.mem_append.1 hp with hp | hp
     ·exact HSm.out p hp
     ·rw [List.mem_singleton.1 hp]; exact Nr _
    obtain ⟨g,c,evx⟩:∃ g c,v' = .slice (some ⟨g,0,none⟩) ps1.length c:=by
     obtain ⟨xs',_,_,_,I'⟩:=HPx;rcases I'.own.2 with ⟨_,h2⟩ | ⟨g2,c2,_,h2,_⟩
     ·omega
     ·exact ⟨g2,c2,h2⟩
    subst evx;clear eps1 ox gx oq HInq ho kq halq hmm;have hmlt:m<ps1.length:=by omega
    obtain ⟨xs,Bl,rv,zs,In⟩:=HPx;have HIn:Hid (lB w w.heap.size wx (.slice (some ⟨g,0,none⟩) ps1.length c) ps1 xs Bl rv zs):=In;have hgB:w.heap.size≤g:=(In.own.lt g rfl).1;have hgx:g<wx.heap.size:=(In.own.lt g rfl).2;have hgl:g=wr.heap.size→False:=fun e=>jy In.own q0x (by decide) (show some g=some wr.heap.size by rw [e])
    obtain ⟨rva,rvc,erv⟩:∃ rva rvc,rv m = .slice rva ps1[m].2.length rvc:=eD (In.row m hmlt).1;have cx:wx.cell? ⟨g,m*2+1,none⟩=some (.slice rva ps1[m].2.length rvc):=by
     have:=In.own;rw [this.cellAt _ (by omega),In.cell m hmlt,erv]
    have hrow1:ps1[m].2.length≤400:=hsm ps1[m] (Ns hmlt);have ev:Value.slice (some ⟨g,0,none⟩) (m+1) c = .slice (some ⟨g,0,none⟩) ps1.length c:=by rw [hm1]
    have m0:(0:Int)≤(m:Int):=by omega
    have m1:(m:Int)<(m:Int)+1:=by omega
    have m2:(m:Int)≤400:=by omega
    clear In;try rw [hm1]
    go_upto_region 8 with fail
    have hCC:∀ W W':World,(W.heap[wr.heap.size]? = some (.cells #[.slice ka L[k].1.length kc,.slice ra L[k].2.1.length rc,.int .i64 L[k].2.2] 157 (0,0)))→Below W.heap.size W W'→(W'.heap[wr.heap.size]? = some (.cells #[.slice ka L[k].1.length kc,.slice ra L[k].2.1.length rc,.int .i64 L[k].2.2] 157 (0,0))):=fun W W' h hb=>(hb.block _ (ae h)).trans h
    have hdr:Below wx.heap.size wx wx.drew:=(Nk _ _).drew;have CW:(wx.drew.heap[wr.heap.size]? = some (.cells #[.slice ka L[k].1.length kc,.slice ra L[k].2.1.length rc,.int .i64 L[k].2.2] 157 (0,0))):=hCC _ _ q0x hdr;refine aK (fun W=>(W.heap[wr.heap.size]? = some (.cells #[.slice ka L[k].1.length kc,.slice ra L[k].2.1.length rc,.int .i64 L[k].2.2] 157 (0,0)))) (by kernel_rfl) ?_;refine ab hCC 40 (i:=0) (v:=.pointer (some ⟨g,m*2,none⟩)) (fun n hn=>?_) CW ?_
    ·go_simp
    simp only [Act.put,pA,pB,pC];refine ab hCC 41 (i:=1) (v:=.pointer (some ⟨g,m*2,none⟩)) (fun n hn=>?_) CW ?_
    ·go_simp
    simp only [Act.put,pA,pB,pC];refine ab hCC 42 (i:=2) (v:=.pointer (some ⟨g,m*2,none⟩)) (fun n hn=>?_) CW ?_
    ·go_simp
    simp only [Act.put,pA,pB,pC];refine ab hCC 43 (i:=3) (v:=.pointer (some ⟨g,m*2+1,none⟩)) (fun n hn=>?_) CW ?_
    ·go_simp
    simp only [Act.put,pA,pB,pC];refine ab hCC 45 (i:=5) (v:=.pointer (some ⟨wr.heap.size,1,none⟩)) (fun n hn=>?_) CW ?_
    ·go_simp
    simp only [Act.put,pA,pB,pC];refine ab hCC 46 (i:=6) (v:=.agg #[.slice ra L[k].2.1.length rc,.int .i64 L[k].2.2]) (fun n hn=>?_) CW ?_
    ·have hc:n.cell? ⟨wr.heap.size,1,none⟩=some (.slice ra L[k].2.1.length rc):=cell_of (i:=1) hn rfl;have hc1:n.cell? ⟨wr.heap.size,2,none⟩=some (.int .i64 L[k].2.2):=cell_of (i:=2) hn rfl;go_simp
    simp only [Act.put,pA,pB,pC];refine az (rs:=[4,7]) (by kernel_rfl) (by simp) ?_;intro w3 hb3 jj hj;have D3:=chain hdr hb3;have CW3:=hCC _ _ CW hb3;rcases (by simpa using hj:jj=4∨jj=7) with rfl | rfl
    clear hj;have c3:=(D3.cell (p:=⟨g,m*2+1,none⟩) hgx).trans cx;refine wpOp_step rfl (fun K hK=>?_);go_simp;refine hK _ _ ⟨CW3,?_⟩;clear hK K;try simp only [Act.put,pA,pB,pC]
    refine az (rs:=[7]) (by kernel_rfl) (by simp) ?_;intro w5 hb5 jj hj;obtain rfl:jj=7:=by simpa using hj
    clear hj;refine wpOp_step rfl (fun K hK=>?_);go_simp;have hal5:=aa w5 (.cells #[.slice ra L[k].2.1.length rc,.int .i64 L[k].2.2] 58);have q6:=aw w5 #[.slice ra L[k].2.1.length rc,.int .i64 L[k].2.2] 58;have D6:=chain (chain D3 hb5) hal5;have CWt:=hCC _ _ (hCC _ _ CW3 hb5) hal5;refine hK _ _ ⟨CWt,?_⟩;clear hK K c3 CW3;generalize w5.alloc (.cells #[.slice ra L[k].2.1.length rc,.int .i64 L[k].2.2] 58)=w6 at *;try simp only [Act.put,pA,pB,pC]
    refine az (rs:=[8]) (by kernel_rfl) (by simp) ?_;intro w7 hb7 jj hj;obtain rfl:jj=8:=by simpa using hj
    clear hj;have D7:=chain D6 hb7;have CW7:=hCC _ _ CWt hb7;have q7:=(hb7.block _ (ae q6)).trans q6;have I7:=HIn.out.next D7;have rl7:w7.ownsRow Bl 58 2 (.slice rva ps1[m].2.length rvc) ps1[m].2.length (zs m):=by
     have:=(I7.row m hmlt).1;rw [if_pos hm1.symm,erv] at this;exact this
    have hBl7:=I7.hi;refine wpOp_step rfl (fun K hK=>?_);refine Eq.mpr (if_pos (by kernel_rfl)) ?_;refine dQ (some 48) rfl (Operand.tmp 44) (Operand.tmp 47) 34 rfl Bl 58 i0 _ 2 32 Tryz.underlying34 hi hj0 hj1 hj2 rfl (by decide) (.slice rva ps1[m].2.length rvc) ps1[m].2.length (zs m) rfl rl7 ⟨w5.heap.size,0,none⟩ 1 1 [.slice ra L[k].2.1.length rc,.int .i64 L[k].2.2] rfl rfl ?Ac1 ?Ac2 ?Ac3 ?Ac4 ?Ac5 ?_
    case Ac1 =>
     intro j u hj
     match j,hj with
     | 0,hj=>simp at hj; subst hj; exact cell_of (i:=0) q7 rfl
     | 1,hj=>simp at hj; subst hj; exact cell_of (i:=1) q7 rfl
    case Ac2=>intro u hu; simp at hu; rcases hu with rfl | rfl <;> rfl
    case Ac3=>unfold maxLen; omega
    case Ac4=>omega
    case Ac5=>exact hBl7
    rotate_left;clear hj;refine wpOp_step rfl (fun K hK=>?_);go_simp;have hal4:=aa w3 (.cells #[.slice ra L[k].2.1.length rc,.int .i64 L[k].2.2] 58);have q4:=aw w3 #[.slice ra L[k].2.1.length rc,.int .i64 L[k].2.2] 58;have D4:=chain D3 hal4;have CW4:=hCC _ _ CW3 hal4;refine hK _ _ ⟨CW4,?_⟩;clear hK K;generalize w3.alloc (.cells #[.slice ra L[k].2.1.length rc,.int .i64 L[k].2.2] 58)=w4 at *;try simp only [Act.put,pA,pB,pC]
    refine az (rs:=[4]) (by kernel_rfl) (by simp) ?_;intro w6 hb6 jj hj;obtain rfl:jj=4:=by simpa using hj
    clear hj;have D6:=chain D4 hb6;have CWt:=hCC _ _ CW4 hb6;have q6:=(hb6.block _ (ae q4)).trans q4;have c6:=(D6.cell (p:=⟨g,m*2+1,none⟩) hgx).trans cx;refine wpOp_step rfl (fun K hK=>?_);go_simp;refine hK _ _ ⟨CWt,?_⟩;clear hK K c6 CW3 CW4;try simp only [Act.put,pA,pB,pC]
    refine az (rs:=[8]) (by kernel_rfl) (by simp) ?_;intro w7 hb7 jj hj;obtain rfl:jj=8:=by simpa using hj
    clear hj;have D7:=chain D6 hb7;have CW7:=hCC _ _ CWt hb7;have q7:=(hb7.block _ (ae q6)).trans q6;have I7:=HIn.out.next D7;have rl7:w7.ownsRow Bl 58 2 (.slice rva ps1[m].2.length rvc) ps1[m].2.length (zs m):=by
     have:=(I7.row m hmlt).1;rw [if_pos hm1.symm,erv] at this;exact this
    have hBl7:=I7.hi;refine wpOp_step rfl (fun K hK=>?_);refine Eq.mpr (if_pos (by kernel_rfl)) ?_;refine dQ (some 48) rfl (Operand.tmp 44) (Operand.tmp 47) 34 rfl Bl 58 i0 _ 2 32 Tryz.underlying34 hi hj0 hj1 hj2 rfl (by decide) (.slice rva ps1[m].2.length rvc) ps1[m].2.length (zs m) rfl rl7 ⟨w3.heap.size,0,none⟩ 1 1 [.slice ra L[k].2.1.length rc,.int .i64 L[k].2.2] rfl rfl ?Ac1 ?Ac2 ?Ac3 ?Ac4 ?Ac5 ?_
    case Ac1 =>
     intro j u hj
     match j,hj with
     | 0,hj=>simp at hj; subst hj; exact cell_of (i:=0) q7 rfl
     | 1,hj=>simp at hj; subst hj; exact cell_of (i:=1) q7 rfl
    case Ac2=>intro u hu; simp at hu; rcases hu with rfl | rfl <;> rfl
    case Ac3=>unfold maxLen; omega
    case Ac4=>omega
    case Ac5=>exact hBl7
    all_goals
     intro v8 w8 o8 g8 _;have nb8:∀ q,Value.ownBlock (.slice rva ps1[m].2.length rvc)=some q→w.heap.size≤q∧q<w7.heap.size∧(q=wr.heap.size→False)∧(q=g→False):=fun q hq=>by
      have h1:=rl7.lt q hq;refine ⟨Nw I7.lo h1.1,h1.2,fun e=>?_,fun e=>?_⟩
      ·exact jy rl7 CW7 (by decide) (by rw [hq,e])
      ·have o7:=I7.own;rcases nF (by decide) rl7 o7 with h2 | h2
       ·rw [h2] at hq; cases hq
       ·exact h2 (by rw [hq,e]; rfl)
     have CW8:(w8.heap[wr.heap.size]? = some (.cells #[.slice ka L[k].1.length kc,.slice ra L[k].2.1.length rc,.int .i64 L[k].2.2] 157 (0,0))):=(g8.block _ (ae CW7) (fun e=>(nb8 _ e.symm).2.2.1 rfl)).trans CW7;have c8:w8.cell? ⟨g,m*2+1,none⟩=some (.slice rva ps1[m].2.length rvc)∧w8.frozen? ⟨g,m*2+1,none⟩=false:=by
      have o7:=I7.own;rw [hm1] at o7;have hb8:w8.heap[g]? = w7.heap[g]?:=g8.block g (o7.lt g rfl).2 (fun e=>(nb8 _ e.symm).2.2.2 rfl);refine ⟨(NA (a:=⟨g,m*2+1,none⟩) hb8).trans ?_,(OP (a:=⟨g,m*2+1,none⟩) hb8).trans (o7.frozenAt _)⟩;rw [o7.cellAt _ (by omega),I7.cell m hmlt,erv]
     have hg8:g<w8.heap.size:=by
      have o7:=I7.own;rw [hm1] at o7;exact Nn (o7.lt g rfl).2 g8.size
     refine hK _ _ ⟨CW8,?_⟩;clear hK K;try simp only [Act.put,pA,pB,pC]
     refine ab hCC 49 (i:=9) (v:=.pointer (some ⟨g,m*2,none⟩)) (fun n hn=>?_) CW8 ?_
     ·go_simp
     simp only [Act.put,pA,pB,pC];refine ab hCC 50 (i:=10) (v:=.pointer (some ⟨g,m*2+1,none⟩)) (fun n hn=>?_) CW8 ?_
     ·go_simp
     simp only [Act.put,pA,pB,pC];refine az (rs:=[11]) (by kernel_rfl) (by simp) ?_;intro w9 hb9 jj hj;obtain rfl:jj=11:=by simpa using hj
     clear hj;have c9:w9.cell? ⟨g,m*2+1,none⟩=some (.slice rva ps1[m].2.length rvc):=(hb9.cell (p:=⟨g,m*2+1,none⟩) hg8).trans c8.1;have f9:w9.frozen? ⟨g,m*2+1,none⟩=false:=(hb9.frozen (p:=⟨g,m*2+1,none⟩) hg8).trans c8.2;have CW9:=hCC _ _ CW8 hb9;obtain ⟨v8a,v8c,ev8⟩:∃ v8a v8c,v8 = .slice v8a (ps1[m].2.length+1) v8c:=eD o8;have P9:lq w w.heap.size (w9.setCell ⟨g,m*2+1,none⟩ v8) (.slice (some ⟨g,0,none⟩) (m+1) c) (lZ ps1 L[k].2):=by
      have I7':=I7;rw [← ev] at I7';exact lB.put I7' hm1 (rc:=rc) HSr.out (by rw [erv]; exact g8) o8 hb9
     have B9:Below w.heap.size w (w9.setCell ⟨g,m*2+1,none⟩ v8):=((chain ((chain hbx D7).trans ((Nk _ _).grown g8 (Nw hbx.size D7.size) (fun q hq=>(nb8 q hq).1))) hb9)).setCell (p:=⟨g,m*2+1,none⟩) hgB _;have CW10:((w9.setCell ⟨g,m*2+1,none⟩ v8).heap[wr.heap.size]? = some (.cells #[.slice ka L[k].1.length kc,.slice ra L[k].2.1.length rc,.int .i64 L[k].2.2] 157 (0,0))):=(NR _ _ _ _ (fun e=>hgl e.symm)).trans CW9;subst ev8;refine wpOp_step rfl (fun K hK=>?_);go_simp;refine hK _ _ ⟨CW10,?_⟩;clear hK K CW7 CW8 CW9 c8 c9 f9 nb8 rl7 I7 q7 o8 g8
     generalize w9.setCell ⟨g,m*2+1,none⟩ (.slice v8a (ps1[m].2.length+1) v8c)=wS at *;try simp only [Act.put,pA,pB,pC]
     refine bL (by kernel_rfl) ?_;intro wT hbT;have PT:=P9.next hbT;have BT:=chain B9 hbT;clear P9 B9 CW10 CW CWt;go_wp2
     go_roundw
     case rel=>exact ⟨k+1,by omega,by go_num,by rw [HT.out,eo]; first | exact PT | (rw [hm1]; exact PT),BT⟩
     case measure=>simp [intOf]; omega
   ·obtain ⟨mm,hm⟩:∃ mm,ps.length=mm+1:=⟨ps.length - 1,by omega⟩
    have hmm:mm<ps.length:=by omega
    rw [← eps] at HPk HSm hpn ⊢;have Eps:Hid (ps=dD (L.take k)):=eps;clear eps;rw [hm] at HPk ⊢;obtain ⟨g0,eva⟩:∃ g0,va=some ⟨g0,0,none⟩:=by
     obtain ⟨_,_,_,_,I⟩:=HPk;rcases I.own.2 with ⟨_,h2⟩ | ⟨g2,c2,_,h2,_⟩
     ·omega
     ·exact ⟨g2,by injection h2⟩
    subst eva;obtain ⟨la,lc,ck,sk,hgk⟩:∃ la lc,wk.cell? ⟨g0,mm*2,none⟩=some (.slice la ps[mm].1.length lc)∧aM w la ps[mm].1∧g0<wk.heap.size:=by
     obtain ⟨xs,_,_,_,I⟩:=HPk;obtain ⟨la,lc,x0,s0⟩:=I.key mm hmm;have o:=I.own;rw [hm] at o;exact ⟨la,lc,by rw [o.cellAt _ (by omega)]; exact x0,s0,(o.lt g0 rfl).2⟩
    have HSl:Hid (aM w la ps[mm].1):=sk;have m0:(0:Int)≤(mm:Int):=by omega
    have m1:(mm:Int)<(mm:Int)+1:=by omega
    have m2:(mm:Int)≤400:=by omega
    have mne:¬ (mm:Int)+1=0:=by omega
    have hCC:∀ W W':World,(W.heap[wr.heap.size]? = some (.cells #[.slice ka L[k].1.length kc,.slice ra L[k].2.1.length rc,.int .i64 L[k].2.2] 157 (0,0))∧W.cell? ⟨g0,mm*2,none⟩=some (.slice la ps[mm].1.length lc))→Below W.heap.size W W'→(W'.heap[wr.heap.size]? = some (.cells #[.slice ka L[k].1.length kc,.slice ra L[k].2.1.length rc,.int .i64 L[k].2.2] 157 (0,0))∧W'.cell? ⟨g0,mm*2,none⟩=some (.slice la ps[mm].1.length lc)):=fun W W' h hb=>⟨(hb.block _ (ae h.1)).trans h.1,(hb.cell (Nt _ _ h.2)).trans h.2⟩
    have hdr:Below wk.heap.size wk wk.drew:=(Nk _ _).drew;have CW:(wk.drew.heap[wr.heap.size]? = some (.cells #[.slice ka L[k].1.length kc,.slice ra L[k].2.1.length rc,.int .i64 L[k].2.2] 157 (0,0))∧wk.drew.cell? ⟨g0,mm*2,none⟩=some (.slice la ps[mm].1.length lc)):=hCC _ _ ⟨q0,ck⟩ hdr;clear sk h0;refine aK (fun W=>(W.heap[wr.heap.size]? = some (.cells #[.slice ka L[k].1.length kc,.slice ra L[k].2.1.length rc,.int .i64 L[k].2.2] 157 (0,0))∧W.cell? ⟨g0,mm*2,none⟩=some (.slice la ps[mm].1.length lc))) (by kernel_rfl) ?_
    refine ab hCC 13 (i:=0) (v:=.slice (some ⟨g0,0,none⟩) (mm+1) vc) (fun n hn=>?_) CW ?_
    ·go_simp
    simp only [Act.put,pA,pB,pC];refine ab hCC 14 (i:=1) (v:=.int .i64 ((mm:Int)+1)) (fun n hn=>?_) CW ?_
    ·go_simp
    simp only [Act.put,pA,pB,pC];refine ab hCC 15 (i:=2) (v:=.bool false) (fun n hn=>?_) CW ?_
    ·go_simp
    simp only [Act.put,pA,pB,pC];refine ab hCC 16 (i:=3) (v:=.bool false) (fun n hn=>?_) CW ?_
    ·go_simp
    simp only [Act.put,pA,pB,pC];refine ab hCC 17 (i:=4) (v:=.slice (some ⟨g0,0,none⟩) (mm+1) vc) (fun n hn=>?_) CW ?_
    ·go_simp
    simp only [Act.put,pA,pB,pC];refine ab hCC 18 (i:=5) (v:=.slice (some ⟨g0,0,none⟩) (mm+1) vc) (fun n hn=>?_) CW ?_
    ·go_simp
    simp only [Act.put,pA,pB,pC];refine ab hCC 19 (i:=6) (v:=.int .i64 ((mm:Int)+1)) (fun n hn=>?_) CW ?_
    ·go_simp
    simp only [Act.put,pA,pB,pC];refine ab hCC 20 (i:=7) (v:=.int .i64 (mm:Int)) (fun n hn=>?_) CW ?_
    ·go_simp;exact IntWalk.i64_in _ ⟨by omega,by omega⟩
    simp only [Act.put,pA,pB,pC];refine ab hCC 21 (i:=8) (v:=.pointer (some ⟨g0,mm*2,none⟩)) (fun n hn=>?_) CW ?_
    ·go_simp
    simp only [Act.put,pA,pB,pC];refine ab hCC 22 (i:=9) (v:=.pointer (some ⟨g0,mm*2,none⟩)) (fun n hn=>?_) CW ?_
    ·go_simp
    simp only [Act.put,pA,pB,pC];refine ab hCC 23 (i:=10) (v:=.slice la ps[mm].1.length lc) (fun n hn=>?_) CW ?_
    ·have hc:=hn.2;go_simp
    simp only [Act.put,pA,pB,pC];refine ab hCC 24 (i:=11) (v:=.pointer (some ⟨wr.heap.size,0,none⟩)) (fun n hn=>?_) CW ?_
    ·go_simp
    simp only [Act.put,pA,pB,pC];refine ab hCC 25 (i:=12) (v:=.slice ka L[k].1.length kc) (fun n hn=>?_) CW ?_
    ·have hc:n.cell? ⟨wr.heap.size,0,none⟩=some (.slice ka L[k].1.length kc):=cell_of (i:=0) hn.1 rfl;go_simp
    simp only [Act.put,pA,pB,pC];refine az (rs:=[13]) (by kernel_rfl) (by simp) ?_;intro w3 hb3 jj hj;obtain rfl:jj=13:=by simpa using hj
    clear hj;have CW3:=hCC _ _ CW hb3;have D3:=chain hdr hb3;have con:=nJ la ka lc kc ps[mm].1 L[k].1 w3 (HSl.out.next (chain hbk D3)) (HSk.out.next (chain hbk D3));generalize hcm:aG ps[mm].1 L[k].1=cm at con;have HCm:Hid (aG ps[mm].1 L[k].1=cm):=hcm;clear hcm;refine wpOp_step rfl (fun K hK=>?_);go_simp;refine con.mono ?_;rintro e w4 ⟨rfl,hb4⟩;clear con;have CW4:=hCC _ _ CW3 hb4;have D4:=chain D3 hb4;refine hK _ _ ⟨CW4,?_⟩;clear hK K CW3
    refine ab hCC 27 (i:=14) (v:=.bool (cm != 0)) (fun n hn=>?_) CW4 ?_
    ·go_simp
    simp only [Act.put,pA,pB,pC];refine ab hCC 28 (i:=15) (v:=.bool (cm != 0)) (fun n hn=>?_) CW4 ?_
    ·go_simp
    simp only [Act.put,pA,pB,pC];refine bL (by kernel_rfl) ?_;intro wq hbw;have D5:=chain D4 hbw;have HPq:=HPk.next D5;have hbq:=chain hbk D5;have qq:=(D5.block _ (ae q0)).trans q0;clear CW CW4 hCC D4 D3 D5 hbw HPk;by_cases hc0:cm=0
    ·have hcb:(cm != 0)=false:=by simp [hc0]
     rw [hcb];have eo:dL (dD (L.take k)) L[k]=ps:=by rw [← Eps.out]; exact Aj hm (by rw [HCm.out]; exact hc0)
     clear Eps hcb;obtain ⟨wx,hwx⟩:∃ z,z=wq:=⟨_,rfl⟩
     subst hwx;obtain ⟨m,hmx⟩:∃ z,z=mm:=⟨_,rfl⟩
     subst hmx;obtain ⟨ps1,hpx⟩:∃ z,z=ps:=⟨_,rfl⟩
     subst hpx;obtain ⟨g,hgx0⟩:∃ z,z=g0:=⟨_,rfl⟩
     subst hgx0;obtain ⟨c,hcx⟩:∃ z,z=vc:=⟨_,rfl⟩
     subst hcx;have hm1:=hm;have q0x:=qq;have hbx:=hbq;have hsm:=HSm.out;have HPx:lq w w.heap.size wx (.slice (some ⟨g,0,none⟩) ps1.length c) ps1:=by rw [hm]; exact HPq
     clear HPq;go_wp2_with fail
     have hmlt:m<ps1.length:=by omega
     obtain ⟨xs,Bl,rv,zs,In⟩:=HPx;have HIn:Hid (lB w w.heap.size wx (.slice (some ⟨g,0,none⟩) ps1.length c) ps1 xs Bl rv zs):=In;have hgB:w.heap.size≤g:=(In.own.lt g rfl).1;have hgx:g<wx.heap.size:=(In.own.lt g rfl).2;have hgl:g=wr.heap.size→False:=fun e=>jy In.own q0x (by decide) (show some g=some wr.heap.size by rw [e])
     obtain ⟨rva,rvc,erv⟩:∃ rva rvc,rv m = .slice rva ps1[m].2.length rvc:=eD (In.row m hmlt).1;have cx:wx.cell? ⟨g,m*2+1,none⟩=some (.slice rva ps1[m].2.length rvc):=by
      have:=In.own;rw [this.cellAt _ (by omega),In.cell m hmlt,erv]
     have hrow1:ps1[m].2.length≤400:=hsm ps1[m] (Ns hmlt);have ev:Value.slice (some ⟨g,0,none⟩) (m+1) c = .slice (some ⟨g,0,none⟩) ps1.length c:=by rw [hm1]
     have m0:(0:Int)≤(m:Int):=by omega
     have m1:(m:Int)<(m:Int)+1:=by omega
     have m2:(m:Int)≤400:=by omega
     clear In;try rw [hm1]
     go_upto_region 8 with fail
     have hCC:∀ W W':World,(W.heap[wr.heap.size]? = some (.cells #[.slice ka L[k].1.length kc,.slice ra L[k].2.1.length rc,.int .i64 L[k].2.2] 157 (0,0)))→Below W.heap.size W W'→(W'.heap[wr.heap.size]? = some (.cells #[.slice ka L[k].1.length kc,.slice ra L[k].2.1.length rc,.int .i64 L[k].2.2] 157 (0,0))):=fun W W' h hb=>(hb.block _ (ae h)).trans h
     have hdr:Below wx.heap.size wx wx.drew:=(Nk _ _).drew;have CW:(wx.drew.heap[wr.heap.size]? = some (.cells #[.slice ka L[k].1.length kc,.slice ra L[k].2.1.length rc,.int .i64 L[k].2.2] 157 (0,0))):=hCC _ _ q0x hdr;refine aK (fun W=>(W.heap[wr.heap.size]? = some (.cells #[.slice ka L[k].1.length kc,.slice ra L[k].2.1.length rc,.int .i64 L[k].2.2] 157 (0,0)))) (by kernel_rfl) ?_;refine ab hCC 40 (i:=0) (v:=.pointer (some ⟨g,m*2,none⟩)) (fun n hn=>?_) CW ?_
     ·go_simp
     simp only [Act.put,pA,pB,pC];refine ab hCC 41 (i:=1) (v:=.pointer (some ⟨g,m*2,none⟩)) (fun n hn=>?_) CW ?_
     ·go_simp
     simp only [Act.put,pA,pB,pC];refine ab hCC 42 (i:=2) (v:=.pointer (some ⟨g,m*2,none⟩)) (fun n hn=>?_) CW ?_
     ·go_simp
     simp only [Act.put,pA,pB,pC];refine ab hCC 43 (i:=3) (v:=.pointer (some ⟨g,m*2+1,none⟩)) (fun n hn=>?_) CW ?_
     ·go_simp
     simp only [Act.put,pA,pB,pC];refine ab hCC 45 (i:=5) (v:=.pointer (some ⟨wr.heap.size,1,none⟩)) (fun n hn=>?_) CW ?_
     ·go_simp
     simp only [Act.put,pA,pB,pC];refine ab hCC 46 (i:=6) (v:=.agg #[.slice ra L[k].2.1.length rc,.int .i64 L[k].2.2]) (fun n hn=>?_) CW ?_
     ·have hc:n.cell? ⟨wr.heap.size,1,none⟩=some (.slice ra L[k].2.1.length rc):=cell_of (i:=1) hn rfl;have hc1:n.cell? ⟨wr.heap.size,2,none⟩=some (.int .i64 L[k].2.2):=cell_of (i:=2) hn rfl;go_simp
     simp only [Act.put,pA,pB,pC];refine az (rs:=[4,7]) (by kernel_rfl) (by simp) ?_;intro w3 hb3 jj hj;have D3:=chain hdr hb3;have CW3:=hCC _ _ CW hb3;rcases (by simpa using hj:jj=4∨jj=7) with rfl | rfl
     clear hj;have c3:=(D3.cell (p:=⟨g,m*2+1,none⟩) hgx).trans cx;refine wpOp_step rfl (fun K hK=>?_);go_simp;refine hK _ _ ⟨CW3,?_⟩;clear hK K;try simp only [Act.put,pA,pB,pC]
     refine az (rs:=[7]) (by kernel_rfl) (by simp) ?_;intro w5 hb5 jj hj;obtain rfl:jj=7:=by simpa using hj
     clear hj;refine wpOp_step rfl (fun K hK=>?_);go_simp;have hal5:=aa w5 (.cells #[.slice ra L[k].2.1.length rc,.int .i64 L[k].2.2] 58);have q6:=aw w5 #[.slice ra L[k].2.1.length rc,.int .i64 L[k].2.2] 58;have D6:=chain (chain D3 hb5) hal5;have CWt:=hCC _ _ (hCC _ _ CW3 hb5) hal5;refine hK _ _ ⟨CWt,?_⟩;clear hK K c3 CW3;generalize w5.alloc (.cells #[.slice ra L[k].2.1.length rc,.int .i64 L[k].2.2] 58)=w6 at *;try simp only [Act.put,pA,pB,pC]
     refine az (rs:=[8]) (by kernel_rfl) (by simp) ?_;intro w7 hb7 jj hj;obtain rfl:jj=8:=by simpa using hj
     clear hj;have D7:=chain D6 hb7;have CW7:=hCC _ _ CWt hb7;have q7:=(hb7.block _ (ae q6)).trans q6;have I7:=HIn.out.next D7;have rl7:w7.ownsRow Bl 58 2 (.slice rva ps1[m].2.length rvc) ps1[m].2.length (zs m):=by
      have:=(I7.row m hmlt).1;rw [if_pos hm1.symm,erv] at this;exact this
     have hBl7:=I7.hi;refine wpOp_step rfl (fun K hK=>?_);refine Eq.mpr (if_pos (by kernel_rfl)) ?_;refine dQ (some 48) rfl (Operand.tmp 44) (Operand.tmp 47) 34 rfl Bl 58 i0 _ 2 32 Tryz.underlying34 hi hj0 hj1 hj2 rfl (by decide) (.slice rva ps1[m].2.length rvc) ps1[m].2.length (zs m) rfl rl7 ⟨w5.heap.size,0,none⟩ 1 1 [.slice ra L[k].2.1.length rc,.int .i64 L[k].2.2] rfl rfl ?Ac1 ?Ac2 ?Ac3 ?Ac4 ?Ac5 ?_
     case Ac1 =>
      intro j u hj
      match j,hj with
      | 0,hj=>simp at hj; subst hj; exact cell_of (i:=0) q7 rfl
      | 1,hj=>simp at hj; subst hj; exact cell_of (i:=1) q7 rfl
     case Ac2=>intro u hu; simp at hu; rcases hu with rfl | rfl <;> rfl
     case Ac3=>unfold maxLen; omega
     case Ac4=>omega
     case Ac5=>exact hBl7
     rotate_left;clear hj;refine wpOp_step rfl (fun K hK=>?_);go_simp;have hal4:=aa w3 (.cells #[.slice ra L[k].2.1.length rc,.int .i64 L[k].2.2] 58);have q4:=aw w3 #[.slice ra L[k].2.1.length rc,.int .i64 L[k].2.2] 58;have D4:=chain D3 hal4;have CW4:=hCC _ _ CW3 hal4;refine hK _ _ ⟨CW4,?_⟩;clear hK K;generalize w3.alloc (.cells #[.slice ra L[k].2.1.length rc,.int .i64 L[k].2.2] 58)=w4 at *;try simp only [Act.put,pA,pB,pC]
     refine az (rs:=[4]) (by kernel_rfl) (by simp) ?_;intro w6 hb6 jj hj;obtain rfl:jj=4:=by simpa using hj
     clear hj;have D6:=chain D4 hb6;have CWt:=hCC _ _ CW4 hb6;have q6:=(hb6.block _ (ae q4)).trans q4;have c6:=(D6.cell (p:=⟨g,m*2+1,none⟩) hgx).trans cx;refine wpOp_step rfl (fun K hK=>?_);go_simp;refine hK _ _ ⟨CWt,?_⟩;clear hK K c6 CW3 CW4;try simp only [Act.put,pA,pB,pC]
     refine az (rs:=[8]) (by kernel_rfl) (by simp) ?_;intro w7 hb7 jj hj;obtain rfl:jj=8:=by simpa using hj
     clear hj;have D7:=chain D6 hb7;have CW7:=hCC _ _ CWt hb7;have q7:=(hb7.block _ (ae q6)).trans q6;have I7:=HIn.out.next D7;have rl7:w7.ownsRow Bl 58 2 (.slice rva ps1[m].2.length rvc) ps1[m].2.length (zs m):=by
      have:=(I7.row m hmlt).1;rw [if_pos hm1.symm,erv] at this;exact this
     have hBl7:=I7.hi;refine wpOp_step rfl (fun K hK=>?_);refine Eq.mpr (if_pos (by kernel_rfl)) ?_;refine dQ (some 48) rfl (Operand.tmp 44) (Operand.tmp 47) 34 rfl Bl 58 i0 _ 2 32 Tryz.underlying34 hi hj0 hj1 hj2 rfl (by decide) (.slice rva ps1[m].2.length rvc) ps1[m].2.length (zs m) rfl rl7 ⟨w3.heap.size,0,none⟩ 1 1 [.slice ra L[k].2.1.length rc,.int .i64 L[k].2.2] rfl rfl ?Ac1 ?Ac2 ?Ac3 ?Ac4 ?Ac5 ?_
     case Ac1 =>
      intro j u hj
      match j,hj with
      | 0,hj=>simp at hj; subst hj; exact cell_of (i:=0) q7 rfl
      | 1,hj=>simp at hj; subst hj; exact cell_of (i:=1) q7 rfl
     case Ac2=>intro u hu; simp at hu; rcases hu with rfl | rfl <;> rfl
     case Ac3=>unfold maxLen; omega
     case Ac4=>omega
     case Ac5=>exact hBl7
     all_goals
      intro v8 w8 o8 g8 _;have nb8:∀ q,Value.ownBlock (.slice rva ps1[m].2.length rvc)=some q→w.heap.size≤q∧q<w7.heap.size∧(q=wr.heap.size→False)∧(q=g→False):=fun q hq=>by
       have h1:=rl7.lt q hq;refine ⟨Nw I7.lo h1.1,h1.2,fun e=>?_,fun e=>?_⟩
       ·exact jy rl7 CW7 (by decide) (by rw [hq,e])
       ·have o7:=I7.own;rcases nF (by decide) rl7 o7 with h2 | h2
        ·rw [h2] at hq; cases hq
        ·exact h2 (by rw [hq,e]; rfl)
      have CW8:(w8.heap[wr.heap.size]? = some (.cells #[.slice ka L[k].1.length kc,.slice ra L[k].2.1.length rc,.int .i64 L[k].2.2] 157 (0,0))):=(g8.block _ (ae CW7) (fun e=>(nb8 _ e.symm).2.2.1 rfl)).trans CW7;have c8:w8.cell? ⟨g,m*2+1,none⟩=some (.slice rva ps1[m].2.length rvc)∧w8.frozen? ⟨g,m*2+1,none⟩=false:=by
       have o7:=I7.own;rw [hm1] at o7;have hb8:w8.heap[g]? = w7.heap[g]?:=g8.block g (o7.lt g rfl).2 (fun e=>(nb8 _ e.symm).2.2.2 rfl);refine ⟨(NA (a:=⟨g,m*2+1,none⟩) hb8).trans ?_,(OP (a:=⟨g,m*2+1,none⟩) hb8).trans (o7.frozenAt _)⟩;rw [o7.cellAt _ (by omega),I7.cell m hmlt,erv]
      have hg8:g<w8.heap.size:=by
       have o7:=I7.own;rw [hm1] at o7;exact Nn (o7.lt g rfl).2 g8.size
      refine hK _ _ ⟨CW8,?_⟩;clear hK K;try simp only [Act.put,pA,pB,pC]
      refine ab hCC 49 (i:=9) (v:=.pointer (some ⟨g,m*2,none⟩)) (fun n hn=>?_) CW8 ?_
      ·go_simp
      simp only [Act.put,pA,pB,pC];refine ab hCC 50 (i:=10) (v:=.pointer (some ⟨g,m*2+1,none⟩)) (fun n hn=>?_) CW8 ?_
      ·go_simp
      simp only [Act.put,pA,pB,pC];refine az (rs:=[11]) (by kernel_rfl) (by simp) ?_;intro w9 hb9 jj hj;obtain rfl:jj=11:=by simpa using hj
      clear hj;have c9:w9.cell? ⟨g,m*2+1,none⟩=some (.slice rva ps1[m].2.length rvc):=(hb9.cell (p:=⟨g,m*2+1,none⟩) hg8).trans c8.1;have f9:w9.frozen? ⟨g,m*2+1,none⟩=false:=(hb9.frozen (p:=⟨g,m*2+1,none⟩) hg8).trans c8.2;have CW9:=hCC _ _ CW8 hb9;obtain ⟨v8a,v8c,ev8⟩:∃ v8a v8c,v8 = .slice v8a (ps1[m].2.length+1) v8c:=eD o8;have P9:lq w w.heap.size (w9.setCell ⟨g,m*2+1,none⟩ v8) (.slice (some ⟨g,0,none⟩) (m+1) c) (lZ ps1 L[k].2):=by
       have I7':=I7;rw [← ev] at I7';exact lB.put I7' hm1 (rc:=rc) HSr.out (by rw [erv]; exact g8) o8 hb9
      have B9:Below w.heap.size w (w9.setCell ⟨g,m*2+1,none⟩ v8):=((chain ((chain hbx D7).trans ((Nk _ _).grown g8 (Nw hbx.size D7.size) (fun q hq=>(nb8 q hq).1))) hb9)).setCell (p:=⟨g,m*2+1,none⟩) hgB _;have CW10:((w9.setCell ⟨g,m*2+1,none⟩ v8).heap[wr.heap.size]? = some (.cells #[.slice ka L[k].1.length kc,.slice ra L[k].2.1.length rc,.int .i64 L[k].2.2] 157 (0,0))):=(NR _ _ _ _ (fun e=>hgl e.symm)).trans CW9;subst ev8;refine wpOp_step rfl (fun K hK=>?_);go_simp;refine hK _ _ ⟨CW10,?_⟩;clear hK K CW7 CW8 CW9 c8 c9 f9 nb8 rl7 I7 q7 o8 g8
      generalize w9.setCell ⟨g,m*2+1,none⟩ (.slice v8a (ps1[m].2.length+1) v8c)=wS at *;try simp only [Act.put,pA,pB,pC]
      refine bL (by kernel_rfl) ?_;intro wT hbT;have PT:=P9.next hbT;have BT:=chain B9 hbT;clear P9 B9 CW10 CW CWt;go_wp2
      go_roundw
      case rel=>exact ⟨k+1,by omega,by go_num,by rw [HT.out,eo]; first | exact PT | (rw [hm1]; exact PT),BT⟩
      case measure=>simp [intOf]; omega
    ·have hcb:(cm != 0)=true:=by simp [hc0]
     rw [hcb];have HOp:Hid (dL (dD (L.take k)) L[k]=ps ++ [(L[k].1,[])]):=by show _=_; rw [← Eps.out]; exact xw hm (by rw [HCm.out]; exact hc0)
     clear Eps hcb;obtain ⟨xs,Bl,rv,zs,In⟩:=HPq;have ho:=In.own;have HInq:Hid (lB w w.heap.size wq (.slice (some ⟨g0,0,none⟩) (mm+1) vc) ps xs Bl rv zs):=In;have kq:wq.cell? ⟨wr.heap.size,0,none⟩=some (.slice ka L[k].1.length kc):=cell_of (i:=0) qq rfl;have hzq:=hbq.size;clear In;go_wp2_with (first | (at_builtin; refine NZ _ rfl _ _ 149 rfl w.heap.size 154 ip _ 2 48 Tryz.underlying149 hip hp0 hp1 hp2 rfl (by decide) _ _ _ rfl (ho.alloc _) ⟨wq.heap.size,0,none⟩ 1 1 [.slice ka L[k].1.length kc,.slice none 0 0] rfl rfl ?Bc1 ?Bc2 ?Bc3 ?Bc4 ?Bc5 ?_))
     case Bc1 =>
      intro i u hu
      match i,hu with
      | 0,hu=>simp at hu; subst hu; simp [Addr.add]
      | 1,hu=>simp at hu; subst hu; simp [Addr.add]
     case Bc2=>intro u hu; simp at hu; rcases hu with rfl | rfl <;> rfl
     case Bc3=>unfold maxLen; omega
     case Bc4=>omega
     case Bc5=>simp; omega
     intro v' wx ox gx _;have halq:=aa wq (.cells #[.slice ka L[k].1.length kc,.slice none 0 0] 154);have oq:=ho.alloc (.cells #[.slice ka L[k].1.length kc,.slice none 0 0] 154);have HPx:lq w w.heap.size wx v' (ps ++ [(L[k].1,[])]):=(HInq.out.next halq).push HSk.out gx (by first | exact ox | (rw [hm]; exact ox));have hbx:Below w.heap.size w wx:=(chain hbq halq).grown gx (by simp; omega) (fun q hq=>(oq.lt q hq).1)
     have qx:wx.heap[wr.heap.size]? = some (.cells #[.slice ka L[k].1.length kc,.slice ra L[k].2.1.length rc,.int .i64 L[k].2.2] 157 (0,0)):=by
      have qa:=(halq.block _ (ae qq)).trans qq;exact (gx.block _ (ae qa) (fun e=>jy oq qa (by decide) e.symm)).trans qa
     have q0x:=qx;obtain ⟨ps1,eps1⟩:∃ ps1,ps1=ps ++ [(L[k].1,[])]:=⟨_,rfl⟩
     obtain ⟨m,hmm⟩:∃ m,m=(mm+1):=⟨_,rfl⟩
     have hm4:m≤400:=by omega
     rw [← eps1] at HPx;have hm1:ps1.length=m+1:=by rw [hmm,eps1,Nx]; first | rfl | (rw [hm]; rfl)
     have eo:dL (dD (L.take k)) L[k]=ps1:=by rw [eps1]; exact HOp.out
     have hsm:∀ p ∈ ps1,p.2.length≤400:=fun p hp=>by
      rw [eps1] at hp;rcases List.mem_append.1 hp with hp | hp
      ·exact HSm.out p hp
      ·rw [List.mem_singleton.1 hp]; exact Nr _
     obtain ⟨g,c,evx⟩:∃ g c,v' = .slice (some ⟨g,0,none⟩) ps1.length c:=by
      obtain ⟨xs',_,_,_,I'⟩:=HPx;rcases I'.own.2 with ⟨_,h2⟩ | ⟨g2,c2,_,h2,_⟩
      ·omega
      ·exact ⟨g2,c2,h2⟩
     subst evx;clear eps1 ox gx oq HInq ho kq halq hmm;have hmlt:m<ps1.length:=by omega
     obtain ⟨xs,Bl,rv,zs,In⟩:=HPx;have HIn:Hid (lB w w.heap.size wx (.slice (some ⟨g,0,none⟩) ps1.length c) ps1 xs Bl rv zs):=In;have hgB:w.heap.size≤g:=(In.own.lt g rfl).1;have hgx:g<wx.heap.size:=(In.own.lt g rfl).2;have hgl:g=wr.heap.size→False:=fun e=>jy In.own q0x (by decide) (show some g=some wr.heap.size by rw [e])
     obtain ⟨rva,rvc,erv⟩:∃ rva rvc,rv m = .slice rva ps1[m].2.length rvc:=eD (In.row m hmlt).1;have cx:wx.cell? ⟨g,m*2+1,none⟩=some (.slice rva ps1[m].2.length rvc):=by
      have:=In.own;rw [this.cellAt _ (by omega),In.cell m hmlt,erv]
     have hrow1:ps1[m].2.length≤400:=hsm ps1[m] (Ns hmlt);have ev:Value.slice (some ⟨g,0,none⟩) (m+1) c = .slice (some ⟨g,0,none⟩) ps1.length c:=by rw [hm1]
     have m0:(0:Int)≤(m:Int):=by omega
     have m1:(m:Int)<(m:Int)+1:=by omega
     have m2:(m:Int)≤400:=by omega
     clear In;try rw [hm1]
     go_upto_region 8 with fail
     have hCC:∀ W W':World,(W.heap[wr.heap.size]? = some (.cells #[.slice ka L[k].1.length kc,.slice ra L[k].2.1.length rc,.int .i64 L[k].2.2] 157 (0,0)))→Below W.heap.size W W'→(W'.heap[wr.heap.size]? = some (.cells #[.slice ka L[k].1.length kc,.slice ra L[k].2.1.length rc,.int .i64 L[k].2.2] 157 (0,0))):=fun W W' h hb=>(hb.block _ (ae h)).trans h
     have hdr:Below wx.heap.size wx wx.drew:=(Nk _ _).drew;have CW:(wx.drew.heap[wr.heap.size]? = some (.cells #[.slice ka L[k].1.length kc,.slice ra L[k].2.1.length rc,.int .i64 L[k].2.2] 157 (0,0))):=hCC _ _ q0x hdr;refine aK (fun W=>(W.heap[wr.heap.size]? = some (.cells #[.slice ka L[k].1.length kc,.slice ra L[k].2.1.length rc,.int .i64 L[k].2.2] 157 (0,0)))) (by kernel_rfl) ?_;refine ab hCC 40 (i:=0) (v:=.pointer (some ⟨g,m*2,none⟩)) (fun n hn=>?_) CW ?_
     ·go_simp
     simp only [Act.put,pA,pB,pC];refine ab hCC 41 (i:=1) (v:=.pointer (some ⟨g,m*2,none⟩)) (fun n hn=>?_) CW ?_
     ·go_simp
     simp only [Act.put,pA,pB,pC];refine ab hCC 42 (i:=2) (v:=.pointer (some ⟨g,m*2,none⟩)) (fun n hn=>?_) CW ?_
     ·go_simp
     simp only [Act.put,pA,pB,pC];refine ab hCC 43 (i:=3) (v:=.pointer (some ⟨g,m*2+1,none⟩)) (fun n hn=>?_) CW ?_
     ·go_simp
     simp only [Act.put,pA,pB,pC];refine ab hCC 45 (i:=5) (v:=.pointer (some ⟨wr.heap.size,1,none⟩)) (fun n hn=>?_) CW ?_
     ·go_simp
     simp only [Act.put,pA,pB,pC];refine ab hCC 46 (i:=6) (v:=.agg #[.slice ra L[k].2.1.length rc,.int .i64 L[k].2.2]) (fun n hn=>?_) CW ?_
     ·have hc:n.cell? ⟨wr.heap.size,1,none⟩=some (.slice ra L[k].2.1.length rc):=cell_of (i:=1) hn rfl;have hc1:n.cell? ⟨wr.heap.size,2,none⟩=some (.int .i64 L[k].2.2):=cell_of (i:=2) hn rfl;go_simp
     simp only [Act.put,pA,pB,pC];refine az (rs:=[4,7]) (by kernel_rfl) (by simp) ?_;intro w3 hb3 jj hj;have D3:=chain hdr hb3;have CW3:=hCC _ _ CW hb3;rcases (by simpa using hj:jj=4∨jj=7) with rfl | rfl
     clear hj;have c3:=(D3.cell (p:=⟨g,m*2+1,none⟩) hgx).trans cx;refine wpOp_step rfl (fun K hK=>?_);go_simp;refine hK _ _ ⟨CW3,?_⟩;clear hK K;try simp only [Act.put,pA,pB,pC]
     refine az (rs:=[7]) (by kernel_rfl) (by simp) ?_;intro w5 hb5 jj hj;obtain rfl:jj=7:=by simpa using hj
     clear hj;refine wpOp_step rfl (fun K hK=>?_);go_simp;have hal5:=aa w5 (.cells #[.slice ra L[k].2.1.length rc,.int .i64 L[k].2.2] 58);have q6:=aw w5 #[.slice ra L[k].2.1.length rc,.int .i64 L[k].2.2] 58;have D6:=chain (chain D3 hb5) hal5;have CWt:=hCC _ _ (hCC _ _ CW3 hb5) hal5;refine hK _ _ ⟨CWt,?_⟩;clear hK K c3 CW3;generalize w5.alloc (.cells #[.slice ra L[k].2.1.length rc,.int .i64 L[k].2.2] 58)=w6 at *;try simp only [Act.put,pA,pB,pC]
     refine az (rs:=[8]) (by kernel_rfl) (by simp) ?_;intro w7 hb7 jj hj;obtain rfl:jj=8:=by simpa using hj
     clear hj;have D7:=chain D6 hb7;have CW7:=hCC _ _ CWt hb7;have q7:=(hb7.block _ (ae q6)).trans q6;have I7:=HIn.out.next D7;have rl7:w7.ownsRow Bl 58 2 (.slice rva ps1[m].2.length rvc) ps1[m].2.length (zs m):=by
      have:=(I7.row m hmlt).1;rw [if_pos hm1.symm,erv] at this;exact this
     have hBl7:=I7.hi;refine wpOp_step rfl (fun K hK=>?_);refine Eq.mpr (if_pos (by kernel_rfl)) ?_;refine dQ (some 48) rfl (Operand.tmp 44) (Operand.tmp 47) 34 rfl Bl 58 i0 _ 2 32 Tryz.underlying34 hi hj0 hj1 hj2 rfl (by decide) (.slice rva ps1[m].2.length rvc) ps1[m].2.length (zs m) rfl rl7 ⟨w5.heap.size,0,none⟩ 1 1 [.slice ra L[k].2.1.length rc,.int .i64 L[k].2.2] rfl rfl ?Ac1 ?Ac2 ?Ac3 ?Ac4 ?Ac5 ?_
     case Ac1 =>
      intro j u hj
      match j,hj with
      | 0,hj=>simp at hj; subst hj; exact cell_of (i:=0) q7 rfl
      | 1,hj=>simp at hj; subst hj; exact cell_of (i:=1) q7 rfl
     case Ac2=>intro u hu; simp at hu; rcases hu with rfl | rfl <;> rfl
     case Ac3=>unfold maxLen; omega
     case Ac4=>omega
     case Ac5=>exact hBl7
     rotate_left;clear hj;refine wpOp_step rfl (fun K hK=>?_);go_simp;have hal4:=aa w3 (.cells #[.slice ra L[k].2.1.length rc,.int .i64 L[k].2.2] 58);have q4:=aw w3 #[.slice ra L[k].2.1.length rc,.int .i64 L[k].2.2] 58;have D4:=chain D3 hal4;have CW4:=hCC _ _ CW3 hal4;refine hK _ _ ⟨CW4,?_⟩;clear hK K;generalize w3.alloc (.cells #[.slice ra L[k].2.1.length rc,.int .i64 L[k].2.2] 58)=w4 at *;try simp only [Act.put,pA,pB,pC]
     refine az (rs:=[4]) (by kernel_rfl) (by simp) ?_;intro w6 hb6 jj hj;obtain rfl:jj=4:=by simpa using hj
     clear hj;have D6:=chain D4 hb6;have CWt:=hCC _ _ CW4 hb6;have q6:=(hb6.block _ (ae q4)).trans q4;have c6:=(D6.cell (p:=⟨g,m*2+1,none⟩) hgx).trans cx;refine wpOp_step rfl (fun K hK=>?_);go_simp;refine hK _ _ ⟨CWt,?_⟩;clear hK K c6 CW3 CW4;try simp only [Act.put,pA,pB,pC]
     refine az (rs:=[8]) (by kernel_rfl) (by simp) ?_;intro w7 hb7 jj hj;obtain rfl:jj=8:=by simpa using hj
     clear hj;have D7:=chain D6 hb7;have CW7:=hCC _ _ CWt hb7;have q7:=(hb7.block _ (ae q6)).trans q6;have I7:=HIn.out.next D7;have rl7:w7.ownsRow Bl 58 2 (.slice rva ps1[m].2.length rvc) ps1[m].2.length (zs m):=by
      have:=(I7.row m hmlt).1;rw [if_pos hm1.symm,erv] at this;exact this
     have hBl7:=I7.hi;refine wpOp_step rfl (fun K hK=>?_);refine Eq.mpr (if_pos (by kernel_rfl)) ?_;refine dQ (some 48) rfl (Operand.tmp 44) (Operand.tmp 47) 34 rfl Bl 58 i0 _ 2 32 Tryz.underlying34 hi hj0 hj1 hj2 rfl (by decide) (.slice rva ps1[m].2.length rvc) ps1[m].2.length (zs m) rfl rl7 ⟨w3.heap.size,0,none⟩ 1 1 [.slice ra L[k].2.1.length rc,.int .i64 L[k].2.2] rfl rfl ?Ac1 ?Ac2 ?Ac3 ?Ac4 ?Ac5 ?_
     case Ac1 =>
      intro j u hj
      match j,hj with
      | 0,hj=>simp at hj; subst hj; exact cell_of (i:=0) q7 rfl
      | 1,hj=>simp at hj; subst hj; exact cell_of (i:=1) q7 rfl
     case Ac2=>intro u hu; simp at hu; rcases hu with rfl | rfl <;> rfl
     case Ac3=>unfold maxLen; omega
     case Ac4=>omega
     case Ac5=>exact hBl7
     all_goals
      intro v8 w8 o8 g8 _;have nb8:∀ q,Value.ownBlock (.slice rva ps1[m].2.length rvc)=some q→w.heap.size≤q∧q<w7.heap.size∧(q=wr.heap.size→False)∧(q=g→False):=fun q hq=>by
       have h1:=rl7.lt q hq;refine ⟨Nw I7.lo h1.1,h1.2,fun e=>?_,fun e=>?_⟩
       ·exact jy rl7 CW7 (by decide) (by rw [hq,e])
       ·have o7:=I7.own;rcases nF (by decide) rl7 o7 with h2 | h2
        ·rw [h2] at hq; cases hq
        ·exact h2 (by rw [hq,e]; rfl)
      have CW8:(w8.heap[wr.heap.size]? = some (.cells #[.slice ka L[k].1.length kc,.slice ra L[k].2.1.length rc,.int .i64 L[k].2.2] 157 (0,0))):=(g8.block _ (ae CW7) (fun e=>(nb8 _ e.symm).2.2.1 rfl)).trans CW7;have c8:w8.cell? ⟨g,m*2+1,none⟩=some (.slice rva ps1[m].2.length rvc)∧w8.frozen? ⟨g,m*2+1,none⟩=false:=by
       have o7:=I7.own;rw [hm1] at o7;have hb8:w8.heap[g]? = w7.heap[g]?:=g8.block g (o7.lt g rfl).2 (fun e=>(nb8 _ e.symm).2.2.2 rfl);refine ⟨(NA (a:=⟨g,m*2+1,none⟩) hb8).trans ?_,(OP (a:=⟨g,m*2+1,none⟩) hb8).trans (o7.frozenAt _)⟩;rw [o7.cellAt _ (by omega),I7.cell m hmlt,erv]
      have hg8:g<w8.heap.size:=by
       have o7:=I7.own;rw [hm1] at o7;exact Nn (o7.lt g rfl).2 g8.size
      refine hK _ _ ⟨CW8,?_⟩;clear hK K;try simp only [Act.put,pA,pB,pC]
      refine ab hCC 49 (i:=9) (v:=.pointer (some ⟨g,m*2,none⟩)) (fun n hn=>?_) CW8 ?_
      ·go_simp
      simp only [Act.put,pA,pB,pC];refine ab hCC 50 (i:=10) (v:=.pointer (some ⟨g,m*2+1,none⟩)) (fun n hn=>?_) CW8 ?_
      ·go_simp
      simp only [Act.put,pA,pB,pC];refine az (rs:=[11]) (by kernel_rfl) (by simp) ?_;intro w9 hb9 jj hj;obtain rfl:jj=11:=by simpa using hj
      clear hj;have c9:w9.cell? ⟨g,m*2+1,none⟩=some (.slice rva ps1[m].2.length rvc):=(hb9.cell (p:=⟨g,m*2+1,none⟩) hg8).trans c8.1;have f9:w9.frozen? ⟨g,m*2+1,none⟩=false:=(hb9.frozen (p:=⟨g,m*2+1,none⟩) hg8).trans c8.2;have CW9:=hCC _ _ CW8 hb9;obtain ⟨v8a,v8c,ev8⟩:∃ v8a v8c,v8 = .slice v8a (ps1[m].2.length+1) v8c:=eD o8;have P9:lq w w.heap.size (w9.setCell ⟨g,m*2+1,none⟩ v8) (.slice (some ⟨g,0,none⟩) (m+1) c) (lZ ps1 L[k].2):=by
       have I7':=I7;rw [← ev] at I7';exact lB.put I7' hm1 (rc:=rc) HSr.out (by rw [erv]; exact g8) o8 hb9
      have B9:Below w.heap.size w (w9.setCell ⟨g,m*2+1,none⟩ v8):=((chain ((chain hbx D7).trans ((Nk _ _).grown g8 (Nw hbx.size D7.size) (fun q hq=>(nb8 q hq).1))) hb9)).setCell (p:=⟨g,m*2+1,none⟩) hgB _;have CW10:((w9.setCell ⟨g,m*2+1,none⟩ v8).heap[wr.heap.size]? = some (.cells #[.slice ka L[k].1.length kc,.slice ra L[k].2.1.length rc,.int .i64 L[k].2.2] 157 (0,0))):=(NR _ _ _ _ (fun e=>hgl e.symm)).trans CW9;subst ev8;refine wpOp_step rfl (fun K hK=>?_);go_simp;refine hK _ _ ⟨CW10,?_⟩;clear hK K CW7 CW8 CW9 c8 c9 f9 nb8 rl7 I7 q7 o8 g8
      generalize w9.setCell ⟨g,m*2+1,none⟩ (.slice v8a (ps1[m].2.length+1) v8c)=wS at *;try simp only [Act.put,pA,pB,pC]
      refine bL (by kernel_rfl) ?_;intro wT hbT;have PT:=P9.next hbT;have BT:=chain B9 hbT;clear P9 B9 CW10 CW CWt;go_wp2
      go_roundw
      case rel=>exact ⟨k+1,by omega,by go_num,by rw [HT.out,eo]; first | exact PT | (rw [hm1]; exact PT),BT⟩
      case measure=>simp [intOf]; omega
  ·have e:k=L.length:=by omega
   subst e;rw [NL] at HPs;obtain ⟨va,vc,ev⟩:∃ va vc,u3 = .slice va (dD L).length vc:=by obtain ⟨_,_,_,_,I⟩:=HPs; exact eD I.own
   subst ev;go_wp2
   go_ret;exact ⟨_,rfl,HPs,hb⟩
theorem sF (cols:List Int) (g:Ag) (ca:Option Addr) (ccap:Nat) (a:Option Addr) (cap:Nat) (w:World) (hk:bd w.heap.size w a g.2.ks) (hc:bc w.heap.size w ca cols) (h:¬ bX cols g=0) :
  Calls Tryz.prog 152 #[.slice ca cols.length ccap,.agg #[.int .i64 g.1,.int .i64 g.2.k,.int .i64 g.2.v.1,.int .i64 g.2.v.2.1,.string g.2.v.2.2,.int .i64 g.2.c,.slice a g.2.ks.length cap]] w fun e w'=>e = .returned (.tuple #[.nilFunc,.int .i64 (bX cols g)])∧Below w.heap.size w w':=by
 have hal:=aa w (.cells #[.int .i64 g.1,.int .i64 g.2.k,.int .i64 g.2.v.1,.int .i64 g.2.v.2.1,.string g.2.v.2.2,.int .i64 g.2.c,.slice a g.2.ks.length cap] 133);have q0:=aw w #[.int .i64 g.1,.int .i64 g.2.k,.int .i64 g.2.v.1,.int .i64 g.2.v.2.1,.string g.2.v.2.2,.int .i64 g.2.c,.slice a g.2.ks.length cap] 133;have h1:¬ g.1=1:=fun h1=>h (by unfold bX; rw [if_pos h1])
 generalize hme:bX cols g=me at *;have HM:Hid (bX cols g=me):=hme;clear hme;by_cases h2:g.1<2∨5<g.1
 ·have e:me=1:=by rw [← HM.out]; unfold bX; rw [if_neg h1,if_pos h2]
  subst e;have n1:(g.1 == 1)=false:=by simpa using h1
  have n2:(g.1 == 2)=false:=by simp; omega
  have n3:(g.1 == 3)=false:=by simp; omega
  have n4:(g.1 == 4)=false:=by simp; omega
  have n5:(g.1 == 5)=false:=by simp; omega
  clear h h1 h2;go_enter Tryz.func152,Tryz.ntmps152;go_wp2
  exact Nl (v:=.tuple #[.nilFunc,.int .i64 1]) (by simp [results,Tryz.results152,go_sem]) rfl ⟨rfl,hal⟩
 ·have hk4:g.1=2∨g.1=3∨g.1=4∨g.1=5:=by omega
  by_cases h3:(an cols g.2).2=0
  ·have e3:g.1=3∧(an cols g.2).1≠3∧(an cols g.2).1≠1:=Classical.byContradiction fun hn=>by
    have:=HM.out;unfold bX at this;rw [if_neg h1,if_neg h2,if_neg (by simpa using h3),if_neg hn] at this;exact h this.symm
   have e9:me=9:=by rw [← HM.out]; unfold bX; rw [if_neg h1,if_neg h2,if_neg (by simpa using h3),if_pos e3]
   subst e9;have con:=iQ cols g.2 ca ccap a cap _ ((bd.next hal (Nj _) hk).up hal.size) ((hc.next hal (Nj _)).up hal.size) h3;obtain ⟨e31,e32,e33⟩:=e3;generalize (an cols g.2).1=t at *;unfold lC at con;go_enter Tryz.func152,Tryz.ntmps152;clear h h1 h2 h3 hk4;generalize hk1:g.1=kd at *;clear hk1;subst e31;have t3:(t != 3)=true:=by simpa using e32
   have t1:(t != 1)=true:=by simpa using e33
   clear e32 e33;go_wp2_with fail
   generalize w.alloc (.cells #[.int .i64 3,.int .i64 g.2.k,.int .i64 g.2.v.1,.int .i64 g.2.v.2.1,.string g.2.v.2.2,.int .i64 g.2.c,.slice a g.2.ks.length cap] 133)=w1 at *;refine con.mono ?_;rintro e w2 ⟨u,rfl,hA2,hb2⟩;have hA:=chain hal hb2;have q2:=(hb2.block _ (ae q0)).trans q0;have c0:w2.cell? ⟨w.heap.size,0,none⟩=some (.int .i64 3):=cell_of (i:=0) q2 rfl;clear con;obtain ⟨g',cb,rfl⟩:∃ g' cb,u = .func (.func g') #[] cb:=by obtain ⟨g',cb,e,_⟩:=hA2; exact ⟨g',cb,e⟩
   dsimp only;go_wp2
   exact Nl (v:=.tuple #[.nilFunc,.int .i64 9]) (by simp [results,Tryz.results152,go_sem]) rfl ⟨rfl,hA⟩
  ·have con:=lY cols g.2 ca ccap a cap _ ((bd.next hal (Nj _) hk).up hal.size) ((hc.next hal (Nj _)).up hal.size) h3;have em:me=(an cols g.2).2:=by rw [← HM.out]; unfold bX; rw [if_neg h1,if_neg h2,if_pos h3]
   have hne:(me != 0)=true:=by simpa using h
   rw [← em] at con;unfold lC at con;go_enter Tryz.func152,Tryz.ntmps152;clear h h1 h2 h3 em HM;generalize hk1:g.1=kd at *;clear hk1;rcases hk4 with rfl | rfl | rfl | rfl
   all_goals (
    go_wp2_with fail
    generalize w.alloc (.cells #[_,.int .i64 g.2.k,.int .i64 g.2.v.1,.int .i64 g.2.v.2.1,.string g.2.v.2.2,.int .i64 g.2.c,.slice a g.2.ks.length cap] 133)=w1 at *;refine con.mono ?_;rintro e w2 ⟨rfl,hb2⟩;have hA:=chain hal hb2;clear con;dsimp only;go_wp2
    exact Nl (v:=.tuple #[.nilFunc,.int .i64 me]) (by simp [results,Tryz.results152,go_sem]) rfl ⟨rfl,hA⟩)
def fi (k:Int):Prop:=∀ w,Calls Tryz.prog 153 #[.int .i64 k] w fun e w'=>∃ u,e = .returned u∧qK w.heap.size u (fx k) w'∧Below w.heap.size w w'
theorem Ep (lo:Nat) (w:World):qK lo (.func (.func 191) #[] #[]) countP w :=
 ⟨191,#[],rfl,enters_of Tryz.func191 (by kernel_rfl) rfl,fun l a cap W hk hs _=>by simpa using Gl a cap l W hs hk⟩
theorem Fc (k:Int) (h3:¬ k=3) (h4:¬ k=4) (h5:¬ k=5):fi k:=by
 intro w;have eT:fx k=countP:=by funext l; unfold fx; rw [if_neg h3,if_neg h4,if_neg h5]
 rw [eT];have n3:(k == 3)=false:=by simpa using h3
 have n4:(k == 4)=false:=by simpa using h4
 have n5:(k == 5)=false:=by simpa using h5
 clear h3 h4 h5 eT;go_enter Tryz.func153,Tryz.ntmps153;go_wp2
 go_ret;exact ⟨_,rfl,Ep _ _,Nk _ _⟩
theorem yh {n:Nat} (h:n≤8) (w:World):(Instr.makeSlice 184 (.int .i64 n) (.int .i64 n)).run Tryz.prog w = .ok (.slice (some ⟨w.heap.size,0,none⟩) n n) (w.alloc (.cells (Array.replicate n Value.nilFunc) 191)):=by
 obtain rfl | rfl | rfl | rfl | rfl | rfl | rfl | rfl | rfl:n=0∨n=1∨n=2∨n=3∨n=4∨n=5∨n=6∨n=7∨n=8:=by omega
 all_goals kernel_rfl
structure Ff (cols:List Int) (K kb M:Nat) (W:World) (Fs:List (List Zp→Vl)) (j:Nat):Prop where
 lt:K<M∧kb<M∧K≠kb∧M≤W.heap.size
 box:W.cell? ⟨kb,0,none⟩=some (.slice (some ⟨K,0,none⟩) Fs.length Fs.length)
 room:∀ i,i<Fs.length→(∃ u,W.cell? ⟨K,i,none⟩=some u)∧W.frozen? ⟨K,i,none⟩=false
 done:∀ i (h:i<Fs.length),i<j→∃ u,W.cell? ⟨K,i,none⟩=some u∧km cols M u Fs[i] W
theorem Ff.next {cols:List Int} {K kb M:Nat} {W w1:World} {Fs:List (List Zp→Vl)} {j:Nat} (h:Ff cols K kb M W Fs j) (hb:Below W.heap.size W w1):Ff cols K kb M w1 Fs j:=by
 obtain ⟨h1,h2,h3,h4⟩:=h;have z:=hb.size;refine ⟨⟨h1.1,h1.2.1,h1.2.2.1,by omega⟩,(hb.cell (p:=⟨kb,0,none⟩) (by show kb<_; omega)).trans h2,fun i hi=>?_,fun i hi hj=>?_⟩
 ·obtain ⟨⟨u,hu⟩,hf⟩:=h3 i hi;exact ⟨⟨u,(hb.cell (p:=⟨K,i,none⟩) (by show K<_; omega)).trans hu⟩,(hb.frozen (p:=⟨K,i,none⟩) (by show K<_; omega)).trans hf⟩
 ·obtain ⟨u,hu,ha⟩:=h4 i hi hj;exact ⟨u,(hb.cell (p:=⟨K,i,none⟩) (by show K<_; omega)).trans hu,ha.next (ax.of hb)⟩
theorem Ff.store {cols:List Int} {K kb M:Nat} {W:World} {Fs:List (List Zp→Vl)} {j:Nat} (h:Ff cols K kb M W Fs j) (hj:j<Fs.length) {u:Value} (ha:km cols M u Fs[j] W):Ff cols K kb M (W.setCell ⟨K,j,none⟩ u) Fs (j+1):=by
 obtain ⟨h1,h2,h3,h4⟩:=h;have hS:ax M W (W.setCell ⟨K,j,none⟩ u):=(ax.refl M W).set K j u (by omega);have same:(W.setCell ⟨K,j,none⟩ u).cell? ⟨K,j,none⟩=some u:=ON _ _ _ (by obtain ⟨⟨u',hu⟩,_⟩:=h3 j hj; rw [hu]; rfl);refine ⟨⟨h1.1,h1.2.1,h1.2.2.1,by simpa using h1.2.2.2⟩,?_,fun i hi=>?_,fun i hi hij=>?_⟩
 ·rw [Nv _ _ _ _ (by intro e; injection e with e; omega)]; exact h2
 ·obtain ⟨⟨u',hu⟩,hf⟩:=h3 i hi;refine ⟨?_,by rw [N8]; exact hf⟩;by_cases e:i=j
  ·subst e; exact ⟨_,same⟩
  ·exact ⟨u',by rw [Nv _ _ _ _ (by intro e; injection e with _ e; omega)]; exact hu⟩
 ·by_cases e:i=j
  ·subst e; exact ⟨u,same,ha.next hS⟩
  ·obtain ⟨u',hu,ha'⟩:=h4 i hi (by omega);exact ⟨u',by rw [Nv _ _ _ _ (by intro e; injection e with _ e; omega)]; exact hu,ha'.next hS⟩
theorem Ff.kids {cols:List Int} {K kb M lo:Nat} {W:World} {Fs:List (List Zp→Vl)} (h:Ff cols K kb M W Fs Fs.length) (h1:lo≤K) (h2:lo≤kb):vn cols lo W kb Fs:=by
 obtain ⟨l1,l2,_,l4⟩:=h;refine ⟨K,h2,by omega,h1,by omega,l2,fun i hi=>?_⟩;obtain ⟨u,hu,ha⟩:=l4 i hi hi;exact ⟨u,hu,ha.down (by omega)⟩
theorem Ff.new {cols:List Int} {w:World} {n:Nat} (Fs:List (List Zp→Vl)) (hn:n=Fs.length) (T T':TypeId) :
  Ff cols w.heap.size (w.heap.size+1) (w.heap.size+2) ((w.alloc (.cells (Array.replicate n Value.nilFunc) T)).alloc (.cells #[.slice (some ⟨w.heap.size,0,none⟩) n n] T')) Fs 0:=by
 subst hn;refine ⟨⟨by omega,by omega,by omega,by simp⟩,?_,fun i hi=>⟨⟨Value.nilFunc,?_⟩,?_⟩,fun i _ h=>absurd h (N7 _)⟩
 ·rw [Og _ _ _ _ (by simp)]; rfl
 ·rw [World.cell?_alloc_past _ _ _ (by simp),Og _ _ _ _ rfl];simp [hi]
 ·rw [World.frozen?_alloc_past _ _ _ (by simp)];exact OQ _ _ _ _ rfl
def DI (cols:List Int) (lo:Nat) (u:Value) (gs:List Ag) (w:World):Prop :=
 ∃ g cb,u = .func (.func g) #[] cb∧(∀ args w,(callFunc g args).run Tryz.prog w = .ok (.enter g args) w) ∧
  ∀ (rows:List Zp) (a:Option Addr) (cap:Nat) (W:World),BY cols rows→aL W a rows→ax lo w W →
   Calls Tryz.prog g (#[.slice a rows.length cap] ++ cb) W fun e w'=>e = .returned (.slice (some ⟨W.heap.size,0,none⟩) gs.length gs.length)∧mT W.heap.size w' (gs.map fun g=>jd g rows)∧Below W.heap.size W w'
theorem DI.next {cols:List Int} {lo:Nat} {u:Value} {gs:List Ag} {w w1:World} (h:DI cols lo u gs w) (hb:ax lo w w1):DI cols lo u gs w1:=by
 obtain ⟨g,cb,e,eg,hd⟩:=h;exact ⟨g,cb,e,eg,fun row a cap W hf hs hW=>hd row a cap W hf hs (hb.trans hW)⟩
theorem Jp {gs:List Ag} {j:Nat} (h:j<gs.length):(gs.map fun g=>jd g)[j]'(by simpa using h)=jd gs[j]:=by simp
theorem tX (cols:List Int) (gs:List Ag) (hT:∀ g ∈ gs,bX cols g=0→fi g.1) (ca:Option Addr) (ccap:Nat) (xa:Option Addr) (xcap:Nat) (w:World) (hk:jD w.heap.size w xa gs) (hc:bc w.heap.size w ca cols) (h8:gs.length≤8) :
  Calls Tryz.prog 123 #[.slice ca cols.length ccap,.slice xa gs.length xcap] w fun e w'=>∃ u,e = .returned (.tuple #[u,.int .i64 (bV cols gs)])∧((bV cols gs=0∧DI cols w.heap.size u gs w')∨(¬ bV cols gs=0∧u = .nilFunc))∧Below w.heap.size w w':=by
 have HTot:Hid (∀ g ∈ gs,bX cols g=0→fi g.1):=hT;obtain ⟨Fs,eFs⟩:∃ Fs:List (List Zp→Vl),Fs=gs.map fun g=>jd g:=⟨_,rfl⟩
 have HFs:Hid (Fs=gs.map fun g=>jd g):=eFs;have lFs:Fs.length=gs.length:=by rw [eFs]; simp
 generalize hle:bV cols gs=le;have HE:Hid (bV cols gs=le):=hle;clear hT eFs hle;have hmk:=yh h8;have F0:Ff cols w.heap.size (w.heap.size+1) (w.heap.size+2) ((w.alloc (.cells (Array.replicate gs.length Value.nilFunc) 191)).alloc (.cells #[.slice (some ⟨w.heap.size,0,none⟩) gs.length gs.length] 184)) Fs 0:=Ff.new Fs lFs.symm _ _;have hA:Below w.heap.size w ((w.alloc (.cells (Array.replicate gs.length Value.nilFunc) 191)).alloc (.cells #[.slice (some ⟨w.heap.size,0,none⟩) gs.length gs.length] 184)):=((Nk _ _).alloc (Nj _) _).alloc (by simp) _
 go_enter Tryz.func123,Tryz.ntmps123;go_wp2_with fail
 generalize (w.alloc (.cells (Array.replicate gs.length Value.nilFunc) 191)).alloc (.cells #[.slice (some ⟨w.heap.size,0,none⟩) gs.length gs.length] 184)=w2 at *;clear hmk;go_loopw [17] (fun i wr=>∃ j:Nat,j≤gs.length∧i = .int .i64 j∧Ff cols w.heap.size (w.heap.size+1) (w.heap.size+2) wr Fs j∧Hid (le=bV cols (gs.drop j))∧Below w.heap.size w wr) (fun i _=>gs.length - (intOf i).toNat)
 case atStart=>exact ⟨0,Nr _,rfl,F0,HE.out.symm,hA⟩
 case round =>
  clear F0 hA;obtain ⟨j,hj,rfl,F,HT,hb⟩:=hrel;have hz:=hb.size;have hzF:=F.lt.2.2.2;by_cases hlt:j<gs.length
  ·obtain ⟨b,off,ai,ci,rfl,hbl,x0,sx,kx⟩:=(jD.next hb (Nj _) hk).elem hlt;obtain ⟨x1,x2,x3,x4,x5,x6⟩:=sx;have hal:=aa wr (.cells #[.int .i64 gs[j].1,.int .i64 gs[j].2.k,.int .i64 gs[j].2.v.1,.int .i64 gs[j].2.v.2.1,.string gs[j].2.v.2.2,.int .i64 gs[j].2.c,.slice ai gs[j].2.ks.length ci] 133);have q0:=aw wr #[.int .i64 gs[j].1,.int .i64 gs[j].2.k,.int .i64 gs[j].2.v.1,.int .i64 gs[j].2.v.2.1,.string gs[j].2.v.2.2,.int .i64 gs[j].2.c,.slice ai gs[j].2.ks.length ci] 133;have Fk:=F.next hal
   have zk:(wr.alloc (.cells #[.int .i64 gs[j].1,.int .i64 gs[j].2.k,.int .i64 gs[j].2.v.1,.int .i64 gs[j].2.v.2.1,.string gs[j].2.v.2.2,.int .i64 gs[j].2.c,.slice ai gs[j].2.ks.length ci] 133)).heap.size=wr.heap.size+1:=by simp
   have kk:=(bd.next hal hz kx).up (show w.heap.size≤(wr.alloc (.cells #[.int .i64 gs[j].1,.int .i64 gs[j].2.k,.int .i64 gs[j].2.v.1,.int .i64 gs[j].2.v.2.1,.string gs[j].2.v.2.2,.int .i64 gs[j].2.c,.slice ai gs[j].2.ks.length ci] 133)).heap.size by omega);have cc:=((hc.next hb (Nj _)).next hal hz).up (show w.heap.size≤(wr.alloc (.cells #[.int .i64 gs[j].1,.int .i64 gs[j].2.k,.int .i64 gs[j].2.v.1,.int .i64 gs[j].2.v.2.1,.string gs[j].2.v.2.2,.int .i64 gs[j].2.c,.slice ai gs[j].2.ks.length ci] 133)).heap.size by omega);have hjz:(j:Int)<gs.length:=by omega
   by_cases h0:bX cols gs[j]=0
   ·have con:=uq cols gs[j] ca ccap ai ci _ kk cc h0;have HTo:Hid (fi gs[j].1):=HTot.out _ (Ns hlt) h0;have Hr:Hid (∀ row,cL cols row→aY (fU gs[j] row)=0∧ik (fU gs[j] row)):=qA h0;have HN:Hid (le=bV cols (gs.drop (j+1))):=HT.out.trans (sR cols gs j hlt h0);clear h0 HT;go_upto_region 5 with fail
    clear x0 x1 x2 x3 x4 x5 x6 kx kk cc;generalize wr.alloc (.cells #[.int .i64 gs[j].1,.int .i64 gs[j].2.k,.int .i64 gs[j].2.v.1,.int .i64 gs[j].2.v.2.1,.string gs[j].2.v.2.2,.int .i64 gs[j].2.c,.slice ai gs[j].2.ks.length ci] 133)=wk at *;have p0:wk.cell? ⟨wr.heap.size,0,none⟩=some (.int .i64 gs[j].1):=cell_of (i:=0) q0 rfl;have p1:wk.cell? ⟨wr.heap.size,1,none⟩=some (.int .i64 gs[j].2.k):=cell_of (i:=1) q0 rfl;have p2:wk.cell? ⟨wr.heap.size,2,none⟩=some (.int .i64 gs[j].2.v.1):=cell_of (i:=2) q0 rfl
    have p3:wk.cell? ⟨wr.heap.size,3,none⟩=some (.int .i64 gs[j].2.v.2.1):=cell_of (i:=3) q0 rfl;have p4:wk.cell? ⟨wr.heap.size,4,none⟩=some (.string gs[j].2.v.2.2):=cell_of (i:=4) q0 rfl;have p5:wk.cell? ⟨wr.heap.size,5,none⟩=some (.int .i64 gs[j].2.c):=cell_of (i:=5) q0 rfl;have p6:wk.cell? ⟨wr.heap.size,6,none⟩=some (.slice ai gs[j].2.ks.length ci):=cell_of (i:=6) q0 rfl;go_wp2_with fail
    refine con.mono ?_;rintro e w3 ⟨u,rfl,hA3,hb3⟩;clear con p0 p1 p2 p3 p4 p5 p6;obtain ⟨ug,ucb,rfl⟩:∃ g cb,u = .func (.func g) #[] cb:=by obtain ⟨g,cb,e,_⟩:=hA3; exact ⟨g,cb,e⟩
    have hal4:=aa w3 (.cells #[.func (.func ug) #[] ucb] 179);have q4:=aw w3 #[.func (.func ug) #[] ucb] 179;have q0':=((chain hb3 hal4).block _ (ae q0)).trans q0;have z3:=hb3.size;have hV:fX cols (w.heap.size+2) (.func (.func ug) #[] ucb) (fU gs[j]) (w3.alloc (.cells #[.func (.func ug) #[] ucb] 179)):=(hA3.down (by omega)).next (ax.of hal4);have F4:=(Fk.next hb3).next hal4;have hA4:=chain (chain (chain hb hal) hb3) hal4;dsimp only;go_upto_region 8 with fail
    clear hA3;generalize w3.alloc (.cells #[.func (.func ug) #[] ucb] 179)=w4 at *;have c8:w4.cell? ⟨wr.heap.size,0,none⟩=some (.int .i64 gs[j].1):=cell_of (i:=0) q0' rfl;have con:=HTo.out w4;go_wp2_with fail
    refine con.mono ?_;rintro e w5 ⟨u5,rfl,hT5,hb5⟩;clear con c8;obtain ⟨tg,tcb,rfl⟩:∃ g cb,u5 = .func (.func g) #[] cb:=by obtain ⟨g,cb,e,_⟩:=hT5; exact ⟨g,cb,e⟩
    have hal6:=aa w5 (.cells #[.func (.func tg) #[] tcb] 187);have q6:=aw w5 #[.func (.func tg) #[] tcb] 187;have q4':=((chain hb5 hal6).block _ (ae q4)).trans q4;have z5:=hb5.size;have z4:=hal4.size;have hT6:qK (w.heap.size+2) (.func (.func tg) #[] tcb) (fx gs[j].1) (w5.alloc (.cells #[.func (.func tg) #[] tcb] 187)):=(hT5.down (by omega)).next (ax.of hal6);have hV6:=(hV.next (ax.of hb5)).next (ax.of hal6);have F6:=(F4.next hb5).next hal6;have hA6:=chain (chain hA4 hb5) hal6
    have t6:=ae q6;have v6:=ae q4';dsimp only;go_upto_region 9 with fail
    clear hT5 hV;generalize w5.alloc (.cells #[.func (.func tg) #[] tcb] 187)=w6 at *;have RF:km cols (w.heap.size+2) (.func (.func 154) #[] #[.pointer (some ⟨w5.heap.size,0,none⟩),.pointer (some ⟨w3.heap.size,0,none⟩)]) (jd gs[j]) w6:=by
     refine ⟨154,_,rfl,enters_of Tryz.func154 (by kernel_rfl) rfl,fun rows a cap W hr hs hW=>?_⟩;exact JN cols (w.heap.size+2) _ _ (fx gs[j].1) (fU gs[j]) Hr.out w5.heap.size w3.heap.size a cap rows W ((hW.cell (p:=⟨w5.heap.size,0,none⟩) (by show _≤w5.heap.size; omega) t6).trans (cell_of (i:=0) q6 rfl)) ((hW.cell (p:=⟨w3.heap.size,0,none⟩) (by show _≤w3.heap.size; omega) v6).trans (cell_of (i:=0) q4' rfl)) (hT6.next hW) (hV6.next hW) hr hs
    have HRF:Hid (km cols (w.heap.size+2) (.func (.func 154) #[] #[.pointer (some ⟨w5.heap.size,0,none⟩),.pointer (some ⟨w3.heap.size,0,none⟩)]) (Fs[j]'(by omega)) w6):=by
     show km _ _ _ _ _;have e:Fs[j]'(by omega)=jd gs[j]:=by simp only [HFs.out]; exact Jp hlt
     rw [e]; exact RF
    have b6:=F6.box;obtain ⟨⟨un,r2⟩,r3⟩:=F6.room j (by omega);rw [lFs] at b6;clear RF hT6 hV6;go_wp2
    go_roundw
    case rel=>exact ⟨j+1,by omega,by go_num,F6.store (by omega) HRF.out,HN,hA6.setCell (p:=⟨w.heap.size,j,none⟩) (Nj _) _⟩
    case measure=>simp [intOf]; omega
   ·have con:=sF cols gs[j] ca ccap ai ci _ kk cc h0;have HN:Hid (le=bX cols gs[j]):=HT.out.trans (vR cols gs j hlt h0);have hne:(bX cols gs[j] != 0)=true:=by simpa using h0
    have HN0:Hid (¬ le=0):=by show ¬ _; rw [HN.out]; exact h0
    rw [← HN.out] at con hne;clear h0 HT;go_upto_region 5 with fail
    clear x0 x1 x2 x3 x4 x5 x6 kx kk cc;generalize wr.alloc (.cells #[.int .i64 gs[j].1,.int .i64 gs[j].2.k,.int .i64 gs[j].2.v.1,.int .i64 gs[j].2.v.2.1,.string gs[j].2.v.2.2,.int .i64 gs[j].2.c,.slice ai gs[j].2.ks.length ci] 133)=wk at *;have p0:wk.cell? ⟨wr.heap.size,0,none⟩=some (.int .i64 gs[j].1):=cell_of (i:=0) q0 rfl;have p1:wk.cell? ⟨wr.heap.size,1,none⟩=some (.int .i64 gs[j].2.k):=cell_of (i:=1) q0 rfl;have p2:wk.cell? ⟨wr.heap.size,2,none⟩=some (.int .i64 gs[j].2.v.1):=cell_of (i:=2) q0 rfl
    have p3:wk.cell? ⟨wr.heap.size,3,none⟩=some (.int .i64 gs[j].2.v.2.1):=cell_of (i:=3) q0 rfl;have p4:wk.cell? ⟨wr.heap.size,4,none⟩=some (.string gs[j].2.v.2.2):=cell_of (i:=4) q0 rfl;have p5:wk.cell? ⟨wr.heap.size,5,none⟩=some (.int .i64 gs[j].2.c):=cell_of (i:=5) q0 rfl;have p6:wk.cell? ⟨wr.heap.size,6,none⟩=some (.slice ai gs[j].2.ks.length ci):=cell_of (i:=6) q0 rfl;go_wp2_with fail
    refine con.mono ?_;rintro e w3 ⟨rfl,hb3⟩;clear con p0 p1 p2 p3 p4 p5 p6;have hal4:=aa w3 (.cells #[.nilFunc] 179);dsimp only;go_wp2
    exact Nl (v:=.tuple #[.nilFunc,.int .i64 le]) (by simp [results,Tryz.results123,go_sem]) rfl ⟨_,rfl,.inr ⟨HN0.out,rfl⟩,chain (chain (chain hb hal) hb3) hal4⟩
  ·have e:j=gs.length:=by omega
   subst e;have e0:le=0:=by rw [HT.out,List.drop_length]; rfl
   subst e0;have KF:Hid (vn cols w.heap.size wr (w.heap.size+1) Fs):=by rw [← lFs] at F; exact F.kids (Nj _) (by omega)
   have AF:Hid (DI cols w.heap.size (.func (.func 156) #[] #[.pointer (some ⟨w.heap.size+1,0,none⟩)]) gs wr):=⟨156,_,rfl,enters_of Tryz.func156 (by kernel_rfl) rfl,fun rows a cap W hr hs hW=>by
    have:=Je cols w.heap.size (w.heap.size+1) Fs a rows cap W (KF.out.next hW) (by omega) hr hs;have em:(Fs.map fun F:List Zp→Vl=>F rows)=gs.map fun g=>jd g rows:=by rw [HFs.out,List.map_map]; rfl
    rw [lFs,em] at this;exact this⟩
   go_wp2_with fail
   first
    | exact Nl (v:=.tuple #[.func (.func 156) #[] #[.pointer (some ⟨w.heap.size+1,0,none⟩)],.int .i64 0]) (by simp [results,Tryz.results123,go_sem]) rfl ⟨_,rfl,.inl ⟨rfl,AF.out⟩,hb⟩
    | exact Nl (v:=.tuple #[.func (.func 156) #[] #[.pointer (some ⟨w.heap.size+1,0,none⟩)],.int .i64 0]) (by simp [results,Tryz.results123,go_sem]) rfl ⟨_,rfl,AF.out,hb⟩
def jg:Int→List Kp→List Zp
 | _,[]=>[]
 | n,x :: r=>(x.2.1,min x.2.2 n) :: jg (n - min x.2.2 n) r
theorem tI:∀ (n:Int) (l:List Kp),0≤n→(∀ x ∈ l,0<x.2.2)→∀ y ∈ jg n l,(∃ x ∈ l,y.1=x.2.1)∧0≤y.2∧y.2≤n
 | _,[],_,_,y,hy=>by simp [jg] at hy
 | n,x :: r,hn,hl,y,hy=>by
  rw [jg] at hy
  have hx:=hl x (by simp)
  rcases List.mem_cons.1 hy with rfl | hy
  ·exact ⟨⟨x,by simp,rfl⟩,by simp only; omega,by simp only; omega⟩
  ·obtain ⟨⟨q,hq,e⟩,h1,h2⟩:=tI _ r (by omega) (fun q hq=>hl q (by simp [hq])) y hy
   exact ⟨⟨q,by simp [hq],e⟩,h1,by omega⟩
theorem eJ {xs:List Ex} {z:List Zp} {x:Kp}:x ∈ ba xs z↔(x.2 ∈ z∧0<x.2.2)∧x.1=dV xs x.2.1:=by
 rw [(kS xs z).mem_iff];unfold j9;rw [Ow];constructor
 ·rintro ⟨p,hp,rfl⟩;have:=List.mem_filter.1 hp;exact ⟨⟨this.1,by simpa using this.2⟩,rfl⟩
 ·rintro ⟨⟨h1,h2⟩,h3⟩;exact ⟨x.2,List.mem_filter.2 ⟨h1,by simpa using h2⟩,by rw [← h3]⟩
def kh (cols:List Int) (xs:List Ex) (k:Int) (z:List Zp):Int:=if aP cols xs≠0 then aP cols xs else if k<0∨50<k then 3 else if bz cols z≠0 then bz cols z else aH (jg k (ba xs z))
def mV (cols:List Int) (xs:List Ex) (k:Int) (z:List Zp):List Zp:=if kh cols xs k z=0 then canon (jg k (ba xs z)) else []
theorem Df {n:Int} {l:List Kp} {j:Nat} (h:j<l.length):jg n (l.drop j)=(l[j].2.1,min l[j].2.2 n) :: jg (n - min l[j].2.2 n) (l.drop (j+1)):=by
 rw [Nq h,jg]
theorem FL (cols:List Int) (xs:List Ex) (n:Int) (hn64:-9223372036854775808≤n∧n≤9223372036854775807) (ca:Option Addr) (ccap:Nat) (xa:Option Addr) (xcap:Nat) (a:Option Addr) (cap:Nat) (l:List Zp) (w:World) (hc:bc w.heap.size w ca cols) (hk:bd w.heap.size w xa xs) (h:aL w a l) :
  Calls Tryz.prog 98 #[.slice ca cols.length ccap,.slice xa xs.length xcap,.int .i64 n,.slice a l.length cap] w fun e w'=>∃ v,e = .returned (.tuple #[v,.int .i64 (kh cols xs n l)])∧bZ w.heap.size w' v (mV cols xs n l)∧Below w.heap.size w w':=by
 obtain ⟨i0,hi,hj0,hj1,hj2⟩:=info_parts Tryz.gX;have con:=xb cols xs ca ccap xa xcap w hk hc;generalize hfz:mV cols xs n l=fz;generalize hfe:kh cols xs n l=fe;have HZ:Hid (mV cols xs n l=fz):=hfz;have HF:Hid (kh cols xs n l=fe):=hfe;clear hfz hfe;by_cases h1:aP cols xs=0
 ·have H1:Hid (aP cols xs=0):=h1;rw [h1] at con;clear h1;by_cases hr:n<0∨50<n
  ·have e0:fe=3:=by rw [← HF.out]; unfold kh; rw [H1.out,if_neg (by simp),if_pos hr]
   have e1:fz = []:=by rw [← HZ.out]; unfold mV; rw [HF.out,e0,if_neg (by decide)]
   subst e0;have HV:Hid (fz = []):=e1;clear e1;go_enter Tryz.func98,Tryz.ntmps98;go_wp2_with fail
   refine con.mono ?_;rintro e w1 ⟨u,rfl,hL,hb1⟩;clear con hL;dsimp only;by_cases hr1:n<0
   ·go_wp2
    exact Nl (v:=.tuple #[.slice none 0 0,.int .i64 3]) (by simp [results,Tryz.results98,go_sem]) rfl ⟨_,rfl,by rw [HV.out]; exact dM _ _,hb1⟩
   ·have hr2:50<n:=by omega
    go_wp2
    exact Nl (v:=.tuple #[.slice none 0 0,.int .i64 3]) (by simp [results,Tryz.results98,go_sem]) rfl ⟨_,rfl,by rw [HV.out]; exact dM _ _,hb1⟩
  have hr1:¬ n<0:=fun h=>hr (.inl h)
  have hr2:¬ 50<n:=fun h=>hr (.inr h)
  have HRg:Hid (¬ (n<0∨50<n)):=hr;clear hr;go_enter Tryz.func98,Tryz.ntmps98;go_wp2_with fail
  refine con.mono ?_;rintro e w1 ⟨u,rfl,hL,hb1⟩;clear con;have hL:kj cols w.heap.size u xs w1:=by
   rcases hL with ⟨_,hL⟩ | ⟨hL,_⟩
   ·exact hL
   ·exact absurd (by trivial) hL
  obtain ⟨g,cb,rfl,eg,d⟩:=hL;have HL:Hid (kj cols w.heap.size (.func (.func g) #[] cb) xs w1):=⟨g,cb,rfl,eg,d⟩
  clear d;have con:=gQ cols ca ccap a cap l w1 ((hc.next hb1 (Nj _)).up hb1.size) (h.next hb1);by_cases h2:bz cols l=0
  ·have hz:=(dK cols l).1 h2;rw [h2] at con;have H2:Hid (bz cols l=0):=h2;clear h2;have HE:Hid (fe=aH (jg n (ba xs l))):=by
    show fe=_;rw [← HF.out]; unfold kh; rw [H1.out,H2.out,if_neg (by simp),if_neg HRg.out,if_neg (by simp)]
   have HV:Hid (fz=bg (jg n (ba xs l))):=by
    show fz=_;rw [← HZ.out]; unfold mV bg; rw [HF.out,HE.out]
   have hl4:=iD hz;have HO:Hid (eU cols l):=hz;dsimp only;go_wp2_with fail
   refine con.mono ?_;rintro e w2 ⟨rfl,hb2⟩;clear con;have hA:=chain hb1 hb2;have con:=rY cols xs (.func (.func g) #[] cb) w.heap.size a cap l w2 (HL.out.next (ax.of hb2)) HO.out (h.next hA);have hil:=mA xs l;generalize hio:ba xs l=L at *;have HI:Hid (ba xs l=L):=hio;clear hio;dsimp only;go_wp2_with fail
   refine con.mono ?_;rintro e w3 ⟨a3,c3,rfl,kd,hb3⟩;clear con;have hA3:=chain hA hb3;dsimp only;have HP:Hid (∀ x ∈ L,0<x.2.2):=fun x hx=>by rw [← HI.out] at hx; exact (eJ.1 hx).1.2
   have HW:Hid (∀ x ∈ L,x.2.2≤1000000):=fun x hx=>by
    rw [← HI.out] at hx;have:=nm HO.out x.2 (eJ.1 hx).1.1;rw [gr] at this;exact this.2
   clear hz;go_wp2_with fail
   go_loopw [13,14,44] (fun v s14 i wr=>∃ (k:Nat) (lf:Int) (acc:List Zp),k≤L.length∧i = .int .i64 k∧s14 = .int .i64 lf∧0≤lf∧lf≤50∧acc.length≤k∧qE w3 w3.heap.size wr v acc∧Hid (jg n L=acc ++ jg lf (L.drop k))∧Below w3.heap.size w3 wr) (fun _ _ i _=>L.length - (intOf i).toNat)
   case atStart=>exact ⟨0,n,[],Nr _,rfl,rfl,by omega,by omega,Nj _,⟨[],by simpa using NP _ _ _ _,by simp [jF]⟩,rfl,Nk _ _⟩
   case round =>
    obtain ⟨k,lf,acc,hk',rfl,rfl,hf0,hf1,hacc,HOB,HT,hb⟩:=hrel;have hzr:=hb.size;by_cases hlt:k<L.length
    ·obtain ⟨b,off,rfl,hbl,e2,⟨ra,rc,e1,sr⟩,ka,kc,e0,_⟩:=kd.elem hlt;have p2:=(hb.cell (p:=⟨b,_,none⟩) hbl).trans e2;have p1:=(hb.cell (p:=⟨b,_,none⟩) hbl).trans e1;have p0:=(hb.cell (p:=⟨b,_,none⟩) hbl).trans e0;have hbl':b<wr.heap.size:=Nn hbl hzr;have HS:Hid (aM w3 ra L[k].2.1):=sr;have hw0:=HP.out L[k] (Ns hlt);have hw1:=HW.out L[k] (Ns hlt);have HD:Hid (jg lf (L.drop k)=(L[k].2.1,min L[k].2.2 lf) :: jg (lf - min L[k].2.2 lf) (L.drop (k+1))):=Df hlt;obtain ⟨xs',ho,he⟩:=HOB;have HEn:Hid (jF w3 xs' acc):=he
     have hal:=aa wr (.cells #[.slice ka L[k].1.length kc,.slice ra L[k].2.1.length rc,.int .i64 L[k].2.2] 157);have ho1:=aS ho hal;have za:(wr.alloc (.cells #[.slice ka L[k].1.length kc,.slice ra L[k].2.1.length rc,.int .i64 L[k].2.2] 157)).heap.size=wr.heap.size+1:=by simp
     clear e0 e1 e2 sr he ho;go_wp2_with (at_builtin; refine NZ _ rfl _ _ 34 rfl w3.heap.size 58 i0 _ 2 32 Tryz.underlying34 hi hj0 hj1 hj2 rfl (by decide) _ _ _ rfl (ho1.alloc _) ⟨wr.heap.size+1,0,none⟩ 1 1 [.slice ra L[k].2.1.length rc,.int .i64 (min L[k].2.2 lf)] rfl rfl ?Ac1 ?Ac2 ?Ac3 ?Ac4 ?Ac5 ?_)
     case Ac1 =>
      intro j u hj
      match j,hj with
      | 0,hj=>simp at hj; subst hj; simp [Addr.add]
      | 1,hj=>simp at hj; subst hj; simp [Addr.add]
     case Ac2=>intro u hu; simp at hu; rcases hu with rfl | rfl <;> rfl
     case Ac3=>unfold maxLen; omega
     case Ac4=>omega
     case Ac5=>simp; omega
     intro v' w5 ho5 hg5 _;have hb5:Below w3.heap.size wr w5:=(((Nk w3.heap.size wr).alloc (by omega) _).alloc (by simp; omega) _).grown hg5 (by simp; omega) (fun q hq=>((ho1.alloc (.cells #[.slice ra L[k].2.1.length rc,.int .i64 (min L[k].2.2 lf)] 58)).lt q hq).1);have hb6:=hb.trans hb5;clear hg5 ho1 hal hb5;go_wp2
     go_roundw
     case rel=>exact ⟨k+1,lf - min L[k].2.2 lf,acc ++ [(L[k].2.1,min L[k].2.2 lf)],by omega,by go_num,rfl,by omega,by omega,by simp; omega,⟨_,by simpa using ho5,HEn.out.push HS.out⟩,by show jg n L=_; rw [HT.out,HD.out]; simp,hb6⟩
     case measure=>simp [intOf]; omega
    ·have e:k=L.length:=by omega
     subst e;have ea:jg n L=acc:=by have:=HT.out; rw [List.drop_length] at this; simpa [jg] using this
     obtain ⟨a4,c4,rfl,zs4,_⟩:=HOB.zs hb;have hmem:=tI n L (by omega) HP.out;have con:=ep a4 c4 acc wr zs4 (by omega) (fun y hy=>by rw [← ea] at hy; have:=hmem y hy; rw [lP]; omega) (fun y hy=>by
      rw [← ea] at hy;obtain ⟨⟨x,hx,e⟩,_⟩:=hmem y hy;rw [e];rw [← HI.out] at hx;exact LG HO.out x.2 (eJ.1 hx).1.1)
     have HV':=HV.out;have HE':=HE.out;rw [ea] at HV' HE';rw [← HE',← HV'] at con;clear HV' HE' zs4 HOB ea hmem;go_wp2_with fail
     refine con.mono ?_;rintro e w6 ⟨v6,rfl,O6,hb6⟩;have hA6:=chain hA3 hb;have O6':=O6.mono hA6.size;obtain ⟨a6,c6,rfl,_⟩:=O6.zs;clear con O6;dsimp only;go_wp2
     exact Nl (v:=.tuple #[.slice a6 fz.length c6,.int .i64 fe]) (by simp [results,Tryz.results98,go_sem]) rfl ⟨_,rfl,O6',chain hA6 hb6⟩
  ·have e0:fe=bz cols l:=by rw [← HF.out]; unfold kh; rw [H1.out,if_neg (by simp),if_neg HRg.out,if_pos h2]
   have e1:fz = []:=by rw [← HZ.out]; unfold mV; rw [HF.out,e0,if_neg h2]
   have hne:(bz cols l != 0)=true:=by simpa using h2
   rw [← e0] at con hne;have HV:Hid (fz = []):=e1;clear e0 e1 h2;dsimp only;go_wp2_with fail
   refine con.mono ?_;rintro e w2 ⟨rfl,hb2⟩;clear con;dsimp only;go_wp2
   exact Nl (v:=.tuple #[.slice none 0 0,.int .i64 fe]) (by simp [results,Tryz.results98,go_sem]) rfl ⟨_,rfl,by rw [HV.out]; exact dM _ _,chain hb1 hb2⟩
 ·have e0:fe=aP cols xs:=by rw [← HF.out]; unfold kh; rw [if_pos h1]
  have e1:fz = []:=by rw [← HZ.out]; unfold mV; rw [HF.out,e0,if_neg h1]
  have hne:(aP cols xs != 0)=true:=by simpa using h1
  have HL:Hid (¬ aP cols xs=0):=h1;rw [← e0] at hne;have HV:Hid (fz = []):=e1;have HN:Hid (fe=aP cols xs):=e0;clear e0 e1 h1;go_enter Tryz.func98,Tryz.ntmps98;go_wp2_with fail
  refine con.mono ?_;rintro e w1 ⟨u,rfl,hL,hb1⟩;obtain ⟨_,rfl⟩:¬ aP cols xs=0∧u = .nilFunc:=by
   rcases hL with ⟨hL,_⟩ | hL
   ·exact absurd hL HL.out
   ·exact hL
  rw [← HN.out];clear con;go_wp2
  exact Nl (v:=.tuple #[.slice none 0 0,.int .i64 fe]) (by simp [results,Tryz.results98,go_sem]) rfl ⟨_,rfl,by rw [HV.out]; exact dM _ _,hb1⟩
end Go.Proofs.YtohjlfhmnmcndaaGreat
