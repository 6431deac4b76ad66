/- Together: K6, J4, K7, ZF, ZG, Q2, K8, J5, J6. -/
import Derived.Laws.EntriesVeiled
import Derived.Test.YtohjlfhmnmcndaaGreatM6
import Derived.Test.YtohjlfhmnmcndaaGreatM3
namespace Go.Proofs.YtohjlfhmnmcndaaGreat
open Go.RowKit Go.Lib Go.Shelf
set_option maxRecDepth 100000
set_option maxHeartbeats 16000000
theorem gQ (cols:List Int) (ca:Option Addr) (ccap:Nat) (a:Option Addr) (cap:Nat) (l:List Zp) (w:World) (hc:bc w.heap.size w ca cols) (h:aL w a l) :
  Calls Tryz.prog 65 #[.slice ca cols.length ccap,.slice a l.length cap] w fun e w'=>e = .returned (.int .i64 (bz cols l))∧Below w.heap.size w w':=by
 have hl:=h.1;unfold maxLen at hl;have hcl:=hc.1;unfold maxLen at hcl;by_cases h8:8<cols.length
 ·have e:bz cols l=5:=by simp [bz,h8]
  rw [e];have hz:(8:Int)<(cols.length:Int):=by omega
  go_enter Tryz.func65,Tryz.ntmps65;go_wp2
  go_ret;exact ⟨rfl,Nk _ _⟩
 have hz:¬ (8:Int)<(cols.length:Int):=by omega
 by_cases hw:aF l=0
 ·have e:bz cols l=fB cols l:=by simp [bz,h8,hw]
  rw [e];clear e;have Hw:Hid (aF l=0):=hw;clear hw;go_enter Tryz.func65,Tryz.ntmps65;go_wp2_with fail
  refine (fa _ _ _ _ h).mono ?_;rintro e w1 ⟨rfl,hb1⟩;rw [Hw.out];go_wp2_with fail
  go_loopw [19] (fun i wr=>∃ k:Nat,k≤l.length∧i = .int .i64 k∧Hid (fB cols l=fB cols (l.drop k))∧Below w.heap.size w wr) (fun i _=>l.length - (intOf i).toNat)
  case atStart=>exact ⟨0,Nr _,rfl,rfl,hb1⟩
  case round =>
   obtain ⟨k,hk,rfl,HC,hb⟩:=hrel;have hz:=hb.size;by_cases hlt:k<l.length
   ·obtain ⟨b,off,rfl,hbl,c1,ar,cr,c0,sr⟩:=(h.next hb).elem hlt;have hA:=hb.alloc hz (.cells #[.slice ar l[k].1.length cr,.int .i64 l[k].2] 58);have hal:=aa wr (.cells #[.slice ar l[k].1.length cr,.int .i64 l[k].2] 58);have con:=Kq cols l[k].1 ca ccap ar cr _ ((hc.next hA (Nj _)).up hA.size) (sr.next hal);by_cases hw:di cols l[k].1=0
    ·have Hw:Hid (di cols l[k].1=0):=hw;rw [hw] at con;clear hw;go_wp2_with fail
     refine con.mono ?_;rintro e w2 ⟨rfl,hb2⟩;go_wp2
     go_roundw
     case rel=>exact ⟨k+1,by omega,by go_num,HC.out.trans (rK cols l k hlt Hw.out),nw hb hb2⟩
     case measure=>simp [intOf]; omega
    ·have HN:Hid (fB cols l=di cols l[k].1):=HC.out.trans (uy cols l k hlt hw);have hne:(di cols l[k].1 != 0)=true:=by simpa using hw
     generalize di cols l[k].1=t at *;go_wp2_with fail
     refine con.mono ?_;rintro e w2 ⟨rfl,hb2⟩;go_wp2
     go_ret;exact ⟨aA HN.out.symm,nw hb hb2⟩
   ·have HN:Hid (fB cols l=0):=HC.out.trans (vG cols l k (by omega));go_wp2
    go_ret;exact ⟨aA HN.out.symm,hb⟩
 ·have e:bz cols l=aF l:=by simp [bz,h8,hw]
  rw [e];have hne:(aF l != 0)=true:=by simpa using hw
  go_enter Tryz.func65,Tryz.ntmps65;go_wp2_with fail
  refine (fa _ _ _ _ h).mono ?_;rintro e w1 ⟨rfl,hb1⟩;go_wp2
  go_ret;exact ⟨rfl,hb1⟩
def qE (w0:World) (base:Nat) (W:World) (v:Value) (l:List Zp):Prop:=∃ xs,W.ownsRow base 58 2 v l.length xs∧jF w0 xs l
theorem qE.next {w0 W w1:World} {base:Nat} {v:Value} {l:List Zp} (h:qE w0 base W v l) (hb:Below W.heap.size W w1):qE w0 base w1 v l:=by
 obtain ⟨xs,h1,h2⟩:=h;exact ⟨xs,aS h1 hb,h2⟩
theorem qE.zs {w0 W:World} {base:Nat} {v:Value} {l:List Zp} (h:qE w0 base W v l) (hb:Below w0.heap.size w0 W):∃ a cap,v = .slice a l.length cap∧aL W a l∧(a=none→cap=0):=by
 obtain ⟨xs,h1,h2⟩:=h;have h1':=h1;obtain ⟨hx,⟨rfl,h0⟩ | ⟨g,cap,cur,rfl,hg,hh,hn,hc,hs,ht⟩⟩:=h1
 ·have:l = []:=Nu h0;subst this;exact ⟨none,0,rfl,⟨by simp,.inl rfl⟩,fun _=>rfl⟩
 ·refine ⟨_,cap,rfl,⟨by omega,.inr ⟨g,0,rfl,(h1'.lt g rfl).2,fun i hi=>?_⟩⟩,fun e=>by cases e⟩;obtain ⟨a,cp,e0,e1,e2⟩:=h2.2 i hi;refine ⟨?_,a,cp,?_,e2.next hb⟩
  ·rw [h1'.cellAt _ (by omega),← e1]; congr 1; omega
  ·rw [h1'.cellAt _ (by omega),← e0]; congr 1; omega
theorem jN {lo base e size n:Nat} {W w1:World} {v:Value} {xs:List Value} (h:W.ownsRow base e size v n xs) (hl:lo≤base) (hs:ax lo W w1):w1.ownsRow base e size v n xs:=by
 have h':=h;obtain ⟨hx,h1 | ⟨g,cap,cur,rfl,hg,hh,rest⟩⟩:=h
 ·exact ⟨hx,.inl h1⟩
 ·exact ⟨hx,.inr ⟨g,cap,cur,rfl,hg,by rw [hs.2 g (by omega) (h'.lt g rfl).2]; exact hh,rest⟩⟩
theorem jt {l:List Zp} (p:Zp→Bool) {k:Nat} (h:k<l.length):(l.take (k+1)).filter p=(l.take k).filter p ++ (if p l[k]=true then [l[k]] else []):=by
 rw [Nz h,List.filter_append]
 congr 1
 rw [List.filter_cons];rfl
theorem oS (g:Nat) (cb:Array Value) (p:Zp→Bool) (a:Option Addr) (cap:Nat) (l:List Zp) (w0 w:World) (Inv:World→Prop) (h:aL w0 a l) (hl:l.length≤100000)
  (eg:∀ args w,(callFunc g args).run Tryz.prog w = .ok (.enter g args) w) (hI0:Inv w) (hI1:∀ W,Inv W→Below w0.heap.size w0 W) (hI2:∀ W W',Inv W→Below w.heap.size W W'→Inv W')
  (hcall:∀ x ∈ l,∀ (ra:Option Addr) (rc:Nat) (W:World),Inv W→aM w0 ra x.1→w.heap.size≤W.heap.size→Calls Tryz.prog g (#[.agg #[.slice ra x.1.length rc,.int .i64 x.2]] ++ cb) W fun e w'=>e = .returned (.bool (p x))∧Inv w'∧ax w.heap.size W w') :
  Calls Tryz.prog 119 #[.slice a l.length cap,.func (.func g) #[] cb] w fun e w'=>∃ v,e = .returned v∧qE w0 w.heap.size w' v (l.filter p)∧Inv w'∧w.heap.size≤w'.heap.size:=by
 obtain ⟨i0,hi,hj0,hj1,hj2⟩:=info_parts Tryz.gX;have HC:Hid (∀ x ∈ l,∀ (ra:Option Addr) (rc:Nat) (W:World),Inv W→aM w0 ra x.1→w.heap.size≤W.heap.size→Calls Tryz.prog g (#[.agg #[.slice ra x.1.length rc,.int .i64 x.2]] ++ cb) W fun e w'=>e = .returned (.bool (p x))∧Inv w'∧ax w.heap.size W w'):=hcall;have H1:Hid (∀ W,Inv W→Below w0.heap.size w0 W):=hI1;have H2:Hid (∀ W W',Inv W→Below w.heap.size W W'→Inv W'):=hI2;clear hcall hI1 hI2;go_enter Tryz.func119,Tryz.ntmps119;go_wp2_with fail
 go_loopw [5,10] (fun v i wr=>∃ k:Nat,k≤l.length∧i = .int .i64 k∧qE w0 w.heap.size wr v ((l.take k).filter p)∧Hid (Inv wr)∧w.heap.size≤wr.heap.size) (fun _ i _=>l.length - (intOf i).toNat)
 case atStart=>exact ⟨0,Nr _,rfl,⟨[],by simpa using NP _ _ _ _,by simp [jF]⟩,hI0,Nj _⟩
 case round =>
  clear hI0;obtain ⟨k,hk,rfl,HO,HI,hz⟩:=hrel;by_cases hlt:k<l.length
  ·obtain ⟨b,off,rfl,hbl,d1,ar,cr,d0,sr⟩:=h.elem hlt;have hB:=H1.out _ HI.out;have c1:=(hB.cell (p:=⟨b,_,none⟩) hbl).trans d1;have c0:=(hB.cell (p:=⟨b,_,none⟩) hbl).trans d0;have hbl':b<wr.heap.size:=Nn hbl hB.size;have hlen:((l.take k).filter p).length≤k:=by have:=Oi p (l.take k); simp only [NN] at this; omega
   have hal:=aa wr (.cells #[.slice ar l[k].1.length cr,.int .i64 l[k].2] 58);have IA:Inv (wr.alloc (.cells #[.slice ar l[k].1.length cr,.int .i64 l[k].2] 58)):=H2.out _ _ HI.out (hal.mono hz);have con:=HC.out l[k] (Ns hlt) ar cr _ IA sr (Nw hz hal.size);have q0:(wr.alloc (.cells #[.slice ar l[k].1.length cr,.int .i64 l[k].2] 58)).cell? ⟨wr.heap.size,0,none⟩=some (.slice ar l[k].1.length cr):=by simp
   have q1:(wr.alloc (.cells #[.slice ar l[k].1.length cr,.int .i64 l[k].2] 58)).cell? ⟨wr.heap.size,1,none⟩=some (.int .i64 l[k].2):=by simp
   have za:(wr.alloc (.cells #[.slice ar l[k].1.length cr,.int .i64 l[k].2] 58)).heap.size=wr.heap.size+1:=by simp
   have HS:Hid (aM w0 ar l[k].1):=sr;obtain ⟨xs,ho,he⟩:=HO;have HE:Hid (jF w0 xs ((l.take k).filter p)):=he;have ho1:=aS ho hal;clear d0 d1 sr he ho IA;by_cases hp:p l[k]=true
   ·rw [hp] at con;have HP:Hid (p l[k]=true):=hp;clear hp
    go_wp2_with (first | (go_at_fn g; refine con.mono ?_; rintro e w1 ⟨rfl,I1,s1⟩; have r0:=(s1.cell (p:=⟨wr.heap.size,0,none⟩) hz (by show wr.heap.size<_; omega)).trans q0; have r1:=(s1.cell (p:=⟨wr.heap.size,1,none⟩) hz (by show wr.heap.size<_; omega)).trans q1; have z1:=s1.1; have o1:=jN ho1 (Nj _) s1) | (at_builtin; refine NZ _ rfl _ _ 34 rfl w.heap.size 58 i0 _ 2 32 Tryz.underlying34 hi hj0 hj1 hj2 rfl (by decide) _ _ _ rfl (o1.alloc _) ⟨w1.heap.size,0,none⟩ 1 1 [.slice ar l[k].1.length cr,.int .i64 l[k].2] rfl rfl ?Ac1 ?Ac2 ?Ac3 ?Ac4 ?Ac5 ?_))
    case Ac1 =>
     intro j u hj
     match j,hj with
     | 0,hj=>simp at hj; subst hj; simp [Addr.add]
     | 1,hj=>simp at hj; subst hj; simp [Addr.add]
    case Ac2=>intro u hu; simp at hu; rcases hu with rfl | rfl <;> rfl
    case Ac3=>unfold maxLen; omega
    case Ac4=>omega
    case Ac5=>simp; omega
    intro v' w5 ho5 hg5 _;have hb5:Below w.heap.size w1 w5:=((Nk w.heap.size w1).alloc (by omega) _).grown hg5 (by simp; omega) (fun q hq=>((o1.alloc (.cells #[.slice ar l[k].1.length cr,.int .i64 l[k].2] 58)).lt q hq).1);have HI1:Hid (Inv w5):=H2.out _ _ I1 hb5;have z5:=hb5.size;clear hg5 o1 I1 con q0 q1 ho1;go_wp2
    go_roundw
    case rel=>exact ⟨k+1,by omega,by go_num,by rw [jt p hlt,if_pos HP.out]; exact ⟨_,by simpa using ho5,HE.out.push HS.out⟩,HI1,by omega⟩
    case measure=>simp [intOf]; omega
   ·have hp:p l[k]=false:=by simpa using hp
    rw [hp] at con;have HP:Hid (p l[k]=false):=hp;clear hp;go_wp2_with (go_at_fn g; refine con.mono ?_; rintro e w1 ⟨rfl,I1,s1⟩)
    have o1:=jN ho1 (Nj _) s1;have z1:=s1.1;have HI1:Hid (Inv w1):=I1;clear con q0 q1 ho1 I1;go_roundw
    case rel=>exact ⟨k+1,by omega,by go_num,by rw [jt p hlt,HP.out,if_neg (by decide),OG]; exact ⟨_,o1,HE.out⟩,HI1,by omega⟩
    case measure=>simp [intOf]; omega
  ·have e:k=l.length:=by omega
   subst e;rw [NL] at HO;obtain ⟨av,cv,rfl,_⟩:=HO.zs (H1.out _ HI.out);go_wp2
   go_ret;exact ⟨_,rfl,HO,HI.out,hz⟩
structure cP (wp:World) (R rv:Nat) (W:World):Prop where
 os:W.os=wp.os
 tape:W.tape=wp.tape
 output:W.output=wp.output
 size:wp.heap.size≤W.heap.size
 block:∀ k,k<wp.heap.size→k≠R→k≠rv→W.heap[k]? = wp.heap[k]?
 var:∃ n,W.cell? ⟨rv,0,none⟩=some (.slice (some ⟨R,0,none⟩) n 8)
 Fy:W.frozen? ⟨rv,0,none⟩=false
 room:∃ cur,W.heap[R]? = some (.cells cur 24 (0,0))∧cur.size=24
structure pG (wp:World) (R rv:Nat):Prop where
 r:R<rv
 v:rv<wp.heap.size
theorem cP.below {wp W:World} {R rv:Nat} (h:cP wp R rv W) (hn:pG wp R rv):Below R wp W :=
 ⟨h.os,h.tape,h.output,h.size,fun k hk=>h.block k (by have:=hn.r; have:=hn.v; omega) (by omega) (by have:=hn.r; omega)⟩
theorem cP.dX {wp W W':World} {R rv:Nat} (h:cP wp R rv W) (hn:pG wp R rv) {B:Nat} (hB:wp.heap.size≤B) (hb:Below B W W'):cP wp R rv W':=by
 have hr:=hn.r;have hv:=hn.v;obtain ⟨n,hc⟩:=h.var;obtain ⟨cur,hh,hs⟩:=h.room;refine ⟨hb.os.trans h.os,hb.tape.trans h.tape,hb.output.trans h.output,Nw h.size hb.size,fun k hk h1 h2=>(hb.block k (by omega)).trans (h.block k hk h1 h2),⟨n,(hb.cell (p:=⟨rv,0,none⟩) (by show rv<B; omega)).trans hc⟩,(hb.frozen (p:=⟨rv,0,none⟩) (by show rv<B; omega)).trans h.Fy,cur,(hb.block R (by omega)).trans hh,hs⟩
theorem cP.sz {wp W:World} {R rv:Nat} (h:cP wp R rv W) (hn:pG wp R rv):rv<W.heap.size:=Nn hn.v h.size
theorem zp (cols:List Int) (lo:Nat) (x:Ex) (wc wp w0:World) (R rv hv:Nat) (u:Value) (hn:pG wp R rv) (hv0:hv<R) (hc:wp.cell? ⟨hv,0,none⟩=some u) (hC:jU cols lo u x wc) (hcR:wc.heap.size≤R) (hcp:ax lo wc wp) (h0:w0.heap.size≤R) (h0p:Below w0.heap.size w0 wp)
  (a b:Option Addr) (ca cb:Nat) (l r:List Vl) (W:World) (hI:cP wp R rv W) (s1:aM w0 a l) (s2:aM w0 b r) (h8:l.length+r.length≤8) (hf:cL cols (l ++ r)) :
  Calls Tryz.prog 219 #[.slice a l.length ca,.slice b r.length cb,.pointer (some ⟨rv,0,none⟩),.pointer (some ⟨hv,0,none⟩)] W fun e w'=>e = .returned (.bool (bF x (l ++ r)))∧cP wp R rv w'∧ax (rv+1) W w':=by
 obtain ⟨i0,hi,hj0,hj1,hj2⟩:=info_parts Tryz.sL;obtain ⟨g,cbs,rfl,eg,d⟩:=hC;have HD:Hid _:=d;clear d;have hrR:=hn.r;have hb0:=hI.below hn;have d0:Below w0.heap.size w0 W:=h0p.trans (hb0.mono h0);have r1:=fG (s1.next d0);have c3:W.cell? ⟨hv,0,none⟩=some (.func (.func g) #[] cbs):=(hb0.cell (p:=⟨hv,0,none⟩) hv0).trans hc;obtain ⟨n,hc2⟩:=hI.var;obtain ⟨cur,hh,hs⟩:=hI.room;have hsz:=hI.sz hn;have hfz:=hI.Fy;have own:W.ownsRow R 24 3 (.slice (some ⟨R,0,none⟩) 0 8) 0 []:=⟨rfl,.inr ⟨R,8,cur,rfl,Nj _,hh,by omega,by unfold maxLen; omega,by omega,by simp⟩⟩
 generalize ht:bF x (l ++ r)=t;have HT:Hid (bF x (l ++ r)=t):=ht;clear ht;go_enter Tryz.func219,Tryz.ntmps219;go_wp2_with (at_builtin; refine jL _ rfl _ _ 56 rfl R 24 i0 3 Tryz.underlying56 hi hj1 R 0 8 _ rfl own a l.length ca _ rfl r1 (by omega) ?_)
 intro w1 own1 g1;have k1:∀ k,k<W.heap.size→k≠R→w1.heap[k]? = W.heap[k]?:=fun k hk hne=>g1.block k hk (by intro e; exact hne (NU e))
 have z1:=g1.size;have d1:Below w0.heap.size w0 w1:=⟨g1.os.trans d0.os,g1.tape.trans d0.tape,g1.output.trans d0.output,Nw d0.size z1,fun k hk=>(k1 k (by have:=d0.size; omega) (by omega)).trans (d0.block k hk)⟩
 have r2:=fG (s2.next d1);clear own r1;go_wp2_with (at_builtin; refine jL _ rfl _ _ 56 rfl R 24 i0 3 Tryz.underlying56 hi hj1 R l.length 8 _ rfl own1 b r.length cb _ rfl r2 (by omega) ?_)
 intro w2 own2 g2;have k2:∀ k,k<W.heap.size→k≠R→w2.heap[k]? = W.heap[k]?:=fun k hk hne=>(g2.block k (by omega) (by intro e; exact hne (NU e))).trans (k1 k hk hne)
 have z2:=g2.size;have o2:w2.os=W.os∧w2.tape=W.tape∧w2.output=W.output:=⟨g2.os.trans g1.os,g2.tape.trans g1.tape,g2.output.trans g1.output⟩
 have cv:w2.cell? ⟨rv,0,none⟩=some (.slice (some ⟨R,0,none⟩) n 8):=(NA (w:=W) (k2 rv hsz (by omega))).trans hc2;have fv:w2.frozen? ⟨rv,0,none⟩=false:=(OP (w:=W) (k2 rv hsz (by omega))).trans hfz;have ch:w2.cell? ⟨hv,0,none⟩=some (.func (.func g) #[] cbs):=(NA (w:=W) (k2 hv (by omega) (by omega))).trans c3;have k3:∀ k,k≠rv→(w2.setCell ⟨rv,0,none⟩ (.slice (some ⟨R,0,none⟩) (l.length+r.length) 8)).heap[k]? = w2.heap[k]?:=fun k hne=>NR w2 ⟨rv,0,none⟩ _ k hne
 have cv3:(w2.setCell ⟨rv,0,none⟩ (.slice (some ⟨R,0,none⟩) (l.length+r.length) 8)).cell? ⟨rv,0,none⟩=some (.slice (some ⟨R,0,none⟩) (l.length+r.length) 8):=ON _ _ _ (by rw [cv]; rfl);have fv3:(w2.setCell ⟨rv,0,none⟩ (.slice (some ⟨R,0,none⟩) (l.length+r.length) 8)).frozen? ⟨rv,0,none⟩=false:=by rw [N8]; exact fv
 have ch3:(w2.setCell ⟨rv,0,none⟩ (.slice (some ⟨R,0,none⟩) (l.length+r.length) 8)).cell? ⟨hv,0,none⟩=some (.func (.func g) #[] cbs):=(NA (w:=w2) (k3 hv (by omega))).trans ch;have z3:(w2.setCell ⟨rv,0,none⟩ (.slice (some ⟨R,0,none⟩) (l.length+r.length) 8)).heap.size=w2.heap.size:=by simp
 have o3:(w2.setCell ⟨rv,0,none⟩ (.slice (some ⟨R,0,none⟩) (l.length+r.length) 8)).os=w2.os∧(w2.setCell ⟨rv,0,none⟩ (.slice (some ⟨R,0,none⟩) (l.length+r.length) 8)).tape=w2.tape∧(w2.setCell ⟨rv,0,none⟩ (.slice (some ⟨R,0,none⟩) (l.length+r.length) 8)).output=w2.output:=by
  have:=(Nk rv w2).setCell (p:=⟨rv,0,none⟩) (Nj _) (.slice (some ⟨R,0,none⟩) (l.length+r.length) 8);exact ⟨this.os,this.tape,this.output⟩
 have HO2:Hid (w2.ownsRow R 24 3 (.slice (some ⟨R,0,none⟩) (l.length+r.length) 8) (l.length+r.length) (bw l ++ bw r)):=own2;clear own2 own1;go_wp2_with fail
 have own2:=HO2.out;obtain ⟨hx2,⟨e2,_⟩ | ⟨gg,cap2,cur2,e2,hg2,hh2,hn2,hm2,hs2,ht2⟩⟩:=own2
 ·cases e2
 injection e2 with e2a e2b e2c
 have e2a:=NU e2a;injection e2a with e2a
 subst e2a e2c;generalize w2.setCell ⟨rv,0,none⟩ (.slice (some ⟨R,0,none⟩) (l.length+r.length) 8)=w3 at *;have hR3:w3.heap[R]? = some (.cells cur2 24 (0,0)):=(k3 R (by omega)).trans hh2;have own3:w3.ownsRow R 24 3 (.slice (some ⟨R,0,none⟩) (l.length+r.length) 8) (l.length+r.length) (bw (l ++ r)):=⟨by rw [bQ]; exact hx2,.inr ⟨R,8,cur2,rfl,Nj _,hR3,hn2,hm2,hs2,by rw [bQ]; exact ht2⟩⟩
 obtain ⟨a3,c3',e3,sl3,_,_⟩:=lV own3 (by simp);injection e3 with e3a e3b e3c
 subst e3a e3c;have kk:∀ k,k<W.heap.size→k≠R→k≠rv→w3.heap[k]? = W.heap[k]?:=fun k hk h1 h2=>(k3 k h2).trans (k2 k hk h1)
 have I3:cP wp R rv w3:=⟨o3.1.trans (o2.1.trans hI.os),o3.2.1.trans (o2.2.1.trans hI.tape),o3.2.2.trans (o2.2.2.trans hI.output),by have:=hI.size; omega,fun k hk h1 h2=>(kk k (by have:=hI.size; omega) h1 h2).trans (hI.block k hk h1 h2),⟨_,cv3⟩,fv3,cur2,hR3,by omega⟩
 have S3:ax (rv+1) W w3:=⟨by omega,fun k h1 h2=>kk k h2 (by omega) (by omega)⟩
 have dc:ax lo wc w3:=⟨by have:=hcp.1; have:=hI.size; omega,fun k h1 h2=>by
  rw [(I3.below hn).block k (by omega)];exact hcp.2 k h1 h2⟩
 have d:=HD.out (l ++ r) (some ⟨R,0,none⟩) 8 w3 hf sl3 dc;rw [Nx,HT.out] at d;refine d.mono ?_;rintro e w4 ⟨rfl,hb4⟩;have FI:Hid (cP wp R rv w4):=I3.dX hn (by have:=I3.size; omega) hb4;have FS:Hid (ax (rv+1) W w4):=S3.trans (ax.of hb4);clear g1 g2 r2 k1 k2 kk hh hI hx2 ht2 hR3 hh2 own3 d k3 e2b e3b o2 o3 sl3 dc z1 z2 z3 I3 S3 cv fv ch cv3 fv3 ch3 HO2 hn2 hm2 hs2 d0 d1 hb0 c3 hc2 hfz hj0 hj1 hj2 hi;dsimp only;go_wp2
 go_ret;exact ⟨rfl,FI.out,FS.out⟩
theorem BA (cols:List Int) (lo:Nat) (x:Ex) (u:Value) (b:Nat) (ra:Option Addr) (rc:Nat) (row:List Vl) (n:Int) (W:World) (hb:b<W.heap.size) (h0:W.cell? ⟨b,0,none⟩=some u) (hA:jU cols lo u x W) (hf:cL cols row) (hs:aM W ra row) :
  Calls Tryz.prog 120 #[.agg #[.slice ra row.length rc,.int .i64 n],.pointer (some ⟨b,0,none⟩)] W fun e w'=>e = .returned (.bool (bF x row))∧Below W.heap.size W w':=by
 obtain ⟨g,cb,rfl,eg,d⟩:=hA;have hal:=aa W (.cells #[.slice ra row.length rc,.int .i64 n] 58);have d:=d row ra rc _ hf (hs.next hal) (ax.of hal);have c0:=(hal.cell (p:=⟨b,0,none⟩) hb).trans h0;generalize bF x row=t at *;go_enter Tryz.func120,Tryz.ntmps120;go_wp2_with (go_at_fn g; refine d.mono ?_; rintro e w1 ⟨rfl,hb1⟩)
 go_ret;exact ⟨rfl,chain hal hb1⟩
theorem LG {cols:List Int} {z:List Zp} (h:eU cols z):∀ x ∈ z,x.1.length≤8:=fun x hx=>by
 have:=(h.fit x hx).len
 have:=h.iu
 omega
theorem nm {cols:List Int} {z:List Zp} (h:eU cols z):∀ x ∈ z,hJ x.2=true:=fun x hx=>(((bD z).1 h.set).2.1 x hx).2.2
theorem iD {cols:List Int} {z:List Zp} (h:eU cols z):z.length≤400:=((bD z).1 h.set).1
theorem uA (cols:List Int) (x:Ex) (ca:Option Addr) (ccap:Nat) (xa:Option Addr) (xcap:Nat) (a:Option Addr) (cap:Nat) (l:List Zp) (w:World) (hc:bc w.heap.size w ca cols) (hk:bd w.heap.size w xa x.ks) (h:aL w a l) :
  Calls Tryz.prog 94 #[.slice ca cols.length ccap,lC x.k x.v x.c xa x.ks.length xcap,.slice a l.length cap] w fun e w'=>∃ v,e = .returned (.tuple #[v,.int .i64 (eV cols x l)])∧bZ w.heap.size w' v (iq cols x l)∧Below w.heap.size w w':=by
 have hal:=aa w (.cells (ig x xa xcap) 27);have hk':=(bd.next hal (Nj _) hk).up hal.size;have hc':=(hc.next hal (Nj _)).up hal.size;by_cases h1:bO cols x=0
 ·have con:=vP cols x ca ccap xa xcap _ hk' hc' h1;have H1:Hid (bO cols x=0):=h1;clear h1;have HE:Hid (eV cols x l=if bz cols l≠0 then bz cols l else 0):=by
   show eV cols x l=_;unfold eV;rw [H1.out,if_neg (by simp)]
  generalize hfz:iq cols x l=fz;generalize hfe:eV cols x l=fe;have HZ:Hid (iq cols x l=fz):=hfz;have HF:Hid (eV cols x l=fe):=hfe;clear hfz hfe;go_enter Tryz.func94,Tryz.ntmps94;go_wp2_with fail
  generalize w.alloc (.cells (ig x xa xcap) 27)=w1 at *;refine con.mono ?_;rintro e w2 ⟨u,rfl,hC2,hb2⟩;clear con;have hA:=chain hal hb2;have hC2:=hC2.down hal.size;obtain ⟨ug,ucb,rfl⟩:∃ g cb,u = .func (.func g) #[] cb:=by obtain ⟨g,cb,e,_⟩:=hC2; exact ⟨g,cb,e⟩
  have hal3:=aa w2 (.cells #[.func (.func ug) #[] ucb] 139);have hA3:=chain hA hal3;have con:=gQ cols ca ccap a cap l _ ((hc.next hA3 (Nj _)).up hA3.size) (h.next hA3);have c3:(w2.alloc (.cells #[.func (.func ug) #[] ucb] 139)).cell? ⟨w2.heap.size,0,none⟩=some (.func (.func ug) #[] ucb):=by simp
  have hC3:=hC2.next (ax.of hal3);have z3:(w2.alloc (.cells #[.func (.func ug) #[] ucb] 139)).heap.size=w2.heap.size+1:=by simp
  clear hk' hc';by_cases h2:bz cols l=0
  ·have hz:=(dK cols l).1 h2;rw [h2] at con;have H2:Hid (bz cols l=0):=h2;clear h2;have e0:fe=0:=by rw [← HF.out,HE.out,H2.out]; rfl
   have e1:fz=canon (lK x l):=by rw [← HZ.out]; unfold iq; rw [if_pos (by rw [HE.out,H2.out]; rfl)]
   have HN:Hid (fe=0):=e0;have HV:Hid (fz=canon (lK x l)):=e1;clear e0 e1;go_wp2_with fail
   generalize w2.alloc (.cells #[.func (.func ug) #[] ucb] 139)=w3 at *;refine con.mono ?_;rintro e w4 ⟨rfl,hb4⟩;clear con;have hA4:=chain hA3 hb4;have c4:=(hb4.cell (p:=⟨w2.heap.size,0,none⟩) (by show w2.heap.size<_; omega)).trans c3;have hC4:=hC3.next (ax.of hb4);have zs4:=h.next hA4;have z4:=hb4.size;have hl4:=iD hz;go_wp2_with fail
   refine (oS 120 #[.pointer (some ⟨w2.heap.size,0,none⟩)] (fun p=>bF x p.1) a cap l w4 w4 (fun W=>Below w4.heap.size w4 W) zs4 (by omega) (enters_of Tryz.func120 (by kernel_rfl) rfl) (Nk _ _) (fun _ h=>h) (fun _ _ h k=>h.trans k) ?_).mono ?_
   ·intro y hy ra rc W hW hs _;refine (BA cols w.heap.size x _ w2.heap.size ra rc y.1 y.2 W (by have:=hW.size; omega) ((hW.cell (p:=⟨w2.heap.size,0,none⟩) (by show w2.heap.size<_; omega)).trans c4) (hC4.next (ax.of hW)) (hz.fit y hy) (hs.next hW)).mono ?_;rintro e w' ⟨rfl,hb⟩;exact ⟨rfl,chain hW hb,ax.of hb⟩
   rintro e w5 ⟨v5,rfl,O5,hb5,_⟩;obtain ⟨a5,c5,rfl,zs5,_⟩:=O5.zs hb5;have hA5:=chain hA4 hb5;have hfl:l.filter (fun p=>bF x p.1)=lK x l:=rfl;rw [hfl] at zs5;have hsub:∀ y ∈ lK x l,y ∈ l:=fun y hy=>(List.mem_filter.1 hy).1
   have hfn:(lK x l).length≤400:=Nw (Oi _ _) hl4;have hg0:aH (lK x l)=0:=pW hz.set _;have con:=ep a5 c5 (lK x l) w5 zs5 (by omega) (fun y hy=>ov (nm hz y (hsub y hy))) (fun y hy=>LG hz y (hsub y hy));have hgz:bg (lK x l)=fz:=by rw [HV.out]; unfold bg; rw [if_pos hg0]
   rw [hg0,hgz] at con;clear hg0 hgz hC2 hC3 hC4 c3 c4 O5;rw [hfl];go_wp2_with fail
   refine con.mono ?_;rintro e w6 ⟨v6,rfl,O6,hb6⟩;have O6':=O6.mono hA5.size;obtain ⟨a6,c6,rfl,_⟩:=O6.zs;go_wp2
   exact Nl (v:=.tuple #[.slice a6 fz.length c6,.int .i64 0]) (by simp [results,Tryz.results94,go_sem]) rfl ⟨_,by rw [HN.out],O6',chain hA5 hb6⟩
  ·have e0:fe=bz cols l:=by rw [← HF.out,HE.out,if_pos h2]
   have e1:fz = []:=by rw [← HZ.out]; unfold iq; rw [HE.out,if_pos h2,if_neg h2]
   have HN:Hid (fe=bz cols l):=e0;have HV:Hid (fz = []):=e1;have hne:(bz cols l != 0)=true:=by simpa using h2
   clear e0 e1;generalize bz cols l=t at *;go_wp2_with fail
   generalize w2.alloc (.cells #[.func (.func ug) #[] ucb] 139)=w3 at *;refine con.mono ?_;rintro e w4 ⟨rfl,hb4⟩;clear con;go_wp2
   exact Nl (v:=.tuple #[.slice none 0 0,.int .i64 t]) (by simp [results,Tryz.results94,go_sem]) rfl ⟨_,by rw [HN.out],by rw [HV.out]; exact dM _ _,chain hA3 hb4⟩
 ·have con:=tm cols x ca ccap xa xcap _ hk' hc' h1;have e0:eV cols x l=bO cols x:=by unfold eV; rw [if_pos h1]
  have e1:iq cols x l = []:=by unfold iq; rw [e0,if_neg h1]
  rw [e0,e1];have hne:(bO cols x != 0)=true:=by simpa using h1
  generalize bO cols x=t at *;clear e0 e1;go_enter Tryz.func94,Tryz.ntmps94;go_wp2_with fail
  generalize w.alloc (.cells (ig x xa xcap) 27)=w1 at *;refine con.mono ?_;rintro e w2 ⟨rfl,hb2⟩;have hA:=chain hal hb2;have hal3:=aa w2 (.cells #[.nilFunc] 139);clear con;go_wp2
  exact Nl (v:=.tuple #[.slice none 0 0,.int .i64 t]) (by simp [results,Tryz.results94,go_sem]) rfl ⟨_,rfl,dM _ _,chain hA hal3⟩
def fl (l l':List Zp):Nat→List Zp
 | 0=>[]
 | 1=>l
 | _=>l ++ l'
structure xO (w:World) (B:Nat) (l l':List Zp):Prop where
 lt:B<w.heap.size
 at_:∀ k,k<2→∃ a cap ls,w.cell? ⟨B,k,none⟩=some (.slice a ls.length cap)∧aL w a ls∧(a=none→cap=0)∧fl l l' (k+1)=fl l l' k ++ ls
theorem xO.next {w w1:World} {B:Nat} {l l':List Zp} (h:xO w B l l') (hb:Below w.heap.size w w1):xO w1 B l l' :=
 ⟨Nn h.lt hb.size,fun k hk=>by
  obtain ⟨a,cap,ls,h1,h2,h3,h4⟩:=h.at_ k hk
  exact ⟨a,cap,ls,(hb.cell (p:=⟨B,k,none⟩) h.lt).trans h1,h2.next hb,h3,h4⟩⟩
theorem pI (l l':List Zp) (k:Nat):(fl l l' k).length≤l.length+l'.length:=by
 match k with
 | 0=>simp [fl]
 | 1=>simp [fl]
 | n+2=>simp [fl]
theorem vI (B:Nat) (l l':List Zp) (w:World) (h:xO w B l l') (hl:l.length+l'.length≤200000) :
  Calls Tryz.prog 75 #[.slice (some ⟨B,0,none⟩) 2 2] w fun e w'=>∃ a cap,e = .returned (.slice a (l ++ l').length cap)∧aL w' a (l ++ l')∧(a=none→cap=0)∧Below w.heap.size w w':=by
 obtain ⟨i0,hi,hj0,hj1,hj2⟩:=info_parts Tryz.gX;go_enter Tryz.func75,Tryz.ntmps75;go_wp2_with fail
 go_loopw [3,11] (fun sz i wr=>∃ k:Nat,k≤2∧i = .int .i64 k∧sz = .int .i64 ((fl l l' k).length:Int)∧wr=w) (fun _ i _=>2 - (intOf i).toNat)
 case atStart=>exact ⟨0,by omega,rfl,rfl,rfl⟩
 case round =>
  obtain ⟨k,hk,rfl,rfl,rfl⟩:=hrel;have hcl:=pI l l' k;by_cases hlt:k<2
  ·obtain ⟨a,cap,ls,c0,zs,hnil,hcat⟩:=h.at_ k hlt;have hcl2:=pI l l' (k+1);rw [hcat,Nx] at hcl2;have HCat:Hid (fl l l' (k+1)=fl l l' k ++ ls):=hcat;clear hcat;generalize hq:fl l l' k=q at *;have HQ:Hid (fl l l' k=q):=hq;clear hq;go_wp2
   go_roundw
   case rel=>exact ⟨k+1,by omega,by go_num,by rw [HCat.out,Nx]; go_num,by first | rfl | trivial⟩
   case measure=>simp [intOf]; omega
  ·have e:k=2:=by omega
   subst e;have el:((fl l l' 2).length:Int)=((l ++ l').length:Nat):=rfl;have gc:=J9 (l.length+l'.length) (by omega) wr;rw [OM] at gc;go_wp2_with fail
   refine gc.mono ?_;clear gc el;rintro e w1 ⟨v,rfl,ho,hb1⟩;obtain ⟨a1,c1,rfl⟩:=my ho;have HS0:mR wr w1 (.slice a1 0 c1) (fl l l' 0):=⟨[],ho,rfl,fun i hi=>by simp [fl] at hi⟩
   clear ho;go_wp2_with fail
   generalize hw0:wr=w0 at *;have HW0:Hid (wr=w0):=hw0;clear hw0;go_loopw [6,27] (fun v i ws=>∃ k:Nat,k≤2∧i = .int .i64 k∧mR w0 ws v (fl l l' k)∧Below w0.heap.size w0 ws) (fun _ i _=>2 - (intOf i).toNat)
   case atStart=>exact ⟨0,by omega,rfl,HS0,hb1⟩
   case round =>
    clear HS0;obtain ⟨k,hk,rfl,HS,hb⟩:=hrel;have hz:=hb.size;obtain ⟨xs,ho,he⟩:=HS;by_cases hlt:k<2
    ·obtain ⟨a,cap,ls,c0,zs,hnil,hcat⟩:=h.at_ k hlt;have hcl2:=pI l l' (k+1);rw [hcat,Nx] at hcl2;have HCat:Hid (fl l l' (k+1)=fl l l' k ++ ls):=hcat;clear hcat;obtain ⟨news,en,e1,en0,ec⟩:=Lf zs;have c0':=(hb.cell (p:=⟨B,k,none⟩) h.lt).trans c0;clear c0;generalize fl l l' k=q at *;obtain ⟨a3,c3,rfl⟩:=my ho;rcases a with _ | ad
     ·have hls:=en0 rfl;have hcp:=hnil rfl;subst hls hcp;go_wp2_with (at_builtin; refine wpList_append_own_none rfl _ _ 34 rfl w0.heap.size 58 i0 2 Tryz.underlying34 hi _ _ _ rfl ho rfl ?_)
      go_roundw
      case rel=>exact ⟨k+1,by omega,by go_num,by rw [HCat.out,OG]; exact ⟨xs,ho,he⟩,hb⟩
      case measure=>simp [intOf]; omega
     ·have ec':∀ j u,news[j]? = some u→wr.cell? (ad.add j)=some u:=fun j u hj=>by
       have:=ec ad rfl j u hj;rw [hb.cell (Nt _ _ this)];exact this
      go_wp2_with (at_builtin; refine NZ _ rfl _ _ 34 rfl w0.heap.size 58 i0 _ 2 32 Tryz.underlying34 hi hj0 hj1 hj2 rfl (by decide) _ _ _ rfl ho ad ls.length cap news rfl en.1 ec' e1 (by unfold maxLen; omega) (by omega) (by omega) ?_)
      intro v' w5 ho5 hg5 _;have hb5:Below w0.heap.size w0 w5:=hb.grown hg5 hz (fun q hq=>(ho.lt q hq).1);clear hg5 ho;go_wp2
      go_roundw
      case rel=>exact ⟨k+1,by omega,by go_num,by rw [HCat.out]; exact ⟨_,by simpa using ho5,xD he en⟩,hb5⟩
      case measure=>simp [intOf]; omega
    ·have e:k=2:=by omega
     subst e;obtain ⟨a3,c3,e3,z3⟩:=wg ho rfl he hb;have hn3:a3=none→c3=0:=by
      intro e;subst e;obtain ⟨_,⟨e4,_⟩ | ⟨g,c1,cur,e4,_⟩⟩:=ho
      ·rw [e3] at e4; injection e4
      ·rw [e3] at e4; injection e4 with e4; cases e4
     subst e3;go_wp2
     go_ret;exact ⟨a3,c3,rfl,z3,hn3,by rw [HW0.out]; exact hb⟩
theorem bZ.xK {base:Nat} {W:World} {v:Value} {l:List Zp} (h:bZ base W v l):∃ a cap,v = .slice a l.length cap∧aL W a l∧(a=none→cap=0):=by
 obtain ⟨a,cap,rfl,z⟩:=h.zs;refine ⟨a,cap,rfl,z,?_⟩;intro e;subst e;obtain ⟨xs,⟨_,⟨e4,_⟩ | ⟨g,c1,cur,e4,_⟩⟩,_⟩:=h
 ·injection e4
 ·injection e4 with e4; cases e4
def cY (t:Int) (w:Int):Int:=t*w
def bh (t:Int) (a b:List Zp):Int:=if aF a=0 then (if aF b=0 then aH (a ++ aR (cY t) b) else aF b) else aF a
def cM (t:Int) (a b:List Zp):List Zp:=if bh t a b=0 then canon (a ++ aR (cY t) b) else []
theorem MO:∀ args w,(callFunc 74 args).run Tryz.prog w = .ok (.enter 74 args) w:=enters_of Tryz.func74 (by kernel_rfl) rfl
theorem JE (w:World) (B:Nat) (t:Int) (hB:w.cell? ⟨B,0,none⟩=some (.int .i64 t)) (ht:t=1∨t = -1):vx 74 #[.pointer (some ⟨B,0,none⟩)] (cY t) w:=by
 intro x W hx hb;have hx:=(gr _).1 hx;have hc:=(hb.cell (p:=⟨B,0,none⟩) (Nt _ _ hB)).trans hB;show Calls Tryz.prog 74 #[.int .i64 x,.pointer (some ⟨B,0,none⟩)] W _;have e:cY t x=t*x:=rfl;rw [e];rcases ht with rfl | rfl
 ·go_enter Tryz.func74,Tryz.ntmps74;go_wp2
  go_ret;exact ⟨aA (by omega),Nk _ _⟩
 ·go_enter Tryz.func74,Tryz.ntmps74;go_wp2
  go_ret;exact ⟨aA (by omega),Nk _ _⟩
theorem EH (t:Int) (ht:t=1∨t = -1) (x:Int) (h:hJ x=true):hJ (cY t x)=true:=by
 rw [gr] at *;unfold cY;rcases ht with rfl | rfl <;> omega
theorem oh (t:Int) (ht:t=1∨t = -1) (a b:Option Addr) (ca cb:Nat) (l l':List Zp) (w:World) (h:aL w a l) (h':aL w b l') (hn:a=none→ca=0) :
  Calls Tryz.prog 45 #[.slice a l.length ca,.slice b l'.length cb,.int .i64 t] w fun e w'=>∃ v,e = .returned (.tuple #[v,.int .i64 (bh t l l')])∧bZ w.heap.size w' v (cM t l l')∧Below w.heap.size w w':=by
 have bA:Below w.heap.size w ((w.alloc (.cells #[.int .i64 t] 2)).alloc (.cells #[.slice a l.length ca,.slice b l'.length cb] 34)):=((Nk _ _).alloc (Nj _) _).alloc (by simp) _;have cA0:((w.alloc (.cells #[.int .i64 t] 2)).alloc (.cells #[.slice a l.length ca,.slice b l'.length cb] 34)).cell? ⟨w.heap.size,0,none⟩=some (.int .i64 t):=by simp
 have cB0:((w.alloc (.cells #[.int .i64 t] 2)).alloc (.cells #[.slice a l.length ca,.slice b l'.length cb] 34)).cell? ⟨w.heap.size+1,0,none⟩=some (.slice a l.length ca):=by simp
 have cB1:((w.alloc (.cells #[.int .i64 t] 2)).alloc (.cells #[.slice a l.length ca,.slice b l'.length cb] 34)).cell? ⟨w.heap.size+1,1,none⟩=some (.slice b l'.length cb):=by simp
 have zA:=h.next bA;have zB:=h'.next bA;have hzA:w.heap.size+2≤((w.alloc (.cells #[.int .i64 t] 2)).alloc (.cells #[.slice a l.length ca,.slice b l'.length cb] 34)).heap.size:=by simp
 by_cases hw:aF l=0
 ·have Hw:Hid (aF l=0):=hw;by_cases hw':aF l'=0
  ·have Hw':Hid (aF l'=0):=hw';have hok:=(bD l).1 hw;have hok':=(bD l').1 hw';have eE:bh t l l'=aH (l ++ aR (cY t) l'):=by simp [bh,hw,hw']
   have eZ:cM t l l'=bg (l ++ aR (cY t) l'):=by unfold cM bg; rw [eE]
   rw [eE,eZ];have hlen:=iV (cY t) l';have hin:∀ x ∈ l ++ aR (cY t) l',hJ x.2=true∧x.1.length≤8:=by
    intro x hx;rcases List.mem_append.1 hx with hx | hx
    ·exact ⟨(hok.2.1 x hx).2.2,((cO _).1 (hok.2.1 x hx).1).1⟩
    ·obtain ⟨y,hy,rfl,_⟩:=eF _ _ x hx;exact ⟨EH t ht _ (hok'.2.1 y hy).2.2,by simp only [iE]; exact ((cO _).1 (hok'.2.1 y hy).1).1⟩
   have HIn:Hid (∀ x ∈ l ++ aR (cY t) l',hJ x.2=true∧x.1.length≤8):=hin;clear hw hw' eE eZ hin;go_enter Tryz.func45,Tryz.ntmps45;go_wp2_with fail
   generalize ((w.alloc (.cells #[.int .i64 t] 2)).alloc (.cells #[.slice a l.length ca,.slice b l'.length cb] 34))=wA at *;refine wp_loop_rounds 3 ?_;rw [OZ];go_wp2_with fail
   refine (fa _ _ _ _ zA).mono ?_;rintro e w1 ⟨rfl,hb1⟩;rw [Hw.out];have cB1':=(hb1.cell (p:=⟨w.heap.size+1,1,none⟩) (Nt _ _ cB1)).trans cB1;have cA0':=(hb1.cell (p:=⟨w.heap.size,0,none⟩) (Nt _ _ cA0)).trans cA0;go_wp2_with fail
   rw [OZ];go_wp2_with fail
   refine (fa _ _ _ _ (zB.next hb1)).mono ?_;rintro e w2 ⟨rfl,hb2⟩;rw [Hw'.out];have cA2:=(hb2.cell (p:=⟨w.heap.size,0,none⟩) (Nt _ _ cA0')).trans cA0';go_wp2_with fail
   rw [OZ];go_wp2_with fail
   refine (nC 74 #[.pointer (some ⟨w.heap.size,0,none⟩)] (cY t) b cb l' w2 ((zB.next hb1).next hb2) MO (JE w2 w.heap.size t cA2 ht) (by omega) (fun x hx=>((cO _).1 (hok'.2.1 x hx).1).1) (fun x hx=>(hok'.2.1 x hx).2.2)).mono ?_;rintro e w3 ⟨v3,rfl,O3,hb3⟩;obtain ⟨a3,c3,rfl,z3,n3⟩:=O3.xK;have z1:=((zA.next hb1).next hb2).next hb3;have b3:=bS (bS (bS bA hb1) hb2) hb3;have b4:=aa w3 (.cells #[.slice a l.length ca,.slice a3 (aR (cY t) l').length c3] 34)
   have pr:xO (w3.alloc (.cells #[.slice a l.length ca,.slice a3 (aR (cY t) l').length c3] 34)) w3.heap.size l (aR (cY t) l'):=by
    refine ⟨by simp,fun k hk=>?_⟩
    match k,hk with
    | 0,_=>exact ⟨a,ca,l,by simp,z1.next b4,hn,by simp [fl]⟩
    | 1,_=>exact ⟨a3,c3,_,by simp,z3.next b4,n3,by simp [fl]⟩
   have cc:=vI w3.heap.size l (aR (cY t) l') _ pr (by omega);clear O3 pr hb1 hb2 hb3 cA0 cB0 cB1 cA0' cB1' cA2 z1 z3;generalize hm:aR (cY t) l'=m at *;have HM:Hid (aR (cY t) l'=m):=hm;clear hm;go_wp2_with fail
   refine cc.mono ?_;clear cc;rintro e w5 ⟨a5,c5,rfl,z5,n5,hb5⟩;have hql:(l ++ m).length≤2000:=by simp; omega
   generalize hq:l ++ m=qq at *;have HQ:Hid (l ++ m=qq):=hq;clear hq;go_wp2_with fail
   refine (ep _ _ _ _ z5 (by omega) (fun x hx=>ov (HIn.out x hx).1) (fun x hx=>(HIn.out x hx).2)).mono ?_;rintro e w6 ⟨v6,rfl,O6,hb6⟩;have bb:=bS (bS (bS b3 b4) hb5) hb6;have O6':=O6.mono (Nw (Nw b3.size b4.size) hb5.size);obtain ⟨a6,c6,rfl,z6⟩:=O6.zs;go_wp2
   exact Nl (v:=.tuple #[.slice a6 (bg qq).length c6,.int .i64 (aH qq)]) (by simp [results,Tryz.results45,go_sem]) rfl ⟨_,by rw [HM.out,HQ.out],by rw [HM.out,HQ.out]; exact O6',bb⟩
  ·have eE:bh t l l'=aF l':=by simp [bh,hw,hw']
   have eZ:cM t l l' = []:=by simp [cM,eE,hw']
   rw [eE,eZ];have hne:(aF l' != 0)=true:=by simpa using hw'
   clear hw hw' eE eZ;go_enter Tryz.func45,Tryz.ntmps45;go_wp2_with fail
   generalize ((w.alloc (.cells #[.int .i64 t] 2)).alloc (.cells #[.slice a l.length ca,.slice b l'.length cb] 34))=wA at *;refine wp_loop_rounds 3 ?_;rw [OZ];go_wp2_with fail
   refine (fa _ _ _ _ zA).mono ?_;rintro e w1 ⟨rfl,hb1⟩;rw [Hw.out];have cB1':=(hb1.cell (p:=⟨w.heap.size+1,1,none⟩) (Nt _ _ cB1)).trans cB1;go_wp2_with fail
   rw [OZ];go_wp2_with fail
   refine (fa _ _ _ _ (zB.next hb1)).mono ?_;rintro e w2 ⟨rfl,hb2⟩;go_wp2
   exact Nl (v:=.tuple #[.slice none 0 0,.int .i64 (aF l')]) (by simp [results,Tryz.results45,go_sem]) rfl ⟨_,rfl,dM _ _,bS (bS bA hb1) hb2⟩
 ·have eE:bh t l l'=aF l:=by simp [bh,hw]
  have eZ:cM t l l' = []:=by simp [cM,eE,hw]
  rw [eE,eZ];have hne:(aF l != 0)=true:=by simpa using hw
  clear hw eE eZ;go_enter Tryz.func45,Tryz.ntmps45;go_wp2_with fail
  generalize ((w.alloc (.cells #[.int .i64 t] 2)).alloc (.cells #[.slice a l.length ca,.slice b l'.length cb] 34))=wA at *;refine wp_loop_rounds 3 ?_;rw [OZ];go_wp2_with fail
  refine (fa _ _ _ _ zA).mono ?_;rintro e w1 ⟨rfl,hb1⟩;go_wp2
  exact Nl (v:=.tuple #[.slice none 0 0,.int .i64 (aF l)]) (by simp [results,Tryz.results45,go_sem]) rfl ⟨_,rfl,dM _ _,bS bA hb1⟩
theorem HX (a b:Option Addr) (ca cb:Nat) (l l':List Zp) (w:World) (h:aL w a l) (h':aL w b l') (hn:a=none→ca=0) :
  Calls Tryz.prog 20 #[.slice a l.length ca,.slice b l'.length cb] w fun e w'=>∃ v,e = .returned (.tuple #[v,.int .i64 (bh 1 l l')])∧bZ w.heap.size w' v (cM 1 l l')∧Below w.heap.size w w':=by
 go_enter Tryz.func20,Tryz.ntmps20;go_wp2_with fail
 refine (oh 1 (by omega) a b ca cb l l' w h h' hn).mono ?_;rintro e w1 ⟨v,rfl,O1,hb1⟩;obtain ⟨a1,c1,rfl,z1⟩:=O1.zs;go_wp2
 exact Nl (v:=.tuple #[.slice a1 (cM 1 l l').length c1,.int .i64 (bh 1 l l')]) (by simp [results,Tryz.results20,go_sem]) rfl ⟨_,rfl,O1,hb1⟩
theorem Hl (a b:Option Addr) (ca cb:Nat) (l l':List Zp) (w:World) (h:aL w a l) (h':aL w b l') (hn:a=none→ca=0) :
  Calls Tryz.prog 56 #[.slice a l.length ca,.slice b l'.length cb] w fun e w'=>∃ v,e = .returned (.tuple #[v,.int .i64 (bh (-1) l l')])∧bZ w.heap.size w' v (cM (-1) l l')∧Below w.heap.size w w':=by
 go_enter Tryz.func56,Tryz.ntmps56;go_wp2_with fail
 refine (oh (-1) (by omega) a b ca cb l l' w h h' hn).mono ?_;rintro e w1 ⟨v,rfl,O1,hb1⟩;obtain ⟨a1,c1,rfl,z1⟩:=O1.zs;go_wp2
 exact Nl (v:=.tuple #[.slice a1 (cM (-1) l l').length c1,.int .i64 (bh (-1) l l')]) (by simp [results,Tryz.results56,go_sem]) rfl ⟨_,rfl,O1,hb1⟩
end Go.Proofs.YtohjlfhmnmcndaaGreat
namespace Go.Proofs.YtohjlfhmnmcndaaGreat
set_option maxRecDepth 100000
set_option maxHeartbeats 16000000
theorem rm {s a b:List Zp} (e:∀ k,wt s k=wt a k+wt b k) {g:List Vl→Int} (hg:qC g):fK g s=fK g a+fK g b:=by
 rw [← Bs];exact JU (fun k=>by rw [e,dG]) hg
def gy (n:Nat):List Vl:=List.replicate n (1,0,⟨#[]⟩)
def cS (x:Ex) (p:Zp) (b:List Zp):List Zp:=(b.filter fun q=>bF x (p.1 ++ q.1)).map fun q=>(p.1 ++ q.1,p.2*q.2)
def bH (x:Ex) (a b:List Zp):List Zp:=a.flatMap fun p=>cS x p b
def lg (x:Ex) (b:List Zp) (row:List Vl):Bool:=b.any fun q=>decide (0<q.2) && bF x (row ++ q.1)
def jk (x:Ex) (a b:List Zp):List Zp:=a.filter fun p=>lg x b p.1
def ir (x:Ex) (a b:List Zp):List Zp:=a.filter fun p=>!lg x b p.1
def gJ (n:Nat) (z:List Zp):List Zp:=z.map fun p=>(p.1 ++ gy n,p.2)
def pR (x:Ex) (n:Nat) (a b:List Zp):List Zp:=bH x a b ++ gJ n (ir x a b)
def jH (l r:List Int) (x:Ex) (a b:List Zp):Int:=if 8<l.length+r.length then 5 else if bO (l ++ r) x≠0 then bO (l ++ r) x else if bz l a≠0 then bz l a else bz r b
structure ow (l r:List Int) (x:Ex) (a b:List Zp):Prop where
 len:l.length+r.length≤8
 cond:bO (l ++ r) x=0
 left:eU l a
 right:eU r b
theorem wi (l r:List Int) (x:Ex) (a b:List Zp):jH l r x a b=0↔ow l r x a b:=by
 unfold jH;by_cases h8:8<l.length+r.length
 ·rw [if_pos h8];constructor
  ·intro h; omega
  ·intro h; have:=h.len; omega
 ·rw [if_neg h8];by_cases h1:bO (l ++ r) x=0
  ·rw [if_neg (by simpa using h1)];by_cases h2:bz l a=0
   ·rw [if_neg (by simpa using h2),dK];exact ⟨fun h=>⟨by omega,h1,(dK _ _).1 h2,h⟩,fun h=>h.right⟩
   ·rw [if_pos h2];exact ⟨fun h=>absurd h h2,fun h=>absurd ((dK _ _).2 h.left) h2⟩
  ·rw [if_pos h1];exact ⟨fun h=>absurd h h1,fun h=>absurd h.cond h1⟩
def fP (what:Nat) (n:Nat) (x:Ex) (a b:List Zp):List Zp:=if what=0 then bH x a b else if what=1 then jk x a b else if what=2 then ir x a b else pR x n a b
def bY (what:Nat) (l r:List Int) (x:Ex) (a b:List Zp):Int:=if jH l r x a b≠0 then jH l r x a b else aH (fP what r.length x a b)
def dg (what:Nat) (l r:List Int) (x:Ex) (a b:List Zp):List Zp:=if bY what l r x a b=0 then canon (fP what r.length x a b) else []
theorem iW {what:Nat} {l r:List Int} {x:Ex} {a b:List Zp} (h:bY what l r x a b=0):ow l r x a b∧aH (fP what r.length x a b)=0:=by
 unfold bY at h;by_cases h1:jH l r x a b=0
 ·rw [if_neg (by simpa using h1)] at h;exact ⟨(wi ..).1 h1,h⟩
 ·rw [if_pos h1] at h; exact absurd h h1
theorem tN {l r:List Int} {u v:List Vl} (h:cL l u) (k:cL r v):cL (l ++ r) (u ++ v):=by
 have h1:=h.len;have k1:=k.len;refine ⟨by simp [h1,k1],fun i hi=>?_⟩;by_cases c:i<u.length
 ·rw [Ny c];have:=h.one i c;have e:(l ++ r).getD i 0=l.getD i 0:=by simp only [List.getD]; rw [NC (by omega)]
  rwa [e]
 ·have hi':i - u.length<v.length:=by simp at hi; omega
  rw [Ob (by omega)];have:=k.one (i - u.length) hi';have e:(l ++ r).getD i 0=r.getD (i - u.length) 0:=by simp only [List.getD]; rw [NG (by omega),h1]
  rwa [e]
theorem EV {cols:List Int} {row:List Vl} (h:cL cols row):gC row=true:=by
 unfold gC;rw [OY];intro v hv;obtain ⟨i,hi,rfl⟩:=Ov hv
 simpa [aY] using (h.one i hi).1
theorem IG {cols:List Int} {row:List Vl} (h:cL cols row) (h8:cols.length≤8):aJ row=0:=(cO row).2 ⟨by have:=h.len; omega,EV h⟩
theorem xA (x:Ex) (p:Zp) (q:List Vl) (b:List Zp):wt (cS x p b) q=fK (fun s=>if bF x (p.1 ++ s)=true∧aG (p.1 ++ s) q=0 then 1 else 0) b*p.2:=by
 induction b with
 | nil=>simp [cS,wt,fK]
 | cons y t ih =>
  unfold cS at ih ⊢;rw [fK,Int.add_mul,← ih,List.filter_cons];by_cases h:bF x (p.1 ++ y.1)=true
  ·rw [if_pos h,NO,wt];by_cases c:aG (p.1 ++ y.1) q=0
   ·simp only [c,if_true,h,and_self];rw [Int.one_mul,Int.mul_comm]
   ·simp [c]
  ·rw [if_neg h];simp [h]
theorem gf (x:Ex) (q:List Vl) (a b:List Zp):wt (bH x a b) q=fK (fun r=>fK (fun s=>if bF x (r ++ s)=true∧aG (r ++ s) q=0 then 1 else 0) b) a:=by
 induction a with
 | nil=>rfl
 | cons p t ih =>
  unfold bH at ih ⊢;rw [List.flatMap_cons,dG,fK,ih,xA]
theorem kt (x:Ex) (q:List Vl) (r:List Vl):qC (fun s=>if bF x (r ++ s)=true∧aG (r ++ s) q=0 then (1:Int) else 0):=fun a b h=>by
 have e:=jz (dF r) h
 simp only [kC e,fh e]
theorem je (x:Ex) (q:List Vl) (b:List Zp):qC (fun r=>fK (fun s=>if bF x (r ++ s)=true∧aG (r ++ s) q=0 then (1:Int) else 0) b):=fun r r' h=>by
 refine vF fun y _=>?_
 have e:=jz h (dF y.1)
 simp only [kC e,fh e]
theorem uB {row row':List Vl} (h:aG row row'=0) (x:Ex) (b:List Zp):lg x b row=lg x b row':=by
 unfold lg
 induction b with
 | nil=>rfl
 | cons y t ih=>rw [List.any_cons,List.any_cons,ih,kC (jz h (dF y.1))]
theorem mj (x:Ex) (a b:List Zp) (q:List Vl):wt (jk x a b) q=if lg x b q then wt a q else 0:=pN (lg x b) (fun _ _ h=>uB h x b) q a
theorem Kf (x:Ex) (a b:List Zp) (q:List Vl):wt (ir x a b) q=if lg x b q then 0 else wt a q:=by
 have:=pN (fun r=>!lg x b r) (fun _ _ h=>by show (!_)=(!_); rw [uB h]) q a;unfold ir;rw [this];cases lg x b q <;> rfl
theorem Gs (n:Nat) (q:List Vl) (z:List Zp):wt (gJ n z) q=fK (fun r=>if aG (r ++ gy n) q=0 then 1 else 0) z:=by
 induction z with
 | nil=>rfl
 | cons x r ih =>
  show wt ((x.1 ++ gy n,x.2) :: gJ n r) q=_;rw [wt,fK,ih]
  split <;> simp
end Go.Proofs.YtohjlfhmnmcndaaGreat
namespace Go.Proofs.YtohjlfhmnmcndaaGreat
open Go.RowKit Go.Lib Go.Shelf
set_option maxRecDepth 100000
set_option maxHeartbeats 16000000
def xr (W:World) (B n:Nat) (f:Nat→Zp) (k:Nat):Prop:=∃ xs,W.ownsRow B 58 2 (.slice (some ⟨B,0,none⟩) n n) n xs∧∀ j:Nat,j<n→j<k→∃ a cap,xs[j*2]? = some (.slice a (f j).1.length cap)∧xs[j*2+1]? = some (.int .i64 (f j).2)∧aM W a (f j).1∧gm W a
theorem xr.next {W w1:World} {B n:Nat} {f:Nat→Zp} {k:Nat} (h:xr W B n f k) (hb:Below W.heap.size W w1):xr w1 B n f k:=by
 obtain ⟨xs,h1,h2⟩:=h;refine ⟨xs,aS h1 hb,fun j hj hk=>?_⟩;obtain ⟨a,cap,e0,e1,e2,e3⟩:=h2 j hj hk;exact ⟨a,cap,e0,e1,e2.next hb,e3.next hb⟩
theorem xr.step {W:World} {B n:Nat} {f:Nat→Zp} {k:Nat} (h:xr W B n f k) (hk:k<n) {a:Option Addr} {cap:Nat} (hs:aM W a (f k).1) (ht:gm W a) :
  xr ((W.setCell ⟨B,k*2,none⟩ (.slice a (f k).1.length cap)).setCell ⟨B,k*2+1,none⟩ (.int .i64 (f k).2)) B n f (k+1):=by
 obtain ⟨xs,h1,h2⟩:=h;have lx:=h1.1;obtain ⟨o1,g1⟩:=h1.stored (k*2) (.slice a (f k).1.length cap);obtain ⟨o2,g2⟩:=o1.stored (k*2+1) (.int .i64 (f k).2);have go:∀ {b:Option Addr} {r:List Vl},aM W b r→gm W b→aM ((W.setCell ⟨B,k*2,none⟩ (.slice a (f k).1.length cap)).setCell ⟨B,k*2+1,none⟩ (.int .i64 (f k).2)) b r∧gm ((W.setCell ⟨B,k*2,none⟩ (.slice a (f k).1.length cap)).setCell ⟨B,k*2+1,none⟩ (.int .i64 (f k).2)) b:=fun hs ht=>by
  obtain ⟨s1,t1⟩:=ko hs ht h1 g1;exact ko s1 t1 o1 g2
 refine ⟨_,o2,?_⟩;intro j hj hjk;by_cases e:j=k
 ·subst e;refine ⟨a,cap,?_,?_,(go hs ht).1,(go hs ht).2⟩
  ·rw [NB (by omega)]; simp [List.getElem?_set,lx]; omega
  ·simp [List.getElem?_set,lx]; omega
 ·obtain ⟨b,c,e0,e1,e2,e3⟩:=h2 j hj (by omega);refine ⟨b,c,?_,?_,(go e2 e3).1,(go e2 e3).2⟩
  ·rw [NB (by omega),NB (by omega)]; exact e0
  ·rw [NB (by omega),NB (by omega)]; exact e1
theorem xr.cells {W:World} {B n:Nat} {f:Nat→Zp} {k:Nat} (h:xr W B n f k) (hk:k<n):(∃ u0 u1,W.cell? ⟨B,k*2,none⟩=some u0∧W.cell? ⟨B,k*2+1,none⟩=some u1)∧W.frozen? ⟨B,k*2,none⟩=false∧W.frozen? ⟨B,k*2+1,none⟩=false∧B<W.heap.size:=by
 obtain ⟨xs,h1,h2⟩:=h;have lx:=h1.1;refine ⟨⟨xs[k*2]'(by omega),xs[k*2+1]'(by omega),?_,?_⟩,h1.frozenAt _,h1.frozenAt _,(h1.lt B rfl).2⟩
 ·rw [h1.cellAt _ (by omega)]; exact NF (by omega)
 ·rw [h1.cellAt _ (by omega)]; exact NF (by omega)
theorem xr.done {W:World} {B n:Nat} {f:Nat→Zp} (h:xr W B n f n) (l:List Zp) (hn:n=l.length) (hv:∀ j (hj:j<l.length),f j=l[j]) (h8:l.length≤200000):aL W (some ⟨B,0,none⟩) l:=by
 obtain ⟨xs,h1,h2⟩:=h;subst hn;refine ⟨by unfold maxLen; omega,.inr ⟨B,0,rfl,(h1.lt B rfl).2,?_⟩⟩;intro i hi;obtain ⟨a,cap,g0,g1,g2,_⟩:=h2 i hi hi;rw [hv i hi] at g0 g1 g2;refine ⟨?_,a,cap,?_,g2⟩
 ·rw [h1.cellAt _ (by omega),← g1]; congr 1; omega
 ·rw [h1.cellAt _ (by omega),← g0]; congr 1; omega
theorem Gz (cols:List Int) (xs:List Ex) (ca:Option Addr) (ccap:Nat) (xa:Option Addr) (xcap:Nat) (a:Option Addr) (cap:Nat) (l:List Zp) (w:World) (hc:bc w.heap.size w ca cols) (hk:bd w.heap.size w xa xs) (h:aL w a l) :
  Calls Tryz.prog 95 #[.slice ca cols.length ccap,.slice xa xs.length xcap,.slice a l.length cap] w fun e w'=>∃ v,e = .returned (.tuple #[v,.int .i64 (iv cols xs l)])∧bZ w.heap.size w' v (nd cols xs l)∧Below w.heap.size w w':=by
 obtain ⟨i0,hi,hz0,hz1,hz2⟩:=info_parts Tryz.gX;have con:=xb cols xs ca ccap xa xcap w hk hc;generalize hfz:nd cols xs l=fz;generalize hfe:iv cols xs l=fe;have HZ:Hid (nd cols xs l=fz):=hfz;have HF:Hid (iv cols xs l=fe):=hfe;clear hfz hfe;by_cases h1:aP cols xs=0
 ·have H1:Hid (aP cols xs=0):=h1;rw [h1] at con;clear h1;go_enter Tryz.func95,Tryz.ntmps95;go_wp2_with fail
  refine con.mono ?_;rintro e w1 ⟨u,rfl,hL,hb1⟩;clear con;have hL:kj cols w.heap.size u xs w1:=by
   rcases hL with ⟨_,hL⟩ | ⟨hL,_⟩
   ·exact hL
   ·exact absurd (by trivial) hL
  obtain ⟨g,cb,rfl,eg,d⟩:=hL;have HD:Hid (∀ (row:List Vl) (a:Option Addr) (cap:Nat) (W:World),cL cols row→aM W a row→ax w.heap.size w1 W→Calls Tryz.prog g (#[.slice a row.length cap] ++ cb) W fun e w'=>e = .returned (.slice (some ⟨W.heap.size,0,none⟩) xs.length xs.length)∧mT W.heap.size w' (dV xs row)∧Below W.heap.size W w'):=d;clear d;have con:=gQ cols ca ccap a cap l w1 ((hc.next hb1 (Nj _)).up hb1.size) (h.next hb1);by_cases h2:bz cols l=0
  ·have hz:=(dK cols l).1 h2;rw [h2] at con;have H2:Hid (bz cols l=0):=h2;clear h2;have HE:Hid (fe=aH (jC xs l)):=by
    show fe=_;rw [← HF.out]; unfold iv; rw [H1.out,H2.out]; rfl
   have HV:Hid (fz=bg (jC xs l)):=by
    show fz=_;rw [← HZ.out]; unfold nd bg; rw [HF.out,HE.out]
   have hl4:=iD hz;have HO:Hid (eU cols l):=hz;go_wp2_with fail
   refine con.mono ?_;rintro e w2 ⟨rfl,hb2⟩;clear con;have hA:=chain hb1 hb2;have z2:=hb2.size;have z1:=hb1.size;go_wp2_with (first | (at_make; refine wpList_make_full _ rfl _ _ 34 rfl w2.heap.size 58 i0 _ 2 Tryz.underlying34 hi hz0 hz1 .i64 .i64 l.length l.length l.length rfl rfl rfl rfl (by rw [hz2]; omega) (by unfold maxLen; omega) (Nj _) ?_))
   intro w3 hown hgrow;have hb3:Below w2.heap.size w2 w3:=(Nk _ _).grown hgrow (Nj _) (by simp);obtain ⟨f,hf⟩:∃ f:Nat→Zp,f=(fun j=>(jC xs l).getD j ([],0)):=⟨_,rfl⟩
   have HFn:Hid (f=(fun j=>(jC xs l).getD j ([],0))):=hf;clear hf;have hB0:xr w3 w2.heap.size l.length f 0:=⟨_,hown,fun j _ hj=>absurd hj (N7 _)⟩
   clear hown hgrow;go_wp2_with fail
   go_loopw [34] (fun i wr=>∃ k:Nat,k≤l.length∧i = .int .i64 k∧xr wr w2.heap.size l.length f k∧Below w2.heap.size w2 wr) (fun i _=>l.length - (intOf i).toNat)
   case atStart=>exact ⟨0,Nr _,rfl,hB0,hb3⟩
   case round =>
    clear hB0 hb3;obtain ⟨k,hk,rfl,HB,hb⟩:=hrel;have hz:=hb.size;by_cases hlt:k<l.length
    ·obtain ⟨b,off,rfl,hbl,c1,ar,cr,c0,sr⟩:=(h.next (chain hA hb)).elem hlt;have hal:=aa wr (.cells #[.slice ar l[k].1.length cr,.int .i64 l[k].2] 58);have hd:Below (wr.alloc (.cells #[.slice ar l[k].1.length cr,.int .i64 l[k].2] 58)).heap.size (wr.alloc (.cells #[.slice ar l[k].1.length cr,.int .i64 l[k].2] 58)) (wr.alloc (.cells #[.slice ar l[k].1.length cr,.int .i64 l[k].2] 58)).drew:=(Nk _ _).drew
     have hbk:Below w1.heap.size w1 (wr.alloc (.cells #[.slice ar l[k].1.length cr,.int .i64 l[k].2] 58)).drew:=(chain (chain (chain hb2 hb) hal) hd)
     have con:=HD.out l[k].1 ar cr _ (HO.out.fit l[k] (Ns hlt)) ((sr.next hal).next hd) (ax.of hbk);have q0:(wr.alloc (.cells #[.slice ar l[k].1.length cr,.int .i64 l[k].2] 58)).cell? ⟨wr.heap.size,0,none⟩=some (.slice ar l[k].1.length cr):=by simp
     have q1:(wr.alloc (.cells #[.slice ar l[k].1.length cr,.int .i64 l[k].2] 58)).cell? ⟨wr.heap.size,1,none⟩=some (.int .i64 l[k].2):=by simp
     have za:(wr.alloc (.cells #[.slice ar l[k].1.length cr,.int .i64 l[k].2] 58)).heap.size=wr.heap.size+1:=by simp
     have ef:f k=(dV xs l[k].1,l[k].2):=by rw [HFn.out]; simp [jC,List.getD,hlt]
     have EF:Hid (f k=(dV xs l[k].1,l[k].2)):=ef;have hrl:xs.length=(dV xs l[k].1).length:=by simp [dV]
     have HR:Hid (xs.length=(dV xs l[k].1).length):=hrl;have i0':(0:Int)≤(k:Int):=by omega
     have i1:(k:Int)<(l.length:Int):=by omega
     clear ef hrl;go_wp2_with fail
     clear c0 c1 sr;generalize wr.alloc (.cells #[.slice ar l[k].1.length cr,.int .i64 l[k].2] 58)=wk at *;obtain ⟨⟨t0,t1,e0,e1⟩,f0,f1,hlb⟩:=(HB.next hal).cells hlt;go_region_with (go_at_fn g; refine con.mono ?_; rintro e w5 ⟨rfl,hR,hb5⟩; have HB5:=((HB.next hal).next hd).next hb5; obtain ⟨⟨u0,u1,d0,d1⟩,g0,g1,hlb5⟩:=HB5.cells hlt; have r1:=((hd.trans (hb5.mono hd.size)).cell (p:=⟨wr.heap.size,1,none⟩) (by show wr.heap.size<_; omega)).trans q1)
     all_goals (
      go_wp2
      go_roundw
      case rel =>
       refine ⟨k+1,by omega,by go_num,?_,?_⟩
       ·have:=HB5.step hlt (a:=some ⟨wk.drew.heap.size,0,none⟩) (cap:=xs.length) (by rw [EF.out]; exact hR.1) hR.2;rw [EF.out,← HR.out,show wk.drew.heap.size=wr.heap.size+1 from za] at this;exact this
       ·exact ((chain (chain hb hal) (hd.trans (hb5.mono hd.size))).setCell (p:=⟨w2.heap.size,k*2,none⟩) (Nj _) _).setCell (p:=⟨w2.heap.size,k*2+1,none⟩) (Nj _) _
      case measure=>simp [intOf]; omega)
    ·have e:k=l.length:=by omega
     subst e;have hml:(jC xs l).length=l.length:=by simp [jC]
     have zsm:=HB.done (jC xs l) hml.symm (fun j hj=>by rw [HFn.out]; simp [List.getD,hj]) (by omega);have con:=ep (some ⟨w2.heap.size,0,none⟩) l.length (jC xs l) wr zsm (by omega) (fun y hy=>by obtain ⟨p,hp,rfl⟩:=List.mem_map.1 hy; exact ov (nm HO.out p hp)) (fun y hy=>by obtain ⟨p,hp,rfl⟩:=List.mem_map.1 hy; have:=(nU H1.out).1; simpa [dV] using this);rw [hml] at con;have HV':=HV.out;have HE':=HE.out;rw [← HE',← HV'] at con;clear HV' HE' zsm HB;go_wp2_with fail
     refine con.mono ?_;rintro e w6 ⟨v6,rfl,O6,hb6⟩;have hA6:=chain hA hb;have O6':=O6.mono hA6.size;obtain ⟨a6,c6,rfl,_⟩:=O6.zs;go_wp2
     exact Nl (v:=.tuple #[.slice a6 fz.length c6,.int .i64 fe]) (by simp [results,Tryz.results95,go_sem]) rfl ⟨_,rfl,O6',chain hA6 hb6⟩
  ·have e0:fe=bz cols l:=by rw [← HF.out]; unfold iv; rw [H1.out,if_neg (by simp),if_pos h2]
   have e1:fz = []:=by rw [← HZ.out]; unfold nd; rw [HF.out,e0,if_neg h2]
   have hne:(bz cols l != 0)=true:=by simpa using h2
   rw [← e0] at con hne;have HV:Hid (fz = []):=e1;clear e0 e1;go_wp2_with fail
   refine con.mono ?_;rintro e w2 ⟨rfl,hb2⟩;clear con;go_wp2
   exact Nl (v:=.tuple #[.slice none 0 0,.int .i64 fe]) (by simp [results,Tryz.results95,go_sem]) rfl ⟨_,rfl,by rw [HV.out]; exact dM _ _,chain hb1 hb2⟩
 ·have e0:fe=aP cols xs:=by rw [← HF.out]; unfold iv; rw [if_pos h1]
  have e1:fz = []:=by rw [← HZ.out]; unfold nd; rw [HF.out,e0,if_neg h1]
  have hne:(aP cols xs != 0)=true:=by simpa using h1
  have HL:Hid (¬ aP cols xs=0):=h1;rw [← e0] at hne;have HV:Hid (fz = []):=e1;have HN:Hid (fe=aP cols xs):=e0;clear e0 e1 h1;go_enter Tryz.func95,Tryz.ntmps95;go_wp2_with fail
  refine con.mono ?_;rintro e w1 ⟨u,rfl,hL,hb1⟩;obtain ⟨_,rfl⟩:¬ aP cols xs=0∧u = .nilFunc:=by
   rcases hL with ⟨hL,_⟩ | hL
   ·exact absurd hL HL.out
   ·exact hL
  rw [← HN.out];clear con;go_wp2
  exact Nl (v:=.tuple #[.slice none 0 0,.int .i64 fe]) (by simp [results,Tryz.results95,go_sem]) rfl ⟨_,rfl,by rw [HV.out]; exact dM _ _,hb1⟩
structure qW (cols:List Int) (x:Ex) (w0 wp:World) (a b:Option Addr) (ca cb:Nat) (l r:List Zp) (v:Value):Prop where
 ex:∃ (lo:Nat) (wc:World) (R rv hv:Nat) (u:Value),v = .agg #[.slice a l.length ca,.slice b r.length cb,.func (.func 219) #[] #[.pointer (some ⟨rv,0,none⟩),.pointer (some ⟨hv,0,none⟩)]] ∧
  pG wp R rv∧hv<R∧wp.cell? ⟨hv,0,none⟩=some u∧jU cols lo u x wc∧wc.heap.size≤R∧ax lo wc wp∧w0.heap.size≤R∧Below w0.heap.size w0 wp∧cP wp R rv wp
theorem De (u:Value) (w:World) (hu:∃ g cb,u = .func (.func g) #[] cb) :
  Calls Tryz.prog 193 #[u] w fun e w'=>∃ rv,e = .returned (.func (.func 219) #[] #[.pointer (some ⟨rv,0,none⟩),.pointer (some ⟨w.heap.size,0,none⟩)])∧w'.cell? ⟨w.heap.size,0,none⟩=some u∧pG w' (w.heap.size+1) rv∧cP w' (w.heap.size+1) rv w'∧Below w.heap.size w w':=by
 obtain ⟨g,cb,rfl⟩:=hu;obtain ⟨i0,hi,hj0,hj1,hj2⟩:=info_parts Tryz.sL;have h1:=aa w (.cells #[.func (.func g) #[] cb] 139);have c1:(w.alloc (.cells #[.func (.func g) #[] cb] 139)).cell? ⟨w.heap.size,0,none⟩=some (.func (.func g) #[] cb):=by simp
 have z1:(w.alloc (.cells #[.func (.func g) #[] cb] 139)).heap.size=w.heap.size+1:=by simp
 go_enter Tryz.func193,Tryz.ntmps193;go_wp2_with (first | (at_make; refine wpList_make_own _ rfl _ _ 56 rfl (w.heap.size+1) 24 i0 _ 3 Tryz.underlying56 hi hj0 hj1 .i64 .i64 8 8 rfl rfl rfl (by rw [hj2]; omega) (by unfold maxLen; omega) (by simp) ?_))
 generalize w.alloc (.cells #[.func (.func g) #[] cb] 139)=w1 at *;intro w2 own2 g2;have z2:=g2.size;obtain ⟨hx2,⟨e2,_⟩ | ⟨gg,cap2,cur2,e2,hg2,hh2,hn2,hm2,hs2,ht2⟩⟩:=own2
 ·cases e2
 injection e2 with e2a e2b e2c
 have e2a:=NU e2a;injection e2a with e2a
 subst e2c;subst e2a;have b2:Below w1.heap.size w1 w2:=(Nk _ _).grown g2 (Nj _) (by simp);have c2:=(b2.cell (p:=⟨w.heap.size,0,none⟩) (by show w.heap.size<_; omega)).trans c1;have lt2:w.heap.size+1<w2.heap.size:=by
  rcases NY (w.heap.size+1) w2.heap.size with h | h
  ·exact h
  ·rw [OF h] at hh2; cases hh2
 have h3:=aa w2 (.cells #[.slice (some ⟨w.heap.size+1,0,none⟩) 0 8] 56);have z3:(w2.alloc (.cells #[.slice (some ⟨w.heap.size+1,0,none⟩) 0 8] 56)).heap.size=w2.heap.size+1:=by simp
 have v3:(w2.alloc (.cells #[.slice (some ⟨w.heap.size+1,0,none⟩) 0 8] 56)).cell? ⟨w2.heap.size,0,none⟩=some (.slice (some ⟨w.heap.size+1,0,none⟩) 0 8):=by simp
 have f3:(w2.alloc (.cells #[.slice (some ⟨w.heap.size+1,0,none⟩) 0 8] 56)).frozen? ⟨w2.heap.size,0,none⟩=false:=by simp
 have r3:=(h3.block (w.heap.size+1) lt2).trans hh2;have c3:=(h3.cell (p:=⟨w.heap.size,0,none⟩) (by show w.heap.size<_; omega)).trans c2;have HP:Hid (∀ W,W=w2.alloc (.cells #[.slice (some ⟨w.heap.size+1,0,none⟩) 0 8] 56)→W.cell? ⟨w.heap.size,0,none⟩=some (.func (.func g) #[] cb)∧pG W (w.heap.size+1) w2.heap.size∧cP W (w.heap.size+1) w2.heap.size W∧Below w.heap.size w W):=fun W hW=>by
  subst hW;exact ⟨c3,⟨lt2,by omega⟩,⟨rfl,rfl,rfl,Nj _,fun _ _ _ _=>rfl,⟨0,v3⟩,f3,cur2,r3,hs2⟩,chain (chain h1 b2) h3⟩
 clear v3 f3 r3 c3 h3 g2 hh2 hx2 ht2;go_wp2
 go_ret;exact ⟨_,rfl,HP.out _ rfl⟩
theorem rn {W:World} {k:Nat} {v0 v1 v2:Value} (u0 u1 u2:Value) (h0:W.cell? ⟨k,0,none⟩=some v0) (h1:W.cell? ⟨k,1,none⟩=some v1) (h2:W.cell? ⟨k,2,none⟩=some v2) :
  (((W.setCell ⟨k,0,none⟩ u0).setCell ⟨k,1,none⟩ u1).setCell ⟨k,2,none⟩ u2).cell? ⟨k,0,none⟩=some u0∧(((W.setCell ⟨k,0,none⟩ u0).setCell ⟨k,1,none⟩ u1).setCell ⟨k,2,none⟩ u2).cell? ⟨k,1,none⟩=some u1∧(((W.setCell ⟨k,0,none⟩ u0).setCell ⟨k,1,none⟩ u1).setCell ⟨k,2,none⟩ u2).cell? ⟨k,2,none⟩=some u2:=by
 have ne:∀ i j:Nat,i≠j→(⟨k,i,none⟩:Addr)≠⟨k,j,none⟩:=fun i j h e=>h (congrArg Addr.off e)
 have t0:=Ou W ⟨k,0,none⟩ u0 h0;have t1:=(Nv W _ _ u0 (ne 0 1 (by decide))).trans h1;have t2:=(Nv W _ _ u0 (ne 0 2 (by decide))).trans h2;have m0:=(Nv (W.setCell ⟨k,0,none⟩ u0) _ _ u1 (ne 1 0 (by decide))).trans t0;have m1:=Ou (W.setCell ⟨k,0,none⟩ u0) _ u1 t1;have m2:=(Nv (W.setCell ⟨k,0,none⟩ u0) _ _ u1 (ne 1 2 (by decide))).trans t2
 exact ⟨(Nv _ _ _ _ (ne 2 0 (by decide))).trans m0,(Nv _ _ _ _ (ne 2 1 (by decide))).trans m1,Ou _ _ _ m2⟩
theorem ku {B:Nat} {w W:World} {k:Nat} (u0 u1 u2:Value) (h:Below B w W) (hk:B≤k):Below B w (((W.setCell ⟨k,0,none⟩ u0).setCell ⟨k,1,none⟩ u1).setCell ⟨k,2,none⟩ u2) :=
 ((h.setCell (p:=⟨k,0,none⟩) hk _).setCell (p:=⟨k,1,none⟩) hk _).setCell (p:=⟨k,2,none⟩) hk _
theorem Aw {W:World} {k:Nat} (u0 u1 u2:Value) (j:Nat) (hj:j≠k):(((W.setCell ⟨k,0,none⟩ u0).setCell ⟨k,1,none⟩ u1).setCell ⟨k,2,none⟩ u2).heap[j]? = W.heap[j]?:=by
 rw [NR _ ⟨k,2,none⟩ _ j hj,NR _ ⟨k,1,none⟩ _ j hj,NR _ ⟨k,0,none⟩ _ j hj]
theorem Di {W:World} {k:Nat} (u0 u1 u2:Value):(((W.setCell ⟨k,0,none⟩ u0).setCell ⟨k,1,none⟩ u1).setCell ⟨k,2,none⟩ u2).heap.size=W.heap.size:=by simp
theorem En (left right:List Int) (x:Ex) (la:Option Addr) (lcap:Nat) (ra:Option Addr) (rcap:Nat) (xa:Option Addr) (xcap:Nat) (a:Option Addr) (ca:Nat) (l:List Zp) (b:Option Addr) (cb:Nat) (r:List Zp) (w:World)
  (hcl:bc w.heap.size w la left) (hcr:bc w.heap.size w ra right) (hx:bd w.heap.size w xa x.ks) (h:aL w a l) (h':aL w b r) (hll:left.length≤100000000000000) (hrl:right.length≤100000000000000) :
  Calls Tryz.prog 161 #[.slice la left.length lcap,.slice ra right.length rcap,lC x.k x.v x.c xa x.ks.length xcap,.slice a l.length ca,.slice b r.length cb] w fun e w'=>∃ v,e = .returned (.tuple #[v,.int .i64 (jH left right x l r)])∧((jH left right x l r=0∧qW (left ++ right) x w w' a b ca cb l r v)∨(¬ jH left right x l r=0∧v = .agg #[.slice none 0 0,.slice none 0 0,.nilFunc]))∧Below w.heap.size w w':=by
 have h1:=aa w (.cells (ig x xa xcap) 27);have S1:=mb.new w x.k x.v x.c xa x.ks.length xcap 27;have z1:(w.alloc (.cells (ig x xa xcap) 27)).heap.size=w.heap.size+1:=by simp
 have h2:Below (w.alloc (.cells (ig x xa xcap) 27)).heap.size (w.alloc (.cells (ig x xa xcap) 27)) ((w.alloc (.cells (ig x xa xcap) 27)).alloc (.cells #[.slice none 0 0,.slice none 0 0,.nilFunc] 162)):=(Nk _ _).alloc (Nj _) _;have z2:((w.alloc (.cells (ig x xa xcap) 27)).alloc (.cells #[.slice none 0 0,.slice none 0 0,.nilFunc] 162)).heap.size=w.heap.size+2:=by simp
 have S2:=S1.next h2 (by omega);have b0:((w.alloc (.cells (ig x xa xcap) 27)).alloc (.cells #[.slice none 0 0,.slice none 0 0,.nilFunc] 162)).cell? ⟨w.heap.size+1,0,none⟩=some (.slice none 0 0):=by rw [Og _ _ _ _ (by simp)]; rfl
 have b1:((w.alloc (.cells (ig x xa xcap) 27)).alloc (.cells #[.slice none 0 0,.slice none 0 0,.nilFunc] 162)).cell? ⟨w.heap.size+1,1,none⟩=some (.slice none 0 0):=by rw [Og _ _ _ _ (by simp)]; rfl
 have b2:((w.alloc (.cells (ig x xa xcap) 27)).alloc (.cells #[.slice none 0 0,.slice none 0 0,.nilFunc] 162)).cell? ⟨w.heap.size+1,2,none⟩=some (.nilFunc):=by rw [Og _ _ _ _ (by simp)]; rfl
 have f0:((w.alloc (.cells (ig x xa xcap) 27)).alloc (.cells #[.slice none 0 0,.slice none 0 0,.nilFunc] 162)).frozen? ⟨w.heap.size+1,0,none⟩=false:=OQ _ _ _ _ (by simp);have f1:((w.alloc (.cells (ig x xa xcap) 27)).alloc (.cells #[.slice none 0 0,.slice none 0 0,.nilFunc] 162)).frozen? ⟨w.heap.size+1,1,none⟩=false:=OQ _ _ _ _ (by simp);have f2:((w.alloc (.cells (ig x xa xcap) 27)).alloc (.cells #[.slice none 0 0,.slice none 0 0,.nilFunc] 162)).frozen? ⟨w.heap.size+1,2,none⟩=false:=OQ _ _ _ _ (by simp);have hA:=chain h1 h2
 generalize ht:jH left right x l r=te;have HT:Hid (jH left right x l r=te):=ht;clear ht S1;by_cases h8:8<left.length+right.length
 ·have e:te=5:=by rw [← HT.out]; simp [jH,h8]
  subst e;have hz:(8:Int)<(left.length:Int)+(right.length:Int):=by omega
  go_enter Tryz.func161,Tryz.ntmps161;go_wp2
  exact Nl (v:=.tuple #[.agg #[.slice none 0 0,.slice none 0 0,.nilFunc],.int .i64 5]) (by simp [results,Tryz.results161,go_sem]) rfl ⟨_,rfl,.inr ⟨by decide,rfl⟩,by first | exact hA | exact (hA.setCell (p:=⟨w.heap.size+1,0,none⟩) (by show w.heap.size≤w.heap.size+1; omega) _)⟩
 have hz:¬ (8:Int)<(left.length:Int)+(right.length:Int):=by omega
 have H8:Hid (¬ 8<left.length+right.length):=h8;have p0:=ag S2.c0;have p1:=ag S2.c1;have p2:=ag S2.c2;have p3:=ag S2.c3;have p4:=ag S2.c4;have p5:=ag S2.c5;simp only [Np] at p1 p2 p3 p4 p5;by_cases hcond:bO (left ++ right) x=0
 ·go_enter Tryz.func161,Tryz.ntmps161;go_wp2_with fail
  generalize (w.alloc (.cells (ig x xa xcap) 27)).alloc (.cells #[.slice none 0 0,.slice none 0 0,.nilFunc] 162)=w2 at *;have hB0:Below w2.heap.size w2 w2.drew:=(Nk _ _).drew;refine jI (by kernel_rfl) ?_;refine aO (some 24) (i:=0) (v:=.slice la left.length lcap) rfl rfl (by kernel_rfl) (by kernel_rfl) (by kernel_rfl) (fun _ _ _ h=>h) (Or.inl ⟨rfl,fun n=>?_⟩) hB0 ?_
  ·go_simp
  simp only [Act.put,pA,pB,pC];refine aO (some 25) (i:=1) (v:=.slice ra right.length rcap) rfl rfl (by kernel_rfl) (by kernel_rfl) (by kernel_rfl) (fun _ _ _ h=>h) (Or.inl ⟨rfl,fun n=>?_⟩) hB0 ?_
  ·go_simp
  simp only [Act.put,pA,pB,pC];refine aO (some 28) (i:=4) (v:=lC x.k x.v x.c xa x.ks.length xcap) rfl rfl (by kernel_rfl) (by kernel_rfl) (by kernel_rfl) (fun _ _ _ h=>h) (Or.inl ⟨rfl,fun n=>?_⟩) hB0 ?_
  ·go_simp
  simp only [Act.put,pA,pB,pC];clear p0 p1 p2 p3 p4 p5;refine gd (rs:=[2]) (by kernel_rfl) (by simp) ?_;intro w3 hb3 j hj;obtain rfl:j=2:=by simpa using hj
  clear hj;have D3:=hB0.trans (hb3.mono hB0.size);refine wpOp_step rfl (fun K hK=>?_);go_simp;have hal3:=aa w3 (.cells #[.slice la left.length lcap,.slice ra right.length rcap] 45);have PC:=gA.new lcap rcap (dN (hcl.next (chain hA D3) (Nj _))) (dN (hcr.next (chain hA D3) (Nj _))) 45;have D4:=D3.trans (hal3.mono D3.size);refine hK _ _ ⟨D4,?_⟩;clear hK K;generalize w3.alloc (.cells #[.slice la left.length lcap,.slice ra right.length rcap] 45)=w4 at *
  refine gd (rs:=[3]) (by kernel_rfl) (by simp) ?_;intro w5 hb5 j hj;obtain rfl:j=3:=by simpa using hj
  clear hj;have D5:=D4.trans (hb5.mono D4.size);refine wpOp_step rfl (fun K hK=>?_);go_simp;refine (kY _ _ _ _ _ w5 (PC.next hb5) (by omega)).mono ?_;rintro e w6 ⟨v6,rfl,O6,hb6⟩;rw [← Om] at O6;obtain ⟨a6,c6,rfl,I6⟩:=nI O6 (by simp);have D6:=D5.trans (hb6.mono D5.size);refine hK _ _ ⟨D6,?_⟩;clear hK K PC O6;refine gd (rs:=[5]) (by kernel_rfl) (by simp) ?_;intro w7 hb7 j hj;obtain rfl:j=5:=by simpa using hj
  clear hj;have D7:=D6.trans (hb7.mono D6.size);refine wpOp_step rfl (fun K hK=>?_);go_simp;have hA7:=chain hA D7;have con:=vP (left ++ right) x a6 c6 xa xcap w7 ((bd.next hA7 (Nj _) hx).up hA7.size) ((I6.next hb7 (Nj _)).up hb7.size) hcond;rw [Nx] at con;refine con.mono ?_;clear con;rintro e w8 ⟨u8,rfl,hC8,hb8⟩;obtain ⟨ug,ucb,rfl⟩:∃ g cb,u8 = .func (.func g) #[] cb:=by obtain ⟨g,cb,e,_⟩:=hC8; exact ⟨g,cb,e⟩
  have D8:=D7.trans (hb8.mono D7.size);refine hK _ _ ⟨D8,?_⟩;clear hK K;refine aO (some 23) (i:=6) (v:=.tuple #[.func (.func ug) #[] ucb,.int .i64 0]) rfl rfl (by kernel_rfl) (by kernel_rfl) (by kernel_rfl) (fun _ _ _ h=>h) (Or.inl ⟨rfl,fun n=>?_⟩) D8 ?_
  ·go_simp
  simp only [Act.put,pA,pB,pC];refine aO (some 30) (i:=7) (v:=.func (.func ug) #[] ucb) rfl rfl (by kernel_rfl) (by kernel_rfl) (by kernel_rfl) (fun _ _ _ h=>h) (Or.inl ⟨rfl,fun n=>?_⟩) D8 ?_
  ·go_simp
  simp only [Act.put,pA,pB,pC];refine aO (some 31) (i:=8) (v:=.int .i64 0) rfl rfl (by kernel_rfl) (by kernel_rfl) (by kernel_rfl) (fun _ _ _ h=>h) (Or.inl ⟨rfl,fun n=>?_⟩) D8 ?_
  ·go_simp
  simp only [Act.put,pA,pB,pC];refine aO (some 12) (i:=9) (v:=.func (.func ug) #[] ucb) rfl rfl (by kernel_rfl) (by kernel_rfl) (by kernel_rfl) (fun _ _ _ h=>h) (Or.inl ⟨rfl,fun n=>?_⟩) D8 ?_
  ·go_simp
  simp only [Act.put,pA,pB,pC];refine aO (some 13) (i:=10) (v:=.int .i64 0) rfl rfl (by kernel_rfl) (by kernel_rfl) (by kernel_rfl) (fun _ _ _ h=>h) (Or.inl ⟨rfl,fun n=>?_⟩) D8 ?_
  ·go_simp
  simp only [Act.put,pA,pB,pC];refine nW (by kernel_rfl) ?_;intro w9 hb9;have D9:=D8.trans (hb9.mono D8.size);have hA9:=chain hA D9;have q0:=(D9.cell (p:=⟨w.heap.size+1,0,none⟩) (by show w.heap.size+1<_; omega)).trans b0;have q1:=(D9.cell (p:=⟨w.heap.size+1,1,none⟩) (by show w.heap.size+1<_; omega)).trans b1;have q2:=(D9.cell (p:=⟨w.heap.size+1,2,none⟩) (by show w.heap.size+1<_; omega)).trans b2;have g0:=(D9.frozen (p:=⟨w.heap.size+1,0,none⟩) (by show w.heap.size+1<_; omega)).trans f0;have g1:=(D9.frozen (p:=⟨w.heap.size+1,1,none⟩) (by show w.heap.size+1<_; omega)).trans f1
  have g2:=(D9.frozen (p:=⟨w.heap.size+1,2,none⟩) (by show w.heap.size+1<_; omega)).trans f2;have con:=gQ left la lcap a ca l w9 ((hcl.next hA9 (Nj _)).up hA9.size) (h.next hA9);have lt9:w.heap.size+1<w9.heap.size:=by have:=D9.size; omega
  clear b0 b1 b2 f0 f1 f2 S2;by_cases hi1:bz left l=0
  ·go_wp2_with fail
   rw [hi1] at con;refine con.mono ?_;clear con;rintro e w10 ⟨rfl,hb10⟩;have hA10:=chain hA9 hb10;have lt10:w.heap.size+1<w10.heap.size:=by have:=hb10.size; omega
   have q0:=(hb10.cell (p:=⟨w.heap.size+1,0,none⟩) lt9).trans q0;have q1:=(hb10.cell (p:=⟨w.heap.size+1,1,none⟩) lt9).trans q1;have q2:=(hb10.cell (p:=⟨w.heap.size+1,2,none⟩) lt9).trans q2;have g0:=(hb10.frozen (p:=⟨w.heap.size+1,0,none⟩) lt9).trans g0;have g1:=(hb10.frozen (p:=⟨w.heap.size+1,1,none⟩) lt9).trans g1;have g2:=(hb10.frozen (p:=⟨w.heap.size+1,2,none⟩) lt9).trans g2;have con:=gQ right ra rcap b cb r w10 ((hcr.next hA10 (Nj _)).up hA10.size) (h'.next hA10);by_cases hi2:bz right r=0
   ·go_wp2_with fail
    rw [hi2] at con;refine con.mono ?_;clear con;have e0:te=0:=by rw [← HT.out]; unfold jH; rw [if_neg H8.out,if_neg (by simp [hcond]),if_neg (by simp [hi1])]; exact hi2
    subst e0;rintro e w11 ⟨rfl,hb11⟩;have hA11:=chain hA10 hb11;have lt11:w.heap.size+1<w11.heap.size:=by have:=hb11.size; omega
    have q0:=(hb11.cell (p:=⟨w.heap.size+1,0,none⟩) lt10).trans q0;have q1:=(hb11.cell (p:=⟨w.heap.size+1,1,none⟩) lt10).trans q1;have q2:=(hb11.cell (p:=⟨w.heap.size+1,2,none⟩) lt10).trans q2;have g0:=(hb11.frozen (p:=⟨w.heap.size+1,0,none⟩) lt10).trans g0;have g1:=(hb11.frozen (p:=⟨w.heap.size+1,1,none⟩) lt10).trans g1;have g2:=(hb11.frozen (p:=⟨w.heap.size+1,2,none⟩) lt10).trans g2;go_wp2_with fail
    refine (De (.func (.func ug) #[] ucb) w11 ⟨_,_,rfl⟩).mono ?_;rintro e w12 ⟨rv,rfl,hv12,N12,I12,hb12⟩;have hA12:=chain hA11 hb12;have lt12:w.heap.size+1<w12.heap.size:=by have:=hb12.size; omega
    have q0:=(hb12.cell (p:=⟨w.heap.size+1,0,none⟩) lt11).trans q0;have q1:=(hb12.cell (p:=⟨w.heap.size+1,1,none⟩) lt11).trans q1;have q2:=(hb12.cell (p:=⟨w.heap.size+1,2,none⟩) lt11).trans q2;have g0:=(hb12.frozen (p:=⟨w.heap.size+1,0,none⟩) lt11).trans g0;have g1:=(hb12.frozen (p:=⟨w.heap.size+1,1,none⟩) lt11).trans g1;have g2:=(hb12.frozen (p:=⟨w.heap.size+1,2,none⟩) lt11).trans g2;have d12:Below w8.heap.size w8 w12:=chain (chain (chain hb9 hb10) hb11) hb12;have F7:Hid (w.heap.size+2≤w7.heap.size):=by show w.heap.size+2≤w7.heap.size; have:=D7.size; omega
    have HC8:Hid (jU (left ++ right) w7.heap.size (.func (.func ug) #[] ucb) x w8):=hC8;have HZ:Hid (w8.heap.size≤w11.heap.size):=by show w8.heap.size≤w11.heap.size; have:=(chain (chain hb9 hb10) hb11).size; omega
    clear hC8;go_wp2_with fail
    obtain ⟨r0,r1,r2⟩:=rn (.slice a l.length ca) (.slice b r.length cb) (.func (.func 219) #[] #[.pointer (some ⟨rv,0,none⟩),.pointer (some ⟨w11.heap.size,0,none⟩)]) q0 q1 q2;have hE:=ku (.slice a l.length ca) (.slice b r.length cb) (.func (.func 219) #[] #[.pointer (some ⟨rv,0,none⟩),.pointer (some ⟨w11.heap.size,0,none⟩)]) hA12 (show w.heap.size≤w.heap.size+1 by omega);have hK:=Aw (W:=w12) (k:=w.heap.size+1) (.slice a l.length ca) (.slice b r.length cb) (.func (.func 219) #[] #[.pointer (some ⟨rv,0,none⟩),.pointer (some ⟨w11.heap.size,0,none⟩)])
    have hS:=Di (W:=w12) (k:=w.heap.size+1) (.slice a l.length ca) (.slice b r.length cb) (.func (.func 219) #[] #[.pointer (some ⟨rv,0,none⟩),.pointer (some ⟨w11.heap.size,0,none⟩)]);generalize ((w12.setCell ⟨w.heap.size+1,0,none⟩ (.slice a l.length ca)).setCell ⟨w.heap.size+1,1,none⟩ (.slice b r.length cb)).setCell ⟨w.heap.size+1,2,none⟩ (.func (.func 219) #[] #[.pointer (some ⟨rv,0,none⟩),.pointer (some ⟨w11.heap.size,0,none⟩)])=wE at *;have hr12:=N12.r;have hv12':=N12.v;have hz:=HZ.out;have h7:=F7.out;obtain ⟨n12,hvar⟩:=I12.var;obtain ⟨cur12,hroom,hcs⟩:=I12.room
    refine Nl (v:=.tuple #[.agg #[.slice a l.length ca,.slice b r.length cb,.func (.func 219) #[] #[.pointer (some ⟨rv,0,none⟩),.pointer (some ⟨w11.heap.size,0,none⟩)]],.int .i64 0]) (by simp [results,Tryz.results161,go_sem,r0,r1,r2]) rfl ⟨_,rfl,⟨⟨w7.heap.size,w8,w11.heap.size+1,rv,w11.heap.size,_,rfl,⟨by omega,by omega⟩,by omega,(NA (w:=w12) (hK w11.heap.size (by omega))).trans hv12,HC8.out,by omega,⟨by have:=d12.size; omega,fun k k1 k2=>(hK k (by omega)).trans (d12.block k k2)⟩,by omega,hE,?_⟩⟩,hE⟩
    exact ⟨rfl,rfl,rfl,Nj _,fun _ _ _ _=>rfl,⟨n12,(NA (w:=w12) (hK rv (by omega))).trans hvar⟩,(OP (w:=w12) (hK rv (by omega))).trans I12.Fy,cur12,(hK _ (by omega)).trans hroom,hcs⟩
   ·go_wp2_with fail
    refine con.mono ?_;clear con;have e0:te=bz right r:=by rw [← HT.out]; unfold jH; rw [if_neg H8.out,if_neg (by simp [hcond]),if_neg (by simp [hi1])]
    rw [← e0] at hi2 ⊢;have hne:(te != 0)=true:=by simpa using hi2
    clear e0;rintro e w11 ⟨rfl,hb11⟩;have hA11:=chain hA10 hb11;have q0:=(hb11.cell (p:=⟨w.heap.size+1,0,none⟩) lt10).trans q0;have q1:=(hb11.cell (p:=⟨w.heap.size+1,1,none⟩) lt10).trans q1;have q2:=(hb11.cell (p:=⟨w.heap.size+1,2,none⟩) lt10).trans q2;have g0:=(hb11.frozen (p:=⟨w.heap.size+1,0,none⟩) lt10).trans g0;have g1:=(hb11.frozen (p:=⟨w.heap.size+1,1,none⟩) lt10).trans g1;have g2:=(hb11.frozen (p:=⟨w.heap.size+1,2,none⟩) lt10).trans g2;go_wp2_with fail
    obtain ⟨r0,r1,r2⟩:=rn (.slice none 0 0) (.slice none 0 0) .nilFunc q0 q1 q2;have hE:=ku (.slice none 0 0) (.slice none 0 0) .nilFunc hA11 (show w.heap.size≤w.heap.size+1 by omega);generalize ((w11.setCell ⟨w.heap.size+1,0,none⟩ (.slice none 0 0)).setCell ⟨w.heap.size+1,1,none⟩ (.slice none 0 0)).setCell ⟨w.heap.size+1,2,none⟩ .nilFunc=wE at *;exact Nl (v:=.tuple #[.agg #[.slice none 0 0,.slice none 0 0,.nilFunc],.int .i64 te]) (by simp [results,Tryz.results161,go_sem,r0,r1,r2]) rfl ⟨_,rfl,.inr ⟨hi2,rfl⟩,hE⟩
  ·go_wp2_with fail
   refine con.mono ?_;clear con;have e0:te=bz left l:=by rw [← HT.out]; unfold jH; rw [if_neg H8.out,if_neg (by simp [hcond]),if_pos hi1]
   rw [← e0] at hi1 ⊢;have hne:(te != 0)=true:=by simpa using hi1
   clear e0;rintro e w10 ⟨rfl,hb10⟩;have hA10:=chain hA9 hb10;have q0:=(hb10.cell (p:=⟨w.heap.size+1,0,none⟩) lt9).trans q0;have q1:=(hb10.cell (p:=⟨w.heap.size+1,1,none⟩) lt9).trans q1;have q2:=(hb10.cell (p:=⟨w.heap.size+1,2,none⟩) lt9).trans q2;have g0:=(hb10.frozen (p:=⟨w.heap.size+1,0,none⟩) lt9).trans g0;have g1:=(hb10.frozen (p:=⟨w.heap.size+1,1,none⟩) lt9).trans g1;have g2:=(hb10.frozen (p:=⟨w.heap.size+1,2,none⟩) lt9).trans g2;go_wp2_with fail
   obtain ⟨r0,r1,r2⟩:=rn (.slice none 0 0) (.slice none 0 0) .nilFunc q0 q1 q2;have hE:=ku (.slice none 0 0) (.slice none 0 0) .nilFunc hA10 (show w.heap.size≤w.heap.size+1 by omega);generalize ((w10.setCell ⟨w.heap.size+1,0,none⟩ (.slice none 0 0)).setCell ⟨w.heap.size+1,1,none⟩ (.slice none 0 0)).setCell ⟨w.heap.size+1,2,none⟩ .nilFunc=wE at *;exact Nl (v:=.tuple #[.agg #[.slice none 0 0,.slice none 0 0,.nilFunc],.int .i64 te]) (by simp [results,Tryz.results161,go_sem,r0,r1,r2]) rfl ⟨_,rfl,.inr ⟨hi1,rfl⟩,hE⟩
 ·have e0:te=bO (left ++ right) x:=by rw [← HT.out]; unfold jH; rw [if_neg H8.out,if_pos hcond]
  have e1:¬ te=0:=by rw [e0]; exact hcond
  have hne:(te != 0)=true:=by simpa using e1
  have HC:Hid (bO (left ++ right) x=te):=e0.symm;clear e0;go_enter Tryz.func161,Tryz.ntmps161;go_wp2_with fail
  generalize (w.alloc (.cells (ig x xa xcap) 27)).alloc (.cells #[.slice none 0 0,.slice none 0 0,.nilFunc] 162)=w2 at *;have hB0:Below w2.heap.size w2 w2.drew:=(Nk _ _).drew;refine jI (by kernel_rfl) ?_;refine aO (some 24) (i:=0) (v:=.slice la left.length lcap) rfl rfl (by kernel_rfl) (by kernel_rfl) (by kernel_rfl) (fun _ _ _ h=>h) (Or.inl ⟨rfl,fun n=>?_⟩) hB0 ?_
  ·go_simp
  simp only [Act.put,pA,pB,pC];refine aO (some 25) (i:=1) (v:=.slice ra right.length rcap) rfl rfl (by kernel_rfl) (by kernel_rfl) (by kernel_rfl) (fun _ _ _ h=>h) (Or.inl ⟨rfl,fun n=>?_⟩) hB0 ?_
  ·go_simp
  simp only [Act.put,pA,pB,pC];refine aO (some 28) (i:=4) (v:=lC x.k x.v x.c xa x.ks.length xcap) rfl rfl (by kernel_rfl) (by kernel_rfl) (by kernel_rfl) (fun _ _ _ h=>h) (Or.inl ⟨rfl,fun n=>?_⟩) hB0 ?_
  ·go_simp
  simp only [Act.put,pA,pB,pC];clear p0 p1 p2 p3 p4 p5;refine gd (rs:=[2]) (by kernel_rfl) (by simp) ?_;intro w3 hb3 j hj;obtain rfl:j=2:=by simpa using hj
  clear hj;have D3:=hB0.trans (hb3.mono hB0.size);refine wpOp_step rfl (fun K hK=>?_);go_simp;have hal3:=aa w3 (.cells #[.slice la left.length lcap,.slice ra right.length rcap] 45);have PC:=gA.new lcap rcap (dN (hcl.next (chain hA D3) (Nj _))) (dN (hcr.next (chain hA D3) (Nj _))) 45;have D4:=D3.trans (hal3.mono D3.size);refine hK _ _ ⟨D4,?_⟩;clear hK K;generalize w3.alloc (.cells #[.slice la left.length lcap,.slice ra right.length rcap] 45)=w4 at *
  refine gd (rs:=[3]) (by kernel_rfl) (by simp) ?_;intro w5 hb5 j hj;obtain rfl:j=3:=by simpa using hj
  clear hj;have D5:=D4.trans (hb5.mono D4.size);refine wpOp_step rfl (fun K hK=>?_);go_simp;refine (kY _ _ _ _ _ w5 (PC.next hb5) (by omega)).mono ?_;rintro e w6 ⟨v6,rfl,O6,hb6⟩;rw [← Om] at O6;obtain ⟨a6,c6,rfl,I6⟩:=nI O6 (by simp);have D6:=D5.trans (hb6.mono D5.size);refine hK _ _ ⟨D6,?_⟩;clear hK K PC O6;refine gd (rs:=[5]) (by kernel_rfl) (by simp) ?_;intro w7 hb7 j hj;obtain rfl:j=5:=by simpa using hj
  clear hj;have D7:=D6.trans (hb7.mono D6.size);refine wpOp_step rfl (fun K hK=>?_);go_simp;have hA7:=chain hA D7;have con:=tm (left ++ right) x a6 c6 xa xcap w7 ((bd.next hA7 (Nj _) hx).up hA7.size) ((I6.next hb7 (Nj _)).up hb7.size) hcond;rw [HC.out,Nx] at con;refine con.mono ?_;clear con;rintro e w8 ⟨rfl,hb8⟩;have D8:=D7.trans (hb8.mono D7.size);refine hK _ _ ⟨D8,?_⟩;clear hK K
  refine aO (some 23) (i:=6) (v:=.tuple #[.nilFunc,.int .i64 te]) rfl rfl (by kernel_rfl) (by kernel_rfl) (by kernel_rfl) (fun _ _ _ h=>h) (Or.inl ⟨rfl,fun n=>?_⟩) D8 ?_
  ·go_simp
  simp only [Act.put,pA,pB,pC];refine aO (some 30) (i:=7) (v:=.nilFunc) rfl rfl (by kernel_rfl) (by kernel_rfl) (by kernel_rfl) (fun _ _ _ h=>h) (Or.inl ⟨rfl,fun n=>?_⟩) D8 ?_
  ·go_simp
  simp only [Act.put,pA,pB,pC];refine aO (some 31) (i:=8) (v:=.int .i64 te) rfl rfl (by kernel_rfl) (by kernel_rfl) (by kernel_rfl) (fun _ _ _ h=>h) (Or.inl ⟨rfl,fun n=>?_⟩) D8 ?_
  ·go_simp
  simp only [Act.put,pA,pB,pC];refine aO (some 12) (i:=9) (v:=.nilFunc) rfl rfl (by kernel_rfl) (by kernel_rfl) (by kernel_rfl) (fun _ _ _ h=>h) (Or.inl ⟨rfl,fun n=>?_⟩) D8 ?_
  ·go_simp
  simp only [Act.put,pA,pB,pC];refine aO (some 13) (i:=10) (v:=.int .i64 te) rfl rfl (by kernel_rfl) (by kernel_rfl) (by kernel_rfl) (fun _ _ _ h=>h) (Or.inl ⟨rfl,fun n=>?_⟩) D8 ?_
  ·go_simp
  simp only [Act.put,pA,pB,pC];refine nW (by kernel_rfl) ?_;intro w9 hb9;have D9:=D8.trans (hb9.mono D8.size);have hA9:=chain hA D9;have q0:=(D9.cell (p:=⟨w.heap.size+1,0,none⟩) (by show w.heap.size+1<_; omega)).trans b0;have q1:=(D9.cell (p:=⟨w.heap.size+1,1,none⟩) (by show w.heap.size+1<_; omega)).trans b1;have q2:=(D9.cell (p:=⟨w.heap.size+1,2,none⟩) (by show w.heap.size+1<_; omega)).trans b2;have g0:=(D9.frozen (p:=⟨w.heap.size+1,0,none⟩) (by show w.heap.size+1<_; omega)).trans f0;have g1:=(D9.frozen (p:=⟨w.heap.size+1,1,none⟩) (by show w.heap.size+1<_; omega)).trans f1
  have g2:=(D9.frozen (p:=⟨w.heap.size+1,2,none⟩) (by show w.heap.size+1<_; omega)).trans f2;go_wp2_with fail
  obtain ⟨r0,r1,r2⟩:=rn (.slice none 0 0) (.slice none 0 0) .nilFunc q0 q1 q2;have hE:=ku (.slice none 0 0) (.slice none 0 0) .nilFunc hA9 (show w.heap.size≤w.heap.size+1 by omega);generalize ((w9.setCell ⟨w.heap.size+1,0,none⟩ (.slice none 0 0)).setCell ⟨w.heap.size+1,1,none⟩ (.slice none 0 0)).setCell ⟨w.heap.size+1,2,none⟩ .nilFunc=wE at *;exact Nl (v:=.tuple #[.agg #[.slice none 0 0,.slice none 0 0,.nilFunc],.int .i64 te]) (by simp [results,Tryz.results161,go_sem,r0,r1,r2]) rfl ⟨_,rfl,.inr ⟨e1,rfl⟩,hE⟩
end Go.Proofs.YtohjlfhmnmcndaaGreat
