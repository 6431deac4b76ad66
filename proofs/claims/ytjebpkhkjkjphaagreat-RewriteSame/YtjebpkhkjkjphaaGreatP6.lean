/- Together: K5, Y7, K6, J1, ZE, J2, J3, J4, K7. -/
import Derived.Laws.AppendOwnNone
import Derived.Shelf.Spec.SlicesGrow
import Derived.Ground.Names8Prog
import Derived.Test.YtjebpkhkjkjphaaGreatP5
import Derived.Test.YtjebpkhkjkjphaaGreatP2
import Derived.Test.YtjebpkhkjkjphaaGreatP3
import Derived.Test.YtjebpkhkjkjphaaGreatP4
namespace Go.Proofs.YtjebpkhkjkjphaaGreat
open Go.RowKit
set_option maxRecDepth 100000
set_option maxHeartbeats 16000000
def Ah (W:World) (B n:Nat) (f:Nat→Vl) (k:Nat):Prop:=∃ xs,W.ownsRow B 24 3 (.slice (some ⟨B,0,none⟩) n n) n xs∧∀ j:Nat,j<n→j<k→xs[j*3]? = some (.int .i64 (f j).1)∧xs[j*3+1]? = some (.int .i64 (f j).2.1)∧xs[j*3+2]? = some (.string (f j).2.2)
theorem Ah.step {W:World} {B n:Nat} {f:Nat→Vl} {k:Nat} (h:Ah W B n f k) (hk:k<n) :
  Ah (((W.setCell ⟨B,k*3,none⟩ (.int .i64 (f k).1)).setCell ⟨B,k*3+1,none⟩ (.int .i64 (f k).2.1)).setCell ⟨B,k*3+2,none⟩ (.string (f k).2.2)) B n f (k+1):=by
 obtain ⟨xs,h1,h2⟩:=h;have lx:=h1.1;refine ⟨_,((((h1.stored (k*3) _).1.stored (k*3+1) _).1).stored (k*3+2) _).1,?_⟩;intro j hj hjk;by_cases e:j=k
 ·subst e;refine ⟨?_,?_,?_⟩ <;> simp [List.getElem?_set,lx] <;> omega
 ·obtain ⟨g0,g1,g2⟩:=h2 j hj (by omega);refine ⟨?_,?_,?_⟩
  ·rw [Mt (by omega),Mt (by omega),Mt (by omega)]; exact g0
  ·rw [Mt (by omega),Mt (by omega),Mt (by omega)]; exact g1
  ·rw [Mt (by omega),Mt (by omega),Mt (by omega)]; exact g2
theorem Ah.next {W w1:World} {B n:Nat} {f:Nat→Vl} {k:Nat} (h:Ah W B n f k) (hb:Below W.heap.size W w1):Ah w1 B n f k:=by
 obtain ⟨xs,h1,h2⟩:=h;exact ⟨xs,bp h1 hb,h2⟩
theorem Ah.cells {W:World} {B n:Nat} {f:Nat→Vl} {k:Nat} (h:Ah W B n f k) (hk:k<n):(∃ u0 u1 u2,W.cell? ⟨B,k*3,none⟩=some u0∧W.cell? ⟨B,k*3+1,none⟩=some u1∧W.cell? ⟨B,k*3+2,none⟩=some u2)∧W.frozen? ⟨B,k*3,none⟩=false∧W.frozen? ⟨B,k*3+1,none⟩=false∧W.frozen? ⟨B,k*3+2,none⟩=false∧B<W.heap.size:=by
 obtain ⟨xs,h1,h2⟩:=h;have lx:=h1.1;refine ⟨⟨xs[k*3]'(by omega),xs[k*3+1]'(by omega),xs[k*3+2]'(by omega),?_,?_,?_⟩,h1.frozenAt _,h1.frozenAt _,h1.frozenAt _,(h1.lt B rfl).2⟩
 ·rw [h1.cellAt _ (by omega)]; exact Ms (by omega)
 ·rw [h1.cellAt _ (by omega)]; exact Ms (by omega)
 ·rw [h1.cellAt _ (by omega)]; exact Ms (by omega)
theorem Ah.done {W:World} {B n:Nat} {f:Nat→Vl} (h:Ah W B n f n) (vs:List Vl) (hn:n=vs.length) (hv:∀ j (hj:j<vs.length),f j=vs[j]) (h8:vs.length≤100):bg W (some ⟨B,0,none⟩) vs∧gp W (some ⟨B,0,none⟩):=by
 obtain ⟨xs,h1,h2⟩:=h;subst hn;refine ⟨⟨by unfold maxLen; omega,.inr ⟨B,0,rfl,?_,(h1.lt B rfl).2⟩⟩,?_⟩
 ·intro i hi;obtain ⟨g0,g1,g2⟩:=h2 i hi hi;rw [hv i hi] at g0 g1 g2;refine ⟨?_,?_,?_⟩
  ·rw [h1.cellAt _ (by omega),← g0]; congr 1; omega
  ·rw [h1.cellAt _ (by omega),← g1]; congr 1; omega
  ·rw [h1.cellAt _ (by omega),← g2]; congr 1; omega
 ·intro b off e;obtain ⟨_,⟨e',_⟩ | ⟨g,cap,cur,e',_,hh,_⟩⟩:=h1
  ·cases e'
  ·simp only [Value.slice.injEq,NC,Addr.mk.injEq] at e e';obtain ⟨rfl,_⟩:=e;rw [← e'.1.1] at hh;exact ⟨_,_,hh⟩
def tU (B:Nat) (W:World) (l:List Vl):Prop:=bg W (some ⟨B,0,none⟩) l∧gp W (some ⟨B,0,none⟩)
def ko (af:List Int) (lo:Nat) (u:Value) (xs:List Ex) (w:World):Prop :=
 ∃ g cb,u = .func (.func g) #[] cb∧(∀ args w,(callFunc g args).run Tryz.prog w = .ok (.enter g args) w) ∧
  ∀ (row:List Vl) (a:Option Addr) (cap:Nat) (W:World),fM af row→bg W a row→Since lo w W →
   Calls Tryz.prog g (#[.slice a row.length cap] ++ cb) W fun e w'=>e = .returned (.slice (some ⟨W.heap.size,0,none⟩) xs.length xs.length)∧tU W.heap.size w' (fj xs row)∧Below W.heap.size W w'
theorem ko.next {af:List Int} {lo:Nat} {u:Value} {xs:List Ex} {w w1:World} (h:ko af lo u xs w) (hb:Since lo w w1):ko af lo u xs w1:=by
 obtain ⟨g,cb,e,eg,hd⟩:=h;exact ⟨g,cb,e,eg,fun row a cap W hf hs hW=>hd row a cap W hf hs (hb.trans hW)⟩
theorem ko.down {af:List Int} {lo lo':Nat} {u:Value} {xs:List Ex} {w:World} (h:ko af lo u xs w) (hl:lo'≤lo):ko af lo' u xs w:=by
 obtain ⟨g,cb,e,eg,hd⟩:=h;exact ⟨g,cb,e,eg,fun row a cap W hf hs hW=>hd row a cap W hf hs (hW.up hl)⟩
theorem Eg (af:List Int) (lo:Nat) (vb:Nat) (xs:List Ex) (a:Option Addr) (row:List Vl) (cap:Nat) (W:World) (hK:lV af lo W vb xs) (h8:xs.length≤8) (hf:fM af row) (hs:bg W a row) :
  Calls Tryz.prog 110 #[.slice a row.length cap,.pointer (some ⟨vb,0,none⟩)] W fun e w'=>e = .returned (.slice (some ⟨W.heap.size,0,none⟩) xs.length xs.length)∧tU W.heap.size w' (fj xs row)∧Below W.heap.size W w':=by
 obtain ⟨i0,hi,hz0,hz1,hz2⟩:=info_parts Tryz.qs;obtain ⟨K,k1,k2,k3,k4,k5,k6⟩:=hK;have HK:=aw k6;go_enter Tryz.func110,Tryz.ntmps110;go_wp2_with (first | (at_make; refine wpList_make_full _ rfl _ _ 61 rfl W.heap.size 24 i0 _ 3 Tryz.underlying61 hi hz0 hz1 .i64 .i64 xs.length xs.length xs.length rfl rfl rfl rfl (by rw [hz2]; omega) (by unfold maxLen; omega) (Mc _) ?_))
 intro w1 hown hgrow;have hb0:Below W.heap.size W w1:=(Md _ _).grown hgrow (Mc _) (by simp);have hB0:Ah w1 W.heap.size xs.length (fun j=>aW row (xs.getD j (.mk 0 eD 0 []))) 0:=⟨_,hown,fun j _ hj=>absurd hj (MP _)⟩
 have c1:=(hb0.cell (p:=⟨vb,0,none⟩) k2).trans k5;clear hown hgrow k5 k6;go_wp2_with fail
 clear c1;go_loopw [12] (fun i wr=>∃ k:Nat,k≤xs.length∧i = .int .i64 k∧Ah wr W.heap.size xs.length (fun j=>aW row (xs.getD j (.mk 0 eD 0 []))) k∧Below W.heap.size W wr) (fun i _=>xs.length - (intOf i).toNat)
 case atStart=>exact ⟨0,Mj _,rfl,hB0,hb0⟩
 case round =>
  obtain ⟨k,hk,rfl,HB,hb⟩:=hrel;have hz:=hb.size;by_cases hlt:k<xs.length
  ·obtain ⟨u,cu,A⟩:=HK.out k hlt;have cu:=(hb.cell (p:=⟨K,k,none⟩) k4).trans cu;obtain ⟨g,cb,rfl,eg,d⟩:=A;have d:=d row a cap wr hf (hs.next hb) (Since.of hb);dsimp only at d;have ev:aW row xs[k]=(fun j=>aW row (xs.getD j (.mk 0 eD 0 []))) k:=by simp [List.getD,hlt]
   rw [ev] at d;generalize (fun j=>aW row (xs.getD j (.mk 0 eD 0 [])))=f at *;have i0:(0:Int)≤(k:Int):=by omega
   have i1:(k:Int)<(xs.length:Int):=by omega
   go_wp2_with (go_at_fn g; refine d.mono ?_; rintro e w2 ⟨rfl,hb2⟩; have HB2:=HB.next hb2; obtain ⟨⟨u0,u1,u2,d0,d1,d2⟩,f0,f1,f2,hlb⟩:=HB2.cells hlt; have zz:=hb2.size)
   go_roundw
   case rel =>
    refine ⟨k+1,by omega,by go_num,?_,?_⟩
    ·exact HB2.step hlt
    ·exact (((chain hb hb2).setCell (p:=⟨W.heap.size,k*3,none⟩) (Mc _) _).setCell (p:=⟨W.heap.size,k*3+1,none⟩) (Mc _) _).setCell (p:=⟨W.heap.size,k*3+2,none⟩) (Mc _) _
   case measure=>simp [intOf]; omega
  ·have e:k=xs.length:=by omega
   subst e;go_wp2
   go_ret;exact ⟨rfl,HB.done (fj xs row) (by simp [fj]) (fun j hj=>by simp [fj] at hj; simp [fj,List.getD,hj]) (by simp [fj]; omega),hb⟩
theorem uA.Jx {af:List Int} {w:World} {n:Nat} (ks:List Ex) (hn:n=ks.length) (T T':TypeId) :
  uA af w.heap.size (w.heap.size+1) (w.heap.size+2) ((w.alloc (.cells (Array.replicate n Value.nilFunc) T)).alloc (.cells #[.slice (some ⟨w.heap.size,0,none⟩) n n] T')) ks 0:=by
 subst hn;refine ⟨⟨by omega,by omega,by omega,by simp⟩,?_,fun i hi=>⟨⟨Value.nilFunc,?_⟩,?_⟩,fun i _ h=>absurd h (MP _)⟩
 ·rw [M0 _ _ _ _ (by simp)]; rfl
 ·rw [World.cell?_alloc_past _ _ _ (by simp),M0 _ _ _ _ rfl];simp [hi]
 ·rw [World.frozen?_alloc_past _ _ _ (by simp)];exact Nu _ _ _ _ rfl
theorem tZ (af:List Int) (xs:List Ex) (ca:Option Addr) (ccap:Nat) (xa:Option Addr) (xcap:Nat) (w:World) (hk:aX w.heap.size w xa xs) (hc:bG w.heap.size w ca af) :
  Calls Tryz.prog 79 #[.slice ca af.length ccap,.slice xa xs.length xcap] w fun e w'=>∃ u,e = .returned (.tuple #[u,.int .i64 (bU af xs)])∧((bU af xs=0∧ko af w.heap.size u xs w')∨(¬ bU af xs=0∧u = .nilFunc))∧Below w.heap.size w w':=by
 by_cases h8:8<xs.length
 ·have e:bU af xs=5:=by simp [bU,h8]
  rw [e];have hz:(8:Int)<(xs.length:Int):=by omega
  go_enter Tryz.func79,Tryz.ntmps79;go_wp2
  exact Me (v:=.tuple #[.nilFunc,.int .i64 5]) (by simp [results,Tryz.results79,go_sem]) rfl ⟨_,rfl,.inr ⟨by decide,rfl⟩,Md _ _⟩
 ·have e:bU af xs=dJ af xs:=by simp [bU,h8]
  have HE:=aw e;generalize bU af xs=le at *;clear e;have hmk:=qW (show xs.length≤8 by omega);have F0:uA af w.heap.size (w.heap.size+1) (w.heap.size+2) ((w.alloc (.cells (Array.replicate xs.length Value.nilFunc) 156)).alloc (.cells #[.slice (some ⟨w.heap.size,0,none⟩) xs.length xs.length] 159)) xs 0:=uA.Jx xs rfl _ _
  have hA:Below w.heap.size w ((w.alloc (.cells (Array.replicate xs.length Value.nilFunc) 156)).alloc (.cells #[.slice (some ⟨w.heap.size,0,none⟩) xs.length xs.length] 159)):=((Md _ _).alloc (Mc _) _).alloc (by simp) _;have hz:¬ (8:Int)<(xs.length:Int):=by omega
  go_enter Tryz.func79,Tryz.ntmps79;go_wp2_with fail
  generalize (w.alloc (.cells (Array.replicate xs.length Value.nilFunc) 156)).alloc (.cells #[.slice (some ⟨w.heap.size,0,none⟩) xs.length xs.length] 159)=w2 at *;clear hmk;go_loopw [20] (fun i wr=>∃ j:Nat,j≤xs.length∧i = .int .i64 j∧uA af w.heap.size (w.heap.size+1) (w.heap.size+2) wr xs j∧Hid (dJ af xs=dJ af (xs.drop j))∧Below w.heap.size w wr) (fun i _=>xs.length - (intOf i).toNat)
  case atStart=>exact ⟨0,Mj _,rfl,F0,rfl,hA⟩
  case round =>
   clear F0 hA;obtain ⟨j,hj,rfl,F,HT,hb⟩:=hrel;have hz:=hb.size;have hzF:=F.lt.2.2.2;by_cases hlt:j<xs.length
   ·obtain ⟨b,off,ai,ci,rfl,hbl,sx,kx⟩:=(aX.next hb (Mc _) hk).elem hlt;obtain ⟨x0,x1,x2,x3,x4,x5⟩:=sx;have hal:=aa wr (.cells (fS xs[j] ai ci) 27);have Fk:=F.next hal;have Sk:=jP.new wr xs[j].k xs[j].v xs[j].c ai xs[j].ks.length ci 27
    have zk:(wr.alloc (.cells (fS xs[j] ai ci) 27)).heap.size=wr.heap.size+1:=by simp
    have kk:=(aX.next hal hz kx).up (show w.heap.size≤(wr.alloc (.cells (fS xs[j] ai ci) 27)).heap.size by omega);have cc:=((hc.next hb (Mc _)).next hal hz).up (show w.heap.size≤(wr.alloc (.cells (fS xs[j] ai ci) 27)).heap.size by omega);obtain ⟨k0,k1,k2,k3,k4,k5⟩:=Sk;simp only [Mq] at k1 k2 k3 k4 k5;have hjz:(j:Int)<xs.length:=by omega
    by_cases h0:(an af xs[j]).2=0
    ·have con:=iG af xs[j] ca ccap ai ci _ kk cc h0;have H0:=aw h0;clear h0;generalize (an af xs[j]).1=t at *;go_wp2_with fail
     clear x0 x1 x2 x3 x4 x5 kx k0 k1 k2 k3 k4 k5 kk cc;generalize wr.alloc (.cells (fS xs[j] ai ci) 27)=wk at *;refine con.mono ?_;rintro e w3 ⟨u,rfl,hA3,hb3⟩;clear con;have F3:=Fk.next hb3;have q1:=F3.box;obtain ⟨⟨un,q2⟩,q3⟩:=F3.room j hlt;obtain ⟨ug,ucb,rfl⟩:∃ g cb,u = .func (.func g) #[] cb:=by obtain ⟨g,cb,e,_⟩:=hA3; exact ⟨g,cb,e⟩
     go_wp2
     go_roundw
     case rel=>exact ⟨j+1,by omega,by go_num,F3.store hlt (hA3.down (by omega)),HT.out.trans (vK af xs j hlt H0.out),(chain (chain hb hal) hb3).setCell (p:=⟨w.heap.size,j,none⟩) (Mc _) _⟩
     case measure=>simp [intOf]; omega
    ·have con:=kI af xs[j] ca ccap ai ci _ kk cc h0;have HN:Hid (le=(an af xs[j]).2):=HE.out.trans (HT.out.trans (yz af xs j hlt h0));have q:((an af xs[j]).2 != 0)=true:=by simpa using h0
     generalize (an af xs[j]).2=t2 at *;go_wp2_with fail
     clear x0 x1 x2 x3 x4 x5 kx k0 k1 k2 k3 k4 k5 kk cc;generalize wr.alloc (.cells (fS xs[j] ai ci) 27)=wk at *;refine con.mono ?_;rintro e w3 ⟨rfl,hb3⟩;clear con;go_wp2
     exact Me (v:=.tuple #[.nilFunc,.int .i64 t2]) (by simp [results,Tryz.results79,go_sem]) rfl ⟨_,by rw [HN.out],.inr ⟨by rw [HN.out]; exact h0,rfl⟩,chain (chain hb hal) hb3⟩
   ·have e:j=xs.length:=by omega
    subst e;have HN:Hid (le=0):=HE.out.trans (HT.out.trans (zI af xs _ (Mc _)));have KF:Hid (lV af w.heap.size wr (w.heap.size+1) xs):=F.kids (Mc _) (by omega);go_wp2_with fail
    refine Me (v:=.tuple #[.func (.func 110) #[] #[.pointer (some ⟨w.heap.size+1,0,none⟩)],.int .i64 0]) (by simp [results,Tryz.results79,go_sem]) rfl ⟨_,by rw [HN.out],.inl ⟨HN.out,110,_,rfl,enters_of Tryz.func110 (by kernel_rfl) rfl,fun row a cap W hf hs hW=>?_⟩,hb⟩;exact Eg af w.heap.size (w.heap.size+1) xs a row cap W (KF.out.next hW) (by omega) hf hs
theorem Cj (af:List Int) (row:List Vl) (k:Nat) (h:row.length≤k):fx (af.drop k) (row.drop k)=0:=by
 rw [MG h]; cases af.drop k <;> rfl
theorem wJ (af:List Int) (row:List Vl) (k:Nat) (h:k<row.length) (h':k<af.length) (e:¬ bt row[k]=0):fx (af.drop k) (row.drop k)=bt row[k]:=by
 rw [Mi h,Mi h',fx,if_pos e]
theorem xD (af:List Int) (row:List Vl) (k:Nat) (h:k<row.length) (h':k<af.length) (e:bt row[k]=0) (e1:¬ row[k].1=1) (e2:¬ row[k].1=af[k]):fx (af.drop k) (row.drop k)=9:=by
 rw [Mi h,Mi h',fx,if_neg (by simp [e]),if_pos ⟨e1,e2⟩]
theorem qV (af:List Int) (row:List Vl) (k:Nat) (h:k<row.length) (h':k<af.length) (e:bt row[k]=0) (e1:row[k].1=1∨row[k].1=af[k]):fx (af.drop k) (row.drop k)=fx (af.drop (k+1)) (row.drop (k+1)):=by
 rw [Mi h,Mi h',fx,if_neg (by simp [e]),if_neg (by omega)]
theorem GS (af:List Int) (row:List Vl) (ca:Option Addr) (ccap:Nat) (ra:Option Addr) (rcap:Nat) (w:World) (hc:bG w.heap.size w ca af) (hs:bg w ra row) :
  Calls Tryz.prog 43 #[.slice ca af.length ccap,.slice ra row.length rcap] w fun e w'=>e = .returned (.int .i64 (fP af row))∧Below w.heap.size w w':=by
 have hl:=hs.1;unfold maxLen at hl;generalize hr:fP af row=r;have HR:=aw hr;clear hr;by_cases hlen:row.length=af.length
 ·have HG:Hid (fx af row=r):=by show fx af row=r; rw [← HR.out,fP,if_neg (by simp [hlen])]
  have HL:=aw hlen;have q:((row.length:Int) != (af.length:Int))=false:=by simp; omega
  clear HR hlen;go_enter Tryz.func43,Tryz.ntmps43;go_wp2_with fail
  go_loopw [15] (fun i wr=>∃ j:Nat,j≤row.length∧i = .int .i64 j∧Hid (fx af row=fx (af.drop j) (row.drop j))∧Below w.heap.size w wr) (fun i _=>row.length - (intOf i).toNat)
  case atStart=>exact ⟨0,Mj _,rfl,rfl,Md _ _⟩
  case round =>
   obtain ⟨j,hj,rfl,HE,hb⟩:=hrel;have hz:=hb.size;by_cases hlt:j<row.length
   ·have hlt':j<af.length:=by have:=HL.out; omega
    obtain ⟨b,off,rfl,hbl,r0,r1,r2⟩:=(hs.next hb).elem hlt;obtain ⟨b',off',rfl,hbl',c0⟩:=(hc.next hb (Mc _)).elem hlt';generalize hv:row[j]=v at *;generalize hcj:af[j]=cj at *;have HV:=aw hv;have HC:=aw hcj;clear hv hcj;obtain ⟨k,n,s⟩:=v;have A0:=gu.new wr (.int .i64 k) (.int .i64 n) (.string s) 24;have d0:(wr.alloc (.cells #[.int .i64 k,.int .i64 n,.string s] 24)).cell? ⟨b',off'+j,none⟩=some (.int .i64 cj):=by
     rw [World.cell?_alloc_lt _ _ _ (by show b'<wr.heap.size; omega)]; exact c0
    go_wp2_with fail
    refine (iy _ _ _ _).mono ?_;rintro e w1 ⟨rfl,hb1⟩;have hb1':=hb.trans (kO hb1 |>.mono hz);have A1:=A0.next hb1;have c1:=(hb1.cell (p:=⟨b',off'+j,none⟩) (by simp; omega)).trans d0;clear r0 r1 r2 c0 A0 d0;by_cases hw:aU k n s=0
    ·rw [hw];have HW:Hid (bt row[j]=0):=by show bt row[j]=0; rw [HV.out]; exact hw
     clear hw;have p0:=aq A1.c0;have p1:=aq c1;haveI:Nonempty (dG w1):=⟨⟨_,Md _ _⟩⟩
     by_cases k1:k=1;subst k1;have HN:Hid (fx (af.drop j) (row.drop j)=fx (af.drop (j+1)) (row.drop (j+1))):=qV af row j hlt hlt' HW.out (.inl (by rw [HV.out]));rotate_left;have q1:(k != 1)=true:=by simpa using k1
     by_cases kc:k=cj;subst kc;have HN:Hid (fx (af.drop j) (row.drop j)=fx (af.drop (j+1)) (row.drop (j+1))):=qV af row j hlt hlt' HW.out (.inr (by rw [HV.out,HC.out]));rotate_left;have q2:(k != cj)=true:=by simpa using kc
     have er:r=9:=by rw [← HG.out,HE.out,xD af row j hlt hlt' HW.out (by rw [HV.out]; exact k1) (by rw [HV.out,HC.out]; exact kc)]
     subst er;clear HG HE;go_wp2_with fail
     refine aI (by kernel_rfl) (by kernel_rfl) ?_
     repeat (go_big_quiet_step (fail))
     refine wpQuiet_nil ?_;rintro w2 ⟨⟨v2,hb2⟩,h2⟩;obtain rfl:w2=v2:=h2;clear p0 p1 A1 c1;go_wp2_with fail
     go_ret;exact ⟨rfl,chain hb1' hb2⟩
     all_goals
      go_wp2_with fail
      refine aI (by kernel_rfl) (by kernel_rfl) ?_
      repeat (go_big_quiet_step (fail))
      refine wpQuiet_nil ?_;rintro w2 ⟨⟨v2,hb2⟩,h2⟩;obtain rfl:w2=v2:=h2;clear p0 p1 A1 c1;go_wp2_with fail
      go_roundw
      case rel=>exact ⟨j+1,by omega,by go_num,HE.out.trans HN.out,chain hb1' hb2⟩
      case measure=>simp [intOf]; omega
    ·have er:r=aU k n s:=by rw [← HG.out,HE.out,wJ af row j hlt hlt' (by rw [HV.out]; exact hw),HV.out]; rfl
     subst er;clear HG HE;have q3:(aU k n s != 0)=true:=by simpa using hw
     go_wp2_with fail
     go_ret;exact ⟨rfl,hb1'⟩
   ·have er:r=0:=by rw [← HG.out,HE.out,Cj af row j (by omega)]
    subst er;clear HG HE;go_wp2_with fail
    go_ret;exact ⟨rfl,hb⟩
 ·have er:r=8:=by rw [← HR.out,fP,if_pos hlen]
  subst er;have q:((row.length:Int) != (af.length:Int))=true:=by simp; omega
  clear HR;go_enter Tryz.func43,Tryz.ntmps43;go_wp2_with fail
  go_ret;exact ⟨rfl,Md _ _⟩
end Go.Proofs.YtjebpkhkjkjphaaGreat
namespace Go.Proofs.YtjebpkhkjkjphaaGreat
open Go.RowKit Go.Lib Go.Shelf
set_option maxRecDepth 100000
set_option maxHeartbeats 16000000
theorem gK (af:List Int) (ca:Option Addr) (ccap:Nat) (a:Option Addr) (cap:Nat) (l:List Zp) (w:World) (hc:bG w.heap.size w ca af) (h:bc w a l) :
  Calls Tryz.prog 29 #[.slice ca af.length ccap,.slice a l.length cap] w fun e w'=>e = .returned (.int .i64 (cz af l))∧Below w.heap.size w w':=by
 have hl:=h.1;unfold maxLen at hl;have hcl:=hc.1;unfold maxLen at hcl;by_cases h8:8<af.length
 ·have e:cz af l=5:=by simp [cz,h8]
  rw [e];have hz:(8:Int)<(af.length:Int):=by omega
  go_enter Tryz.func29,Tryz.ntmps29;go_wp2
  go_ret;exact ⟨rfl,Md _ _⟩
 have hz:¬ (8:Int)<(af.length:Int):=by omega
 by_cases hw:aR l=0
 ·have e:cz af l=ic af l:=by simp [cz,h8,hw]
  rw [e];clear e;have Hw:=aw hw;clear hw;go_enter Tryz.func29,Tryz.ntmps29;go_wp2_with fail
  refine (eN _ _ _ _ h).mono ?_;rintro e w1 ⟨rfl,hb1⟩;rw [Hw.out];go_wp2_with fail
  go_loopw [19] (fun i wr=>∃ k:Nat,k≤l.length∧i = .int .i64 k∧Hid (ic af l=ic af (l.drop k))∧Below w.heap.size w wr) (fun i _=>l.length - (intOf i).toNat)
  case atStart=>exact ⟨0,Mj _,rfl,rfl,hb1⟩
  case round =>
   obtain ⟨k,hk,rfl,HC,hb⟩:=hrel;have hz:=hb.size;by_cases hlt:k<l.length
   ·obtain ⟨b,off,rfl,hbl,c1,ar,cr,c0,sr⟩:=(h.next hb).elem hlt;have hA:=hb.alloc hz (.cells #[.slice ar l[k].1.length cr,.int .i64 l[k].2] 63);have hal:=aa wr (.cells #[.slice ar l[k].1.length cr,.int .i64 l[k].2] 63);have con:=GS af l[k].1 ca ccap ar cr _ ((hc.next hA (Mc _)).up hA.size) (sr.next hal);by_cases hw:fP af l[k].1=0
    ·have Hw:=aw hw;rw [hw] at con;clear hw;go_wp2_with fail
     refine con.mono ?_;rintro e w2 ⟨rfl,hb2⟩;go_wp2
     go_roundw
     case rel=>exact ⟨k+1,by omega,by go_num,HC.out.trans (zG af l k hlt Hw.out),mr hb hb2⟩
     case measure=>simp [intOf]; omega
    ·have HN:Hid (ic af l=fP af l[k].1):=HC.out.trans (Cy af l k hlt hw);have hne:(fP af l[k].1 != 0)=true:=by simpa using hw
     generalize fP af l[k].1=t at *;go_wp2_with fail
     refine con.mono ?_;rintro e w2 ⟨rfl,hb2⟩;go_wp2
     go_ret;exact ⟨aN HN.out.symm,mr hb hb2⟩
   ·have HN:Hid (ic af l=0):=HC.out.trans (BJ af l k (by omega));go_wp2
    go_ret;exact ⟨aN HN.out.symm,hb⟩
 ·have e:cz af l=aR l:=by simp [cz,h8,hw]
  rw [e];have hne:(aR l != 0)=true:=by simpa using hw
  go_enter Tryz.func29,Tryz.ntmps29;go_wp2_with fail
  refine (eN _ _ _ _ h).mono ?_;rintro e w1 ⟨rfl,hb1⟩;go_wp2
  go_ret;exact ⟨rfl,hb1⟩
def po (w0:World) (base:Nat) (W:World) (v:Value) (l:List Zp):Prop:=∃ xs,W.ownsRow base 63 2 v l.length xs∧ku w0 xs l
theorem po.next {w0 W w1:World} {base:Nat} {v:Value} {l:List Zp} (h:po w0 base W v l) (hb:Below W.heap.size W w1):po w0 base w1 v l:=by
 obtain ⟨xs,h1,h2⟩:=h;exact ⟨xs,bp h1 hb,h2⟩
theorem po.zs {w0 W:World} {base:Nat} {v:Value} {l:List Zp} (h:po w0 base W v l) (hb:Below w0.heap.size w0 W):∃ a cap,v = .slice a l.length cap∧bc W a l∧(a=none→cap=0):=by
 obtain ⟨xs,h1,h2⟩:=h;have h1':=h1;obtain ⟨hx,⟨rfl,h0⟩ | ⟨g,cap,cur,rfl,hg,hh,hn,hc,hs,ht⟩⟩:=h1
 ·have:l = []:=Mo h0;subst this;exact ⟨none,0,rfl,⟨by simp,.inl rfl⟩,fun _=>rfl⟩
 ·refine ⟨_,cap,rfl,⟨by omega,.inr ⟨g,0,rfl,(h1'.lt g rfl).2,fun i hi=>?_⟩⟩,fun e=>by cases e⟩;obtain ⟨a,cp,e0,e1,e2⟩:=h2.2 i hi;refine ⟨?_,a,cp,?_,e2.next hb⟩
  ·rw [h1'.cellAt _ (by omega),← e1]; congr 1; omega
  ·rw [h1'.cellAt _ (by omega),← e0]; congr 1; omega
theorem jA {lo base e size n:Nat} {W w1:World} {v:Value} {xs:List Value} (h:W.ownsRow base e size v n xs) (hl:lo≤base) (hs:Since lo W w1):w1.ownsRow base e size v n xs:=by
 have h':=h;obtain ⟨hx,h1 | ⟨g,cap,cur,rfl,hg,hh,rest⟩⟩:=h
 ·exact ⟨hx,.inl h1⟩
 ·exact ⟨hx,.inr ⟨g,cap,cur,rfl,hg,by rw [hs.2 g (by omega) (h'.lt g rfl).2]; exact hh,rest⟩⟩
theorem je {l:List Zp} (p:Zp→Bool) {k:Nat} (h:k<l.length):(l.take (k+1)).filter p=(l.take k).filter p ++ (if p l[k]=true then [l[k]] else []):=by
 rw [Mp h,List.filter_append]
 congr 1
 rw [List.filter_cons];rfl
theorem nL (g:Nat) (cb:Array Value) (p:Zp→Bool) (a:Option Addr) (cap:Nat) (l:List Zp) (w0 w:World) (Inv:World→Prop) (h:bc w0 a l) (hl:l.length≤100000)
  (eg:∀ args w,(callFunc g args).run Tryz.prog w = .ok (.enter g args) w) (hI0:Inv w) (hI1:∀ W,Inv W→Below w0.heap.size w0 W) (hI2:∀ W W',Inv W→Below w.heap.size W W'→Inv W')
  (hcall:∀ x ∈ l,∀ (ra:Option Addr) (rc:Nat) (W:World),Inv W→bg w0 ra x.1→w.heap.size≤W.heap.size→Calls Tryz.prog g (#[.agg #[.slice ra x.1.length rc,.int .i64 x.2]] ++ cb) W fun e w'=>e = .returned (.bool (p x))∧Inv w'∧Since w.heap.size W w') :
  Calls Tryz.prog 77 #[.slice a l.length cap,.func (.func g) #[] cb] w fun e w'=>∃ v,e = .returned v∧po w0 w.heap.size w' v (l.filter p)∧Inv w'∧w.heap.size≤w'.heap.size:=by
 obtain ⟨i0,hi,hj0,hj1,hj2⟩:=info_parts Tryz.gH;have HC:=aw hcall;have H1:=aw hI1;have H2:=aw hI2;clear hcall hI1 hI2;go_enter Tryz.func77,Tryz.ntmps77;go_wp2_with fail
 go_loopw [5,10] (fun v i wr=>∃ k:Nat,k≤l.length∧i = .int .i64 k∧po w0 w.heap.size wr v ((l.take k).filter p)∧Hid (Inv wr)∧w.heap.size≤wr.heap.size) (fun _ i _=>l.length - (intOf i).toNat)
 case atStart=>exact ⟨0,Mj _,rfl,⟨[],by simpa using MM _ _ _ _,by simp [ku]⟩,hI0,Mc _⟩
 case round =>
  clear hI0;obtain ⟨k,hk,rfl,HO,HI,hz⟩:=hrel;by_cases hlt:k<l.length
  ·obtain ⟨b,off,rfl,hbl,d1,ar,cr,d0,sr⟩:=h.elem hlt;have hB:=H1.out _ HI.out;have c1:=(hB.cell (p:=⟨b,_,none⟩) hbl).trans d1;have c0:=(hB.cell (p:=⟨b,_,none⟩) hbl).trans d0;have hbl':b<wr.heap.size:=Mh hbl hB.size;have hlen:((l.take k).filter p).length≤k:=by have:=M5 p (l.take k); simp only [MH] at this; omega
   have hal:=aa wr (.cells #[.slice ar l[k].1.length cr,.int .i64 l[k].2] 63);have IA:Inv (wr.alloc (.cells #[.slice ar l[k].1.length cr,.int .i64 l[k].2] 63)):=H2.out _ _ HI.out (hal.mono hz);have con:=HC.out l[k] (Mk hlt) ar cr _ IA sr (Mr hz hal.size);have q0:(wr.alloc (.cells #[.slice ar l[k].1.length cr,.int .i64 l[k].2] 63)).cell? ⟨wr.heap.size,0,none⟩=some (.slice ar l[k].1.length cr):=by simp
   have q1:(wr.alloc (.cells #[.slice ar l[k].1.length cr,.int .i64 l[k].2] 63)).cell? ⟨wr.heap.size,1,none⟩=some (.int .i64 l[k].2):=by simp
   have za:(wr.alloc (.cells #[.slice ar l[k].1.length cr,.int .i64 l[k].2] 63)).heap.size=wr.heap.size+1:=by simp
   have HS:=aw sr;obtain ⟨xs,ho,he⟩:=HO;have HE:=aw he;have ho1:=bp ho hal;clear d0 d1 sr he ho IA;by_cases hp:p l[k]=true
   ·rw [hp] at con;have HP:=aw hp;clear hp
    go_wp2_with (first | (go_at_fn g; refine con.mono ?_; rintro e w1 ⟨rfl,I1,s1⟩; have r0:=(s1.cell (p:=⟨wr.heap.size,0,none⟩) hz (by show wr.heap.size<_; omega)).trans q0; have r1:=(s1.cell (p:=⟨wr.heap.size,1,none⟩) hz (by show wr.heap.size<_; omega)).trans q1; have z1:=s1.1; have o1:=jA ho1 (Mc _) s1) | (at_builtin; refine M9 _ rfl _ _ 37 rfl w.heap.size 63 i0 _ 2 32 Tryz.underlying37 hi hj0 hj1 hj2 rfl (by decide) _ _ _ rfl (o1.alloc _) ⟨w1.heap.size,0,none⟩ 1 1 [.slice ar l[k].1.length cr,.int .i64 l[k].2] rfl rfl ?Ac1 ?Ac2 ?Ac3 ?Ac4 ?Ac5 ?_))
    case Ac1 =>
     intro j u hj
     match j,hj with
     | 0,hj=>simp at hj; subst hj; simp [Addr.add]
     | 1,hj=>simp at hj; subst hj; simp [Addr.add]
    case Ac2=>intro u hu; simp at hu; rcases hu with rfl | rfl <;> rfl
    case Ac3=>unfold maxLen; omega
    case Ac4=>omega
    case Ac5=>simp; omega
    intro v' w5 ho5 hg5 _;have hb5:Below w.heap.size w1 w5:=((Md w.heap.size w1).alloc (by omega) _).grown hg5 (by simp; omega) (fun q hq=>((o1.alloc (.cells #[.slice ar l[k].1.length cr,.int .i64 l[k].2] 63)).lt q hq).1);have HI1:Hid (Inv w5):=H2.out _ _ I1 hb5;have z5:=hb5.size;clear hg5 o1 I1 con q0 q1 ho1;go_wp2
    go_roundw
    case rel=>exact ⟨k+1,by omega,by go_num,by rw [je p hlt,if_pos HP.out]; exact ⟨_,by simpa using ho5,HE.out.push HS.out⟩,HI1,by omega⟩
    case measure=>simp [intOf]; omega
   ·have hp:p l[k]=false:=by simpa using hp
    rw [hp] at con;have HP:=aw hp;clear hp;go_wp2_with (go_at_fn g; refine con.mono ?_; rintro e w1 ⟨rfl,I1,s1⟩)
    have o1:=jA ho1 (Mc _) s1;have z1:=s1.1;have HI1:=aw I1;clear con q0 q1 ho1 I1;go_roundw
    case rel=>exact ⟨k+1,by omega,by go_num,by rw [je p hlt,HP.out,if_neg (by decide),Nm]; exact ⟨_,o1,HE.out⟩,HI1,by omega⟩
    case measure=>simp [intOf]; omega
  ·have e:k=l.length:=by omega
   subst e;rw [MB] at HO;obtain ⟨av,cv,rfl,_⟩:=HO.zs (H1.out _ HI.out);go_wp2
   go_ret;exact ⟨_,rfl,HO,HI.out,hz⟩
end Go.Proofs.YtjebpkhkjkjphaaGreat
namespace Go.Proofs.YtjebpkhkjkjphaaGreat
open Go.RowKit Go.Lib
set_option maxRecDepth 100000
set_option maxHeartbeats 16000000
theorem jM {P:Program} {w:World} (base:Nat) (t ty e:TypeId) (i:TypeInfo) (size:Nat) (ht:P.underlying t=some (.slice e)) (hi:P.info? e=some i)
  (v:Value) (n:Nat) (xs:List Value) (hown:w.ownsRow base e size v n xs) (c:Nat):(Builtin.append_ #[t,t] ty #[v,.slice none 0 c]).run P w = .ok v w:=by
 rcases hown.2 with ⟨rfl,rfl⟩ | ⟨g,cap,cur,rfl,_,_,hnc,_⟩
 ·simp [Builtin.append_,run_underlying ht,sizeOf,typeInfo,hi,Builtin.lenOf,Builtin.firstCells]
 ·simp [Builtin.append_,run_underlying ht,sizeOf,typeInfo,hi,Builtin.lenOf,Builtin.firstCells,hnc,storeCells]
structure Raw (W:World) (a:Option Addr) (n size:Nat) (xs:List Value):Prop where
 len:xs.length=n*size
 one:∀ u ∈ xs,u.oneCell'=true
 nil:a=none→n=0
 at_:∀ ad,a=some ad→∀ j u,xs[j]? = some u→W.cell? (ad.add j)=some u
theorem Raw.next {W w1:World} {a:Option Addr} {n size:Nat} {xs:List Value} (h:Raw W a n size xs) (hb:Below W.heap.size W w1):Raw w1 a n size xs :=
 ⟨h.len,h.one,h.nil,fun ad e j u hj=>(hb.cell (Mm _ _ (h.at_ ad e j u hj))).trans (h.at_ ad e j u hj)⟩
theorem Raw.alloc {W:World} {a:Option Addr} {n size:Nat} {xs:List Value} (h:Raw W a n size xs) (o:Obj):Raw (W.alloc o) a n size xs:=h.next ((Md _ _).alloc (Mc _) _)
theorem dh {P:Program} {w:World} {ops:Array Oper} {rest:List Oper} {o:Oper} {a:Act} {Q:Exit→Act→World→Prop} (hgd:o.guard=none) (s x:Operand) (t:TypeId)
  (ho:o.op = .call { callee:=.builtin .append,args:=#[s,x],argTypes:=#[t,t] })
  (base:Nat) (e:TypeId) (i:TypeInfo) (z:Value) (size bytes:Nat) (ht:P.underlying t=some (.slice e)) (hi:P.info? e=some i) (hz:i.zero=some z)
  (hsize:i.size=size) (hby:i.bytes=bytes) (hzs:z.cells.size=size) (hsz:0<size)
  (v:Value) (n:Nat) (xs:List Value) (hs:a.eval s=v) (hown:w.ownsRow base e size v n xs)
  (ao:Option Addr) (m c:Nat) (news:List Value) (hx:a.eval x = .slice ao m c) (hr:Raw w ao m size news)
  (h63:n+m≤maxLen) (hbytes:(n+m)*bytes≤140737488355328) (hbase:base≤w.heap.size)
  (h:∀ v' w',w'.ownsRow base e size v' (n+m) (xs ++ news)→w.grownBy w' v.ownBlock→wpList P ops Q rest (a.put o.dst v') w'):wpList P ops Q (o :: rest) a w:=by
 rcases ao with _ | ad
 ·have hm:=hr.nil rfl;subst hm;have hnews:news = []:=Mo (by simpa using hr.len);subst hnews;refine wpList_plain hgd fun K hK'=>?_
  have hrun:=jM (P:=P) (w:=w) base t o.type e i size ht hi v n xs hown c;unfold Oper.wp;simp [execOp,ho,resolve,invoke,builtin,hs,hx,hrun,Result.andThen];exact hK' _ _ (by simpa using h v w (by simpa using hown) (World.grownBy.refl _ _))
 ·exact M9 _ hgd s x t ho base e i z size bytes ht hi hz hsize hby hzs hsz v n xs hs hown ad m c news hx hr.len (hr.at_ ad rfl) hr.one h63 hbytes hbase (fun v' w' h1 h2 _=>h v' w' h1 h2)
theorem jC {P:Program} (w:World) {ops:Array Oper} {rest:List Oper} {o:Oper} {a:Act} {Q:Exit→Act→World→Prop}
  (hg:o.guard=none) (s x:Operand) (t:TypeId) (hop:o.op=Op.call { callee:=Callee.builtin Builtin.append,args:=#[s,x],argTypes:=#[t,t] })
  (base:Nat) (e:TypeId) (i:TypeInfo) (size:Nat) (h1:P.underlying t=some (.slice e)) (h2:P.info? e=some i) (h4:i.size=size)
  (g k cap:Nat) (xs:List Value) (hs:a.eval s = .slice (some ⟨g,0,none⟩) k cap) (hown:w.ownsRow base e size (.slice (some ⟨g,0,none⟩) k cap) k xs) (ao:Option Addr) (m c:Nat) (news:List Value) (hx:a.eval x = .slice ao m c) (hr:Raw w ao m size news) (b1:k+m≤cap)
  (hK:∀ w',w'.ownsRow base e size (.slice (some ⟨g,0,none⟩) (k+m) cap) (k+m) (xs ++ news)→w.grownBy w' (some g)→wpList P ops Q rest (a.put o.dst (.slice (some ⟨g,0,none⟩) (k+m) cap)) w') :
  wpList P ops Q (o :: rest) a w:=by
 rcases ao with _ | ad
 ·have hm:=hr.nil rfl;subst hm;have hnews:news = []:=Mo (by simpa using hr.len);subst hnews;refine wpList_plain hg fun K hK'=>?_
  have hrun:=jM (P:=P) (w:=w) base t o.type e i size h1 h2 _ k xs hown c;unfold Oper.wp;simp [execOp,hop,resolve,invoke,builtin,hs,hx,hrun,Result.andThen];exact hK' _ _ (by simpa using hK w (by simpa using hown) (World.grownBy.refl _ _))
 ·exact wpList_append_fits w hg s x t hop base e i size h1 h2 h4 g k cap xs hs hown ad m c news hx hr.len (hr.at_ ad rfl) hr.one b1 hK
theorem sH (b off i:Nat):(⟨b,off,none⟩:Addr).add i=⟨b,off+i,none⟩:=by
 unfold Addr.add;by_cases h:i=0 <;> simp [h]
def bw:List Vl→List Value
 | []=>[]
 | v :: r=>.int .i64 v.1 :: .int .i64 v.2.1 :: .string v.2.2 :: bw r
theorem cJ:∀ l,(bw l).length=l.length*3
 | []=>rfl
 | v :: r=>by simp only [bw,NG,cJ r]; omega
theorem bO:∀ l t,bw (l ++ t)=bw l ++ bw t
 | [],_=>rfl
 | v :: r,t=>by simp only [M8,bw,bO r t]
theorem lK:∀ (l:List Vl) (j:Nat) (h:j<l.length),(bw l)[j*3]? = some (.int .i64 l[j].1)∧(bw l)[j*3+1]? = some (.int .i64 l[j].2.1)∧(bw l)[j*3+2]? = some (.string l[j].2.2)
 | [],_,h=>by simp at h
 | v :: r,0,_=>by simp [bw]
 | v :: r,j+1,h=>by
  have ih:=lK r j (by simpa using h)
  have e0:(j+1)*3=j*3+1+1+1:=by omega
  have e1:(j+1)*3+1=j*3+1+1+1+1:=by omega
  have e2:(j+1)*3+2=j*3+2+1+1+1:=by omega
  rw [e1,e2,e0]
  simp only [bw,List.getElem?_cons_succ,Nw]
  exact ih
theorem lH:∀ l,∀ u ∈ bw l,u.oneCell'=true
 | [],u,h=>by simp [bw] at h
 | v :: r,u,h=>by
  simp only [bw,Mu] at h
  rcases h with rfl | rfl | rfl | h
  ·rfl
  ·rfl
  ·rfl
  ·exact lH r u h
theorem fA {W:World} {a:Option Addr} {l:List Vl} (h:bg W a l):Raw W a l.length 3 (bw l):=by
 refine ⟨cJ l,lH l,?_,?_⟩
 ·intro e;rcases h.2 with h | ⟨b,off,e',_⟩
  ·rw [h]; rfl
  ·rw [e] at e'; cases e'
 ·intro ad e j u hj;have hlt:j<l.length*3:=by
   rcases ME j (l.length*3) with h | h
   ·exact h
   ·rw [MK (by rw [cJ]; exact h)] at hj; cases hj
  obtain ⟨b,off,e',_,c0,c1,c2⟩:=h.elem (k:=j / 3) (by omega);rw [e] at e';have e':=MO e';subst e';rw [sH];obtain ⟨g0,g1,g2⟩:=lK l (j / 3) (by omega);have hm:j % 3=0∨j % 3=1∨j % 3=2:=by omega
  rcases hm with hm | hm | hm
  ·have ej:j=j / 3*3:=by omega
   rw [ej,g0] at hj;rw [← hj,← c0]; congr 2; omega
  ·have ej:j=j / 3*3+1:=by omega
   rw [ej,g1] at hj;rw [← hj,← c1]; congr 2; omega
  ·have ej:j=j / 3*3+2:=by omega
   rw [ej,g2] at hj;rw [← hj,← c2]; congr 2; omega
theorem fh {B:Nat} {W:World} {a:Option Addr} {l:List Int} (h:bG B W a l):Raw W a l.length 1 (l.map (Value.int .i64)):=by
 refine ⟨by simp,by intro u hu; obtain ⟨x,_,rfl⟩:=List.mem_map.1 hu; rfl,?_,?_⟩
 ·intro e;rcases h.2 with h | ⟨b,off,e',_⟩
  ·rw [h]; rfl
  ·rw [e] at e'; cases e'
 ·intro ad e j u hj;have hlt:j<l.length:=by
   rcases ME j l.length with h | h
   ·exact h
   ·rw [MK (by simpa using h)] at hj; cases hj
  obtain ⟨b,off,e',_,c0⟩:=h.elem hlt;rw [e] at e';have e':=MO e';subst e';rw [sH,c0]
  simpa [hlt] using hj
theorem kG {W:World} {B n:Nat} {v:Value} {l:List Vl} (ho:W.ownsRow B 24 3 v n (bw l)) (hn:n=l.length):∃ a cap,v = .slice a l.length cap∧bg W a l∧gp W a∧(l.length≤cap∨a=none):=by
 subst hn;have ho':=ho;obtain ⟨hx,⟨rfl,h0⟩ | ⟨g,cap,cur,rfl,hg,hh,hn,hc,hs,ht⟩⟩:=ho
 ·have:l = []:=Mo h0;subst this;exact ⟨none,0,rfl,⟨by simp,.inl rfl⟩,(fun b off e=>by cases e),.inr rfl⟩
 ·refine ⟨_,cap,rfl,⟨by omega,.inr ⟨g,0,rfl,fun i hi=>?_,(ho'.lt g rfl).2⟩⟩,?_,.inl hn⟩
  ·obtain ⟨g0,g1,g2⟩:=lK l i hi;refine ⟨?_,?_,?_⟩
   ·rw [ho'.cellAt _ (by omega),← g0]; congr 1; omega
   ·rw [ho'.cellAt _ (by omega),← g1]; congr 1; omega
   ·rw [ho'.cellAt _ (by omega),← g2]; congr 1; omega
  ·intro b off e;have e:=MO e;injection e with e1 e2
   subst e1;exact ⟨_,_,hh⟩
theorem wy {W:World} {B n:Nat} {v:Value} {l:List Int} (ho:W.ownsRow B 3 1 v n (l.map (Value.int .i64))) (hn:n=l.length):∃ a cap,v = .slice a l.length cap∧bG W.heap.size W a l:=by
 subst hn;have ho':=ho;obtain ⟨hx,⟨rfl,h0⟩ | ⟨g,cap,cur,rfl,hg,hh,hn,hc,hs,ht⟩⟩:=ho
 ·have:l = []:=Mo h0;subst this;exact ⟨none,0,rfl,⟨by simp,.inl rfl⟩⟩
 ·refine ⟨_,cap,rfl,⟨by omega,.inr ⟨g,0,rfl,(ho'.lt g rfl).2,fun i hi=>?_⟩⟩⟩;have:=ho'.cellAt i (by omega);rw [Mq,this];simp [hi]
end Go.Proofs.YtjebpkhkjkjphaaGreat
namespace Go.Proofs
open Go.Shelf Go.RowKit Go.Lib
set_option maxRecDepth 100000
set_option maxHeartbeats 16000000
shelf_lay_g Lays8.n4 Nm8 4 at Tryz 123 as Tryz.growZ
end Go.Proofs
namespace Go.Proofs.YtjebpkhkjkjphaaGreat
open Go.RowKit Go.Lib Go.Shelf
set_option maxRecDepth 100000
set_option maxHeartbeats 16000000
theorem GO (n:Nat) (hn:n≤200000) (w:World) :
  Calls Tryz.prog 123 #[.slice none 0 0,.int .i64 n] w fun e w'=>∃ v,e = .returned v∧w'.ownsRow w.heap.size 63 2 v 0 []∧Below w.heap.size w w':=by
 obtain ⟨i0,hi,hj0,hj1,hj2⟩:=info_parts Tryz.gH;by_cases h0:n=0
 ·subst h0;refine (Any8.slices_Grow_room Tryz.growZ none 0 0 0 w (by omega) (by omega) (by omega) (by omega)).mono ?_;rintro e w' ⟨rfl,rfl⟩;exact ⟨_,rfl,MM _ _ _ _,Md _ _⟩
 ·refine (Any8.slices_Grow_grow Tryz.growZ i0 _ hi hj0 (by rw [hj1]; omega) none 0 0 n [] w (by omega) (by omega) (by rw [hj2]; omega) (by omega) (by simp) (by simp) (by intro a e; cases e)).mono ?_;rintro e w' ⟨rfl,rfl⟩;refine ⟨_,rfl,?_,((Md _ _).drew).alloc (Mc _) _⟩;rw [Mq];have hc:=grownCap_ge w n 0 63;have hm:=grownCap_le_maxLen w n 0 63 (by unfold maxLen; omega)
  have:=Nz (w:=w.drew) (base:=w.heap.size) (e:=63) (size:=2) (cur:=[].toArray ++ Builtin.zeroCells (Value.agg #[Value.slice none 0 0,Value.int IntKind.i64 0]).cells (n - 0) ++ Builtin.zeroCells (Value.agg #[Value.slice none 0 0,Value.int IntKind.i64 0]).cells (grownCap w n 0 63 - n)) (cap:=grownCap w n 0 63) (Mc _) hm (by simp [size_zeroCells,Value.cells]; omega);exact this
theorem vD {W:World} {xs ys:List Value} {l t:List Zp} (h:ku W xs l) (k:ku W ys t):ku W (xs ++ ys) (l ++ t):=by
 have lx:=h.1;have ly:=k.1;refine ⟨by simp [lx,ly]; omega,fun i hi=>?_⟩;by_cases hi':i<l.length
 ·obtain ⟨a',c',h1,h2,h3⟩:=h.2 i hi';rw [Mz hi'];refine ⟨a',c',?_,?_,h3⟩
  ·rw [Mx (by omega),h1]
  ·rw [Mx (by omega),h2]
 ·have hi2:i - l.length<t.length:=by simp at hi; omega
  obtain ⟨a',c',h1,h2,h3⟩:=k.2 (i - l.length) hi2;rw [No (by omega)];refine ⟨a',c',?_,?_,h3⟩
  ·rw [My (by omega),← h1]; congr 1; omega
  ·rw [My (by omega),← h2]; congr 1; omega
theorem JX {w:World} {a:Option Addr} {l:List Zp} (h:bc w a l):∃ news,ku w news l∧(∀ u ∈ news,u.oneCell'=true)∧(a=none→l = [])∧∀ ad,a=some ad→∀ j u,news[j]? = some u→w.cell? (ad.add j)=some u:=by
 obtain ⟨d,hd,hdl,hc⟩:=h.arr;refine ⟨(Go.Sort.flatK (gU w) 2 d).toList,⟨by simp [hd],fun i hi=>?_⟩,?_,?_,?_⟩
 ·have hi':i<d.size:=by omega
  have e:d[i]! = d[i]:=getElem!_pos d i hi';have el:Fo w d[i]=l[i]:=by
   have:l[i]=(d.toList.map (Fo w))[i]'(by simpa using hi'):=by simp [hdl]
   rw [this]; simp
  refine ⟨d[i].1.a,d[i].1.cap,?_,?_,?_⟩
  ·rw [NA,MX (by simp; omega),← getElem!_pos,nQ d i hi',e,← el]; rfl
  ·rw [NA,MX (by simp; omega),← getElem!_pos,pQ d i hi',e,← el]; rfl
  ·rw [← el]; exact d[i].2
 ·intro u hu;obtain ⟨j,hj,rfl⟩:=Nk hu;have hj':j<d.size*2:=by simpa using hj
  have e:(Go.Sort.flatK (gU w) 2 d).toList[j]=(Go.Sort.flatK (gU w) 2 d)[j]!:=by
   rw [Ni,getElem!_pos]
  rw [e,Go.Sort.get_flatK _ _ _ _ hj'];rcases Nat.mod_two_eq_zero_or_one j with h0 | h1
  ·rw [h0]; rfl
  ·rw [h1]; rfl
 ·intro e;rcases hc with h | ⟨b,off,e',_⟩
  ·exact h
  ·rw [e] at e'; cases e'
 ·intro ad e j u hj;have hj':j<d.size*2:=by
   rcases ME j (d.size*2) with h | h
   ·exact h
   ·rw [MK (by simpa using h)] at hj; cases hj
  rcases hc with h | ⟨b,off,e',hlt,hc⟩
  ·subst h; simp at hd; subst hd; simp at hj'
  ·rw [e] at e';injection e' with e'
   subst e';rw [gJ];rw [NA,MX (by simpa using hj')] at hj;injection hj with hj
   have:=hc j (by omega)
   rwa [getElem!_pos _ _ (by simpa using hj'),hj] at this
end Go.Proofs.YtjebpkhkjkjphaaGreat
namespace Go.Proofs.YtjebpkhkjkjphaaGreat
open Go.RowKit Go.Lib
set_option maxRecDepth 100000
set_option maxHeartbeats 16000000
def xf (xs ys:List Value):Nat→List Value
 | 0=>[]
 | 1=>xs
 | _=>xs ++ ys
def kr (n m:Nat):Nat→Nat
 | 0=>0
 | 1=>n
 | _=>n+m
theorem lI (n m k:Nat):kr n m k≤n+m:=by
 match k with
 | 0=>simp [kr]
 | 1=>simp [kr]
 | j+2=>simp [kr]
structure iQ (w:World) (B size n m:Nat) (xs ys:List Value):Prop where
 lt:B<w.heap.size
 at_:∀ k,k<2→∃ a cap q cs,w.cell? ⟨B,k,none⟩=some (.slice a q cap)∧Raw w a q size cs∧xf xs ys (k+1)=xf xs ys k ++ cs∧kr n m (k+1)=kr n m k+q
theorem iQ.new {w:World} {size n m:Nat} {xs ys:List Value} {a b:Option Addr} (ca cb:Nat) (h:Raw w a n size xs) (k:Raw w b m size ys) (T:TypeId) :
  iQ (w.alloc (.cells #[.slice a n ca,.slice b m cb] T)) w.heap.size size n m xs ys :=
 ⟨by simp,fun j hj=>by
  match j,hj with
  | 0,_=>exact ⟨a,ca,n,xs,by simp,h.alloc _,by simp [xf],by simp [kr]⟩
  | 1,_=>exact ⟨b,cb,m,ys,by simp,k.alloc _,by simp [xf],by simp [kr]⟩⟩
theorem iQ.next {w w1:World} {B size n m:Nat} {xs ys:List Value} (h:iQ w B size n m xs ys) (hb:Below w.heap.size w w1):iQ w1 B size n m xs ys :=
 ⟨Mh h.lt hb.size,fun k hk=>by
  obtain ⟨a,cap,q,cs,h1,h2,h3,h4⟩:=h.at_ k hk
  exact ⟨a,cap,q,cs,(hb.cell (p:=⟨B,k,none⟩) h.lt).trans h1,h2.next hb,h3,h4⟩⟩
end Go.Proofs.YtjebpkhkjkjphaaGreat
namespace Go.Proofs
open Go.Shelf Go.RowKit Go.Lib
shelf_lay_g Lays8.n4 Nm8 4 at Tryz 119 as Tryz.growV
end Go.Proofs
namespace Go.Proofs.YtjebpkhkjkjphaaGreat
open Go.RowKit Go.Lib Go.Shelf
set_option maxRecDepth 100000
set_option maxHeartbeats 16000000
theorem DU:(Tryz.prog.info? 24).map (fun i=>(i.zero,i.size,i.bytes))=some (some (.agg #[.int .i64 0,.int .i64 0,.string ⟨#[]⟩]),3,32):=by kernel_rfl
theorem FR (n:Nat) (hn:n≤1000) (w:World) :
  Calls Tryz.prog 119 #[.slice none 0 0,.int .i64 n] w fun e w'=>∃ v,e = .returned v∧w'.ownsRow w.heap.size 24 3 v 0 []∧Below w.heap.size w w':=by
 obtain ⟨i0,hi,hj0,hj1,hj2⟩:=info_parts DU;by_cases h0:n=0
 ·subst h0;refine (Any8.slices_Grow_room Tryz.growV none 0 0 0 w (by omega) (by omega) (by omega) (by omega)).mono ?_;rintro e w' ⟨rfl,rfl⟩;exact ⟨_,rfl,MM _ _ _ _,Md _ _⟩
 ·refine (Any8.slices_Grow_grow Tryz.growV i0 _ hi hj0 (by rw [hj1]; omega) none 0 0 n [] w (by omega) (by omega) (by rw [hj2]; omega) (by omega) (by simp) (by simp) (by intro a e; cases e)).mono ?_;rintro e w' ⟨rfl,rfl⟩;refine ⟨_,rfl,?_,((Md _ _).drew).alloc (Mc _) _⟩;rw [Mq];have hc:=grownCap_ge w n 0 24;have hm:=grownCap_le_maxLen w n 0 24 (by unfold maxLen; omega)
  have:=Nz (w:=w.drew) (base:=w.heap.size) (e:=24) (size:=3) (cur:=[].toArray ++ Builtin.zeroCells (Value.agg #[.int .i64 0,.int .i64 0,.string ⟨#[]⟩]).cells (n - 0) ++ Builtin.zeroCells (Value.agg #[.int .i64 0,.int .i64 0,.string ⟨#[]⟩]).cells (grownCap w n 0 24 - n)) (cap:=grownCap w n 0 24) (Mc _) hm (by simp [size_zeroCells,Value.cells]; omega);exact this
theorem kg (B:Nat) (n m:Nat) (xs ys:List Value) (w:World) (h:iQ w B 3 n m xs ys) (hl:n+m≤1000) :
  Calls Tryz.prog 86 #[.slice (some ⟨B,0,none⟩) 2 2] w fun e w'=>∃ v,e = .returned v∧w'.ownsRow w.heap.size 24 3 v (n+m) (xs ++ ys)∧Below w.heap.size w w':=by
 obtain ⟨i0,hi,hj0,hj1,hj2⟩:=info_parts DU;go_enter Tryz.func86,Tryz.ntmps86;go_wp2_with fail
 go_loopw [3,11] (fun sz i wr=>∃ k:Nat,k≤2∧i = .int .i64 k∧sz = .int .i64 (kr n m k:Int)∧wr=w) (fun _ i _=>2 - (intOf i).toNat)
 case atStart=>exact ⟨0,by omega,rfl,rfl,rfl⟩
 case round =>
  obtain ⟨k,hk,rfl,rfl,rfl⟩:=hrel;have hcl:=lI n m k;by_cases hlt:k<2
  ·obtain ⟨a,cap,q,cs,c0,zs,hcat,hcn⟩:=h.at_ k hlt;have hcl2:=lI n m (k+1);rw [hcn] at hcl2;have HCat:=aw hcn;clear hcat hcn;generalize hq:kr n m k=r at *;have HQ:=aw hq;clear hq;go_wp2
   go_roundw
   case rel=>exact ⟨k+1,by omega,by go_num,by rw [HCat.out]; go_num,by first | rfl | trivial⟩
   case measure=>simp [intOf]; omega
  ·have e:k=2:=by omega
   subst e;have el:(kr n m 2:Int)=((n+m:Nat):Int):=rfl;have gc:=FR (n+m) (by omega) wr;rw [Int.natCast_add] at gc;rw [Int.natCast_add] at el;go_wp2_with fail
   refine gc.mono ?_;clear gc el;rintro e w1 ⟨v,rfl,ho,hb1⟩;have hsh:∃ a c,v = .slice a 0 c:=by
    obtain ⟨_,⟨rfl,h0⟩ | ⟨g,c1,cur,rfl,_⟩⟩:=ho
    ·exact ⟨none,0,rfl⟩
    ·exact ⟨_,c1,rfl⟩
   obtain ⟨a1,c1,rfl⟩:=hsh;go_wp2_with fail
   generalize hw0:wr=w0 at *;have HW0:=aw hw0;clear hw0;go_loopw [6,27] (fun v i ws=>∃ k:Nat,k≤2∧i = .int .i64 k∧ws.ownsRow w0.heap.size 24 3 v (kr n m k) (xf xs ys k)∧Below w0.heap.size w0 ws) (fun _ i _=>2 - (intOf i).toNat)
   case atStart=>exact ⟨0,by omega,rfl,ho,hb1⟩
   case round =>
    clear ho;obtain ⟨k,hk,rfl,ho,hb⟩:=hrel;have hz:=hb.size;by_cases hlt:k<2
    ·obtain ⟨a,cap,q,cs,c0,zs,hcat,hcn⟩:=h.at_ k hlt;have hcl2:=lI n m (k+1);rw [hcn] at hcl2;have HCat:=aw hcat;have HCn:=aw hcn;clear hcat hcn;have c0':=(hb.cell (p:=⟨B,k,none⟩) h.lt).trans c0;have zs':Raw wr a q 3 cs:=⟨zs.len,zs.one,zs.nil,fun ad e j u hj=>(hb.cell (Mm _ _ (zs.at_ ad e j u hj))).trans (zs.at_ ad e j u hj)⟩
     clear c0 zs;generalize xf xs ys k=xk at *;generalize kr n m k=nk at *;go_wp2_with (at_builtin; refine dh rfl _ _ 61 rfl w0.heap.size 24 i0 _ 3 32 Tryz.underlying61 hi hj0 hj1 hj2 rfl (by decide) _ _ _ rfl ho a q cap cs rfl zs' (by unfold maxLen; omega) (by omega) (by omega) ?_)
     intro v' w5 ho5 hg5;have hb5:Below w0.heap.size w0 w5:=hb.grown hg5 hz (fun q hq=>(ho.lt q hq).1);clear hg5 ho;go_wp2
     go_roundw
     case rel=>exact ⟨k+1,by omega,by go_num,by rw [HCat.out,HCn.out]; exact ho5,hb5⟩
     case measure=>simp [intOf]; omega
    ·have e:k=2:=by omega
     subst e;have hsh:∃ a c,u6 = .slice a (n+m) c:=by
      obtain ⟨_,⟨e,h0⟩ | ⟨g,c1,cur,e,_⟩⟩:=ho
      ·have h0:n+m=0:=h0;exact ⟨none,0,by rw [e,h0]⟩
      ·exact ⟨_,c1,e⟩
     obtain ⟨a6,c6,rfl⟩:=hsh;go_wp2
     go_ret;exact ⟨_,rfl,by rw [HW0.out]; exact ho,by rw [HW0.out]; exact hb⟩
end Go.Proofs.YtjebpkhkjkjphaaGreat
namespace Go.Proofs
open Go.Shelf Go.RowKit Go.Lib
set_option maxRecDepth 100000
set_option maxHeartbeats 16000000
shelf_lay_g Lays8.n4 Nm8 4 at Tryz 131 as Tryz.growI
end Go.Proofs
namespace Go.Proofs.YtjebpkhkjkjphaaGreat
open Go.RowKit Go.Lib Go.Shelf
set_option maxRecDepth 100000
set_option maxHeartbeats 16000000
theorem Be:(Tryz.prog.info? 3).map (fun i=>(i.zero,i.size,i.bytes))=some (some (.int .i64 0),1,8):=by kernel_rfl
theorem Gn (n:Nat) (hn:n≤1000) (w:World) :
  Calls Tryz.prog 131 #[.slice none 0 0,.int .i64 n] w fun e w'=>∃ v,e = .returned v∧w'.ownsRow w.heap.size 3 1 v 0 []∧Below w.heap.size w w':=by
 obtain ⟨i0,hi,hj0,hj1,hj2⟩:=info_parts Be;by_cases h0:n=0
 ·subst h0;refine (Any8.slices_Grow_room Tryz.growI none 0 0 0 w (by omega) (by omega) (by omega) (by omega)).mono ?_;rintro e w' ⟨rfl,rfl⟩;exact ⟨_,rfl,MM _ _ _ _,Md _ _⟩
 ·refine (Any8.slices_Grow_grow Tryz.growI i0 _ hi hj0 (by rw [hj1]; omega) none 0 0 n [] w (by omega) (by omega) (by rw [hj2]; omega) (by omega) (by simp) (by simp) (by intro a e; cases e)).mono ?_;rintro e w' ⟨rfl,rfl⟩;refine ⟨_,rfl,?_,((Md _ _).drew).alloc (Mc _) _⟩;rw [Mq];have hc:=grownCap_ge w n 0 3;have hm:=grownCap_le_maxLen w n 0 3 (by unfold maxLen; omega)
  have:=Nz (w:=w.drew) (base:=w.heap.size) (e:=3) (size:=1) (cur:=[].toArray ++ Builtin.zeroCells (Value.int .i64 0).cells (n - 0) ++ Builtin.zeroCells (Value.int .i64 0).cells (grownCap w n 0 3 - n)) (cap:=grownCap w n 0 3) (Mc _) hm (by simp [size_zeroCells,Value.cells]; omega);exact this
theorem jX (B:Nat) (n m:Nat) (xs ys:List Value) (w:World) (h:iQ w B 1 n m xs ys) (hl:n+m≤1000) :
  Calls Tryz.prog 100 #[.slice (some ⟨B,0,none⟩) 2 2] w fun e w'=>∃ v,e = .returned v∧w'.ownsRow w.heap.size 3 1 v (n+m) (xs ++ ys)∧Below w.heap.size w w':=by
 obtain ⟨i0,hi,hj0,hj1,hj2⟩:=info_parts Be;go_enter Tryz.func100,Tryz.ntmps100;go_wp2_with fail
 go_loopw [3,11] (fun sz i wr=>∃ k:Nat,k≤2∧i = .int .i64 k∧sz = .int .i64 (kr n m k:Int)∧wr=w) (fun _ i _=>2 - (intOf i).toNat)
 case atStart=>exact ⟨0,by omega,rfl,rfl,rfl⟩
 case round =>
  obtain ⟨k,hk,rfl,rfl,rfl⟩:=hrel;have hcl:=lI n m k;by_cases hlt:k<2
  ·obtain ⟨a,cap,q,cs,c0,zs,hcat,hcn⟩:=h.at_ k hlt;have hcl2:=lI n m (k+1);rw [hcn] at hcl2;have HCat:=aw hcn;clear hcat hcn;generalize hq:kr n m k=r at *;have HQ:=aw hq;clear hq;go_wp2
   go_roundw
   case rel=>exact ⟨k+1,by omega,by go_num,by rw [HCat.out]; go_num,by first | rfl | trivial⟩
   case measure=>simp [intOf]; omega
  ·have e:k=2:=by omega
   subst e;have el:(kr n m 2:Int)=((n+m:Nat):Int):=rfl;have gc:=Gn (n+m) (by omega) wr;rw [Int.natCast_add] at gc;rw [Int.natCast_add] at el;go_wp2_with fail
   refine gc.mono ?_;clear gc el;rintro e w1 ⟨v,rfl,ho,hb1⟩;have hsh:∃ a c,v = .slice a 0 c:=by
    obtain ⟨_,⟨rfl,h0⟩ | ⟨g,c1,cur,rfl,_⟩⟩:=ho
    ·exact ⟨none,0,rfl⟩
    ·exact ⟨_,c1,rfl⟩
   obtain ⟨a1,c1,rfl⟩:=hsh;go_wp2_with fail
   generalize hw0:wr=w0 at *;have HW0:=aw hw0;clear hw0;go_loopw [6,27] (fun v i ws=>∃ k:Nat,k≤2∧i = .int .i64 k∧ws.ownsRow w0.heap.size 3 1 v (kr n m k) (xf xs ys k)∧Below w0.heap.size w0 ws) (fun _ i _=>2 - (intOf i).toNat)
   case atStart=>exact ⟨0,by omega,rfl,ho,hb1⟩
   case round =>
    clear ho;obtain ⟨k,hk,rfl,ho,hb⟩:=hrel;have hz:=hb.size;by_cases hlt:k<2
    ·obtain ⟨a,cap,q,cs,c0,zs,hcat,hcn⟩:=h.at_ k hlt;have hcl2:=lI n m (k+1);rw [hcn] at hcl2;have HCat:=aw hcat;have HCn:=aw hcn;clear hcat hcn;have c0':=(hb.cell (p:=⟨B,k,none⟩) h.lt).trans c0;have zs':Raw wr a q 1 cs:=⟨zs.len,zs.one,zs.nil,fun ad e j u hj=>(hb.cell (Mm _ _ (zs.at_ ad e j u hj))).trans (zs.at_ ad e j u hj)⟩
     clear c0 zs;generalize xf xs ys k=xk at *;generalize kr n m k=nk at *;go_wp2_with (at_builtin; refine dh rfl _ _ 42 rfl w0.heap.size 3 i0 _ 1 8 Tryz.underlying42 hi hj0 hj1 hj2 rfl (by decide) _ _ _ rfl ho a q cap cs rfl zs' (by unfold maxLen; omega) (by omega) (by omega) ?_)
     intro v' w5 ho5 hg5;have hb5:Below w0.heap.size w0 w5:=hb.grown hg5 hz (fun q hq=>(ho.lt q hq).1);clear hg5 ho;go_wp2
     go_roundw
     case rel=>exact ⟨k+1,by omega,by go_num,by rw [HCat.out,HCn.out]; exact ho5,hb5⟩
     case measure=>simp [intOf]; omega
    ·have e:k=2:=by omega
     subst e;have hsh:∃ a c,u6 = .slice a (n+m) c:=by
      obtain ⟨_,⟨e,h0⟩ | ⟨g,c1,cur,e,_⟩⟩:=ho
      ·have h0:n+m=0:=h0;exact ⟨none,0,by rw [e,h0]⟩
      ·exact ⟨_,c1,e⟩
     obtain ⟨a6,c6,rfl⟩:=hsh;go_wp2
     go_ret;exact ⟨_,rfl,by rw [HW0.out]; exact ho,by rw [HW0.out]; exact hb⟩
set_option maxRecDepth 100000
set_option maxHeartbeats 16000000
structure di (wp:World) (R rv:Nat) (W:World):Prop where
 os:W.os=wp.os
 tape:W.tape=wp.tape
 output:W.output=wp.output
 size:wp.heap.size≤W.heap.size
 block:∀ k,k<wp.heap.size→k≠R→k≠rv→W.heap[k]? = wp.heap[k]?
 var:∃ n,W.cell? ⟨rv,0,none⟩=some (.slice (some ⟨R,0,none⟩) n 8)
 Fa:W.frozen? ⟨rv,0,none⟩=false
 room:∃ cur,W.heap[R]? = some (.cells cur 24 (0,0))∧cur.size=24
structure ob (wp:World) (R rv:Nat):Prop where
 r:R<rv
 v:rv<wp.heap.size
theorem di.below {wp W:World} {R rv:Nat} (h:di wp R rv W) (hn:ob wp R rv):Below R wp W :=
 ⟨h.os,h.tape,h.output,h.size,fun k hk=>h.block k (by have:=hn.r; have:=hn.v; omega) (by omega) (by have:=hn.r; omega)⟩
theorem di.cG {wp W W':World} {R rv:Nat} (h:di wp R rv W) (hn:ob wp R rv) {B:Nat} (hB:wp.heap.size≤B) (hb:Below B W W'):di wp R rv W':=by
 have hr:=hn.r;have hv:=hn.v;obtain ⟨n,hc⟩:=h.var;obtain ⟨cur,hh,hs⟩:=h.room;refine ⟨hb.os.trans h.os,hb.tape.trans h.tape,hb.output.trans h.output,Mr h.size hb.size,fun k hk h1 h2=>(hb.block k (by omega)).trans (h.block k hk h1 h2),⟨n,(hb.cell (p:=⟨rv,0,none⟩) (by show rv<B; omega)).trans hc⟩,(hb.frozen (p:=⟨rv,0,none⟩) (by show rv<B; omega)).trans h.Fa,cur,(hb.block R (by omega)).trans hh,hs⟩
theorem di.sz {wp W:World} {R rv:Nat} (h:di wp R rv W) (hn:ob wp R rv):rv<W.heap.size:=Mh hn.v h.size
theorem wZ (af:List Int) (lo:Nat) (x:Ex) (wc wp w0:World) (R rv hv:Nat) (u:Value) (hn:ob wp R rv) (hv0:hv<R) (hc:wp.cell? ⟨hv,0,none⟩=some u) (hC:ki af lo u x wc) (hcR:wc.heap.size≤R) (hcp:Since lo wc wp) (h0:w0.heap.size≤R) (h0p:Below w0.heap.size w0 wp)
  (a b:Option Addr) (ca cb:Nat) (l r:List Vl) (W:World) (hI:di wp R rv W) (s1:bg w0 a l) (s2:bg w0 b r) (h8:l.length+r.length≤8) (hf:fM af (l ++ r)) :
  Calls Tryz.prog 185 #[.slice a l.length ca,.slice b r.length cb,.pointer (some ⟨rv,0,none⟩),.pointer (some ⟨hv,0,none⟩)] W fun e w'=>e = .returned (.bool (ax x (l ++ r)))∧di wp R rv w'∧Since (rv+1) W w':=by
 obtain ⟨i0,hi,hj0,hj1,hj2⟩:=info_parts Tryz.qs;obtain ⟨g,cbs,rfl,eg,d⟩:=hC;have HD:Hid _:=d;clear d;have hrR:=hn.r;have hb0:=hI.below hn;have d0:Below w0.heap.size w0 W:=h0p.trans (hb0.mono h0);have r1:=fA (s1.next d0);have c3:W.cell? ⟨hv,0,none⟩=some (.func (.func g) #[] cbs):=(hb0.cell (p:=⟨hv,0,none⟩) hv0).trans hc;obtain ⟨n,hc2⟩:=hI.var;obtain ⟨cur,hh,hs⟩:=hI.room;have hsz:=hI.sz hn;have hfz:=hI.Fa;have own:W.ownsRow R 24 3 (.slice (some ⟨R,0,none⟩) 0 8) 0 []:=⟨rfl,.inr ⟨R,8,cur,rfl,Mc _,hh,by omega,by unfold maxLen; omega,by omega,by simp⟩⟩
 generalize ht:ax x (l ++ r)=t;have HT:=aw ht;clear ht;go_enter Tryz.func185,Tryz.ntmps185;go_wp2_with (at_builtin; refine jC _ rfl _ _ 61 rfl R 24 i0 3 Tryz.underlying61 hi hj1 R 0 8 _ rfl own a l.length ca _ rfl r1 (by omega) ?_)
 intro w1 own1 g1;have k1:∀ k,k<W.heap.size→k≠R→w1.heap[k]? = W.heap[k]?:=fun k hk hne=>g1.block k hk (by intro e; exact hne (MO e))
 have z1:=g1.size;have d1:Below w0.heap.size w0 w1:=⟨g1.os.trans d0.os,g1.tape.trans d0.tape,g1.output.trans d0.output,Mr d0.size z1,fun k hk=>(k1 k (by have:=d0.size; omega) (by omega)).trans (d0.block k hk)⟩
 have r2:=fA (s2.next d1);clear own r1;go_wp2_with (at_builtin; refine jC _ rfl _ _ 61 rfl R 24 i0 3 Tryz.underlying61 hi hj1 R l.length 8 _ rfl own1 b r.length cb _ rfl r2 (by omega) ?_)
 intro w2 own2 g2;have k2:∀ k,k<W.heap.size→k≠R→w2.heap[k]? = W.heap[k]?:=fun k hk hne=>(g2.block k (by omega) (by intro e; exact hne (MO e))).trans (k1 k hk hne)
 have z2:=g2.size;have o2:w2.os=W.os∧w2.tape=W.tape∧w2.output=W.output:=⟨g2.os.trans g1.os,g2.tape.trans g1.tape,g2.output.trans g1.output⟩
 have cv:w2.cell? ⟨rv,0,none⟩=some (.slice (some ⟨R,0,none⟩) n 8):=(Mv (w:=W) (k2 rv hsz (by omega))).trans hc2;have fv:w2.frozen? ⟨rv,0,none⟩=false:=(Nt (w:=W) (k2 rv hsz (by omega))).trans hfz;have ch:w2.cell? ⟨hv,0,none⟩=some (.func (.func g) #[] cbs):=(Mv (w:=W) (k2 hv (by omega) (by omega))).trans c3;have k3:∀ k,k≠rv→(w2.setCell ⟨rv,0,none⟩ (.slice (some ⟨R,0,none⟩) (l.length+r.length) 8)).heap[k]? = w2.heap[k]?:=fun k hne=>ML w2 ⟨rv,0,none⟩ _ k hne
 have cv3:(w2.setCell ⟨rv,0,none⟩ (.slice (some ⟨R,0,none⟩) (l.length+r.length) 8)).cell? ⟨rv,0,none⟩=some (.slice (some ⟨R,0,none⟩) (l.length+r.length) 8):=Nn _ _ _ (by rw [cv]; rfl);have fv3:(w2.setCell ⟨rv,0,none⟩ (.slice (some ⟨R,0,none⟩) (l.length+r.length) 8)).frozen? ⟨rv,0,none⟩=false:=by rw [MQ]; exact fv
 have ch3:(w2.setCell ⟨rv,0,none⟩ (.slice (some ⟨R,0,none⟩) (l.length+r.length) 8)).cell? ⟨hv,0,none⟩=some (.func (.func g) #[] cbs):=(Mv (w:=w2) (k3 hv (by omega))).trans ch;have z3:(w2.setCell ⟨rv,0,none⟩ (.slice (some ⟨R,0,none⟩) (l.length+r.length) 8)).heap.size=w2.heap.size:=by simp
 have o3:(w2.setCell ⟨rv,0,none⟩ (.slice (some ⟨R,0,none⟩) (l.length+r.length) 8)).os=w2.os∧(w2.setCell ⟨rv,0,none⟩ (.slice (some ⟨R,0,none⟩) (l.length+r.length) 8)).tape=w2.tape∧(w2.setCell ⟨rv,0,none⟩ (.slice (some ⟨R,0,none⟩) (l.length+r.length) 8)).output=w2.output:=by
  have:=(Md rv w2).setCell (p:=⟨rv,0,none⟩) (Mc _) (.slice (some ⟨R,0,none⟩) (l.length+r.length) 8);exact ⟨this.os,this.tape,this.output⟩
 have HO2:=aw own2;clear own2 own1;go_wp2_with fail
 have own2:=HO2.out;obtain ⟨hx2,⟨e2,_⟩ | ⟨gg,cap2,cur2,e2,hg2,hh2,hn2,hm2,hs2,ht2⟩⟩:=own2
 ·cases e2
 injection e2 with e2a e2b e2c
 have e2a:=MO e2a;injection e2a with e2a
 subst e2a e2c;generalize w2.setCell ⟨rv,0,none⟩ (.slice (some ⟨R,0,none⟩) (l.length+r.length) 8)=w3 at *;have hR3:w3.heap[R]? = some (.cells cur2 24 (0,0)):=(k3 R (by omega)).trans hh2;have own3:w3.ownsRow R 24 3 (.slice (some ⟨R,0,none⟩) (l.length+r.length) 8) (l.length+r.length) (bw (l ++ r)):=⟨by rw [bO]; exact hx2,.inr ⟨R,8,cur2,rfl,Mc _,hR3,hn2,hm2,hs2,by rw [bO]; exact ht2⟩⟩
 obtain ⟨a3,c3',e3,sl3,_,_⟩:=kG own3 (by simp);injection e3 with e3a e3b e3c
 subst e3a e3c;have kk:∀ k,k<W.heap.size→k≠R→k≠rv→w3.heap[k]? = W.heap[k]?:=fun k hk h1 h2=>(k3 k h2).trans (k2 k hk h1)
 have I3:di wp R rv w3:=⟨o3.1.trans (o2.1.trans hI.os),o3.2.1.trans (o2.2.1.trans hI.tape),o3.2.2.trans (o2.2.2.trans hI.output),by have:=hI.size; omega,fun k hk h1 h2=>(kk k (by have:=hI.size; omega) h1 h2).trans (hI.block k hk h1 h2),⟨_,cv3⟩,fv3,cur2,hR3,by omega⟩
 have S3:Since (rv+1) W w3:=⟨by omega,fun k h1 h2=>kk k h2 (by omega) (by omega)⟩
 have dc:Since lo wc w3:=⟨by have:=hcp.1; have:=hI.size; omega,fun k h1 h2=>by
  rw [(I3.below hn).block k (by omega)];exact hcp.2 k h1 h2⟩
 have d:=HD.out (l ++ r) (some ⟨R,0,none⟩) 8 w3 hf sl3 dc;rw [Mw,HT.out] at d;refine d.mono ?_;rintro e w4 ⟨rfl,hb4⟩;have FI:Hid (di wp R rv w4):=I3.cG hn (by have:=I3.size; omega) hb4;have FS:Hid (Since (rv+1) W w4):=S3.trans (Since.of hb4);clear g1 g2 r2 k1 k2 kk hh hI hx2 ht2 hR3 hh2 own3 d k3 e2b e3b o2 o3 sl3 dc z1 z2 z3 I3 S3 cv fv ch cv3 fv3 ch3 HO2 hn2 hm2 hs2 d0 d1 hb0 c3 hc2 hfz hj0 hj1 hj2 hi;dsimp only;go_wp2
 go_ret;exact ⟨rfl,FI.out,FS.out⟩
theorem yf (af:List Int) (lo:Nat) (x:Ex) (u:Value) (b:Nat) (ra:Option Addr) (rc:Nat) (row:List Vl) (n:Int) (W:World) (hb:b<W.heap.size) (h0:W.cell? ⟨b,0,none⟩=some u) (hA:ki af lo u x W) (hf:fM af row) (hs:bg W ra row) :
  Calls Tryz.prog 78 #[.agg #[.slice ra row.length rc,.int .i64 n],.pointer (some ⟨b,0,none⟩)] W fun e w'=>e = .returned (.bool (ax x row))∧Below W.heap.size W w':=by
 obtain ⟨g,cb,rfl,eg,d⟩:=hA;have hal:=aa W (.cells #[.slice ra row.length rc,.int .i64 n] 63);have d:=d row ra rc _ hf (hs.next hal) (Since.of hal);have c0:=(hal.cell (p:=⟨b,0,none⟩) hb).trans h0;generalize ax x row=t at *;go_enter Tryz.func78,Tryz.ntmps78;go_wp2_with (go_at_fn g; refine d.mono ?_; rintro e w1 ⟨rfl,hb1⟩)
 go_ret;exact ⟨rfl,chain hal hb1⟩
theorem Ka {af:List Int} {z:List Zp} (h:kj af z):∀ x ∈ z,x.1.length≤8:=fun x hx=>by
 have:=(h.fit x hx).len
 have:=h.qA
 omega
theorem mh {af:List Int} {z:List Zp} (h:kj af z):∀ x ∈ z,lZ x.2=true:=fun x hx=>(((cF z).1 h.set).2.1 x hx).2.2
theorem iq {af:List Int} {z:List Zp} (h:kj af z):z.length≤400:=((cF z).1 h.set).1
theorem th (af:List Int) (x:Ex) (ca:Option Addr) (ccap:Nat) (xa:Option Addr) (xcap:Nat) (a:Option Addr) (cap:Nat) (l:List Zp) (w:World) (hc:bG w.heap.size w ca af) (hk:aX w.heap.size w xa x.ks) (h:bc w a l) :
  Calls Tryz.prog 48 #[.slice ca af.length ccap,iU x.k x.v x.c xa x.ks.length xcap,.slice a l.length cap] w fun e w'=>∃ v,e = .returned (.tuple #[v,.int .i64 (gz af x l)])∧dH w.heap.size w' v (lY af x l)∧Below w.heap.size w w':=by
 have hal:=aa w (.cells (fS x xa xcap) 27);have hk':=(aX.next hal (Mc _) hk).up hal.size;have hc':=(hc.next hal (Mc _)).up hal.size;by_cases h1:cH af x=0
 ·have con:=rX af x ca ccap xa xcap _ hk' hc' h1;have H1:=aw h1;clear h1;have HE:Hid (gz af x l=if cz af l≠0 then cz af l else 0):=by
   show gz af x l=_;unfold gz;rw [H1.out,if_neg (by simp)]
  generalize hfz:lY af x l=fz;generalize hfe:gz af x l=fe;have HZ:=aw hfz;have HF:=aw hfe;clear hfz hfe;go_enter Tryz.func48,Tryz.ntmps48;go_wp2_with fail
  generalize w.alloc (.cells (fS x xa xcap) 27)=w1 at *;refine con.mono ?_;rintro e w2 ⟨u,rfl,hC2,hb2⟩;clear con;have hA:=chain hal hb2;have hC2:=hC2.down hal.size;obtain ⟨ug,ucb,rfl⟩:∃ g cb,u = .func (.func g) #[] cb:=by obtain ⟨g,cb,e,_⟩:=hC2; exact ⟨g,cb,e⟩
  have hal3:=aa w2 (.cells #[.func (.func ug) #[] ucb] 113);have hA3:=chain hA hal3;have con:=gK af ca ccap a cap l _ ((hc.next hA3 (Mc _)).up hA3.size) (h.next hA3);have c3:(w2.alloc (.cells #[.func (.func ug) #[] ucb] 113)).cell? ⟨w2.heap.size,0,none⟩=some (.func (.func ug) #[] ucb):=by simp
  have hC3:=hC2.next (Since.of hal3);have z3:(w2.alloc (.cells #[.func (.func ug) #[] ucb] 113)).heap.size=w2.heap.size+1:=by simp
  clear hk' hc';by_cases h2:cz af l=0
  ·have hz:=(gN af l).1 h2;rw [h2] at con;have H2:=aw h2;clear h2;have e0:fe=0:=by rw [← HF.out,HE.out,H2.out]; rfl
   have e1:fz=canon (kZ x l):=by rw [← HZ.out]; unfold lY; rw [if_pos (by rw [HE.out,H2.out]; rfl)]
   have HN:=aw e0;have HV:=aw e1;clear e0 e1;go_wp2_with fail
   generalize w2.alloc (.cells #[.func (.func ug) #[] ucb] 113)=w3 at *;refine con.mono ?_;rintro e w4 ⟨rfl,hb4⟩;clear con;have hA4:=chain hA3 hb4;have c4:=(hb4.cell (p:=⟨w2.heap.size,0,none⟩) (by show w2.heap.size<_; omega)).trans c3;have hC4:=hC3.next (Since.of hb4);have zs4:=h.next hA4;have z4:=hb4.size;have hl4:=iq hz;go_wp2_with fail
   refine (nL 78 #[.pointer (some ⟨w2.heap.size,0,none⟩)] (fun p=>ax x p.1) a cap l w4 w4 (fun W=>Below w4.heap.size w4 W) zs4 (by omega) (enters_of Tryz.func78 (by kernel_rfl) rfl) (Md _ _) (fun _ h=>h) (fun _ _ h k=>h.trans k) ?_).mono ?_
   ·intro y hy ra rc W hW hs _;refine (yf af w.heap.size x _ w2.heap.size ra rc y.1 y.2 W (by have:=hW.size; omega) ((hW.cell (p:=⟨w2.heap.size,0,none⟩) (by show w2.heap.size<_; omega)).trans c4) (hC4.next (Since.of hW)) (hz.fit y hy) (hs.next hW)).mono ?_;rintro e w' ⟨rfl,hb⟩;exact ⟨rfl,chain hW hb,Since.of hb⟩
   rintro e w5 ⟨v5,rfl,O5,hb5,_⟩;obtain ⟨a5,c5,rfl,zs5,_⟩:=O5.zs hb5;have hA5:=chain hA4 hb5;have hfl:l.filter (fun p=>ax x p.1)=kZ x l:=rfl;rw [hfl] at zs5;have hsub:∀ y ∈ kZ x l,y ∈ l:=fun y hy=>(List.mem_filter.1 hy).1
   have hfn:(kZ x l).length≤400:=Mr (M5 _ _) hl4;have hg0:bh (kZ x l)=0:=wH hz.set _;have con:=dP a5 c5 (kZ x l) w5 zs5 (by omega) (fun y hy=>mW (mh hz y (hsub y hy))) (fun y hy=>Ka hz y (hsub y hy));have hgz:bT (kZ x l)=fz:=by rw [HV.out]; unfold bT; rw [if_pos hg0]
   rw [hg0,hgz] at con;clear hg0 hgz hC2 hC3 hC4 c3 c4 O5;rw [hfl];go_wp2_with fail
   refine con.mono ?_;rintro e w6 ⟨v6,rfl,O6,hb6⟩;have O6':=O6.mono hA5.size;obtain ⟨a6,c6,rfl,_⟩:=O6.zs;go_wp2
   exact Me (v:=.tuple #[.slice a6 fz.length c6,.int .i64 0]) (by simp [results,Tryz.results48,go_sem]) rfl ⟨_,by rw [HN.out],O6',chain hA5 hb6⟩
  ·have e0:fe=cz af l:=by rw [← HF.out,HE.out,if_pos h2]
   have e1:fz = []:=by rw [← HZ.out]; unfold lY; rw [HE.out,if_pos h2,if_neg h2]
   have HN:=aw e0;have HV:=aw e1;have hne:(cz af l != 0)=true:=by simpa using h2
   clear e0 e1;generalize cz af l=t at *;go_wp2_with fail
   generalize w2.alloc (.cells #[.func (.func ug) #[] ucb] 113)=w3 at *;refine con.mono ?_;rintro e w4 ⟨rfl,hb4⟩;clear con;go_wp2
   exact Me (v:=.tuple #[.slice none 0 0,.int .i64 t]) (by simp [results,Tryz.results48,go_sem]) rfl ⟨_,by rw [HN.out],by rw [HV.out]; exact cY _ _,chain hA3 hb4⟩
 ·have con:=qm af x ca ccap xa xcap _ hk' hc' h1;have e0:gz af x l=cH af x:=by unfold gz; rw [if_pos h1]
  have e1:lY af x l = []:=by unfold lY; rw [e0,if_neg h1]
  rw [e0,e1];have hne:(cH af x != 0)=true:=by simpa using h1
  generalize cH af x=t at *;clear e0 e1;go_enter Tryz.func48,Tryz.ntmps48;go_wp2_with fail
  generalize w.alloc (.cells (fS x xa xcap) 27)=w1 at *;refine con.mono ?_;rintro e w2 ⟨rfl,hb2⟩;have hA:=chain hal hb2;have hal3:=aa w2 (.cells #[.nilFunc] 113);clear con;go_wp2
  exact Me (v:=.tuple #[.slice none 0 0,.int .i64 t]) (by simp [results,Tryz.results48,go_sem]) rfl ⟨_,rfl,cY _ _,chain hA hal3⟩
end Go.Proofs.YtjebpkhkjkjphaaGreat
