/- Together: J1, ZE, J2, J3, J4, K7, ZF, Q2, K8. -/
import Derived.Laws.AppendOwnNone
import Derived.Shelf.Spec.SlicesGrow
import Derived.Ground.Names8Prog
import Derived.Test.YtjebpkhkjkjphaaGreatM2
import Derived.Test.YtjebpkhkjkjphaaGreatM3
import Derived.Test.YtjebpkhkjkjphaaGreatM4
import Derived.Test.YtjebpkhkjkjphaaGreatM5
namespace Go.Proofs.YtjebpkhkjkjphaaGreat
open Go.RowKit Go.Lib
set_option maxRecDepth 100000
set_option maxHeartbeats 16000000
theorem iG {P:Program} {w:World} (base:Nat) (t ty e:TypeId) (i:TypeInfo) (size:Nat) (ht:P.underlying t=some (.slice e)) (hi:P.info? e=some i)
  (v:Value) (n:Nat) (xs:List Value) (hown:w.ownsRow base e size v n xs) (c:Nat):(Builtin.append_ #[t,t] ty #[v,.slice none 0 c]).run P w = .ok v w:=by
 rcases hown.2 with ⟨rfl,rfl⟩ | ⟨g,cap,cur,rfl,_,_,hnc,_⟩
 ·simp [Builtin.append_,run_underlying ht,sizeOf,typeInfo,hi,Builtin.lenOf,Builtin.firstCells]
 ·simp [Builtin.append_,run_underlying ht,sizeOf,typeInfo,hi,Builtin.lenOf,Builtin.firstCells,hnc,storeCells]
structure Raw (W:World) (a:Option Addr) (n size:Nat) (xs:List Value):Prop where
 len:xs.length=n*size
 one:∀ u ∈ xs,u.oneCell'=true
 nil:a=none→n=0
 at_:∀ ad,a=some ad→∀ j u,xs[j]? = some u→W.cell? (ad.add j)=some u
theorem Raw.next {W w1:World} {a:Option Addr} {n size:Nat} {xs:List Value} (h:Raw W a n size xs) (hb:Below W.heap.size W w1):Raw w1 a n size xs :=
 ⟨h.len,h.one,h.nil,fun ad e j u hj=>(hb.cell (Hy _ _ (h.at_ ad e j u hj))).trans (h.at_ ad e j u hj)⟩
theorem Raw.alloc {W:World} {a:Option Addr} {n size:Nat} {xs:List Value} (h:Raw W a n size xs) (o:Obj):Raw (W.alloc o) a n size xs:=h.next ((He _ _).alloc (Hd _) _)
theorem cO {P:Program} {w:World} {ops:Array Oper} {rest:List Oper} {o:Oper} {a:Act} {Q:Exit→Act→World→Prop} (hgd:o.guard=none) (s x:Operand) (t:TypeId)
  (ho:o.op = .call { callee:=.builtin .append,args:=#[s,x],argTypes:=#[t,t] })
  (base:Nat) (e:TypeId) (i:TypeInfo) (z:Value) (size bytes:Nat) (ht:P.underlying t=some (.slice e)) (hi:P.info? e=some i) (hz:i.zero=some z)
  (hsize:i.size=size) (hby:i.bytes=bytes) (hzs:z.cells.size=size) (hsz:0<size)
  (v:Value) (n:Nat) (xs:List Value) (hs:a.eval s=v) (hown:w.ownsRow base e size v n xs)
  (ao:Option Addr) (m c:Nat) (news:List Value) (hx:a.eval x = .slice ao m c) (hr:Raw w ao m size news)
  (h63:n+m≤maxLen) (hbytes:(n+m)*bytes≤140737488355328) (hbase:base≤w.heap.size)
  (h:∀ v' w',w'.ownsRow base e size v' (n+m) (xs ++ news)→w.grownBy w' v.ownBlock→wpList P ops Q rest (a.put o.dst v') w'):wpList P ops Q (o :: rest) a w:=by
 rcases ao with _ | ad
 ·have hm:=hr.nil rfl;subst hm;have hnews:news = []:=Hs (by simpa using hr.len);subst hnews;refine wpList_plain hgd fun K hK'=>?_
  have hrun:=iG (P:=P) (w:=w) base t o.type e i size ht hi v n xs hown c;unfold Oper.wp;simp [execOp,ho,resolve,invoke,builtin,hs,hx,hrun,Result.andThen];exact hK' _ _ (by simpa using h v w (by simpa using hown) (World.grownBy.refl _ _))
 ·exact IK _ hgd s x t ho base e i z size bytes ht hi hz hsize hby hzs hsz v n xs hs hown ad m c news hx hr.len (hr.at_ ad rfl) hr.one h63 hbytes hbase (fun v' w' h1 h2 _=>h v' w' h1 h2)
theorem iz {P:Program} (w:World) {ops:Array Oper} {rest:List Oper} {o:Oper} {a:Act} {Q:Exit→Act→World→Prop}
  (hg:o.guard=none) (s x:Operand) (t:TypeId) (hop:o.op=Op.call { callee:=Callee.builtin Builtin.append,args:=#[s,x],argTypes:=#[t,t] })
  (base:Nat) (e:TypeId) (i:TypeInfo) (size:Nat) (h1:P.underlying t=some (.slice e)) (h2:P.info? e=some i) (h4:i.size=size)
  (g k cap:Nat) (xs:List Value) (hs:a.eval s = .slice (some ⟨g,0,none⟩) k cap) (hown:w.ownsRow base e size (.slice (some ⟨g,0,none⟩) k cap) k xs) (ao:Option Addr) (m c:Nat) (news:List Value) (hx:a.eval x = .slice ao m c) (hr:Raw w ao m size news) (b1:k+m≤cap)
  (hK:∀ w',w'.ownsRow base e size (.slice (some ⟨g,0,none⟩) (k+m) cap) (k+m) (xs ++ news)→w.grownBy w' (some g)→wpList P ops Q rest (a.put o.dst (.slice (some ⟨g,0,none⟩) (k+m) cap)) w') :
  wpList P ops Q (o :: rest) a w:=by
 rcases ao with _ | ad
 ·have hm:=hr.nil rfl;subst hm;have hnews:news = []:=Hs (by simpa using hr.len);subst hnews;refine wpList_plain hg fun K hK'=>?_
  have hrun:=iG (P:=P) (w:=w) base t o.type e i size h1 h2 _ k xs hown c;unfold Oper.wp;simp [execOp,hop,resolve,invoke,builtin,hs,hx,hrun,Result.andThen];exact hK' _ _ (by simpa using hK w (by simpa using hown) (World.grownBy.refl _ _))
 ·exact wpList_append_fits w hg s x t hop base e i size h1 h2 h4 g k cap xs hs hown ad m c news hx hr.len (hr.at_ ad rfl) hr.one b1 hK
theorem qi (b off i:Nat):(⟨b,off,none⟩:Addr).add i=⟨b,off+i,none⟩:=by
 unfold Addr.add;by_cases h:i=0 <;> simp [h]
def eW:List Vl→List Value
 | []=>[]
 | v :: r=>.int .i64 v.1 :: .int .i64 v.2.1 :: .string v.2.2 :: eW r
theorem mg:∀ l,(eW l).length=l.length*3
 | []=>rfl
 | v :: r=>by simp only [eW,Je,mg r]; omega
theorem dX:∀ l t,eW (l ++ t)=eW l ++ eW t
 | [],_=>rfl
 | v :: r,t=>by simp only [Iz,eW,dX r t]
theorem mn:∀ (l:List Vl) (j:Nat) (h:j<l.length),(eW l)[j*3]? = some (.int .i64 l[j].1)∧(eW l)[j*3+1]? = some (.int .i64 l[j].2.1)∧(eW l)[j*3+2]? = some (.string l[j].2.2)
 | [],_,h=>by simp at h
 | v :: r,0,_=>by simp [eW]
 | v :: r,j+1,h=>by
  have ih:=mn r j (by simpa using h)
  have e0:(j+1)*3=j*3+1+1+1:=by omega
  have e1:(j+1)*3+1=j*3+1+1+1+1:=by omega
  have e2:(j+1)*3+2=j*3+2+1+1+1:=by omega
  rw [e1,e2,e0]
  simp only [eW,List.getElem?_cons_succ,List.getElem_cons_succ]
  exact ih
theorem qy:∀ l,∀ u ∈ eW l,u.oneCell'=true
 | [],u,h=>by simp [eW] at h
 | v :: r,u,h=>by
  simp only [eW,H6] at h
  rcases h with rfl | rfl | rfl | h
  ·rfl
  ·rfl
  ·rfl
  ·exact qy r u h
theorem fP {W:World} {a:Option Addr} {l:List Vl} (h:aY W a l):Raw W a l.length 3 (eW l):=by
 refine ⟨mg l,qy l,?_,?_⟩
 ·intro e;rcases h.2 with h | ⟨b,off,e',_⟩
  ·rw [h]; rfl
  ·rw [e] at e'; cases e'
 ·intro ad e j u hj;have hlt:j<l.length*3:=by
   rcases Ic j (l.length*3) with h | h
   ·exact h
   ·rw [Is (by rw [mg]; exact h)] at hj; cases hj
  obtain ⟨b,off,e',_,c0,c1,c2⟩:=h.elem (k:=j / 3) (by omega);rw [e] at e';have e':=It e';subst e';rw [qi];obtain ⟨g0,g1,g2⟩:=mn l (j / 3) (by omega);have hm:j % 3=0∨j % 3=1∨j % 3=2:=by omega
  rcases hm with hm | hm | hm
  ·have ej:j=j / 3*3:=by omega
   rw [ej,g0] at hj;rw [← hj,← c0]; congr 2; omega
  ·have ej:j=j / 3*3+1:=by omega
   rw [ej,g1] at hj;rw [← hj,← c1]; congr 2; omega
  ·have ej:j=j / 3*3+2:=by omega
   rw [ej,g2] at hj;rw [← hj,← c2]; congr 2; omega
theorem eN {B:Nat} {W:World} {a:Option Addr} {l:List Int} (h:bo B W a l):Raw W a l.length 1 (l.map (Value.int .i64)):=by
 refine ⟨by simp,by intro u hu; obtain ⟨x,_,rfl⟩:=List.mem_map.1 hu; rfl,?_,?_⟩
 ·intro e;rcases h.2 with h | ⟨b,off,e',_⟩
  ·rw [h]; rfl
  ·rw [e] at e'; cases e'
 ·intro ad e j u hj;have hlt:j<l.length:=by
   rcases Ic j l.length with h | h
   ·exact h
   ·rw [Is (by simpa using h)] at hj; cases hj
  obtain ⟨b,off,e',_,c0⟩:=h.elem hlt;rw [e] at e';have e':=It e';subst e';rw [qi,c0]
  simpa [hlt] using hj
theorem kJ {W:World} {B n:Nat} {v:Value} {l:List Vl} (ho:W.ownsRow B 24 3 v n (eW l)) (hn:n=l.length):∃ a cap,v = .slice a l.length cap∧aY W a l∧fQ W a∧(l.length≤cap∨a=none):=by
 subst hn;have ho':=ho;obtain ⟨hx,⟨rfl,h0⟩ | ⟨g,cap,cur,rfl,hg,hh,hn,hc,hs,ht⟩⟩:=ho
 ·have:l = []:=Hs h0;subst this;exact ⟨none,0,rfl,⟨by simp,.inl rfl⟩,(fun b off e=>by cases e),.inr rfl⟩
 ·refine ⟨_,cap,rfl,⟨by omega,.inr ⟨g,0,rfl,fun i hi=>?_,(ho'.lt g rfl).2⟩⟩,?_,.inl hn⟩
  ·obtain ⟨g0,g1,g2⟩:=mn l i hi;refine ⟨?_,?_,?_⟩
   ·rw [ho'.cellAt _ (by omega),← g0]; congr 1; omega
   ·rw [ho'.cellAt _ (by omega),← g1]; congr 1; omega
   ·rw [ho'.cellAt _ (by omega),← g2]; congr 1; omega
  ·intro b off e;have e:=It e;injection e with e1 e2
   subst e1;exact ⟨_,_,hh⟩
theorem tP {W:World} {B n:Nat} {v:Value} {l:List Int} (ho:W.ownsRow B 3 1 v n (l.map (Value.int .i64))) (hn:n=l.length):∃ a cap,v = .slice a l.length cap∧bo W.heap.size W a l:=by
 subst hn;have ho':=ho;obtain ⟨hx,⟨rfl,h0⟩ | ⟨g,cap,cur,rfl,hg,hh,hn,hc,hs,ht⟩⟩:=ho
 ·have:l = []:=Hs h0;subst this;exact ⟨none,0,rfl,⟨by simp,.inl rfl⟩⟩
 ·refine ⟨_,cap,rfl,⟨by omega,.inr ⟨g,0,rfl,(ho'.lt g rfl).2,fun i hi=>?_⟩⟩⟩;have:=ho'.cellAt i (by omega);rw [Hu,this];simp [hi]
end Go.Proofs.YtjebpkhkjkjphaaGreat
namespace Go.Proofs
open Go.Shelf Go.RowKit Go.Lib
set_option maxRecDepth 100000
set_option maxHeartbeats 16000000
shelf_lay_g Lays8.n4 Nm8 4 at Tryz 123 as Tryz.growZ
end Go.Proofs
namespace Go.Proofs.YtjebpkhkjkjphaaGreat
open Go.RowKit Go.Lib Go.Shelf
end Go.Proofs.YtjebpkhkjkjphaaGreat
namespace Go.Proofs.YtjebpkhkjkjphaaGreat
open Go.RowKit Go.Lib
set_option maxRecDepth 100000
set_option maxHeartbeats 16000000
def np (xs ys:List Value):Nat→List Value
 | 0=>[]
 | 1=>xs
 | _=>xs ++ ys
def fr (n m:Nat):Nat→Nat
 | 0=>0
 | 1=>n
 | _=>n+m
theorem jW (n m k:Nat):fr n m k≤n+m:=by
 match k with
 | 0=>simp [fr]
 | 1=>simp [fr]
 | j+2=>simp [fr]
structure hM (w:World) (B size n m:Nat) (xs ys:List Value):Prop where
 lt:B<w.heap.size
 at_:∀ k,k<2→∃ a cap q cs,w.cell? ⟨B,k,none⟩=some (.slice a q cap)∧Raw w a q size cs∧np xs ys (k+1)=np xs ys k ++ cs∧fr n m (k+1)=fr n m k+q
theorem hM.new {w:World} {size n m:Nat} {xs ys:List Value} {a b:Option Addr} (ca cb:Nat) (h:Raw w a n size xs) (k:Raw w b m size ys) (T:TypeId) :
  hM (w.alloc (.cells #[.slice a n ca,.slice b m cb] T)) w.heap.size size n m xs ys :=
 ⟨by simp,fun j hj=>by
  match j,hj with
  | 0,_=>exact ⟨a,ca,n,xs,by simp,h.alloc _,by simp [np],by simp [fr]⟩
  | 1,_=>exact ⟨b,cb,m,ys,by simp,k.alloc _,by simp [np],by simp [fr]⟩⟩
theorem hM.next {w w1:World} {B size n m:Nat} {xs ys:List Value} (h:hM w B size n m xs ys) (hb:Below w.heap.size w w1):hM w1 B size n m xs ys :=
 ⟨Hi h.lt hb.size,fun k hk=>by
  obtain ⟨a,cap,q,cs,h1,h2,h3,h4⟩:=h.at_ k hk
  exact ⟨a,cap,q,cs,(hb.cell (p:=⟨B,k,none⟩) h.lt).trans h1,h2.next hb,h3,h4⟩⟩
end Go.Proofs.YtjebpkhkjkjphaaGreat
namespace Go.Proofs
open Go.Shelf Go.RowKit Go.Lib
shelf_lay_g Lays8.n4 Nm8 4 at Tryz 119 as Tryz.growV
end Go.Proofs
namespace Go.Proofs.YtjebpkhkjkjphaaGreat
open Go.RowKit Go.Lib Go.Shelf
set_option maxRecDepth 100000
set_option maxHeartbeats 16000000
theorem Er:(Tryz.prog.info? 24).map (fun i=>(i.zero,i.size,i.bytes))=some (some (.agg #[.int .i64 0,.int .i64 0,.string ⟨#[]⟩]),3,32):=by kernel_rfl
theorem Bd (n:Nat) (hn:n≤1000) (w:World) :
  Calls Tryz.prog 119 #[.slice none 0 0,.int .i64 n] w fun e w'=>∃ v,e = .returned v∧w'.ownsRow w.heap.size 24 3 v 0 []∧Below w.heap.size w w':=by
 obtain ⟨i0,hi,hj0,hj1,hj2⟩:=info_parts Er;by_cases h0:n=0
 ·subst h0;refine (Any8.slices_Grow_room Tryz.growV none 0 0 0 w (by omega) (by omega) (by omega) (by omega)).mono ?_;rintro e w' ⟨rfl,rfl⟩;exact ⟨_,rfl,Iq _ _ _ _,He _ _⟩
 ·refine (Any8.slices_Grow_grow Tryz.growV i0 _ hi hj0 (by rw [hj1]; omega) none 0 0 n [] w (by omega) (by omega) (by rw [hj2]; omega) (by omega) (by simp) (by simp) (by intro a e; cases e)).mono ?_;rintro e w' ⟨rfl,rfl⟩;refine ⟨_,rfl,?_,((He _ _).drew).alloc (Hd _) _⟩;rw [Hu];have hc:=grownCap_ge w n 0 24;have hm:=grownCap_le_maxLen w n 0 24 (by unfold maxLen; omega)
  have:=Jf (w:=w.drew) (base:=w.heap.size) (e:=24) (size:=3) (cur:=[].toArray ++ Builtin.zeroCells (Value.agg #[.int .i64 0,.int .i64 0,.string ⟨#[]⟩]).cells (n - 0) ++ Builtin.zeroCells (Value.agg #[.int .i64 0,.int .i64 0,.string ⟨#[]⟩]).cells (grownCap w n 0 24 - n)) (cap:=grownCap w n 0 24) (Hd _) hm (by simp [size_zeroCells,Value.cells]; omega);exact this
theorem kv (B:Nat) (n m:Nat) (xs ys:List Value) (w:World) (h:hM w B 3 n m xs ys) (hl:n+m≤1000) :
  Calls Tryz.prog 86 #[.slice (some ⟨B,0,none⟩) 2 2] w fun e w'=>∃ v,e = .returned v∧w'.ownsRow w.heap.size 24 3 v (n+m) (xs ++ ys)∧Below w.heap.size w w':=by
 obtain ⟨i0,hi,hj0,hj1,hj2⟩:=info_parts Er;go_enter Tryz.func86,Tryz.ntmps86;go_wp2_with fail
 go_loopw [3,11] (fun sz i wr=>∃ k:Nat,k≤2∧i = .int .i64 k∧sz = .int .i64 (fr n m k:Int)∧wr=w) (fun _ i _=>2 - (intOf i).toNat)
 case atStart=>exact ⟨0,by omega,rfl,rfl,rfl⟩
 case round =>
  obtain ⟨k,hk,rfl,rfl,rfl⟩:=hrel;have hcl:=jW n m k;by_cases hlt:k<2
  ·obtain ⟨a,cap,q,cs,c0,zs,hcat,hcn⟩:=h.at_ k hlt;have hcl2:=jW n m (k+1);rw [hcn] at hcl2;have HCat:Hid (fr n m (k+1)=fr n m k+q):=hcn;clear hcat hcn;generalize hq:fr n m k=r at *;have HQ:Hid (fr n m k=r):=hq;clear hq;go_wp2
   go_roundw
   case rel=>exact ⟨k+1,by omega,by go_num,by rw [HCat.out]; go_num,by first | rfl | trivial⟩
   case measure=>simp [intOf]; omega
  ·have e:k=2:=by omega
   subst e;have el:(fr n m 2:Int)=((n+m:Nat):Int):=rfl;have gc:=Bd (n+m) (by omega) wr;rw [Int.natCast_add] at gc;rw [Int.natCast_add] at el;go_wp2_with fail
   refine gc.mono ?_;clear gc el;rintro e w1 ⟨v,rfl,ho,hb1⟩;have hsh:∃ a c,v = .slice a 0 c:=by
    obtain ⟨_,⟨rfl,h0⟩ | ⟨g,c1,cur,rfl,_⟩⟩:=ho
    ·exact ⟨none,0,rfl⟩
    ·exact ⟨_,c1,rfl⟩
   obtain ⟨a1,c1,rfl⟩:=hsh;go_wp2_with fail
   generalize hw0:wr=w0 at *;have HW0:Hid (wr=w0):=hw0;clear hw0;go_loopw [6,27] (fun v i ws=>∃ k:Nat,k≤2∧i = .int .i64 k∧ws.ownsRow w0.heap.size 24 3 v (fr n m k) (np xs ys k)∧Below w0.heap.size w0 ws) (fun _ i _=>2 - (intOf i).toNat)
   case atStart=>exact ⟨0,by omega,rfl,ho,hb1⟩
   case round =>
    clear ho;obtain ⟨k,hk,rfl,ho,hb⟩:=hrel;have hz:=hb.size;by_cases hlt:k<2
    ·obtain ⟨a,cap,q,cs,c0,zs,hcat,hcn⟩:=h.at_ k hlt;have hcl2:=jW n m (k+1);rw [hcn] at hcl2;have HCat:Hid (np xs ys (k+1)=np xs ys k ++ cs):=hcat;have HCn:Hid (fr n m (k+1)=fr n m k+q):=hcn;clear hcat hcn;have c0':=(hb.cell (p:=⟨B,k,none⟩) h.lt).trans c0;have zs':Raw wr a q 3 cs:=⟨zs.len,zs.one,zs.nil,fun ad e j u hj=>(hb.cell (Hy _ _ (zs.at_ ad e j u hj))).trans (zs.at_ ad e j u hj)⟩
     clear c0 zs;generalize np xs ys k=xk at *;generalize fr n m k=nk at *;go_wp2_with (at_builtin; refine cO rfl _ _ 61 rfl w0.heap.size 24 i0 _ 3 32 Tryz.underlying61 hi hj0 hj1 hj2 rfl (by decide) _ _ _ rfl ho a q cap cs rfl zs' (by unfold maxLen; omega) (by omega) (by omega) ?_)
     intro v' w5 ho5 hg5;have hb5:Below w0.heap.size w0 w5:=hb.grown hg5 hz (fun q hq=>(ho.lt q hq).1);clear hg5 ho;go_wp2
     go_roundw
     case rel=>exact ⟨k+1,by omega,by go_num,by rw [HCat.out,HCn.out]; exact ho5,hb5⟩
     case measure=>simp [intOf]; omega
    ·have e:k=2:=by omega
     subst e;have hsh:∃ a c,u6 = .slice a (n+m) c:=by
      obtain ⟨_,⟨e,h0⟩ | ⟨g,c1,cur,e,_⟩⟩:=ho
      ·have h0:n+m=0:=h0;exact ⟨none,0,by rw [e,h0]⟩
      ·exact ⟨_,c1,e⟩
     obtain ⟨a6,c6,rfl⟩:=hsh;go_wp2
     go_ret;exact ⟨_,rfl,by rw [HW0.out]; exact ho,by rw [HW0.out]; exact hb⟩
end Go.Proofs.YtjebpkhkjkjphaaGreat
namespace Go.Proofs
open Go.Shelf Go.RowKit Go.Lib
set_option maxRecDepth 100000
set_option maxHeartbeats 16000000
shelf_lay_g Lays8.n4 Nm8 4 at Tryz 131 as Tryz.growI
end Go.Proofs
namespace Go.Proofs.YtjebpkhkjkjphaaGreat
open Go.RowKit Go.Lib Go.Shelf
set_option maxRecDepth 100000
set_option maxHeartbeats 16000000
theorem xp:(Tryz.prog.info? 3).map (fun i=>(i.zero,i.size,i.bytes))=some (some (.int .i64 0),1,8):=by kernel_rfl
theorem AH (n:Nat) (hn:n≤1000) (w:World) :
  Calls Tryz.prog 131 #[.slice none 0 0,.int .i64 n] w fun e w'=>∃ v,e = .returned v∧w'.ownsRow w.heap.size 3 1 v 0 []∧Below w.heap.size w w':=by
 obtain ⟨i0,hi,hj0,hj1,hj2⟩:=info_parts xp;by_cases h0:n=0
 ·subst h0;refine (Any8.slices_Grow_room Tryz.growI none 0 0 0 w (by omega) (by omega) (by omega) (by omega)).mono ?_;rintro e w' ⟨rfl,rfl⟩;exact ⟨_,rfl,Iq _ _ _ _,He _ _⟩
 ·refine (Any8.slices_Grow_grow Tryz.growI i0 _ hi hj0 (by rw [hj1]; omega) none 0 0 n [] w (by omega) (by omega) (by rw [hj2]; omega) (by omega) (by simp) (by simp) (by intro a e; cases e)).mono ?_;rintro e w' ⟨rfl,rfl⟩;refine ⟨_,rfl,?_,((He _ _).drew).alloc (Hd _) _⟩;rw [Hu];have hc:=grownCap_ge w n 0 3;have hm:=grownCap_le_maxLen w n 0 3 (by unfold maxLen; omega)
  have:=Jf (w:=w.drew) (base:=w.heap.size) (e:=3) (size:=1) (cur:=[].toArray ++ Builtin.zeroCells (Value.int .i64 0).cells (n - 0) ++ Builtin.zeroCells (Value.int .i64 0).cells (grownCap w n 0 3 - n)) (cap:=grownCap w n 0 3) (Hd _) hm (by simp [size_zeroCells,Value.cells]; omega);exact this
theorem jd (B:Nat) (n m:Nat) (xs ys:List Value) (w:World) (h:hM w B 1 n m xs ys) (hl:n+m≤1000) :
  Calls Tryz.prog 100 #[.slice (some ⟨B,0,none⟩) 2 2] w fun e w'=>∃ v,e = .returned v∧w'.ownsRow w.heap.size 3 1 v (n+m) (xs ++ ys)∧Below w.heap.size w w':=by
 obtain ⟨i0,hi,hj0,hj1,hj2⟩:=info_parts xp;go_enter Tryz.func100,Tryz.ntmps100;go_wp2_with fail
 go_loopw [3,11] (fun sz i wr=>∃ k:Nat,k≤2∧i = .int .i64 k∧sz = .int .i64 (fr n m k:Int)∧wr=w) (fun _ i _=>2 - (intOf i).toNat)
 case atStart=>exact ⟨0,by omega,rfl,rfl,rfl⟩
 case round =>
  obtain ⟨k,hk,rfl,rfl,rfl⟩:=hrel;have hcl:=jW n m k;by_cases hlt:k<2
  ·obtain ⟨a,cap,q,cs,c0,zs,hcat,hcn⟩:=h.at_ k hlt;have hcl2:=jW n m (k+1);rw [hcn] at hcl2;have HCat:Hid (fr n m (k+1)=fr n m k+q):=hcn;clear hcat hcn;generalize hq:fr n m k=r at *;have HQ:Hid (fr n m k=r):=hq;clear hq;go_wp2
   go_roundw
   case rel=>exact ⟨k+1,by omega,by go_num,by rw [HCat.out]; go_num,by first | rfl | trivial⟩
   case measure=>simp [intOf]; omega
  ·have e:k=2:=by omega
   subst e;have el:(fr n m 2:Int)=((n+m:Nat):Int):=rfl;have gc:=AH (n+m) (by omega) wr;rw [Int.natCast_add] at gc;rw [Int.natCast_add] at el;go_wp2_with fail
   refine gc.mono ?_;clear gc el;rintro e w1 ⟨v,rfl,ho,hb1⟩;have hsh:∃ a c,v = .slice a 0 c:=by
    obtain ⟨_,⟨rfl,h0⟩ | ⟨g,c1,cur,rfl,_⟩⟩:=ho
    ·exact ⟨none,0,rfl⟩
    ·exact ⟨_,c1,rfl⟩
   obtain ⟨a1,c1,rfl⟩:=hsh;go_wp2_with fail
   generalize hw0:wr=w0 at *;have HW0:Hid (wr=w0):=hw0;clear hw0;go_loopw [6,27] (fun v i ws=>∃ k:Nat,k≤2∧i = .int .i64 k∧ws.ownsRow w0.heap.size 3 1 v (fr n m k) (np xs ys k)∧Below w0.heap.size w0 ws) (fun _ i _=>2 - (intOf i).toNat)
   case atStart=>exact ⟨0,by omega,rfl,ho,hb1⟩
   case round =>
    clear ho;obtain ⟨k,hk,rfl,ho,hb⟩:=hrel;have hz:=hb.size;by_cases hlt:k<2
    ·obtain ⟨a,cap,q,cs,c0,zs,hcat,hcn⟩:=h.at_ k hlt;have hcl2:=jW n m (k+1);rw [hcn] at hcl2;have HCat:Hid (np xs ys (k+1)=np xs ys k ++ cs):=hcat;have HCn:Hid (fr n m (k+1)=fr n m k+q):=hcn;clear hcat hcn;have c0':=(hb.cell (p:=⟨B,k,none⟩) h.lt).trans c0;have zs':Raw wr a q 1 cs:=⟨zs.len,zs.one,zs.nil,fun ad e j u hj=>(hb.cell (Hy _ _ (zs.at_ ad e j u hj))).trans (zs.at_ ad e j u hj)⟩
     clear c0 zs;generalize np xs ys k=xk at *;generalize fr n m k=nk at *;go_wp2_with (at_builtin; refine cO rfl _ _ 42 rfl w0.heap.size 3 i0 _ 1 8 Tryz.underlying42 hi hj0 hj1 hj2 rfl (by decide) _ _ _ rfl ho a q cap cs rfl zs' (by unfold maxLen; omega) (by omega) (by omega) ?_)
     intro v' w5 ho5 hg5;have hb5:Below w0.heap.size w0 w5:=hb.grown hg5 hz (fun q hq=>(ho.lt q hq).1);clear hg5 ho;go_wp2
     go_roundw
     case rel=>exact ⟨k+1,by omega,by go_num,by rw [HCat.out,HCn.out]; exact ho5,hb5⟩
     case measure=>simp [intOf]; omega
    ·have e:k=2:=by omega
     subst e;have hsh:∃ a c,u6 = .slice a (n+m) c:=by
      obtain ⟨_,⟨e,h0⟩ | ⟨g,c1,cur,e,_⟩⟩:=ho
      ·have h0:n+m=0:=h0;exact ⟨none,0,by rw [e,h0]⟩
      ·exact ⟨_,c1,e⟩
     obtain ⟨a6,c6,rfl⟩:=hsh;go_wp2
     go_ret;exact ⟨_,rfl,by rw [HW0.out]; exact ho,by rw [HW0.out]; exact hb⟩
set_option maxRecDepth 100000
set_option maxHeartbeats 16000000
structure eR (wp:World) (R rv:Nat) (W:World):Prop where
 os:W.os=wp.os
 tape:W.tape=wp.tape
 output:W.output=wp.output
 size:wp.heap.size≤W.heap.size
 block:∀ k,k<wp.heap.size→k≠R→k≠rv→W.heap[k]? = wp.heap[k]?
 var:∃ n,W.cell? ⟨rv,0,none⟩=some (.slice (some ⟨R,0,none⟩) n 8)
 AS:W.frozen? ⟨rv,0,none⟩=false
 room:∃ cur,W.heap[R]? = some (.cells cur 24 (0,0))∧cur.size=24
structure tp (wp:World) (R rv:Nat):Prop where
 r:R<rv
 v:rv<wp.heap.size
theorem eR.below {wp W:World} {R rv:Nat} (h:eR wp R rv W) (hn:tp wp R rv):Below R wp W :=
 ⟨h.os,h.tape,h.output,h.size,fun k hk=>h.block k (by have:=hn.r; have:=hn.v; omega) (by omega) (by have:=hn.r; omega)⟩
theorem eR.eI {wp W W':World} {R rv:Nat} (h:eR wp R rv W) (hn:tp wp R rv) {B:Nat} (hB:wp.heap.size≤B) (hb:Below B W W'):eR wp R rv W':=by
 have hr:=hn.r;have hv:=hn.v;obtain ⟨n,hc⟩:=h.var;obtain ⟨cur,hh,hs⟩:=h.room;refine ⟨hb.os.trans h.os,hb.tape.trans h.tape,hb.output.trans h.output,HJ h.size hb.size,fun k hk h1 h2=>(hb.block k (by omega)).trans (h.block k hk h1 h2),⟨n,(hb.cell (p:=⟨rv,0,none⟩) (by show rv<B; omega)).trans hc⟩,(hb.frozen (p:=⟨rv,0,none⟩) (by show rv<B; omega)).trans h.AS,cur,(hb.block R (by omega)).trans hh,hs⟩
theorem eR.sz {wp W:World} {R rv:Nat} (h:eR wp R rv W) (hn:tp wp R rv):rv<W.heap.size:=Hi hn.v h.size
theorem Ay (af:List Int) (lo:Nat) (x:Ex) (wc wp w0:World) (R rv hv:Nat) (u:Value) (hn:tp wp R rv) (hv0:hv<R) (hc:wp.cell? ⟨hv,0,none⟩=some u) (hC:jm af lo u x wc) (hcR:wc.heap.size≤R) (hcp:Since lo wc wp) (h0:w0.heap.size≤R) (h0p:Below w0.heap.size w0 wp)
  (a b:Option Addr) (ca cb:Nat) (l r:List Vl) (W:World) (hI:eR wp R rv W) (s1:aY w0 a l) (s2:aY w0 b r) (h8:l.length+r.length≤8) (hf:et af (l ++ r)) :
  Calls Tryz.prog 185 #[.slice a l.length ca,.slice b r.length cb,.pointer (some ⟨rv,0,none⟩),.pointer (some ⟨hv,0,none⟩)] W fun e w'=>e = .returned (.bool (bW x (l ++ r)))∧eR wp R rv w'∧Since (rv+1) W w':=by
 obtain ⟨i0,hi,hj0,hj1,hj2⟩:=info_parts Tryz.oU;obtain ⟨g,cbs,rfl,eg,d⟩:=hC;have HD:Hid _:=d;clear d;have hrR:=hn.r;have hb0:=hI.below hn;have d0:Below w0.heap.size w0 W:=h0p.trans (hb0.mono h0);have r1:=fP (s1.next d0);have c3:W.cell? ⟨hv,0,none⟩=some (.func (.func g) #[] cbs):=(hb0.cell (p:=⟨hv,0,none⟩) hv0).trans hc;obtain ⟨n,hc2⟩:=hI.var;obtain ⟨cur,hh,hs⟩:=hI.room;have hsz:=hI.sz hn;have hfz:=hI.AS;have own:W.ownsRow R 24 3 (.slice (some ⟨R,0,none⟩) 0 8) 0 []:=⟨rfl,.inr ⟨R,8,cur,rfl,Hd _,hh,by omega,by unfold maxLen; omega,by omega,by simp⟩⟩
 generalize ht:bW x (l ++ r)=t;have HT:Hid (bW x (l ++ r)=t):=ht;clear ht;go_enter Tryz.func185,Tryz.ntmps185;go_wp2_with (at_builtin; refine iz _ rfl _ _ 61 rfl R 24 i0 3 Tryz.underlying61 hi hj1 R 0 8 _ rfl own a l.length ca _ rfl r1 (by omega) ?_)
 intro w1 own1 g1;have k1:∀ k,k<W.heap.size→k≠R→w1.heap[k]? = W.heap[k]?:=fun k hk hne=>g1.block k hk (by intro e; exact hne (It e))
 have z1:=g1.size;have d1:Below w0.heap.size w0 w1:=⟨g1.os.trans d0.os,g1.tape.trans d0.tape,g1.output.trans d0.output,HJ d0.size z1,fun k hk=>(k1 k (by have:=d0.size; omega) (by omega)).trans (d0.block k hk)⟩
 have r2:=fP (s2.next d1);clear own r1;go_wp2_with (at_builtin; refine iz _ rfl _ _ 61 rfl R 24 i0 3 Tryz.underlying61 hi hj1 R l.length 8 _ rfl own1 b r.length cb _ rfl r2 (by omega) ?_)
 intro w2 own2 g2;have k2:∀ k,k<W.heap.size→k≠R→w2.heap[k]? = W.heap[k]?:=fun k hk hne=>(g2.block k (by omega) (by intro e; exact hne (It e))).trans (k1 k hk hne)
 have z2:=g2.size;have o2:w2.os=W.os∧w2.tape=W.tape∧w2.output=W.output:=⟨g2.os.trans g1.os,g2.tape.trans g1.tape,g2.output.trans g1.output⟩
 have cv:w2.cell? ⟨rv,0,none⟩=some (.slice (some ⟨R,0,none⟩) n 8):=(Hz (w:=W) (k2 rv hsz (by omega))).trans hc2;have fv:w2.frozen? ⟨rv,0,none⟩=false:=(IW (w:=W) (k2 rv hsz (by omega))).trans hfz;have ch:w2.cell? ⟨hv,0,none⟩=some (.func (.func g) #[] cbs):=(Hz (w:=W) (k2 hv (by omega) (by omega))).trans c3;have k3:∀ k,k≠rv→(w2.setCell ⟨rv,0,none⟩ (.slice (some ⟨R,0,none⟩) (l.length+r.length) 8)).heap[k]? = w2.heap[k]?:=fun k hne=>Im w2 ⟨rv,0,none⟩ _ k hne
 have cv3:(w2.setCell ⟨rv,0,none⟩ (.slice (some ⟨R,0,none⟩) (l.length+r.length) 8)).cell? ⟨rv,0,none⟩=some (.slice (some ⟨R,0,none⟩) (l.length+r.length) 8):=IN _ _ _ (by rw [cv]; rfl);have fv3:(w2.setCell ⟨rv,0,none⟩ (.slice (some ⟨R,0,none⟩) (l.length+r.length) 8)).frozen? ⟨rv,0,none⟩=false:=by rw [Io]; exact fv
 have ch3:(w2.setCell ⟨rv,0,none⟩ (.slice (some ⟨R,0,none⟩) (l.length+r.length) 8)).cell? ⟨hv,0,none⟩=some (.func (.func g) #[] cbs):=(Hz (w:=w2) (k3 hv (by omega))).trans ch;have z3:(w2.setCell ⟨rv,0,none⟩ (.slice (some ⟨R,0,none⟩) (l.length+r.length) 8)).heap.size=w2.heap.size:=by simp
 have o3:(w2.setCell ⟨rv,0,none⟩ (.slice (some ⟨R,0,none⟩) (l.length+r.length) 8)).os=w2.os∧(w2.setCell ⟨rv,0,none⟩ (.slice (some ⟨R,0,none⟩) (l.length+r.length) 8)).tape=w2.tape∧(w2.setCell ⟨rv,0,none⟩ (.slice (some ⟨R,0,none⟩) (l.length+r.length) 8)).output=w2.output:=by
  have:=(He rv w2).setCell (p:=⟨rv,0,none⟩) (Hd _) (.slice (some ⟨R,0,none⟩) (l.length+r.length) 8);exact ⟨this.os,this.tape,this.output⟩
 have HO2:Hid (w2.ownsRow R 24 3 (.slice (some ⟨R,0,none⟩) (l.length+r.length) 8) (l.length+r.length) (eW l ++ eW r)):=own2;clear own2 own1;go_wp2_with fail
 have own2:=HO2.out;obtain ⟨hx2,⟨e2,_⟩ | ⟨gg,cap2,cur2,e2,hg2,hh2,hn2,hm2,hs2,ht2⟩⟩:=own2
 ·cases e2
 injection e2 with e2a e2b e2c
 have e2a:=It e2a;injection e2a with e2a
 subst e2a e2c;generalize w2.setCell ⟨rv,0,none⟩ (.slice (some ⟨R,0,none⟩) (l.length+r.length) 8)=w3 at *;have hR3:w3.heap[R]? = some (.cells cur2 24 (0,0)):=(k3 R (by omega)).trans hh2;have own3:w3.ownsRow R 24 3 (.slice (some ⟨R,0,none⟩) (l.length+r.length) 8) (l.length+r.length) (eW (l ++ r)):=⟨by rw [dX]; exact hx2,.inr ⟨R,8,cur2,rfl,Hd _,hR3,hn2,hm2,hs2,by rw [dX]; exact ht2⟩⟩
 obtain ⟨a3,c3',e3,sl3,_,_⟩:=kJ own3 (by simp);injection e3 with e3a e3b e3c
 subst e3a e3c;have kk:∀ k,k<W.heap.size→k≠R→k≠rv→w3.heap[k]? = W.heap[k]?:=fun k hk h1 h2=>(k3 k h2).trans (k2 k hk h1)
 have I3:eR wp R rv w3:=⟨o3.1.trans (o2.1.trans hI.os),o3.2.1.trans (o2.2.1.trans hI.tape),o3.2.2.trans (o2.2.2.trans hI.output),by have:=hI.size; omega,fun k hk h1 h2=>(kk k (by have:=hI.size; omega) h1 h2).trans (hI.block k hk h1 h2),⟨_,cv3⟩,fv3,cur2,hR3,by omega⟩
 have S3:Since (rv+1) W w3:=⟨by omega,fun k h1 h2=>kk k h2 (by omega) (by omega)⟩
 have dc:Since lo wc w3:=⟨by have:=hcp.1; have:=hI.size; omega,fun k h1 h2=>by
  rw [(I3.below hn).block k (by omega)];exact hcp.2 k h1 h2⟩
 have d:=HD.out (l ++ r) (some ⟨R,0,none⟩) 8 w3 hf sl3 dc;rw [Ii,HT.out] at d;refine d.mono ?_;rintro e w4 ⟨rfl,hb4⟩;have FI:Hid (eR wp R rv w4):=I3.eI hn (by have:=I3.size; omega) hb4;have FS:Hid (Since (rv+1) W w4):=S3.trans (Since.of hb4);clear g1 g2 r2 k1 k2 kk hh hI hx2 ht2 hR3 hh2 own3 d k3 e2b e3b o2 o3 sl3 dc z1 z2 z3 I3 S3 cv fv ch cv3 fv3 ch3 HO2 hn2 hm2 hs2 d0 d1 hb0 c3 hc2 hfz hj0 hj1 hj2 hi;dsimp only;go_wp2
 go_ret;exact ⟨rfl,FI.out,FS.out⟩
theorem uI (af:List Int) (lo:Nat) (x:Ex) (u:Value) (b:Nat) (ra:Option Addr) (rc:Nat) (row:List Vl) (n:Int) (W:World) (hb:b<W.heap.size) (h0:W.cell? ⟨b,0,none⟩=some u) (hA:jm af lo u x W) (hf:et af row) (hs:aY W ra row) :
  Calls Tryz.prog 78 #[.agg #[.slice ra row.length rc,.int .i64 n],.pointer (some ⟨b,0,none⟩)] W fun e w'=>e = .returned (.bool (bW x row))∧Below W.heap.size W w':=by
 obtain ⟨g,cb,rfl,eg,d⟩:=hA;have hal:=aa W (.cells #[.slice ra row.length rc,.int .i64 n] 63);have d:=d row ra rc _ hf (hs.next hal) (Since.of hal);have c0:=(hal.cell (p:=⟨b,0,none⟩) hb).trans h0;generalize bW x row=t at *;go_enter Tryz.func78,Tryz.ntmps78;go_wp2_with (go_at_fn g; refine d.mono ?_; rintro e w1 ⟨rfl,hb1⟩)
 go_ret;exact ⟨rfl,chain hal hb1⟩
theorem Fj {af:List Int} {z:List Zp} (h:iv af z):∀ x ∈ z,x.1.length≤8:=fun x hx=>by
 have:=(h.fit x hx).len
 have:=h.qm
 omega
theorem kB {af:List Int} {z:List Zp} (h:iv af z):∀ x ∈ z,ke x.2=true:=fun x hx=>(((i9 z).1 h.set).2.1 x hx).2.2
theorem gf {af:List Int} {z:List Zp} (h:iv af z):z.length≤400:=((i9 z).1 h.set).1
theorem zL (af:List Int) (x:Ex) (ca:Option Addr) (ccap:Nat) (xa:Option Addr) (xcap:Nat) (a:Option Addr) (cap:Nat) (l:List Zp) (w:World) (hc:bo w.heap.size w ca af) (hk:aO w.heap.size w xa x.ks) (h:bP w a l) :
  Calls Tryz.prog 48 #[.slice ca af.length ccap,iY x.k x.v x.c xa x.ks.length xcap,.slice a l.length cap] w fun e w'=>∃ v,e = .returned (.tuple #[v,.int .i64 (fR af x l)])∧fN w.heap.size w' v (mB af x l)∧Below w.heap.size w w':=by
 have hal:=aa w (.cells (ji x xa xcap) 27);have hk':=(aO.next hal (Hd _) hk).up hal.size;have hc':=(hc.next hal (Hd _)).up hal.size;by_cases h1:cz af x=0
 ·have con:=pG af x ca ccap xa xcap _ hk' hc' h1;have H1:Hid (cz af x=0):=h1;clear h1;have HE:Hid (fR af x l=if cG af l≠0 then cG af l else 0):=by
   show fR af x l=_;unfold fR;rw [H1.out,if_neg (by simp)]
  generalize hfz:mB af x l=fz;generalize hfe:fR af x l=fe;have HZ:Hid (mB af x l=fz):=hfz;have HF:Hid (fR af x l=fe):=hfe;clear hfz hfe;go_enter Tryz.func48,Tryz.ntmps48;go_wp2_with fail
  generalize w.alloc (.cells (ji x xa xcap) 27)=w1 at *;refine con.mono ?_;rintro e w2 ⟨u,rfl,hC2,hb2⟩;clear con;have hA:=chain hal hb2;have hC2:=hC2.down hal.size;obtain ⟨ug,ucb,rfl⟩:∃ g cb,u = .func (.func g) #[] cb:=by obtain ⟨g,cb,e,_⟩:=hC2; exact ⟨g,cb,e⟩
  have hal3:=aa w2 (.cells #[.func (.func ug) #[] ucb] 113);have hA3:=chain hA hal3;have con:=gu af ca ccap a cap l _ ((hc.next hA3 (Hd _)).up hA3.size) (h.next hA3);have c3:(w2.alloc (.cells #[.func (.func ug) #[] ucb] 113)).cell? ⟨w2.heap.size,0,none⟩=some (.func (.func ug) #[] ucb):=by simp
  have hC3:=hC2.next (Since.of hal3);have z3:(w2.alloc (.cells #[.func (.func ug) #[] ucb] 113)).heap.size=w2.heap.size+1:=by simp
  clear hk' hc';by_cases h2:cG af l=0
  ·have hz:=(hJ af l).1 h2;rw [h2] at con;have H2:Hid (cG af l=0):=h2;clear h2;have e0:fe=0:=by rw [← HF.out,HE.out,H2.out]; rfl
   have e1:fz=canon (kO x l):=by rw [← HZ.out]; unfold mB; rw [if_pos (by rw [HE.out,H2.out]; rfl)]
   have HN:Hid (fe=0):=e0;have HV:Hid (fz=canon (kO x l)):=e1;clear e0 e1;go_wp2_with fail
   generalize w2.alloc (.cells #[.func (.func ug) #[] ucb] 113)=w3 at *;refine con.mono ?_;rintro e w4 ⟨rfl,hb4⟩;clear con;have hA4:=chain hA3 hb4;have c4:=(hb4.cell (p:=⟨w2.heap.size,0,none⟩) (by show w2.heap.size<_; omega)).trans c3;have hC4:=hC3.next (Since.of hb4);have zs4:=h.next hA4;have z4:=hb4.size;have hl4:=gf hz;go_wp2_with fail
   refine (qn 78 #[.pointer (some ⟨w2.heap.size,0,none⟩)] (fun p=>bW x p.1) a cap l w4 w4 (fun W=>Below w4.heap.size w4 W) zs4 (by omega) (enters_of Tryz.func78 (by kernel_rfl) rfl) (He _ _) (fun _ h=>h) (fun _ _ h k=>h.trans k) ?_).mono ?_
   ·intro y hy ra rc W hW hs _;refine (uI af w.heap.size x _ w2.heap.size ra rc y.1 y.2 W (by have:=hW.size; omega) ((hW.cell (p:=⟨w2.heap.size,0,none⟩) (by show w2.heap.size<_; omega)).trans c4) (hC4.next (Since.of hW)) (hz.fit y hy) (hs.next hW)).mono ?_;rintro e w' ⟨rfl,hb⟩;exact ⟨rfl,chain hW hb,Since.of hb⟩
   rintro e w5 ⟨v5,rfl,O5,hb5,_⟩;obtain ⟨a5,c5,rfl,zs5,_⟩:=O5.zs hb5;have hA5:=chain hA4 hb5;have hfl:l.filter (fun p=>bW x p.1)=kO x l:=rfl;rw [hfl] at zs5;have hsub:∀ y ∈ kO x l,y ∈ l:=fun y hy=>(List.mem_filter.1 hy).1
   have hfn:(kO x l).length≤400:=HJ (IL _ _) hl4;have hg0:bF (kO x l)=0:=sD hz.set _;have con:=eX a5 c5 (kO x l) w5 zs5 (by omega) (fun y hy=>qH (kB hz y (hsub y hy))) (fun y hy=>Fj hz y (hsub y hy));have hgz:cB (kO x l)=fz:=by rw [HV.out]; unfold cB; rw [if_pos hg0]
   rw [hg0,hgz] at con;clear hg0 hgz hC2 hC3 hC4 c3 c4 O5;rw [hfl];go_wp2_with fail
   refine con.mono ?_;rintro e w6 ⟨v6,rfl,O6,hb6⟩;have O6':=O6.mono hA5.size;obtain ⟨a6,c6,rfl,_⟩:=O6.zs;go_wp2
   exact Hf (v:=.tuple #[.slice a6 fz.length c6,.int .i64 0]) (by simp [results,Tryz.results48,go_sem]) rfl ⟨_,by rw [HN.out],O6',chain hA5 hb6⟩
  ·have e0:fe=cG af l:=by rw [← HF.out,HE.out,if_pos h2]
   have e1:fz = []:=by rw [← HZ.out]; unfold mB; rw [HE.out,if_pos h2,if_neg h2]
   have HN:Hid (fe=cG af l):=e0;have HV:Hid (fz = []):=e1;have hne:(cG af l != 0)=true:=by simpa using h2
   clear e0 e1;generalize cG af l=t at *;go_wp2_with fail
   generalize w2.alloc (.cells #[.func (.func ug) #[] ucb] 113)=w3 at *;refine con.mono ?_;rintro e w4 ⟨rfl,hb4⟩;clear con;go_wp2
   exact Hf (v:=.tuple #[.slice none 0 0,.int .i64 t]) (by simp [results,Tryz.results48,go_sem]) rfl ⟨_,by rw [HN.out],by rw [HV.out]; exact dN _ _,chain hA3 hb4⟩
 ·have con:=oV af x ca ccap xa xcap _ hk' hc' h1;have e0:fR af x l=cz af x:=by unfold fR; rw [if_pos h1]
  have e1:mB af x l = []:=by unfold mB; rw [e0,if_neg h1]
  rw [e0,e1];have hne:(cz af x != 0)=true:=by simpa using h1
  generalize cz af x=t at *;clear e0 e1;go_enter Tryz.func48,Tryz.ntmps48;go_wp2_with fail
  generalize w.alloc (.cells (ji x xa xcap) 27)=w1 at *;refine con.mono ?_;rintro e w2 ⟨rfl,hb2⟩;have hA:=chain hal hb2;have hal3:=aa w2 (.cells #[.nilFunc] 113);clear con;go_wp2
  exact Hf (v:=.tuple #[.slice none 0 0,.int .i64 t]) (by simp [results,Tryz.results48,go_sem]) rfl ⟨_,rfl,dN _ _,chain hA hal3⟩
def xh (l l':List Zp):Nat→List Zp
 | 0=>[]
 | 1=>l
 | _=>l ++ l'
structure Bv (w:World) (B:Nat) (l l':List Zp):Prop where
 lt:B<w.heap.size
 at_:∀ k,k<2→∃ a cap ls,w.cell? ⟨B,k,none⟩=some (.slice a ls.length cap)∧bP w a ls∧(a=none→cap=0)∧xh l l' (k+1)=xh l l' k ++ ls
theorem Bv.next {w w1:World} {B:Nat} {l l':List Zp} (h:Bv w B l l') (hb:Below w.heap.size w w1):Bv w1 B l l' :=
 ⟨Hi h.lt hb.size,fun k hk=>by
  obtain ⟨a,cap,ls,h1,h2,h3,h4⟩:=h.at_ k hk
  exact ⟨a,cap,ls,(hb.cell (p:=⟨B,k,none⟩) h.lt).trans h1,h2.next hb,h3,h4⟩⟩
end Go.Proofs.YtjebpkhkjkjphaaGreat
namespace Go.Proofs.YtjebpkhkjkjphaaGreat
set_option maxRecDepth 100000
set_option maxHeartbeats 16000000
def EI (n:Nat):List Vl:=List.replicate n (1,0,⟨#[]⟩)
def dh (x:Ex) (p:Zp) (b:List Zp):List Zp:=(b.filter fun q=>bW x (p.1 ++ q.1)).map fun q=>(p.1 ++ q.1,p.2*q.2)
def ek (x:Ex) (a b:List Zp):List Zp:=a.flatMap fun p=>dh x p b
def FJ (x:Ex) (b:List Zp) (row:List Vl):Bool:=b.any fun q=>decide (0<q.2) && bW x (row ++ q.1)
def Ev (x:Ex) (a b:List Zp):List Zp:=a.filter fun p=>FJ x b p.1
def wY (x:Ex) (a b:List Zp):List Zp:=a.filter fun p=>!FJ x b p.1
def EJ (n:Nat) (z:List Zp):List Zp:=z.map fun p=>(p.1 ++ EI n,p.2)
def AV (x:Ex) (n:Nat) (a b:List Zp):List Zp:=ek x a b ++ EJ n (wY x a b)
def ib (l r:List Int) (x:Ex) (a b:List Zp):Int:=if 8<l.length+r.length then 5 else if cz (l ++ r) x≠0 then cz (l ++ r) x else if cG l a≠0 then cG l a else cG r b
structure mZ (l r:List Int) (x:Ex) (a b:List Zp):Prop where
 len:l.length+r.length≤8
 cond:cz (l ++ r) x=0
 left:iv l a
 right:iv r b
theorem xz (l r:List Int) (x:Ex) (a b:List Zp):ib l r x a b=0↔mZ l r x a b:=by
 unfold ib;by_cases h8:8<l.length+r.length
 ·rw [if_pos h8];constructor
  ·intro h; omega
  ·intro h; have:=h.len; omega
 ·rw [if_neg h8];by_cases h1:cz (l ++ r) x=0
  ·rw [if_neg (by simpa using h1)];by_cases h2:cG l a=0
   ·rw [if_neg (by simpa using h2),hJ];exact ⟨fun h=>⟨by omega,h1,(hJ _ _).1 h2,h⟩,fun h=>h.right⟩
   ·rw [if_pos h2];exact ⟨fun h=>absurd h h2,fun h=>absurd ((hJ _ _).2 h.left) h2⟩
  ·rw [if_pos h1];exact ⟨fun h=>absurd h h1,fun h=>absurd h.cond h1⟩
def fS (what:Nat) (n:Nat) (x:Ex) (a b:List Zp):List Zp:=if what=0 then ek x a b else if what=1 then Ev x a b else if what=2 then wY x a b else AV x n a b
def fC (what:Nat) (l r:List Int) (x:Ex) (a b:List Zp):Int:=if ib l r x a b≠0 then ib l r x a b else bF (fS what r.length x a b)
def ng (what:Nat) (l r:List Int) (x:Ex) (a b:List Zp):List Zp:=if fC what l r x a b=0 then canon (fS what r.length x a b) else []
theorem AG {what:Nat} {l r:List Int} {x:Ex} {a b:List Zp} (h:fC what l r x a b=0):mZ l r x a b∧bF (fS what r.length x a b)=0:=by
 unfold fC at h;by_cases h1:ib l r x a b=0
 ·rw [if_neg (by simpa using h1)] at h;exact ⟨(xz ..).1 h1,h⟩
 ·rw [if_pos h1] at h; exact absurd h h1
theorem uh {l r:List Int} {u v:List Vl} (h:et l u) (k:et r v):et (l ++ r) (u ++ v):=by
 have h1:=h.len;have k1:=k.len;refine ⟨by simp [h1,k1],fun i hi=>?_⟩;by_cases c:i<u.length
 ·rw [H7 c];have:=h.one i c;have e:(l ++ r).getD i 0=l.getD i 0:=by simp only [List.getD]; rw [Ia (by omega)]
  rwa [e]
 ·have hi':i - u.length<v.length:=by simp at hi; omega
  rw [Ja (by omega)];have:=k.one (i - u.length) hi';have e:(l ++ r).getD i 0=r.getD (i - u.length) 0:=by simp only [List.getD]; rw [H9 (by omega),h1]
  rwa [e]
end Go.Proofs.YtjebpkhkjkjphaaGreat
namespace Go.Proofs.YtjebpkhkjkjphaaGreat
open Go.RowKit Go.Lib Go.Shelf
set_option maxRecDepth 100000
set_option maxHeartbeats 16000000
def tR (W:World) (B n:Nat) (f:Nat→Zp) (k:Nat):Prop:=∃ xs,W.ownsRow B 63 2 (.slice (some ⟨B,0,none⟩) n n) n xs∧∀ j:Nat,j<n→j<k→∃ a cap,xs[j*2]? = some (.slice a (f j).1.length cap)∧xs[j*2+1]? = some (.int .i64 (f j).2)∧aY W a (f j).1∧fQ W a
theorem tR.next {W w1:World} {B n:Nat} {f:Nat→Zp} {k:Nat} (h:tR W B n f k) (hb:Below W.heap.size W w1):tR w1 B n f k:=by
 obtain ⟨xs,h1,h2⟩:=h;refine ⟨xs,bg h1 hb,fun j hj hk=>?_⟩;obtain ⟨a,cap,e0,e1,e2,e3⟩:=h2 j hj hk;exact ⟨a,cap,e0,e1,e2.next hb,e3.next hb⟩
theorem tR.step {W:World} {B n:Nat} {f:Nat→Zp} {k:Nat} (h:tR W B n f k) (hk:k<n) {a:Option Addr} {cap:Nat} (hs:aY W a (f k).1) (ht:fQ W a) :
  tR ((W.setCell ⟨B,k*2,none⟩ (.slice a (f k).1.length cap)).setCell ⟨B,k*2+1,none⟩ (.int .i64 (f k).2)) B n f (k+1):=by
 obtain ⟨xs,h1,h2⟩:=h;have lx:=h1.1;obtain ⟨o1,g1⟩:=h1.stored (k*2) (.slice a (f k).1.length cap);obtain ⟨o2,g2⟩:=o1.stored (k*2+1) (.int .i64 (f k).2);have go:∀ {b:Option Addr} {r:List Vl},aY W b r→fQ W b→aY ((W.setCell ⟨B,k*2,none⟩ (.slice a (f k).1.length cap)).setCell ⟨B,k*2+1,none⟩ (.int .i64 (f k).2)) b r∧fQ ((W.setCell ⟨B,k*2,none⟩ (.slice a (f k).1.length cap)).setCell ⟨B,k*2+1,none⟩ (.int .i64 (f k).2)) b:=fun hs ht=>by
  obtain ⟨s1,t1⟩:=iq hs ht h1 g1;exact iq s1 t1 o1 g2
 refine ⟨_,o2,?_⟩;intro j hj hjk;by_cases e:j=k
 ·subst e;refine ⟨a,cap,?_,?_,(go hs ht).1,(go hs ht).2⟩
  ·rw [Hv (by omega)]; simp [List.getElem?_set,lx]; omega
  ·simp [List.getElem?_set,lx]; omega
 ·obtain ⟨b,c,e0,e1,e2,e3⟩:=h2 j hj (by omega);refine ⟨b,c,?_,?_,(go e2 e3).1,(go e2 e3).2⟩
  ·rw [Hv (by omega),Hv (by omega)]; exact e0
  ·rw [Hv (by omega),Hv (by omega)]; exact e1
theorem tR.cells {W:World} {B n:Nat} {f:Nat→Zp} {k:Nat} (h:tR W B n f k) (hk:k<n):(∃ u0 u1,W.cell? ⟨B,k*2,none⟩=some u0∧W.cell? ⟨B,k*2+1,none⟩=some u1)∧W.frozen? ⟨B,k*2,none⟩=false∧W.frozen? ⟨B,k*2+1,none⟩=false∧B<W.heap.size:=by
 obtain ⟨xs,h1,h2⟩:=h;have lx:=h1.1;refine ⟨⟨xs[k*2]'(by omega),xs[k*2+1]'(by omega),?_,?_⟩,h1.frozenAt _,h1.frozenAt _,(h1.lt B rfl).2⟩
 ·rw [h1.cellAt _ (by omega)]; exact H4 (by omega)
 ·rw [h1.cellAt _ (by omega)]; exact H4 (by omega)
theorem tR.done {W:World} {B n:Nat} {f:Nat→Zp} (h:tR W B n f n) (l:List Zp) (hn:n=l.length) (hv:∀ j (hj:j<l.length),f j=l[j]) (h8:l.length≤200000):bP W (some ⟨B,0,none⟩) l:=by
 obtain ⟨xs,h1,h2⟩:=h;subst hn;refine ⟨by unfold maxLen; omega,.inr ⟨B,0,rfl,(h1.lt B rfl).2,?_⟩⟩;intro i hi;obtain ⟨a,cap,g0,g1,g2,_⟩:=h2 i hi hi;rw [hv i hi] at g0 g1 g2;refine ⟨?_,a,cap,?_,g2⟩
 ·rw [h1.cellAt _ (by omega),← g1]; congr 1; omega
 ·rw [h1.cellAt _ (by omega),← g0]; congr 1; omega
theorem E9 (af:List Int) (xs:List Ex) (ca:Option Addr) (ccap:Nat) (xa:Option Addr) (xcap:Nat) (a:Option Addr) (cap:Nat) (l:List Zp) (w:World) (hc:bo w.heap.size w ca af) (hk:aO w.heap.size w xa xs) (h:bP w a l) :
  Calls Tryz.prog 49 #[.slice ca af.length ccap,.slice xa xs.length xcap,.slice a l.length cap] w fun e w'=>∃ v,e = .returned (.tuple #[v,.int .i64 (j6 af xs l)])∧fN w.heap.size w' v (vF af xs l)∧Below w.heap.size w w':=by
 obtain ⟨i0,hi,hz0,hz1,hz2⟩:=info_parts Tryz.i5;have con:=qF af xs ca ccap xa xcap w hk hc;generalize hfz:vF af xs l=fz;generalize hfe:j6 af xs l=fe;have HZ:Hid (vF af xs l=fz):=hfz;have HF:Hid (j6 af xs l=fe):=hfe;clear hfz hfe;by_cases h1:bj af xs=0
 ·have H1:Hid (bj af xs=0):=h1;rw [h1] at con;clear h1;go_enter Tryz.func49,Tryz.ntmps49;go_wp2_with fail
  refine con.mono ?_;rintro e w1 ⟨u,rfl,hL,hb1⟩;clear con;have hL:iB af w.heap.size u xs w1:=by
   rcases hL with ⟨_,hL⟩ | ⟨hL,_⟩
   ·exact hL
   ·exact absurd (by trivial) hL
  obtain ⟨g,cb,rfl,eg,d⟩:=hL;have HD:Hid (∀ (row:List Vl) (a:Option Addr) (cap:Nat) (W:World),et af row→aY W a row→Since w.heap.size w1 W→Calls Tryz.prog g (#[.slice a row.length cap] ++ cb) W fun e w'=>e = .returned (.slice (some ⟨W.heap.size,0,none⟩) xs.length xs.length)∧kt W.heap.size w' (dU xs row)∧Below W.heap.size W w'):=d;clear d;have con:=gu af ca ccap a cap l w1 ((hc.next hb1 (Hd _)).up hb1.size) (h.next hb1);by_cases h2:cG af l=0
  ·have hz:=(hJ af l).1 h2;rw [h2] at con;have H2:Hid (cG af l=0):=h2;clear h2;have HE:Hid (fe=bF (lG xs l)):=by
    show fe=_;rw [← HF.out]; unfold j6; rw [H1.out,H2.out]; rfl
   have HV:Hid (fz=cB (lG xs l)):=by
    show fz=_;rw [← HZ.out]; unfold vF cB; rw [HF.out,HE.out]
   have hl4:=gf hz;have HO:Hid (iv af l):=hz;go_wp2_with fail
   refine con.mono ?_;rintro e w2 ⟨rfl,hb2⟩;clear con;have hA:=chain hb1 hb2;have z2:=hb2.size;have z1:=hb1.size;go_wp2_with (first | (at_make; refine wpList_make_full _ rfl _ _ 37 rfl w2.heap.size 63 i0 _ 2 Tryz.underlying37 hi hz0 hz1 .i64 .i64 l.length l.length l.length rfl rfl rfl rfl (by rw [hz2]; omega) (by unfold maxLen; omega) (Hd _) ?_))
   intro w3 hown hgrow;have hb3:Below w2.heap.size w2 w3:=(He _ _).grown hgrow (Hd _) (by simp);obtain ⟨f,hf⟩:∃ f:Nat→Zp,f=(fun j=>(lG xs l).getD j ([],0)):=⟨_,rfl⟩
   have HFn:Hid (f=(fun j=>(lG xs l).getD j ([],0))):=hf;clear hf;have hB0:tR w3 w2.heap.size l.length f 0:=⟨_,hown,fun j _ hj=>absurd hj (Iu _)⟩
   clear hown hgrow;go_wp2_with fail
   go_loopw [34] (fun i wr=>∃ k:Nat,k≤l.length∧i = .int .i64 k∧tR wr w2.heap.size l.length f k∧Below w2.heap.size w2 wr) (fun i _=>l.length - (intOf i).toNat)
   case atStart=>exact ⟨0,Hl _,rfl,hB0,hb3⟩
   case round =>
    clear hB0 hb3;obtain ⟨k,hk,rfl,HB,hb⟩:=hrel;have hz:=hb.size;by_cases hlt:k<l.length
    ·obtain ⟨b,off,rfl,hbl,c1,ar,cr,c0,sr⟩:=(h.next (chain hA hb)).elem hlt;have hal:=aa wr (.cells #[.slice ar l[k].1.length cr,.int .i64 l[k].2] 63);have hd:Below (wr.alloc (.cells #[.slice ar l[k].1.length cr,.int .i64 l[k].2] 63)).heap.size (wr.alloc (.cells #[.slice ar l[k].1.length cr,.int .i64 l[k].2] 63)) (wr.alloc (.cells #[.slice ar l[k].1.length cr,.int .i64 l[k].2] 63)).drew:=(He _ _).drew
     have hbk:Below w1.heap.size w1 (wr.alloc (.cells #[.slice ar l[k].1.length cr,.int .i64 l[k].2] 63)).drew:=(chain (chain (chain hb2 hb) hal) hd)
     have con:=HD.out l[k].1 ar cr _ (HO.out.fit l[k] (Hm hlt)) ((sr.next hal).next hd) (Since.of hbk);have q0:(wr.alloc (.cells #[.slice ar l[k].1.length cr,.int .i64 l[k].2] 63)).cell? ⟨wr.heap.size,0,none⟩=some (.slice ar l[k].1.length cr):=by simp
     have q1:(wr.alloc (.cells #[.slice ar l[k].1.length cr,.int .i64 l[k].2] 63)).cell? ⟨wr.heap.size,1,none⟩=some (.int .i64 l[k].2):=by simp
     have za:(wr.alloc (.cells #[.slice ar l[k].1.length cr,.int .i64 l[k].2] 63)).heap.size=wr.heap.size+1:=by simp
     have ef:f k=(dU xs l[k].1,l[k].2):=by rw [HFn.out]; simp [lG,List.getD,hlt]
     have EF:Hid (f k=(dU xs l[k].1,l[k].2)):=ef;have hrl:xs.length=(dU xs l[k].1).length:=by simp [dU]
     have HR:Hid (xs.length=(dU xs l[k].1).length):=hrl;have i0':(0:Int)≤(k:Int):=by omega
     have i1:(k:Int)<(l.length:Int):=by omega
     clear ef hrl;go_wp2_with fail
     clear c0 c1 sr;generalize wr.alloc (.cells #[.slice ar l[k].1.length cr,.int .i64 l[k].2] 63)=wk at *;obtain ⟨⟨t0,t1,e0,e1⟩,f0,f1,hlb⟩:=(HB.next hal).cells hlt;go_region_with (go_at_fn g; refine con.mono ?_; rintro e w5 ⟨rfl,hR,hb5⟩; have HB5:=((HB.next hal).next hd).next hb5; obtain ⟨⟨u0,u1,d0,d1⟩,g0,g1,hlb5⟩:=HB5.cells hlt; have r1:=((hd.trans (hb5.mono hd.size)).cell (p:=⟨wr.heap.size,1,none⟩) (by show wr.heap.size<_; omega)).trans q1)
     all_goals (
      go_wp2_with fail
      go_roundw
      case rel =>
       refine ⟨k+1,by omega,by go_num,?_,?_⟩
       ·have:=HB5.step hlt (a:=some ⟨wk.drew.heap.size,0,none⟩) (cap:=xs.length) (by rw [EF.out]; exact hR.1) hR.2;rw [EF.out,← HR.out,show wk.drew.heap.size=wr.heap.size+1 from za] at this;exact this
       ·exact ((chain (chain hb hal) (hd.trans (hb5.mono hd.size))).setCell (p:=⟨w2.heap.size,k*2,none⟩) (Hd _) _).setCell (p:=⟨w2.heap.size,k*2+1,none⟩) (Hd _) _
      case measure=>simp [intOf]; omega)
    ·have e:k=l.length:=by omega
     subst e;have hml:(lG xs l).length=l.length:=by simp [lG]
     have zsm:=HB.done (lG xs l) hml.symm (fun j hj=>by rw [HFn.out]; simp [List.getD,hj]) (by omega);have con:=eX (some ⟨w2.heap.size,0,none⟩) l.length (lG xs l) wr zsm (by omega) (fun y hy=>by obtain ⟨p,hp,rfl⟩:=List.mem_map.1 hy; exact qH (kB HO.out p hp)) (fun y hy=>by obtain ⟨p,hp,rfl⟩:=List.mem_map.1 hy; have:=(sw H1.out).1; simpa [dU] using this);rw [hml] at con;have HV':=HV.out;have HE':=HE.out;rw [← HE',← HV'] at con;clear HV' HE' zsm HB;go_wp2_with fail
     refine con.mono ?_;rintro e w6 ⟨v6,rfl,O6,hb6⟩;have hA6:=chain hA hb;have O6':=O6.mono hA6.size;obtain ⟨a6,c6,rfl,_⟩:=O6.zs;go_wp2_with fail
     exact Hf (v:=.tuple #[.slice a6 fz.length c6,.int .i64 fe]) (by simp [results,Tryz.results49,go_sem]) rfl ⟨_,rfl,O6',chain hA6 hb6⟩
  ·have e0:fe=cG af l:=by rw [← HF.out]; unfold j6; rw [H1.out,if_neg (by simp),if_pos h2]
   have e1:fz = []:=by rw [← HZ.out]; unfold vF; rw [HF.out,e0,if_neg h2]
   have hne:(cG af l != 0)=true:=by simpa using h2
   rw [← e0] at con hne;have HV:Hid (fz = []):=e1;clear e0 e1;go_wp2_with fail
   refine con.mono ?_;rintro e w2 ⟨rfl,hb2⟩;clear con;go_wp2_with fail
   exact Hf (v:=.tuple #[.slice none 0 0,.int .i64 fe]) (by simp [results,Tryz.results49,go_sem]) rfl ⟨_,rfl,by rw [HV.out]; exact dN _ _,chain hb1 hb2⟩
 ·have e0:fe=bj af xs:=by rw [← HF.out]; unfold j6; rw [if_pos h1]
  have e1:fz = []:=by rw [← HZ.out]; unfold vF; rw [HF.out,e0,if_neg h1]
  have hne:(bj af xs != 0)=true:=by simpa using h1
  have HL:Hid (¬ bj af xs=0):=h1;rw [← e0] at hne;have HV:Hid (fz = []):=e1;have HN:Hid (fe=bj af xs):=e0;clear e0 e1 h1;go_enter Tryz.func49,Tryz.ntmps49;go_wp2_with fail
  refine con.mono ?_;rintro e w1 ⟨u,rfl,hL,hb1⟩;obtain ⟨_,rfl⟩:¬ bj af xs=0∧u = .nilFunc:=by
   rcases hL with ⟨hL,_⟩ | hL
   ·exact absurd hL HL.out
   ·exact hL
  rw [← HN.out];clear con;go_wp2_with fail
  exact Hf (v:=.tuple #[.slice none 0 0,.int .i64 fe]) (by simp [results,Tryz.results49,go_sem]) rfl ⟨_,rfl,by rw [HV.out]; exact dN _ _,hb1⟩
end Go.Proofs.YtjebpkhkjkjphaaGreat
