import Derived.Shelf.Spec.SlicesGrow
import Derived.Ground.Names8Prog
import Derived.Test.YtoefpglknaiaeaaGreatMW8
set_option maxHeartbeats 16000000
set_option maxRecDepth 100000
namespace Go.Proofs.YtoefpglknaiaeaaGreat
open Go.RowKit Go.Lib
theorem ix {P:Program} {w:World} (base:Nat) (t ty e:TypeId) (i:TypeInfo) (size:Nat) (ht:P.underlying t=some (.slice e)) (hi:P.info? e=some i)
  (v:Value) (n:Nat) (xs:List Value) (hown:w.ownsRow base e size v n xs) (c:Nat):(Builtin.append_ #[t,t] ty #[v,.slice none 0 c]).run P w = .ok v w:=by
 rcases hown.2 with ⟨rfl,rfl⟩ | ⟨g,cap,cur,rfl,_,_,hnc,_⟩
 ·simp [Builtin.append_,run_underlying ht,sizeOf,typeInfo,hi,Builtin.lenOf,Builtin.firstCells]
 ·simp [Builtin.append_,run_underlying ht,sizeOf,typeInfo,hi,Builtin.lenOf,Builtin.firstCells,hnc,storeCells]
structure Raw (W:World) (a:Option Addr) (n size:Nat) (xs:List Value):Prop where
 len:xs.length=n*size
 one:∀ u ∈ xs,u.oneCell'=true
 nil:a=none→n=0
 at_:∀ ad,a=some ad→∀ j u,xs[j]? = some u→W.cell? (ad.add j)=some u
theorem Raw.next {W w1:World} {a:Option Addr} {n size:Nat} {xs:List Value} (h:Raw W a n size xs) (hb:Below W W w1):Raw w1 a n size xs :=
 ⟨h.len,h.one,h.nil,fun ad e j u hj=>(hb.cell (ML _ _ (h.at_ ad e j u hj))).trans (h.at_ ad e j u hj)⟩
theorem Raw.alloc {W:World} {a:Option Addr} {n size:Nat} {xs:List Value} (h:Raw W a n size xs) (o:Obj):Raw (W.alloc o) a n size xs:=h.next (aN ..)
theorem bY {P:Program} {w:World} {ops:Array Oper} {rest:List Oper} {o:Oper} {a:Act} {Q:Exit→Act→World→Prop} (hgd:o.guard=none) (s x:Operand) (t:TypeId)
  (ho:o.op = .call { callee:=.builtin .append,args:=#[s,x],argTypes:=#[t,t] })
  (base:Nat) (e:TypeId) (i:TypeInfo) (z:Value) (size bytes:Nat) (ht:P.underlying t=some (.slice e)) (hi:P.info? e=some i) (hz:i.zero=some z)
  (hsize:i.size=size) (hby:i.bytes=bytes) (hzs:z.cells.size=size) (hsz:0<size)
  (v:Value) (n:Nat) (xs:List Value) (hs:a.eval s=v) (hown:w.ownsRow base e size v n xs)
  (ao:Option Addr) (m c:Nat) (news:List Value) (hx:a.eval x = .slice ao m c) (hr:Raw w ao m size news)
  (h63:n+m≤maxLen) (hbytes:(n+m)*bytes≤140737488355328) (hbase:base≤w.heap.size)
  (h:∀ v' w',w'.ownsRow base e size v' (n+m) (xs ++ news)→w.grownBy w' v.ownBlock→wpList P ops Q rest (a.put o.dst v') w'):wpList P ops Q (o :: rest) a w:=by
 rcases ao with _ | ad
 ·have hm:=hr.nil rfl;subst hm;have hnews:=MH (by simpa using hr.len);subst hnews;refine wpList_plain hgd fun K hK'=>?_
  have hrun:=ix (P:=P) (w:=w) base t o.type e i size ht hi v n xs hown c;unfold Oper.wp;simp [execOp,ho,resolve,invoke,builtin,hs,hx,hrun,Result.andThen];exact hK' _ _ (by simpa using h v w (by simpa using hown) (World.grownBy.refl _ _))
 ·exact MX _ hgd s x t ho base e i z size bytes ht hi hz hsize hby hzs hsz v n xs hs hown ad m c news hx hr.len (hr.at_ ad rfl) hr.one h63 hbytes hbase (fun v' w' h1 h2 _=>h v' w' h1 h2)
theorem ik {P:Program} (w:World) {ops:Array Oper} {rest:List Oper} {o:Oper} {a:Act} {Q:Exit→Act→World→Prop}
  (hg:o.guard=none) (s x:Operand) (t:TypeId) (hop:o.op=Op.call { callee:=Callee.builtin Builtin.append,args:=#[s,x],argTypes:=#[t,t] })
  (base:Nat) (e:TypeId) (i:TypeInfo) (size:Nat) (h1:P.underlying t=some (.slice e)) (h2:P.info? e=some i) (h4:i.size=size)
  (g k cap:Nat) (xs:List Value) (hs:a.eval s = .slice (some (ah g 0)) k cap) (hown:w.ownsRow base e size (.slice (some (ah g 0)) k cap) k xs) (ao:Option Addr) (m c:Nat) (news:List Value) (hx:a.eval x = .slice ao m c) (hr:Raw w ao m size news) (b1:k+m≤cap)
  (hK:∀ w',w'.ownsRow base e size (.slice (some (ah g 0)) (k+m) cap) (k+m) (xs ++ news)→w.grownBy w' (some g)→wpList P ops Q rest (a.put o.dst (.slice (some (ah g 0)) (k+m) cap)) w') :
  wpList P ops Q (o :: rest) a w:=by
 rcases ao with _ | ad
 ·have hm:=hr.nil rfl;subst hm;have hnews:=MH (by simpa using hr.len);subst hnews;refine wpList_plain hg fun K hK'=>?_
  have hrun:=ix (P:=P) (w:=w) base t o.type e i size h1 h2 _ k xs hown c;unfold Oper.wp;simp [execOp,hop,resolve,invoke,builtin,hs,hx,hrun,Result.andThen];exact hK' _ _ (by simpa using hK w (by simpa using hown) (World.grownBy.refl _ _))
 ·exact wpList_append_fits w hg s x t hop base e i size h1 h2 h4 g k cap xs hs hown ad m c news hx hr.len (hr.at_ ad rfl) hr.one b1 hK
theorem ve (b off i:Nat):((ah b off):Addr).add i=⟨b,off+i,none⟩:=by
 unfold Addr.add;by_cases h:i=0 <;> simp [h]
def bG:List Vl→List Value
 | []=>[]
 | v :: r=>.int .i64 v.1 :: .int .i64 v.2.1 :: .string v.2.2 :: bG r
theorem dK:∀ l,(bG l).length=l.length*3
 | []=>rfl
 | v :: r=>by simp only [bG,Ng,dK r]; omega
theorem bW:∀ l t,bG (l ++ t)=bG l ++ bG t
 | [],_=>rfl
 | v :: r,t=>by simp only [Nu,bG,bW r t]
theorem mY:∀ (l:List Vl) (j:Nat) (h:j<l.length),(bG l)[j*3]? = some (.int .i64 l[j].1)∧(bG l)[j*3+1]? = some (.int .i64 l[j].2.1)∧(bG l)[j*3+2]? = some (.string l[j].2.2)
 | [],_,h=>by simp at h
 | v :: r,0,_=>by simp [bG]
 | v :: r,j+1,h=>by
  have ih:=mY r j (by simpa using h)
  have e0:(j+1)*3=j*3+1+1+1:=by omega
  have e1:(j+1)*3+1=j*3+1+1+1+1:=by omega
  have e2:(j+1)*3+2=j*3+2+1+1+1:=by omega
  rw [e1,e2,e0]
  simp only [bG,List.getElem?_cons_succ,NJ]
  exact ih
theorem mW:∀ l,∀ u ∈ bG l,u.oneCell'=true
 | [],u,h=>by simp [bG] at h
 | v :: r,u,h=>by
  simp only [bG,M0] at h
  rcases h with rfl | rfl | rfl | h
  ·rfl
  ·rfl
  ·rfl
  ·exact mW r u h
theorem fj {W:World} {a:Option Addr} {l:List Vl} (h:aZ W a l):Raw W a l.length 3 (bG l):=by
 refine ⟨dK l,mW l,?_,?_⟩
 ·intro e;rcases h.2 with h | ⟨b,off,e',_⟩
  ·rw [h]; rfl
  ·rw [e] at e'; cases e'
 ·intro ad e j u hj;have hlt:j<l.length*3:=by
   rcases Nl j (l.length*3) with h | h
   ·exact h
   ·rw [Nr (by rw [dK]; exact h)] at hj; cases hj
  obtain ⟨b,off,e',_,c0,c1,c2⟩:=h.elem (k:=j / 3) ag;rw [e] at e';have e':=Nk e';subst e';rw [ve];obtain ⟨g0,g1,g2⟩:=mY l (j / 3) ag;have hm:j % 3=0∨j % 3=1∨j % 3=2:=by omega
  rcases hm with hm | hm | hm
  ·have ej:j=j / 3*3:=by omega
   rw [ej,g0] at hj;rw [← hj,← c0]; congr 2; omega
  ·have ej:j=j / 3*3+1:=by omega
   rw [ej,g1] at hj;rw [← hj,← c1]; congr 2; omega
  ·have ej:j=j / 3*3+2:=by omega
   rw [ej,g2] at hj;rw [← hj,← c2]; congr 2; omega
theorem dE {B:Nat} {W:World} {a:Option Addr} {l:List Int} (h:bf B W a l):Raw W a l.length 1 (l.map (Value.int .i64)):=by
 refine ⟨by simp,by intro u hu; obtain ⟨x,_,rfl⟩:=List.mem_map.1 hu; rfl,?_,?_⟩
 ·intro e;rcases h.2 with h | ⟨b,off,e',_⟩
  ·rw [h]; rfl
  ·rw [e] at e'; cases e'
 ·intro ad e j u hj;have hlt:j<l.length:=by
   rcases Nl j l.length with h | h
   ·exact h
   ·rw [Nr (by simpa using h)] at hj; cases hj
  obtain ⟨b,off,e',_,c0⟩:=h.elem hlt;rw [e] at e';have e':=Nk e';subst e';rw [ve,c0]
  simpa [hlt] using hj
theorem dQ {W:World} {B n:Nat} {v:Value} {l:List Vl} (ho:W.ownsRow B 24 3 v n (bG l)) (hn:n=l.length):∃ a cap,v = .slice a l.length cap∧aZ W a l∧fi W a∧(l.length≤cap∨a=none):=by
 subst hn;have ho':=ho;obtain ⟨hx,⟨rfl,h0⟩ | ⟨g,cap,cur,rfl,hg,hh,hn,hc,hs,ht⟩⟩:=ho
 ·have:l = []:=MH h0;subst this;exact ⟨none,0,rfl,⟨by simp,.inl rfl⟩,(fun b off e=>by cases e),.inr rfl⟩
 ·refine ⟨_,cap,rfl,⟨by omega,.inr ⟨g,0,rfl,fun i hi=>?_,(ho'.lt g rfl).2⟩⟩,?_,.inl hn⟩
  ·obtain ⟨g0,g1,g2⟩:=mY l i hi;refine ⟨?_,?_,?_⟩
   ·rw [ho'.cellAt _ ag,← g0]; congr 1; omega
   ·rw [ho'.cellAt _ ag,← g1]; congr 1; omega
   ·rw [ho'.cellAt _ ag,← g2]; congr 1; omega
  ·intro b off e;have e:=Nk e;injection e with e1 e2
   subst e1;exact ⟨_,_,hh⟩
theorem mC {W:World} {B n:Nat} {v:Value} {l:List Int} (ho:W.ownsRow B 3 1 v n (l.map (Value.int .i64))) (hn:n=l.length):∃ a cap,v = .slice a l.length cap∧bf W W a l:=by
 subst hn;have ho':=ho;obtain ⟨hx,⟨rfl,h0⟩ | ⟨g,cap,cur,rfl,hg,hh,hn,hc,hs,ht⟩⟩:=ho
 ·have:l = []:=MH h0;subst this;exact ⟨none,0,rfl,⟨by simp,.inl rfl⟩⟩
 ·refine ⟨_,cap,rfl,⟨by omega,.inr ⟨g,0,rfl,(ho'.lt g rfl).2,fun i hi=>?_⟩⟩⟩;have:=ho'.cellAt i ag;rw [MG,this];simp [hi]
end Go.Proofs.YtoefpglknaiaeaaGreat
namespace Go.Proofs
open Go.Shelf Go.RowKit Go.Lib _root_.Go.Proofs.Tryz
shelf_lay_g Lays8.n4 Nm8 4 at Tryz 117 as Tryz.growZ
end Go.Proofs
namespace Go.Proofs.YtoefpglknaiaeaaGreat
open Go.RowKit Go.Lib Go.Shelf _root_.Go.Proofs.Tryz
theorem Jk (n:Nat) (hn:n≤200000) (w:World) :
  Calls prog 117 #[bX,n] w fun e w'=>∃ v,e = .returned v∧w'.ownsRow w 47 2 v 0 []∧Below w w w':=by
 obtain ⟨i0,hi,hj0,hj1,hj2⟩:=info_parts Tryz.fK;by_cases h0:n=0
 ·subst h0;refine (Any8.slices_Grow_room Tryz.growZ none 0 0 0 w ag ag ag ag).mono ?_;rintro e w' ⟨rfl,rfl⟩;exact ⟨_,rfl,M4 _ _ _ _,Mz _ _⟩
 ·refine (Any8.slices_Grow_grow Tryz.growZ i0 _ hi hj0 (by rw [hj1]; omega) none 0 0 n [] w ag ag (by rw [hj2]; omega) ag (by simp) (by simp) (by intro a e; cases e)).mono ?_;rintro e w' ⟨rfl,rfl⟩;refine ⟨_,rfl,?_,((Mz _ _).drew).alloc (Mx _) _⟩;rw [MG];have hc:=grownCap_ge w n 0 47;have hm:=grownCap_le_maxLen w n 0 47 (by unfold maxLen; omega)
  have:=Nd (w:=w.drew) (base:=w.heap.size) (e:=47) (size:=2) (cur:=[].toArray ++ Builtin.zeroCells (Value.agg #[Value.slice none 0 0,Value.int IntKind.i64 0]).cells (n - 0) ++ Builtin.zeroCells (Value.agg #[Value.slice none 0 0,Value.int IntKind.i64 0]).cells (grownCap w n 0 47 - n)) (cap:=grownCap w n 0 47) (Mx _) hm (by simp [size_zeroCells,Value.cells]; omega);exact this
theorem zK {W:World} {xs ys:List Value} {l t:List Zp} (h:iy W xs l) (k:iy W ys t):iy W (xs ++ ys) (l ++ t):=by
 have lx:=h.1;have ly:=k.1;refine ⟨by simp [lx,ly]; omega,fun i hi=>?_⟩;by_cases hi':i<l.length
 ·obtain ⟨a',c',h1,h2,h3⟩:=h.2 i hi';rw [MV hi'];refine ⟨a',c',?_,?_,h3⟩
  ·rw [MT ag,h1]
  ·rw [MT ag,h2]
 ·have hi2:i - l.length<t.length:=by simp at hi; omega
  obtain ⟨a',c',h1,h2,h3⟩:=k.2 (i - l.length) hi2;rw [Nx ag];refine ⟨a',c',?_,?_,h3⟩
  ·rw [MU ag,← h1]; congr 1; omega
  ·rw [MU ag,← h2]; congr 1; omega
theorem km {w:World} {a:Option Addr} {l:List Zp} (h:aK w a l):∃ news,iy w news l∧(∀ u ∈ news,u.oneCell'=true)∧(a=none→l = [])∧∀ ad,a=some ad→∀ j u,news[j]? = some u→w.cell? (ad.add j)=some u:=by
 obtain ⟨d,hd,hdl,hc⟩:=h.arr;refine ⟨(Go.Sort.flatK (iZ w) 2 d).toList,⟨by simp [hd],fun i hi=>?_⟩,?_,?_,?_⟩
 ·have hi':i<d.size:=by omega
  have e:=getElem!_pos d i hi';have el:Fz w d[i]=l[i]:=by
   have:l[i]=(d.toList.map (Fz w))[i]'(by simpa using hi'):=by simp [hdl]
   rw [this]; simp
  refine ⟨d[i].1.a,d[i].1.cap,?_,?_,?_⟩
  ·rw [N2,Ny (by simp; omega),← getElem!_pos,pP d i hi',e,← el]; rfl
  ·rw [N2,Ny (by simp; omega),← getElem!_pos,sM d i hi',e,← el]; rfl
  ·rw [← el]; exact d[i].2
 ·intro u hu;obtain ⟨j,hj,rfl⟩:=No hu;have hj':j<d.size*2:=by simpa using hj
  have e:(Go.Sort.flatK (iZ w) 2 d).toList[j]=(Go.Sort.flatK (iZ w) 2 d)[j]!:=by
   rw [NP,getElem!_pos]
  rw [e,Go.Sort.get_flatK _ _ _ _ hj'];rcases Nat.mod_two_eq_zero_or_one j with h0 | h1
  ·rw [h0]; rfl
  ·rw [h1]; rfl
 ·intro e;rcases hc with h | ⟨b,off,e',_⟩
  ·exact h
  ·rw [e] at e'; cases e'
 ·intro ad e j u hj;have hj':j<d.size*2:=by
   rcases Nl j (d.size*2) with h | h
   ·exact h
   ·rw [Nr (by simpa using h)] at hj; cases hj
  rcases hc with h | ⟨b,off,e',hlt,hc⟩
  ·subst h; simp at hd; subst hd; simp at hj'
  ·rw [e] at e';injection e' with e'
   subst e';rw [iq];rw [N2,Ny (by simpa using hj')] at hj;injection hj with hj
   have:=hc j ag
   rwa [getElem!_pos _ _ (by simpa using hj'),hj] at this
end Go.Proofs.YtoefpglknaiaeaaGreat
namespace Go.Proofs.YtoefpglknaiaeaaGreat
open Go.RowKit Go.Lib _root_.Go.Proofs.Tryz
def xQ (xs ys:List Value):Nat→List Value
 | 0=>[]
 | 1=>xs
 | _=>xs ++ ys
def lT (n m:Nat):Nat→Nat
 | 0=>0
 | 1=>n
 | _=>n+m
theorem ni (n m k:Nat):lT n m k≤n+m:=by
 match k with
 | 0=>simp [lT]
 | 1=>simp [lT]
 | j+2=>simp [lT]
structure jA (w:World) (B size n m:Nat) (xs ys:List Value):Prop where
 lt:B<w.heap.size
 at_:∀ k,k<2→∃ a cap q cs,w.cell? (ah B k)=some (.slice a q cap)∧Raw w a q size cs∧xQ xs ys (k+1)=xQ xs ys k ++ cs∧lT n m (k+1)=lT n m k+q
theorem jA.new {w:World} {size n m:Nat} {xs ys:List Value} {a b:Option Addr} (ca cb:Nat) (h:Raw w a n size xs) (k:Raw w b m size ys) (T:TypeId) :
  jA (w.alloc (.cells #[.slice a n ca,.slice b m cb] T)) w size n m xs ys :=
 ⟨by simp,fun j hj=>by
  match j,hj with
  | 0,_=>exact ⟨a,ca,n,xs,by simp,h.alloc _,by simp [xQ],by simp [lT]⟩
  | 1,_=>exact ⟨b,cb,m,ys,by simp,k.alloc _,by simp [xQ],by simp [lT]⟩⟩
theorem jA.next {w w1:World} {B size n m:Nat} {xs ys:List Value} (h:jA w B size n m xs ys) (hb:Below w w w1):jA w1 B size n m xs ys :=
 ⟨My h.lt hb.size,fun k hk=>by
  obtain ⟨a,cap,q,cs,h1,h2,h3,h4⟩:=h.at_ k hk
  exact ⟨a,cap,q,cs,(hb.cell (p:=ah B k) h.lt).trans h1,h2.next hb,h3,h4⟩⟩
end Go.Proofs.YtoefpglknaiaeaaGreat
namespace Go.Proofs
open Go.Shelf Go.RowKit Go.Lib _root_.Go.Proofs.Tryz
shelf_lay_g Lays8.n4 Nm8 4 at Tryz 181 as Tryz.growV
end Go.Proofs
namespace Go.Proofs.YtoefpglknaiaeaaGreat
open Go.RowKit Go.Lib Go.Shelf _root_.Go.Proofs.Tryz
theorem sZ:(Tryz.prog.info? 24).map (fun i=>(i.zero,i.size,i.bytes))=some (some (.agg #[aD,aD,()]),3,32):=by kernel_rfl
theorem Hl (n:Nat) (hn:n≤1000) (w:World) :
  Calls prog 181 #[bX,n] w fun e w'=>∃ v,e = .returned v∧w'.ownsRow w 24 3 v 0 []∧Below w w w':=by
 obtain ⟨i0,hi,hj0,hj1,hj2⟩:=info_parts sZ;by_cases h0:n=0
 ·subst h0;refine (Any8.slices_Grow_room Tryz.growV none 0 0 0 w ag ag ag ag).mono ?_;rintro e w' ⟨rfl,rfl⟩;exact ⟨_,rfl,M4 _ _ _ _,Mz _ _⟩
 ·refine (Any8.slices_Grow_grow Tryz.growV i0 _ hi hj0 (by rw [hj1]; omega) none 0 0 n [] w ag ag (by rw [hj2]; omega) ag (by simp) (by simp) (by intro a e; cases e)).mono ?_;rintro e w' ⟨rfl,rfl⟩;refine ⟨_,rfl,?_,((Mz _ _).drew).alloc (Mx _) _⟩;rw [MG];have hc:=grownCap_ge w n 0 24;have hm:=grownCap_le_maxLen w n 0 24 (by unfold maxLen; omega)
  have:=Nd (w:=w.drew) (base:=w.heap.size) (e:=24) (size:=3) (cur:=[].toArray ++ Builtin.zeroCells (Value.agg #[aD,aD,()]).cells (n - 0) ++ Builtin.zeroCells (Value.agg #[aD,aD,()]).cells (grownCap w n 0 24 - n)) (cap:=grownCap w n 0 24) (Mx _) hm (by simp [size_zeroCells,Value.cells]; omega);exact this
theorem kY (B:Nat) (n m:Nat) (xs ys:List Value) (w:World) (h:jA w B 3 n m xs ys) (hl:n+m≤1000) :
  Calls prog 137 #[.slice (some (ah B 0)) 2 2] w fun e w'=>∃ v,e = .returned v∧w'.ownsRow w 24 3 v (n+m) (xs ++ ys)∧Below w w w':=by
 obtain ⟨i0,hi,hj0,hj1,hj2⟩:=info_parts sZ;go_enter func137,ntmps137;go_wp2_with fail
 go_loopw [3,11] (fun sz i wr=>∃ k:Nat,k≤2∧i = .int .i64 k∧sz = .int .i64 (lT n m k:Int)∧wr=w) (fun _ i _=>2 - (intOf i).toNat)
 case atStart=>exact ⟨0,by omega,rfl,rfl,rfl⟩
 case round =>
  obtain ⟨k,hk,rfl,rfl,rfl⟩:=hrel;have hcl:=ni n m k;by_cases hlt:k<2
  ·obtain ⟨a,cap,q,cs,c0,zs,hcat,hcn⟩:=h.at_ k hlt;have hcl2:=ni n m (k+1);rw [hcn] at hcl2;have HCat:=aB hcn;clear hcat hcn;generalize hq:lT n m k=r at *;have HQ:=aB hq;clear hq;go_wp2
   go_roundw
   case rel=>exact ⟨k+1,by omega,by go_num,by rw [HCat.out]; go_num,LR⟩
   case measure=>simp [intOf]; omega
  ·have e:k=2:=by omega
   subst e;have el:(lT n m 2:Int)=((n+m:Nat):Int):=rfl;have gc:=Hl (n+m) ag wr;rw [Int.natCast_add] at gc;rw [Int.natCast_add] at el;go_wp2_with fail
   refine gc.mono ?_;clear gc el;rintro e w1 ⟨v,rfl,ho,hb1⟩;have hsh:∃ a c,v = .slice a 0 c:=by
    obtain ⟨_,⟨rfl,h0⟩ | ⟨g,c1,cur,rfl,_⟩⟩:=ho
    ·exact ⟨none,0,rfl⟩
    ·exact ⟨_,c1,rfl⟩
   obtain ⟨a1,c1,rfl⟩:=hsh;go_wp2_with fail
   generalize hw0:wr=w0 at *;have HW0:=aB hw0;clear hw0;go_loopw [6,27] (fun v i ws=>∃ k:Nat,k≤2∧i = .int .i64 k∧ws.ownsRow w0 24 3 v (lT n m k) (xQ xs ys k)∧Below w0 w0 ws) (fun _ i _=>2 - (intOf i).toNat)
   case atStart=>exact ⟨0,by omega,rfl,ho,hb1⟩
   case round =>
    clear ho;obtain ⟨k,hk,rfl,ho,hb⟩:=hrel;have hz:=hb.size;by_cases hlt:k<2
    ·obtain ⟨a,cap,q,cs,c0,zs,hcat,hcn⟩:=h.at_ k hlt;have hcl2:=ni n m (k+1);rw [hcn] at hcl2;have HCat:=aB hcat;have HCn:=aB hcn;clear hcat hcn;have c0':=(hb.cell (p:=ah B k) h.lt).trans c0;have zs':Raw wr a q 3 cs:=⟨zs.len,zs.one,zs.nil,fun ad e j u hj=>(hb.cell (ML _ _ (zs.at_ ad e j u hj))).trans (zs.at_ ad e j u hj)⟩
     clear c0 zs;generalize xQ xs ys k=xk at *;generalize lT n m k=nk at *;go_wp2_with (at_builtin; refine bY rfl _ _ 45 rfl w0 24 i0 _ 3 32 underlying45 hi hj0 hj1 hj2 rfl (by decide) _ _ _ rfl ho a q cap cs rfl zs' (by unfold maxLen; omega) ag ag ?_)
     intro v' w5 ho5 hg5;have hb5:=hb.grown hg5 hz (fun q hq=>(ho.lt q hq).1);clear hg5 ho;go_wp2
     go_roundw
     case rel=>exact ⟨k+1,by omega,by go_num,by rw [HCat.out,HCn.out]; exact ho5,hb5⟩
     case measure=>simp [intOf]; omega
    ·have e:k=2:=by omega
     subst e;have hsh:∃ a c,u6 = .slice a (n+m) c:=by
      obtain ⟨_,⟨e,h0⟩ | ⟨g,c1,cur,e,_⟩⟩:=ho
      ·have h0:n+m=0:=h0;exact ⟨none,0,by rw [e,h0]⟩
      ·exact ⟨_,c1,e⟩
     obtain ⟨a6,c6,rfl⟩:=hsh;go_wp2
     go_ret;exact ⟨_,rfl,by rw [HW0.out]; exact ho,by rw [HW0.out]; exact hb⟩
end Go.Proofs.YtoefpglknaiaeaaGreat
namespace Go.Proofs
open Go.Shelf Go.RowKit Go.Lib _root_.Go.Proofs.Tryz
shelf_lay_g Lays8.n4 Nm8 4 at Tryz 193 as Tryz.growI
end Go.Proofs
namespace Go.Proofs.YtoefpglknaiaeaaGreat
open Go.RowKit Go.Lib Go.Shelf _root_.Go.Proofs.Tryz
theorem qU:(Tryz.prog.info? 3).map (fun i=>(i.zero,i.size,i.bytes))=some (some (.int .i64 0),1,8):=by kernel_rfl
theorem GS (n:Nat) (hn:n≤1000) (w:World) :
  Calls prog 193 #[bX,n] w fun e w'=>∃ v,e = .returned v∧w'.ownsRow w 3 1 v 0 []∧Below w w w':=by
 obtain ⟨i0,hi,hj0,hj1,hj2⟩:=info_parts qU;by_cases h0:n=0
 ·subst h0;refine (Any8.slices_Grow_room Tryz.growI none 0 0 0 w ag ag ag ag).mono ?_;rintro e w' ⟨rfl,rfl⟩;exact ⟨_,rfl,M4 _ _ _ _,Mz _ _⟩
 ·refine (Any8.slices_Grow_grow Tryz.growI i0 _ hi hj0 (by rw [hj1]; omega) none 0 0 n [] w ag ag (by rw [hj2]; omega) ag (by simp) (by simp) (by intro a e; cases e)).mono ?_;rintro e w' ⟨rfl,rfl⟩;refine ⟨_,rfl,?_,((Mz _ _).drew).alloc (Mx _) _⟩;rw [MG];have hc:=grownCap_ge w n 0 3;have hm:=grownCap_le_maxLen w n 0 3 (by unfold maxLen; omega)
  have:=Nd (w:=w.drew) (base:=w.heap.size) (e:=3) (size:=1) (cur:=[].toArray ++ Builtin.zeroCells (Value.int .i64 0).cells (n - 0) ++ Builtin.zeroCells (Value.int .i64 0).cells (grownCap w n 0 3 - n)) (cap:=grownCap w n 0 3) (Mx _) hm (by simp [size_zeroCells,Value.cells]; omega);exact this
theorem kX (B:Nat) (n m:Nat) (xs ys:List Value) (w:World) (h:jA w B 1 n m xs ys) (hl:n+m≤1000) :
  Calls prog 162 #[.slice (some (ah B 0)) 2 2] w fun e w'=>∃ v,e = .returned v∧w'.ownsRow w 3 1 v (n+m) (xs ++ ys)∧Below w w w':=by
 obtain ⟨i0,hi,hj0,hj1,hj2⟩:=info_parts qU;go_enter func162,ntmps162;go_wp2_with fail
 go_loopw [3,11] (fun sz i wr=>∃ k:Nat,k≤2∧i = .int .i64 k∧sz = .int .i64 (lT n m k:Int)∧wr=w) (fun _ i _=>2 - (intOf i).toNat)
 case atStart=>exact ⟨0,by omega,rfl,rfl,rfl⟩
 case round =>
  obtain ⟨k,hk,rfl,rfl,rfl⟩:=hrel;have hcl:=ni n m k;by_cases hlt:k<2
  ·obtain ⟨a,cap,q,cs,c0,zs,hcat,hcn⟩:=h.at_ k hlt;have hcl2:=ni n m (k+1);rw [hcn] at hcl2;have HCat:=aB hcn;clear hcat hcn;generalize hq:lT n m k=r at *;have HQ:=aB hq;clear hq;go_wp2
   go_roundw
   case rel=>exact ⟨k+1,by omega,by go_num,by rw [HCat.out]; go_num,LR⟩
   case measure=>simp [intOf]; omega
  ·have e:k=2:=by omega
   subst e;have el:(lT n m 2:Int)=((n+m:Nat):Int):=rfl;have gc:=GS (n+m) ag wr;rw [Int.natCast_add] at gc;rw [Int.natCast_add] at el;go_wp2_with fail
   refine gc.mono ?_;clear gc el;rintro e w1 ⟨v,rfl,ho,hb1⟩;have hsh:∃ a c,v = .slice a 0 c:=by
    obtain ⟨_,⟨rfl,h0⟩ | ⟨g,c1,cur,rfl,_⟩⟩:=ho
    ·exact ⟨none,0,rfl⟩
    ·exact ⟨_,c1,rfl⟩
   obtain ⟨a1,c1,rfl⟩:=hsh;go_wp2_with fail
   generalize hw0:wr=w0 at *;have HW0:=aB hw0;clear hw0;go_loopw [6,27] (fun v i ws=>∃ k:Nat,k≤2∧i = .int .i64 k∧ws.ownsRow w0 3 1 v (lT n m k) (xQ xs ys k)∧Below w0 w0 ws) (fun _ i _=>2 - (intOf i).toNat)
   case atStart=>exact ⟨0,by omega,rfl,ho,hb1⟩
   case round =>
    clear ho;obtain ⟨k,hk,rfl,ho,hb⟩:=hrel;have hz:=hb.size;by_cases hlt:k<2
    ·obtain ⟨a,cap,q,cs,c0,zs,hcat,hcn⟩:=h.at_ k hlt;have hcl2:=ni n m (k+1);rw [hcn] at hcl2;have HCat:=aB hcat;have HCn:=aB hcn;clear hcat hcn;have c0':=(hb.cell (p:=ah B k) h.lt).trans c0;have zs':Raw wr a q 1 cs:=⟨zs.len,zs.one,zs.nil,fun ad e j u hj=>(hb.cell (ML _ _ (zs.at_ ad e j u hj))).trans (zs.at_ ad e j u hj)⟩
     clear c0 zs;generalize xQ xs ys k=xk at *;generalize lT n m k=nk at *;go_wp2_with (at_builtin; refine bY rfl _ _ 33 rfl w0 3 i0 _ 1 8 underlying33 hi hj0 hj1 hj2 rfl (by decide) _ _ _ rfl ho a q cap cs rfl zs' (by unfold maxLen; omega) ag ag ?_)
     intro v' w5 ho5 hg5;have hb5:=hb.grown hg5 hz (fun q hq=>(ho.lt q hq).1);clear hg5 ho;go_wp2
     go_roundw
     case rel=>exact ⟨k+1,by omega,by go_num,by rw [HCat.out,HCn.out]; exact ho5,hb5⟩
     case measure=>simp [intOf]; omega
    ·have e:k=2:=by omega
     subst e;have hsh:∃ a c,u6 = .slice a (n+m) c:=by
      obtain ⟨_,⟨e,h0⟩ | ⟨g,c1,cur,e,_⟩⟩:=ho
      ·have h0:n+m=0:=h0;exact ⟨none,0,by rw [e,h0]⟩
      ·exact ⟨_,c1,e⟩
     obtain ⟨a6,c6,rfl⟩:=hsh;go_wp2
     go_ret;exact ⟨_,rfl,by rw [HW0.out]; exact ho,by rw [HW0.out]; exact hb⟩
def iU (l l':List Zp):Nat→List Zp
 | 0=>[]
 | 1=>l
 | _=>l ++ l'
structure yP (w:World) (B:Nat) (l l':List Zp):Prop where
 lt:B<w.heap.size
 at_:∀ k,k<2→∃ a cap ls,w.cell? (ah B k)=some (.slice a ls.length cap)∧aK w a ls∧(a=none→cap=0)∧iU l l' (k+1)=iU l l' k ++ ls
theorem yP.next {w w1:World} {B:Nat} {l l':List Zp} (h:yP w B l l') (hb:Below w w w1):yP w1 B l l' :=
 ⟨My h.lt hb.size,fun k hk=>by
  obtain ⟨a,cap,ls,h1,h2,h3,h4⟩:=h.at_ k hk
  exact ⟨a,cap,ls,(hb.cell (p:=ah B k) h.lt).trans h1,h2.next hb,h3,h4⟩⟩
theorem qg (l l':List Zp) (k:Nat):(iU l l' k).length≤l.length+l'.length:=by
 match k with
 | 0=>simp [iU]
 | 1=>simp [iU]
 | n+2=>simp [iU]
theorem uS (B:Nat) (l l':List Zp) (w:World) (h:yP w B l l') (hl:l.length+l'.length≤200000) :
  Calls prog 85 #[.slice (some (ah B 0)) 2 2] w fun e w'=>∃ a cap,e = .returned (.slice a (l ++ l').length cap)∧aK w' a (l ++ l')∧(a=none→cap=0)∧Below w w w':=by
 obtain ⟨i0,hi,hj0,hj1,hj2⟩:=info_parts Tryz.fK;go_enter func85,ntmps85;go_wp2_with fail
 go_loopw [3,11] (fun sz i wr=>∃ k:Nat,k≤2∧i = .int .i64 k∧sz = .int .i64 ((iU l l' k).length:Int)∧wr=w) (fun _ i _=>2 - (intOf i).toNat)
 case atStart=>exact ⟨0,by omega,rfl,rfl,rfl⟩
 case round =>
  obtain ⟨k,hk,rfl,rfl,rfl⟩:=hrel;have hcl:=qg l l' k;by_cases hlt:k<2
  ·obtain ⟨a,cap,ls,c0,zs,hnil,hcat⟩:=h.at_ k hlt;have hcl2:=qg l l' (k+1);rw [hcat,ME] at hcl2;have HCat:=aB hcat;clear hcat;generalize hq:iU l l' k=q at *;have HQ:=aB hq;clear hq;go_wp2
   go_roundw
   case rel=>exact ⟨k+1,by omega,by go_num,by rw [HCat.out,ME]; go_num,LR⟩
   case measure=>simp [intOf]; omega
  ·have e:k=2:=by omega
   subst e;have el:((iU l l' 2).length:Int)=((l ++ l').length:Nat):=rfl;have gc:=Jk (l.length+l'.length) ag wr;rw [Int.natCast_add] at gc;go_wp2_with fail
   refine gc.mono ?_;clear gc el;rintro e w1 ⟨v,rfl,ho,hb1⟩;obtain ⟨a1,c1,rfl⟩:=bH ho;have HS0:nB wr w1 (.slice a1 0 c1) (iU l l' 0):=⟨[],ho,rfl,fun i hi=>by simp [iU] at hi⟩
   clear ho;go_wp2_with fail
   generalize hw0:wr=w0 at *;have HW0:=aB hw0;clear hw0;go_loopw [6,27] (fun v i ws=>∃ k:Nat,k≤2∧i = .int .i64 k∧nB w0 ws v (iU l l' k)∧Below w0 w0 ws) (fun _ i _=>2 - (intOf i).toNat)
   case atStart=>exact ⟨0,by omega,rfl,HS0,hb1⟩
   case round =>
    clear HS0;obtain ⟨k,hk,rfl,HS,hb⟩:=hrel;have hz:=hb.size;obtain ⟨xs,ho,he⟩:=HS;by_cases hlt:k<2
    ·obtain ⟨a,cap,ls,c0,zs,hnil,hcat⟩:=h.at_ k hlt;have hcl2:=qg l l' (k+1);rw [hcat,ME] at hcl2;have HCat:=aB hcat;clear hcat;obtain ⟨news,en,e1,en0,ec⟩:=km zs;have c0':=(hb.cell (p:=ah B k) h.lt).trans c0;clear c0;generalize iU l l' k=q at *;obtain ⟨a3,c3,rfl⟩:=bH ho;rcases a with _ | ad
     ·have hls:=en0 rfl;have hcp:=hnil rfl;subst hls hcp;go_wp2_with (at_builtin; refine wpList_append_own_none rfl _ _ 38 rfl w0 47 i0 2 underlying38 hi _ _ _ rfl ho rfl ?_)
      go_roundw
      case rel=>exact ⟨k+1,by omega,by go_num,by rw [HCat.out,M8]; exact ⟨xs,ho,he⟩,hb⟩
      case measure=>simp [intOf]; omega
     ·have ec':∀ j u,news[j]? = some u→wr.cell? (ad.add j)=some u:=fun j u hj=>by
       have:=ec ad rfl j u hj;rw [hb.cell (ML _ _ this)];exact this
      go_wp2_with (at_builtin; refine MX _ rfl _ _ 38 rfl w0 47 i0 _ 2 32 underlying38 hi hj0 hj1 hj2 rfl (by decide) _ _ _ rfl ho ad ls.length cap news rfl en.1 ec' e1 (by unfold maxLen; omega) ag ag ?_)
      intro v' w5 ho5 hg5 _;have hb5:=hb.grown hg5 hz (fun q hq=>(ho.lt q hq).1);clear hg5 ho;go_wp2
      go_roundw
      case rel=>exact ⟨k+1,by omega,by go_num,by rw [HCat.out]; exact ⟨_,by simpa using ho5,zK he en⟩,hb5⟩
      case measure=>simp [intOf]; omega
    ·have e:k=2:=by omega
     subst e;obtain ⟨a3,c3,e3,z3⟩:=rC ho rfl he hb;have hn3:a3=none→c3=0:=by
      intro e;subst e;obtain ⟨_,⟨e4,_⟩ | ⟨g,c1,cur,e4,_⟩⟩:=ho
      ·rw [e3] at e4; injection e4
      ·rw [e3] at e4; injection e4 with e4; cases e4
     subst e3;go_wp2
     go_ret;exact ⟨a3,c3,rfl,z3,hn3,by rw [HW0.out]; exact hb⟩
theorem eA.KW {base:Nat} {W:World} {v:Value} {l:List Zp} (h:eA base W v l):∃ a cap,v = .slice a l.length cap∧aK W a l∧(a=none→cap=0):=by
 obtain ⟨a,cap,rfl,z⟩:=h.zs;refine ⟨a,cap,rfl,z,?_⟩;intro e;subst e;obtain ⟨xs,⟨_,⟨e4,_⟩ | ⟨g,c1,cur,e4,_⟩⟩,_⟩:=h
 ·injection e4
 ·injection e4 with e4; cases e4
def bU (t:Int) (w:Int):Int:=t*w
def eJ (t:Int) (a b:List Zp):Int:=if aM a=0 then (if aM b=0 then aR (a ++ bF (bU t) b) else aM b) else aM a
def dM (t:Int) (a b:List Zp):List Zp:=if eJ t a b=0 then canon (a ++ bF (bU t) b) else []
theorem LP:∀ args w,(callFunc 84 args).run prog w = .ok (.enter 84 args) w:=enters_of func84 aG rfl
theorem Jl (w:World) (B:Nat) (t:Int) (hB:w.cell? (ah B 0)=some (.int .i64 t)) (ht:t=1∨t = -1):oX 84 #[ah B 0] (bU t) w:=by
 intro x W hx hb;have hx:=(cK _).1 hx;have hc:=(hb.cell (p:=ah B 0) (ML _ _ hB)).trans hB;show Calls prog 84 #[x,ah B 0] W _;have e:bU t x=t*x:=rfl;rw [e];rcases ht with rfl | rfl
 ·go_enter func84,ntmps84;go_wp2
  go_ret;exact ⟨aH ag,Mz _ _⟩
 ·go_enter func84,ntmps84;go_wp2
  go_ret;exact ⟨aH ag,Mz _ _⟩
theorem pF (t:Int) (ht:t=1∨t = -1) (x:Int) (h:gV x=true):gV (bU t x)=true:=by
 rw [cK] at *;unfold bU;rcases ht with rfl | rfl <;> omega
theorem oR (t:Int) (ht:t=1∨t = -1) (a b:Option Addr) (ca cb:Nat) (l l':List Zp) (w:World) (h:aK w a l) (h':aK w b l') (hn:a=none→ca=0) :
  Calls prog 59 #[.slice a l.length ca,.slice b l'.length cb,t] w fun e w'=>∃ v,e = .returned (.tuple #[v,.int .i64 (eJ t l l')])∧eA w w' v (dM t l l')∧Below w w w':=by
 have bA:Below w w ((w.alloc (.cells #[t] 2)).alloc (.cells #[.slice a l.length ca,.slice b l'.length cb] 38)):=(aN ..).alloc (by simp) _;have cA0:((w.alloc (.cells #[t] 2)).alloc (.cells #[.slice a l.length ca,.slice b l'.length cb] 38)).cell? (ah w 0)=some (.int .i64 t):=by simp
 have cB0:((w.alloc (.cells #[t] 2)).alloc (.cells #[.slice a l.length ca,.slice b l'.length cb] 38)).cell? (ah (w+1) 0)=some (.slice a l.length ca):=by simp
 have cB1:((w.alloc (.cells #[t] 2)).alloc (.cells #[.slice a l.length ca,.slice b l'.length cb] 38)).cell? (ah (w+1) 1)=some (.slice b l'.length cb):=by simp
 have zA:=h.next bA;have zB:=h'.next bA;have hzA:w.heap.size+2≤((w.alloc (.cells #[t] 2)).alloc (.cells #[.slice a l.length ca,.slice b l'.length cb] 38)).heap.size:=by simp
 by_cases hw:aM l=0
 ·have Hw:=aB hw;by_cases hw':aM l'=0
  ·have Hw':=aB hw';have hok:=(cq l).1 hw;have hok':=(cq l').1 hw';have eE:eJ t l l'=aR (l ++ bF (bU t) l'):=by simp [eJ,hw,hw']
   have eZ:dM t l l'=bh (l ++ bF (bU t) l'):=by unfold dM bh; rw [eE]
   rw [eE,eZ];have hlen:=nJ (bU t) l';have hin:∀ x ∈ l ++ bF (bU t) l',gV x.2=true∧x.1.length≤8:=by
    intro x hx;rcases List.mem_append.1 hx with hx | hx
    ·exact ⟨(hok.2.1 x hx).2.2,((bR _).1 (hok.2.1 x hx).1).1⟩
    ·obtain ⟨y,hy,rfl,_⟩:=jQ _ _ x hx;exact ⟨pF t ht _ (hok'.2.1 y hy).2.2,by simp only [dB]; exact ((bR _).1 (hok'.2.1 y hy).1).1⟩
   have HIn:=aB hin;clear hw hw' eE eZ hin;go_enter func59,ntmps59;go_wp2_with fail
   generalize ((w.alloc (.cells #[t] 2)).alloc (.cells #[.slice a l.length ca,.slice b l'.length cb] 38))=wA at *;refine NH 3 ?_;rw [NK];go_wp2_with fail
   refine bC (fP _ _ _ _ zA) fun w1 hb1=>?_;rw [Hw.out];have cB1':=(hb1.cell (p:=ah (w+1) 1) (ML _ _ cB1)).trans cB1;have cA0':=(hb1.cell (p:=ah w 0) (ML _ _ cA0)).trans cA0;go_wp2_with fail
   rw [NK];go_wp2_with fail
   refine (fP _ _ _ _ (zB.next hb1)).mono ?_;rintro e w2 ⟨rfl,hb2⟩;rw [Hw'.out];have cA2:=(hb2.cell (p:=ah w 0) (ML _ _ cA0')).trans cA0';go_wp2_with fail
   rw [NK];go_wp2_with fail
   refine (nX 84 #[ah w 0] (bU t) b cb l' w2 ((zB.next hb1).next hb2) LP (Jl w2 w t cA2 ht) ag (fun x hx=>((bR _).1 (hok'.2.1 x hx).1).1) (fun x hx=>(hok'.2.1 x hx).2.2)).mono ?_;rintro e w3 ⟨v3,rfl,O3,hb3⟩;obtain ⟨a3,c3,rfl,z3,n3⟩:=O3.KW;have z1:=((zA.next hb1).next hb2).next hb3;have b3:=bg (bg (bg bA hb1) hb2) hb3;have b4:=aN w3 (.cells #[.slice a l.length ca,.slice a3 (bF (bU t) l').length c3] 38)
   have pr:yP (w3.alloc (.cells #[.slice a l.length ca,.slice a3 (bF (bU t) l').length c3] 38)) w3 l (bF (bU t) l'):=by
    refine ⟨by simp,fun k hk=>?_⟩
    match k,hk with
    | 0,_=>exact ⟨a,ca,l,by simp,z1.next b4,hn,by simp [iU]⟩
    | 1,_=>exact ⟨a3,c3,_,by simp,z3.next b4,n3,by simp [iU]⟩
   have cc:=uS w3 l (bF (bU t) l') _ pr ag;clear O3 pr hb1 hb2 hb3 cA0 cB0 cB1 cA0' cB1' cA2 z1 z3;generalize hm:bF (bU t) l'=m at *;have HM:=aB hm;clear hm;go_wp2_with fail
   refine cc.mono ?_;clear cc;rintro e w5 ⟨a5,c5,rfl,z5,n5,hb5⟩;have hql:(l ++ m).length≤2000:=by simp; omega
   generalize hq:l ++ m=qq at *;have HQ:=aB hq;clear hq;go_wp2_with fail
   refine (eU _ _ _ _ z5 ag (fun x hx=>oA (HIn.out x hx).1) (fun x hx=>(HIn.out x hx).2)).mono ?_;rintro e w6 ⟨v6,rfl,O6,hb6⟩;have bb:=bg (bg (bg b3 b4) hb5) hb6;have O6':=O6.mono (MO (MO b3.size b4.size) hb5.size);obtain ⟨a6,c6,rfl,z6⟩:=O6.zs;go_wp2
   exact MA (v:=.tuple #[.slice a6 (bh qq).length c6,.int .i64 (aR qq)]) (by simp [results,results59,go_sem]) rfl ⟨_,by rw [HM.out,HQ.out],by rw [HM.out,HQ.out]; exact O6',bb⟩
  ·have eE:eJ t l l'=aM l':=by simp [eJ,hw,hw']
   have eZ:dM t l l' = []:=by simp [dM,eE,hw']
   rw [eE,eZ];have hne:(aM l' != 0)=true:=by simpa using hw'
   clear hw hw' eE eZ;go_enter func59,ntmps59;go_wp2_with fail
   generalize ((w.alloc (.cells #[t] 2)).alloc (.cells #[.slice a l.length ca,.slice b l'.length cb] 38))=wA at *;refine NH 3 ?_;rw [NK];go_wp2_with fail
   refine bC (fP _ _ _ _ zA) fun w1 hb1=>?_;rw [Hw.out];have cB1':=(hb1.cell (p:=ah (w+1) 1) (ML _ _ cB1)).trans cB1;go_wp2_with fail
   rw [NK];go_wp2_with fail
   refine (fP _ _ _ _ (zB.next hb1)).mono ?_;rintro e w2 ⟨rfl,hb2⟩;go_wp2
   exact bJ rfl rfl ⟨_,rfl,ed _ _,bg (bg bA hb1) hb2⟩
 ·have eE:eJ t l l'=aM l:=by simp [eJ,hw]
  have eZ:dM t l l' = []:=by simp [dM,eE,hw]
  rw [eE,eZ];have hne:(aM l != 0)=true:=by simpa using hw
  clear hw eE eZ;go_enter func59,ntmps59;go_wp2_with fail
  generalize ((w.alloc (.cells #[t] 2)).alloc (.cells #[.slice a l.length ca,.slice b l'.length cb] 38))=wA at *;refine NH 3 ?_;rw [NK];go_wp2_with fail
  refine bC (fP _ _ _ _ zA) fun w1 hb1=>?_;go_wp2
  exact bJ rfl rfl ⟨_,rfl,ed _ _,bg bA hb1⟩
theorem Kh (a b:Option Addr) (ca cb:Nat) (l l':List Zp) (w:World) (h:aK w a l) (h':aK w b l') (hn:a=none→ca=0) :
  Calls prog 36 #[.slice a l.length ca,.slice b l'.length cb] w fun e w'=>∃ v,e = .returned (.tuple #[v,.int .i64 (eJ 1 l l')])∧eA w w' v (dM 1 l l')∧Below w w w':=by
 go_enter func36,ntmps36;go_wp2_with fail
 refine (oR 1 ag a b ca cb l l' w h h' hn).mono ?_;rintro e w1 ⟨v,rfl,O1,hb1⟩;obtain ⟨a1,c1,rfl,z1⟩:=O1.zs;go_wp2
 exact bJ rfl rfl ⟨_,rfl,O1,hb1⟩
theorem J9 (a b:Option Addr) (ca cb:Nat) (l l':List Zp) (w:World) (h:aK w a l) (h':aK w b l') (hn:a=none→ca=0) :
  Calls prog 34 #[.slice a l.length ca,.slice b l'.length cb] w fun e w'=>∃ v,e = .returned (.tuple #[v,.int .i64 (eJ (-1) l l')])∧eA w w' v (dM (-1) l l')∧Below w w w':=by
 go_enter func34,ntmps34;go_wp2_with fail
 refine (oR (-1) ag a b ca cb l l' w h h' hn).mono ?_;rintro e w1 ⟨v,rfl,O1,hb1⟩;obtain ⟨a1,c1,rfl,z1⟩:=O1.zs;go_wp2
 exact bJ rfl rfl ⟨_,rfl,O1,hb1⟩
end Go.Proofs.YtoefpglknaiaeaaGreat
namespace Go.Proofs.YtoefpglknaiaeaaGreat
theorem AU {cols:List Int} {xs:List Ex} {z:List Zp} (hl:bM cols xs=0) (hz:gN cols z):∀ x ∈ ig xs z,aQ x.1=0:=by
 intro x hx;obtain ⟨p,hp,rfl⟩:=List.mem_map.1 hx;obtain ⟨l8,lt⟩:=kG hl;rw [bR];refine ⟨by simpa [bp] using l8,?_⟩;unfold bZ bp;rw [List.all_map,NZ];intro e he;have:=(lH (hz.fit p hp) e _ (mw (lt e he))).1
 simpa [aJ] using this
def eK (n:Nat):List Vl:=List.replicate n (1,0,⟨#[]⟩)
def bI (x:Ex) (p:Zp) (b:List Zp):List Zp:=(b.filter fun q=>cX x (p.1 ++ q.1)).map fun q=>(p.1 ++ q.1,p.2*q.2)
def ep (x:Ex) (a b:List Zp):List Zp:=a.flatMap fun p=>bI x p b
def fY (x:Ex) (b:List Zp) (row:List Vl):Bool:=b.any fun q=>decide (0<q.2) && cX x (row ++ q.1)
def vK (x:Ex) (a b:List Zp):List Zp:=a.filter fun p=>fY x b p.1
def jf (x:Ex) (a b:List Zp):List Zp:=a.filter fun p=>!fY x b p.1
def je (n:Nat) (z:List Zp):List Zp:=z.map fun p=>(p.1 ++ eK n,p.2)
def qS (x:Ex) (n:Nat) (a b:List Zp):List Zp:=ep x a b ++ je n (jf x a b)
def iG (l r:List Int) (x:Ex) (a b:List Zp):Int:=if 8<l.length+r.length then 5 else if cH (l ++ r) x≠0 then cH (l ++ r) x else if bV l a≠0 then bV l a else bV r b
structure nE (l r:List Int) (x:Ex) (a b:List Zp):Prop where
 len:l.length+r.length≤8
 cond:cH (l ++ r) x=0
 left:gN l a
 right:gN r b
theorem oM (l r:List Int) (x:Ex) (a b:List Zp):iG l r x a b=0↔nE l r x a b:=by
 unfold iG;by_cases h8:8<l.length+r.length
 ·rw [if_pos h8];constructor
  ·intro h; omega
  ·intro h; have:=h.len; omega
 ·rw [if_neg h8];by_cases h1:cH (l ++ r) x=0
  ·rw [if_neg (by simpa using h1)];by_cases h2:bV l a=0
   ·rw [if_neg (by simpa using h2),gj];exact ⟨fun h=>⟨by omega,h1,(gj _ _).1 h2,h⟩,fun h=>h.right⟩
   ·rw [if_pos h2];exact ⟨fun h=>absurd h h2,fun h=>absurd ((gj _ _).2 h.left) h2⟩
  ·rw [if_pos h1];exact ⟨fun h=>absurd h h1,fun h=>absurd h.cond h1⟩
def fH (what:Nat) (n:Nat) (x:Ex) (a b:List Zp):List Zp:=if what=0 then ep x a b else if what=1 then vK x a b else if what=2 then jf x a b else qS x n a b
def cw (what:Nat) (l r:List Int) (x:Ex) (a b:List Zp):Int:=if iG l r x a b≠0 then iG l r x a b else aR (fH what r.length x a b)
def cB (what:Nat) (l r:List Int) (x:Ex) (a b:List Zp):List Zp:=if cw what l r x a b=0 then canon (fH what r.length x a b) else []
theorem tv {l r:List Int} {u v:List Vl} (h:dX l u) (k:dX r v):dX (l ++ r) (u ++ v):=by
 have h1:=h.len;have k1:=k.len;refine ⟨by simp [h1,k1],fun i hi=>?_⟩;by_cases c:i<u.length
 ·rw [MV c];have:=h.one i c;have e:(l ++ r).getD i 0=l.getD i 0:=by simp only [List.getD]; rw [MT ag]
  rwa [e]
 ·have hi':i - u.length<v.length:=by simp at hi; omega
  rw [Nx ag];have:=k.one (i - u.length) hi';have e:(l ++ r).getD i 0=r.getD (i - u.length) 0:=by simp only [List.getD]; rw [MU ag,h1]
  rwa [e]
theorem mP {cols:List Int} {row:List Vl} (h:dX cols row):bZ row=true:=by
 unfold bZ;rw [NZ];intro v hv;obtain ⟨i,hi,rfl⟩:=No hv
 simpa [aJ] using (h.one i hi).1
end Go.Proofs.YtoefpglknaiaeaaGreat
namespace Go.Proofs.YtoefpglknaiaeaaGreat
open Go.RowKit Go.Lib Go.Shelf _root_.Go.Proofs.Tryz
structure fc (wp:World) (R rv:Nat) (W:World):Prop where
 os:W.os=wp.os
 tape:W.tape=wp.tape
 output:W.output=wp.output
 size:wp.heap.size≤W.heap.size
 block:∀ k,k<wp.heap.size→k≠R→k≠rv→W.heap[k]? = wp.heap[k]?
 var:∃ n,W.cell? (ah rv 0)=some (.slice (some (ah R 0)) n 8)
 Gt:W.frozen? (ah rv 0)=false
 room:∃ cur,W.heap[R]? = some (.cells cur 24 (0,0))∧cur.size=24
structure pO (wp:World) (R rv:Nat):Prop where
 r:R<rv
 v:rv<wp.heap.size
theorem fc.below {wp W:World} {R rv:Nat} (h:fc wp R rv W) (hn:pO wp R rv):Below R wp W :=
 ⟨h.os,h.tape,h.output,h.size,fun k hk=>h.block k (by have:=hn.r; have:=hn.v; omega) ag (by have:=hn.r; omega)⟩
theorem fc.eO {wp W W':World} {R rv:Nat} (h:fc wp R rv W) (hn:pO wp R rv) {B:Nat} (hB:wp.heap.size≤B) (hb:Below B W W'):fc wp R rv W':=by
 have hr:=hn.r;have hv:=hn.v;obtain ⟨n,hc⟩:=h.var;obtain ⟨cur,hh,hs⟩:=h.room;refine ⟨hb.os.trans h.os,hb.tape.trans h.tape,hb.output.trans h.output,MO h.size hb.size,fun k hk h1 h2=>(hb.block k ag).trans (h.block k hk h1 h2),⟨n,(hb.cell (p:=ah rv 0) (by show rv<B; omega)).trans hc⟩,(hb.frozen (p:=ah rv 0) (by show rv<B; omega)).trans h.Gt,cur,(hb.block R ag).trans hh,hs⟩
theorem fc.sz {wp W:World} {R rv:Nat} (h:fc wp R rv W) (hn:pO wp R rv):rv<W.heap.size:=My hn.v h.size
theorem zo (cols:List Int) (lo:Nat) (x:Ex) (wc wp w0:World) (R rv hv:Nat) (u:Value) (hn:pO wp R rv) (hv0:hv<R) (hc:wp.cell? (ah hv 0)=some u) (hC:lN cols lo u x wc) (hcR:wc.heap.size≤R) (hcp:aI lo wc wp) (h0:w0.heap.size≤R) (h0p:Below w0 w0 wp)
  (a b:Option Addr) (ca cb:Nat) (l r:List Vl) (W:World) (hI:fc wp R rv W) (s1:aZ w0 a l) (s2:aZ w0 b r) (h8:l.length+r.length≤8) (hf:dX cols (l ++ r)) :
  Calls prog 246 #[.slice a l.length ca,.slice b r.length cb,ah rv 0,ah hv 0] W fun e w'=>e = .returned (.bool (cX x (l ++ r)))∧fc wp R rv w'∧aI (rv+1) W w':=by
 obtain ⟨i0,hi,hj0,hj1,hj2⟩:=info_parts Tryz.pD;obtain ⟨g,cbs,rfl,eg,d⟩:=hC;have HD:=aB d;clear d;have hrR:=hn.r;have hb0:=hI.below hn;have d0:=h0p.trans (hb0.mono h0);have r1:=fj (s1.next d0);have c3:=(hb0.cell (p:=ah hv 0) hv0).trans hc;obtain ⟨n,hc2⟩:=hI.var;obtain ⟨cur,hh,hs⟩:=hI.room;have hsz:=hI.sz hn;have hfz:=hI.Gt;have own:W.ownsRow R 24 3 (.slice (some (ah R 0)) 0 8) 0 []:=⟨rfl,.inr ⟨R,8,cur,rfl,Mx _,hh,by omega,by unfold maxLen; omega,by omega,by simp⟩⟩
 generalize ht:cX x (l ++ r)=t;have HT:=aB ht;clear ht;go_enter func246,ntmps246;go_wp2_with (at_builtin; refine ik _ rfl _ _ 45 rfl R 24 i0 3 underlying45 hi hj1 R 0 8 _ rfl own a l.length ca _ rfl r1 ag ?_)
 intro w1 own1 g1;have k1:∀ k,k<W.heap.size→k≠R→w1.heap[k]? = W.heap[k]?:=fun k hk hne=>g1.block k hk (by intro e; exact hne (Nk e))
 have z1:=g1.size;have d1:Below w0 w0 w1:=⟨g1.os.trans d0.os,g1.tape.trans d0.tape,g1.output.trans d0.output,MO d0.size z1,fun k hk=>(k1 k (by have:=d0.size; omega) ag).trans (d0.block k hk)⟩
 have r2:=fj (s2.next d1);clear own r1;go_wp2_with (at_builtin; refine ik _ rfl _ _ 45 rfl R 24 i0 3 underlying45 hi hj1 R l.length 8 _ rfl own1 b r.length cb _ rfl r2 ag ?_)
 intro w2 own2 g2;have k2:∀ k,k<W.heap.size→k≠R→w2.heap[k]? = W.heap[k]?:=fun k hk hne=>(g2.block k ag (by intro e; exact hne (Nk e))).trans (k1 k hk hne)
 have z2:=g2.size;have o2:w2.os=W.os∧w2.tape=W.tape∧w2.output=W.output:=⟨g2.os.trans g1.os,g2.tape.trans g1.tape,g2.output.trans g1.output⟩
 have cv:=(MP (w:=W) (k2 rv hsz ag)).trans hc2;have fv:=(NU (w:=W) (k2 rv hsz ag)).trans hfz;have ch:=(MP (w:=W) (k2 hv ag ag)).trans c3;have k3:∀ k,k≠rv→(w2.setCell (ah rv 0) (.slice (some (ah R 0)) (l.length+r.length) 8)).heap[k]? = w2.heap[k]?:=fun k hne=>Nf w2 (ah rv 0) _ k hne
 have cv3:(w2.setCell (ah rv 0) (.slice (some (ah R 0)) (l.length+r.length) 8)).cell? (ah rv 0)=some (.slice (some (ah R 0)) (l.length+r.length) 8):=NS _ _ _ (by rw [cv]; rfl);have fv3:(w2.setCell (ah rv 0) (.slice (some (ah R 0)) (l.length+r.length) 8)).frozen? (ah rv 0)=false:=by rw [Na]; exact fv
 have ch3:=(MP (w:=w2) (k3 hv ag)).trans ch;have z3:(w2.setCell (ah rv 0) (.slice (some (ah R 0)) (l.length+r.length) 8)).heap.size=w2.heap.size:=by simp
 have o3:(w2.setCell (ah rv 0) (.slice (some (ah R 0)) (l.length+r.length) 8)).os=w2.os∧(w2.setCell (ah rv 0) (.slice (some (ah R 0)) (l.length+r.length) 8)).tape=w2.tape∧(w2.setCell (ah rv 0) (.slice (some (ah R 0)) (l.length+r.length) 8)).output=w2.output:=by
  have:=(Mz rv w2).setCell (p:=ah rv 0) (Mx _) (.slice (some (ah R 0)) (l.length+r.length) 8);exact ⟨this.os,this.tape,this.output⟩
 have HO2:=aB own2;clear own2 own1;go_wp2_with fail
 have own2:=HO2.out;obtain ⟨hx2,⟨e2,_⟩ | ⟨gg,cap2,cur2,e2,hg2,hh2,hn2,hm2,hs2,ht2⟩⟩:=own2
 ·cases e2
 injection e2 with e2a e2b e2c
 have e2a:=Nk e2a;injection e2a with e2a
 subst e2a e2c;generalize w2.setCell _ _=w3 at *;have hR3:=(k3 R ag).trans hh2;have own3:w3.ownsRow R 24 3 (.slice (some (ah R 0)) (l.length+r.length) 8) (l.length+r.length) (bG (l ++ r)):=⟨by rw [bW]; exact hx2,.inr ⟨R,8,cur2,rfl,Mx _,hR3,hn2,hm2,hs2,by rw [bW]; exact ht2⟩⟩
 obtain ⟨a3,c3',e3,sl3,_,_⟩:=dQ own3 (by simp);injection e3 with e3a e3b e3c
 subst e3a e3c;have kk:∀ k,k<W.heap.size→k≠R→k≠rv→w3.heap[k]? = W.heap[k]?:=fun k hk h1 h2=>(k3 k h2).trans (k2 k hk h1)
 have I3:fc wp R rv w3:=⟨o3.1.trans (o2.1.trans hI.os),o3.2.1.trans (o2.2.1.trans hI.tape),o3.2.2.trans (o2.2.2.trans hI.output),by have:=hI.size; omega,fun k hk h1 h2=>(kk k (by have:=hI.size; omega) h1 h2).trans (hI.block k hk h1 h2),⟨_,cv3⟩,fv3,cur2,hR3,by omega⟩
 have S3:aI (rv+1) W w3:=⟨by omega,fun k h1 h2=>kk k h2 ag ag⟩
 have dc:aI lo wc w3:=⟨by have:=hcp.1; have:=hI.size; omega,fun k h1 h2=>by
  rw [(I3.below hn).block k ag];exact hcp.2 k h1 h2⟩
 have d:=HD.out (l ++ r) (some (ah R 0)) 8 w3 hf sl3 dc;rw [ME,HT.out] at d;refine bC d fun w4 hb4=>?_;have FI:=aB (I3.eO hn (by have:=I3.size; omega) hb4);have FS:=aB (S3.trans (aI.of hb4));clear g1 g2 r2 k1 k2 kk hh hI hx2 ht2 hR3 hh2 own3 d k3 e2b e3b o2 o3 sl3 dc z1 z2 z3 I3 S3 cv fv ch cv3 fv3 ch3 HO2 hn2 hm2 hs2 d0 d1 hb0 c3 hc2 hfz hj0 hj1 hj2 hi;dsimp only;go_wp2
 go_ret;exact ⟨rfl,FI.out,FS.out⟩
def xz (W:World) (B n:Nat) (f:Nat→Zp) (k:Nat):Prop:=∃ xs,W.ownsRow B 47 2 (.slice (some (ah B 0)) n n) n xs∧∀ j:Nat,j<n→j<k→∃ a cap,xs[j*2]? = some (.slice a (f j).1.length cap)∧xs[j*2+1]? = some (.int .i64 (f j).2)∧aZ W a (f j).1∧fi W a
theorem xz.next {W w1:World} {B n:Nat} {f:Nat→Zp} {k:Nat} (h:xz W B n f k) (hb:Below W W w1):xz w1 B n f k:=by
 obtain ⟨xs,h1,h2⟩:=h;refine ⟨xs,aL h1 hb,fun j hj hk=>?_⟩;obtain ⟨a,cap,e0,e1,e2,e3⟩:=h2 j hj hk;exact ⟨a,cap,e0,e1,e2.next hb,e3.next hb⟩
theorem xz.step {W:World} {B n:Nat} {f:Nat→Zp} {k:Nat} (h:xz W B n f k) (hk:k<n) {a:Option Addr} {cap:Nat} (hs:aZ W a (f k).1) (ht:fi W a) :
  xz ((W.setCell ⟨B,k*2,none⟩ (.slice a (f k).1.length cap)).setCell ⟨B,k*2+1,none⟩ (.int .i64 (f k).2)) B n f (k+1):=by
 obtain ⟨xs,h1,h2⟩:=h;have lx:=h1.1;obtain ⟨o1,g1⟩:=h1.stored (k*2) (.slice a (f k).1.length cap);obtain ⟨o2,g2⟩:=o1.stored (k*2+1) (.int .i64 (f k).2);have go:∀ {b:Option Addr} {r:List Vl},aZ W b r→fi W b→aZ ((W.setCell ⟨B,k*2,none⟩ (.slice a (f k).1.length cap)).setCell ⟨B,k*2+1,none⟩ (.int .i64 (f k).2)) b r∧fi ((W.setCell ⟨B,k*2,none⟩ (.slice a (f k).1.length cap)).setCell ⟨B,k*2+1,none⟩ (.int .i64 (f k).2)) b:=fun hs ht=>by
  obtain ⟨s1,t1⟩:=jR hs ht h1 g1;exact jR s1 t1 o1 g2
 refine ⟨_,o2,?_⟩;intro j hj hjk;by_cases e:j=k
 ·subst e;refine ⟨a,cap,?_,?_,(go hs ht).1,(go hs ht).2⟩
  ·rw [MQ ag]; simp [List.getElem?_set,lx]; omega
  ·simp [List.getElem?_set,lx]; omega
 ·obtain ⟨b,c,e0,e1,e2,e3⟩:=h2 j hj ag;refine ⟨b,c,?_,?_,(go e2 e3).1,(go e2 e3).2⟩
  ·rw [MQ ag,MQ ag]; exact e0
  ·rw [MQ ag,MQ ag]; exact e1
theorem xz.cells {W:World} {B n:Nat} {f:Nat→Zp} {k:Nat} (h:xz W B n f k) (hk:k<n):(∃ u0 u1,W.cell? ⟨B,k*2,none⟩=some u0∧W.cell? ⟨B,k*2+1,none⟩=some u1)∧W.frozen? ⟨B,k*2,none⟩=false∧W.frozen? ⟨B,k*2+1,none⟩=false∧B<W.heap.size:=by
 obtain ⟨xs,h1,h2⟩:=h;have lx:=h1.1;refine ⟨⟨xs[k*2]'ag,xs[k*2+1]'ag,?_,?_⟩,h1.frozenAt _,h1.frozenAt _,(h1.lt B rfl).2⟩
 ·rw [h1.cellAt _ ag]; exact M1 ag
 ·rw [h1.cellAt _ ag]; exact M1 ag
theorem xz.done {W:World} {B n:Nat} {f:Nat→Zp} (h:xz W B n f n) (l:List Zp) (hn:n=l.length) (hv:∀ j (hj:j<l.length),f j=l[j]) (h8:l.length≤200000):aK W (some (ah B 0)) l:=by
 obtain ⟨xs,h1,h2⟩:=h;subst hn;refine ⟨by unfold maxLen; omega,.inr ⟨B,0,rfl,(h1.lt B rfl).2,?_⟩⟩;intro i hi;obtain ⟨a,cap,g0,g1,g2,_⟩:=h2 i hi hi;rw [hv i hi] at g0 g1 g2;refine ⟨?_,a,cap,?_,g2⟩
 ·rw [h1.cellAt _ ag,← g1]; congr 1; omega
 ·rw [h1.cellAt _ ag,← g0]; congr 1; omega
theorem Hm (cols:List Int) (xs:List Ex) (ca:Option Addr) (ccap:Nat) (xa:Option Addr) (xcap:Nat) (a:Option Addr) (cap:Nat) (l:List Zp) (w:World) (hc:bf w w ca cols) (hk:aU w w xa xs) (h:aK w a l) :
  Calls prog 93 #[.slice ca cols.length ccap,.slice xa xs.length xcap,.slice a l.length cap] w fun e w'=>∃ v,e = .returned (.tuple #[v,.int .i64 (jS cols xs l)])∧eA w w' v (nr cols xs l)∧Below w w w':=by
 obtain ⟨i0,hi,hz0,hz1,hz2⟩:=info_parts Tryz.fK;have con:=xn cols xs ca ccap xa xcap w hk hc;generalize hfz:nr cols xs l=fz;generalize hfe:jS cols xs l=fe;have HZ:=aB hfz;have HF:=aB hfe;clear hfz hfe;by_cases h1:bM cols xs=0
 ·have H1:=aB h1;rw [h1] at con;clear h1;go_enter func93,ntmps93;go_wp2_with fail
  refine con.mono ?_;rintro e w1 ⟨u,rfl,hL,hb1⟩;clear con;have hL:lM cols w u xs w1:=by
   rcases hL with ⟨_,hL⟩ | ⟨hL,_⟩
   ·exact hL
   ·exact absurd (by trivial) hL
  obtain ⟨g,cb,rfl,eg,d⟩:=hL;have HD:=aB d;clear d;have con:=hU cols ca ccap a cap l w1 ((hc.next hb1 (Mx _)).up hb1.size) (h.next hb1);by_cases h2:bV cols l=0
  ·have hz:=(gj cols l).1 h2;rw [h2] at con;have H2:=aB h2;clear h2;have HE:Hid (fe=aR (ig xs l)):=by
    show fe=_;rw [← HF.out]; unfold jS; rw [H1.out,H2.out]; rfl
   have HV:Hid (fz=bh (ig xs l)):=by
    show fz=_;rw [← HZ.out]; unfold nr bh; rw [HF.out,HE.out]
   have hl4:=dg hz;have HO:=aB hz;go_wp2_with fail
   refine bC con fun w2 hb2=>?_;clear con;have hA:=chain hb1 hb2;have z2:=hb2.size;have z1:=hb1.size;go_wp2_with (first | (at_make; refine wpList_make_full _ rfl _ _ 38 rfl w2 47 i0 _ 2 underlying38 hi hz0 hz1 .i64 .i64 l.length l.length l.length rfl rfl rfl rfl (by rw [hz2]; omega) (by unfold maxLen; omega) (Mx _) ?_))
   intro w3 hown hgrow;have hb3:Below w2 w2 w3:=(Mz _ _).grown hgrow (Mx _) (by simp);obtain ⟨f,hf⟩:∃ f:Nat→Zp,f=(fun j=>(ig xs l).getD j ([],0)):=⟨_,rfl⟩
   have HFn:=aB hf;clear hf;have hB0:xz w3 w2 l.length f 0:=⟨_,hown,fun j _ hj=>absurd hj (M9 _)⟩
   clear hown hgrow;go_wp2_with fail
   go_loopw [34] (fun i wr=>∃ k:Nat,k≤l.length∧i = .int .i64 k∧xz wr w2 l.length f k∧Below w2 w2 wr) (fun i _=>l.length - (intOf i).toNat)
   case atStart=>exact ⟨0,MD _,rfl,hB0,hb3⟩
   case round =>
    clear hB0 hb3;obtain ⟨k,hk,rfl,HB,hb⟩:=hrel;have hz:=hb.size;by_cases hlt:k<l.length
    ·obtain ⟨b,off,rfl,hbl,c1,ar,cr,c0,sr⟩:=(h.next (chain hA hb)).elem hlt;have hal:=aN wr (.cells #[.slice ar l[k].1.length cr,.int .i64 l[k].2] 47);have hd:Below (wr.alloc (.cells #[.slice ar l[k].1.length cr,.int .i64 l[k].2] 47)).heap.size (wr.alloc (.cells #[.slice ar l[k].1.length cr,.int .i64 l[k].2] 47)) (wr.alloc (.cells #[.slice ar l[k].1.length cr,.int .i64 l[k].2] 47)).drew:=(Mz _ _).drew
     have hbk:=(chain (chain (chain hb2 hb) hal) hd)
     have con:=HD.out l[k].1 ar cr _ (HO.out.fit l[k] (MC hlt)) ((sr.next hal).next hd) (aI.of hbk);have q0:(wr.alloc (.cells #[.slice ar l[k].1.length cr,.int .i64 l[k].2] 47)).cell? (ah wr 0)=some (.slice ar l[k].1.length cr):=by simp
     have q1:(wr.alloc (.cells #[.slice ar l[k].1.length cr,.int .i64 l[k].2] 47)).cell? (ah wr 1)=some (.int .i64 l[k].2):=by simp
     have za:(wr.alloc (.cells #[.slice ar l[k].1.length cr,.int .i64 l[k].2] 47)).heap.size=wr.heap.size+1:=by simp
     have ef:f k=(bp xs l[k].1,l[k].2):=by rw [HFn.out]; simp [ig,List.getD,hlt]
     have EF:=aB ef;have hrl:xs.length=(bp xs l[k].1).length:=by simp [bp]
     have HR:=aB hrl;have i0':(0:Int)≤(k:Int):=by omega
     have i1:(k:Int)<(l.length:Int):=by omega
     clear ef hrl;go_wp2_with fail
     clear c0 c1 sr;generalize wr.alloc _=wk at *;obtain ⟨⟨t0,t1,e0,e1⟩,f0,f1,hlb⟩:=(HB.next hal).cells hlt;go_region_with (go_at_fn g; refine con.mono ?_; rintro e w5 ⟨rfl,hR,hb5⟩; have HB5:=((HB.next hal).next hd).next hb5; obtain ⟨⟨u0,u1,d0,d1⟩,g0,g1,hlb5⟩:=HB5.cells hlt; have r1:=((hd.trans (hb5.mono hd.size)).cell (p:=ah wr 1) (by show wr.heap.size<_; omega)).trans q1)
     all_goals (
      go_wp2_with fail
      go_roundw
      case rel =>
       refine ⟨k+1,by omega,by go_num,?_,?_⟩
       ·have:=HB5.step hlt (a:=some ⟨wk.drew.heap.size,0,none⟩) (cap:=xs.length) (by rw [EF.out]; exact hR.1) hR.2;rw [EF.out,← HR.out,show wk.drew.heap.size=wr.heap.size+1 from za] at this;exact this
       ·exact ((chain (chain hb hal) (hd.trans (hb5.mono hd.size))).setCell (p:=⟨w2,k*2,none⟩) (Mx _) _).setCell (p:=⟨w2,k*2+1,none⟩) (Mx _) _
      case measure=>simp [intOf]; omega)
    ·have e:k=l.length:=by omega
     subst e;have hml:(ig xs l).length=l.length:=by simp [ig]
     have zsm:=HB.done (ig xs l) hml.symm (fun j hj=>by rw [HFn.out]; simp [List.getD,hj]) ag;have con:=eU (some (ah w2 0)) l.length (ig xs l) wr zsm ag (fun y hy=>by obtain ⟨p,hp,rfl⟩:=List.mem_map.1 hy; exact oA (jb HO.out p hp)) (fun y hy=>by obtain ⟨p,hp,rfl⟩:=List.mem_map.1 hy; have:=(kG H1.out).1; simpa [bp] using this);rw [hml] at con;have HV':=HV.out;have HE':=HE.out;rw [← HE',← HV'] at con;clear HV' HE' zsm HB;go_wp2_with fail
     refine con.mono ?_;rintro e w6 ⟨v6,rfl,O6,hb6⟩;have hA6:=chain hA hb;have O6':=O6.mono hA6.size;obtain ⟨a6,c6,rfl,_⟩:=O6.zs;go_wp2_with fail
     exact bJ rfl rfl ⟨_,rfl,O6',chain hA6 hb6⟩
  ·have e0:fe=bV cols l:=by rw [← HF.out]; unfold jS; rw [H1.out,if_neg (by simp),if_pos h2]
   have e1:fz = []:=by rw [← HZ.out]; unfold nr; rw [HF.out,e0,if_neg h2]
   have hne:(bV cols l != 0)=true:=by simpa using h2
   rw [← e0] at con hne;have HV:=aB e1;clear e0 e1;go_wp2_with fail
   refine bC con fun w2 hb2=>?_;clear con;go_wp2_with fail
   exact bJ rfl rfl ⟨_,rfl,by rw [HV.out]; exact ed _ _,chain hb1 hb2⟩
 ·have e0:fe=bM cols xs:=by rw [← HF.out]; unfold jS; rw [if_pos h1]
  have e1:fz = []:=by rw [← HZ.out]; unfold nr; rw [HF.out,e0,if_neg h1]
  have hne:(bM cols xs != 0)=true:=by simpa using h1
  have HL:=aB h1;rw [← e0] at hne;have HV:=aB e1;have HN:=aB e0;clear e0 e1 h1;go_enter func93,ntmps93;go_wp2_with fail
  refine con.mono ?_;rintro e w1 ⟨u,rfl,hL,hb1⟩;obtain ⟨_,rfl⟩:¬ bM cols xs=0∧u = .nilFunc:=by
   rcases hL with ⟨hL,_⟩ | hL
   ·exact absurd hL HL.out
   ·exact hL
  rw [← HN.out];clear con;go_wp2_with fail
  exact bJ rfl rfl ⟨_,rfl,by rw [HV.out]; exact ed _ _,hb1⟩
end Go.Proofs.YtoefpglknaiaeaaGreat
