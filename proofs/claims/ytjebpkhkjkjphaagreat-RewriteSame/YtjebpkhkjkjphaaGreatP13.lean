/- Together: NJ, XOpen, I1, IK, FX, I0, I2, I3, I4. -/
import Derived.Deep.Slices
import Derived.Deep.Strs
import Derived.ProofKit
import Derived.OpenShut
import Derived.ChangeOld
import Derived.Lib.SmallJoins
import Derived.Shelf.Abstract
import Derived.Deep.Cut
import Derived.Test.YtjebpkhkjkjphaaGreatP12
import Derived.Test.YtjebpkhkjkjphaaGreatP4
import Derived.Test.YtjebpkhkjkjphaaGreatP9
import Derived.Test.YtjebpkhkjkjphaaGreatP7
import Derived.Test.YtjebpkhkjkjphaaGreatP1
import Derived.Test.YtjebpkhkjkjphaaGreatP10
namespace Go.Proofs.YtjebpkhkjkjphaaGreat
open Go.RowKit Go.Lib Go.Shelf
set_option maxRecDepth 100000
set_option maxHeartbeats 16000000
theorem mJ {P:Program} (w:World) (t e:TypeId) (a:Option Addr) (l c:Nat) (h:P.underlying t=some (.slice e)):(binOp .eql t (.slice a l c) (.slice none 0 0)).run P w = .ok (.bool a.isNone) w:=by
 simp only [binOp];simp [run_equal_slice_nil w t e a l c h]
theorem Dd (a:Option Addr) (cap:Nat) (l:List Int) (w:World) (h:bG w.heap.size w a l) (hl:l.length≤1000) :
  Calls Tryz.prog 18 #[.slice a l.length cap] w fun e w'=>∃ a' c,e = .returned (.slice a' l.length c)∧bG w'.heap.size w' a' l∧Below w.heap.size w w':=by
 obtain ⟨i0,hi,hj0,hj1,hj2⟩:=info_parts Be;have R:=fh h;cases a with
 | none =>
  have e:l = []:=Mo (R.nil rfl);subst e;have heq:=mJ (P:=Tryz.prog) w 42 3 none 0 cap Tryz.underlying42;go_enter Tryz.func18,Tryz.ntmps18;go_wp2
  go_ret;exact ⟨none,0,rfl,⟨by simp,.inl rfl⟩,Md _ _⟩
 | some ad =>
  have hal:=aa w (.cells #[] 3);have R1:=R.next hal;have ho:(w.alloc (.cells #[] 3)).ownsRow w.heap.size 3 1 (.slice (some ⟨w.heap.size,0,none⟩) 0 0) 0 []:=Nz w #[] 0 (Mc _) (by decide) rfl;have heq:=mJ (P:=Tryz.prog) w 42 3 (some ad) l.length cap Tryz.underlying42;go_enter Tryz.func18,Tryz.ntmps18;go_upto_region 3 with fail
  go_wp2_with (at_builtin; refine dh rfl _ _ 42 rfl w.heap.size 3 i0 _ 1 8 Tryz.underlying42 hi hj0 hj1 hj2 rfl (by decide) _ _ _ rfl ho _ _ _ _ rfl R1 (by unfold maxLen; omega) (by omega) (by simp) ?_)
  intro v' w5 ho5 hg5;have hb5:Below w.heap.size w w5:=hal.grown hg5 (by simp) (fun q hq=>(ho.lt q hq).1);obtain ⟨a5,c5,rfl,it⟩:=lN (B:=0) (lo:=0) ho5 rfl (Mj _);go_wp2
  go_ret;exact ⟨a5,c5,rfl,it.at,hb5⟩
def iX (ts:List (List Int)) (p:Pl):List Int:=if bH ts p=0 then ag ts p else []
theorem wQ (ts:List (List Int)) (p:Pl) (q:Pw) (ta:Option Addr) (tc:Nat) (w:World) (hT:iW w.heap.size w ta ts) (hp:oh w.heap.size w p q) (hk:dx p) :
  Calls Tryz.prog 9 #[.slice ta ts.length tc,gR p q] w fun e w'=>∃ a c,e = .returned (.tuple #[.slice a (iX ts p).length c,.int .i64 (bH ts p)])∧bG w'.heap.size w' a (iX ts p)∧Below w.heap.size w w':=by
 have hA:=aa w (.cells (dS p q) 31);have EL:=iA.new w p q 31;have con:=nW ts p q ta tc (w.alloc (.cells (dS p q) 31)) ((hT.next hA (Mc _)).up hA.size) ((hp.next hA (Mc _)).up hA.size) hk;have h8:Hid (bH ts p=0→(ag ts p).length≤8):=fun h=>qA (eJ h).1 p 0 1 (eJ h).2
 generalize hez:iX ts p=ez;have HZ:=aw hez;generalize hle:bH ts p=le at con;have HLe:=aw hle;clear hk hez hle;obtain ⟨y0,y1,⟨y2,y3,y4,y5,y6,y7⟩,y8,y9,y10⟩:=EL;simp only [Mq] at y1 y2 y3 y4 y5 y6 y7 y8 y9 y10;unfold gR at con ⊢;go_enter Tryz.func9,Tryz.ntmps9;go_upto_region 1 with fail
 generalize w.alloc (.cells (dS p q) 31)=wA at *;go_wp2_with fail
 refine con.mono ?_;rintro e w1 ⟨⟨v1,rfl,hv0,hv1⟩,hb1⟩;clear con y0 y1 y2 y3 y4 y5 y6 y7 y8 y9 y10;have hA1:=chain hA hb1;by_cases he:le=0;rotate_left
 ·have e0:=hv1 he;have e2:ez = []:=by rw [← HZ.out]; unfold iX; rw [HLe.out,if_neg he]
  subst e0 e2;have hal:=aa w1 (.cells wG 56);have hA2:=chain hA1 hal;have heb:(le != 0)=true:=by simpa using he
  clear hv0 hv1 HZ HLe h8;unfold kz;go_upto_region 2 with fail
  generalize w1.alloc (.cells wG 56)=w2 at *;go_wp2_with fail
  exact Me (v:=.tuple #[.slice none 0 0,.int .i64 le]) (by simp [results,Tryz.results9,go_sem]) rfl ⟨none,0,rfl,⟨by simp,.inl rfl⟩,hA2⟩
 obtain ⟨ca,cc,na,nc,e0,ND⟩:=hv0 he;have e2:Hid (ag ts p=ez):=by show _=_; rw [← HZ.out]; unfold iX; rw [HLe.out,if_pos he]
 have g8:(ag ts p).length≤8:=h8.out (by rw [HLe.out,he]);subst e0;clear hv0 hv1 HLe h8 HZ;subst he;have IC:=ND.af.at;have hal:=aa w1 (.cells (l7 p q ca (ag ts p).length cc na p.ks.length nc) 56);have hA2:=chain hA1 hal;have z11:=cell_of (i:=11) (ak w1 (l7 p q ca (ag ts p).length cc na p.ks.length nc) 56) rfl;have IC2:=(IC.next hal (Mc _)).up hal.size;clear ND IC;unfold mZ;go_upto_region 2 with fail
 generalize w1.alloc (.cells (l7 p q ca (ag ts p).length cc na p.ks.length nc) 56)=w2 at *;rw [e2.out] at z11 IC2 g8;have con:=Dd ca cc ez w2 IC2 (by omega);go_wp2_with fail
 refine con.mono ?_;rintro e w3 ⟨a3,c3,rfl,I3,hb3⟩;clear con z11;go_wp2_with fail
 exact Me (v:=.tuple #[.slice a3 ez.length c3,.int .i64 0]) (by simp [results,Tryz.results9,go_sem]) rfl ⟨a3,c3,rfl,I3,chain hA2 hb3⟩
end Go.Proofs.YtjebpkhkjkjphaaGreat
namespace Go.Proofs.YtjebpkhkjkjphaaGreat
open Go.ChangeShapes Go.WideShapes Go.ChangeAt Go.RowKit Go.Joins
set_option maxRecDepth 100000
set_option maxHeartbeats 16000000
theorem cW (b off i:Nat):(⟨b,off,none⟩:Addr).add i=⟨b,off+i,none⟩:=by
 unfold Addr.add;by_cases h:i=0 <;> simp [h]
theorem q3:Tryz.prog.cellsOf 3=1:=by kernel_rfl
theorem q2:Tryz.prog.cellsOf 2=1:=by kernel_rfl
theorem q9:Tryz.prog.cellsOf 9=1:=by kernel_rfl
theorem LG:Tryz.prog.cellsOf 24=3:=by kernel_rfl
theorem LS:Tryz.prog.cellsOf 25=1:=by kernel_rfl
theorem Li:Tryz.prog.cellsOf 27=6:=by kernel_rfl
theorem BU {H:Type} {enc:TypeId × Value→H} {W:World} {base:Nat} {sp:Nat→Bool} {hd:Bool} {fuel:Nat} {cs:List Value} {x:DataW H × List MemPlace}
  (h:DataW.trod enc Tryz.prog W base sp hd fuel 24 cs=some x):∃ v:Vl,cs = [.int .i64 v.1,.int .i64 v.2.1,.string v.2.2]:=by
 obtain ⟨y0,y1,y2,m,_,hlen,h0,h1,h2⟩:=Go.Deep.trod_struct3 Tryz.underlying24 h
 rw [LG] at hlen
 match cs,hlen with
 | [c0,c1,c2],_ =>
  simp only [q3,q2,q9] at h0 h1 h2
  obtain ⟨k,e0,_,_⟩:=DataW.trod_int Tryz.underlying3 h0
  obtain ⟨n,e1,_,_⟩:=DataW.trod_int Tryz.underlying2 h1
  obtain ⟨s,e2,_,_⟩:=DataW.trod_string Tryz.underlying9 h2
  simp at e0 e1 e2
  subst e0 e1 e2
  exact ⟨(k,n,s),rfl⟩
instance:Inhabited Ex:=⟨.mk 0 (0,0,⟨#[]⟩) 0 []⟩
def xt {H:Type} (enc:TypeId × Value→H) (W:World) (hd:Bool) (m:Nat):Prop :=
 ∀ cs x,DataW.trod enc Tryz.prog W 0 (fun _=>true) hd m 25 cs=some x→∃ (a:Option Addr) (cap:Nat) (l:List Ex),cs = [.slice a l.length cap]∧aX W.heap.size W a l
theorem mc {H:Type} {enc:TypeId × Value→H} {W:World} {hd:Bool} {fuel:Nat} (ih:∀ m,m<fuel→xt enc W hd m) {cs:List Value} {x:DataW H × List MemPlace}
  (h:DataW.trod enc Tryz.prog W 0 (fun _=>true) hd fuel 27 cs=some x) :
  ∃ (e:Ex) (a:Option Addr) (cap:Nat),cs = [.int .i64 e.k,.int .i64 e.v.1,.int .i64 e.v.2.1,.string e.v.2.2,.int .i64 e.c,.slice a e.ks.length cap]∧aX W.heap.size W a e.ks:=by
 obtain ⟨xs,n,hn,_,hl,hlen,hf⟩:=DataW.trod_struct Tryz.underlying27 h;rw [Li] at hl
 match xs,hlen with
 | [y0,y1,y2,y3],_ =>
  have h0:=hf 0 _ rfl;have h1:=hf 1 _ rfl;have h2:=hf 2 _ rfl;have h3:=hf 3 _ rfl
  match cs,hl with
  | [c0,c1,c2,c3,c4,c5],_ =>
   simp [q3,LG,LS] at h0 h1 h2 h3;obtain ⟨k,e0,_,_⟩:=DataW.trod_int Tryz.underlying3 h0;obtain ⟨v,e1⟩:=BU h1;obtain ⟨c,e2,_,_⟩:=DataW.trod_int Tryz.underlying3 h2;obtain ⟨a,cap,l,e3,hk⟩:=ih n (by omega) _ _ h3;simp at e0 e1 e2 e3;obtain ⟨r1,r2,r3⟩:=e1;subst e0 r1 r2 r3 e2 e3;exact ⟨.mk k v c l,a,cap,rfl,hk⟩
theorem qQ {H:Type} (enc:TypeId × Value→H) (W:World) (hd:Bool) (fuel:Nat):xt enc W hd fuel:=by
 induction fuel using Nat.strongRecOn with
 | ind fuel ih =>
  intro cs x h;rcases DataW.trod_slice Tryz.underlying25 h with ⟨hcs,_⟩ | ⟨a,len,cap,elems,rest,n,hn,hcs,_,_,_,_,hlen,hel,_,_⟩
  ·exact ⟨none,0,[],hcs,.nil _⟩
  ·rw [Li] at hel;obtain ⟨f,hf⟩:=Go.Deep.choose_lt (α:=Ex × Option Addr × Nat) (n:=len) (p:=fun i (y:Ex × Option Addr × Nat) =>
     (W.cell? ((a.add (i*6)).add 0)=some (.int .i64 y.1.k)∧W.cell? ((a.add (i*6)).add 1)=some (.int .i64 y.1.v.1)∧W.cell? ((a.add (i*6)).add 2)=some (.int .i64 y.1.v.2.1)∧W.cell? ((a.add (i*6)).add 3)=some (.string y.1.v.2.2) ∧
      W.cell? ((a.add (i*6)).add 4)=some (.int .i64 y.1.c)∧W.cell? ((a.add (i*6)).add 5)=some (.slice y.2.1 y.1.ks.length y.2.2))∧aX W.heap.size W y.2.1 y.1.ks) (fun i hi=>by
    have key:=hel i hi;rw [Ms (by omega)] at key;obtain ⟨cs',h1,h2⟩:=Option.bind_eq_some_iff.1 key;obtain ⟨_,hl6,hcell⟩:=NB h1;obtain ⟨e,ai,ci,rfl,hk⟩:=mc (fun m hm=>ih m (by omega)) h2;exact ⟨(e,ai,ci),⟨hcell 0 (by simp),hcell 1 (by simp),hcell 2 (by simp),hcell 3 (by simp),hcell 4 (by simp),hcell 5 (by simp)⟩,hk⟩)
   refine ⟨some a,cap,(List.range len).map fun i=>(f i).1,by simpa using hcs,?_⟩;by_cases h0:len=0
   ·subst h0; exact .nil _
   ·obtain ⟨b,off,spot⟩:=a;have hc:=(hf 0 (by omega)).1.1;have hspot:spot=none:=by simpa [Addr.add] using Nx hc
    subst hspot;refine .some b off _ (fun i=>(f i).2.1) (fun i=>(f i).2.2) (Mm W _ (by simpa [Addr.add] using hc)) (fun i hi=>?_) (fun i hi=>?_)
    ·have hi':i<len:=by simpa using hi
     have:=(hf i hi').1;simp only [cW] at this;simp only [MY,Nh];exact ⟨this.1,this.2.1,this.2.2.1,this.2.2.2.1,this.2.2.2.2.1,this.2.2.2.2.2⟩
    ·have hi':i<len:=by simpa using hi
     simp only [MY,Nh];exact (hf i hi').2
end Go.Proofs.YtjebpkhkjkjphaaGreat
namespace Go.Proofs.YtjebpkhkjkjphaaGreat
open Go.RowKit Go.Lib Go.Shelf
set_option maxRecDepth 100000
set_option maxHeartbeats 16000000
abbrev mf (p:Pl) (q:Pw) (o:Nat):Array Value:=#[.int .i64 p.k,.int .i64 p.n,.int .i64 p.x.k,.int .i64 p.x.v.1,.int .i64 p.x.v.2.1,.string p.x.v.2.2,.int .i64 p.x.c,.slice q.xa p.x.ks.length q.xc,.slice q.sa p.xs.length q.sc,.slice q.ga p.gs.length q.gc,.slice q.ka o q.kc]
abbrev aL (p:Pl) (q:Pw) (o:Nat) (ca:Option Addr) (n cc:Nat) (na:Option Addr) (m nc:Nat):Array Value:=#[.int .i64 p.k,.int .i64 p.n,.int .i64 p.x.k,.int .i64 p.x.v.1,.int .i64 p.x.v.2.1,.string p.x.v.2.2,.int .i64 p.x.c,.slice q.xa p.x.ks.length q.xc,.slice q.sa p.xs.length q.sc,.slice q.ga p.gs.length q.gc,.slice q.ka o q.kc,.slice ca n cc,.slice na m nc]
abbrev bC (x:Ex) (a:Option Addr) (c:Nat):Array Value:=(fS x a c)
abbrev uB:Array Value:=#[.int .i64 0,.int .i64 0,.int .i64 0,.string ⟨#[]⟩,.int .i64 0,.slice none 0 0]
abbrev eV:Array Value:=#[.int .i64 0,.int .i64 0,.int .i64 0,.int .i64 0,.int .i64 0,.string ⟨#[]⟩,.int .i64 0,.slice none 0 0,.slice none 0 0,.slice none 0 0,.slice none 0 0]
abbrev aJ:Array Value:=#[.int .i64 0,.int .i64 0,.int .i64 0,.int .i64 0,.int .i64 0,.string ⟨#[]⟩,.int .i64 0,.slice none 0 0,.slice none 0 0,.slice none 0 0,.slice none 0 0,.slice none 0 0,.slice none 0 0]
abbrev dF (W:World) (g:Nat) (p:Pl) (q:Pw) (o:Nat) (ca:Option Addr) (n cc:Nat) (na:Option Addr) (m nc:Nat):World:=((((((((((((W.setCell ⟨g,0,none⟩ (.int .i64 p.k)).setCell ⟨g,1,none⟩ (.int .i64 p.n)).setCell ⟨g,2,none⟩ (.int .i64 p.x.k)).setCell ⟨g,3,none⟩ (.int .i64 p.x.v.1)).setCell ⟨g,4,none⟩ (.int .i64 p.x.v.2.1)).setCell ⟨g,5,none⟩ (.string p.x.v.2.2)).setCell ⟨g,6,none⟩ (.int .i64 p.x.c)).setCell ⟨g,7,none⟩ (.slice q.xa p.x.ks.length q.xc)).setCell ⟨g,8,none⟩ (.slice q.sa p.xs.length q.sc)).setCell ⟨g,9,none⟩ (.slice q.ga p.gs.length q.gc)).setCell ⟨g,10,none⟩ (.slice q.ka o q.kc)).setCell ⟨g,11,none⟩ (.slice ca n cc)).setCell ⟨g,12,none⟩ (.slice na m nc)
abbrev Jh (W:World) (g:Nat) (p:Pl) (q:Pw) (o:Nat):World:=((((((((((W.setCell ⟨g,0,none⟩ (.int .i64 p.k)).setCell ⟨g,1,none⟩ (.int .i64 p.n)).setCell ⟨g,2,none⟩ (.int .i64 p.x.k)).setCell ⟨g,3,none⟩ (.int .i64 p.x.v.1)).setCell ⟨g,4,none⟩ (.int .i64 p.x.v.2.1)).setCell ⟨g,5,none⟩ (.string p.x.v.2.2)).setCell ⟨g,6,none⟩ (.int .i64 p.x.c)).setCell ⟨g,7,none⟩ (.slice q.xa p.x.ks.length q.xc)).setCell ⟨g,8,none⟩ (.slice q.sa p.xs.length q.sc)).setCell ⟨g,9,none⟩ (.slice q.ga p.gs.length q.gc)).setCell ⟨g,10,none⟩ (.slice q.ka o q.kc)
abbrev LD (W:World) (g:Nat) (v0 v1 v2 v3 v4 v5:Value):World:=(((((W.setCell ⟨g,0,none⟩ (v0)).setCell ⟨g,1,none⟩ (v1)).setCell ⟨g,2,none⟩ (v2)).setCell ⟨g,3,none⟩ (v3)).setCell ⟨g,4,none⟩ (v4)).setCell ⟨g,5,none⟩ (v5)
abbrev xM (W:World) (g:Nat) (v0 v1 v2 v3 v4 v5 v6 v7 v8 v9 v10:Value):World:=((((((((((W.setCell ⟨g,0,none⟩ (v0)).setCell ⟨g,1,none⟩ (v1)).setCell ⟨g,2,none⟩ (v2)).setCell ⟨g,3,none⟩ (v3)).setCell ⟨g,4,none⟩ (v4)).setCell ⟨g,5,none⟩ (v5)).setCell ⟨g,6,none⟩ (v6)).setCell ⟨g,7,none⟩ (v7)).setCell ⟨g,8,none⟩ (v8)).setCell ⟨g,9,none⟩ (v9)).setCell ⟨g,10,none⟩ (v10)
abbrev pv (W:World) (g:Nat) (v0 v1 v2 v3 v4 v5 v6 v7 v8 v9 v10 v11 v12:Value):World:=((((((((((((W.setCell ⟨g,0,none⟩ (v0)).setCell ⟨g,1,none⟩ (v1)).setCell ⟨g,2,none⟩ (v2)).setCell ⟨g,3,none⟩ (v3)).setCell ⟨g,4,none⟩ (v4)).setCell ⟨g,5,none⟩ (v5)).setCell ⟨g,6,none⟩ (v6)).setCell ⟨g,7,none⟩ (v7)).setCell ⟨g,8,none⟩ (v8)).setCell ⟨g,9,none⟩ (v9)).setCell ⟨g,10,none⟩ (v10)).setCell ⟨g,11,none⟩ (v11)).setCell ⟨g,12,none⟩ (v12)
theorem dV {W:World} {g:Nat} {T:TypeId} {c0 c1 c2 c3 c4 c5:Value} (h:W.heap[g]? = some (.cells #[c0,c1,c2,c3,c4,c5] T (0,0))):W.cell? ⟨g,0,none⟩=some c0∧W.cell? ⟨g,1,none⟩=some c1∧W.cell? ⟨g,2,none⟩=some c2∧W.cell? ⟨g,3,none⟩=some c3∧W.cell? ⟨g,4,none⟩=some c4∧W.cell? ⟨g,5,none⟩=some c5 :=
 ⟨cell_of (i:=0) h rfl,cell_of (i:=1) h rfl,cell_of (i:=2) h rfl,cell_of (i:=3) h rfl,cell_of (i:=4) h rfl,cell_of (i:=5) h rfl⟩
theorem rR {W:World} {g:Nat} {T:TypeId} {c0 c1 c2 c3 c4 c5:Value} (h:W.heap[g]? = some (.cells #[c0,c1,c2,c3,c4,c5] T (0,0))):W.frozen? ⟨g,0,none⟩=false∧W.frozen? ⟨g,1,none⟩=false∧W.frozen? ⟨g,2,none⟩=false∧W.frozen? ⟨g,3,none⟩=false∧W.frozen? ⟨g,4,none⟩=false∧W.frozen? ⟨g,5,none⟩=false :=
 ⟨Mg W g 0 _ _ h,Mg W g 1 _ _ h,Mg W g 2 _ _ h,Mg W g 3 _ _ h,Mg W g 4 _ _ h,Mg W g 5 _ _ h⟩
theorem pN {W:World} {g:Nat} {T:TypeId} {c0 c1 c2 c3 c4 c5 c6:Value} (h:W.heap[g]? = some (.cells #[c0,c1,c2,c3,c4,c5,c6] T (0,0))):W.cell? ⟨g,0,none⟩=some c0∧W.cell? ⟨g,1,none⟩=some c1∧W.cell? ⟨g,2,none⟩=some c2∧W.cell? ⟨g,3,none⟩=some c3∧W.cell? ⟨g,4,none⟩=some c4∧W.cell? ⟨g,5,none⟩=some c5∧W.cell? ⟨g,6,none⟩=some c6 :=
 ⟨cell_of (i:=0) h rfl,cell_of (i:=1) h rfl,cell_of (i:=2) h rfl,cell_of (i:=3) h rfl,cell_of (i:=4) h rfl,cell_of (i:=5) h rfl,cell_of (i:=6) h rfl⟩
theorem Js {W:World} {g:Nat} {T:TypeId} {c0 c1 c2 c3 c4 c5 c6:Value} (h:W.heap[g]? = some (.cells #[c0,c1,c2,c3,c4,c5,c6] T (0,0))):W.frozen? ⟨g,0,none⟩=false∧W.frozen? ⟨g,1,none⟩=false∧W.frozen? ⟨g,2,none⟩=false∧W.frozen? ⟨g,3,none⟩=false∧W.frozen? ⟨g,4,none⟩=false∧W.frozen? ⟨g,5,none⟩=false∧W.frozen? ⟨g,6,none⟩=false :=
 ⟨Mg W g 0 _ _ h,Mg W g 1 _ _ h,Mg W g 2 _ _ h,Mg W g 3 _ _ h,Mg W g 4 _ _ h,Mg W g 5 _ _ h,Mg W g 6 _ _ h⟩
theorem cw {W:World} {g:Nat} {T:TypeId} {c0 c1 c2 c3 c4 c5 c6 c7 c8 c9 eM:Value} (h:W.heap[g]? = some (.cells #[c0,c1,c2,c3,c4,c5,c6,c7,c8,c9,eM] T (0,0))):W.cell? ⟨g,0,none⟩=some c0∧W.cell? ⟨g,1,none⟩=some c1∧W.cell? ⟨g,2,none⟩=some c2∧W.cell? ⟨g,3,none⟩=some c3∧W.cell? ⟨g,4,none⟩=some c4∧W.cell? ⟨g,5,none⟩=some c5∧W.cell? ⟨g,6,none⟩=some c6∧W.cell? ⟨g,7,none⟩=some c7∧W.cell? ⟨g,8,none⟩=some c8∧W.cell? ⟨g,9,none⟩=some c9∧W.cell? ⟨g,10,none⟩=some eM :=
 ⟨cell_of (i:=0) h rfl,cell_of (i:=1) h rfl,cell_of (i:=2) h rfl,cell_of (i:=3) h rfl,cell_of (i:=4) h rfl,cell_of (i:=5) h rfl,cell_of (i:=6) h rfl,cell_of (i:=7) h rfl,cell_of (i:=8) h rfl,cell_of (i:=9) h rfl,cell_of (i:=10) h rfl⟩
theorem nT {W:World} {g:Nat} {T:TypeId} {c0 c1 c2 c3 c4 c5 c6 c7 c8 c9 eM:Value} (h:W.heap[g]? = some (.cells #[c0,c1,c2,c3,c4,c5,c6,c7,c8,c9,eM] T (0,0))):W.frozen? ⟨g,0,none⟩=false∧W.frozen? ⟨g,1,none⟩=false∧W.frozen? ⟨g,2,none⟩=false∧W.frozen? ⟨g,3,none⟩=false∧W.frozen? ⟨g,4,none⟩=false∧W.frozen? ⟨g,5,none⟩=false∧W.frozen? ⟨g,6,none⟩=false∧W.frozen? ⟨g,7,none⟩=false∧W.frozen? ⟨g,8,none⟩=false∧W.frozen? ⟨g,9,none⟩=false∧W.frozen? ⟨g,10,none⟩=false :=
 ⟨Mg W g 0 _ _ h,Mg W g 1 _ _ h,Mg W g 2 _ _ h,Mg W g 3 _ _ h,Mg W g 4 _ _ h,Mg W g 5 _ _ h,Mg W g 6 _ _ h,Mg W g 7 _ _ h,Mg W g 8 _ _ h,Mg W g 9 _ _ h,Mg W g 10 _ _ h⟩
theorem aD {W:World} {g:Nat} {T:TypeId} {c0 c1 c2 c3 c4 c5 c6 c7 c8 c9 eM c11 c12:Value} (h:W.heap[g]? = some (.cells #[c0,c1,c2,c3,c4,c5,c6,c7,c8,c9,eM,c11,c12] T (0,0))):W.cell? ⟨g,0,none⟩=some c0∧W.cell? ⟨g,1,none⟩=some c1∧W.cell? ⟨g,2,none⟩=some c2∧W.cell? ⟨g,3,none⟩=some c3∧W.cell? ⟨g,4,none⟩=some c4∧W.cell? ⟨g,5,none⟩=some c5∧W.cell? ⟨g,6,none⟩=some c6∧W.cell? ⟨g,7,none⟩=some c7∧W.cell? ⟨g,8,none⟩=some c8∧W.cell? ⟨g,9,none⟩=some c9∧W.cell? ⟨g,10,none⟩=some eM∧W.cell? ⟨g,11,none⟩=some c11∧W.cell? ⟨g,12,none⟩=some c12 :=
 ⟨cell_of (i:=0) h rfl,cell_of (i:=1) h rfl,cell_of (i:=2) h rfl,cell_of (i:=3) h rfl,cell_of (i:=4) h rfl,cell_of (i:=5) h rfl,cell_of (i:=6) h rfl,cell_of (i:=7) h rfl,cell_of (i:=8) h rfl,cell_of (i:=9) h rfl,cell_of (i:=10) h rfl,cell_of (i:=11) h rfl,cell_of (i:=12) h rfl⟩
theorem cT {W:World} {g:Nat} {T:TypeId} {c0 c1 c2 c3 c4 c5 c6 c7 c8 c9 eM c11 c12:Value} (h:W.heap[g]? = some (.cells #[c0,c1,c2,c3,c4,c5,c6,c7,c8,c9,eM,c11,c12] T (0,0))):W.frozen? ⟨g,0,none⟩=false∧W.frozen? ⟨g,1,none⟩=false∧W.frozen? ⟨g,2,none⟩=false∧W.frozen? ⟨g,3,none⟩=false∧W.frozen? ⟨g,4,none⟩=false∧W.frozen? ⟨g,5,none⟩=false∧W.frozen? ⟨g,6,none⟩=false∧W.frozen? ⟨g,7,none⟩=false∧W.frozen? ⟨g,8,none⟩=false∧W.frozen? ⟨g,9,none⟩=false∧W.frozen? ⟨g,10,none⟩=false∧W.frozen? ⟨g,11,none⟩=false∧W.frozen? ⟨g,12,none⟩=false :=
 ⟨Mg W g 0 _ _ h,Mg W g 1 _ _ h,Mg W g 2 _ _ h,Mg W g 3 _ _ h,Mg W g 4 _ _ h,Mg W g 5 _ _ h,Mg W g 6 _ _ h,Mg W g 7 _ _ h,Mg W g 8 _ _ h,Mg W g 9 _ _ h,Mg W g 10 _ _ h,Mg W g 11 _ _ h,Mg W g 12 _ _ h⟩
theorem au (w:World) {g o k:Nat} (u:Value) (h:k≠g):(w.setCell ⟨g,o,none⟩ u).heap[k]? = w.heap[k]?:=ML w ⟨g,o,none⟩ u k h
theorem aG (w:World) (o:Obj) {b:Nat} (h:b<w.heap.size):(w.alloc o).heap[b]? = w.heap[b]?:=((Md w.heap.size w).alloc (Mc _) o).block b h
def ah (S:Nat→Prop) (W W':World):Prop:=W.heap.size≤W'.heap.size∧∀ b,S b→b<W.heap.size→W'.heap[b]? = W.heap[b]?
theorem ah.cell {S:Nat→Prop} {W W':World} (h:ah S W W') {b o:Nat} {u:Value} (hb:S b) (hc:W.cell? ⟨b,o,none⟩=some u):W'.cell? ⟨b,o,none⟩=some u:=by
 have hlt:b<W.heap.size:=by
  rcases ME b W.heap.size with h' | h'
  ·exact h'
  ·simp [World.cell?,M3 h'] at hc
 rw [Mv (w:=W) (a:=⟨b,o,none⟩) (h.2 b hb hlt)];exact hc
theorem ah.of {S:Nat→Prop} {W W':World} (h:Below W.heap.size W W'):ah S W W':=⟨h.size,fun b _ hb=>h.block b hb⟩
theorem ah.trans {S:Nat→Prop} {a b c:World} (h:ah S a b) (k:ah S b c):ah S a c:=⟨Mr h.1 k.1,fun i hi hl=>(k.2 i hi (Mh hl h.1)).trans (h.2 i hi hl)⟩
theorem ah.mono {S S':Nat→Prop} {a b:World} (h:ah S a b) (hs:∀ i,S' i→S i):ah S' a b:=⟨h.1,fun i hi=>h.2 i (hs i hi)⟩
theorem ah.refl (S:Nat→Prop) (a:World):ah S a a:=⟨Mc _,fun _ _ _=>rfl⟩
theorem ah.set {S:Nat→Prop} {a b:World} (h:ah S a b) (g o:Nat) (u:Value) (hg:¬ S g):ah S a (b.setCell ⟨g,o,none⟩ u) :=
 ⟨by simpa using h.1,fun i hi hl=>(ML b ⟨g,o,none⟩ u i (by show i≠g; rintro rfl; exact hg hi)).trans (h.2 i hi hl)⟩
theorem jP.iF {S:Nat→Prop} {W W':World} {b off:Nat} {k:Int} {v:Vl} {c:Int} {a:Option Addr} {n cap:Nat} (h:jP W b off k v c a n cap) (hk:ah S W W') (hb:S b):jP W' b off k v c a n cap :=
 ⟨hk.cell hb h.c0,hk.cell hb h.c1,hk.cell hb h.c2,hk.cell hb h.c3,hk.cell hb h.c4,hk.cell hb h.c5⟩
inductive gA (S:Nat→Prop) (W:World):Option Addr→List Ex→Prop
 | nil (a:Option Addr):gA S W a []
 | some (b off:Nat) (l:List Ex) (ai:Nat→Option Addr) (cap:Nat→Nat) (hb:S b) (hlt:b<W.heap.size)
   (hc:∀ (i:Nat) (h:i<l.length),jP W b (off+i*6) l[i].k l[i].v l[i].c (ai i) l[i].ks.length (cap i))
   (hk:∀ (i:Nat) (h:i<l.length),gA S W (ai i) l[i].ks):gA S W (some ⟨b,off,none⟩) l
theorem gA.next {S:Nat→Prop} {W W':World} (hk:ah S W W') {a:Option Addr} {l:List Ex} (h:gA S W a l):gA S W' a l:=by
 induction h with
 | nil a=>exact .nil a
 | some b off l ai cap hb hlt hc _ ih=>exact .some b off l ai cap hb (Mh hlt hk.1) (fun i hi=>(hc i hi).iF hk hb) ih
theorem gA.mono {S S':Nat→Prop} {W:World} (hs:∀ b,S b→b<W.heap.size→S' b) {a:Option Addr} {l:List Ex} (h:gA S W a l):gA S' W a l:=by
 induction h with
 | nil a=>exact .nil a
 | some b off l ai cap hb hlt hc _ ih=>exact .some b off l ai cap (hs b hb hlt) hlt hc ih
theorem gA.ks {S:Nat→Prop} {W:World} {a:Option Addr} {l:List Ex} (h:gA S W a l):aX W.heap.size W a l:=by
 induction h with
 | nil a=>exact .nil a
 | some b off l ai cap hb hlt hc _ ih=>exact .some b off l ai cap hlt hc ih
theorem aX.s {B:Nat} {W:World} (hB:B≤W.heap.size) {a:Option Addr} {l:List Ex} (h:aX B W a l):gA (fun b=>b<B) W a l:=by
 induction h with
 | nil a=>exact .nil a
 | some b off l ai cap hb hc _ ih=>exact .some b off l ai cap hb (Mh hb hB) hc ih
theorem gA.elem {S:Nat→Prop} {W:World} {a:Option Addr} {l:List Ex} (h:gA S W a l) {k:Nat} (hk:k<l.length) :
  ∃ b off ai cap,a=Option.some ⟨b,off,none⟩∧S b∧jP W b (off+k*6) l[k].k l[k].v l[k].c ai l[k].ks.length cap∧gA S W ai l[k].ks:=by
 cases h with
 | nil=>simp at hk
 | some b off l ai cap hb hlt hc hh=>exact ⟨b,off,ai k,cap k,rfl,hb,hc k hk,hh k hk⟩
def SX (S:Nat→Prop) (v:Value) (W:World) (b:Nat):Prop:=S b∧b<W.heap.size∧v.ownBlock≠some b
def cK {α:Type} (En:(Nat→Prop)→World→α→List Value→Prop) (e size base:Nat) (S:Nat→Prop) (W:World) (v:Value) (l:List α):Prop :=
 ∃ xs,W.ownsRow base e size v l.length xs∧∀ (i:Nat) (h:i<l.length),∃ cs,cs.length=size∧(∀ j,j<size→xs[i*size+j]? = cs[j]?)∧En (SX S v W) W l[i] cs
structure tP {α:Type} (En:(Nat→Prop)→World→α→List Value→Prop):Prop where
 next:∀ {S:Nat→Prop} {W W':World} {x:α} {cs:List Value},ah S W W'→En S W x cs→En S W' x cs
 mono:∀ {S S':Nat→Prop} {W:World} {x:α} {cs:List Value},(∀ b,S b→b<W.heap.size→S' b)→En S W x cs→En S' W x cs
theorem cK.nil {α:Type} (En:(Nat→Prop)→World→α→List Value→Prop) (e size base:Nat) (S:Nat→Prop) (W:World):cK En e size base S W (.slice none 0 0) [] :=
 ⟨[],by simpa using MM _ _ _ _,fun i hi=>by simp at hi⟩
theorem cK.next {α:Type} {En:(Nat→Prop)→World→α→List Value→Prop} (ok:tP En) {e size base:Nat} {S:Nat→Prop} {W W1:World} {v:Value} {l:List α} (h:cK En e size base S W v l) (hb:Below W.heap.size W W1):cK En e size base S W1 v l:=by
 obtain ⟨xs,h1,h2⟩:=h;refine ⟨xs,bp h1 hb,fun i hi=>?_⟩;obtain ⟨cs,c1,c2,c3⟩:=h2 i hi;exact ⟨cs,c1,c2,ok.mono (fun b hb' _=>⟨hb'.1,Mh hb'.2.1 hb.size,hb'.2.2⟩) (ok.next (ah.of hb) c3)⟩
theorem cK.iF {α:Type} {En:(Nat→Prop)→World→α→List Value→Prop} (ok:tP En) {e size base:Nat} {S:Nat→Prop} {W W1:World} {v:Value} {l:List α} (h:cK En e size base S W v l) (hs:∀ b,base≤b→S b) (hk:ah S W W1):cK En e size base S W1 v l:=by
 obtain ⟨xs,h1,h2⟩:=h;refine ⟨xs,?_,fun i hi=>?_⟩
 ·obtain ⟨h0,⟨h1,h2⟩ | ⟨k,cap,cur,h1,h2,h3,h4⟩⟩:=h1
  ·exact ⟨h0,.inl ⟨h1,h2⟩⟩
  ·exact ⟨h0,.inr ⟨k,cap,cur,h1,h2,(hk.2 k (hs k h2) (ae h3)).trans h3,h4⟩⟩
 ·obtain ⟨cs,c1,c2,c3⟩:=h2 i hi;exact ⟨cs,c1,c2,ok.mono (fun b hb' _=>⟨hb'.1,Mh hb'.2.1 hk.1,hb'.2.2⟩) (ok.next (hk.mono fun _ h=>h.1) c3)⟩
theorem cK.len {α:Type} {En:(Nat→Prop)→World→α→List Value→Prop} {e size base:Nat} {S:Nat→Prop} {W:World} {v:Value} {l:List α} (h:cK En e size base S W v l):∃ a cap,v = .slice a l.length cap:=by
 obtain ⟨xs,⟨_,⟨h1,h2⟩ | ⟨k,cap,cur,h1,_⟩⟩,_⟩:=h
 ·exact ⟨none,0,by rw [h1,h2]⟩
 ·exact ⟨_,cap,h1⟩
theorem cK.lt {α:Type} {En:(Nat→Prop)→World→α→List Value→Prop} {e size base:Nat} {S:Nat→Prop} {W:World} {v:Value} {l:List α} (h:cK En e size base S W v l):∀ g,v.ownBlock=some g→base≤g∧g<W.heap.size:=by
 obtain ⟨xs,h1,_⟩:=h;exact h1.lt
theorem cK.push {α:Type} {En:(Nat→Prop)→World→α→List Value→Prop} (ok:tP En) {e size base:Nat} {S:Nat→Prop} {W W1:World} {v v':Value} {l:List α} {xs cs:List Value} {y:α}
  (h1:W.ownsRow base e size v l.length xs) (h2:∀ (i:Nat) (h:i<l.length),∃ cs,cs.length=size∧(∀ j,j<size→xs[i*size+j]? = cs[j]?)∧En (SX S v W) W l[i] cs)
  (hc:cs.length=size) (hy:En (SX S v W) W y cs) (ho:W1.ownsRow base e size v' (l.length+1) (xs ++ cs)) (hg:W.grownBy W1 v.ownBlock) (hd:v'.ownBlock=v.ownBlock∨v'.ownBlock=some W.heap.size):cK En e size base S W1 v' (l ++ [y]):=by
 have hk:ah (SX S v W) W W1:=⟨hg.size,fun b hb hl=>hg.block b hl (fun e=>hb.2.2 e.symm)⟩
 have mv:∀ {x:α} {cs:List Value},En (SX S v W) W x cs→En (SX S v' W1) W1 x cs:=fun h =>
  ok.mono (fun b hb _=>⟨hb.1,Mh hb.2.1 hg.size,fun e=>by
   rcases hd with hd | hd
   ·exact hb.2.2 (hd ▸ e)
   ·rw [hd] at e;have e:=MO e;have:=hb.2.1;omega⟩) (ok.next hk h)
 have hx:xs.length=l.length*size:=h1.1;refine ⟨xs ++ cs,by rw [Mw]; exact ho,fun i hi=>?_⟩;by_cases hi':i<l.length
 ·obtain ⟨c,c1,c2,c3⟩:=h2 i hi';refine ⟨c,c1,fun j hj=>?_,by rw [Mz hi']; exact mv c3⟩;rw [Mx (by rw [hx]; have:(i+1)*size≤l.length*size:=M1 _ hi'; rw [Nat.add_mul,Nat.one_mul] at this; omega)];exact c2 j hj
 ·have:i=l.length:=by simp at hi; omega
  subst this;refine ⟨cs,hc,fun j hj=>?_,by simpa using mv hy⟩;rw [My (by omega),hx]
  congr 1
  omega
theorem cK.fin {α:Type} {En:(Nat→Prop)→World→α→List Value→Prop} (ok:tP En) {e size base:Nat} {S:Nat→Prop} {W:World} {v:Value} {l:List α} (h:cK En e size base S W v l) :
  (l = []∧v = .slice none 0 0)∨∃ g cap,v = .slice (some ⟨g,0,none⟩) l.length cap∧base≤g∧g<W.heap.size∧∀ (i:Nat) (h:i<l.length),∃ cs,cs.length=size∧(∀ j u,cs[j]? = some u→W.cell? ⟨g,i*size+j,none⟩=some u)∧En S W l[i] cs:=by
 obtain ⟨xs,h1,h2⟩:=h;have cells:=fun g hg i u hu=>World.ownsRow.cells h1 (g:=g) hg i u hu
 have hlt:=h1.lt;obtain ⟨hx,⟨e1,e2⟩ | ⟨k,cap,cur,e1,h4⟩⟩:=h1
 ·exact .inl ⟨Mo e2,e1⟩
 ·subst e1;have:=hlt k rfl;refine .inr ⟨k,cap,rfl,this.1,this.2,fun i hi=>?_⟩;obtain ⟨cs,c1,c2,c3⟩:=h2 i hi;refine ⟨cs,c1,fun j u hj=>?_,ok.mono (fun b hb _=>hb.1) c3⟩;have hj':j<size:=by
   rcases ME j cs.length with h | h
   ·omega
   ·rw [MK h] at hj; cases hj
  have:=cells k rfl (i*size+j) u ((c2 j hj').trans hj)
  rwa [cW,Mq] at this
def IY (x:Ex) (a:Option Addr) (c:Nat):List Value:=[.int .i64 x.k,.int .i64 x.v.1,.int .i64 x.v.2.1,.string x.v.2.2,.int .i64 x.c,.slice a x.ks.length c]
def KA (S:Nat→Prop) (W:World) (x:Ex) (cs:List Value):Prop:=∃ a c,cs=IY x a c∧gA S W a x.ks
theorem Jm:tP KA:=⟨fun hk ⟨a,c,e,h⟩=>⟨a,c,e,h.next hk⟩,fun hs ⟨a,c,e,h⟩=>⟨a,c,e,h.mono hs⟩⟩
theorem JW {W:World} {g off:Nat} {x:Ex} {a:Option Addr} {c:Nat} (h:∀ j u,(IY x a c)[j]? = some u→W.cell? ⟨g,off+j,none⟩=some u):jP W g off x.k x.v x.c a x.ks.length c :=
 ⟨h 0 _ rfl,h 1 _ rfl,h 2 _ rfl,h 3 _ rfl,h 4 _ rfl,h 5 _ rfl⟩
theorem cK.LB {e base:Nat} {S:Nat→Prop} {W:World} {v:Value} {l:List Ex} (h:cK KA e 6 base S W v l) (hs:∀ b,base≤b→S b):∃ a cap,v = .slice a l.length cap∧gA S W a l:=by
 rcases h.fin Jm with ⟨rfl,rfl⟩ | ⟨g,cap,rfl,h1,h2,h3⟩
 ·exact ⟨none,0,rfl,.nil _⟩
 ·refine ⟨_,cap,rfl,?_⟩;have:∀ i:Nat,∃ (a:Option Addr) (c:Nat),∀ h:i<l.length,jP W g (0+i*6) l[i].k l[i].v l[i].c a l[i].ks.length c∧gA S W a l[i].ks:=fun i=>by
   by_cases hi:i<l.length
   ·obtain ⟨cs,_,c2,a,c,rfl,hk⟩:=h3 i hi;exact ⟨a,c,fun _=>⟨JW (by simpa using c2),hk⟩⟩
   ·exact ⟨none,0,fun h=>absurd h hi⟩
  obtain ⟨ai,ha⟩:=Classical.axiomOfChoice this;obtain ⟨ci,hc⟩:=Classical.axiomOfChoice ha;exact .some g 0 l ai ci (hs g h1) h2 (fun i hi=>(hc i hi).1) (fun i hi=>(hc i hi).2)
theorem Bo (a:Option Addr) (cap:Nat) (l:List Int) (w:World) (h:bG w.heap.size w a l) (hl:l.length≤1000) :
  Calls Tryz.prog 18 #[.slice a l.length cap] w fun e w'=>∃ a' c,e = .returned (.slice a' l.length c)∧nD 0 w.heap.size w' a' l∧Below w.heap.size w w':=by
 obtain ⟨i0,hi,hj0,hj1,hj2⟩:=info_parts Be;have R:=fh h;cases a with
 | none =>
  have e:l = []:=Mo (R.nil rfl);subst e;have heq:=mJ (P:=Tryz.prog) w 42 3 none 0 cap Tryz.underlying42;go_enter Tryz.func18,Tryz.ntmps18;go_wp2
  go_ret;exact ⟨none,0,rfl,⟨by simp,.inl rfl⟩,Md _ _⟩
 | some ad =>
  have hal:=aa w (.cells #[] 3);have R1:=R.next hal;have ho:(w.alloc (.cells #[] 3)).ownsRow w.heap.size 3 1 (.slice (some ⟨w.heap.size,0,none⟩) 0 0) 0 []:=Nz w #[] 0 (Mc _) (by decide) rfl;have heq:=mJ (P:=Tryz.prog) w 42 3 (some ad) l.length cap Tryz.underlying42;go_enter Tryz.func18,Tryz.ntmps18;go_upto_region 3 with fail
  go_wp2_with (at_builtin; refine dh rfl _ _ 42 rfl w.heap.size 3 i0 _ 1 8 Tryz.underlying42 hi hj0 hj1 hj2 rfl (by decide) _ _ _ rfl ho _ _ _ _ rfl R1 (by unfold maxLen; omega) (by omega) (by simp) ?_)
  intro v' w5 ho5 hg5;have hb5:Below w.heap.size w w5:=hal.grown hg5 (by simp) (fun q hq=>(ho.lt q hq).1);obtain ⟨a5,c5,rfl,it⟩:=lN (B:=0) (lo:=w.heap.size) ho5 rfl (Mc _);go_wp2
  go_ret;exact ⟨a5,c5,rfl,it,hb5⟩
theorem EC (ts:List (List Int)) (p:Pl) (q:Pw) (ta:Option Addr) (tc:Nat) (w:World) (hT:iW w.heap.size w ta ts) (hp:oh w.heap.size w p q) (hk:dx p) :
  Calls Tryz.prog 9 #[.slice ta ts.length tc,gR p q] w fun e w'=>∃ a c,e = .returned (.tuple #[.slice a (iX ts p).length c,.int .i64 (bH ts p)])∧nD 0 w.heap.size w' a (iX ts p)∧Below w.heap.size w w':=by
 have hA:=aa w (.cells (mf p q p.ks.length) 31);have EL:=iA.new w p q 31;have con:=nW ts p q ta tc (w.alloc (.cells (mf p q p.ks.length) 31)) ((hT.next hA (Mc _)).up hA.size) ((hp.next hA (Mc _)).up hA.size) hk;have h8:Hid (bH ts p=0→(ag ts p).length≤8):=fun h=>qA (eJ h).1 p 0 1 (eJ h).2
 generalize hez:iX ts p=ez;have HZ:=aw hez;generalize hle:bH ts p=le at con;have HLe:=aw hle;clear hk hez hle;obtain ⟨y0,y1,⟨y2,y3,y4,y5,y6,y7⟩,y8,y9,y10⟩:=EL;simp only [Mq] at y1 y2 y3 y4 y5 y6 y7 y8 y9 y10;unfold gR at con ⊢;go_enter Tryz.func9,Tryz.ntmps9;go_upto_region 1 with fail
 generalize w.alloc (.cells (mf p q p.ks.length) 31)=wA at *;go_wp2_with fail
 refine con.mono ?_;rintro e w1 ⟨⟨v1,rfl,hv0,hv1⟩,hb1⟩;clear con y0 y1 y2 y3 y4 y5 y6 y7 y8 y9 y10;have hA1:=chain hA hb1;by_cases he:le=0;rotate_left
 ·have e0:=hv1 he;have e2:ez = []:=by rw [← HZ.out]; unfold iX; rw [HLe.out,if_neg he]
  subst e0 e2;have hal:=aa w1 (.cells aJ 56);have hA2:=chain hA1 hal;have heb:(le != 0)=true:=by simpa using he
  clear hv0 hv1 HZ HLe h8;unfold kz;go_upto_region 2 with fail
  generalize w1.alloc (.cells aJ 56)=w2 at *;go_wp2_with fail
  exact Me (v:=.tuple #[.slice none 0 0,.int .i64 le]) (by simp [results,Tryz.results9,go_sem]) rfl ⟨none,0,rfl,⟨by simp,.inl rfl⟩,hA2⟩
 obtain ⟨ca,cc,na,nc,e0,ND⟩:=hv0 he;have e2:Hid (ag ts p=ez):=by show _=_; rw [← HZ.out]; unfold iX; rw [HLe.out,if_pos he]
 have g8:(ag ts p).length≤8:=h8.out (by rw [HLe.out,he]);subst e0;clear hv0 hv1 HLe h8 HZ;subst he;have IC:=ND.af.at;have hal:=aa w1 (.cells (aL p q p.ks.length ca ((ag ts p).length) cc na p.ks.length nc) 56);have hA2:=chain hA1 hal;have z11:=cell_of (i:=11) (ak w1 (aL p q p.ks.length ca ((ag ts p).length) cc na p.ks.length nc) 56) rfl;have IC2:=(IC.next hal (Mc _)).up hal.size;clear ND IC;unfold mZ;go_upto_region 2 with fail
 generalize w1.alloc (.cells (aL p q p.ks.length ca ((ag ts p).length) cc na p.ks.length nc) 56)=w2 at *;rw [e2.out] at z11 IC2 g8;have con:=Bo ca cc ez w2 IC2 (by omega);go_wp2_with fail
 refine con.mono ?_;rintro e w3 ⟨a3,c3,rfl,I3,hb3⟩;clear con z11;go_wp2_with fail
 exact Me (v:=.tuple #[.slice a3 ez.length c3,.int .i64 0]) (by simp [results,Tryz.results9,go_sem]) rfl ⟨a3,c3,rfl,I3.wide hA2.size,chain hA2 hb3⟩
end Go.Proofs.YtjebpkhkjkjphaaGreat
namespace Go.Proofs.YtjebpkhkjkjphaaGreat
open Go.RowKit
set_option maxRecDepth 100000
set_option maxHeartbeats 16000000
section
variable {P:Program} {ops:Array Oper} {Q:Exit→Act→World→Prop} {md:Region.Mode} {C:World→Prop} {Φ:Nat→World→Value→Prop} {I:Act→World→Prop}
structure Same (ops:Array Oper) (a0 a:Act):Prop where
 size:a.tmps.size=a0.tmps.size
 defers:a.defers=a0.defers
 tmps:∀ t:Tmp,(ops.all fun o=>o.dst != some t)=true→a.tmps.getD t undef=a0.tmps.getD t undef
def Jz (ops:Array Oper) (Φ:Nat→World→Value→Prop) (i:Nat) (a:Act) (w:World):Prop :=
 ∀ o d,ops[i]? = some o→o.dst=some d→Φ i w (a.tmps.getD d undef)
def Fz (P:Program) (md:Region.Mode) (ops:Array Oper) (Q:Exit→Act→World→Prop) (C:World→Prop) (Φ:Nat→World→Value→Prop) (I:Act→World→Prop) (a0:Act) (i:Nat) (o:Oper):Prop :=
 ∀ a w,C w→Same ops a0 a→I a w→(∀ e ∈ o.after,Region.binds md e=true→Jz ops Φ e.on a w) →
  wpOp P ops Q i (fun a' w'=>∃ v,a'=a.put o.dst v∧Below w.heap.size w w'∧Φ i w' v∧I (a.put o.dst v) w') a w
def pz (P:Program) (md:Region.Mode) (ops:Array Oper) (Q:Exit→Act→World→Prop) (C:World→Prop) (Φ:Nat→World→Value→Prop) (I:Act→World→Prop) (a0:Act):Nat→List Oper→Prop
 | _,[]=>True
 | i,o :: os=>Fz P md ops Q C Φ I a0 i o∧pz P md ops Q C Φ I a0 (i+1) os
theorem pz.get {a0:Act}:∀ {l:List Oper} {k:Nat},pz P md ops Q C Φ I a0 k l→∀ {i:Nat} {o:Oper},l[i]? = some o→Fz P md ops Q C Φ I a0 (k+i) o
 | [],_,_,i,o,h=>by simp at h
 | o' :: l,k,H,0,o,h=>by simp at h; subst h; exact H.1
 | o' :: l,k,H,i+1,o,h=>by
  have:=pz.get H.2 (i:=i) (by simpa using h)
  rw [show k+1+i=k+(i+1) by omega] at this
  exact this
def nK (md:Region.Mode) (ops:Array Oper) (listed:Array Bool):Prop :=
 ∀ i o,ops[i]? = some o→listed.getD i false=true→∀ e ∈ o.after,Region.binds md e=true→listed.getD e.on false=true
theorem Az {listed:Array Bool} {i:Nat} (h:i<listed.size) (d:Bool):listed.getD i d=listed[i]:=by simp [Array.getD,h]
end
section
variable {P:Program} {ops:Array Oper} {Q:Exit→Act→World→Prop} {md:Region.Mode} {C:World→Prop} {s:Nat}
def before (md:Region.Mode) (ops:Array Oper):Nat→Nat→Nat→Bool
 | 0,s,i=>s == i
 | n+1,s,i=>s == i || (match ops[s]? with
  | none=>false
  | some o=>o.after.any fun e=>Region.binds md e && before md ops n e.on i)
theorem oZ {listed:Array Bool} (hcl:nK md ops listed):∀ (n s i:Nat),before md ops n s i=true→listed.getD s false=true→listed.getD i false=true
 | 0,s,i,h,hs=>by
  have:s=i:=by simpa [before] using h
  exact this ▸ hs
 | n+1,s,i,h,hs=>by
  rw [before,Bool.or_eq_true] at h
  rcases h with h | h
  ·have:s=i:=by simpa using h
   exact this ▸ hs
  ·cases ho:ops[s]? with
   | none=>rw [ho] at h; cases h
   | some o =>
    rw [ho] at h
    obtain ⟨k,hk,h⟩:=Array.any_eq_true.1 h
    rw [MZ] at h
    exact oZ hcl n _ i h.2 (hcl s o ho hs _ (Array.getElem_mem hk) h.1)
def CZ (C:World→Prop) (s:Nat) (listed:Array Bool) (w:World):Prop:=listed.getD s false=false→C w
def Dz (P:Program) (md:Region.Mode) (ops:Array Oper) (Q:Exit→Act→World→Prop) (C:World→Prop) (s:Nat):Nat→Array Bool→Act→World→Prop
 | 0,listed,a,w=>Region.ready md ops listed = []∧∀ w',Below w.heap.size w w'→Q .normal a w'
 | fuel+1,listed,a,w=>∀ w',Below w.heap.size w w'→(Region.ready md ops listed = []→Q .normal a w') ∧
  ∀ i ∈ Region.ready md ops listed,wpOp P ops Q i (fun a' w''=>CZ C s (listed.setIfInBounds i true) w''∧Dz P md ops Q C s fuel (listed.setIfInBounds i true) a' w'') a w'
theorem Dz.cG:∀ (fuel:Nat) {listed:Array Bool} {a:Act} {w w1:World},Dz P md ops Q C s fuel listed a w→Below w.heap.size w w1→Dz P md ops Q C s fuel listed a w1
 | 0,_,_,_,_,h,hb=>⟨h.1,fun w' hw'=>h.2 w' (chain hb hw')⟩
 | _+1,_,_,_,_,h,hb=>fun w' hw'=>h w' (chain hb hw')
theorem mH:∀ (fuel:Nat) (listed:Array Bool) (a:Act) (w:World),Dz P md ops Q C s fuel listed a w→wpAny P md ops Q fuel listed a w
 | 0,_,_,_,h=>⟨h.1,h.2 _ (Md _ _)⟩
 | fuel+1,_,_,w,h=>⟨(h w (Md _ _)).1,fun i hi=>wpOp_mono (fun a' w' h'=>mH fuel _ a' w' h'.2) ((h w (Md _ _)).2 i hi)⟩
theorem xU {listed:Array Bool} {j:Nat} (hcl:nK md ops listed) (hj:j ∈ Region.ready md ops listed):nK md ops (listed.setIfInBounds j true):=by
 obtain ⟨h1,oj,hoj,hdep⟩:=mem_ready.1 hj;have up:∀ k,listed.getD k false=true→(listed.setIfInBounds j true).getD k false=true:=fun k hk=>by
  by_cases e:j=k
  ·subst e;have hlt:j<listed.size:=by
    rcases ME j listed.size with h | h
    ·exact h
    ·simp [Array.getD,Nat.not_lt.2 h] at hk
   rw [Az (by simpa using hlt)];simp
  ·rw [getD_set_ne false e]; exact hk
 intro k ok hk hl e he hb;by_cases ej:j=k
 ·subst ej;rw [hoj] at hk;cases hk;exact up _ (hdep e he hb)
 ·rw [getD_set_ne false ej] at hl;exact up _ (hcl k ok hk hl e he hb)
theorem Ae {listed:Array Bool} {i:Nat} (h:i ∈ Region.ready md ops listed):listed.getD i false=false:=by
 have:=(mem_ready.1 h).1;rcases ME i listed.size with h' | h'
 ·rw [Az h'] at this ⊢; exact this
 ·simp [Array.getD,Nat.not_lt.2 h']
theorem DI (hC:∀ w w',C w→Below w.heap.size w w'→C w') {i:Nat} {oi:Oper} {v:Value} {N:Nat} (hi:ops[i]? = some oi) (hsel:∀ (j:Nat) (o:Oper) cs b,ops[j]? = some o→o.op ≠ .select cs b)
  (hQ:∀ c a w,Q (.panic c) (a.put oi.dst v) w→Q (.panic c) a w) (hbf:before md ops N s i=true) (his:i≠s) :
  ∀ (fuel:Nat) (listed:Array Bool) (a:Act) (w:World),nK md ops listed →
   (∀ j oj,ops[j]? = some oj→j≠i→listed.getD j true=false→(∀ e ∈ oj.after,Region.binds md e=true→e.on≠i)→oi.apart ops oj=true) →
   i ∈ Region.ready md ops listed→gX P ops C oi v a→CZ C s listed w →
   Dz P md ops Q C s fuel (listed.setIfInBounds i true) (a.put oi.dst v) w→Dz P md ops Q C s (fuel+1) listed a w:=by
 have open_:∀ {listed:Array Bool},nK md ops listed→i ∈ Region.ready md ops listed→listed.getD s false=false:=fun hcl hr=>by
  cases h:Array.getD _ s false with
  | false=>rfl
  | true =>
   have:=oZ hcl N s i hbf h;rw [Ae hr] at this;cases this
 intro fuel
 induction fuel with
 | zero =>
  intro listed a w hcl _ hr hy hB H w' hw';have hB:=hB (open_ hcl hr);refine ⟨fun h=>(by rw [h] at hr; cases hr),fun j hj=>?_⟩;by_cases hji:j=i
  ·subst hji;exact hy.wpOp hi (hC _ _ hB hw') fun w'' hw''=>⟨fun _=>hC _ _ (hC _ _ hB hw') hw'',H.cG 0 (chain hw' hw'')⟩
  ·have:=ready_mono hj hji;rw [H.1] at this;cases this
 | succ fuel ih =>
  intro listed a w hcl hfree hr hy hB H w' hw';have hB:=hB (open_ hcl hr);refine ⟨fun h=>(by rw [h] at hr; cases hr),fun j hj=>?_⟩;by_cases hji:j=i
  ·subst hji;exact hy.wpOp hi (hC _ _ hB hw') fun w'' hw''=>⟨fun _=>hC _ _ (hC _ _ hB hw') hw'',H.cG (fuel+1) (chain hw' hw'')⟩
  ·have h1:=(H w' hw').2 j (ready_mono hj hji);obtain ⟨hjun,oj,hoj,hall⟩:=mem_ready.1 hj;have hnot:∀ e ∈ oj.after,Region.binds md e=true→e.on≠i:=fun e he hb heq=>by
    have h1:=hall e he hb;have h0:=(mem_ready.1 hr).1;rw [heq] at h1;rcases ME i listed.size with h' | h'
    ·simp [h'] at h0 h1; rw [h0] at h1; cases h1
    ·simp [M3 h'] at h1
   have hap:=hfree j oj hoj hji hjun hnot;obtain ⟨_,_,h3⟩:=Oper.apart_spec hap;have h2:=sh (Φ:=gX P ops C oi v) hoj hap (fun cs b=>hsel j oj cs b hoj) hQ
    (fun a hy u=>hy.of_same (execOp_put oi (fun cs b=>hsel i oi cs b hi) a oj.dst u h3) (wanted_put oi a oj.dst u h3)) (fun a d hy=>hy.of_same rfl rfl) hy h1
   have hfree':∀ k ok,ops[k]? = some ok→k≠i→(listed.setIfInBounds j true).getD k true=false →
     (∀ e ∈ ok.after,Region.binds md e=true→e.on≠i)→oi.apart ops ok=true:=fun k ok hk hki hun hno=>by
    refine hfree k ok hk hki ?_ hno;by_cases hjk:j=k
    ·subst hjk; exact hjun
    ·rw [getD_set_ne true hjk] at hun; exact hun
   refine wpOp_mono (fun a' w'' h4=>?_) h2;have hc:CZ C s (listed.setIfInBounds j true) w'':=fun h=>h4.2.1 (by
    rw [Array.setIfInBounds_comm _ _ (Ne.symm hji),getD_set_ne false his];exact h)
   refine ⟨hc,ih (listed.setIfInBounds j true) a' w'' (xU hcl hj) hfree' (ready_mono hr (Ne.symm hji)) h4.1 hc ?_⟩;rw [Array.setIfInBounds_comm _ _ hji];exact h4.2.2
def An (md:Region.Mode) (ops:Array Oper) (listed:Array Bool):Bool :=
 (List.range ops.size).all fun i=>match ops[i]? with
  | none=>true
  | some o=>!listed.getD i false || o.after.all fun e=>!Region.binds md e || listed.getD e.on false
theorem tD {listed:Array Bool} (h:An md ops listed=true):nK md ops listed:=fun i o hi hl e he hb=>by
 have h1:=List.all_eq_true.1 h i (List.mem_range.2 (Array.getElem?_eq_some_iff.1 hi).1)
 simp only [hi,hl,Bool.not_true,Bool.false_or] at h1
 have:=Array.all_eq_true_iff_forall_mem.1 h1 e he
 simpa [hb] using this
theorem bN (hC:∀ w w',C w→Below w.heap.size w w'→C w') {i:Nat} {oi:Oper} {v:Value} {fuel:Nat} {listed:Array Bool} {a:Act} {w:World} (d:Option Tmp) (hi:ops[i]? = some oi) (hd:oi.dst=d)
  (hs:Region.noSelect ops=true) (hf:Region.free md ops listed i=true) (hr:(Region.ready md ops listed).contains i=true) (hcl:An md ops listed=true) (hbf:before md ops 12 s i=true) (his:(i != s)=true)
  (hQ:∀ c a w,Q (.panic c) (a.put oi.dst v) w→Q (.panic c) a w) (hy:gX P ops C oi v a) (hB:CZ C s listed w)
  (h:Dz P md ops Q C s fuel (listed.setIfInBounds i true) (a.put d v) w):Dz P md ops Q C s (fuel+1) listed a w:=by
 subst hd;exact DI hC hi (Region.noSelect_spec hs) hQ hbf (by simpa using his) fuel listed a w (tD hcl) (Region.free_spec hi hf) (by simpa using hr) hy hB h
theorem dg {rs:List Nat} {fuel:Nat} {listed:Array Bool} {a:Act} {w:World} (hr:Region.ready md ops listed=rs) (hne:rs ≠ [])
  (h:∀ w',Below w.heap.size w w'→∀ i ∈ rs,wpOp P ops Q i (fun a' w''=>CZ C s (listed.setIfInBounds i true) w''∧Dz P md ops Q C s fuel (listed.setIfInBounds i true) a' w'') a w'):Dz P md ops Q C s (fuel+1) listed a w :=
 fun w' hw'=>⟨fun h0=>absurd (hr ▸ h0) hne,hr ▸ h w' hw'⟩
theorem mM {listed:Array Bool} {a:Act} {w:World} (hr:Region.ready md ops listed = []) (h:∀ w',Below w.heap.size w w'→Q .normal a w'):Dz P md ops Q C s 0 listed a w:=⟨hr,h⟩
theorem i4 {id:Nat} {a:Act} {w:World} (C:World→Prop) (s:Nat) (hm:P.follows .mixedOrders=true)
  (h:Dz P .any ops Q C s ops.size (Array.replicate ops.size false) a w.drew):(Code.region id ops true).wp P Q a w :=
 wp_region_any hm (mH _ _ _ _ h)
end
end Go.Proofs.YtjebpkhkjkjphaaGreat
namespace Go.Proofs.YtjebpkhkjkjphaaGreat
open Go.RowKit Go.Lib Go.Shelf
set_option maxRecDepth 100000
set_option maxHeartbeats 16000000
mutual
def lW (f:Int→Int):Ex→Ex
 | .mk k v c ks=>.mk k (if k=1 then bF v else eD) (if k=2 then f c else 0) (cQ f ks)
def cQ (f:Int→Int):List Ex→List Ex
 | []=>[]
 | x :: r=>lW f x :: cQ f r
end
theorem fB (f:Int→Int):∀ l,cQ f l=l.map (lW f)
 | []=>by simp [cQ]
 | x :: r=>by rw [cQ,fB f r,Na]
mutual
def fF (P:Int→Prop):Ex→Prop
 | .mk k _ c ks=>ks.length≤3∧(k=2→P c∧ks = [])∧wz P ks
def wz (P:Int→Prop):List Ex→Prop
 | []=>True
 | x :: r=>fF P x∧wz P r
end
theorem iI {P:Int→Prop}:∀ {l:List Ex},wz P l↔∀ x ∈ l,fF P x
 | []=>by simp [wz]
 | x :: r=>by rw [wz,iI (l:=r)]; simp
def KE (u:Value) (f:Int→Int) (P:Int→Prop) (w:World):Prop :=
 ∃ g cb,u = .func (.func g) #[] cb∧(∀ args w,(callFunc g args).run Tryz.prog w = .ok (.enter g args) w) ∧
  ∀ (c:Int) (W:World),P c→Below w.heap.size w W→Calls Tryz.prog g (#[.int .i64 c] ++ cb) W fun e w'=>e = .returned (.int .i64 (f c))∧Below W.heap.size W w'
theorem KE.next {u:Value} {f:Int→Int} {P:Int→Prop} {w w1:World} (h:KE u f P w) (hb:Below w.heap.size w w1):KE u f P w1:=by
 obtain ⟨g,cb,e,eg,hd⟩:=h;exact ⟨g,cb,e,eg,fun c W hc hW=>hd c W hc (chain hb hW)⟩
def AU (f:Int→Int) (P:Int→Prop) (x:Ex):Prop:=∀ (u:Value) (a:Option Addr) (cap:Nat) (w:World),KE u f P w→fF P x→aX w.heap.size w a x.ks →
 Calls Tryz.prog 23 #[iU x.k x.v x.c a x.ks.length cap,u] w fun e w'=>∃ a' c',e = .returned (iU (lW f x).k (lW f x).v (lW f x).c a' (lW f x).ks.length c')∧gA (fun b=>w.heap.size≤b) w' a' (lW f x).ks∧Below w.heap.size w w'
theorem sw (f:Int→Int) {ks:List Ex} {j:Nat} (h:j<ks.length):cQ f (ks.take (j+1))=cQ f (ks.take j) ++ [lW f ks[j]]:=by
 rw [fB,fB,Mp h,M7];rfl
theorem dK (f:Int→Int) (l:List Ex):(cQ f l).length=l.length:=by rw [fB,MA]
theorem Jl:(Tryz.prog.info? 27).map (fun i=>(i.zero,i.size,i.bytes))=some (some (.agg uB),6,72):=by kernel_rfl
theorem uU (f:Int→Int) (P:Int→Prop) (k:Int) (v:Vl) (c:Int) (ks:List Ex) (ih:∀ x ∈ ks,AU f P x):AU f P (.mk k v c ks):=by
 intro u a cap w hu hx hk;obtain ⟨i0,hi,hj0,hj1,hj2⟩:=info_parts Jl;rw [fF] at hx;obtain ⟨hx3,hxc,hxs⟩:=hx;have hxs:=iI.1 hxs;have HU:=aw hu;have IH:Hid (∀ x ∈ ks,AU f P x∧fF P x):=fun x hx=>⟨ih x hx,hxs x hx⟩
 simp only [Ex.k,Ex.v,Ex.c,Ex.ks] at hk ⊢;have HK:=aw hk;clear hu ih hxs hk;rw [lW];dsimp only;generalize hv1:(if k=1 then bF v else eD)=v1;generalize hc1:(if k=2 then f c else 0)=c1;have HV:=aw hv1;have HC:=aw hc1;have HP:Hid (k=2→P c):=fun h=>(hxc h).1
 clear hv1 hc1 hxc;have hcl:=dK f ks;have HCL:=aw hcl;clear hcl;have A0:=aa w (.cells (hJ k v.1 v.2.1 v.2.2 c a ks.length cap) 27);have A1:=A0.alloc (NI (ae (ak w (hJ k v.1 v.2.1 v.2.2 c a ks.length cap) 27))) (.cells uB 27)
 have A2:Below w.heap.size w (((w.alloc (.cells (hJ k v.1 v.2.1 v.2.2 c a ks.length cap) 27)).alloc (.cells uB 27)).alloc (.cells (vo k) 27)):=A1.alloc (by simp; omega) _;have QX0:=ak w (hJ k v.1 v.2.1 v.2.2 c a ks.length cap) 27;have QZ0:=ak (w.alloc (.cells (hJ k v.1 v.2.1 v.2.2 c a ks.length cap) 27)) uB 27
 have QO0:=ak ((w.alloc (.cells (hJ k v.1 v.2.1 v.2.2 c a ks.length cap) 27)).alloc (.cells uB 27)) (vo k) 27;have Z2:(((w.alloc (.cells (hJ k v.1 v.2.1 v.2.2 c a ks.length cap) 27)).alloc (.cells uB 27)).alloc (.cells (vo k) 27)).heap.size=w.heap.size+3:=by simp
 have QX2:(((w.alloc (.cells (hJ k v.1 v.2.1 v.2.2 c a ks.length cap) 27)).alloc (.cells uB 27)).alloc (.cells (vo k) 27)).heap[w.heap.size]? = some (.cells (hJ k v.1 v.2.1 v.2.2 c a ks.length cap) 27 (0,0)):=by
  rw [((Md _ _).alloc (Mc _) _:Below ((w.alloc (.cells (hJ k v.1 v.2.1 v.2.2 c a ks.length cap) 27)).alloc (.cells uB 27)).heap.size _ _).block _ (by simp; omega),((Md _ _).alloc (Mc _) _:Below (w.alloc (.cells (hJ k v.1 v.2.1 v.2.2 c a ks.length cap) 27)).heap.size _ _).block _ (by simp)];exact QX0
 have QZ2:(((w.alloc (.cells (hJ k v.1 v.2.1 v.2.2 c a ks.length cap) 27)).alloc (.cells uB 27)).alloc (.cells (vo k) 27)).heap[w.heap.size+1]? = some (.cells uB 27 (0,0)):=by
  rw [((Md _ _).alloc (Mc _) _:Below ((w.alloc (.cells (hJ k v.1 v.2.1 v.2.2 c a ks.length cap) 27)).alloc (.cells uB 27)).heap.size _ _).block _ (by simp)]
  simpa using QZ0
 have QO2:(((w.alloc (.cells (hJ k v.1 v.2.1 v.2.2 c a ks.length cap) 27)).alloc (.cells uB 27)).alloc (.cells (vo k) 27)).heap[w.heap.size+2]? = some (.cells (vo k) 27 (0,0)):=by simpa using QO0
 clear QX0 QZ0 QO0 A0 A1;go_enter Tryz.func23,Tryz.ntmps23;go_upto_region 2 with fail
 generalize ((w.alloc (.cells (hJ k v.1 v.2.1 v.2.2 c a ks.length cap) 27)).alloc (.cells uB 27)).alloc (.cells (vo k) 27)=w2 at *;obtain ⟨x0,x1,x2,x3,x4,x5⟩:=dV QX2;obtain ⟨xf0,xf1,xf2,xf3,xf4,xf5⟩:=rR QX2;obtain ⟨o0,o1,o2,o3,o4,o5⟩:=dV QO2;obtain ⟨of0,of1,of2,of3,of4,of5⟩:=rR QO2;have hk3:k=1∨k=2∨(k≠1∧k≠2):=by omega
 rcases hk3 with h1 | h2 | h3
 all_goals first
  |(have b1:(k == 1)=true:=by simpa using h1
    have e1:v1=bF v:=by rw [← HV.out,if_pos h1]
    have e2:c1=0:=by rw [← HC.out,if_neg (by omega)]
    clear HV HC;have con:=mQ v.1 v.2.1 v.2.2 w2;go_wp2_with fail
    refine con.mono ?_;rintro e w3 ⟨rfl,hb3⟩;clear con x0 xf0 o0 of0 x1 xf1 o1 of1 x2 xf2 o2 of2 x3 xf3 o3 of3 x4 xf4 o4 of4 x5 xf5 o5 of5;have A3:=chain A2 hb3;have z3:=hb3.size;have QX3:=(hb3.block _ (by omega)).trans QX2;have QZ3:=(hb3.block _ (by omega)).trans QZ2;have QO3:=(hb3.block _ (by omega)).trans QO2;have p1:w3.cell? ⟨w.heap.size+2,1,none⟩=some (.int .i64 0):=cell_of (i:=1) QO3 rfl;have pf1:w3.frozen? ⟨w.heap.size+2,1,none⟩=false:=Mg w3 (w.heap.size+2) 1 _ _ QO3;have p2:w3.cell? ⟨w.heap.size+2,2,none⟩=some (.int .i64 0):=cell_of (i:=2) QO3 rfl
    have pf2:w3.frozen? ⟨w.heap.size+2,2,none⟩=false:=Mg w3 (w.heap.size+2) 2 _ _ QO3;have p3:w3.cell? ⟨w.heap.size+2,3,none⟩=some (.string ⟨#[]⟩):=cell_of (i:=3) QO3 rfl;have pf3:w3.frozen? ⟨w.heap.size+2,3,none⟩=false:=Mg w3 (w.heap.size+2) 3 _ _ QO3;have QO4:=Ml _ _ 3 _ _ (.string (fN v.1 v.2.2)) (Ml _ _ 2 _ _ (.int .i64 (dE v.1 v.2.1)) (Ml _ _ 1 _ _ (.int .i64 v.1) QO3))
    have QX4:(((w3.setCell ⟨w.heap.size+2,1,none⟩ (.int .i64 v.1)).setCell ⟨w.heap.size+2,2,none⟩ (.int .i64 (dE v.1 v.2.1))).setCell ⟨w.heap.size+2,3,none⟩ (.string (fN v.1 v.2.2))).heap[w.heap.size]? = some (.cells (hJ k v.1 v.2.1 v.2.2 c a ks.length cap) 27 (0,0)):=by rw [heap_setCell_other _ _ _ _ (by simp),heap_setCell_other _ _ _ _ (by simp),heap_setCell_other _ _ _ _ (by simp)]; exact QX3
    have QZ4:(((w3.setCell ⟨w.heap.size+2,1,none⟩ (.int .i64 v.1)).setCell ⟨w.heap.size+2,2,none⟩ (.int .i64 (dE v.1 v.2.1))).setCell ⟨w.heap.size+2,3,none⟩ (.string (fN v.1 v.2.2))).heap[w.heap.size+1]? = some (.cells uB 27 (0,0)):=by rw [heap_setCell_other _ _ _ _ (by simp),heap_setCell_other _ _ _ _ (by simp),heap_setCell_other _ _ _ _ (by simp)]; exact QZ3
    have A4:Below w.heap.size w (((w3.setCell ⟨w.heap.size+2,1,none⟩ (.int .i64 v.1)).setCell ⟨w.heap.size+2,2,none⟩ (.int .i64 (dE v.1 v.2.1))).setCell ⟨w.heap.size+2,3,none⟩ (.string (fN v.1 v.2.2))):=((A3.setCell (p:=⟨w.heap.size+2,1,none⟩) (MT _ _) _).setCell (p:=⟨w.heap.size+2,2,none⟩) (MT _ _) _).setCell (p:=⟨w.heap.size+2,3,none⟩) (MT _ _) _
    have Z4:w.heap.size+3≤(((w3.setCell ⟨w.heap.size+2,1,none⟩ (.int .i64 v.1)).setCell ⟨w.heap.size+2,2,none⟩ (.int .i64 (dE v.1 v.2.1))).setCell ⟨w.heap.size+2,3,none⟩ (.string (fN v.1 v.2.2))).heap.size:=by simp only [MR]; omega
    go_upto_region 7 with fail
    generalize (((w3.setCell ⟨w.heap.size+2,1,none⟩ (.int .i64 v.1)).setCell ⟨w.heap.size+2,2,none⟩ (.int .i64 (dE v.1 v.2.1))).setCell ⟨w.heap.size+2,3,none⟩ (.string (fN v.1 v.2.2)))=w4 at *;have QO4:w4.heap[w.heap.size+2]? = some (.cells #[.int .i64 k,.int .i64 v1.1,.int .i64 v1.2.1,.string v1.2.2,.int .i64 c1,.slice none 0 0] 27 (0,0)):=by rw [e1,e2]; exact QO4
    clear p1 pf1 p2 pf2 p3 pf3 QX3 QZ3 QO3 A3 z3 hb3 e1 e2 b1 h1)
  |(have b1:(k == 1)=false:=beq_false_of_ne (by omega)
    have b2:(k == 2)=true:=by simpa using h2
    have e1:v1=eD:=by rw [← HV.out,if_neg (by omega)]
    have e2:f c=c1:=by rw [← HC.out,if_pos h2]
    have HU':=HU.out;obtain ⟨g,cb,eu,eg,hd⟩:=HU';have con:=hd c w2 (HP.out h2) A2;rw [e2] at con;clear HV HC hd;rw [eu] at HU ⊢;have Eu:=aw eu;clear eu;go_wp2_with fail
    first | (refine con.mono ?_) | (go_at_fn g; refine con.mono ?_)
    rintro e w3 ⟨rfl,hb3⟩;clear con x0 xf0 o0 of0 x1 xf1 o1 of1 x2 xf2 o2 of2 x3 xf3 o3 of3 x4 xf4 o4 of4 x5 xf5 o5 of5;have A3:=chain A2 hb3;have z3:=hb3.size;have QX3:=(hb3.block _ (by omega)).trans QX2;have QZ3:=(hb3.block _ (by omega)).trans QZ2;have QO3:=(hb3.block _ (by omega)).trans QO2;have p4:w3.cell? ⟨w.heap.size+2,4,none⟩=some (.int .i64 0):=cell_of (i:=4) QO3 rfl;have pf4:w3.frozen? ⟨w.heap.size+2,4,none⟩=false:=Mg w3 (w.heap.size+2) 4 _ _ QO3;have QO4:=Ml _ _ 4 _ _ (.int .i64 c1) QO3
    have QX4:(w3.setCell ⟨w.heap.size+2,4,none⟩ (.int .i64 c1)).heap[w.heap.size]? = some (.cells (hJ k v.1 v.2.1 v.2.2 c a ks.length cap) 27 (0,0)):=by rw [heap_setCell_other _ _ _ _ (by simp)]; exact QX3
    have QZ4:(w3.setCell ⟨w.heap.size+2,4,none⟩ (.int .i64 c1)).heap[w.heap.size+1]? = some (.cells uB 27 (0,0)):=by rw [heap_setCell_other _ _ _ _ (by simp)]; exact QZ3
    have A4:Below w.heap.size w (w3.setCell ⟨w.heap.size+2,4,none⟩ (.int .i64 c1)):=A3.setCell (p:=⟨w.heap.size+2,4,none⟩) (MT _ _) _;have Z4:w.heap.size+3≤(w3.setCell ⟨w.heap.size+2,4,none⟩ (.int .i64 c1)).heap.size:=by simp only [MR]; omega
    go_upto_region 7 with fail
    generalize (w3.setCell ⟨w.heap.size+2,4,none⟩ (.int .i64 c1))=w4 at *;have QO4:w4.heap[w.heap.size+2]? = some (.cells #[.int .i64 k,.int .i64 v1.1,.int .i64 v1.2.1,.string v1.2.2,.int .i64 c1,.slice none 0 0] 27 (0,0)):=by rw [e1]; exact QO4
    rw [← Eu.out] at HU ⊢;clear p4 pf4 QX3 QZ3 QO3 A3 z3 hb3 e1 e2 b1 b2 h2 Eu)
  |(have b1:(k == 1)=false:=by simpa using h3.1
    have b2:(k == 2)=false:=by simpa using h3.2
    have e1:v1=eD:=by rw [← HV.out,if_neg h3.1]
    have e2:c1=0:=by rw [← HC.out,if_neg h3.2]
    clear HV HC;go_upto_region 7 with fail
    have QX4:=QX2;have QZ4:=QZ2;have A4:=A2;have Z4:w.heap.size+3≤w2.heap.size:=by omega
    have QO4:w2.heap[w.heap.size+2]? = some (.cells #[.int .i64 k,.int .i64 v1.1,.int .i64 v1.2.1,.string v1.2.2,.int .i64 c1,.slice none 0 0] 27 (0,0)):=by rw [e1,e2]; exact QO2
    clear x0 xf0 o0 of0 x1 xf1 o1 of1 x2 xf2 o2 of2 x3 xf3 o3 of3 x4 xf4 o4 of4 x5 xf5 o5 of5 QX2 QZ2 QO2 A2 Z2 e1 e2 b1 b2 h3;generalize w2=w4 at *)
 all_goals (
  have hx5:w4.cell? ⟨w.heap.size,5,none⟩=some (.slice a ks.length cap):=cell_of (i:=5) QX4 rfl;go_wp2_with fail
  clear hx5;go_loopw [29] (fun i wr=>∃ j:Nat,j≤ks.length∧i = .int .i64 j∧(∃ s,wr.heap[w.heap.size+2]? = some (.cells (Dh k v1.1 v1.2.1 v1.2.2 c1 s) 27 (0,0))∧cK KA 27 6 w4.heap.size (fun b=>w4.heap.size≤b) wr s (cQ f (ks.take j)))∧wr.heap[w.heap.size+1]? = some (.cells uB 27 (0,0))∧Below w.heap.size w wr∧w4.heap.size≤wr.heap.size) (fun i _=>ks.length - (intOf i).toNat)
  case atStart=>exact ⟨0,Mj _,rfl,⟨_,QO4,by rw [List.take_zero,cQ]; exact cK.nil _ _ _ _ _ _⟩,QZ4,A4,Mc _⟩
  case round =>
   clear QO4 QX4 QZ4;obtain ⟨j,hj,rfl,⟨s,QO,OS⟩,QZ,hb,hzr⟩:=hrel;by_cases hlt:j<ks.length
   ·obtain ⟨b,off,ai,ci,rfl,hbl,sx,kx⟩:=(aX.next hb (Mc _) HK.out).elem hlt;obtain ⟨x0,x1,x2,x3,x4,x5⟩:=sx;have hjz:(j:Int)<(ks.length:Int):=by omega
    have hal:=aa wr (.cells (bC ks[j] ai ci) 27);have qk:=ak wr (bC ks[j] ai ci) 27;have HI:=IH.out ks[j] (Mk hlt);have HIH:=aw HI;have KX:=aw kx;have HT:Hid (cQ f (ks.take (j+1))=cQ f (ks.take j) ++ [lW f ks[j]]):=sw f hlt;have hln:(cQ f (ks.take j)).length=j:=by rw [dK,MH]; omega
    have HLN:=aw hln;have OS':=aw OS;have hnb:=OS.lt;clear HI kx hln OS;go_wp2_with fail
    clear x0 x1 x2 x3 x4 x5;have QOa:=(hal.block _ (by omega)).trans QO;have QZa:=(hal.block _ (by omega)).trans QZ;have za:=hal.size;have lk:=ae qk;generalize hwa:wr.alloc (.cells (bC ks[j] ai ci) 27)=wa at *;clear hwa
    have hCC:∀ W W':World,(W.heap[w.heap.size+2]? = some (.cells (Dh k v1.1 v1.2.1 v1.2.2 c1 s) 27 (0,0))∧W.heap[wr.heap.size]? = some (.cells (bC ks[j] ai ci) 27 (0,0)))→Below W.heap.size W W'→(W'.heap[w.heap.size+2]? = some (.cells (Dh k v1.1 v1.2.1 v1.2.2 c1 s) 27 (0,0))∧W'.heap[wr.heap.size]? = some (.cells (bC ks[j] ai ci) 27 (0,0))):=fun W W' h hb=>⟨(hb.block _ (ae h.1)).trans h.1,(hb.block _ (ae h.2)).trans h.2⟩
    have hdr:Below wa.heap.size wa wa.drew:=(Md _ _).drew;have CW:=hCC _ _ ⟨QOa,qk⟩ hdr;refine i4 (fun W=>W.heap[w.heap.size+2]? = some (.cells (Dh k v1.1 v1.2.1 v1.2.2 c1 s) 27 (0,0))∧W.heap[wr.heap.size]? = some (.cells (bC ks[j] ai ci) 27 (0,0))) 8 (by kernel_rfl) ?_;refine bN hCC (some 33) (i:=0) (v:=.pointer (some ⟨w.heap.size+2,5,none⟩)) rfl rfl (by kernel_rfl) (by kernel_rfl) (by kernel_rfl) (by kernel_rfl) (by kernel_rfl) rfl (fun _ _ _ h=>h) (Or.inl ⟨rfl,fun n hn=>?_⟩) (fun _=>CW) ?_
    ·go_simp
    simp only [pD,pB,pC];refine bN hCC (some 34) (i:=1) (v:=s) rfl rfl (by kernel_rfl) (by kernel_rfl) (by kernel_rfl) (by kernel_rfl) (by kernel_rfl) rfl (fun _ _ _ h=>h) (Or.inl ⟨rfl,fun n hn=>?_⟩) (fun _=>CW) ?_
    ·have hcell:n.cell? ⟨w.heap.size+2,5,none⟩=some s:=cell_of (i:=5) hn.1 rfl;go_simp
    simp only [pD,pB,pC];refine bN hCC (some 35) (i:=2) (v:=.agg (bC ks[j] ai ci)) rfl rfl (by kernel_rfl) (by kernel_rfl) (by kernel_rfl) (by kernel_rfl) (by kernel_rfl) rfl (fun _ _ _ h=>h) (Or.inl ⟨rfl,fun n hn=>?_⟩) (fun _=>CW) ?_
    ·have hcell0:n.cell? ⟨wr.heap.size,0,none⟩=some (.int .i64 ks[j].k):=cell_of (i:=0) hn.2 rfl;have hcell1:n.cell? ⟨wr.heap.size,1,none⟩=some (.int .i64 ks[j].v.1):=cell_of (i:=1) hn.2 rfl;have hcell2:n.cell? ⟨wr.heap.size,2,none⟩=some (.int .i64 ks[j].v.2.1):=cell_of (i:=2) hn.2 rfl;have hcell3:n.cell? ⟨wr.heap.size,3,none⟩=some (.string ks[j].v.2.2):=cell_of (i:=3) hn.2 rfl;have hcell4:n.cell? ⟨wr.heap.size,4,none⟩=some (.int .i64 ks[j].c):=cell_of (i:=4) hn.2 rfl;have hcell5:n.cell? ⟨wr.heap.size,5,none⟩=some (.slice ai ks[j].ks.length ci):=cell_of (i:=5) hn.2 rfl;go_simp
    simp only [pD,pB,pC];refine bN hCC (some 36) (i:=3) (v:=u) rfl rfl (by kernel_rfl) (by kernel_rfl) (by kernel_rfl) (by kernel_rfl) (by kernel_rfl) rfl (fun _ _ _ h=>h) (Or.inl ⟨rfl,fun n hn=>?_⟩) (fun _=>CW) ?_
    ·go_simp
    simp only [pD,pB,pC];refine dg (rs:=[4]) (by kernel_rfl) (by simp) ?_;intro w5 hb5 jj hj;obtain rfl:jj=4:=by simpa using hj
    clear hj;have D5:=chain (chain hal hdr) hb5;have B5:=chain hb D5;have CW5:=hCC _ _ CW hb5;have con:=HIH.out.1 u ai ci w5 (HU.out.next B5) HIH.out.2 ((aX.next D5 (by have:=hb.size; omega) KX.out).up (by have:=B5.size; omega));generalize hcy:lW f ks[j]=y at con;have HY:=aw hcy;clear hcy;refine wpOp_step rfl (fun K hK=>?_);go_simp;refine con.mono ?_;rintro e w6 ⟨ya,yc,rfl,KY,hb6⟩;have D6:=chain D5 hb6;have CW6:=hCC _ _ CW5 hb6;refine hK _ _ ⟨fun _=>CW6,?_⟩;clear hK K con CW5 CW;refine dg (rs:=[5]) (by kernel_rfl) (by simp) ?_;intro w7 hb7 jj hj
    obtain rfl:jj=5:=by simpa using hj
    clear hj;refine wpOp_step rfl (fun K hK=>?_);go_simp;have D7:=chain D6 hb7;have CW7:=hCC _ _ CW6 hb7;have hal7:=aa w7 (.cells (bC y ya yc) 27);have q8:=ak w7 (bC y ya yc) 27;have D8:=chain D7 hal7;have CW8:=hCC _ _ CW7 hal7;have KY8:=(KY.next (ah.of hb7)).next (ah.of hal7);have b6:=hb6.size;have b7:=hb7.size;refine hK _ _ ⟨fun _=>CW8,?_⟩;clear hK K CW7 CW6 KY;generalize hw8:w7.alloc (.cells (bC y ya yc) 27)=w8 at *;clear hw8;refine dg (rs:=[6]) (by kernel_rfl) (by simp) ?_;intro w9 hb9 jj hj
    obtain rfl:jj=6:=by simpa using hj
    clear hj;have D9:=chain D8 hb9;have CW9:=hCC _ _ CW8 hb9;have KY9:=KY8.next (ah.of hb9);have q9:=(hb9.block _ (ae q8)).trans q8;have d9:=D9.size;have l8:=ae q9;obtain ⟨ys,o9,en9⟩:=OS'.out.next Jm D9;have l9:=HLN.out;refine wpOp_step rfl (fun K hK=>?_);refine Eq.mpr (if_pos (by kernel_rfl)) ?_;refine bW (some 39) rfl (Operand.tmp 34) (Operand.tmp 38) 25 rfl w4.heap.size 27 i0 _ 6 72 Tryz.underlying25 hi hj0 hj1 hj2 rfl (by decide) s _ ys rfl o9 ⟨w7.heap.size,0,none⟩ 1 1 (IY y ya yc) rfl rfl ?Ac1 ?Ac2 ?Ac3 ?Ac4 ?Ac5 ?_
    case Ac1 =>
     intro i u hu;have:i<6:=by
      rcases ME i 6 with h | h
      ·exact h
      ·rw [MK (by simpa [IY] using h)] at hu; cases hu
     rw [cW,Mq];exact cell_of (i:=i) q9 (by rw [← hu]; simp [IY])
    case Ac2=>intro u hu; simp [IY] at hu; rcases hu with rfl | rfl | rfl | rfl | rfl | rfl <;> rfl
    case Ac3=>unfold maxLen; omega
    case Ac4=>omega
    case Ac5=>omega
    intro v' w10 o10 g10 hd10;have z10:=g10.size;have OS10:cK KA 27 6 w4.heap.size (fun b=>w4.heap.size≤b) w10 v' (cQ f (ks.take j) ++ [y]):=cK.push Jm o9 en9 rfl ⟨ya,yc,rfl,KY9.mono fun b hb hl=>⟨by have:=D5.size; omega,hl,fun e=>by have:=(hnb b e).2; have:=D5.size; omega⟩⟩ o10 g10 hd10;have QO10:w10.heap[w.heap.size+2]? = some (.cells (Dh k v1.1 v1.2.1 v1.2.2 c1 s) 27 (0,0)):=(g10.block _ (ae CW9.1) (fun e=>by have:=(hnb _ e.symm).1; omega)).trans CW9.1
    have QK10:w10.heap[wr.heap.size]? = some (.cells (bC ks[j] ai ci) 27 (0,0)):=(g10.block _ (ae CW9.2) (fun e=>by have:=(hnb _ e.symm).2; omega)).trans CW9.2;have QZ10:w10.heap[w.heap.size+1]? = some (.cells uB 27 (0,0)):=(g10.block _ (by have:=hb.size; omega) (fun e=>by have:=(hnb _ e.symm).1; omega)).trans ((D9.block _ (by omega)).trans QZ);have A10:Below w.heap.size w w10:=(chain hb D9).trans ((Md _ _).grown g10 (by have:=hb.size; omega) (fun q hq=>by have:=(hnb q hq).1; omega));refine hK _ _ ⟨fun _=>⟨QO10,QK10⟩,?_⟩
    clear hK K CW9 CW8 KY8 KY9 o9 en9 o10 q8 q9 g10 D8 D7 D6 hd10;simp only [pD,pB,pC];have CW:w10.heap[w.heap.size+2]? = some (.cells (Dh k v1.1 v1.2.1 v1.2.2 c1 s) 27 (0,0))∧w10.heap[wr.heap.size]? = some (.cells (bC ks[j] ai ci) 27 (0,0)):=⟨QO10,QK10⟩
    refine bN hCC (some 40) (i:=7) (v:=.pointer (some ⟨w.heap.size+2,5,none⟩)) rfl rfl (by kernel_rfl) (by kernel_rfl) (by kernel_rfl) (by kernel_rfl) (by kernel_rfl) rfl (fun _ _ _ h=>h) (Or.inl ⟨rfl,fun n hn=>?_⟩) (fun _=>CW) ?_
    ·go_simp
    simp only [pD,pB,pC];clear CW;refine dg (rs:=[8]) (by kernel_rfl) (by simp) ?_;intro w11 hb11 jj hj;obtain rfl:jj=8:=by simpa using hj
    clear hj;have QO11:=(hb11.block _ (ae QO10)).trans QO10;have QZ11:=(hb11.block _ (ae QZ10)).trans QZ10;have OS11:=OS10.next Jm hb11;obtain ⟨va,vc,rfl⟩:=OS11.len;generalize (cQ f (ks.take j) ++ [y]).length=vn at *;have A11:=chain A10 hb11;have hc5:w11.cell? ⟨w.heap.size+2,5,none⟩=some s:=cell_of (i:=5) QO11 rfl;have hf5:w11.frozen? ⟨w.heap.size+2,5,none⟩=false:=Mg w11 (w.heap.size+2) 5 _ _ QO11;refine wpOp_step rfl (fun K hK=>?_);go_simp;have QO12:=Ml w11 (w.heap.size+2) 5 _ _ (.slice va vn vc) QO11
    have QZ12:(w11.setCell ⟨w.heap.size+2,5,none⟩ (.slice va vn vc)).heap[w.heap.size+1]? = some (.cells uB 27 (0,0)):=by rw [heap_setCell_other _ _ _ _ (by simp)]; exact QZ11
    have A12:Below w.heap.size w (w11.setCell ⟨w.heap.size+2,5,none⟩ (.slice va vn vc)):=A11.setCell (p:=⟨w.heap.size+2,5,none⟩) (MT _ _) _;have OS12:=OS11.iF Jm (fun _ h=>h) ((ah.refl _ _).set (w.heap.size+2) 5 (.slice va vn vc) (by omega));refine hK _ _ ⟨fun h=>absurd h (by decide),?_⟩;refine mM (by kernel_rfl) ?_;intro w13 hb13;have A13:=chain A12 hb13;have OS13:=OS12.next Jm hb13;have QO13:=(hb13.block _ (ae QO12)).trans QO12;have QZ13:=(hb13.block _ (ae QZ12)).trans QZ12
    have z13:w4.heap.size≤w13.heap.size:=by have:=hb13.size; have:=hb11.size; simp only [MR] at *; omega
    clear A12 OS12 QO12 QZ12 hb13 hc5 hf5 OS11 QO11 QZ11 A11 hb11 OS10 QO10 QZ10 QK10 A10 hK K;go_wp2_with fail
    go_roundw
    case rel=>exact ⟨j+1,by omega,by go_num,⟨_,QO13,by rw [HT.out,HY.out]; exact OS13⟩,QZ13,A13,z13⟩
    case measure=>simp [intOf]; omega
   ·have e:j=ks.length:=by omega
    subst e;rw [MB] at OS;obtain ⟨sa,sc,rfl,KS⟩:=OS.LB (fun _ h=>h);rw [HCL.out] at QO;obtain ⟨o0,o1,o2,o3,o4,o5⟩:=dV QO;obtain ⟨of0,of1,of2,of3,of4,of5⟩:=rR QO;obtain ⟨z0,z1,z2,z3,z4,z5⟩:=dV QZ;obtain ⟨zf0,zf1,zf2,zf3,zf4,zf5⟩:=rR QZ;go_wp2_with fail
    have KP:ah (fun b=>w4.heap.size≤b) wr (LD wr (w.heap.size+1) (.int .i64 k) (.int .i64 v1.1) (.int .i64 v1.2.1) (.string v1.2.2) (.int .i64 c1) (.slice sa ks.length sc)):=(((((((ah.refl _ wr).set (w.heap.size+1) 0 (.int .i64 k) (by omega)).set (w.heap.size+1) 1 (.int .i64 v1.1) (by omega)).set (w.heap.size+1) 2 (.int .i64 v1.2.1) (by omega)).set (w.heap.size+1) 3 (.string v1.2.2) (by omega)).set (w.heap.size+1) 4 (.int .i64 c1) (by omega)).set (w.heap.size+1) 5 (.slice sa ks.length sc) (by omega))
    have AP:Below w.heap.size w (LD wr (w.heap.size+1) (.int .i64 k) (.int .i64 v1.1) (.int .i64 v1.2.1) (.string v1.2.2) (.int .i64 c1) (.slice sa ks.length sc)):=((((((hb.setCell (p:=⟨w.heap.size+1,0,none⟩) (Ns _) (.int .i64 k)).setCell (p:=⟨w.heap.size+1,1,none⟩) (Ns _) (.int .i64 v1.1)).setCell (p:=⟨w.heap.size+1,2,none⟩) (Ns _) (.int .i64 v1.2.1)).setCell (p:=⟨w.heap.size+1,3,none⟩) (Ns _) (.string v1.2.2)).setCell (p:=⟨w.heap.size+1,4,none⟩) (Ns _) (.int .i64 c1)).setCell (p:=⟨w.heap.size+1,5,none⟩) (Ns _) (.slice sa ks.length sc))
    exact Me (v:=iU k v1 c1 sa ks.length sc) (by simp [results,Tryz.results23,go_sem,z0,z1,z2,z3,z4,z5]) rfl ⟨sa,sc,by rw [HCL.out],(KS.next KP).mono (fun b h _=>by omega),AP⟩)
theorem lD (f:Int→Int) (P:Int→Prop):∀ x,AU f P x:=Ex.ind fun k v c ks ih=>uU f P k v c ks ih
theorem tR (P:Int→Prop) (w:World):KE (.func (.func 24) #[] #[]) (fun c=>c) P w :=
 ⟨24,#[],rfl,enters_of Tryz.func24 (by kernel_rfl) rfl,fun c W _ _=>by
  rw [Nr]
  go_enter Tryz.func24,Tryz.ntmps24
  go_wp2
  go_ret
  exact ⟨rfl,Md _ _⟩⟩
mutual
def nn (f:Int→Bool):Ex→Bool
 | .mk k _ c ks=>(k == 2 && f c) || fy f ks
def fy (f:Int→Bool):List Ex→Bool
 | []=>false
 | x :: r=>nn f x || fy f r
end
theorem nv (f:Int→Bool):∀ l r,fy f (l ++ r)=(fy f l || fy f r)
 | [],r=>by simp [fy]
 | x :: l,r=>by rw [M8,fy,fy,nv f l r,Bool.or_assoc]
theorem qj (f:Int→Bool) {ks:List Ex} {j:Nat} (h:j<ks.length):fy f (ks.take (j+1))=(fy f (ks.take j) || nn f ks[j]):=by
 rw [Mp h,nv,fy,fy,Bool.or_false]
theorem FU (c n:Int) (A F S:Nat) (p q:Bool) (w:World) (hA:w.cell? ⟨A,0,none⟩=some (.int .i64 n)) (hF:w.heap[F]? = some (.cells #[.bool (p)] 4 (0,0))) (hS:w.heap[S]? = some (.cells #[.bool (q)] 4 (0,0))) :
  Calls Tryz.prog 97 #[.int .i64 c,.pointer (some ⟨A,0,none⟩),.pointer (some ⟨F,0,none⟩),.pointer (some ⟨S,0,none⟩)] w fun e w'=>e = .returned (.tuple #[])∧w'=if c<n then w.setCell ⟨F,0,none⟩ (.bool true) else w.setCell ⟨S,0,none⟩ (.bool true):=by
 have f0:w.cell? ⟨F,0,none⟩=some (.bool p):=cell_of (i:=0) hF rfl;have f1:w.frozen? ⟨F,0,none⟩=false:=Mg w F 0 _ _ hF;have s0:w.cell? ⟨S,0,none⟩=some (.bool q):=cell_of (i:=0) hS rfl;have s1:w.frozen? ⟨S,0,none⟩=false:=Mg w S 0 _ _ hS;by_cases h:c<n
 ·rw [if_pos h];go_enter Tryz.func97,Tryz.ntmps97;go_wp2_with fail
  go_end0
  exact ⟨rfl,rfl⟩
 ·rw [if_neg h];go_enter Tryz.func97,Tryz.ntmps97;go_wp2_with fail
  go_end0
  exact ⟨rfl,rfl⟩
def tM (P:Int→Prop) (n:Int) (x:Ex):Prop:=fF P x→∀ (a:Option Addr) (cap:Nat) (w:World) (A F S:Nat) (p q:Bool),aX F w a x.ks→A<F→F<S→w.cell? ⟨A,0,none⟩=some (.int .i64 n)→w.heap[F]? = some (.cells #[.bool (p)] 4 (0,0))→w.heap[S]? = some (.cells #[.bool (q)] 4 (0,0)) →
 Calls Tryz.prog 96 #[iU x.k x.v x.c a x.ks.length cap,.func (.func 97) #[] #[.pointer (some ⟨A,0,none⟩),.pointer (some ⟨F,0,none⟩),.pointer (some ⟨S,0,none⟩)]] w fun e w'=>e = .returned (.tuple #[])∧w'.heap[F]? = some (.cells #[.bool (p || nn (fun c=>decide (c<n)) x)] 4 (0,0))∧w'.heap[S]? = some (.cells #[.bool (q || nn (fun c=>decide (n≤c)) x)] 4 (0,0))∧Below F w w'∧ah (fun b=>b≠F∧b≠S) w w'
theorem Bp (P:Int→Prop) (n k:Int) (v:Vl) (c:Int) (ks:List Ex) (ih:∀ x ∈ ks,tM P n x):tM P n (.mk k v c ks):=by
 intro hw a cap w A F S p q hk hA hF hcA hF0 hS0;simp only [Ex.k,Ex.v,Ex.c,Ex.ks] at hk ⊢;rw [nn,nn];rw [fF] at hw;obtain ⟨hx3,_,hxs⟩:=hw;have hxs:=iI.1 hxs;have IH:Hid (∀ x ∈ ks,tM P n x∧fF P x):=fun x hx=>⟨ih x hx,hxs x hx⟩
 have HK:=aw hk;clear ih hk hxs;have lF:=ae hF0;have lS:=ae hS0;have al:=aa w (.cells (hJ k v.1 v.2.1 v.2.2 c a ks.length cap) 27);have QX:=ak w (hJ k v.1 v.2.1 v.2.2 c a ks.length cap) 27;have cA:=(al.cell (p:=⟨A,0,none⟩) (show A<_ by omega)).trans hcA;have F1:=(al.block _ lF).trans hF0;have S1:=(al.block _ lS).trans hS0
 have B1:Below F w (w.alloc (.cells (hJ k v.1 v.2.1 v.2.2 c a ks.length cap) 27)):=al.mono (by omega);have K1:ah (fun b=>b≠F∧b≠S) w (w.alloc (.cells (hJ k v.1 v.2.1 v.2.2 c a ks.length cap) 27)):=ah.of al;have z1:(w.alloc (.cells (hJ k v.1 v.2.1 v.2.2 c a ks.length cap) 27)).heap.size=w.heap.size+1:=by simp
 clear hcA hF0 hS0 al;go_enter Tryz.func96,Tryz.ntmps96;go_upto_region 1 with fail
 generalize w.alloc (.cells (hJ k v.1 v.2.1 v.2.2 c a ks.length cap) 27)=w1 at *;obtain ⟨x0,x1,x2,x3,x4,x5⟩:=dV QX;obtain ⟨xf0,xf1,xf2,xf3,xf4,xf5⟩:=rR QX;generalize hp':(p || (k == 2 && decide (c<n)))=p';generalize hq':(q || (k == 2 && decide (n≤c)))=q';have e1:∀ z,(p || (k == 2 && decide (c<n) || z))=(p' || z):=fun z=>by rw [← hp',Bool.or_assoc]
 have e2:∀ z,(q || (k == 2 && decide (n≤c) || z))=(q' || z):=fun z=>by rw [← hq',Bool.or_assoc]
 have E1:=aw e1;have E2:=aw e2;clear e1 e2;have om:k≠2∨(k=2∧c<n)∨(k=2∧¬ c<n):=by omega
 rcases om with h1 | h2 | h3
 all_goals first
  |(have b1:(k == 2)=false:=by simpa using h1
    have F3:w1.heap[F]? = some (.cells #[.bool (p')] 4 (0,0)):=by rw [← hp',b1]; simpa using F1
    have S3:w1.heap[S]? = some (.cells #[.bool (q')] 4 (0,0)):=by rw [← hq',b1]; simpa using S1
    go_upto_region 3 with fail
    clear h1 hp' hq' F1 S1 x0 xf0 x4 xf4 b1;have cA3:=cA;have QX3:=QX;have B3:=B1;have K3:=K1;have z3:=z1;clear x1 xf1 x2 xf2 x3 xf3 x5 xf5 cA QX B1 K1 z1;generalize w1=w3 at *)
  |(have b1:(k == 2)=true:=by simpa using h2.1
    have con:=FU c n A F S p q w1 cA F1 S1;rw [if_pos h2.2] at con;have F3:(w1.setCell ⟨F,0,none⟩ (.bool true)).heap[F]? = some (.cells #[.bool (p')] 4 (0,0)):=by rw [← hp',Ml _ _ _ _ _ _ F1]; simp [h2.1,h2.2]
    have S3:(w1.setCell ⟨F,0,none⟩ (.bool true)).heap[S]? = some (.cells #[.bool (q')] 4 (0,0)):=by rw [← hq',au _ _ (by omega),S1]; simp; intro _; omega
    have cA3:(w1.setCell ⟨F,0,none⟩ (.bool true)).cell? ⟨A,0,none⟩=some (.int .i64 n):=by rw [Mn _ _ _ _ (by intro h; injection h with h1; omega)]; exact cA
    have QX3:(w1.setCell ⟨F,0,none⟩ (.bool true)).heap[w.heap.size]? = some (.cells (hJ k v.1 v.2.1 v.2.2 c a ks.length cap) 27 (0,0)):=by rw [au _ _ (by omega)]; exact QX
    have B3:Below F w (w1.setCell ⟨F,0,none⟩ (.bool true)):=B1.setCell (p:=⟨F,0,none⟩) (Mc _) _;have K3:ah (fun b=>b≠F∧b≠S) w (w1.setCell ⟨F,0,none⟩ (.bool true)):=K1.set F 0 _ (fun h=>h.1 rfl);have z3:(w1.setCell ⟨F,0,none⟩ (.bool true)).heap.size=w.heap.size+1:=by rw [MR]; exact z1
    go_wp2_with fail
    refine con.mono ?_;rintro e w3 ⟨rfl,hw3⟩;rw [← hw3] at F3 S3 cA3 QX3 B3 K3 z3;clear con hw3 h2 hp' hq' F1 S1 b1 cA QX B1 K1 z1 x0 xf0 x1 xf1 x2 xf2 x3 xf3 x4 xf4 x5 xf5;dsimp only;go_upto_region 3 with fail)
  |(have b1:(k == 2)=true:=by simpa using h3.1
    have con:=FU c n A F S p q w1 cA F1 S1;rw [if_neg h3.2] at con;have F3:(w1.setCell ⟨S,0,none⟩ (.bool true)).heap[F]? = some (.cells #[.bool (p')] 4 (0,0)):=by rw [← hp',au _ _ (by omega),F1]; simp; intro _; omega
    have S3:(w1.setCell ⟨S,0,none⟩ (.bool true)).heap[S]? = some (.cells #[.bool (q')] 4 (0,0)):=by rw [← hq',Ml _ _ _ _ _ _ S1]; simp [h3.1,show n≤c by omega]
    have cA3:(w1.setCell ⟨S,0,none⟩ (.bool true)).cell? ⟨A,0,none⟩=some (.int .i64 n):=by rw [Mn _ _ _ _ (by intro h; injection h with h1; omega)]; exact cA
    have QX3:(w1.setCell ⟨S,0,none⟩ (.bool true)).heap[w.heap.size]? = some (.cells (hJ k v.1 v.2.1 v.2.2 c a ks.length cap) 27 (0,0)):=by rw [au _ _ (by omega)]; exact QX
    have B3:Below F w (w1.setCell ⟨S,0,none⟩ (.bool true)):=B1.setCell (p:=⟨S,0,none⟩) (NI hF) _;have K3:ah (fun b=>b≠F∧b≠S) w (w1.setCell ⟨S,0,none⟩ (.bool true)):=K1.set S 0 _ (fun h=>h.2 rfl);have z3:(w1.setCell ⟨S,0,none⟩ (.bool true)).heap.size=w.heap.size+1:=by rw [MR]; exact z1
    go_wp2_with fail
    refine con.mono ?_;rintro e w3 ⟨rfl,hw3⟩;rw [← hw3] at F3 S3 cA3 QX3 B3 K3 z3;clear con hw3 h3 hp' hq' F1 S1 b1 cA QX B1 K1 z1 x0 xf0 x1 xf1 x2 xf2 x3 xf3 x4 xf4 x5 xf5;dsimp only;go_upto_region 3 with fail)
 all_goals (
  have hx5:w3.cell? ⟨w.heap.size,5,none⟩=some (.slice a ks.length cap):=cell_of (i:=5) QX3 rfl;go_wp2_with fail
  clear hx5;go_loopw [16] (fun i wr=>∃ j:Nat,j≤ks.length∧i = .int .i64 j∧wr.heap[F]? = some (.cells #[.bool (p' || fy (fun c=>decide (c<n)) (ks.take j))] 4 (0,0))∧wr.heap[S]? = some (.cells #[.bool (q' || fy (fun c=>decide (n≤c)) (ks.take j))] 4 (0,0))∧wr.cell? ⟨A,0,none⟩=some (.int .i64 n)∧Below F w wr∧ah (fun b=>b≠F∧b≠S) w wr) (fun i _=>ks.length - (intOf i).toNat)
  case atStart=>exact ⟨0,Mj _,rfl,by rw [List.take_zero,fy,Bool.or_false]; exact F3,by rw [List.take_zero,fy,Bool.or_false]; exact S3,cA3,B3,K3⟩
  case round =>
   clear F3 S3 cA3 B3 K3 z3 QX3;obtain ⟨j,hj,rfl,Fr,Sr,cAr,hb,hkr⟩:=hrel;by_cases hlt:j<ks.length
   ·obtain ⟨b,off,ai,ci,rfl,hbl,sx,kx⟩:=(aX.next hb (Mc _) HK.out).elem hlt;obtain ⟨x0,x1,x2,x3,x4,x5⟩:=sx;have hjz:(j:Int)<(ks.length:Int):=by omega
    have hal:=aa wr (.cells (bC ks[j] ai ci) 27);have zr:=hkr.1;have lF':=ae Fr;have con:=(IH.out ks[j] (Mk hlt)).1 (IH.out ks[j] (Mk hlt)).2 ai ci (wr.alloc (.cells (bC ks[j] ai ci) 27)) A F S _ _ (aX.next hal (by omega) kx) hA hF ((hal.cell (p:=⟨A,0,none⟩) (show A<_ by omega)).trans cAr) ((hal.block _ lF').trans Fr) ((hal.block _ (ae Sr)).trans Sr);have T1:Hid (fy (fun c=>decide (c<n)) (ks.take (j+1))=_):=qj _ hlt
    have T2:Hid (fy (fun c=>decide (n≤c)) (ks.take (j+1))=_):=qj _ hlt;go_wp2_with fail
    refine con.mono ?_;rintro e w5 ⟨rfl,F5,S5,B5,K5⟩;clear con x0 x1 x2 x3 x4 x5 kx;have B6:=hb.trans ((hal.mono (NI lF')).trans B5);have K6:=hkr.trans ((ah.of hal).trans K5);have cA6:=(B5.cell (p:=⟨A,0,none⟩) hA).trans ((hal.cell (p:=⟨A,0,none⟩) (show A<_ by omega)).trans cAr);dsimp only;go_wp2_with fail
    go_roundw
    case rel=>exact ⟨j+1,by omega,by go_num,by rw [T1.out,← Bool.or_assoc]; exact F5,by rw [T2.out,← Bool.or_assoc]; exact S5,cA6,B6,K6⟩
    case measure=>simp [intOf]; omega
   ·have e:j=ks.length:=by omega
    subst e;rw [MB] at Fr Sr;go_wp2_with fail
    go_end0
    exact ⟨rfl,by rw [E1.out]; exact Fr,by rw [E2.out]; exact Sr,hb,hkr⟩)
theorem IT (P:Int→Prop) (n:Int):∀ x,tM P n x:=Ex.ind fun k v c ks ih=>Bp P n k v c ks ih
theorem DS {P:Int→Prop} (x:Ex) (n:Int) (a:Option Addr) (cap:Nat) (w:World) (hw:fF P x) (hk:aX w.heap.size w a x.ks) :
  Calls Tryz.prog 63 #[iU x.k x.v x.c a x.ks.length cap,.int .i64 n] w fun e w'=>e = .returned (.tuple #[.bool (nn (fun c=>decide (c<n)) x),.bool (nn (fun c=>decide (n≤c)) x)])∧Below w.heap.size w w':=by
 obtain ⟨k,v,c,ks⟩:=x;simp only [Ex.k,Ex.v,Ex.c,Ex.ks] at hk ⊢;have A1:=aa w (.cells (hJ k v.1 v.2.1 v.2.2 c a ks.length cap) 27);have A2:Below w.heap.size w ((w.alloc (.cells (hJ k v.1 v.2.1 v.2.2 c a ks.length cap) 27)).alloc (.cells #[.int .i64 n] 3)):=A1.alloc (by simp) _
 have A3:Below w.heap.size w (((w.alloc (.cells (hJ k v.1 v.2.1 v.2.2 c a ks.length cap) 27)).alloc (.cells #[.int .i64 n] 3)).alloc (.cells #[.bool false] 4)):=A2.alloc (by simp; omega) _;have A4:Below w.heap.size w ((((w.alloc (.cells (hJ k v.1 v.2.1 v.2.2 c a ks.length cap) 27)).alloc (.cells #[.int .i64 n] 3)).alloc (.cells #[.bool false] 4)).alloc (.cells #[.bool false] 4)):=A3.alloc (by simp; omega) _
 have z4:((((w.alloc (.cells (hJ k v.1 v.2.1 v.2.2 c a ks.length cap) 27)).alloc (.cells #[.int .i64 n] 3)).alloc (.cells #[.bool false] 4)).alloc (.cells #[.bool false] 4)).heap.size=w.heap.size+4:=by simp
 have QX:((((w.alloc (.cells (hJ k v.1 v.2.1 v.2.2 c a ks.length cap) 27)).alloc (.cells #[.int .i64 n] 3)).alloc (.cells #[.bool false] 4)).alloc (.cells #[.bool false] 4)).heap[w.heap.size]? = some (.cells (hJ k v.1 v.2.1 v.2.2 c a ks.length cap) 27 (0,0)):=by
  rw [aG _ _ (by simp; omega),aG _ _ (by simp; omega),aG _ _ (by simp)]; exact ak w _ _
 have QA:((((w.alloc (.cells (hJ k v.1 v.2.1 v.2.2 c a ks.length cap) 27)).alloc (.cells #[.int .i64 n] 3)).alloc (.cells #[.bool false] 4)).alloc (.cells #[.bool false] 4)).heap[w.heap.size+1]? = some (.cells #[.int .i64 n] 3 (0,0)):=by
  rw [aG _ _ (by simp),aG _ _ (by simp)]; simpa using ak (w.alloc (.cells (hJ k v.1 v.2.1 v.2.2 c a ks.length cap) 27)) #[.int .i64 n] 3
 have QF:((((w.alloc (.cells (hJ k v.1 v.2.1 v.2.2 c a ks.length cap) 27)).alloc (.cells #[.int .i64 n] 3)).alloc (.cells #[.bool false] 4)).alloc (.cells #[.bool false] 4)).heap[w.heap.size+2]? = some (.cells #[.bool (false)] 4 (0,0)):=by
  rw [aG _ _ (by simp)]; simpa using ak ((w.alloc (.cells (hJ k v.1 v.2.1 v.2.2 c a ks.length cap) 27)).alloc (.cells #[.int .i64 n] 3)) #[.bool false] 4
 have QS:((((w.alloc (.cells (hJ k v.1 v.2.1 v.2.2 c a ks.length cap) 27)).alloc (.cells #[.int .i64 n] 3)).alloc (.cells #[.bool false] 4)).alloc (.cells #[.bool false] 4)).heap[w.heap.size+3]? = some (.cells #[.bool (false)] 4 (0,0)):=by simpa using ak (((w.alloc (.cells (hJ k v.1 v.2.1 v.2.2 c a ks.length cap) 27)).alloc (.cells #[.int .i64 n] 3)).alloc (.cells #[.bool false] 4)) #[.bool false] 4
 have HK:=aw hk;have HW:=aw hw;clear A1 A2 A3 hk hw;generalize hfa:nn (fun c=>decide (c<n)) (.mk k v c ks)=fa;generalize hsa:nn (fun c=>decide (n≤c)) (.mk k v c ks)=sa;go_enter Tryz.func63,Tryz.ntmps63;go_upto_region 1 with fail
 generalize (((w.alloc (.cells (hJ k v.1 v.2.1 v.2.2 c a ks.length cap) 27)).alloc (.cells #[.int .i64 n] 3)).alloc (.cells #[.bool false] 4)).alloc (.cells #[.bool false] 4)=w4 at *;have con:=IT P n (.mk k v c ks) HW.out a cap w4 (w.heap.size+1) (w.heap.size+2) (w.heap.size+3) false false ((aX.next A4 (Mc _) HK.out).up (by omega)) (by omega) (by omega) (cell_of (i:=0) QA rfl) QF QS;simp only [Ex.k,Ex.v,Ex.c,Ex.ks,Bool.false_or] at con;rw [hfa,hsa] at con;obtain ⟨x0,x1,x2,x3,x4,x5⟩:=dV QX
 obtain ⟨xf0,xf1,xf2,xf3,xf4,xf5⟩:=rR QX;go_wp2_with fail
 refine con.mono ?_;rintro e w5 ⟨rfl,F5,S5,B5,K5⟩;clear con x0 xf0 x1 xf1 x2 xf2 x3 xf3 x4 xf4 x5 xf5;have A5:Below w.heap.size w w5:=A4.trans (B5.mono (by omega));have f0:w5.cell? ⟨w.heap.size+2,0,none⟩=some (.bool fa):=cell_of (i:=0) F5 rfl;have f1:w5.frozen? ⟨w.heap.size+2,0,none⟩=false:=Mg w5 _ 0 _ _ F5;have s0:w5.cell? ⟨w.heap.size+3,0,none⟩=some (.bool sa):=cell_of (i:=0) S5 rfl;have s1:w5.frozen? ⟨w.heap.size+3,0,none⟩=false:=Mg w5 _ 0 _ _ S5;dsimp only;go_wp2_with fail
 go_region
 go_wp2_with fail
 refine Me (v:=.tuple #[.bool fa,.bool sa]) (by simp [results,Tryz.results63,go_sem,f0,s0]) rfl ⟨rfl,?_⟩;refine (Below.setCell (Below.setCell A5 ?_ _) ?_ _).drew <;> (dsimp only; omega)
theorem ke {S:Nat→Prop} {W0:World} (g:Nat) (hg:¬ S g):∀ (vs:List Value) (W:World) (o:Nat),ah S W0 W→ah S W0 (bQ W g o vs)
 | [],_,_,h=>h
 | v :: r,_,o,h=>ke g hg r _ _ (h.set g o v hg)
def At (W:World) (b off:Nat) (L:List Value):Prop:=∀ j u,L[j]? = some u→W.cell? ⟨b,off+j,none⟩=some u
theorem At.iF {S:Nat→Prop} {W W':World} {b off:Nat} {L:List Value} (h:At W b off L) (hk:ah S W W') (hb:S b):At W' b off L:=fun j u hj=>hk.cell hb (h j u hj)
theorem At.of {W:World} {b:Nat} {L:List Value} {T:TypeId} (h:W.heap[b]? = some (.cells L.toArray T (0,0))):At W b 0 L:=fun j u hj=>by
 rw [Mq]
 exact cell_of (i:=j) h (by simpa using hj)
theorem At.left {W:World} {b off:Nat} {L R:List Value} (h:At W b off (L ++ R)):At W b off L:=fun j u hj=>h j u (by rw [Mx (by rcases ME j L.length with h' | h'; exact h'; rw [MK h'] at hj; cases hj)]; exact hj)
theorem At.right {W:World} {b off:Nat} {L R:List Value} (h:At W b off (L ++ R)):At W b (off+L.length) R:=fun j u hj=>by
 have:=h (L.length+j) u (by rw [My (by omega)]; rw [Nat.add_sub_cancel_left]; exact hj)
 rwa [← NF] at this
def tv (S:Nat→Prop) (W:World) (a:Option Addr) (l:List Ag):Prop:=l = []∨∃ (b off:Nat) (ai:Nat→Option Addr) (cap:Nat→Nat),a=some ⟨b,off,none⟩∧S b∧b<W.heap.size∧∀ (i:Nat) (h:i<l.length),W.cell? ⟨b,off+i*7,none⟩=some (.int .i64 l[i].1)∧jP W b (off+i*7+1) l[i].2.k l[i].2.v l[i].2.c (ai i) l[i].2.ks.length (cap i)∧gA S W (ai i) l[i].2.ks
theorem tv.next {S:Nat→Prop} {W W':World} (hk:ah S W W') {a:Option Addr} {l:List Ag} (h:tv S W a l):tv S W' a l:=by
 rcases h with h | ⟨b,off,ai,cap,e,hs,hlt,h⟩
 ·exact .inl h
 ·exact .inr ⟨b,off,ai,cap,e,hs,Mh hlt hk.1,fun i hi=>⟨hk.cell hs (h i hi).1,(h i hi).2.1.iF hk hs,(h i hi).2.2.next hk⟩⟩
theorem tv.mono {S S':Nat→Prop} {W:World} (hs:∀ b,S b→b<W.heap.size→S' b) {a:Option Addr} {l:List Ag} (h:tv S W a l):tv S' W a l:=by
 rcases h with h | ⟨b,off,ai,cap,e,h1,hlt,h⟩
 ·exact .inl h
 ·exact .inr ⟨b,off,ai,cap,e,hs b h1 hlt,hlt,fun i hi=>⟨(h i hi).1,(h i hi).2.1,(h i hi).2.2.mono hs⟩⟩
theorem tv.at {S:Nat→Prop} {W:World} {a:Option Addr} {l:List Ag} (h:tv S W a l):ie W.heap.size W a l:=by
 rcases h with h | ⟨b,off,ai,cap,e,h1,hlt,h⟩
 ·exact .inl h
 ·exact .inr ⟨b,off,ai,cap,e,hlt,fun i hi=>⟨(h i hi).1,(h i hi).2.1,(h i hi).2.2.ks⟩⟩
theorem ie.s {B:Nat} {W:World} (hB:B≤W.heap.size) {a:Option Addr} {l:List Ag} (h:ie B W a l):tv (fun b=>b<B) W a l:=by
 rcases h with h | ⟨b,off,ai,cap,e,hlt,h⟩
 ·exact .inl h
 ·exact .inr ⟨b,off,ai,cap,e,hlt,Mh hlt hB,fun i hi=>⟨(h i hi).1,(h i hi).2.1,(h i hi).2.2.s hB⟩⟩
theorem tv.elem {S:Nat→Prop} {W:World} {a:Option Addr} {l:List Ag} (h:tv S W a l) {i:Nat} (hi:i<l.length):∃ b off ai ci,a=some ⟨b,off,none⟩∧S b∧b<W.heap.size∧W.cell? ⟨b,off+i*7,none⟩=some (.int .i64 l[i].1)∧jP W b (off+i*7+1) l[i].2.k l[i].2.v l[i].2.c ai l[i].2.ks.length ci∧gA S W ai l[i].2.ks:=by
 rcases h with h | ⟨b,off,ai,cap,e,h1,hlt,h⟩
 ·subst h; simp at hi
 ·exact ⟨b,off,ai i,cap i,e,h1,hlt,h i hi⟩
def Fc (S:Nat→Prop) (W:World) (a:Option Addr) (l:List Int):Prop:=l.length≤maxLen∧(l = []∨∃ b off,a=some ⟨b,off,none⟩∧S b∧b<W.heap.size∧∀ (i:Nat) (h:i<l.length),W.cell? ⟨b,off+i,none⟩=some (.int .i64 l[i]))
theorem Fc.next {S:Nat→Prop} {W W':World} (hk:ah S W W') {a:Option Addr} {l:List Int} (h:Fc S W a l):Fc S W' a l:=by
 obtain ⟨h0,h | ⟨b,off,e,h1,h2,h3⟩⟩:=h
 ·exact ⟨h0,.inl h⟩
 ·exact ⟨h0,.inr ⟨b,off,e,h1,Mh h2 hk.1,fun i hi=>hk.cell h1 (h3 i hi)⟩⟩
theorem Fc.mono {S S':Nat→Prop} {W:World} (hs:∀ b,S b→b<W.heap.size→S' b) {a:Option Addr} {l:List Int} (h:Fc S W a l):Fc S' W a l:=by
 obtain ⟨h0,h | ⟨b,off,e,h1,h2,h3⟩⟩:=h
 ·exact ⟨h0,.inl h⟩
 ·exact ⟨h0,.inr ⟨b,off,e,hs b h1 h2,h2,h3⟩⟩
theorem Fc.at {S:Nat→Prop} {W:World} {a:Option Addr} {l:List Int} (h:Fc S W a l):bG W.heap.size W a l:=by
 obtain ⟨h0,h | ⟨b,off,e,h1,h2,h3⟩⟩:=h
 ·exact ⟨h0,.inl h⟩
 ·exact ⟨h0,.inr ⟨b,off,e,h2,h3⟩⟩
def Jk (p:Pl) (q:Pw) (o:Nat):List Value:=[.int .i64 p.k,.int .i64 p.n,.int .i64 p.x.k,.int .i64 p.x.v.1,.int .i64 p.x.v.2.1,.string p.x.v.2.2,.int .i64 p.x.c,.slice q.xa p.x.ks.length q.xc,.slice q.sa p.xs.length q.sc,.slice q.ga p.gs.length q.gc,.slice q.ka o q.kc]
def bV (ts:List (List Int)) (p:Pl) (q:Pw) (o:Nat) (ca:Option Addr) (cc:Nat) (na:Option Addr) (nc:Nat):List Value:=[.int .i64 p.k,.int .i64 p.n,.int .i64 p.x.k,.int .i64 p.x.v.1,.int .i64 p.x.v.2.1,.string p.x.v.2.2,.int .i64 p.x.c,.slice q.xa p.x.ks.length q.xc,.slice q.sa p.xs.length q.sc,.slice q.ga p.gs.length q.gc,.slice q.ka o q.kc,.slice ca (ag ts p).length cc,.slice na p.ks.length nc]
def cU (ts:List (List Int)) (p:Pl) (q:Pw) (o:Nat) (ca:Option Addr) (cc:Nat) (na:Option Addr) (nc:Nat):Value:=.agg (bV ts p q o ca cc na nc).toArray
inductive sN (ts:List (List Int)) (S:Nat→Prop) (W:World):Option Addr→List Pl→Prop
 | nil (a:Option Addr):sN ts S W a []
 | some (b off:Nat) (l:List Pl) (q:Nat→Pw) (o:Nat→Nat) (ca:Nat→Option Addr) (cc:Nat→Nat) (na:Nat→Option Addr) (nc:Nat→Nat) (hb:S b) (hlt:b<W.heap.size)
   (hc:∀ (i:Nat) (h:i<l.length),At W b (off+i*13) (bV ts l[i] (q i) (o i) (ca i) (cc i) (na i) (nc i)))
   (hx:∀ (i:Nat) (h:i<l.length),gA S W (q i).xa l[i].x.ks)
   (hs:∀ (i:Nat) (h:i<l.length),gA S W (q i).sa l[i].xs)
   (hg:∀ (i:Nat) (h:i<l.length),tv S W (q i).ga l[i].gs)
   (hcol:∀ (i:Nat) (h:i<l.length),Fc S W (ca i) (ag ts l[i]))
   (hk:∀ (i:Nat) (h:i<l.length),sN ts S W (na i) l[i].ks):sN ts S W (some ⟨b,off,none⟩) l
theorem sN.next {ts:List (List Int)} {S:Nat→Prop} {W W':World} (hk:ah S W W') {a:Option Addr} {l:List Pl} (h:sN ts S W a l):sN ts S W' a l:=by
 induction h with
 | nil a=>exact .nil a
 | some b off l q o ca cc na nc hb hlt hc hx hs hg hcol _ ih=>exact .some b off l q o ca cc na nc hb (Mh hlt hk.1) (fun i hi=>(hc i hi).iF hk hb) (fun i hi=>(hx i hi).next hk) (fun i hi=>(hs i hi).next hk) (fun i hi=>(hg i hi).next hk) (fun i hi=>(hcol i hi).next hk) ih
theorem sN.mono {ts:List (List Int)} {S S':Nat→Prop} {W:World} (hs:∀ b,S b→b<W.heap.size→S' b) {a:Option Addr} {l:List Pl} (h:sN ts S W a l):sN ts S' W a l:=by
 induction h with
 | nil a=>exact .nil a
 | some b off l q o ca cc na nc hb hlt hc hx hs' hg hcol _ ih=>exact .some b off l q o ca cc na nc (hs b hb hlt) hlt hc (fun i hi=>(hx i hi).mono hs) (fun i hi=>(hs' i hi).mono hs) (fun i hi=>(hg i hi).mono hs) (fun i hi=>(hcol i hi).mono hs) ih
structure kU (ts:List (List Int)) (S:Nat→Prop) (W:World) (p:Pl) (q:Pw) (ca na:Option Addr):Prop where
 x:gA S W q.xa p.x.ks
 xs:gA S W q.sa p.xs
 gs:tv S W q.ga p.gs
 af:Fc S W ca (ag ts p)
 kids:sN ts S W na p.ks
theorem kU.next {ts:List (List Int)} {S:Nat→Prop} {W W':World} {p:Pl} {q:Pw} {ca na:Option Addr} (h:kU ts S W p q ca na) (hk:ah S W W'):kU ts S W' p q ca na:=⟨h.x.next hk,h.xs.next hk,h.gs.next hk,h.af.next hk,h.kids.next hk⟩
theorem kU.mono {ts:List (List Int)} {S S':Nat→Prop} {W:World} {p:Pl} {q:Pw} {ca na:Option Addr} (h:kU ts S W p q ca na) (hs:∀ b,S b→b<W.heap.size→S' b):kU ts S' W p q ca na:=⟨h.x.mono hs,h.xs.mono hs,h.gs.mono hs,h.af.mono hs,h.kids.mono hs⟩
theorem sN.elem {ts:List (List Int)} {S:Nat→Prop} {W:World} {a:Option Addr} {l:List Pl} (h:sN ts S W a l) {i:Nat} (hi:i<l.length):∃ b off q o ca cc na nc,a=Option.some ⟨b,off,none⟩∧S b∧b<W.heap.size∧At W b (off+i*13) (bV ts l[i] q o ca cc na nc)∧kU ts S W l[i] q ca na:=by
 cases h with
 | nil=>simp at hi
 | some b off l q o ca cc na nc hb hlt hc hx hs hg hcol hk=>exact ⟨b,off,q i,o i,ca i,cc i,na i,nc i,rfl,hb,hlt,hc i hi,⟨hx i hi,hs i hi,hg i hi,hcol i hi,hk i hi⟩⟩
theorem sN.of {ts:List (List Int)} {S:Nat→Prop} {W:World} {b off:Nat} {l:List Pl} (hb:S b) (hlt:b<W.heap.size) (h:∀ (i:Nat) (h:i<l.length),∃ q o ca cc na nc,At W b (off+i*13) (bV ts l[i] q o ca cc na nc)∧kU ts S W l[i] q ca na):sN ts S W (Option.some ⟨b,off,none⟩) l:=by
 have:∀ i:Nat,∃ t:Pw × Nat × Option Addr × Nat × Option Addr × Nat,∀ h:i<l.length,At W b (off+i*13) (bV ts l[i] t.1 t.2.1 t.2.2.1 t.2.2.2.1 t.2.2.2.2.1 t.2.2.2.2.2)∧kU ts S W l[i] t.1 t.2.2.1 t.2.2.2.2.1:=fun i=>by
  by_cases hi:i<l.length
  ·obtain ⟨q,o,ca,cc,na,nc,h1⟩:=h i hi;exact ⟨(q,o,ca,cc,na,nc),fun _=>h1⟩
  ·exact ⟨(⟨none,0,none,0,none,0,none,0⟩,0,none,0,none,0),fun h=>absurd h hi⟩
 obtain ⟨t,ht⟩:=Classical.axiomOfChoice this;exact .some b off l (fun i=>(t i).1) (fun i=>(t i).2.1) (fun i=>(t i).2.2.1) (fun i=>(t i).2.2.2.1) (fun i=>(t i).2.2.2.2.1) (fun i=>(t i).2.2.2.2.2) hb hlt (fun i hi=>(ht i hi).1) (fun i hi=>(ht i hi).2.x) (fun i hi=>(ht i hi).2.xs) (fun i hi=>(ht i hi).2.gs) (fun i hi=>(ht i hi).2.af) (fun i hi=>(ht i hi).2.kids)
def fu (S:Nat→Prop) (w:World) (b:Nat):Prop:=S b∨w.heap.size≤b
def Old (S:Nat→Prop) (w:World) (b:Nat):Prop:=S b∧b<w.heap.size
theorem cR {S:Nat→Prop} {w:World} {g k:Nat} (h1:w.heap.size≤g) (h2:g<k):¬ (Old S w g∨k≤g):=fun h=>by
 rcases h with h | h
 ·have:=h.2; omega
 ·omega
def aY (ts:List (List Int)) (S:Nat→Prop) (W:World) (v:Value) (p:Pl):Prop:=∃ q o ca cc na nc,v=cU ts p q o ca cc na nc∧kU ts S W p q ca na
theorem aY.next {ts:List (List Int)} {S:Nat→Prop} {W W':World} {v:Value} {p:Pl} (h:aY ts S W v p) (hk:ah S W W'):aY ts S W' v p:=by
 obtain ⟨q,o,ca,cc,na,nc,e,h⟩:=h;exact ⟨q,o,ca,cc,na,nc,e,h.next hk⟩
theorem aY.mono {ts:List (List Int)} {S S':Nat→Prop} {W:World} {v:Value} {p:Pl} (h:aY ts S W v p) (hs:∀ b,S b→b<W.heap.size→S' b):aY ts S' W v p:=by
 obtain ⟨q,o,ca,cc,na,nc,e,h⟩:=h;exact ⟨q,o,ca,cc,na,nc,e,h.mono hs⟩
inductive BD (S:Nat→Prop) (W:World):Option Addr→List Pl→Prop
 | nil (a:Option Addr):BD S W a []
 | some (b off:Nat) (l:List Pl) (q:Nat→Pw) (hb:S b) (hlt:b<W.heap.size)
   (hc:∀ (i:Nat) (h:i<l.length),At W b (off+i*11) (Jk l[i] (q i) l[i].ks.length))
   (hx:∀ (i:Nat) (h:i<l.length),gA S W (q i).xa l[i].x.ks)
   (hs:∀ (i:Nat) (h:i<l.length),gA S W (q i).sa l[i].xs)
   (hg:∀ (i:Nat) (h:i<l.length),tv S W (q i).ga l[i].gs)
   (hk:∀ (i:Nat) (h:i<l.length),BD S W (q i).ka l[i].ks):BD S W (some ⟨b,off,none⟩) l
theorem BD.next {S:Nat→Prop} {W W':World} (hk:ah S W W') {a:Option Addr} {l:List Pl} (h:BD S W a l):BD S W' a l:=by
 induction h with
 | nil a=>exact .nil a
 | some b off l q hb hlt hc hx hs hg _ ih=>exact .some b off l q hb (Mh hlt hk.1) (fun i hi=>(hc i hi).iF hk hb) (fun i hi=>(hx i hi).next hk) (fun i hi=>(hs i hi).next hk) (fun i hi=>(hg i hi).next hk) ih
theorem BD.mono {S S':Nat→Prop} {W:World} (hs:∀ b,S b→b<W.heap.size→S' b) {a:Option Addr} {l:List Pl} (h:BD S W a l):BD S' W a l:=by
 induction h with
 | nil a=>exact .nil a
 | some b off l q hb hlt hc hx hs' hg _ ih=>exact .some b off l q (hs b hb hlt) hlt hc (fun i hi=>(hx i hi).mono hs) (fun i hi=>(hs' i hi).mono hs) (fun i hi=>(hg i hi).mono hs) ih
theorem yd {W:World} {b off:Nat} {p:Pl} {q:Pw} (h:At W b off (Jk p q p.ks.length)):iA W b off p q :=
 ⟨h 0 _ rfl,h 1 _ rfl,⟨h 2 _ rfl,h 3 _ rfl,h 4 _ rfl,h 5 _ rfl,h 6 _ rfl,h 7 _ rfl⟩,h 8 _ rfl,h 9 _ rfl,h 10 _ rfl⟩
theorem BD.at {S:Nat→Prop} {W:World} {a:Option Addr} {l:List Pl} (h:BD S W a l):jF W.heap.size W a l:=by
 induction h with
 | nil a=>exact .nil a
 | some b off l q hb hlt hc hx hs hg _ ih=>exact .some b off l q hlt (fun i hi=>yd (hc i hi)) (fun i hi=>(hx i hi).ks) (fun i hi=>(hs i hi).ks) (fun i hi=>(hg i hi).at) ih
structure mE (S:Nat→Prop) (W:World) (p:Pl) (q:Pw):Prop where
 x:gA S W q.xa p.x.ks
 xs:gA S W q.sa p.xs
 gs:tv S W q.ga p.gs
 ks:BD S W q.ka p.ks
theorem mE.next {S:Nat→Prop} {W W':World} {p:Pl} {q:Pw} (h:mE S W p q) (hk:ah S W W'):mE S W' p q:=⟨h.x.next hk,h.xs.next hk,h.gs.next hk,h.ks.next hk⟩
theorem mE.mono {S S':Nat→Prop} {W:World} {p:Pl} {q:Pw} (h:mE S W p q) (hs:∀ b,S b→b<W.heap.size→S' b):mE S' W p q:=⟨h.x.mono hs,h.xs.mono hs,h.gs.mono hs,h.ks.mono hs⟩
theorem mE.b {S:Nat→Prop} {W:World} {p:Pl} {q:Pw} (h:mE S W p q):oh W.heap.size W p q:=⟨h.x.ks,h.xs.ks,h.gs.at,h.ks.at⟩
def Jt (g:Ag) (a:Option Addr) (c:Nat):List Value:=[.int .i64 g.1,.int .i64 g.2.k,.int .i64 g.2.v.1,.int .i64 g.2.v.2.1,.string g.2.v.2.2,.int .i64 g.2.c,.slice a g.2.ks.length c]
def KM (S:Nat→Prop) (W:World) (g:Ag) (cs:List Value):Prop:=∃ a c,cs=Jt g a c∧gA S W a g.2.ks
theorem Jr:tP KM:=⟨fun hk ⟨a,c,e,h⟩=>⟨a,c,e,h.next hk⟩,fun hs ⟨a,c,e,h⟩=>⟨a,c,e,h.mono hs⟩⟩
def Ig (S:Nat→Prop) (W:World) (p:Pl) (cs:List Value):Prop:=∃ q,cs=Jk p q p.ks.length∧mE S W p q
theorem CO:tP Ig:=⟨fun hk ⟨q,e,h⟩=>⟨q,e,h.next hk⟩,fun hs ⟨q,e,h⟩=>⟨q,e,h.mono hs⟩⟩
def Hy (ts:List (List Int)) (S:Nat→Prop) (W:World) (p:Pl) (cs:List Value):Prop:=∃ q o ca cc na nc,cs=bV ts p q o ca cc na nc∧kU ts S W p q ca na
theorem Db (ts:List (List Int)):tP (Hy ts):=⟨fun hk ⟨q,o,ca,cc,na,nc,e,h⟩=>⟨q,o,ca,cc,na,nc,e,h.next hk⟩,fun hs ⟨q,o,ca,cc,na,nc,e,h⟩=>⟨q,o,ca,cc,na,nc,e,h.mono hs⟩⟩
theorem cK.LV {e base:Nat} {S:Nat→Prop} {W:World} {v:Value} {l:List Ag} (h:cK KM e 7 base S W v l) (hs:∀ b,base≤b→S b):∃ a cap,v = .slice a l.length cap∧tv S W a l:=by
 rcases h.fin Jr with ⟨rfl,rfl⟩ | ⟨g,cap,rfl,h1,h2,h3⟩
 ·exact ⟨none,0,rfl,.inl rfl⟩
 ·refine ⟨_,cap,rfl,?_⟩;have:∀ i:Nat,∃ t:Option Addr × Nat,∀ h:i<l.length,W.cell? ⟨g,0+i*7,none⟩=some (.int .i64 l[i].1)∧jP W g (0+i*7+1) l[i].2.k l[i].2.v l[i].2.c t.1 l[i].2.ks.length t.2∧gA S W t.1 l[i].2.ks:=fun i=>by
   by_cases hi:i<l.length
   ·obtain ⟨cs,_,c2,a,c,rfl,hk⟩:=h3 i hi;rw [Mq];exact ⟨(a,c),fun _=>⟨c2 0 _ rfl,⟨c2 1 _ rfl,c2 2 _ rfl,c2 3 _ rfl,c2 4 _ rfl,c2 5 _ rfl,c2 6 _ rfl⟩,hk⟩⟩
   ·exact ⟨(none,0),fun h=>absurd h hi⟩
  obtain ⟨t,ht⟩:=Classical.axiomOfChoice this;exact .inr ⟨g,0,fun i=>(t i).1,fun i=>(t i).2,rfl,hs g h1,h2,ht⟩
theorem cK.LR {e base:Nat} {S:Nat→Prop} {W:World} {v:Value} {l:List Pl} (h:cK Ig e 11 base S W v l) (hs:∀ b,base≤b→S b):∃ a cap,v = .slice a l.length cap∧BD S W a l:=by
 rcases h.fin CO with ⟨rfl,rfl⟩ | ⟨g,cap,rfl,h1,h2,h3⟩
 ·exact ⟨none,0,rfl,.nil _⟩
 ·refine ⟨_,cap,rfl,?_⟩;have:∀ i:Nat,∃ q:Pw,∀ h:i<l.length,At W g (0+i*11) (Jk l[i] q l[i].ks.length)∧mE S W l[i] q:=fun i=>by
   by_cases hi:i<l.length
   ·obtain ⟨cs,_,c2,q,rfl,hk⟩:=h3 i hi;rw [Mq];exact ⟨q,fun _=>⟨c2,hk⟩⟩
   ·exact ⟨⟨none,0,none,0,none,0,none,0⟩,fun h=>absurd h hi⟩
  obtain ⟨t,ht⟩:=Classical.axiomOfChoice this;exact .some g 0 l t (hs g h1) h2 (fun i hi=>(ht i hi).1) (fun i hi=>(ht i hi).2.x) (fun i hi=>(ht i hi).2.xs) (fun i hi=>(ht i hi).2.gs) (fun i hi=>(ht i hi).2.ks)
theorem cK.Lk {ts:List (List Int)} {e base:Nat} {S:Nat→Prop} {W:World} {v:Value} {l:List Pl} (h:cK (Hy ts) e 13 base S W v l) (hs:∀ b,base≤b→S b):∃ a cap,v = .slice a l.length cap∧sN ts S W a l:=by
 rcases h.fin (Db ts) with ⟨rfl,rfl⟩ | ⟨g,cap,rfl,h1,h2,h3⟩
 ·exact ⟨none,0,rfl,.nil _⟩
 ·refine ⟨_,cap,rfl,sN.of (hs g h1) h2 fun i hi=>?_⟩;obtain ⟨cs,_,c2,q,o,ca,cc,na,nc,rfl,hk⟩:=h3 i hi;rw [Mq];exact ⟨q,o,ca,cc,na,nc,c2,hk⟩
end Go.Proofs.YtjebpkhkjkjphaaGreat
