/- Together: NP, NJ, XOpen, I1, IK, FX, I0, I2, I3. -/
import Derived.Deep.Slices
import Derived.Deep.Strs
import Derived.ProofKit
import Derived.OpenShut
import Derived.ChangeOld
import Derived.Lib.SmallJoins
import Derived.Shelf.Abstract
import Derived.Deep.Cut
import Derived.Test.YtjebpkhkjkjphaaGreatM10
import Derived.Test.YtjebpkhkjkjphaaGreatM4
import Derived.Test.YtjebpkhkjkjphaaGreatM8
import Derived.Test.YtjebpkhkjkjphaaGreatM7
import Derived.Test.YtjebpkhkjkjphaaGreatM1
namespace Go.Proofs.YtjebpkhkjkjphaaGreat
open Go.RowKit
set_option maxRecDepth 100000
set_option maxHeartbeats 16000000
structure Hc (ts:List (List Int)) (data:List (List Zp)):Prop where
 len:data.length=ts.length
 ok:∀ z ∈ data,dL z=0
theorem eH {ts:List (List Int)} {p:Pl} (h:bu ts p=0):fE ts=0∧(aS ts p 0 1).1=0:=by
 unfold bu at h;by_cases c:fE ts=0
 ·rw [if_neg (by simp [c])] at h;exact ⟨c,h⟩
 ·rw [if_pos c] at h; exact absurd h c
end Go.Proofs.YtjebpkhkjkjphaaGreat
namespace Go.Proofs.YtjebpkhkjkjphaaGreat
open Go.RowKit Go.Lib Go.Shelf
set_option maxRecDepth 100000
set_option maxHeartbeats 16000000
theorem lH {P:Program} (w:World) (t e:TypeId) (a:Option Addr) (l c:Nat) (h:P.underlying t=some (.slice e)):(binOp .eql t (.slice a l c) (.slice none 0 0)).run P w = .ok (.bool a.isNone) w:=by
 simp only [binOp];simp [run_equal_slice_nil w t e a l c h]
theorem zx (a:Option Addr) (cap:Nat) (l:List Int) (w:World) (h:bo w.heap.size w a l) (hl:l.length≤1000) :
  Calls Tryz.prog 18 #[.slice a l.length cap] w fun e w'=>∃ a' c,e = .returned (.slice a' l.length c)∧bo w'.heap.size w' a' l∧Below w.heap.size w w':=by
 obtain ⟨i0,hi,hj0,hj1,hj2⟩:=info_parts xp;have R:=eN h;cases a with
 | none =>
  have e:l = []:=Hs (R.nil rfl);subst e;have heq:=lH (P:=Tryz.prog) w 42 3 none 0 cap Tryz.underlying42;go_enter Tryz.func18,Tryz.ntmps18;go_wp2
  go_ret;exact ⟨none,0,rfl,⟨by simp,.inl rfl⟩,He _ _⟩
 | some ad =>
  have hal:=aa w (.cells #[] 3);have R1:=R.next hal;have ho:(w.alloc (.cells #[] 3)).ownsRow w.heap.size 3 1 (.slice (some ⟨w.heap.size,0,none⟩) 0 0) 0 []:=Jf w #[] 0 (Hd _) (by decide) rfl;have heq:=lH (P:=Tryz.prog) w 42 3 (some ad) l.length cap Tryz.underlying42;go_enter Tryz.func18,Tryz.ntmps18;go_upto_region 3 with fail
  go_wp2_with (at_builtin; refine cO rfl _ _ 42 rfl w.heap.size 3 i0 _ 1 8 Tryz.underlying42 hi hj0 hj1 hj2 rfl (by decide) _ _ _ rfl ho _ _ _ _ rfl R1 (by unfold maxLen; omega) (by omega) (by simp) ?_)
  intro v' w5 ho5 hg5;have hb5:Below w.heap.size w w5:=hal.grown hg5 (by simp) (fun q hq=>(ho.lt q hq).1);obtain ⟨a5,c5,rfl,it⟩:=j1 (B:=0) (lo:=0) ho5 rfl (Hl _);go_wp2
  go_ret;exact ⟨a5,c5,rfl,it.at,hb5⟩
def dv (ts:List (List Int)) (p:Pl):List Int:=if bu ts p=0 then aj ts p else []
theorem jL (ts:List (List Int)) (p:Pl) (q:Pw) (ta:Option Addr) (tc:Nat) (w:World) (hT:gP w.heap.size w ta ts) (hp:ki w.heap.size w p q) (hk:cF p) :
  Calls Tryz.prog 9 #[.slice ta ts.length tc,fp p q] w fun e w'=>∃ a c,e = .returned (.tuple #[.slice a (dv ts p).length c,.int .i64 (bu ts p)])∧bo w'.heap.size w' a (dv ts p)∧Below w.heap.size w w':=by
 have hA:=aa w (.cells (gq p q) 31);have EL:=gQ.new w p q 31;have con:=qc ts p q ta tc (w.alloc (.cells (gq p q) 31)) ((hT.next hA (Hd _)).up hA.size) ((hp.next hA (Hd _)).up hA.size) hk;have h8:Hid (bu ts p=0→(aj ts p).length≤8):=fun h=>qm (eH h).1 p 0 1 (eH h).2
 generalize hez:dv ts p=ez;have HZ:Hid (dv ts p=ez):=hez;generalize hle:bu ts p=le at con;have HLe:Hid (bu ts p=le):=hle;clear hk hez hle;obtain ⟨y0,y1,⟨y2,y3,y4,y5,y6,y7⟩,y8,y9,y10⟩:=EL;simp only [Hu] at y1 y2 y3 y4 y5 y6 y7 y8 y9 y10;unfold fp at con ⊢;go_enter Tryz.func9,Tryz.ntmps9;go_upto_region 1 with fail
 generalize w.alloc (.cells (gq p q) 31)=wA at *;go_wp2_with fail
 refine con.mono ?_;rintro e w1 ⟨⟨v1,rfl,hv0,hv1⟩,hb1⟩;clear con y0 y1 y2 y3 y4 y5 y6 y7 y8 y9 y10;have hA1:=chain hA hb1;by_cases he:le=0;rotate_left
 ·have e0:=hv1 he;have e2:ez = []:=by rw [← HZ.out]; unfold dv; rw [HLe.out,if_neg he]
  subst e0 e2;have hal:=aa w1 (.cells #[.int .i64 0,.int .i64 0,.int .i64 0,.int .i64 0,.int .i64 0,.string ⟨#[]⟩,.int .i64 0,.slice none 0 0,.slice none 0 0,.slice none 0 0,.slice none 0 0,.slice none 0 0,.slice none 0 0] 56);have hA2:=chain hA1 hal;have heb:(le != 0)=true:=by simpa using he
  clear hv0 hv1 HZ HLe h8;unfold jx;go_upto_region 2 with fail
  generalize w1.alloc (.cells #[.int .i64 0,.int .i64 0,.int .i64 0,.int .i64 0,.int .i64 0,.string ⟨#[]⟩,.int .i64 0,.slice none 0 0,.slice none 0 0,.slice none 0 0,.slice none 0 0,.slice none 0 0,.slice none 0 0] 56)=w2 at *;go_wp2_with fail
  exact Hf (v:=.tuple #[.slice none 0 0,.int .i64 le]) (by simp [results,Tryz.results9,go_sem]) rfl ⟨none,0,rfl,⟨by simp,.inl rfl⟩,hA2⟩
 obtain ⟨ca,cc,na,nc,e0,ND⟩:=hv0 he;have e2:Hid (aj ts p=ez):=by show _=_; rw [← HZ.out]; unfold dv; rw [HLe.out,if_pos he]
 have g8:(aj ts p).length≤8:=h8.out (by rw [HLe.out,he]);subst e0;clear hv0 hv1 HLe h8 HZ;subst he;have IC:=ND.af.at;have hal:=aa w1 (.cells (GM p q ca (aj ts p).length cc na p.ks.length nc) 56);have hA2:=chain hA1 hal;have z11:=cell_of (i:=11) (an w1 (GM p q ca (aj ts p).length cc na p.ks.length nc) 56) rfl;have IC2:=(IC.next hal (Hd _)).up hal.size;clear ND IC;unfold rK;go_upto_region 2 with fail
 generalize w1.alloc (.cells (GM p q ca (aj ts p).length cc na p.ks.length nc) 56)=w2 at *;rw [e2.out] at z11 IC2 g8;have con:=zx ca cc ez w2 IC2 (by omega);go_wp2_with fail
 refine con.mono ?_;rintro e w3 ⟨a3,c3,rfl,I3,hb3⟩;clear con z11;go_wp2_with fail
 exact Hf (v:=.tuple #[.slice a3 ez.length c3,.int .i64 0]) (by simp [results,Tryz.results9,go_sem]) rfl ⟨a3,c3,rfl,I3,chain hA2 hb3⟩
end Go.Proofs.YtjebpkhkjkjphaaGreat
namespace Go.Proofs.YtjebpkhkjkjphaaGreat
open Go.ChangeShapes Go.WideShapes Go.ChangeAt Go.RowKit Go.Joins
set_option maxRecDepth 100000
set_option maxHeartbeats 16000000
theorem dK (b off i:Nat):(⟨b,off,none⟩:Addr).add i=⟨b,off+i,none⟩:=by
 unfold Addr.add;by_cases h:i=0 <;> simp [h]
theorem q3:Tryz.prog.cellsOf 3=1:=by kernel_rfl
theorem q2:Tryz.prog.cellsOf 2=1:=by kernel_rfl
theorem q9:Tryz.prog.cellsOf 9=1:=by kernel_rfl
theorem GU:Tryz.prog.cellsOf 24=3:=by kernel_rfl
theorem G9:Tryz.prog.cellsOf 25=1:=by kernel_rfl
theorem GG:Tryz.prog.cellsOf 27=6:=by kernel_rfl
theorem zG {H:Type} {enc:TypeId × Value→H} {W:World} {base:Nat} {sp:Nat→Bool} {hd:Bool} {fuel:Nat} {cs:List Value} {x:DataW H × List MemPlace}
  (h:DataW.trod enc Tryz.prog W base sp hd fuel 24 cs=some x):∃ v:Vl,cs = [.int .i64 v.1,.int .i64 v.2.1,.string v.2.2]:=by
 obtain ⟨y0,y1,y2,m,_,hlen,h0,h1,h2⟩:=Go.Deep.trod_struct3 Tryz.underlying24 h
 rw [GU] at hlen
 match cs,hlen with
 | [c0,c1,c2],_ =>
  simp only [q3,q2,q9] at h0 h1 h2
  obtain ⟨k,e0,_,_⟩:=DataW.trod_int Tryz.underlying3 h0
  obtain ⟨n,e1,_,_⟩:=DataW.trod_int Tryz.underlying2 h1
  obtain ⟨s,e2,_,_⟩:=DataW.trod_string Tryz.underlying9 h2
  simp at e0 e1 e2
  subst e0 e1 e2
  exact ⟨(k,n,s),rfl⟩
instance:Inhabited Ex:=⟨.mk 0 (0,0,⟨#[]⟩) 0 []⟩
def sB {H:Type} (enc:TypeId × Value→H) (W:World) (hd:Bool) (m:Nat):Prop :=
 ∀ cs x,DataW.trod enc Tryz.prog W 0 (fun _=>true) hd m 25 cs=some x→∃ (a:Option Addr) (cap:Nat) (l:List Ex),cs = [.slice a l.length cap]∧aO W.heap.size W a l
theorem ko {H:Type} {enc:TypeId × Value→H} {W:World} {hd:Bool} {fuel:Nat} (ih:∀ m,m<fuel→sB enc W hd m) {cs:List Value} {x:DataW H × List MemPlace}
  (h:DataW.trod enc Tryz.prog W 0 (fun _=>true) hd fuel 27 cs=some x) :
  ∃ (e:Ex) (a:Option Addr) (cap:Nat),cs = [.int .i64 e.k,.int .i64 e.v.1,.int .i64 e.v.2.1,.string e.v.2.2,.int .i64 e.c,.slice a e.ks.length cap]∧aO W.heap.size W a e.ks:=by
 obtain ⟨xs,n,hn,_,hl,hlen,hf⟩:=DataW.trod_struct Tryz.underlying27 h;rw [GG] at hl
 match xs,hlen with
 | [y0,y1,y2,y3],_ =>
  have h0:=hf 0 _ rfl;have h1:=hf 1 _ rfl;have h2:=hf 2 _ rfl;have h3:=hf 3 _ rfl
  match cs,hl with
  | [c0,c1,c2,c3,c4,c5],_ =>
   simp [q3,GU,G9] at h0 h1 h2 h3;obtain ⟨k,e0,_,_⟩:=DataW.trod_int Tryz.underlying3 h0;obtain ⟨v,e1⟩:=zG h1;obtain ⟨c,e2,_,_⟩:=DataW.trod_int Tryz.underlying3 h2;obtain ⟨a,cap,l,e3,hk⟩:=ih n (by omega) _ _ h3;simp at e0 e1 e2 e3;obtain ⟨r1,r2,r3⟩:=e1;subst e0 r1 r2 r3 e2 e3;exact ⟨.mk k v c l,a,cap,rfl,hk⟩
theorem oc {H:Type} (enc:TypeId × Value→H) (W:World) (hd:Bool) (fuel:Nat):sB enc W hd fuel:=by
 induction fuel using Nat.strongRecOn with
 | ind fuel ih =>
  intro cs x h;rcases DataW.trod_slice Tryz.underlying25 h with ⟨hcs,_⟩ | ⟨a,len,cap,elems,rest,n,hn,hcs,_,_,_,_,hlen,hel,_,_⟩
  ·exact ⟨none,0,[],hcs,.nil _⟩
  ·rw [GG] at hel;obtain ⟨f,hf⟩:=Go.Deep.choose_lt (α:=Ex × Option Addr × Nat) (n:=len) (p:=fun i (y:Ex × Option Addr × Nat) =>
     (W.cell? ((a.add (i*6)).add 0)=some (.int .i64 y.1.k)∧W.cell? ((a.add (i*6)).add 1)=some (.int .i64 y.1.v.1)∧W.cell? ((a.add (i*6)).add 2)=some (.int .i64 y.1.v.2.1)∧W.cell? ((a.add (i*6)).add 3)=some (.string y.1.v.2.2) ∧
      W.cell? ((a.add (i*6)).add 4)=some (.int .i64 y.1.c)∧W.cell? ((a.add (i*6)).add 5)=some (.slice y.2.1 y.1.ks.length y.2.2))∧aO W.heap.size W y.2.1 y.1.ks) (fun i hi=>by
    have key:=hel i hi;rw [H4 (by omega)] at key;obtain ⟨cs',h1,h2⟩:=Option.bind_eq_some_iff.1 key;obtain ⟨_,hl6,hcell⟩:=World.cells?_some h1;obtain ⟨e,ai,ci,rfl,hk⟩:=ko (fun m hm=>ih m (by omega)) h2;exact ⟨(e,ai,ci),⟨hcell 0 (by simp),hcell 1 (by simp),hcell 2 (by simp),hcell 3 (by simp),hcell 4 (by simp),hcell 5 (by simp)⟩,hk⟩)
   refine ⟨some a,cap,(List.range len).map fun i=>(f i).1,by simpa using hcs,?_⟩;by_cases h0:len=0
   ·subst h0; exact .nil _
   ·obtain ⟨b,off,spot⟩:=a;have hc:=(hf 0 (by omega)).1.1;have hspot:spot=none:=by simpa [Addr.add] using World.cell?_spot hc
    subst hspot;refine .some b off _ (fun i=>(f i).2.1) (fun i=>(f i).2.2) (Hy W _ (by simpa [Addr.add] using hc)) (fun i hi=>?_) (fun i hi=>?_)
    ·have hi':i<len:=by simpa using hi
     have:=(hf i hi').1;simp only [dK] at this;simp only [IJ,Ji];exact ⟨this.1,this.2.1,this.2.2.1,this.2.2.2.1,this.2.2.2.2.1,this.2.2.2.2.2⟩
    ·have hi':i<len:=by simpa using hi
     simp only [IJ,Ji];exact (hf i hi').2
end Go.Proofs.YtjebpkhkjkjphaaGreat
namespace Go.Proofs.YtjebpkhkjkjphaaGreat
open Go.RowKit Go.Lib Go.Shelf
set_option maxRecDepth 100000
set_option maxHeartbeats 16000000
abbrev jt (p:Pl) (q:Pw) (o:Nat):Array Value:=#[.int .i64 p.k,.int .i64 p.n,.int .i64 p.x.k,.int .i64 p.x.v.1,.int .i64 p.x.v.2.1,.string p.x.v.2.2,.int .i64 p.x.c,.slice q.xa p.x.ks.length q.xc,.slice q.sa p.xs.length q.sc,.slice q.ga p.gs.length q.gc,.slice q.ka o q.kc]
abbrev aJ (p:Pl) (q:Pw) (o:Nat) (ca:Option Addr) (n cc:Nat) (na:Option Addr) (m nc:Nat):Array Value:=#[.int .i64 p.k,.int .i64 p.n,.int .i64 p.x.k,.int .i64 p.x.v.1,.int .i64 p.x.v.2.1,.string p.x.v.2.2,.int .i64 p.x.c,.slice q.xa p.x.ks.length q.xc,.slice q.sa p.xs.length q.sc,.slice q.ga p.gs.length q.gc,.slice q.ka o q.kc,.slice ca n cc,.slice na m nc]
abbrev aW (x:Ex) (a:Option Addr) (c:Nat):Array Value:=(ji x a c)
abbrev rL:Array Value:=#[.int .i64 0,.int .i64 0,.int .i64 0,.string ⟨#[]⟩,.int .i64 0,.slice none 0 0]
abbrev dT:Array Value:=#[.int .i64 0,.int .i64 0,.int .i64 0,.int .i64 0,.int .i64 0,.string ⟨#[]⟩,.int .i64 0,.slice none 0 0,.slice none 0 0,.slice none 0 0,.slice none 0 0]
abbrev aH:Array Value:=#[.int .i64 0,.int .i64 0,.int .i64 0,.int .i64 0,.int .i64 0,.string ⟨#[]⟩,.int .i64 0,.slice none 0 0,.slice none 0 0,.slice none 0 0,.slice none 0 0,.slice none 0 0,.slice none 0 0]
abbrev df (W:World) (g:Nat) (p:Pl) (q:Pw) (o:Nat) (ca:Option Addr) (n cc:Nat) (na:Option Addr) (m nc:Nat):World:=((((((((((((W.setCell ⟨g,0,none⟩ (.int .i64 p.k)).setCell ⟨g,1,none⟩ (.int .i64 p.n)).setCell ⟨g,2,none⟩ (.int .i64 p.x.k)).setCell ⟨g,3,none⟩ (.int .i64 p.x.v.1)).setCell ⟨g,4,none⟩ (.int .i64 p.x.v.2.1)).setCell ⟨g,5,none⟩ (.string p.x.v.2.2)).setCell ⟨g,6,none⟩ (.int .i64 p.x.c)).setCell ⟨g,7,none⟩ (.slice q.xa p.x.ks.length q.xc)).setCell ⟨g,8,none⟩ (.slice q.sa p.xs.length q.sc)).setCell ⟨g,9,none⟩ (.slice q.ga p.gs.length q.gc)).setCell ⟨g,10,none⟩ (.slice q.ka o q.kc)).setCell ⟨g,11,none⟩ (.slice ca n cc)).setCell ⟨g,12,none⟩ (.slice na m nc)
abbrev Es (W:World) (g:Nat) (p:Pl) (q:Pw) (o:Nat):World:=((((((((((W.setCell ⟨g,0,none⟩ (.int .i64 p.k)).setCell ⟨g,1,none⟩ (.int .i64 p.n)).setCell ⟨g,2,none⟩ (.int .i64 p.x.k)).setCell ⟨g,3,none⟩ (.int .i64 p.x.v.1)).setCell ⟨g,4,none⟩ (.int .i64 p.x.v.2.1)).setCell ⟨g,5,none⟩ (.string p.x.v.2.2)).setCell ⟨g,6,none⟩ (.int .i64 p.x.c)).setCell ⟨g,7,none⟩ (.slice q.xa p.x.ks.length q.xc)).setCell ⟨g,8,none⟩ (.slice q.sa p.xs.length q.sc)).setCell ⟨g,9,none⟩ (.slice q.ga p.gs.length q.gc)).setCell ⟨g,10,none⟩ (.slice q.ka o q.kc)
abbrev GY (W:World) (g:Nat) (v0 v1 v2 v3 v4 v5:Value):World:=(((((W.setCell ⟨g,0,none⟩ (v0)).setCell ⟨g,1,none⟩ (v1)).setCell ⟨g,2,none⟩ (v2)).setCell ⟨g,3,none⟩ (v3)).setCell ⟨g,4,none⟩ (v4)).setCell ⟨g,5,none⟩ (v5)
abbrev uN (W:World) (g:Nat) (v0 v1 v2 v3 v4 v5 v6 v7 v8 v9 v10:Value):World:=((((((((((W.setCell ⟨g,0,none⟩ (v0)).setCell ⟨g,1,none⟩ (v1)).setCell ⟨g,2,none⟩ (v2)).setCell ⟨g,3,none⟩ (v3)).setCell ⟨g,4,none⟩ (v4)).setCell ⟨g,5,none⟩ (v5)).setCell ⟨g,6,none⟩ (v6)).setCell ⟨g,7,none⟩ (v7)).setCell ⟨g,8,none⟩ (v8)).setCell ⟨g,9,none⟩ (v9)).setCell ⟨g,10,none⟩ (v10)
abbrev nt (W:World) (g:Nat) (v0 v1 v2 v3 v4 v5 v6 v7 v8 v9 v10 v11 v12:Value):World:=((((((((((((W.setCell ⟨g,0,none⟩ (v0)).setCell ⟨g,1,none⟩ (v1)).setCell ⟨g,2,none⟩ (v2)).setCell ⟨g,3,none⟩ (v3)).setCell ⟨g,4,none⟩ (v4)).setCell ⟨g,5,none⟩ (v5)).setCell ⟨g,6,none⟩ (v6)).setCell ⟨g,7,none⟩ (v7)).setCell ⟨g,8,none⟩ (v8)).setCell ⟨g,9,none⟩ (v9)).setCell ⟨g,10,none⟩ (v10)).setCell ⟨g,11,none⟩ (v11)).setCell ⟨g,12,none⟩ (v12)
theorem cU {W:World} {g:Nat} {T:TypeId} {c0 c1 c2 c3 c4 c5:Value} (h:W.heap[g]? = some (.cells #[c0,c1,c2,c3,c4,c5] T (0,0))):W.cell? ⟨g,0,none⟩=some c0∧W.cell? ⟨g,1,none⟩=some c1∧W.cell? ⟨g,2,none⟩=some c2∧W.cell? ⟨g,3,none⟩=some c3∧W.cell? ⟨g,4,none⟩=some c4∧W.cell? ⟨g,5,none⟩=some c5 :=
 ⟨cell_of (i:=0) h rfl,cell_of (i:=1) h rfl,cell_of (i:=2) h rfl,cell_of (i:=3) h rfl,cell_of (i:=4) h rfl,cell_of (i:=5) h rfl⟩
theorem qw {W:World} {g:Nat} {T:TypeId} {c0 c1 c2 c3 c4 c5:Value} (h:W.heap[g]? = some (.cells #[c0,c1,c2,c3,c4,c5] T (0,0))):W.frozen? ⟨g,0,none⟩=false∧W.frozen? ⟨g,1,none⟩=false∧W.frozen? ⟨g,2,none⟩=false∧W.frozen? ⟨g,3,none⟩=false∧W.frozen? ⟨g,4,none⟩=false∧W.frozen? ⟨g,5,none⟩=false :=
 ⟨Hh W g 0 _ _ h,Hh W g 1 _ _ h,Hh W g 2 _ _ h,Hh W g 3 _ _ h,Hh W g 4 _ _ h,Hh W g 5 _ _ h⟩
theorem oz {W:World} {g:Nat} {T:TypeId} {c0 c1 c2 c3 c4 c5 c6:Value} (h:W.heap[g]? = some (.cells #[c0,c1,c2,c3,c4,c5,c6] T (0,0))):W.cell? ⟨g,0,none⟩=some c0∧W.cell? ⟨g,1,none⟩=some c1∧W.cell? ⟨g,2,none⟩=some c2∧W.cell? ⟨g,3,none⟩=some c3∧W.cell? ⟨g,4,none⟩=some c4∧W.cell? ⟨g,5,none⟩=some c5∧W.cell? ⟨g,6,none⟩=some c6 :=
 ⟨cell_of (i:=0) h rfl,cell_of (i:=1) h rfl,cell_of (i:=2) h rfl,cell_of (i:=3) h rfl,cell_of (i:=4) h rfl,cell_of (i:=5) h rfl,cell_of (i:=6) h rfl⟩
theorem EM {W:World} {g:Nat} {T:TypeId} {c0 c1 c2 c3 c4 c5 c6:Value} (h:W.heap[g]? = some (.cells #[c0,c1,c2,c3,c4,c5,c6] T (0,0))):W.frozen? ⟨g,0,none⟩=false∧W.frozen? ⟨g,1,none⟩=false∧W.frozen? ⟨g,2,none⟩=false∧W.frozen? ⟨g,3,none⟩=false∧W.frozen? ⟨g,4,none⟩=false∧W.frozen? ⟨g,5,none⟩=false∧W.frozen? ⟨g,6,none⟩=false :=
 ⟨Hh W g 0 _ _ h,Hh W g 1 _ _ h,Hh W g 2 _ _ h,Hh W g 3 _ _ h,Hh W g 4 _ _ h,Hh W g 5 _ _ h,Hh W g 6 _ _ h⟩
theorem bz {W:World} {g:Nat} {T:TypeId} {c0 c1 c2 c3 c4 c5 c6 c7 c8 c9 dW:Value} (h:W.heap[g]? = some (.cells #[c0,c1,c2,c3,c4,c5,c6,c7,c8,c9,dW] T (0,0))):W.cell? ⟨g,0,none⟩=some c0∧W.cell? ⟨g,1,none⟩=some c1∧W.cell? ⟨g,2,none⟩=some c2∧W.cell? ⟨g,3,none⟩=some c3∧W.cell? ⟨g,4,none⟩=some c4∧W.cell? ⟨g,5,none⟩=some c5∧W.cell? ⟨g,6,none⟩=some c6∧W.cell? ⟨g,7,none⟩=some c7∧W.cell? ⟨g,8,none⟩=some c8∧W.cell? ⟨g,9,none⟩=some c9∧W.cell? ⟨g,10,none⟩=some dW :=
 ⟨cell_of (i:=0) h rfl,cell_of (i:=1) h rfl,cell_of (i:=2) h rfl,cell_of (i:=3) h rfl,cell_of (i:=4) h rfl,cell_of (i:=5) h rfl,cell_of (i:=6) h rfl,cell_of (i:=7) h rfl,cell_of (i:=8) h rfl,cell_of (i:=9) h rfl,cell_of (i:=10) h rfl⟩
theorem lO {W:World} {g:Nat} {T:TypeId} {c0 c1 c2 c3 c4 c5 c6 c7 c8 c9 dW:Value} (h:W.heap[g]? = some (.cells #[c0,c1,c2,c3,c4,c5,c6,c7,c8,c9,dW] T (0,0))):W.frozen? ⟨g,0,none⟩=false∧W.frozen? ⟨g,1,none⟩=false∧W.frozen? ⟨g,2,none⟩=false∧W.frozen? ⟨g,3,none⟩=false∧W.frozen? ⟨g,4,none⟩=false∧W.frozen? ⟨g,5,none⟩=false∧W.frozen? ⟨g,6,none⟩=false∧W.frozen? ⟨g,7,none⟩=false∧W.frozen? ⟨g,8,none⟩=false∧W.frozen? ⟨g,9,none⟩=false∧W.frozen? ⟨g,10,none⟩=false :=
 ⟨Hh W g 0 _ _ h,Hh W g 1 _ _ h,Hh W g 2 _ _ h,Hh W g 3 _ _ h,Hh W g 4 _ _ h,Hh W g 5 _ _ h,Hh W g 6 _ _ h,Hh W g 7 _ _ h,Hh W g 8 _ _ h,Hh W g 9 _ _ h,Hh W g 10 _ _ h⟩
theorem aB {W:World} {g:Nat} {T:TypeId} {c0 c1 c2 c3 c4 c5 c6 c7 c8 c9 dW c11 c12:Value} (h:W.heap[g]? = some (.cells #[c0,c1,c2,c3,c4,c5,c6,c7,c8,c9,dW,c11,c12] T (0,0))):W.cell? ⟨g,0,none⟩=some c0∧W.cell? ⟨g,1,none⟩=some c1∧W.cell? ⟨g,2,none⟩=some c2∧W.cell? ⟨g,3,none⟩=some c3∧W.cell? ⟨g,4,none⟩=some c4∧W.cell? ⟨g,5,none⟩=some c5∧W.cell? ⟨g,6,none⟩=some c6∧W.cell? ⟨g,7,none⟩=some c7∧W.cell? ⟨g,8,none⟩=some c8∧W.cell? ⟨g,9,none⟩=some c9∧W.cell? ⟨g,10,none⟩=some dW∧W.cell? ⟨g,11,none⟩=some c11∧W.cell? ⟨g,12,none⟩=some c12 :=
 ⟨cell_of (i:=0) h rfl,cell_of (i:=1) h rfl,cell_of (i:=2) h rfl,cell_of (i:=3) h rfl,cell_of (i:=4) h rfl,cell_of (i:=5) h rfl,cell_of (i:=6) h rfl,cell_of (i:=7) h rfl,cell_of (i:=8) h rfl,cell_of (i:=9) h rfl,cell_of (i:=10) h rfl,cell_of (i:=11) h rfl,cell_of (i:=12) h rfl⟩
theorem cL {W:World} {g:Nat} {T:TypeId} {c0 c1 c2 c3 c4 c5 c6 c7 c8 c9 dW c11 c12:Value} (h:W.heap[g]? = some (.cells #[c0,c1,c2,c3,c4,c5,c6,c7,c8,c9,dW,c11,c12] T (0,0))):W.frozen? ⟨g,0,none⟩=false∧W.frozen? ⟨g,1,none⟩=false∧W.frozen? ⟨g,2,none⟩=false∧W.frozen? ⟨g,3,none⟩=false∧W.frozen? ⟨g,4,none⟩=false∧W.frozen? ⟨g,5,none⟩=false∧W.frozen? ⟨g,6,none⟩=false∧W.frozen? ⟨g,7,none⟩=false∧W.frozen? ⟨g,8,none⟩=false∧W.frozen? ⟨g,9,none⟩=false∧W.frozen? ⟨g,10,none⟩=false∧W.frozen? ⟨g,11,none⟩=false∧W.frozen? ⟨g,12,none⟩=false :=
 ⟨Hh W g 0 _ _ h,Hh W g 1 _ _ h,Hh W g 2 _ _ h,Hh W g 3 _ _ h,Hh W g 4 _ _ h,Hh W g 5 _ _ h,Hh W g 6 _ _ h,Hh W g 7 _ _ h,Hh W g 8 _ _ h,Hh W g 9 _ _ h,Hh W g 10 _ _ h,Hh W g 11 _ _ h,Hh W g 12 _ _ h⟩
theorem aq (w:World) {g o k:Nat} (u:Value) (h:k≠g):(w.setCell ⟨g,o,none⟩ u).heap[k]? = w.heap[k]?:=Im w ⟨g,o,none⟩ u k h
theorem aD (w:World) (o:Obj) {b:Nat} (h:b<w.heap.size):(w.alloc o).heap[b]? = w.heap[b]?:=((He w.heap.size w).alloc (Hd _) o).block b h
def ah (S:Nat→Prop) (W W':World):Prop:=W.heap.size≤W'.heap.size∧∀ b,S b→b<W.heap.size→W'.heap[b]? = W.heap[b]?
theorem ah.cell {S:Nat→Prop} {W W':World} (h:ah S W W') {b o:Nat} {u:Value} (hb:S b) (hc:W.cell? ⟨b,o,none⟩=some u):W'.cell? ⟨b,o,none⟩=some u:=by
 have hlt:b<W.heap.size:=by
  rcases Ic b W.heap.size with h' | h'
  ·exact h'
  ·simp [World.cell?,Iy h'] at hc
 rw [Hz (w:=W) (a:=⟨b,o,none⟩) (h.2 b hb hlt)];exact hc
theorem ah.of {S:Nat→Prop} {W W':World} (h:Below W.heap.size W W'):ah S W W':=⟨h.size,fun b _ hb=>h.block b hb⟩
theorem ah.trans {S:Nat→Prop} {a b c:World} (h:ah S a b) (k:ah S b c):ah S a c:=⟨HJ h.1 k.1,fun i hi hl=>(k.2 i hi (Hi hl h.1)).trans (h.2 i hi hl)⟩
theorem ah.mono {S S':Nat→Prop} {a b:World} (h:ah S a b) (hs:∀ i,S' i→S i):ah S' a b:=⟨h.1,fun i hi=>h.2 i (hs i hi)⟩
theorem ah.refl (S:Nat→Prop) (a:World):ah S a a:=⟨Hd _,fun _ _ _=>rfl⟩
theorem ah.set {S:Nat→Prop} {a b:World} (h:ah S a b) (g o:Nat) (u:Value) (hg:¬ S g):ah S a (b.setCell ⟨g,o,none⟩ u) :=
 ⟨by simpa using h.1,fun i hi hl=>(Im b ⟨g,o,none⟩ u i (by show i≠g; rintro rfl; exact hg hi)).trans (h.2 i hi hl)⟩
theorem ik.gD {S:Nat→Prop} {W W':World} {b off:Nat} {k:Int} {v:Vl} {c:Int} {a:Option Addr} {n cap:Nat} (h:ik W b off k v c a n cap) (hk:ah S W W') (hb:S b):ik W' b off k v c a n cap :=
 ⟨hk.cell hb h.c0,hk.cell hb h.c1,hk.cell hb h.c2,hk.cell hb h.c3,hk.cell hb h.c4,hk.cell hb h.c5⟩
inductive dD (S:Nat→Prop) (W:World):Option Addr→List Ex→Prop
 | nil (a:Option Addr):dD S W a []
 | some (b off:Nat) (l:List Ex) (ai:Nat→Option Addr) (cap:Nat→Nat) (hb:S b) (hlt:b<W.heap.size)
   (hc:∀ (i:Nat) (h:i<l.length),ik W b (off+i*6) l[i].k l[i].v l[i].c (ai i) l[i].ks.length (cap i))
   (hk:∀ (i:Nat) (h:i<l.length),dD S W (ai i) l[i].ks):dD S W (some ⟨b,off,none⟩) l
theorem dD.next {S:Nat→Prop} {W W':World} (hk:ah S W W') {a:Option Addr} {l:List Ex} (h:dD S W a l):dD S W' a l:=by
 induction h with
 | nil a=>exact .nil a
 | some b off l ai cap hb hlt hc _ ih=>exact .some b off l ai cap hb (Hi hlt hk.1) (fun i hi=>(hc i hi).gD hk hb) ih
theorem dD.mono {S S':Nat→Prop} {W:World} (hs:∀ b,S b→b<W.heap.size→S' b) {a:Option Addr} {l:List Ex} (h:dD S W a l):dD S' W a l:=by
 induction h with
 | nil a=>exact .nil a
 | some b off l ai cap hb hlt hc _ ih=>exact .some b off l ai cap (hs b hb hlt) hlt hc ih
theorem dD.ks {S:Nat→Prop} {W:World} {a:Option Addr} {l:List Ex} (h:dD S W a l):aO W.heap.size W a l:=by
 induction h with
 | nil a=>exact .nil a
 | some b off l ai cap hb hlt hc _ ih=>exact .some b off l ai cap hlt hc ih
theorem aO.s {B:Nat} {W:World} (hB:B≤W.heap.size) {a:Option Addr} {l:List Ex} (h:aO B W a l):dD (fun b=>b<B) W a l:=by
 induction h with
 | nil a=>exact .nil a
 | some b off l ai cap hb hc _ ih=>exact .some b off l ai cap hb (Hi hb hB) hc ih
theorem dD.elem {S:Nat→Prop} {W:World} {a:Option Addr} {l:List Ex} (h:dD S W a l) {k:Nat} (hk:k<l.length) :
  ∃ b off ai cap,a=Option.some ⟨b,off,none⟩∧S b∧ik W b (off+k*6) l[k].k l[k].v l[k].c ai l[k].ks.length cap∧dD S W ai l[k].ks:=by
 cases h with
 | nil=>simp at hk
 | some b off l ai cap hb hlt hc hh=>exact ⟨b,off,ai k,cap k,rfl,hb,hc k hk,hh k hk⟩
def SX (S:Nat→Prop) (v:Value) (W:World) (b:Nat):Prop:=S b∧b<W.heap.size∧v.ownBlock≠some b
def bR {α:Type} (En:(Nat→Prop)→World→α→List Value→Prop) (e size base:Nat) (S:Nat→Prop) (W:World) (v:Value) (l:List α):Prop :=
 ∃ xs,W.ownsRow base e size v l.length xs∧∀ (i:Nat) (h:i<l.length),∃ cs,cs.length=size∧(∀ j,j<size→xs[i*size+j]? = cs[j]?)∧En (SX S v W) W l[i] cs
structure qM {α:Type} (En:(Nat→Prop)→World→α→List Value→Prop):Prop where
 next:∀ {S:Nat→Prop} {W W':World} {x:α} {cs:List Value},ah S W W'→En S W x cs→En S W' x cs
 mono:∀ {S S':Nat→Prop} {W:World} {x:α} {cs:List Value},(∀ b,S b→b<W.heap.size→S' b)→En S W x cs→En S' W x cs
theorem bR.nil {α:Type} (En:(Nat→Prop)→World→α→List Value→Prop) (e size base:Nat) (S:Nat→Prop) (W:World):bR En e size base S W (.slice none 0 0) [] :=
 ⟨[],by simpa using Iq _ _ _ _,fun i hi=>by simp at hi⟩
theorem bR.next {α:Type} {En:(Nat→Prop)→World→α→List Value→Prop} (ok:qM En) {e size base:Nat} {S:Nat→Prop} {W W1:World} {v:Value} {l:List α} (h:bR En e size base S W v l) (hb:Below W.heap.size W W1):bR En e size base S W1 v l:=by
 obtain ⟨xs,h1,h2⟩:=h;refine ⟨xs,bg h1 hb,fun i hi=>?_⟩;obtain ⟨cs,c1,c2,c3⟩:=h2 i hi;exact ⟨cs,c1,c2,ok.mono (fun b hb' _=>⟨hb'.1,Hi hb'.2.1 hb.size,hb'.2.2⟩) (ok.next (ah.of hb) c3)⟩
theorem bR.gD {α:Type} {En:(Nat→Prop)→World→α→List Value→Prop} (ok:qM En) {e size base:Nat} {S:Nat→Prop} {W W1:World} {v:Value} {l:List α} (h:bR En e size base S W v l) (hs:∀ b,base≤b→S b) (hk:ah S W W1):bR En e size base S W1 v l:=by
 obtain ⟨xs,h1,h2⟩:=h;refine ⟨xs,?_,fun i hi=>?_⟩
 ·obtain ⟨h0,⟨h1,h2⟩ | ⟨k,cap,cur,h1,h2,h3,h4⟩⟩:=h1
  ·exact ⟨h0,.inl ⟨h1,h2⟩⟩
  ·exact ⟨h0,.inr ⟨k,cap,cur,h1,h2,(hk.2 k (hs k h2) (ae h3)).trans h3,h4⟩⟩
 ·obtain ⟨cs,c1,c2,c3⟩:=h2 i hi;exact ⟨cs,c1,c2,ok.mono (fun b hb' _=>⟨hb'.1,Hi hb'.2.1 hk.1,hb'.2.2⟩) (ok.next (hk.mono fun _ h=>h.1) c3)⟩
theorem bR.len {α:Type} {En:(Nat→Prop)→World→α→List Value→Prop} {e size base:Nat} {S:Nat→Prop} {W:World} {v:Value} {l:List α} (h:bR En e size base S W v l):∃ a cap,v = .slice a l.length cap:=by
 obtain ⟨xs,⟨_,⟨h1,h2⟩ | ⟨k,cap,cur,h1,_⟩⟩,_⟩:=h
 ·exact ⟨none,0,by rw [h1,h2]⟩
 ·exact ⟨_,cap,h1⟩
theorem bR.lt {α:Type} {En:(Nat→Prop)→World→α→List Value→Prop} {e size base:Nat} {S:Nat→Prop} {W:World} {v:Value} {l:List α} (h:bR En e size base S W v l):∀ g,v.ownBlock=some g→base≤g∧g<W.heap.size:=by
 obtain ⟨xs,h1,_⟩:=h;exact h1.lt
theorem bR.push {α:Type} {En:(Nat→Prop)→World→α→List Value→Prop} (ok:qM En) {e size base:Nat} {S:Nat→Prop} {W W1:World} {v v':Value} {l:List α} {xs cs:List Value} {y:α}
  (h1:W.ownsRow base e size v l.length xs) (h2:∀ (i:Nat) (h:i<l.length),∃ cs,cs.length=size∧(∀ j,j<size→xs[i*size+j]? = cs[j]?)∧En (SX S v W) W l[i] cs)
  (hc:cs.length=size) (hy:En (SX S v W) W y cs) (ho:W1.ownsRow base e size v' (l.length+1) (xs ++ cs)) (hg:W.grownBy W1 v.ownBlock) (hd:v'.ownBlock=v.ownBlock∨v'.ownBlock=some W.heap.size):bR En e size base S W1 v' (l ++ [y]):=by
 have hk:ah (SX S v W) W W1:=⟨hg.size,fun b hb hl=>hg.block b hl (fun e=>hb.2.2 e.symm)⟩
 have mv:∀ {x:α} {cs:List Value},En (SX S v W) W x cs→En (SX S v' W1) W1 x cs:=fun h =>
  ok.mono (fun b hb _=>⟨hb.1,Hi hb.2.1 hg.size,fun e=>by
   rcases hd with hd | hd
   ·exact hb.2.2 (hd ▸ e)
   ·rw [hd] at e;have e:=It e;have:=hb.2.1;omega⟩) (ok.next hk h)
 have hx:xs.length=l.length*size:=h1.1;refine ⟨xs ++ cs,by rw [Ii]; exact ho,fun i hi=>?_⟩;by_cases hi':i<l.length
 ·obtain ⟨c,c1,c2,c3⟩:=h2 i hi';refine ⟨c,c1,fun j hj=>?_,by rw [H7 hi']; exact mv c3⟩;rw [Ia (by rw [hx]; have:(i+1)*size≤l.length*size:=Iw _ hi'; rw [Nat.add_mul,Nat.one_mul] at this; omega)];exact c2 j hj
 ·have:i=l.length:=by simp at hi; omega
  subst this;refine ⟨cs,hc,fun j hj=>?_,by simpa using mv hy⟩;rw [H9 (by omega),hx]
  congr 1
  omega
theorem bR.fin {α:Type} {En:(Nat→Prop)→World→α→List Value→Prop} (ok:qM En) {e size base:Nat} {S:Nat→Prop} {W:World} {v:Value} {l:List α} (h:bR En e size base S W v l) :
  (l = []∧v = .slice none 0 0)∨∃ g cap,v = .slice (some ⟨g,0,none⟩) l.length cap∧base≤g∧g<W.heap.size∧∀ (i:Nat) (h:i<l.length),∃ cs,cs.length=size∧(∀ j u,cs[j]? = some u→W.cell? ⟨g,i*size+j,none⟩=some u)∧En S W l[i] cs:=by
 obtain ⟨xs,h1,h2⟩:=h;have cells:=fun g hg i u hu=>World.ownsRow.cells h1 (g:=g) hg i u hu
 have hlt:=h1.lt;obtain ⟨hx,⟨e1,e2⟩ | ⟨k,cap,cur,e1,h4⟩⟩:=h1
 ·exact .inl ⟨Hs e2,e1⟩
 ·subst e1;have:=hlt k rfl;refine .inr ⟨k,cap,rfl,this.1,this.2,fun i hi=>?_⟩;obtain ⟨cs,c1,c2,c3⟩:=h2 i hi;refine ⟨cs,c1,fun j u hj=>?_,ok.mono (fun b hb _=>hb.1) c3⟩;have hj':j<size:=by
   rcases Ic j cs.length with h | h
   ·omega
   ·rw [Is h] at hj; cases hj
  have:=cells k rfl (i*size+j) u ((c2 j hj').trans hj)
  rwa [dK,Hu] at this
def lK (x:Ex) (a:Option Addr) (c:Nat):List Value:=[.int .i64 x.k,.int .i64 x.v.1,.int .i64 x.v.2.1,.string x.v.2.2,.int .i64 x.c,.slice a x.ks.length c]
def Fu (S:Nat→Prop) (W:World) (x:Ex) (cs:List Value):Prop:=∃ a c,cs=lK x a c∧dD S W a x.ks
theorem Et:qM Fu:=⟨fun hk ⟨a,c,e,h⟩=>⟨a,c,e,h.next hk⟩,fun hs ⟨a,c,e,h⟩=>⟨a,c,e,h.mono hs⟩⟩
theorem F2 {W:World} {g off:Nat} {x:Ex} {a:Option Addr} {c:Nat} (h:∀ j u,(lK x a c)[j]? = some u→W.cell? ⟨g,off+j,none⟩=some u):ik W g off x.k x.v x.c a x.ks.length c :=
 ⟨h 0 _ rfl,h 1 _ rfl,h 2 _ rfl,h 3 _ rfl,h 4 _ rfl,h 5 _ rfl⟩
theorem bR.GV {e base:Nat} {S:Nat→Prop} {W:World} {v:Value} {l:List Ex} (h:bR Fu e 6 base S W v l) (hs:∀ b,base≤b→S b):∃ a cap,v = .slice a l.length cap∧dD S W a l:=by
 rcases h.fin Et with ⟨rfl,rfl⟩ | ⟨g,cap,rfl,h1,h2,h3⟩
 ·exact ⟨none,0,rfl,.nil _⟩
 ·refine ⟨_,cap,rfl,?_⟩;have:∀ i:Nat,∃ (a:Option Addr) (c:Nat),∀ h:i<l.length,ik W g (0+i*6) l[i].k l[i].v l[i].c a l[i].ks.length c∧dD S W a l[i].ks:=fun i=>by
   by_cases hi:i<l.length
   ·obtain ⟨cs,_,c2,a,c,rfl,hk⟩:=h3 i hi;exact ⟨a,c,fun _=>⟨F2 (by simpa using c2),hk⟩⟩
   ·exact ⟨none,0,fun h=>absurd h hi⟩
  obtain ⟨ai,ha⟩:=Classical.axiomOfChoice this;obtain ⟨ci,hc⟩:=Classical.axiomOfChoice ha;exact .some g 0 l ai ci (hs g h1) h2 (fun i hi=>(hc i hi).1) (fun i hi=>(hc i hi).2)
theorem xP (a:Option Addr) (cap:Nat) (l:List Int) (w:World) (h:bo w.heap.size w a l) (hl:l.length≤1000) :
  Calls Tryz.prog 18 #[.slice a l.length cap] w fun e w'=>∃ a' c,e = .returned (.slice a' l.length c)∧kX 0 w.heap.size w' a' l∧Below w.heap.size w w':=by
 obtain ⟨i0,hi,hj0,hj1,hj2⟩:=info_parts xp;have R:=eN h;cases a with
 | none =>
  have e:l = []:=Hs (R.nil rfl);subst e;have heq:=lH (P:=Tryz.prog) w 42 3 none 0 cap Tryz.underlying42;go_enter Tryz.func18,Tryz.ntmps18;go_wp2
  go_ret;exact ⟨none,0,rfl,⟨by simp,.inl rfl⟩,He _ _⟩
 | some ad =>
  have hal:=aa w (.cells #[] 3);have R1:=R.next hal;have ho:(w.alloc (.cells #[] 3)).ownsRow w.heap.size 3 1 (.slice (some ⟨w.heap.size,0,none⟩) 0 0) 0 []:=Jf w #[] 0 (Hd _) (by decide) rfl;have heq:=lH (P:=Tryz.prog) w 42 3 (some ad) l.length cap Tryz.underlying42;go_enter Tryz.func18,Tryz.ntmps18;go_upto_region 3 with fail
  go_wp2_with (at_builtin; refine cO rfl _ _ 42 rfl w.heap.size 3 i0 _ 1 8 Tryz.underlying42 hi hj0 hj1 hj2 rfl (by decide) _ _ _ rfl ho _ _ _ _ rfl R1 (by unfold maxLen; omega) (by omega) (by simp) ?_)
  intro v' w5 ho5 hg5;have hb5:Below w.heap.size w w5:=hal.grown hg5 (by simp) (fun q hq=>(ho.lt q hq).1);obtain ⟨a5,c5,rfl,it⟩:=j1 (B:=0) (lo:=w.heap.size) ho5 rfl (Hd _);go_wp2
  go_ret;exact ⟨a5,c5,rfl,it,hb5⟩
theorem AW (ts:List (List Int)) (p:Pl) (q:Pw) (ta:Option Addr) (tc:Nat) (w:World) (hT:gP w.heap.size w ta ts) (hp:ki w.heap.size w p q) (hk:cF p) :
  Calls Tryz.prog 9 #[.slice ta ts.length tc,fp p q] w fun e w'=>∃ a c,e = .returned (.tuple #[.slice a (dv ts p).length c,.int .i64 (bu ts p)])∧kX 0 w.heap.size w' a (dv ts p)∧Below w.heap.size w w':=by
 have hA:=aa w (.cells (jt p q p.ks.length) 31);have EL:=gQ.new w p q 31;have con:=qc ts p q ta tc (w.alloc (.cells (jt p q p.ks.length) 31)) ((hT.next hA (Hd _)).up hA.size) ((hp.next hA (Hd _)).up hA.size) hk;have h8:Hid (bu ts p=0→(aj ts p).length≤8):=fun h=>qm (eH h).1 p 0 1 (eH h).2
 generalize hez:dv ts p=ez;have HZ:Hid (dv ts p=ez):=hez;generalize hle:bu ts p=le at con;have HLe:Hid (bu ts p=le):=hle;clear hk hez hle;obtain ⟨y0,y1,⟨y2,y3,y4,y5,y6,y7⟩,y8,y9,y10⟩:=EL;simp only [Hu] at y1 y2 y3 y4 y5 y6 y7 y8 y9 y10;unfold fp at con ⊢;go_enter Tryz.func9,Tryz.ntmps9;go_upto_region 1 with fail
 generalize w.alloc (.cells (jt p q p.ks.length) 31)=wA at *;go_wp2_with fail
 refine con.mono ?_;rintro e w1 ⟨⟨v1,rfl,hv0,hv1⟩,hb1⟩;clear con y0 y1 y2 y3 y4 y5 y6 y7 y8 y9 y10;have hA1:=chain hA hb1;by_cases he:le=0;rotate_left
 ·have e0:=hv1 he;have e2:ez = []:=by rw [← HZ.out]; unfold dv; rw [HLe.out,if_neg he]
  subst e0 e2;have hal:=aa w1 (.cells aH 56);have hA2:=chain hA1 hal;have heb:(le != 0)=true:=by simpa using he
  clear hv0 hv1 HZ HLe h8;unfold jx;go_upto_region 2 with fail
  generalize w1.alloc (.cells aH 56)=w2 at *;go_wp2_with fail
  exact Hf (v:=.tuple #[.slice none 0 0,.int .i64 le]) (by simp [results,Tryz.results9,go_sem]) rfl ⟨none,0,rfl,⟨by simp,.inl rfl⟩,hA2⟩
 obtain ⟨ca,cc,na,nc,e0,ND⟩:=hv0 he;have e2:Hid (aj ts p=ez):=by show _=_; rw [← HZ.out]; unfold dv; rw [HLe.out,if_pos he]
 have g8:(aj ts p).length≤8:=h8.out (by rw [HLe.out,he]);subst e0;clear hv0 hv1 HLe h8 HZ;subst he;have IC:=ND.af.at;have hal:=aa w1 (.cells (aJ p q p.ks.length ca ((aj ts p).length) cc na p.ks.length nc) 56);have hA2:=chain hA1 hal;have z11:=cell_of (i:=11) (an w1 (aJ p q p.ks.length ca ((aj ts p).length) cc na p.ks.length nc) 56) rfl;have IC2:=(IC.next hal (Hd _)).up hal.size;clear ND IC;unfold rK;go_upto_region 2 with fail
 generalize w1.alloc (.cells (aJ p q p.ks.length ca ((aj ts p).length) cc na p.ks.length nc) 56)=w2 at *;rw [e2.out] at z11 IC2 g8;have con:=xP ca cc ez w2 IC2 (by omega);go_wp2_with fail
 refine con.mono ?_;rintro e w3 ⟨a3,c3,rfl,I3,hb3⟩;clear con z11;go_wp2_with fail
 exact Hf (v:=.tuple #[.slice a3 ez.length c3,.int .i64 0]) (by simp [results,Tryz.results9,go_sem]) rfl ⟨a3,c3,rfl,I3.wide hA2.size,chain hA2 hb3⟩
end Go.Proofs.YtjebpkhkjkjphaaGreat
namespace Go.Proofs.YtjebpkhkjkjphaaGreat
open Go.RowKit
set_option maxRecDepth 100000
set_option maxHeartbeats 16000000
section
variable {P:Program} {ops:Array Oper} {Q:Exit→Act→World→Prop} {md:Region.Mode} {C:World→Prop} {Φ:Nat→World→Value→Prop} {I:Act→World→Prop}
structure Same (ops:Array Oper) (a0 a:Act):Prop where
 size:a.tmps.size=a0.tmps.size
 defers:a.defers=a0.defers
 tmps:∀ t:Tmp,(ops.all fun o=>o.dst != some t)=true→a.tmps.getD t undef=a0.tmps.getD t undef
def mo (md:Region.Mode) (ops:Array Oper) (listed:Array Bool):Prop :=
 ∀ i o,ops[i]? = some o→listed.getD i false=true→∀ e ∈ o.after,Region.binds md e=true→listed.getD e.on false=true
theorem xl {listed:Array Bool} {i:Nat} (h:i<listed.size) (d:Bool):listed.getD i d=listed[i]:=by simp [Array.getD,h]
end
section
variable {P:Program} {ops:Array Oper} {Q:Exit→Act→World→Prop} {md:Region.Mode} {C:World→Prop} {s:Nat}
def before (md:Region.Mode) (ops:Array Oper):Nat→Nat→Nat→Bool
 | 0,s,i=>s == i
 | n+1,s,i=>s == i || (match ops[s]? with
  | none=>false
  | some o=>o.after.any fun e=>Region.binds md e && before md ops n e.on i)
theorem mP {listed:Array Bool} (hcl:mo md ops listed):∀ (n s i:Nat),before md ops n s i=true→listed.getD s false=true→listed.getD i false=true
 | 0,s,i,h,hs=>by
  have:s=i:=by simpa [before] using h
  exact this ▸ hs
 | n+1,s,i,h,hs=>by
  rw [before,Bool.or_eq_true] at h
  rcases h with h | h
  ·have:s=i:=by simpa using h
   exact this ▸ hs
  ·cases ho:ops[s]? with
   | none=>rw [ho] at h; cases h
   | some o =>
    rw [ho] at h
    obtain ⟨k,hk,h⟩:=Array.any_eq_true.1 h
    rw [IB] at h
    exact mP hcl n _ i h.2 (hcl s o ho hs _ (Array.getElem_mem hk) h.1)
def CZ (C:World→Prop) (s:Nat) (listed:Array Bool) (w:World):Prop:=listed.getD s false=false→C w
def zR (P:Program) (md:Region.Mode) (ops:Array Oper) (Q:Exit→Act→World→Prop) (C:World→Prop) (s:Nat):Nat→Array Bool→Act→World→Prop
 | 0,listed,a,w=>Region.ready md ops listed = []∧∀ w',Below w.heap.size w w'→Q .normal a w'
 | fuel+1,listed,a,w=>∀ w',Below w.heap.size w w'→(Region.ready md ops listed = []→Q .normal a w') ∧
  ∀ i ∈ Region.ready md ops listed,wpOp P ops Q i (fun a' w''=>CZ C s (listed.setIfInBounds i true) w''∧zR P md ops Q C s fuel (listed.setIfInBounds i true) a' w'') a w'
theorem zR.eI:∀ (fuel:Nat) {listed:Array Bool} {a:Act} {w w1:World},zR P md ops Q C s fuel listed a w→Below w.heap.size w w1→zR P md ops Q C s fuel listed a w1
 | 0,_,_,_,_,h,hb=>⟨h.1,fun w' hw'=>h.2 w' (chain hb hw')⟩
 | _+1,_,_,_,_,h,hb=>fun w' hw'=>h w' (chain hb hw')
theorem kI:∀ (fuel:Nat) (listed:Array Bool) (a:Act) (w:World),zR P md ops Q C s fuel listed a w→wpAny P md ops Q fuel listed a w
 | 0,_,_,_,h=>⟨h.1,h.2 _ (He _ _)⟩
 | fuel+1,_,_,w,h=>⟨(h w (He _ _)).1,fun i hi=>wpOp_mono (fun a' w' h'=>kI fuel _ a' w' h'.2) ((h w (He _ _)).2 i hi)⟩
theorem wh {listed:Array Bool} {j:Nat} (hcl:mo md ops listed) (hj:j ∈ Region.ready md ops listed):mo md ops (listed.setIfInBounds j true):=by
 obtain ⟨h1,oj,hoj,hdep⟩:=mem_ready.1 hj;have up:∀ k,listed.getD k false=true→(listed.setIfInBounds j true).getD k false=true:=fun k hk=>by
  by_cases e:j=k
  ·subst e;have hlt:j<listed.size:=by
    rcases Ic j listed.size with h | h
    ·exact h
    ·simp [Array.getD,Nat.not_lt.2 h] at hk
   rw [xl (by simpa using hlt)];simp
  ·rw [getD_set_ne false e]; exact hk
 intro k ok hk hl e he hb;by_cases ej:j=k
 ·subst ej;rw [hoj] at hk;cases hk;exact up _ (hdep e he hb)
 ·rw [getD_set_ne false ej] at hl;exact up _ (hcl k ok hk hl e he hb)
theorem vY {listed:Array Bool} {i:Nat} (h:i ∈ Region.ready md ops listed):listed.getD i false=false:=by
 have:=(mem_ready.1 h).1;rcases Ic i listed.size with h' | h'
 ·rw [xl h'] at this ⊢; exact this
 ·simp [Array.getD,Nat.not_lt.2 h']
theorem zZ (hC:∀ w w',C w→Below w.heap.size w w'→C w') {i:Nat} {oi:Oper} {v:Value} {N:Nat} (hi:ops[i]? = some oi) (hsel:∀ (j:Nat) (o:Oper) cs b,ops[j]? = some o→o.op ≠ .select cs b)
  (hQ:∀ c a w,Q (.panic c) (a.put oi.dst v) w→Q (.panic c) a w) (hbf:before md ops N s i=true) (his:i≠s) :
  ∀ (fuel:Nat) (listed:Array Bool) (a:Act) (w:World),mo md ops listed →
   (∀ j oj,ops[j]? = some oj→j≠i→listed.getD j true=false→(∀ e ∈ oj.after,Region.binds md e=true→e.on≠i)→oi.apart ops oj=true) →
   i ∈ Region.ready md ops listed→fW P ops C oi v a→CZ C s listed w →
   zR P md ops Q C s fuel (listed.setIfInBounds i true) (a.put oi.dst v) w→zR P md ops Q C s (fuel+1) listed a w:=by
 have open_:∀ {listed:Array Bool},mo md ops listed→i ∈ Region.ready md ops listed→listed.getD s false=false:=fun hcl hr=>by
  cases h:Array.getD _ s false with
  | false=>rfl
  | true =>
   have:=mP hcl N s i hbf h;rw [vY hr] at this;cases this
 intro fuel
 induction fuel with
 | zero =>
  intro listed a w hcl _ hr hy hB H w' hw';have hB:=hB (open_ hcl hr);refine ⟨fun h=>(by rw [h] at hr; cases hr),fun j hj=>?_⟩;by_cases hji:j=i
  ·subst hji;exact hy.wpOp hi (hC _ _ hB hw') fun w'' hw''=>⟨fun _=>hC _ _ (hC _ _ hB hw') hw'',H.eI 0 (chain hw' hw'')⟩
  ·have:=ready_mono hj hji;rw [H.1] at this;cases this
 | succ fuel ih =>
  intro listed a w hcl hfree hr hy hB H w' hw';have hB:=hB (open_ hcl hr);refine ⟨fun h=>(by rw [h] at hr; cases hr),fun j hj=>?_⟩;by_cases hji:j=i
  ·subst hji;exact hy.wpOp hi (hC _ _ hB hw') fun w'' hw''=>⟨fun _=>hC _ _ (hC _ _ hB hw') hw'',H.eI (fuel+1) (chain hw' hw'')⟩
  ·have h1:=(H w' hw').2 j (ready_mono hj hji);obtain ⟨hjun,oj,hoj,hall⟩:=mem_ready.1 hj;have hnot:∀ e ∈ oj.after,Region.binds md e=true→e.on≠i:=fun e he hb heq=>by
    have h1:=hall e he hb;have h0:=(mem_ready.1 hr).1;rw [heq] at h1;rcases Ic i listed.size with h' | h'
    ·simp [h'] at h0 h1; rw [h0] at h1; cases h1
    ·simp [Iy h'] at h1
   have hap:=hfree j oj hoj hji hjun hnot;obtain ⟨_,_,h3⟩:=Oper.apart_spec hap;have h2:=pD (Φ:=fW P ops C oi v) hoj hap (fun cs b=>hsel j oj cs b hoj) hQ
    (fun a hy u=>hy.of_same (execOp_put oi (fun cs b=>hsel i oi cs b hi) a oj.dst u h3) (wanted_put oi a oj.dst u h3)) (fun a d hy=>hy.of_same rfl rfl) hy h1
   have hfree':∀ k ok,ops[k]? = some ok→k≠i→(listed.setIfInBounds j true).getD k true=false →
     (∀ e ∈ ok.after,Region.binds md e=true→e.on≠i)→oi.apart ops ok=true:=fun k ok hk hki hun hno=>by
    refine hfree k ok hk hki ?_ hno;by_cases hjk:j=k
    ·subst hjk; exact hjun
    ·rw [getD_set_ne true hjk] at hun; exact hun
   refine wpOp_mono (fun a' w'' h4=>?_) h2;have hc:CZ C s (listed.setIfInBounds j true) w'':=fun h=>h4.2.1 (by
    rw [Array.setIfInBounds_comm _ _ (Ne.symm hji),getD_set_ne false his];exact h)
   refine ⟨hc,ih (listed.setIfInBounds j true) a' w'' (wh hcl hj) hfree' (ready_mono hr (Ne.symm hji)) h4.1 hc ?_⟩;rw [Array.setIfInBounds_comm _ _ hji];exact h4.2.2
def wX (md:Region.Mode) (ops:Array Oper) (listed:Array Bool):Bool :=
 (List.range ops.size).all fun i=>match ops[i]? with
  | none=>true
  | some o=>!listed.getD i false || o.after.all fun e=>!Region.binds md e || listed.getD e.on false
theorem qS {listed:Array Bool} (h:wX md ops listed=true):mo md ops listed:=fun i o hi hl e he hb=>by
 have h1:=List.all_eq_true.1 h i (List.mem_range.2 (Array.getElem?_eq_some_iff.1 hi).1)
 simp only [hi,hl,Bool.not_true,Bool.false_or] at h1
 have:=Array.all_eq_true_iff_forall_mem.1 h1 e he
 simpa [hb] using this
theorem bD (hC:∀ w w',C w→Below w.heap.size w w'→C w') {i:Nat} {oi:Oper} {v:Value} {fuel:Nat} {listed:Array Bool} {a:Act} {w:World} (d:Option Tmp) (hi:ops[i]? = some oi) (hd:oi.dst=d)
  (hs:Region.noSelect ops=true) (hf:Region.free md ops listed i=true) (hr:(Region.ready md ops listed).contains i=true) (hcl:wX md ops listed=true) (hbf:before md ops 12 s i=true) (his:(i != s)=true)
  (hQ:∀ c a w,Q (.panic c) (a.put oi.dst v) w→Q (.panic c) a w) (hy:fW P ops C oi v a) (hB:CZ C s listed w)
  (h:zR P md ops Q C s fuel (listed.setIfInBounds i true) (a.put d v) w):zR P md ops Q C s (fuel+1) listed a w:=by
 subst hd;exact zZ hC hi (Region.noSelect_spec hs) hQ hbf (by simpa using his) fuel listed a w (qS hcl) (Region.free_spec hi hf) (by simpa using hr) hy hB h
theorem cT {rs:List Nat} {fuel:Nat} {listed:Array Bool} {a:Act} {w:World} (hr:Region.ready md ops listed=rs) (hne:rs ≠ [])
  (h:∀ w',Below w.heap.size w w'→∀ i ∈ rs,wpOp P ops Q i (fun a' w''=>CZ C s (listed.setIfInBounds i true) w''∧zR P md ops Q C s fuel (listed.setIfInBounds i true) a' w'') a w'):zR P md ops Q C s (fuel+1) listed a w :=
 fun w' hw'=>⟨fun h0=>absurd (hr ▸ h0) hne,hr ▸ h w' hw'⟩
theorem lJ {listed:Array Bool} {a:Act} {w:World} (hr:Region.ready md ops listed = []) (h:∀ w',Below w.heap.size w w'→Q .normal a w'):zR P md ops Q C s 0 listed a w:=⟨hr,h⟩
theorem ia {id:Nat} {a:Act} {w:World} (C:World→Prop) (s:Nat) (hm:P.follows .mixedOrders=true)
  (h:zR P .any ops Q C s ops.size (Array.replicate ops.size false) a w.drew):(Code.region id ops true).wp P Q a w :=
 wp_region_any hm (kI _ _ _ _ h)
end
end Go.Proofs.YtjebpkhkjkjphaaGreat
namespace Go.Proofs.YtjebpkhkjkjphaaGreat
open Go.RowKit Go.Lib Go.Shelf
set_option maxRecDepth 100000
set_option maxHeartbeats 16000000
mutual
def il (f:Int→Int):Ex→Ex
 | .mk k v c ks=>.mk k (if k=1 then bE v else fV) (if k=2 then f c else 0) (bB f ks)
def bB (f:Int→Int):List Ex→List Ex
 | []=>[]
 | x :: r=>il f x :: bB f r
end
theorem cw (f:Int→Int):∀ l,bB f l=l.map (il f)
 | []=>by simp [bB]
 | x :: r=>by rw [bB,cw f r,I0]
mutual
def dz (P:Int→Prop):Ex→Prop
 | .mk k _ c ks=>ks.length≤3∧(k=2→P c∧ks = [])∧tz P ks
def tz (P:Int→Prop):List Ex→Prop
 | []=>True
 | x :: r=>dz P x∧tz P r
end
theorem fM {P:Int→Prop}:∀ {l:List Ex},tz P l↔∀ x ∈ l,dz P x
 | []=>by simp [tz]
 | x :: r=>by rw [tz,fM (l:=r)]; simp
def EZ (u:Value) (f:Int→Int) (P:Int→Prop) (w:World):Prop :=
 ∃ g cb,u = .func (.func g) #[] cb∧(∀ args w,(callFunc g args).run Tryz.prog w = .ok (.enter g args) w) ∧
  ∀ (c:Int) (W:World),P c→Below w.heap.size w W→Calls Tryz.prog g (#[.int .i64 c] ++ cb) W fun e w'=>e = .returned (.int .i64 (f c))∧Below W.heap.size W w'
theorem EZ.next {u:Value} {f:Int→Int} {P:Int→Prop} {w w1:World} (h:EZ u f P w) (hb:Below w.heap.size w w1):EZ u f P w1:=by
 obtain ⟨g,cb,e,eg,hd⟩:=h;exact ⟨g,cb,e,eg,fun c W hc hW=>hd c W hc (chain hb hW)⟩
def tG (f:Int→Int) (P:Int→Prop) (x:Ex):Prop:=∀ (u:Value) (a:Option Addr) (cap:Nat) (w:World),EZ u f P w→dz P x→aO w.heap.size w a x.ks →
 Calls Tryz.prog 23 #[iY x.k x.v x.c a x.ks.length cap,u] w fun e w'=>∃ a' c',e = .returned (iY (il f x).k (il f x).v (il f x).c a' (il f x).ks.length c')∧dD (fun b=>w.heap.size≤b) w' a' (il f x).ks∧Below w.heap.size w w'
theorem pO (f:Int→Int) {ks:List Ex} {j:Nat} (h:j<ks.length):bB f (ks.take (j+1))=bB f (ks.take j) ++ [il f ks[j]]:=by
 rw [cw,cw,Ht h,IM];rfl
theorem dr (f:Int→Int) (l:List Ex):(bB f l).length=l.length:=by rw [cw,Ik]
theorem Ey:(Tryz.prog.info? 27).map (fun i=>(i.zero,i.size,i.bytes))=some (some (.agg rL),6,72):=by kernel_rfl
theorem rT (f : Int → Int) (P : Int → Prop) (k : Int) (v : Vl) (c : Int) (ks : List Ex) (ih : ∀ x ∈ ks, tG f P x) : tG f P (.mk k v c ks) := by
  intro u a cap w hu hx hk
  obtain ⟨i0, hi, hj0, hj1, hj2⟩ := info_parts Ey
  rw [dz] at hx
  obtain ⟨hx3, hxc, hxs⟩ := hx
  have hxs := fM.1 hxs
  have HU : Hid (EZ u f P w) := hu
  have IH : Hid (∀ x ∈ ks, tG f P x ∧ dz P x) := fun x hx => ⟨ih x hx, hxs x hx⟩
  simp only [Ex.k, Ex.v, Ex.c, Ex.ks] at hk ⊢
  have HK : Hid (aO w.heap.size w a ks) := hk
  clear hu ih hxs hk
  rw [il]
  dsimp only
  generalize hv1 : (if k = 1 then bE v else fV) = v1
  generalize hc1 : (if k = 2 then f c else 0) = c1
  have HV : Hid ((if k = 1 then bE v else fV) = v1) := hv1
  have HC : Hid ((if k = 2 then f c else 0) = c1) := hc1
  have HP : Hid (k = 2 → P c) := fun h => (hxc h).1
  clear hv1 hc1 hxc
  have hcl := dr f ks
  have HCL : Hid ((bB f ks).length = ks.length) := hcl
  clear hcl
  have A0 : Below w.heap.size w (w.alloc (.cells #[.int .i64 k, .int .i64 v.1, .int .i64 v.2.1, .string v.2.2, .int .i64 c, .slice a ks.length cap] 27)) := (He _ _).alloc (Hd _) _
  have A1 := A0.alloc (Jh (ae (an w #[.int .i64 k, .int .i64 v.1, .int .i64 v.2.1, .string v.2.2, .int .i64 c, .slice a ks.length cap] 27))) (.cells rL 27)
  have A2 : Below w.heap.size w (((w.alloc (.cells #[.int .i64 k, .int .i64 v.1, .int .i64 v.2.1, .string v.2.2, .int .i64 c, .slice a ks.length cap] 27)).alloc (.cells rL 27)).alloc (.cells #[.int .i64 k, .int .i64 0, .int .i64 0, .string ⟨#[]⟩, .int .i64 0, .slice none 0 0] 27)) := A1.alloc (by simp; omega) _
  have QX0 := an w #[.int .i64 k, .int .i64 v.1, .int .i64 v.2.1, .string v.2.2, .int .i64 c, .slice a ks.length cap] 27
  have QZ0 := an (w.alloc (.cells #[.int .i64 k, .int .i64 v.1, .int .i64 v.2.1, .string v.2.2, .int .i64 c, .slice a ks.length cap] 27)) rL 27
  have QO0 := an ((w.alloc (.cells #[.int .i64 k, .int .i64 v.1, .int .i64 v.2.1, .string v.2.2, .int .i64 c, .slice a ks.length cap] 27)).alloc (.cells rL 27)) #[.int .i64 k, .int .i64 0, .int .i64 0, .string ⟨#[]⟩, .int .i64 0, .slice none 0 0] 27
  have Z2 : (((w.alloc (.cells #[.int .i64 k, .int .i64 v.1, .int .i64 v.2.1, .string v.2.2, .int .i64 c, .slice a ks.length cap] 27)).alloc (.cells rL 27)).alloc (.cells #[.int .i64 k, .int .i64 0, .int .i64 0, .string ⟨#[]⟩, .int .i64 0, .slice none 0 0] 27)).heap.size = w.heap.size + 3 := by simp
  have QX2 : (((w.alloc (.cells #[.int .i64 k, .int .i64 v.1, .int .i64 v.2.1, .string v.2.2, .int .i64 c, .slice a ks.length cap] 27)).alloc (.cells rL 27)).alloc (.cells #[.int .i64 k, .int .i64 0, .int .i64 0, .string ⟨#[]⟩, .int .i64 0, .slice none 0 0] 27)).heap[w.heap.size]? = some (.cells #[.int .i64 k, .int .i64 v.1, .int .i64 v.2.1, .string v.2.2, .int .i64 c, .slice a ks.length cap] 27 (0, 0)) := by
    rw [((He _ _).alloc (Hd _) _ : Below ((w.alloc (.cells #[.int .i64 k, .int .i64 v.1, .int .i64 v.2.1, .string v.2.2, .int .i64 c, .slice a ks.length cap] 27)).alloc (.cells rL 27)).heap.size _ _).block _ (by simp; omega), ((He _ _).alloc (Hd _) _ : Below (w.alloc (.cells #[.int .i64 k, .int .i64 v.1, .int .i64 v.2.1, .string v.2.2, .int .i64 c, .slice a ks.length cap] 27)).heap.size _ _).block _ (by simp)]
    exact QX0
  have QZ2 : (((w.alloc (.cells #[.int .i64 k, .int .i64 v.1, .int .i64 v.2.1, .string v.2.2, .int .i64 c, .slice a ks.length cap] 27)).alloc (.cells rL 27)).alloc (.cells #[.int .i64 k, .int .i64 0, .int .i64 0, .string ⟨#[]⟩, .int .i64 0, .slice none 0 0] 27)).heap[w.heap.size + 1]? = some (.cells rL 27 (0, 0)) := by
    rw [((He _ _).alloc (Hd _) _ : Below ((w.alloc (.cells #[.int .i64 k, .int .i64 v.1, .int .i64 v.2.1, .string v.2.2, .int .i64 c, .slice a ks.length cap] 27)).alloc (.cells rL 27)).heap.size _ _).block _ (by simp)]
    simpa using QZ0
  have QO2 : (((w.alloc (.cells #[.int .i64 k, .int .i64 v.1, .int .i64 v.2.1, .string v.2.2, .int .i64 c, .slice a ks.length cap] 27)).alloc (.cells rL 27)).alloc (.cells #[.int .i64 k, .int .i64 0, .int .i64 0, .string ⟨#[]⟩, .int .i64 0, .slice none 0 0] 27)).heap[w.heap.size + 2]? = some (.cells #[.int .i64 k, .int .i64 0, .int .i64 0, .string ⟨#[]⟩, .int .i64 0, .slice none 0 0] 27 (0, 0)) := by simpa using QO0
  clear QX0 QZ0 QO0 A0 A1
  go_enter Tryz.func23, Tryz.ntmps23
  go_upto_region 2 with fail
  generalize ((w.alloc (.cells #[.int .i64 k, .int .i64 v.1, .int .i64 v.2.1, .string v.2.2, .int .i64 c, .slice a ks.length cap] 27)).alloc (.cells rL 27)).alloc (.cells #[.int .i64 k, .int .i64 0, .int .i64 0, .string ⟨#[]⟩, .int .i64 0, .slice none 0 0] 27) = w2 at *
  obtain ⟨x0, x1, x2, x3, x4, x5⟩ := cU QX2
  obtain ⟨xf0, xf1, xf2, xf3, xf4, xf5⟩ := qw QX2
  obtain ⟨o0, o1, o2, o3, o4, o5⟩ := cU QO2
  obtain ⟨of0, of1, of2, of3, of4, of5⟩ := qw QO2
  have hk3 : k = 1 ∨ k = 2 ∨ (k ≠ 1 ∧ k ≠ 2) := by omega
  rcases hk3 with h1 | h2 | h3
  all_goals first
    | (have b1 : (k == 1) = true := by simpa using h1
       have e1 : v1 = bE v := by rw [← HV.out, if_pos h1]
       have e2 : c1 = 0 := by rw [← HC.out, if_neg (by omega)]
       clear HV HC
       have con := kR v.1 v.2.1 v.2.2 w2
       go_wp2_with fail
       refine con.mono ?_
       rintro e w3 ⟨rfl, hb3⟩
       clear con x0 xf0 o0 of0 x1 xf1 o1 of1 x2 xf2 o2 of2 x3 xf3 o3 of3 x4 xf4 o4 of4 x5 xf5 o5 of5
       have A3 := chain A2 hb3
       have z3 := hb3.size
       have QX3 := (hb3.block _ (by omega)).trans QX2
       have QZ3 := (hb3.block _ (by omega)).trans QZ2
       have QO3 := (hb3.block _ (by omega)).trans QO2
       have p1 : w3.cell? ⟨w.heap.size + 2, 1, none⟩ = some (.int .i64 0) := cell_of (i := 1) QO3 rfl
       have pf1 : w3.frozen? ⟨w.heap.size + 2, 1, none⟩ = false := Hh w3 (w.heap.size + 2) 1 _ _ QO3
       have p2 : w3.cell? ⟨w.heap.size + 2, 2, none⟩ = some (.int .i64 0) := cell_of (i := 2) QO3 rfl
       have pf2 : w3.frozen? ⟨w.heap.size + 2, 2, none⟩ = false := Hh w3 (w.heap.size + 2) 2 _ _ QO3
       have p3 : w3.cell? ⟨w.heap.size + 2, 3, none⟩ = some (.string ⟨#[]⟩) := cell_of (i := 3) QO3 rfl
       have pf3 : w3.frozen? ⟨w.heap.size + 2, 3, none⟩ = false := Hh w3 (w.heap.size + 2) 3 _ _ QO3
       have QO4 := Hn _ _ 3 _ _ (.string (fl v.1 v.2.2)) (Hn _ _ 2 _ _ (.int .i64 (di v.1 v.2.1)) (Hn _ _ 1 _ _ (.int .i64 v.1) QO3))
       have QX4 : (((w3.setCell ⟨w.heap.size + 2, 1, none⟩ (.int .i64 v.1)).setCell ⟨w.heap.size + 2, 2, none⟩ (.int .i64 (di v.1 v.2.1))).setCell ⟨w.heap.size + 2, 3, none⟩ (.string (fl v.1 v.2.2))).heap[w.heap.size]? = some (.cells #[.int .i64 k, .int .i64 v.1, .int .i64 v.2.1, .string v.2.2, .int .i64 c, .slice a ks.length cap] 27 (0, 0)) := by rw [heap_setCell_other _ _ _ _ (by simp), heap_setCell_other _ _ _ _ (by simp), heap_setCell_other _ _ _ _ (by simp)]; exact QX3
       have QZ4 : (((w3.setCell ⟨w.heap.size + 2, 1, none⟩ (.int .i64 v.1)).setCell ⟨w.heap.size + 2, 2, none⟩ (.int .i64 (di v.1 v.2.1))).setCell ⟨w.heap.size + 2, 3, none⟩ (.string (fl v.1 v.2.2))).heap[w.heap.size + 1]? = some (.cells rL 27 (0, 0)) := by rw [heap_setCell_other _ _ _ _ (by simp), heap_setCell_other _ _ _ _ (by simp), heap_setCell_other _ _ _ _ (by simp)]; exact QZ3
       have A4 : Below w.heap.size w (((w3.setCell ⟨w.heap.size + 2, 1, none⟩ (.int .i64 v.1)).setCell ⟨w.heap.size + 2, 2, none⟩ (.int .i64 (di v.1 v.2.1))).setCell ⟨w.heap.size + 2, 3, none⟩ (.string (fl v.1 v.2.2))) := ((A3.setCell (p := ⟨w.heap.size + 2, 1, none⟩) (Ir _ _) _).setCell (p := ⟨w.heap.size + 2, 2, none⟩) (Ir _ _) _).setCell (p := ⟨w.heap.size + 2, 3, none⟩) (Ir _ _) _
       have Z4 : w.heap.size + 3 ≤ (((w3.setCell ⟨w.heap.size + 2, 1, none⟩ (.int .i64 v.1)).setCell ⟨w.heap.size + 2, 2, none⟩ (.int .i64 (di v.1 v.2.1))).setCell ⟨w.heap.size + 2, 3, none⟩ (.string (fl v.1 v.2.2))).heap.size := by simp only [Ip]; omega
       go_upto_region 7 with fail
       generalize (((w3.setCell ⟨w.heap.size + 2, 1, none⟩ (.int .i64 v.1)).setCell ⟨w.heap.size + 2, 2, none⟩ (.int .i64 (di v.1 v.2.1))).setCell ⟨w.heap.size + 2, 3, none⟩ (.string (fl v.1 v.2.2))) = w4 at *
       have QO4 : w4.heap[w.heap.size + 2]? = some (.cells #[.int .i64 k, .int .i64 v1.1, .int .i64 v1.2.1, .string v1.2.2, .int .i64 c1, .slice none 0 0] 27 (0, 0)) := by rw [e1, e2]; exact QO4
       clear p1 pf1 p2 pf2 p3 pf3 QX3 QZ3 QO3 A3 z3 hb3 e1 e2 b1 h1)
    | (have b1 : (k == 1) = false := by simpa using (show ¬ k = 1 by omega)
       have b2 : (k == 2) = true := by simpa using h2
       have e1 : v1 = fV := by rw [← HV.out, if_neg (by omega)]
       have e2 : f c = c1 := by rw [← HC.out, if_pos h2]
       have HU' := HU.out
       obtain ⟨g, cb, eu, eg, hd⟩ := HU'
       have con := hd c w2 (HP.out h2) A2
       rw [e2] at con
       clear HV HC hd
       rw [eu] at HU ⊢
       have Eu : Hid (u = .func (.func g) #[] cb) := eu
       clear eu
       go_wp2_with fail
       first | (refine con.mono ?_) | (go_at_fn g; refine con.mono ?_)
       rintro e w3 ⟨rfl, hb3⟩
       clear con x0 xf0 o0 of0 x1 xf1 o1 of1 x2 xf2 o2 of2 x3 xf3 o3 of3 x4 xf4 o4 of4 x5 xf5 o5 of5
       have A3 := chain A2 hb3
       have z3 := hb3.size
       have QX3 := (hb3.block _ (by omega)).trans QX2
       have QZ3 := (hb3.block _ (by omega)).trans QZ2
       have QO3 := (hb3.block _ (by omega)).trans QO2
       have p4 : w3.cell? ⟨w.heap.size + 2, 4, none⟩ = some (.int .i64 0) := cell_of (i := 4) QO3 rfl
       have pf4 : w3.frozen? ⟨w.heap.size + 2, 4, none⟩ = false := Hh w3 (w.heap.size + 2) 4 _ _ QO3
       have QO4 := Hn _ _ 4 _ _ (.int .i64 c1) QO3
       have QX4 : (w3.setCell ⟨w.heap.size + 2, 4, none⟩ (.int .i64 c1)).heap[w.heap.size]? = some (.cells #[.int .i64 k, .int .i64 v.1, .int .i64 v.2.1, .string v.2.2, .int .i64 c, .slice a ks.length cap] 27 (0, 0)) := by rw [heap_setCell_other _ _ _ _ (by simp)]; exact QX3
       have QZ4 : (w3.setCell ⟨w.heap.size + 2, 4, none⟩ (.int .i64 c1)).heap[w.heap.size + 1]? = some (.cells rL 27 (0, 0)) := by rw [heap_setCell_other _ _ _ _ (by simp)]; exact QZ3
       have A4 : Below w.heap.size w (w3.setCell ⟨w.heap.size + 2, 4, none⟩ (.int .i64 c1)) := A3.setCell (p := ⟨w.heap.size + 2, 4, none⟩) (Ir _ _) _
       have Z4 : w.heap.size + 3 ≤ (w3.setCell ⟨w.heap.size + 2, 4, none⟩ (.int .i64 c1)).heap.size := by simp only [Ip]; omega
       go_upto_region 7 with fail
       generalize (w3.setCell ⟨w.heap.size + 2, 4, none⟩ (.int .i64 c1)) = w4 at *
       have QO4 : w4.heap[w.heap.size + 2]? = some (.cells #[.int .i64 k, .int .i64 v1.1, .int .i64 v1.2.1, .string v1.2.2, .int .i64 c1, .slice none 0 0] 27 (0, 0)) := by rw [e1]; exact QO4
       rw [← Eu.out] at HU ⊢
       clear p4 pf4 QX3 QZ3 QO3 A3 z3 hb3 e1 e2 b1 b2 h2 Eu)
    | (have b1 : (k == 1) = false := by simpa using h3.1
       have b2 : (k == 2) = false := by simpa using h3.2
       have e1 : v1 = fV := by rw [← HV.out, if_neg h3.1]
       have e2 : c1 = 0 := by rw [← HC.out, if_neg h3.2]
       clear HV HC
       go_upto_region 7 with fail
       have QX4 := QX2
       have QZ4 := QZ2
       have A4 := A2
       have Z4 : w.heap.size + 3 ≤ w2.heap.size := by omega
       have QO4 : w2.heap[w.heap.size + 2]? = some (.cells #[.int .i64 k, .int .i64 v1.1, .int .i64 v1.2.1, .string v1.2.2, .int .i64 c1, .slice none 0 0] 27 (0, 0)) := by rw [e1, e2]; exact QO2
       clear x0 xf0 o0 of0 x1 xf1 o1 of1 x2 xf2 o2 of2 x3 xf3 o3 of3 x4 xf4 o4 of4 x5 xf5 o5 of5 QX2 QZ2 QO2 A2 Z2 e1 e2 b1 b2 h3
       generalize w2 = w4 at *)
  all_goals (
    have hx5 : w4.cell? ⟨w.heap.size, 5, none⟩ = some (.slice a ks.length cap) := cell_of (i := 5) QX4 rfl
    go_wp2_with fail
    clear hx5
    go_loopw [29] (fun i wr => ∃ j : Nat, j ≤ ks.length ∧ i = .int .i64 j ∧ (∃ s, wr.heap[w.heap.size + 2]? = some (.cells #[.int .i64 k, .int .i64 v1.1, .int .i64 v1.2.1, .string v1.2.2, .int .i64 c1, s] 27 (0, 0)) ∧ bR Fu 27 6 w4.heap.size (fun b => w4.heap.size ≤ b) wr s (bB f (ks.take j))) ∧ wr.heap[w.heap.size + 1]? = some (.cells rL 27 (0, 0)) ∧ Below w.heap.size w wr ∧ w4.heap.size ≤ wr.heap.size) (fun i _ => ks.length - (intOf i).toNat)
    case atStart => exact ⟨0, Hl _, rfl, ⟨_, QO4, by rw [List.take_zero, bB]; exact bR.nil _ _ _ _ _ _⟩, QZ4, A4, Hd _⟩
    case round =>
      clear QO4 QX4 QZ4
      obtain ⟨j, hj, rfl, ⟨s, QO, OS⟩, QZ, hb, hzr⟩ := hrel
      by_cases hlt : j < ks.length
      · obtain ⟨b, off, ai, ci, rfl, hbl, sx, kx⟩ := (aO.next hb (Hd _) HK.out).elem hlt
        obtain ⟨x0, x1, x2, x3, x4, x5⟩ := sx
        have hjz : (j : Int) < (ks.length : Int) := by omega
        have hal : Below wr.heap.size wr (wr.alloc (.cells (aW ks[j] ai ci) 27)) := (He _ _).alloc (Hd _) _
        have qk := an wr (aW ks[j] ai ci) 27
        have HI := IH.out ks[j] (Hm hlt)
        have HIH : Hid (tG f P ks[j] ∧ dz P ks[j]) := HI
        have KX : Hid (aO w.heap.size wr ai ks[j].ks) := kx
        have HT : Hid (bB f (ks.take (j + 1)) = bB f (ks.take j) ++ [il f ks[j]]) := pO f hlt
        have hln : (bB f (ks.take j)).length = j := by rw [dr, Ij]; omega
        have HLN : Hid ((bB f (ks.take j)).length = j) := hln
        have OS' : Hid (bR Fu 27 6 w4.heap.size (fun b => w4.heap.size ≤ b) wr s (bB f (ks.take j))) := OS
        have hnb := OS.lt
        clear HI kx hln OS
        go_wp2_with fail
        clear x0 x1 x2 x3 x4 x5
        have QOa := (hal.block _ (by omega)).trans QO
        have QZa := (hal.block _ (by omega)).trans QZ
        have za := hal.size
        have lk := ae qk
        generalize hwa : wr.alloc (.cells (aW ks[j] ai ci) 27) = wa at *
        clear hwa
        have hCC : ∀ W W' : World, (W.heap[w.heap.size + 2]? = some (.cells #[.int .i64 k, .int .i64 v1.1, .int .i64 v1.2.1, .string v1.2.2, .int .i64 c1, s] 27 (0, 0)) ∧ W.heap[wr.heap.size]? = some (.cells (aW ks[j] ai ci) 27 (0, 0))) → Below W.heap.size W W' → (W'.heap[w.heap.size + 2]? = some (.cells #[.int .i64 k, .int .i64 v1.1, .int .i64 v1.2.1, .string v1.2.2, .int .i64 c1, s] 27 (0, 0)) ∧ W'.heap[wr.heap.size]? = some (.cells (aW ks[j] ai ci) 27 (0, 0))) := fun W W' h hb => ⟨(hb.block _ (ae h.1)).trans h.1, (hb.block _ (ae h.2)).trans h.2⟩
        have hdr : Below wa.heap.size wa wa.drew := (He _ _).drew
        have CW := hCC _ _ ⟨QOa, qk⟩ hdr
        refine ia (fun W => W.heap[w.heap.size + 2]? = some (.cells #[.int .i64 k, .int .i64 v1.1, .int .i64 v1.2.1, .string v1.2.2, .int .i64 c1, s] 27 (0, 0)) ∧ W.heap[wr.heap.size]? = some (.cells (aW ks[j] ai ci) 27 (0, 0))) 8 (by kernel_rfl) ?_
        refine bD hCC (some 33) (i := 0) (v := .pointer (some ⟨w.heap.size + 2, 5, none⟩)) rfl rfl (by kernel_rfl) (by kernel_rfl) (by kernel_rfl) (by kernel_rfl) (by kernel_rfl) rfl (fun _ _ _ h => h) (Or.inl ⟨rfl, fun n hn => ?_⟩) (fun _ => CW) ?_
        · go_simp
        simp only [Act.put, Hj, Ho, Hp]
        refine bD hCC (some 34) (i := 1) (v := s) rfl rfl (by kernel_rfl) (by kernel_rfl) (by kernel_rfl) (by kernel_rfl) (by kernel_rfl) rfl (fun _ _ _ h => h) (Or.inl ⟨rfl, fun n hn => ?_⟩) (fun _ => CW) ?_
        · have hcell : n.cell? ⟨w.heap.size + 2, 5, none⟩ = some s := cell_of (i := 5) hn.1 rfl
          go_simp
        simp only [Act.put, Hj, Ho, Hp]
        refine bD hCC (some 35) (i := 2) (v := .agg (aW ks[j] ai ci)) rfl rfl (by kernel_rfl) (by kernel_rfl) (by kernel_rfl) (by kernel_rfl) (by kernel_rfl) rfl (fun _ _ _ h => h) (Or.inl ⟨rfl, fun n hn => ?_⟩) (fun _ => CW) ?_
        · have hcell0 : n.cell? ⟨wr.heap.size, 0, none⟩ = some (.int .i64 ks[j].k) := cell_of (i := 0) hn.2 rfl
          have hcell1 : n.cell? ⟨wr.heap.size, 1, none⟩ = some (.int .i64 ks[j].v.1) := cell_of (i := 1) hn.2 rfl
          have hcell2 : n.cell? ⟨wr.heap.size, 2, none⟩ = some (.int .i64 ks[j].v.2.1) := cell_of (i := 2) hn.2 rfl
          have hcell3 : n.cell? ⟨wr.heap.size, 3, none⟩ = some (.string ks[j].v.2.2) := cell_of (i := 3) hn.2 rfl
          have hcell4 : n.cell? ⟨wr.heap.size, 4, none⟩ = some (.int .i64 ks[j].c) := cell_of (i := 4) hn.2 rfl
          have hcell5 : n.cell? ⟨wr.heap.size, 5, none⟩ = some (.slice ai ks[j].ks.length ci) := cell_of (i := 5) hn.2 rfl
          go_simp
        simp only [Act.put, Hj, Ho, Hp]
        refine bD hCC (some 36) (i := 3) (v := u) rfl rfl (by kernel_rfl) (by kernel_rfl) (by kernel_rfl) (by kernel_rfl) (by kernel_rfl) rfl (fun _ _ _ h => h) (Or.inl ⟨rfl, fun n hn => ?_⟩) (fun _ => CW) ?_
        · go_simp
        simp only [Act.put, Hj, Ho, Hp]
        refine cT (rs := [4]) (by kernel_rfl) (by simp) ?_
        intro w5 hb5 jj hj
        obtain rfl : jj = 4 := by simpa using hj
        clear hj
        have D5 := chain (chain hal hdr) hb5
        have B5 := chain hb D5
        have CW5 := hCC _ _ CW hb5
        have con := HIH.out.1 u ai ci w5 (HU.out.next B5) HIH.out.2 ((aO.next D5 (by have := hb.size; omega) KX.out).up (by have := B5.size; omega))
        generalize hcy : il f ks[j] = y at con
        have HY : Hid (il f ks[j] = y) := hcy
        clear hcy
        refine wpOp_step rfl (fun K hK => ?_)
        go_simp
        refine con.mono ?_
        rintro e w6 ⟨ya, yc, rfl, KY, hb6⟩
        have D6 := chain D5 hb6
        have CW6 := hCC _ _ CW5 hb6
        refine hK _ _ ⟨fun _ => CW6, ?_⟩
        clear hK K con CW5 CW
        refine cT (rs := [5]) (by kernel_rfl) (by simp) ?_
        intro w7 hb7 jj hj
        obtain rfl : jj = 5 := by simpa using hj
        clear hj
        refine wpOp_step rfl (fun K hK => ?_)
        go_simp
        have D7 := chain D6 hb7
        have CW7 := hCC _ _ CW6 hb7
        have hal7 : Below w7.heap.size w7 (w7.alloc (.cells (aW y ya yc) 27)) := (He _ _).alloc (Hd _) _
        have q8 := an w7 (aW y ya yc) 27
        have D8 := chain D7 hal7
        have CW8 := hCC _ _ CW7 hal7
        have KY8 := (KY.next (ah.of hb7)).next (ah.of hal7)
        have b6 := hb6.size
        have b7 := hb7.size
        refine hK _ _ ⟨fun _ => CW8, ?_⟩
        clear hK K CW7 CW6 KY
        generalize hw8 : w7.alloc (.cells (aW y ya yc) 27) = w8 at *
        clear hw8
        refine cT (rs := [6]) (by kernel_rfl) (by simp) ?_
        intro w9 hb9 jj hj
        obtain rfl : jj = 6 := by simpa using hj
        clear hj
        have D9 := chain D8 hb9
        have CW9 := hCC _ _ CW8 hb9
        have KY9 := KY8.next (ah.of hb9)
        have q9 := (hb9.block _ (ae q8)).trans q8
        have d9 := D9.size
        have l8 := ae q9
        obtain ⟨ys, o9, en9⟩ := OS'.out.next Et D9
        have l9 := HLN.out
        refine wpOp_step rfl (fun K hK => ?_)
        refine Eq.mpr (if_pos (by kernel_rfl)) ?_
        refine bM (some 39) rfl (Operand.tmp 34) (Operand.tmp 38) 25 rfl w4.heap.size 27 i0 _ 6 72 Tryz.underlying25 hi hj0 hj1 hj2 rfl (by decide) s _ ys rfl o9 ⟨w7.heap.size, 0, none⟩ 1 1 (lK y ya yc) rfl rfl ?Ac1 ?Ac2 ?Ac3 ?Ac4 ?Ac5 ?_
        case Ac1 =>
          intro i u hu
          have : i < 6 := by
            rcases Ic i 6 with h | h
            · exact h
            · rw [Is (by simpa [lK] using h)] at hu; cases hu
          rw [dK, Hu]
          exact cell_of (i := i) q9 (by rw [← hu]; simp [lK])
        case Ac2 => intro u hu; simp [lK] at hu; rcases hu with rfl | rfl | rfl | rfl | rfl | rfl <;> rfl
        case Ac3 => unfold maxLen; omega
        case Ac4 => omega
        case Ac5 => omega
        intro v' w10 o10 g10 hd10
        have z10 := g10.size
        have OS10 : bR Fu 27 6 w4.heap.size (fun b => w4.heap.size ≤ b) w10 v' (bB f (ks.take j) ++ [y]) := bR.push Et o9 en9 rfl ⟨ya, yc, rfl, KY9.mono fun b hb hl => ⟨by have := D5.size; omega, hl, fun e => by have := (hnb b e).2; have := D5.size; omega⟩⟩ o10 g10 hd10
        have QO10 : w10.heap[w.heap.size + 2]? = some (.cells #[.int .i64 k, .int .i64 v1.1, .int .i64 v1.2.1, .string v1.2.2, .int .i64 c1, s] 27 (0, 0)) := (g10.block _ (ae CW9.1) (fun e => by have := (hnb _ e.symm).1; omega)).trans CW9.1
        have QK10 : w10.heap[wr.heap.size]? = some (.cells (aW ks[j] ai ci) 27 (0, 0)) := (g10.block _ (ae CW9.2) (fun e => by have := (hnb _ e.symm).2; omega)).trans CW9.2
        have QZ10 : w10.heap[w.heap.size + 1]? = some (.cells rL 27 (0, 0)) := (g10.block _ (by have := hb.size; omega) (fun e => by have := (hnb _ e.symm).1; omega)).trans ((D9.block _ (by omega)).trans QZ)
        have A10 : Below w.heap.size w w10 := (chain hb D9).trans ((He _ _).grown g10 (by have := hb.size; omega) (fun q hq => by have := (hnb q hq).1; omega))
        refine hK _ _ ⟨fun _ => ⟨QO10, QK10⟩, ?_⟩
        clear hK K CW9 CW8 KY8 KY9 o9 en9 o10 q8 q9 g10 D8 D7 D6 hd10
        simp only [Act.put, Hj, Ho, Hp]
        have CW : w10.heap[w.heap.size + 2]? = some (.cells #[.int .i64 k, .int .i64 v1.1, .int .i64 v1.2.1, .string v1.2.2, .int .i64 c1, s] 27 (0, 0)) ∧ w10.heap[wr.heap.size]? = some (.cells (aW ks[j] ai ci) 27 (0, 0)) := ⟨QO10, QK10⟩
        refine bD hCC (some 40) (i := 7) (v := .pointer (some ⟨w.heap.size + 2, 5, none⟩)) rfl rfl (by kernel_rfl) (by kernel_rfl) (by kernel_rfl) (by kernel_rfl) (by kernel_rfl) rfl (fun _ _ _ h => h) (Or.inl ⟨rfl, fun n hn => ?_⟩) (fun _ => CW) ?_
        · go_simp
        simp only [Act.put, Hj, Ho, Hp]
        clear CW
        refine cT (rs := [8]) (by kernel_rfl) (by simp) ?_
        intro w11 hb11 jj hj
        obtain rfl : jj = 8 := by simpa using hj
        clear hj
        have QO11 := (hb11.block _ (ae QO10)).trans QO10
        have QZ11 := (hb11.block _ (ae QZ10)).trans QZ10
        have OS11 := OS10.next Et hb11
        obtain ⟨va, vc, rfl⟩ := OS11.len
        generalize (bB f (ks.take j) ++ [y]).length = vn at *
        have A11 := chain A10 hb11
        have hc5 : w11.cell? ⟨w.heap.size + 2, 5, none⟩ = some s := cell_of (i := 5) QO11 rfl
        have hf5 : w11.frozen? ⟨w.heap.size + 2, 5, none⟩ = false := Hh w11 (w.heap.size + 2) 5 _ _ QO11
        refine wpOp_step rfl (fun K hK => ?_)
        go_simp
        have QO12 := Hn w11 (w.heap.size + 2) 5 _ _ (.slice va vn vc) QO11
        have QZ12 : (w11.setCell ⟨w.heap.size + 2, 5, none⟩ (.slice va vn vc)).heap[w.heap.size + 1]? = some (.cells rL 27 (0, 0)) := by rw [heap_setCell_other _ _ _ _ (by simp)]; exact QZ11
        have A12 : Below w.heap.size w (w11.setCell ⟨w.heap.size + 2, 5, none⟩ (.slice va vn vc)) := A11.setCell (p := ⟨w.heap.size + 2, 5, none⟩) (Ir _ _) _
        have OS12 := OS11.gD Et (fun _ h => h) ((ah.refl _ _).set (w.heap.size + 2) 5 (.slice va vn vc) (by omega))
        refine hK _ _ ⟨fun h => absurd h (by decide), ?_⟩
        refine lJ (by kernel_rfl) ?_
        intro w13 hb13
        have A13 := chain A12 hb13
        have OS13 := OS12.next Et hb13
        have QO13 := (hb13.block _ (ae QO12)).trans QO12
        have QZ13 := (hb13.block _ (ae QZ12)).trans QZ12
        have z13 : w4.heap.size ≤ w13.heap.size := by have := hb13.size; have := hb11.size; simp only [Ip] at *; omega
        clear A12 OS12 QO12 QZ12 hb13 hc5 hf5 OS11 QO11 QZ11 A11 hb11 OS10 QO10 QZ10 QK10 A10 hK K
        go_wp2_with fail
        go_roundw
        case rel => exact ⟨j + 1, by omega, by go_num, ⟨_, QO13, by rw [HT.out, HY.out]; exact OS13⟩, QZ13, A13, z13⟩
        case measure => simp [intOf]; omega
      · have e : j = ks.length := by omega
        subst e
        rw [Ib] at OS
        obtain ⟨sa, sc, rfl, KS⟩ := OS.GV (fun _ h => h)
        rw [HCL.out] at QO
        obtain ⟨o0, o1, o2, o3, o4, o5⟩ := cU QO
        obtain ⟨of0, of1, of2, of3, of4, of5⟩ := qw QO
        obtain ⟨z0, z1, z2, z3, z4, z5⟩ := cU QZ
        obtain ⟨zf0, zf1, zf2, zf3, zf4, zf5⟩ := qw QZ
        go_wp2_with fail
        have KP : ah (fun b => w4.heap.size ≤ b) wr (GY wr (w.heap.size + 1) (.int .i64 k) (.int .i64 v1.1) (.int .i64 v1.2.1) (.string v1.2.2) (.int .i64 c1) (.slice sa ks.length sc)) := (((((((ah.refl _ wr).set (w.heap.size + 1) 0 (.int .i64 k) (by omega)).set (w.heap.size + 1) 1 (.int .i64 v1.1) (by omega)).set (w.heap.size + 1) 2 (.int .i64 v1.2.1) (by omega)).set (w.heap.size + 1) 3 (.string v1.2.2) (by omega)).set (w.heap.size + 1) 4 (.int .i64 c1) (by omega)).set (w.heap.size + 1) 5 (.slice sa ks.length sc) (by omega))
        have AP : Below w.heap.size w (GY wr (w.heap.size + 1) (.int .i64 k) (.int .i64 v1.1) (.int .i64 v1.2.1) (.string v1.2.2) (.int .i64 c1) (.slice sa ks.length sc)) := ((((((hb.setCell (p := ⟨w.heap.size + 1, 0, none⟩) (IT _) (.int .i64 k)).setCell (p := ⟨w.heap.size + 1, 1, none⟩) (IT _) (.int .i64 v1.1)).setCell (p := ⟨w.heap.size + 1, 2, none⟩) (IT _) (.int .i64 v1.2.1)).setCell (p := ⟨w.heap.size + 1, 3, none⟩) (IT _) (.string v1.2.2)).setCell (p := ⟨w.heap.size + 1, 4, none⟩) (IT _) (.int .i64 c1)).setCell (p := ⟨w.heap.size + 1, 5, none⟩) (IT _) (.slice sa ks.length sc))
        exact Hf (v := iY k v1 c1 sa ks.length sc) (by simp [results, Tryz.results23, go_sem, z0, z1, z2, z3, z4, z5]) rfl ⟨sa, sc, by rw [HCL.out], (KS.next KP).mono (fun b h _ => by omega), AP⟩)
theorem j0 (f:Int→Int) (P:Int→Prop):∀ x,tG f P x:=Ex.ind fun k v c ks ih=>rT f P k v c ks ih
theorem qI (P:Int→Prop) (w:World):EZ (.func (.func 24) #[] #[]) (fun c=>c) P w :=
 ⟨24,#[],rfl,enters_of Tryz.func24 (by kernel_rfl) rfl,fun c W _ _=>by
  rw [IQ]
  go_enter Tryz.func24,Tryz.ntmps24
  go_wp2
  go_ret
  exact ⟨rfl,He _ _⟩⟩
mutual
def lE (f:Int→Bool):Ex→Bool
 | .mk k _ c ks=>(k == 2 && f c) || eM f ks
def eM (f:Int→Bool):List Ex→Bool
 | []=>false
 | x :: r=>lE f x || eM f r
end
theorem kK (f:Int→Bool):∀ l r,eM f (l ++ r)=(eM f l || eM f r)
 | [],r=>by simp [eM]
 | x :: l,r=>by rw [Iz,eM,eM,kK f l r,Bool.or_assoc]
theorem nJ (f:Int→Bool) {ks:List Ex} {j:Nat} (h:j<ks.length):eM f (ks.take (j+1))=(eM f (ks.take j) || lE f ks[j]):=by
 rw [Ht h,kK,eM,eM,Bool.or_false]
theorem Cc (c n:Int) (A F S:Nat) (p q:Bool) (w:World) (hA:w.cell? ⟨A,0,none⟩=some (.int .i64 n)) (hF:w.heap[F]? = some (.cells #[.bool (p)] 4 (0,0))) (hS:w.heap[S]? = some (.cells #[.bool (q)] 4 (0,0))) :
  Calls Tryz.prog 97 #[.int .i64 c,.pointer (some ⟨A,0,none⟩),.pointer (some ⟨F,0,none⟩),.pointer (some ⟨S,0,none⟩)] w fun e w'=>e = .returned (.tuple #[])∧w'=if c<n then w.setCell ⟨F,0,none⟩ (.bool true) else w.setCell ⟨S,0,none⟩ (.bool true):=by
 have f0:w.cell? ⟨F,0,none⟩=some (.bool p):=cell_of (i:=0) hF rfl;have f1:w.frozen? ⟨F,0,none⟩=false:=Hh w F 0 _ _ hF;have s0:w.cell? ⟨S,0,none⟩=some (.bool q):=cell_of (i:=0) hS rfl;have s1:w.frozen? ⟨S,0,none⟩=false:=Hh w S 0 _ _ hS;by_cases h:c<n
 ·rw [if_pos h];go_enter Tryz.func97,Tryz.ntmps97;go_wp2_with fail
  go_end0
  exact ⟨rfl,rfl⟩
 ·rw [if_neg h];go_enter Tryz.func97,Tryz.ntmps97;go_wp2_with fail
  go_end0
  exact ⟨rfl,rfl⟩
def qD (P:Int→Prop) (n:Int) (x:Ex):Prop:=dz P x→∀ (a:Option Addr) (cap:Nat) (w:World) (A F S:Nat) (p q:Bool),aO F w a x.ks→A<F→F<S→w.cell? ⟨A,0,none⟩=some (.int .i64 n)→w.heap[F]? = some (.cells #[.bool (p)] 4 (0,0))→w.heap[S]? = some (.cells #[.bool (q)] 4 (0,0)) →
 Calls Tryz.prog 96 #[iY x.k x.v x.c a x.ks.length cap,.func (.func 97) #[] #[.pointer (some ⟨A,0,none⟩),.pointer (some ⟨F,0,none⟩),.pointer (some ⟨S,0,none⟩)]] w fun e w'=>e = .returned (.tuple #[])∧w'.heap[F]? = some (.cells #[.bool (p || lE (fun c=>decide (c<n)) x)] 4 (0,0))∧w'.heap[S]? = some (.cells #[.bool (q || lE (fun c=>decide (n≤c)) x)] 4 (0,0))∧Below F w w'∧ah (fun b=>b≠F∧b≠S) w w'
theorem Ac (P : Int → Prop) (n k : Int) (v : Vl) (c : Int) (ks : List Ex) (ih : ∀ x ∈ ks, qD P n x) : qD P n (.mk k v c ks) := by
  intro hw a cap w A F S p q hk hA hF hcA hF0 hS0
  simp only [Ex.k, Ex.v, Ex.c, Ex.ks] at hk ⊢
  rw [lE, lE]
  rw [dz] at hw
  obtain ⟨hx3, _, hxs⟩ := hw
  have hxs := fM.1 hxs
  have IH : Hid (∀ x ∈ ks, qD P n x ∧ dz P x) := fun x hx => ⟨ih x hx, hxs x hx⟩
  have HK : Hid (aO F w a ks) := hk
  clear ih hk hxs
  have lF := ae hF0
  have lS := ae hS0
  have al : Below w.heap.size w (w.alloc (.cells #[.int .i64 k, .int .i64 v.1, .int .i64 v.2.1, .string v.2.2, .int .i64 c, .slice a ks.length cap] 27)) := (He _ _).alloc (Hd _) _
  have QX := an w #[.int .i64 k, .int .i64 v.1, .int .i64 v.2.1, .string v.2.2, .int .i64 c, .slice a ks.length cap] 27
  have cA := (al.cell (p := ⟨A, 0, none⟩) (show A < _ by omega)).trans hcA
  have F1 := (al.block _ lF).trans hF0
  have S1 := (al.block _ lS).trans hS0
  have B1 : Below F w (w.alloc (.cells #[.int .i64 k, .int .i64 v.1, .int .i64 v.2.1, .string v.2.2, .int .i64 c, .slice a ks.length cap] 27)) := al.mono (by omega)
  have K1 : ah (fun b => b ≠ F ∧ b ≠ S) w (w.alloc (.cells #[.int .i64 k, .int .i64 v.1, .int .i64 v.2.1, .string v.2.2, .int .i64 c, .slice a ks.length cap] 27)) := ah.of al
  have z1 : (w.alloc (.cells #[.int .i64 k, .int .i64 v.1, .int .i64 v.2.1, .string v.2.2, .int .i64 c, .slice a ks.length cap] 27)).heap.size = w.heap.size + 1 := by simp
  clear hcA hF0 hS0 al
  go_enter Tryz.func96, Tryz.ntmps96
  go_upto_region 1 with fail
  generalize w.alloc (.cells #[.int .i64 k, .int .i64 v.1, .int .i64 v.2.1, .string v.2.2, .int .i64 c, .slice a ks.length cap] 27) = w1 at *
  obtain ⟨x0, x1, x2, x3, x4, x5⟩ := cU QX
  obtain ⟨xf0, xf1, xf2, xf3, xf4, xf5⟩ := qw QX
  generalize hp' : (p || (k == 2 && decide (c < n))) = p'
  generalize hq' : (q || (k == 2 && decide (n ≤ c))) = q'
  have e1 : ∀ z, (p || (k == 2 && decide (c < n) || z)) = (p' || z) := fun z => by rw [← hp', Bool.or_assoc]
  have e2 : ∀ z, (q || (k == 2 && decide (n ≤ c) || z)) = (q' || z) := fun z => by rw [← hq', Bool.or_assoc]
  have E1 : Hid (∀ z, (p || (k == 2 && decide (c < n) || z)) = (p' || z)) := e1
  have E2 : Hid (∀ z, (q || (k == 2 && decide (n ≤ c) || z)) = (q' || z)) := e2
  clear e1 e2
  have kV : k ≠ 2 ∨ (k = 2 ∧ c < n) ∨ (k = 2 ∧ ¬ c < n) := by omega
  rcases kV with h1 | h2 | h3
  all_goals first
    | (have b1 : (k == 2) = false := by simpa using h1
       have F3 : w1.heap[F]? = some (.cells #[.bool (p')] 4 (0, 0)) := by rw [← hp', b1]; simpa using F1
       have S3 : w1.heap[S]? = some (.cells #[.bool (q')] 4 (0, 0)) := by rw [← hq', b1]; simpa using S1
       go_upto_region 3 with fail
       clear h1 hp' hq' F1 S1 x0 xf0 x4 xf4 b1
       have cA3 := cA
       have QX3 := QX
       have B3 := B1
       have K3 := K1
       have z3 := z1
       clear x1 xf1 x2 xf2 x3 xf3 x5 xf5 cA QX B1 K1 z1
       generalize w1 = w3 at *)
    | (have b1 : (k == 2) = true := by simpa using h2.1
       have con := Cc c n A F S p q w1 cA F1 S1
       rw [if_pos h2.2] at con
       have F3 : (w1.setCell ⟨F, 0, none⟩ (.bool true)).heap[F]? = some (.cells #[.bool (p')] 4 (0, 0)) := by rw [← hp', Hn _ _ _ _ _ _ F1]; simp [h2.1, h2.2]
       have S3 : (w1.setCell ⟨F, 0, none⟩ (.bool true)).heap[S]? = some (.cells #[.bool (q')] 4 (0, 0)) := by rw [← hq', aq _ _ (by omega), S1]; simp; intro _; omega
       have cA3 : (w1.setCell ⟨F, 0, none⟩ (.bool true)).cell? ⟨A, 0, none⟩ = some (.int .i64 n) := by rw [Hq _ _ _ _ (by intro h; injection h with h1; omega)]; exact cA
       have QX3 : (w1.setCell ⟨F, 0, none⟩ (.bool true)).heap[w.heap.size]? = some (.cells #[.int .i64 k, .int .i64 v.1, .int .i64 v.2.1, .string v.2.2, .int .i64 c, .slice a ks.length cap] 27 (0, 0)) := by rw [aq _ _ (by omega)]; exact QX
       have B3 : Below F w (w1.setCell ⟨F, 0, none⟩ (.bool true)) := B1.setCell (p := ⟨F, 0, none⟩) (Hd _) _
       have K3 : ah (fun b => b ≠ F ∧ b ≠ S) w (w1.setCell ⟨F, 0, none⟩ (.bool true)) := K1.set F 0 _ (fun h => h.1 rfl)
       have z3 : (w1.setCell ⟨F, 0, none⟩ (.bool true)).heap.size = w.heap.size + 1 := by rw [Ip]; exact z1
       go_wp2_with fail
       refine con.mono ?_
       rintro e w3 ⟨rfl, hw3⟩
       rw [← hw3] at F3 S3 cA3 QX3 B3 K3 z3
       clear con hw3 h2 hp' hq' F1 S1 b1 cA QX B1 K1 z1 x0 xf0 x1 xf1 x2 xf2 x3 xf3 x4 xf4 x5 xf5
       dsimp only
       go_upto_region 3 with fail)
    | (have b1 : (k == 2) = true := by simpa using h3.1
       have con := Cc c n A F S p q w1 cA F1 S1
       rw [if_neg h3.2] at con
       have F3 : (w1.setCell ⟨S, 0, none⟩ (.bool true)).heap[F]? = some (.cells #[.bool (p')] 4 (0, 0)) := by rw [← hp', aq _ _ (by omega), F1]; simp; intro _; omega
       have S3 : (w1.setCell ⟨S, 0, none⟩ (.bool true)).heap[S]? = some (.cells #[.bool (q')] 4 (0, 0)) := by rw [← hq', Hn _ _ _ _ _ _ S1]; simp [h3.1, show n ≤ c by omega]
       have cA3 : (w1.setCell ⟨S, 0, none⟩ (.bool true)).cell? ⟨A, 0, none⟩ = some (.int .i64 n) := by rw [Hq _ _ _ _ (by intro h; injection h with h1; omega)]; exact cA
       have QX3 : (w1.setCell ⟨S, 0, none⟩ (.bool true)).heap[w.heap.size]? = some (.cells #[.int .i64 k, .int .i64 v.1, .int .i64 v.2.1, .string v.2.2, .int .i64 c, .slice a ks.length cap] 27 (0, 0)) := by rw [aq _ _ (by omega)]; exact QX
       have B3 : Below F w (w1.setCell ⟨S, 0, none⟩ (.bool true)) := B1.setCell (p := ⟨S, 0, none⟩) (Jh hF) _
       have K3 : ah (fun b => b ≠ F ∧ b ≠ S) w (w1.setCell ⟨S, 0, none⟩ (.bool true)) := K1.set S 0 _ (fun h => h.2 rfl)
       have z3 : (w1.setCell ⟨S, 0, none⟩ (.bool true)).heap.size = w.heap.size + 1 := by rw [Ip]; exact z1
       go_wp2_with fail
       refine con.mono ?_
       rintro e w3 ⟨rfl, hw3⟩
       rw [← hw3] at F3 S3 cA3 QX3 B3 K3 z3
       clear con hw3 h3 hp' hq' F1 S1 b1 cA QX B1 K1 z1 x0 xf0 x1 xf1 x2 xf2 x3 xf3 x4 xf4 x5 xf5
       dsimp only
       go_upto_region 3 with fail)
  all_goals (
    have hx5 : w3.cell? ⟨w.heap.size, 5, none⟩ = some (.slice a ks.length cap) := cell_of (i := 5) QX3 rfl
    go_wp2_with fail
    clear hx5
    go_loopw [16] (fun i wr => ∃ j : Nat, j ≤ ks.length ∧ i = .int .i64 j ∧ wr.heap[F]? = some (.cells #[.bool (p' || eM (fun c => decide (c < n)) (ks.take j))] 4 (0, 0)) ∧ wr.heap[S]? = some (.cells #[.bool (q' || eM (fun c => decide (n ≤ c)) (ks.take j))] 4 (0, 0)) ∧ wr.cell? ⟨A, 0, none⟩ = some (.int .i64 n) ∧ Below F w wr ∧ ah (fun b => b ≠ F ∧ b ≠ S) w wr) (fun i _ => ks.length - (intOf i).toNat)
    case atStart => exact ⟨0, Hl _, rfl, by rw [List.take_zero, eM, Bool.or_false]; exact F3, by rw [List.take_zero, eM, Bool.or_false]; exact S3, cA3, B3, K3⟩
    case round =>
      clear F3 S3 cA3 B3 K3 z3 QX3
      obtain ⟨j, hj, rfl, Fr, Sr, cAr, hb, hkr⟩ := hrel
      by_cases hlt : j < ks.length
      · obtain ⟨b, off, ai, ci, rfl, hbl, sx, kx⟩ := (aO.next hb (Hd _) HK.out).elem hlt
        obtain ⟨x0, x1, x2, x3, x4, x5⟩ := sx
        have hjz : (j : Int) < (ks.length : Int) := by omega
        have hal : Below wr.heap.size wr (wr.alloc (.cells (aW ks[j] ai ci) 27)) := (He _ _).alloc (Hd _) _
        have zr := hkr.1
        have lF' := ae Fr
        have con := (IH.out ks[j] (Hm hlt)).1 (IH.out ks[j] (Hm hlt)).2 ai ci (wr.alloc (.cells (aW ks[j] ai ci) 27)) A F S _ _ (aO.next hal (by omega) kx) hA hF ((hal.cell (p := ⟨A, 0, none⟩) (show A < _ by omega)).trans cAr) ((hal.block _ lF').trans Fr) ((hal.block _ (ae Sr)).trans Sr)
        have T1 : Hid (eM (fun c => decide (c < n)) (ks.take (j + 1)) = _) := nJ _ hlt
        have T2 : Hid (eM (fun c => decide (n ≤ c)) (ks.take (j + 1)) = _) := nJ _ hlt
        go_wp2_with fail
        refine con.mono ?_
        rintro e w5 ⟨rfl, F5, S5, B5, K5⟩
        clear con x0 x1 x2 x3 x4 x5 kx
        have B6 := hb.trans ((hal.mono (Jh lF')).trans B5)
        have K6 := hkr.trans ((ah.of hal).trans K5)
        have cA6 := (B5.cell (p := ⟨A, 0, none⟩) hA).trans ((hal.cell (p := ⟨A, 0, none⟩) (show A < _ by omega)).trans cAr)
        dsimp only
        go_wp2_with fail
        go_roundw
        case rel => exact ⟨j + 1, by omega, by go_num, by rw [T1.out, ← Bool.or_assoc]; exact F5, by rw [T2.out, ← Bool.or_assoc]; exact S5, cA6, B6, K6⟩
        case measure => simp [intOf]; omega
      · have e : j = ks.length := by omega
        subst e
        rw [Ib] at Fr Sr
        go_wp2_with fail
        go_end0
        exact ⟨rfl, by rw [E1.out]; exact Fr, by rw [E2.out]; exact Sr, hb, hkr⟩)
theorem Df (P:Int→Prop) (n:Int):∀ x,qD P n x:=Ex.ind fun k v c ks ih=>Ac P n k v c ks ih
theorem AY {P:Int→Prop} (x:Ex) (n:Int) (a:Option Addr) (cap:Nat) (w:World) (hw:dz P x) (hk:aO w.heap.size w a x.ks) :
  Calls Tryz.prog 63 #[iY x.k x.v x.c a x.ks.length cap,.int .i64 n] w fun e w'=>e = .returned (.tuple #[.bool (lE (fun c=>decide (c<n)) x),.bool (lE (fun c=>decide (n≤c)) x)])∧Below w.heap.size w w':=by
 obtain ⟨k,v,c,ks⟩:=x;simp only [Ex.k,Ex.v,Ex.c,Ex.ks] at hk ⊢;have A1:=aa w (.cells #[.int .i64 k,.int .i64 v.1,.int .i64 v.2.1,.string v.2.2,.int .i64 c,.slice a ks.length cap] 27);have A2:Below w.heap.size w ((w.alloc (.cells #[.int .i64 k,.int .i64 v.1,.int .i64 v.2.1,.string v.2.2,.int .i64 c,.slice a ks.length cap] 27)).alloc (.cells #[.int .i64 n] 3)):=A1.alloc (by simp) _
 have A3:Below w.heap.size w (((w.alloc (.cells #[.int .i64 k,.int .i64 v.1,.int .i64 v.2.1,.string v.2.2,.int .i64 c,.slice a ks.length cap] 27)).alloc (.cells #[.int .i64 n] 3)).alloc (.cells #[.bool false] 4)):=A2.alloc (by simp; omega) _;have A4:Below w.heap.size w ((((w.alloc (.cells #[.int .i64 k,.int .i64 v.1,.int .i64 v.2.1,.string v.2.2,.int .i64 c,.slice a ks.length cap] 27)).alloc (.cells #[.int .i64 n] 3)).alloc (.cells #[.bool false] 4)).alloc (.cells #[.bool false] 4)):=A3.alloc (by simp; omega) _
 have z4:((((w.alloc (.cells #[.int .i64 k,.int .i64 v.1,.int .i64 v.2.1,.string v.2.2,.int .i64 c,.slice a ks.length cap] 27)).alloc (.cells #[.int .i64 n] 3)).alloc (.cells #[.bool false] 4)).alloc (.cells #[.bool false] 4)).heap.size=w.heap.size+4:=by simp
 have QX:((((w.alloc (.cells #[.int .i64 k,.int .i64 v.1,.int .i64 v.2.1,.string v.2.2,.int .i64 c,.slice a ks.length cap] 27)).alloc (.cells #[.int .i64 n] 3)).alloc (.cells #[.bool false] 4)).alloc (.cells #[.bool false] 4)).heap[w.heap.size]? = some (.cells #[.int .i64 k,.int .i64 v.1,.int .i64 v.2.1,.string v.2.2,.int .i64 c,.slice a ks.length cap] 27 (0,0)):=by
  rw [aD _ _ (by simp; omega),aD _ _ (by simp; omega),aD _ _ (by simp)]; exact an w _ _
 have QA:((((w.alloc (.cells #[.int .i64 k,.int .i64 v.1,.int .i64 v.2.1,.string v.2.2,.int .i64 c,.slice a ks.length cap] 27)).alloc (.cells #[.int .i64 n] 3)).alloc (.cells #[.bool false] 4)).alloc (.cells #[.bool false] 4)).heap[w.heap.size+1]? = some (.cells #[.int .i64 n] 3 (0,0)):=by
  rw [aD _ _ (by simp),aD _ _ (by simp)]; simpa using an (w.alloc (.cells #[.int .i64 k,.int .i64 v.1,.int .i64 v.2.1,.string v.2.2,.int .i64 c,.slice a ks.length cap] 27)) #[.int .i64 n] 3
 have QF:((((w.alloc (.cells #[.int .i64 k,.int .i64 v.1,.int .i64 v.2.1,.string v.2.2,.int .i64 c,.slice a ks.length cap] 27)).alloc (.cells #[.int .i64 n] 3)).alloc (.cells #[.bool false] 4)).alloc (.cells #[.bool false] 4)).heap[w.heap.size+2]? = some (.cells #[.bool (false)] 4 (0,0)):=by
  rw [aD _ _ (by simp)]; simpa using an ((w.alloc (.cells #[.int .i64 k,.int .i64 v.1,.int .i64 v.2.1,.string v.2.2,.int .i64 c,.slice a ks.length cap] 27)).alloc (.cells #[.int .i64 n] 3)) #[.bool false] 4
 have QS:((((w.alloc (.cells #[.int .i64 k,.int .i64 v.1,.int .i64 v.2.1,.string v.2.2,.int .i64 c,.slice a ks.length cap] 27)).alloc (.cells #[.int .i64 n] 3)).alloc (.cells #[.bool false] 4)).alloc (.cells #[.bool false] 4)).heap[w.heap.size+3]? = some (.cells #[.bool (false)] 4 (0,0)):=by simpa using an (((w.alloc (.cells #[.int .i64 k,.int .i64 v.1,.int .i64 v.2.1,.string v.2.2,.int .i64 c,.slice a ks.length cap] 27)).alloc (.cells #[.int .i64 n] 3)).alloc (.cells #[.bool false] 4)) #[.bool false] 4
 have HK:Hid (aO w.heap.size w a ks):=hk;have HW:Hid (dz P (.mk k v c ks)):=hw;clear A1 A2 A3 hk hw;generalize hfa:lE (fun c=>decide (c<n)) (.mk k v c ks)=fa;generalize hsa:lE (fun c=>decide (n≤c)) (.mk k v c ks)=sa;go_enter Tryz.func63,Tryz.ntmps63;go_upto_region 1 with fail
 generalize (((w.alloc (.cells #[.int .i64 k,.int .i64 v.1,.int .i64 v.2.1,.string v.2.2,.int .i64 c,.slice a ks.length cap] 27)).alloc (.cells #[.int .i64 n] 3)).alloc (.cells #[.bool false] 4)).alloc (.cells #[.bool false] 4)=w4 at *;have con:=Df P n (.mk k v c ks) HW.out a cap w4 (w.heap.size+1) (w.heap.size+2) (w.heap.size+3) false false ((aO.next A4 (Hd _) HK.out).up (by omega)) (by omega) (by omega) (cell_of (i:=0) QA rfl) QF QS;simp only [Ex.k,Ex.v,Ex.c,Ex.ks,Bool.false_or] at con;rw [hfa,hsa] at con;obtain ⟨x0,x1,x2,x3,x4,x5⟩:=cU QX
 obtain ⟨xf0,xf1,xf2,xf3,xf4,xf5⟩:=qw QX;go_wp2_with fail
 refine con.mono ?_;rintro e w5 ⟨rfl,F5,S5,B5,K5⟩;clear con x0 xf0 x1 xf1 x2 xf2 x3 xf3 x4 xf4 x5 xf5;have A5:Below w.heap.size w w5:=A4.trans (B5.mono (by omega));have f0:w5.cell? ⟨w.heap.size+2,0,none⟩=some (.bool fa):=cell_of (i:=0) F5 rfl;have f1:w5.frozen? ⟨w.heap.size+2,0,none⟩=false:=Hh w5 _ 0 _ _ F5;have s0:w5.cell? ⟨w.heap.size+3,0,none⟩=some (.bool sa):=cell_of (i:=0) S5 rfl;have s1:w5.frozen? ⟨w.heap.size+3,0,none⟩=false:=Hh w5 _ 0 _ _ S5;dsimp only;go_wp2_with fail
 go_region
 go_wp2_with fail
 refine Hf (v:=.tuple #[.bool fa,.bool sa]) (by simp [results,Tryz.results63,go_sem,f0,s0]) rfl ⟨rfl,?_⟩;refine (Below.setCell (Below.setCell A5 ?_ _) ?_ _).drew <;> (dsimp only; omega)
end Go.Proofs.YtjebpkhkjkjphaaGreat
