/- Together: A7, A8, A9, AA, AB, AC, AD, Past, Ext2. -/
import Derived.Defers
import Derived.Recover
import Derived.Deep.Cut
import Derived.Deep.MidRow
import Derived.WalkKit
import Derived.BigQuiet
import Derived.OrdersHeld
import Derived.RegionTactic
import Derived.Test.YtoknmnngaackkaaGreatDoorST0
namespace Go.Proofs.YtoknmnngaackkaaGreatDoor
open Go.RowKit Go.Lib Go.Shelf
set_option maxRecDepth 100000
set_option maxHeartbeats 16000000
set_option maxRecDepth 100000
set_option maxHeartbeats 4000000
theorem zj {w:World} {R tb:Nat} {ts:List Tk} {o:Int} (h:aR w R tb ts o):Calls Tryz.prog 244 #[af R 0] w fun e w'=>e = .returned (.bool (dG ts))∧Below w w w':=by
 obtain ⟨t,r,rfl⟩:=h.iU.ne;have con:=j8 h;have HR:Hid (aR w R tb (t :: r) o):=h;generalize hM:dG (t :: r)=M;have HM:Hid (((t.1 == 2) || (t.1 == 3) || bK ⟨#[45]⟩ (t :: r) || bK ⟨#[110,117,108,108]⟩ (t :: r) || bK ⟨#[116,114,117,101]⟩ (t :: r) || bK ⟨#[102,97,108,115,101]⟩ (t :: r))=M):=hM;clear h hM;rcases g1:t.1 == 2 with _ | _
 case true =>
  go_enter Tryz.func244,Tryz.ntmps244;go_wp2_with fail
  refine cR con fun w1 hb1=>?_;have hf:=eL t.2.1 t.2.2 t.1 w1;go_wp2_with fail
  exact fa rfl rfl ⟨by rw [← HM.out,g1]; rfl,hb1⟩
 rcases g2:t.1 == 3 with _ | _
 case true =>
  go_enter Tryz.func244,Tryz.ntmps244;go_wp2_with fail
  refine cR con fun w1 hb1=>?_;have hf:=eL t.2.1 t.2.2 t.1 w1;go_wp2_with fail
  exact fa rfl rfl ⟨by rw [← HM.out,g1,g2]; rfl,hb1⟩
 rcases k0:bK ⟨#[45]⟩ (t :: r) with _ | _
 case true =>
  go_enter Tryz.func244,Tryz.ntmps244;go_wp2_with fail
  refine cR con fun w1 hb1=>?_;have hf:=eL t.2.1 t.2.2 t.1 w1;have con0:=iV (HR.out.next (hb1)) ⟨#[45]⟩;rw [k0] at con0;go_wp2_with fail
  refine cR con0 fun v0 c0=>?_;go_wp2_with fail
  exact fa rfl rfl ⟨by rw [← HM.out,g1,g2,k0]; rfl,chain (hb1) c0⟩
 rcases k1:bK ⟨#[110,117,108,108]⟩ (t :: r) with _ | _
 case true =>
  go_enter Tryz.func244,Tryz.ntmps244;go_wp2_with fail
  refine cR con fun w1 hb1=>?_;have hf:=eL t.2.1 t.2.2 t.1 w1;have con0:=iV (HR.out.next (hb1)) ⟨#[45]⟩;rw [k0] at con0;go_wp2_with fail
  refine cR con0 fun v0 c0=>?_;have con1:=iV (HR.out.next (chain (hb1) c0)) ⟨#[110,117,108,108]⟩;rw [k1] at con1;go_wp2_with fail
  refine cR con1 fun v1 c1=>?_;go_wp2_with fail
  exact fa rfl rfl ⟨by rw [← HM.out,g1,g2,k0,k1]; rfl,chain (chain (hb1) c0) c1⟩
 rcases k2:bK ⟨#[116,114,117,101]⟩ (t :: r) with _ | _
 case true =>
  go_enter Tryz.func244,Tryz.ntmps244;go_wp2_with fail
  refine cR con fun w1 hb1=>?_;have hf:=eL t.2.1 t.2.2 t.1 w1;have con0:=iV (HR.out.next (hb1)) ⟨#[45]⟩;rw [k0] at con0;go_wp2_with fail
  refine cR con0 fun v0 c0=>?_;have con1:=iV (HR.out.next (chain (hb1) c0)) ⟨#[110,117,108,108]⟩;rw [k1] at con1;go_wp2_with fail
  refine cR con1 fun v1 c1=>?_;have con2:=iV (HR.out.next (chain (chain (hb1) c0) c1)) ⟨#[116,114,117,101]⟩;rw [k2] at con2;go_wp2_with fail
  refine cR con2 fun v2 c2=>?_;go_wp2_with fail
  exact fa rfl rfl ⟨by rw [← HM.out,g1,g2,k0,k1,k2]; rfl,chain (chain (chain (hb1) c0) c1) c2⟩
 rcases k3:bK ⟨#[102,97,108,115,101]⟩ (t :: r) with _ | _
 case true =>
  go_enter Tryz.func244,Tryz.ntmps244;go_wp2_with fail
  refine cR con fun w1 hb1=>?_;have hf:=eL t.2.1 t.2.2 t.1 w1;have con0:=iV (HR.out.next (hb1)) ⟨#[45]⟩;rw [k0] at con0;go_wp2_with fail
  refine cR con0 fun v0 c0=>?_;have con1:=iV (HR.out.next (chain (hb1) c0)) ⟨#[110,117,108,108]⟩;rw [k1] at con1;go_wp2_with fail
  refine cR con1 fun v1 c1=>?_;have con2:=iV (HR.out.next (chain (chain (hb1) c0) c1)) ⟨#[116,114,117,101]⟩;rw [k2] at con2;go_wp2_with fail
  refine cR con2 fun v2 c2=>?_;have con3:=iV (HR.out.next (chain (chain (chain (hb1) c0) c1) c2)) ⟨#[102,97,108,115,101]⟩;rw [k3] at con3;go_wp2_with fail
  refine cR con3 fun v3 c3=>?_;go_wp2_with fail
  exact fa rfl rfl ⟨by rw [← HM.out,g1,g2,k0,k1,k2,k3]; rfl,chain (chain (chain (chain (hb1) c0) c1) c2) c3⟩
 go_enter Tryz.func244,Tryz.ntmps244;go_wp2_with fail
 refine cR con fun w1 hb1=>?_;have hf:=eL t.2.1 t.2.2 t.1 w1;have con0:=iV (HR.out.next (hb1)) ⟨#[45]⟩;rw [k0] at con0;go_wp2_with fail
 refine cR con0 fun v0 c0=>?_;have con1:=iV (HR.out.next (chain (hb1) c0)) ⟨#[110,117,108,108]⟩;rw [k1] at con1;go_wp2_with fail
 refine cR con1 fun v1 c1=>?_;have con2:=iV (HR.out.next (chain (chain (hb1) c0) c1)) ⟨#[116,114,117,101]⟩;rw [k2] at con2;go_wp2_with fail
 refine cR con2 fun v2 c2=>?_;have con3:=iV (HR.out.next (chain (chain (chain (hb1) c0) c1) c2)) ⟨#[102,97,108,115,101]⟩;rw [k3] at con3;go_wp2_with fail
 refine cR con3 fun v3 c3=>?_;go_wp2_with fail
 exact fa rfl rfl ⟨by rw [← HM.out,g1,g2,k0,k1,k2,k3]; rfl,chain (chain (chain (chain (hb1) c0) c1) c2) c3⟩
structure qF (W:World) (b off:Nat) (x:SX) (a:Option Addr) (cap:Nat):Prop where
 c0:W.cell? (af b off)=some (.int .i64 x.k)
 c1:W.cell? ⟨b,off+1,none⟩=some (.int .i64 x.v.1)
 c2:W.cell? ⟨b,off+2,none⟩=some (.int .i64 x.v.2.1)
 c3:W.cell? ⟨b,off+3,none⟩=some (.string x.v.2.2)
 c4:W.cell? ⟨b,off+4,none⟩=some (.string x.bp)
 c5:W.cell? ⟨b,off+5,none⟩=some (.string x.name)
 c6:W.cell? ⟨b,off+6,none⟩=some (.slice a x.ks.length cap)
theorem qF.kF {t:Nat} {W W':World} {b off:Nat} {x:SX} {a:Option Addr} {cap:Nat} (h:qF W b off x a cap) (hb:aj t W W') (hl:b<W.heap.size) (hn:b≠t):qF W' b off x a cap :=
 have f:∀ o,W'.cell? (af b o)=W.cell? (af b o):=fun o=>hb.cell (p:=af b o) hl hn
 ⟨(f _).trans h.c0,(f _).trans h.c1,(f _).trans h.c2,(f _).trans h.c3,(f _).trans h.c4,(f _).trans h.c5,(f _).trans h.c6⟩
def aI (g:Nat) (W W':World):Prop:=W.heap.size≤W'.heap.size∧∀ k,k<W.heap.size→k≠g→W'.heap[k]? = W.heap[k]?
theorem aj.k1 {t:Nat} {W W':World} (h:aj t W W'):aI t W W':=⟨h.size,h.2⟩
theorem aI.of {g:Nat} {W W':World} (h:Below W W W'):aI g W W':=⟨h.size,fun k hk _=>h.block k hk⟩
theorem aI.trans {g:Nat} {a b c:World} (h:aI g a b) (k:aI g b c):aI g a c:=⟨Jj h.1 k.1,fun i hi hn=>(k.2 i (Ja hi h.1) hn).trans (h.2 i hi hn)⟩
theorem aI.refl (g:Nat) (a:World):aI g a a:=⟨I6 _,fun _ _ _=>rfl⟩
theorem aI.set {g:Nat} {a b:World} (h:aI g a b) (o:Nat) (u:Value):aI g a (b.setCell (af g o) u) :=
 ⟨by simpa using h.1,fun k hk hn=>(JD b (af g o) u k hn).trans (h.2 k hk hn)⟩
theorem qF.k1 {t:Nat} {W W':World} {b off:Nat} {x:SX} {a:Option Addr} {cap:Nat} (h:qF W b off x a cap) (hb:aI t W W') (hl:b<W.heap.size) (hn:b≠t):qF W' b off x a cap :=
 have f:∀ o,W'.cell? (af b o)=W.cell? (af b o):=fun o=>Jp (a:=af b o) (hb.2 b hl hn)
 ⟨(f _).trans h.c0,(f _).trans h.c1,(f _).trans h.c2,(f _).trans h.c3,(f _).trans h.c4,(f _).trans h.c5,(f _).trans h.c6⟩
inductive aJ (S:Nat→Prop) (W:World):Option Addr→List SX→Prop
 | nil (a:Option Addr):aJ S W a []
 | some (b off:Nat) (l:List SX) (ai:Nat→Option Addr) (cap:Nat→Nat) (hb:S b) (hlt:b<W.heap.size)
   (hc:∀ (i:Nat) (h:i<l.length),qF W b (off+i*7) l[i] (ai i) (cap i))
   (hk:∀ (i:Nat) (h:i<l.length),aJ S W (ai i) l[i].ks):aJ S W (some (af b off)) l
theorem aJ.k1 {S:Nat→Prop} {g:Nat} {W W':World} (hb:aI g W W') (hg:¬ S g) {a:Option Addr} {l:List SX} (h:aJ S W a l):aJ S W' a l:=by
 induction h with
 | nil a=>exact .nil a
 | some b off l ai cap hR hlt hc _ ih=>exact .some b off l ai cap hR (Ja hlt hb.1) (fun i hi=>(hc i hi).k1 hb hlt (by rintro rfl; exact hg hR)) ih
theorem aJ.next {S:Nat→Prop} {W W':World} (hb:Below W W W') {a:Option Addr} {l:List SX} (h:aJ S W a l):aJ S W' a l:=by
 induction h with
 | nil a=>exact .nil a
 | some b off l ai cap hR hlt hc _ ih=>exact .some b off l ai cap hR (Ja hlt hb.size) (fun i hi=>(hc i hi).k1 (aI.of (g:=W.heap.size) hb) hlt ak) ih
theorem aJ.mono {S S':Nat→Prop} {W:World} (hs:∀ b,S b→b<W.heap.size→S' b) {a:Option Addr} {l:List SX} (h:aJ S W a l):aJ S' W a l:=by
 induction h with
 | nil a=>exact .nil a
 | some b off l ai cap hR hlt hc _ ih=>exact .some b off l ai cap (hs b hR hlt) hlt hc ih
theorem aJ.elem {S:Nat→Prop} {W:World} {a:Option Addr} {l:List SX} (h:aJ S W a l) {k:Nat} (hk:k<l.length) :
  ∃ b off ai cap,a=Option.some ⟨b,off,none⟩∧S b∧b<W.heap.size∧qF W b (off+k*7) l[k] ai cap∧aJ S W ai l[k].ks:=by
 cases h with
 | nil=>simp at hk
 | some b off l ai cap hb hlt hc hh=>exact ⟨b,off,ai k,cap k,rfl,hb,hlt,hc k hk,hh k hk⟩
abbrev df (B:Nat) (W:World) (a:Option Addr) (l:List SX):Prop:=aJ (fun b=>B≤b) W a l
theorem df.k1 {B g:Nat} {W W':World} (hb:aI g W W') (hg:g<B) {a:Option Addr} {l:List SX} (h:df B W a l):df B W' a l:=aJ.k1 hb (by show ¬ B≤g; omega) h
theorem df.next {B:Nat} {W W':World} (hb:Below W W W') {a:Option Addr} {l:List SX} (h:df B W a l):df B W' a l:=aJ.next hb h
theorem df.mono {B B':Nat} {W:World} (hB:B'≤B) {a:Option Addr} {l:List SX} (h:df B W a l):df B' W a l:=aJ.mono (fun _ h _=>Jj hB h) h
abbrev bE (x:SX) (a:Option Addr) (cap:Nat):Array Value:=#[x.k,x.v.1,x.v.2.1,x.v.2.2,x.bp,x.name,.slice a x.ks.length cap]
def VX (B:Nat) (W:World) (v:Value) (x:SX):Prop:=∃ a cap,v = .agg (bE x a cap)∧df B W a x.ks
theorem VX.k1 {B g:Nat} {W W':World} (hb:aI g W W') (hg:g<B) {v:Value} {x:SX} (h:VX B W v x):VX B W' v x:=by
 obtain ⟨a,cap,h1,h2⟩:=h;exact ⟨a,cap,h1,h2.k1 hb hg⟩
theorem VX.mono {B B':Nat} {W:World} (hB:B'≤B) {v:Value} {x:SX} (h:VX B W v x):VX B' W v x:=by
 obtain ⟨a,cap,h1,h2⟩:=h;exact ⟨a,cap,h1,h2.mono hB⟩
theorem aR.k1 {W w1:World} {R tb g:Nat} {ts:List Tk} {o:Int} (h:aR W R tb ts o) (hk:aI g W w1) (h1:g≠R) (h2:g≠tb) (h3:1<g):aR w1 R tb ts o:=by
 obtain ⟨off,cap,e1,e2,e3⟩:=h.ex;have f:∀ o,w1.cell? (af tb o)=W.cell? (af tb o):=fun o=>Jp (a:=af tb o) (hk.2 tb e3.lt (Ne.symm h2))
 exact ⟨⟨off,cap,(hk.2 _ (lt_of_heap e1) (Ne.symm h1)).trans e1,e2,⟨Ja e3.lt hk.1,fun i hi=>(f _).trans (e3.c0 i hi),fun i hi=>(f _).trans (e3.c1 i hi),fun i hi=>(f _).trans (e3.c2 i hi)⟩⟩,h.ne,h.iU,h.small,⟨Ja h.gl.lt hk.1,fun j hj=>(Jp (a:=⟨1,j,none⟩) (hk.2 1 h.gl.lt ak)).trans (h.gl.inf j hj),fun j hj=>(Jp (a:=⟨0,j,none⟩) (hk.2 0 (by have:=h.gl.lt; omega) ak)).trans (h.gl.sig j hj)⟩,h.r2⟩
theorem aR.lK {W:World} {R tb:Nat} {ts:List Tk} {o:Int} (h:aR W R tb ts o):tb<W.heap.size:=by
 obtain ⟨_,_,_,_,h⟩:=h.ex;exact h.lt
theorem gF (k:Int) (a:Option Addr) (n cap:Nat) (w:World):Calls Tryz.prog 221 #[k,.slice a n cap] w fun e w'=>e = .returned (.agg #[k,aB,aB,(),(),(),.slice a n cap])∧Below w w w':=by
 go_enter Tryz.func221,Tryz.ntmps221;go_wp2_with fail
 exact I7 (v:=.agg #[k,aB,aB,(),(),(),.slice a n cap]) (by simp [results,Tryz.results221,go_sem]) rfl ⟨rfl,bR ..⟩
theorem aR.hH {W:World} {R tb:Nat} {ts:List Tk} {o:Int} (h:aR W R tb ts o) (o':Int):aR (W.setCell (af R 1) o') R tb ts o'∧aj R W (W.setCell (af R 1) o'):=by
 obtain ⟨off,cap,e1,e2,e3⟩:=h.ex;have hb:aj R W (W.setCell (af R 1) o'):=(aj.refl _ _).set _ _;exact ⟨⟨⟨off,cap,I5 W R 1 _ _ o' e1,e2,e3.kF hb h.ne⟩,h.ne,h.iU,h.small,h.gl.kF hb h.r2,h.r2⟩,hb⟩
theorem jm {W:World} {b o:Nat} {u:Value} (hc:W.cell? (af b o)=some u):b<W.heap.size:=by
 rcases Jw b W with h' | h'
 ·exact h'
 ·simp [World.cell?,JF h'] at hc
theorem aN {W:World} {g:Nat} {T:TypeId} {c0 c1 c2 c3 c4 c5 c6:Value} (h:W.heap[g]? = some (.cells #[c0,c1,c2,c3,c4,c5,c6] T (0,0))):W.cell? (af g 0)=some c0∧W.cell? (af g 1)=some c1∧W.cell? (af g 2)=some c2∧W.cell? (af g 3)=some c3∧W.cell? (af g 4)=some c4∧W.cell? (af g 5)=some c5∧W.cell? (af g 6)=some c6 :=
 ⟨cell_of (i:=0) h rfl,cell_of (i:=1) h rfl,cell_of (i:=2) h rfl,cell_of (i:=3) h rfl,cell_of (i:=4) h rfl,cell_of (i:=5) h rfl,cell_of (i:=6) h rfl⟩
theorem dT {W:World} {g:Nat} {T:TypeId} {c0 c1 c2 c3 c4 c5 c6:Value} (h:W.heap[g]? = some (.cells #[c0,c1,c2,c3,c4,c5,c6] T (0,0))):W.frozen? (af g 0)=false∧W.frozen? (af g 1)=false∧W.frozen? (af g 2)=false∧W.frozen? (af g 3)=false∧W.frozen? (af g 4)=false∧W.frozen? (af g 5)=false∧W.frozen? (af g 6)=false :=
 ⟨I0 W g 0 _ _ h,I0 W g 1 _ _ h,I0 W g 2 _ _ h,I0 W g 3 _ _ h,I0 W g 4 _ _ h,I0 W g 5 _ _ h,I0 W g 6 _ _ h⟩
theorem mo {W:World} {g:Nat} {T:TypeId} {c0 c1 c2 c3 c4 c5 c6:Value} (h:W.heap[g]? = some (.cells #[c0,c1,c2,c3,c4,c5,c6] T (0,0))) (v0 v1 v2 v3 v4 v5 v6:Value):(((((((W.setCell (af g 0) v0).setCell (af g 1) v1).setCell (af g 2) v2).setCell (af g 3) v3).setCell (af g 4) v4).setCell (af g 5) v5).setCell (af g 6) v6).heap[g]? = some (.cells #[v0,v1,v2,v3,v4,v5,v6] T (0,0)):=by
 have h:=I5 _ g 0 _ _ v0 h;have h:=I5 _ g 1 _ _ v1 h;have h:=I5 _ g 2 _ _ v2 h;have h:=I5 _ g 3 _ _ v3 h;have h:=I5 _ g 4 _ _ v4 h;have h:=I5 _ g 5 _ _ v5 h;have h:=I5 _ g 6 _ _ v6 h;exact h
theorem Ba {t g:Nat} {W0 W:World} (h:aj t W0 W) (hg:W0.heap.size≤g) (ht:t≤W0.heap.size) (v0 v1 v2 v3 v4 v5 v6:Value):aj t W0 (((((((W.setCell (af g 0) v0).setCell (af g 1) v1).setCell (af g 2) v2).setCell (af g 3) v3).setCell (af g 4) v4).setCell (af g 5) v5).setCell (af g 6) v6) :=
 (((((((h.aW g 0 _ hg ht).aW g 1 _ hg ht).aW g 2 _ hg ht).aW g 3 _ hg ht).aW g 4 _ hg ht).aW g 5 _ hg ht).aW g 6 _ hg ht)
theorem Gx {g:Nat} {W0 W:World} (h:Below W0 W0 W) (hg:W0.heap.size≤g) (v0 v1 v2 v3 v4 v5 v6:Value):Below W0 W0 (((((((W.setCell (af g 0) v0).setCell (af g 1) v1).setCell (af g 2) v2).setCell (af g 3) v3).setCell (af g 4) v4).setCell (af g 5) v5).setCell (af g 6) v6) :=
 (((((((h.setCell (p:=af g 0) hg _).setCell (p:=af g 1) hg _).setCell (p:=af g 2) hg _).setCell (p:=af g 3) hg _).setCell (p:=af g 4) hg _).setCell (p:=af g 5) hg _).setCell (p:=af g 6) hg _)
abbrev gQ:Array Value:=#[aB,aB,aB,(),(),(),aL]
theorem kV {w:World} {R tb q:Nat} {ts:List Tk} {o:Int} (h:aR w R tb ts o) (hq:w.cell? (af q 0)=some (.pointer (some (af R 0)))) (ho:-1000≤o∧o≤1000) (u:FrameMode) :
  CallsD Tryz.prog 218 #[af q 0] u w fun e u' w'=>u'=u∧(e = .returned (.tuple #[])∧w'=w.setCell (af R 1) (.int .i64 (o - 1))):=by
 obtain ⟨off,cap,e1,e2,e3⟩:=h.ex;have c1:=cell_of (i:=1) e1 rfl;have f1:=I0 w R 1 _ _ e1;clear h e1 e2 e3;go_enter_d Tryz.func218,Tryz.ntmps218
 go_wp2_with fail
 go_end0
 exact ⟨rfl,rfl⟩
theorem Ai {w:World} {R tb q:Nat} {ts:List Tk} {o:Int} (h:aR w R tb ts o) (hq:w.cell? (af q 0)=some (.pointer (some (af R 0)))) (hqR:q≠R) (ho:0≤o∧o≤100) (r:PR SX)
  (hf:o+1≤100→∀ W,aj R w W→aR W R tb ts (o+1)→W.cell? (af q 0)=some (.pointer (some (af R 0)))→Calls Tryz.prog 196 #[af q 0] W (Ends R tb (o+1) W (VX W) r)) :
  Calls Tryz.prog 195 #[af R 0,.func (.func 196) #[] #[af q 0]] w (Ends R tb o w (VX w) (if o+1 > 100 then .error (4,iI ts) else r)):=by
 have hmf:∀ (fn:Fn) (first cap:Array Value) (w:World),(Instr.makeFunc fn first cap).run Tryz.prog w = .ok (.func fn first cap) w:=fun _ _ _ _=>rfl
 obtain ⟨off,cap,e1,e2,e3⟩:=h.ex;have hR:=h.lt;have HTB:w.heap.size+1≠tb:=by have:=e3.lt; omega
 have HR:=ah h;have a1:=cell_of (i:=1) e1 rfl;have f1:=I0 w R 1 _ _ e1;have HF:=ah hf;clear h e1 e2 e3 hf;generalize hM:(if o+1 > 100 then Except.error (4,iI ts) else r:PR SX)=M;have HM:=ah hM;clear hM;go_enter_defers Tryz.func195,Tryz.ntmps195
 go_upto_region 3 with fail
 have hset:=HR.out.hH (o+1);obtain ⟨hR1,hb1⟩:=hset;have hz1:(w.setCell (af R 1) (.int .i64 (o+1))).heap.size=w.heap.size:=World.size_setCell ..;have HR1:=ah hR1;clear hR1;generalize w.setCell _ _=w1 at *;have hA:Below w1 w1 ((w1.alloc (.cells #[af R 0] 155)).alloc (.cells gQ 55)):=(bR ..).alloc (by simp) _
 have Q1:((w1.alloc (.cells #[af R 0] 155)).alloc (.cells gQ 55)).heap[w.heap.size]? = some (.cells #[af R 0] 155 (0,0)):=by
  rw [← hz1];exact ((bR ..).block _ (by simp)).trans (aD w1 _ _)
 have Q2:((w1.alloc (.cells #[af R 0] 155)).alloc (.cells gQ 55)).heap[w.heap.size+1]? = some (.cells gQ 55 (0,0)):=by
  rw [show w.heap.size+1=(w1.alloc (.cells #[af R 0] 155)).heap.size by simp [hz1]];exact aD _ _ _
 generalize ((w1.alloc (.cells #[af R 0] 155)).alloc (.cells gQ 55))=w2 at *;have hb2:aj R w w2:=hb1.trans (.of hA ak);have hR2:=HR1.out.next hA;have HR2:=ah hR2;have hq2:w2.cell? (af q 0)=some (.pointer (some (af R 0))):=by
  have hlt:=jm hq;exact (hb2.cell (p:=af q 0) hlt hqR).trans hq
 have HQ2:=ah hq2;obtain ⟨off,cap,e1,e2,e3⟩:=hR2.ex;have d1:=cell_of (i:=1) e1 rfl;have d2:=cell_of (i:=0) Q1 rfl;have ltR:=hR2.lt;clear hR2 e1 e2 e3 a1 f1 hq hq2 hA hb1;by_cases hbig:o+1 > 100
 ·have hbig':100<o+1:=by omega
  have e:M = .error (4,iI ts):=by rw [← HM.out,if_pos hbig]
  subst e;obtain ⟨t,rs,ets⟩:=HR2.out.iU.ne;subst ets;have con:=fj HR2.out 4;clear HF HM;go_wp2_with fail
  refine cR con fun w3 hb3=>?_;have hR3:=HR2.out.next hb3;have q3:=cell_of (i:=0) (bH hb3 Q1) rfl;have dcon:=kV hR3 q3 ak (.panicking [ie 4 (iI (t :: rs))]);have hx:=(hR3.hH (o+1 - 1)).2;go_wp2_with fail
  refine leaves_cons (f:=218) (args:=#[af w 0]) (by simp) (by simp [go_sem]) ?_;refine dcon.mono ?_;rintro e u' w4 ⟨rfl,rfl,rfl⟩;show Leaves Tryz.prog Tryz.f195 _ _ [] _ _;simp only [Leaves,settle,ie];exact Ends.err (c:=(4,iI (t :: rs))) rfl ((hb2.trans (.of hb3 ak)).trans hx) (by simpa using (hR3.hH (o+1 - 1)).1)
 ·have hbig':¬ 100<o+1:=by omega
  have e:M=r:=by rw [← HM.out,if_neg hbig]
  subst e;have con:=HF.out ak w2 hb2 HR2.out HQ2.out;clear HF HM;go_wp2_with fail
  refine con.mono ?_;rintro e w3 ⟨hb3,h3⟩;have Q13:=(hb3.2 _ (lt_of_heap Q1) ak).trans Q1;have Q23:=(hb3.2 _ (lt_of_heap Q2) ak).trans Q2;have q3:=cell_of (i:=0) Q13 rfl;rcases M with c | ⟨x,rs⟩
  ·obtain ⟨rfl,us,h3⟩:=h3;have hs:=h3.hH (o+1 - 1);have dcon:=kV h3 q3 ak (.panicking [ie c.1 c.2]);clear h3;go_wp2_with fail
   refine leaves_cons (f:=218) (args:=#[af w 0]) (by simp) (by simp [go_sem]) ?_;refine dcon.mono ?_;rintro e u' w4 ⟨rfl,rfl,rfl⟩;show Leaves Tryz.prog Tryz.f195 _ _ [] _ _;simp only [Leaves,settle,ie];exact Ends.err (c:=c) rfl ((hb2.trans hb3).trans hs.2) (by simpa using hs.1)
  ·obtain ⟨v,rfl,⟨a,cap,rfl,hks⟩,hR3⟩:=h3;obtain ⟨z0,z1,z2,z3,z4,z5,z6⟩:=aN Q23;obtain ⟨y0,y1,y2,y3,y4,y5,y6⟩:=dT Q23;have HR3:=ah hR3;have HK:=ah hks;clear hR3 hks;go_wp2_with fail
   have QE:=mo Q23 x.k x.v.1 x.v.2.1 x.v.2.2 x.bp x.name (.slice a x.ks.length cap)
   have hb4:aj R w (((((((w3.setCell (af (w+1) 0) x.k).setCell (af (w+1) 1) x.v.1).setCell (af (w+1) 2) x.v.2.1).setCell (af (w+1) 3) x.v.2.2).setCell (af (w+1) 4) x.bp).setCell (af (w+1) 5) x.name).setCell (af (w+1) 6) (.slice a x.ks.length cap)):=Ba (hb2.trans hb3) ak ak _ _ _ _ _ _ _
   have hk4:aI (w+1) w3 (((((((w3.setCell (af (w+1) 0) x.k).setCell (af (w+1) 1) x.v.1).setCell (af (w+1) 2) x.v.2.1).setCell (af (w+1) 3) x.v.2.2).setCell (af (w+1) 4) x.bp).setCell (af (w+1) 5) x.name).setCell (af (w+1) 6) (.slice a x.ks.length cap)):=(((((((aI.refl _ _).set _ _).set _ _).set _ _).set _ _).set _ _).set _ _).set _ _
   generalize (((((((w3.setCell (af (w+1) 0) x.k).setCell (af (w+1) 1) x.v.1).setCell (af (w+1) 2) x.v.2.1).setCell (af (w+1) 3) x.v.2.2).setCell (af (w+1) 4) x.bp).setCell (af (w+1) 5) x.name).setCell (af (w+1) 6) (.slice a x.ks.length cap))=w4 at *;have hR4:=HR3.out.k1 hk4 ak HTB (by have:=HR3.out.r2; omega)
   have q4:=(Jp (a:=af w 0) (hk4.2 w (jm q3) ak)).trans q3;have hs:=hR4.hH (o+1 - 1);have dcon:=kV hR4 q4 ak .returning;refine leaves_cons (f:=218) (args:=#[af w 0]) (by simp) (by simp [go_sem]) ?_;refine dcon.mono ?_;rintro e u' w5 ⟨rfl,rfl,rfl⟩;show Leaves Tryz.prog Tryz.f195 _ _ [] _ _;have QE5:=(hs.2.2 _ (lt_of_heap QE) ak).trans QE;have hb5:=hb4.trans hs.2
   have hR5:aR (w4.setCell (af R 1) (.int .i64 (o+1 - 1))) R tb rs o:=by simpa using hs.1
   have hz2:=hb2.size;have HK5:=((HK.out.k1 hk4 (by have:=lt_of_heap Q2; omega)).k1 hs.2.k1 ak).mono ak;generalize w4.setCell _ _=w5 at *;obtain ⟨x0,x1,x2,x3,x4,x5,x6⟩:=aN QE5;refine ⟨.agg (bE x a cap),by simp [results,Tryz.results195,go_sem,x0,x1,x2,x3,x4,x5,x6],?_⟩;exact Ends.cK rfl hb5 ⟨a,cap,rfl,HK5⟩ hR5
def vU:List Value:=[.int .i64 5,.string ⟨#[111,114]⟩,.int .i64 1,.int .i64 4,.string ⟨#[97,110,100]⟩,.int .i64 2,.int .i64 6,.string ⟨#[61]⟩,.int .i64 4,.int .i64 7,.string ⟨#[60,62]⟩,.int .i64 4,.int .i64 8,.string ⟨#[60]⟩,.int .i64 4,.int .i64 9,.string ⟨#[60,61]⟩,.int .i64 4,.int .i64 10,.string ⟨#[62]⟩,.int .i64 4,.int .i64 11,.string ⟨#[62,61]⟩,.int .i64 4,.int .i64 12,.string ⟨#[43]⟩,.int .i64 5,.int .i64 13,.string ⟨#[45]⟩,.int .i64 5,.int .i64 14,.string ⟨#[42]⟩,.int .i64 6,.int .i64 15,.string ⟨#[124,124]⟩,.int .i64 7]
theorem Gl.range {W:World} (h:Gl W):W.rangeAt 1 0 vU:=fun j v hj=>by
 have hl:j<36:=by
  rcases Jw j 36 with h | h
  ·exact h
  ·rw [Jy (by simpa [vU] using h)] at hj; cases hj
 rw [Jm,h.inf j hl,← hj];show vU.toArray[j]? = vU[j]?;simp
theorem xl (k:Nat) (h:k<12) (w:World):(Instr.index 232 (.agg vU.toArray) (.int .i64 k)).run Tryz.prog w = .ok (.agg #[.int .i64 (dV[k]'(by simpa [dV] using h)).1,.string (dV[k]'(by simpa [dV] using h)).2.1,.int .i64 (dV[k]'(by simpa [dV] using h)).2.2]) w:=by
 rcases k with _ | _ | _ | _ | _ | _ | _ | _ | _ | _ | _ | _ | k
 all_goals first | (exfalso; omega) | kernel_rfl
theorem zc (lvl:Int) (ts:List Tk) (k:Nat) (h:k<dV.length):dP lvl ts (dV.drop k)=if dV[k].2.2=lvl∧bK dV[k].2.1 ts=true then (dV[k].1,aC ts) else dP lvl ts (dV.drop (k+1)):=by
 rw [I9 h,dP]
theorem sj {w:World} {R tb:Nat} {ts:List Tk} {o:Int} (h:aR w R tb ts o) (lvl:Int):Calls Tryz.prog 220 #[.pointer (some ⟨R,0,none⟩),.int .i64 lvl] w fun e w'=>e = .returned (.int .i64 (cC lvl ts).1)∧aR w' R tb (cC lvl ts).2 o∧aj R w w':=by
 have HR:=ah h;generalize hM:cC lvl ts=M;have HM:=ah hM;have hr:=h.gl.range;clear h hM;go_enter Tryz.func220,Tryz.ntmps220;go_upto_region 1 with fail
 refine wp_region_lit ?_;refine wpList_load_mid rfl 232 _ rfl 1 0 rfl vU (.array 12 201) hr bm rfl bm ?_;simp only [Act.put,pA,pB,pC];go_wp2_with fail
 clear hr;go_loopw [8] (fun i wr=>∃ k:Nat,k≤12∧i = .int .i64 k∧Hid (dP lvl ts (dV.drop k)=M)∧aj R w wr∧Hid (aR wr R tb ts o)) (fun i _=>12 - (intOf i).toNat)
 case atStart=>exact ⟨0,by omega,rfl,HM,aj.refl _ _,HR⟩
 case round =>
  obtain ⟨k,hk,rfl,HK,hx,HW⟩:=hrel;by_cases hlt:k<12
  ·have hkz:(k:Int)<12:=by omega
   have hid:=xl k hlt wr;have hkl:k<dV.length:=by simpa [dV] using hlt
   have HG:=zc lvl ts k hkl;have HG2:=ah (HG.symm.trans HK.out);clear HG HK;generalize dV[k]=e at *;have hltR:=HW.out.lt;obtain ⟨hal,hq⟩:=dZ wr #[e.1,e.2.1,e.2.2] 201;rcases hl:e.2.2 == lvl with _ | _
   ·have HG3:Hid (dP lvl ts (dV.drop (k+1))=M):=by
     show _=_;rw [← HG2.out,if_neg (fun c=>by rw [c.1] at hl; simp at hl)]
    clear HG2;go_wp2_with fail
    go_roundw
    case rel=>exact ⟨k+1,by omega,by go_num,HG3,hx.trans (.of hal ak),HW.out.next hal⟩
    case measure=>simp [intOf]; omega
   ·have hle:e.2.2=lvl:=by simpa using hl
    rw [hle] at hal hq;have con:=aY (HW.out.next hal) e.2.1;rcases hi:bK e.2.1 ts with _ | _
    ·have HG3:Hid (dP lvl ts (dV.drop (k+1))=M):=by
      show _=_;rw [← HG2.out,if_neg (fun c=>by rw [hi] at c; exact absurd c.2 (by simp))]
     clear HG2;rw [hi,bT hi] at con;go_wp2_with fail
     refine con.mono ?_;rintro e' w1 ⟨rfl,h1,hx1⟩;have H1:=ah h1;clear con h1;go_wp2_with fail
     go_roundw
     case rel=>exact ⟨k+1,by omega,by go_num,HG3,(hx.trans (.of hal ak)).trans hx1,H1⟩
     case measure=>simp [intOf]; omega
    ·have e2:M=(e.1,aC ts):=by rw [← HG2.out,if_pos ⟨hle,hi⟩]
     subst e2;clear HG2;rw [hi,cG hi] at con;go_wp2_with fail
     refine con.mono ?_;rintro e' w1 ⟨rfl,h1,hx1⟩;have H1:=ah h1;have q1:=(hx1.2 _ (lt_of_heap hq) ak).trans hq;have c0:=cell_of (i:=0) q1 rfl;clear con h1;go_wp2_with fail
     exact fa rfl rfl ⟨fQ,H1.out,(hx.trans (.of hal ak)).trans hx1⟩
  ·have hkz:¬ (k:Int)<12:=by omega
   have e2:M=(0,ts):=by rw [← HK.out,Jh (by show 12≤k; omega)]; rfl
   subst e2;clear HK;go_wp2_with fail
   exact fa rfl rfl ⟨fQ,HW.out,hx⟩
theorem gD {w W:World} {R tb g:Nat} {S:Nat→Prop} {rs:List Tk} {o:Int} {x:SX} {a:Option Addr} {cap:Nat} {c0 c1 c2 c3 c4 c5 c6:Value} (Q:W.heap[g]? = some (.cells #[c0,c1,c2,c3,c4,c5,c6] 55 (0,0))) (hR:aR W R tb rs o) (hk:aJ S W a x.ks) (hb:aj R w W) (h1:w.heap.size≤g) (h2:¬ S g) (h3:R<w.heap.size) (h4:tb<w.heap.size) :
  (((((((W.setCell (af g 0) x.k).setCell (af g 1) x.v.1).setCell (af g 2) x.v.2.1).setCell (af g 3) x.v.2.2).setCell (af g 4) x.bp).setCell (af g 5) x.name).setCell (af g 6) (.slice a x.ks.length cap)).heap[g]? = some (.cells (bE x a cap) 55 (0,0))∧aR (((((((W.setCell (af g 0) x.k).setCell (af g 1) x.v.1).setCell (af g 2) x.v.2.1).setCell (af g 3) x.v.2.2).setCell (af g 4) x.bp).setCell (af g 5) x.name).setCell (af g 6) (.slice a x.ks.length cap)) R tb rs o∧aJ S (((((((W.setCell (af g 0) x.k).setCell (af g 1) x.v.1).setCell (af g 2) x.v.2.1).setCell (af g 3) x.v.2.2).setCell (af g 4) x.bp).setCell (af g 5) x.name).setCell (af g 6) (.slice a x.ks.length cap)) a x.ks∧aj R w (((((((W.setCell (af g 0) x.k).setCell (af g 1) x.v.1).setCell (af g 2) x.v.2.1).setCell (af g 3) x.v.2.2).setCell (af g 4) x.bp).setCell (af g 5) x.name).setCell (af g 6) (.slice a x.ks.length cap))∧aI g W (((((((W.setCell (af g 0) x.k).setCell (af g 1) x.v.1).setCell (af g 2) x.v.2.1).setCell (af g 3) x.v.2.2).setCell (af g 4) x.bp).setCell (af g 5) x.name).setCell (af g 6) (.slice a x.ks.length cap)):=by
 have hk1:aI g W (((((((W.setCell (af g 0) x.k).setCell (af g 1) x.v.1).setCell (af g 2) x.v.2.1).setCell (af g 3) x.v.2.2).setCell (af g 4) x.bp).setCell (af g 5) x.name).setCell (af g 6) (.slice a x.ks.length cap)):=(((((((aI.refl _ _).set _ _).set _ _).set _ _).set _ _).set _ _).set _ _).set _ _;exact ⟨mo Q _ _ _ _ _ _ _,hR.k1 hk1 ak ak (by have:=hR.r2; omega),hk.k1 hk1 h2,Ba hb h1 ak _ _ _ _ _ _ _,hk1⟩
theorem dR {w W:World} {R tb g B:Nat} {rs:List Tk} {o:Int} {x:SX} {a:Option Addr} {cap:Nat} {c0 c1 c2 c3 c4 c5 c6:Value} (Q:W.heap[g]? = some (.cells #[c0,c1,c2,c3,c4,c5,c6] 55 (0,0))) (hR:aR W R tb rs o) (hk:df B W a x.ks) (hb:aj R w W) (h1:w.heap.size≤g) (h2:g<B) (h3:R<w.heap.size) (h4:tb<w.heap.size) :
  (((((((W.setCell (af g 0) x.k).setCell (af g 1) x.v.1).setCell (af g 2) x.v.2.1).setCell (af g 3) x.v.2.2).setCell (af g 4) x.bp).setCell (af g 5) x.name).setCell (af g 6) (.slice a x.ks.length cap)).heap[g]? = some (.cells (bE x a cap) 55 (0,0))∧aR (((((((W.setCell (af g 0) x.k).setCell (af g 1) x.v.1).setCell (af g 2) x.v.2.1).setCell (af g 3) x.v.2.2).setCell (af g 4) x.bp).setCell (af g 5) x.name).setCell (af g 6) (.slice a x.ks.length cap)) R tb rs o∧df B (((((((W.setCell (af g 0) x.k).setCell (af g 1) x.v.1).setCell (af g 2) x.v.2.1).setCell (af g 3) x.v.2.2).setCell (af g 4) x.bp).setCell (af g 5) x.name).setCell (af g 6) (.slice a x.ks.length cap)) a x.ks∧aj R w (((((((W.setCell (af g 0) x.k).setCell (af g 1) x.v.1).setCell (af g 2) x.v.2.1).setCell (af g 3) x.v.2.2).setCell (af g 4) x.bp).setCell (af g 5) x.name).setCell (af g 6) (.slice a x.ks.length cap)):=by
 obtain ⟨p1,p2,p3,p4,_⟩:=gD (cap:=cap) Q hR hk hb h1 (by show ¬ B≤g; omega) h3 h4;exact ⟨p1,p2,p3,p4⟩
def mD (F:Nat) (args:List Value) (p:List Tk→PR SX) (o:Int):Prop:=∀ (w:World) (R tb:Nat) (ts:List Tk),aR w R tb ts o→p ts≠eG→Calls Tryz.prog F (Value.pointer (some (af R 0)) :: args).toArray w (Ends R tb o w (VX w) (p ts))
theorem BJ {n:Nat} {o:Int} (hc:mD 197 [.int .i64 1] (cd n 1 o) o) {w:World} {R tb q:Nat} {ts:List Tk} (h:aR w R tb ts o) (hq:w.cell? (af q 0)=some (.pointer (some (af R 0)))) (hf:cd n 1 o ts≠eG):Calls Tryz.prog 196 #[af q 0] w (Ends R tb o w (VX w) (cd n 1 o ts)):=by
 have hltR:=h.lt;have hltT:=h.lK;have hltq:=jm hq;obtain ⟨hal,QZ0⟩:=dZ w gQ 55;have con:=hc (w.alloc (.cells gQ 55)) R tb ts (h.next hal) hf;have hz:=hal.size;have hz':=lt_of_heap QZ0;generalize cd n 1 o ts=M at *;clear hc hf h;go_enter Tryz.func196,Tryz.ntmps196;go_wp2_with fail
 generalize w.alloc _=w1 at *;refine con.mono ?_;rintro e w2 ⟨hb2,hW⟩;have QZ:=(hb2.2 _ (lt_of_heap QZ0) ak).trans QZ0;clear con;rcases M with c | ⟨x,rs⟩
 ·obtain ⟨rfl,us,hE⟩:=hW;have HE:=ah hE;clear hE;go_wp2_with fail
  exact ⟨rfl,Ends.err rfl ((aj.of hal ak).trans hb2) HE.out⟩
 ·obtain ⟨v,rfl,⟨a,cap,rfl,hks⟩,hRW⟩:=hW;obtain ⟨z0,z1,z2,z3,z4,z5,z6⟩:=aN QZ;obtain ⟨y0,y1,y2,y3,y4,y5,y6⟩:=dT QZ;have HRW:=ah hRW;have HKW:=ah hks;clear hRW hks;go_wp2_with fail
  obtain ⟨QE,hRE,hKE,hbE⟩:=dR (w:=w) (cap:=cap) QZ HRW.out HKW.out ((aj.of hal ak).trans hb2) ak ak hltR hltT;generalize (((((((w2.setCell (af w 0) x.k).setCell (af w 1) x.v.1).setCell (af w 2) x.v.2.1).setCell (af w 3) x.v.2.2).setCell (af w 4) x.bp).setCell (af w 5) x.name).setCell (af w 6) (.slice a x.ks.length cap))=wE at *;obtain ⟨x0,x1,x2,x3,x4,x5,x6⟩:=aN QE
  exact I7 (v:=.agg (bE x a cap)) (by simp [results,Tryz.results196,go_sem,x0,x1,x2,x3,x4,x5,x6]) rfl (Ends.cK rfl hbE ⟨a,cap,rfl,hKE.mono ak⟩ hRE)
theorem xS {n:Nat} {o:Int} (ho:0≤o∧o≤100) (hc:o+1≤100→mD 197 [.int .i64 1] (cd n 1 (o+1)) (o+1)):mD 164 [] (dy (n+1) o) o:=by
 intro w R tb ts h hf;have hmf:∀ (fn:Fn) (first cap:Array Value) (w:World),(Instr.makeFunc fn first cap).run Tryz.prog w = .ok (.func fn first cap) w:=fun _ _ _ _=>rfl
 rw [dy] at hf ⊢;have hltR:=h.lt;have hltT:=h.lK;have hA:Below w w ((w.alloc (.cells #[af R 0] 155)).alloc (.cells gQ 55)):=(bR ..).alloc (by simp) _;have QB:((w.alloc (.cells #[af R 0] 155)).alloc (.cells gQ 55)).heap[w.heap.size]? = some (.cells #[af R 0] 155 (0,0)):=((bR ..).block _ (by simp)).trans (aD w _ _)
 have QZ0:((w.alloc (.cells #[af R 0] 155)).alloc (.cells gQ 55)).heap[w.heap.size+1]? = some (.cells gQ 55 (0,0)):=by
  rw [show w.heap.size+1=(w.alloc (.cells #[af R 0] 155)).heap.size by simp];exact aD _ _ _
 have HR:=ah h;clear h;have b0:=cell_of (i:=0) QB rfl;have B0:=ah b0;clear b0;have con:=Ai (HR.out.next hA) B0.out ak ho (cd n 1 (o+1) ts) (fun h100 W hbW hRW hqW=>BJ (hc h100) hRW hqW (by rw [if_neg ak] at hf; exact hf))
 generalize (if o+1 > 100 then Except.error (4,iI ts) else cd n 1 (o+1) ts:PR SX)=M at *;have hz':=lt_of_heap QZ0;clear hc hf;go_enter Tryz.func164,Tryz.ntmps164;go_wp2_with fail
 generalize w.alloc _=w1 at *;refine con.mono ?_;rintro e w2 ⟨hb2,hW⟩;have QZ:=(hb2.2 _ (lt_of_heap QZ0) ak).trans QZ0;clear con;rcases M with c | ⟨x,rs⟩
 ·obtain ⟨rfl,us,hE⟩:=hW;have HE:=ah hE;clear hE;go_wp2_with fail
  exact ⟨rfl,Ends.err rfl ((aj.of hA ak).trans hb2) HE.out⟩
 ·obtain ⟨v,rfl,⟨a,cap,rfl,hks⟩,hRW⟩:=hW;obtain ⟨z0,z1,z2,z3,z4,z5,z6⟩:=aN QZ;obtain ⟨y0,y1,y2,y3,y4,y5,y6⟩:=dT QZ;have HRW:=ah hRW;have HKW:=ah hks;clear hRW hks;go_wp2_with fail
  obtain ⟨QE,hRE,hKE,hbE⟩:=dR (w:=w) (cap:=cap) QZ HRW.out HKW.out ((aj.of hA ak).trans hb2) ak ak hltR hltT;generalize (((((((w2.setCell (af (w+1) 0) x.k).setCell (af (w+1) 1) x.v.1).setCell (af (w+1) 2) x.v.2.1).setCell (af (w+1) 3) x.v.2.2).setCell (af (w+1) 4) x.bp).setCell (af (w+1) 5) x.name).setCell (af (w+1) 6) (.slice a x.ks.length cap))=wE at *;obtain ⟨x0,x1,x2,x3,x4,x5,x6⟩:=aN QE
  exact I7 (v:=.agg (bE x a cap)) (by simp [results,Tryz.results164,go_sem,x0,x1,x2,x3,x4,x5,x6]) rfl (Ends.cK rfl hbE ⟨a,cap,rfl,hKE.mono ak⟩ hRE)
theorem vN {n:Nat} {lvl o:Int} (hd:lvl=3→mD 233 [] (cJ n o) o) (hp:lvl=8→mD 234 [] (cI n o) o) (hc:lvl≠3→lvl≠8→mD 197 [.int .i64 lvl] (cd n lvl o) o):mD 219 [.int .i64 lvl] (dj (n+1) lvl o) o:=by
 intro w R tb ts h hf;rw [dj] at hf ⊢;have hltR:=h.lt;have hltT:=h.lK;obtain ⟨hal,QZ0⟩:=dZ w gQ 55;have hz':=lt_of_heap QZ0;have hR1:=h.next hal;clear h;by_cases h3:lvl=3
 case pos =>
  subst h3;rw [if_pos rfl] at hf ⊢;generalize hMM:cJ n o ts=M at *;have con:=hd rfl (w.alloc (.cells gQ 55)) R tb ts hR1 (by rw [hMM]; exact hf);rw [hMM] at con;clear hd hp hc hf hMM hR1;go_enter Tryz.func219,Tryz.ntmps219;go_wp2_with fail
  generalize w.alloc _=w1 at *;refine con.mono ?_;rintro e w2 ⟨hb2,hW⟩;have QZ:=(hb2.2 _ (lt_of_heap QZ0) ak).trans QZ0;clear con;rcases M with c | ⟨x,rs⟩
  ·obtain ⟨rfl,us,hE⟩:=hW;have HE:=ah hE;clear hE;go_wp2_with fail
   exact ⟨rfl,Ends.err rfl ((aj.of hal ak).trans hb2) HE.out⟩
  ·obtain ⟨v,rfl,⟨a,cap,rfl,hks⟩,hRW⟩:=hW;obtain ⟨z0,z1,z2,z3,z4,z5,z6⟩:=aN QZ;obtain ⟨y0,y1,y2,y3,y4,y5,y6⟩:=dT QZ;have HRW:=ah hRW;have HKW:=ah hks;clear hRW hks;go_wp2_with fail
   obtain ⟨QE,hRE,hKE,hbE⟩:=dR (w:=w) (cap:=cap) QZ HRW.out HKW.out ((aj.of hal ak).trans hb2) ak ak hltR hltT;generalize (((((((w2.setCell (af w 0) x.k).setCell (af w 1) x.v.1).setCell (af w 2) x.v.2.1).setCell (af w 3) x.v.2.2).setCell (af w 4) x.bp).setCell (af w 5) x.name).setCell (af w 6) (.slice a x.ks.length cap))=wE at *;obtain ⟨x0,x1,x2,x3,x4,x5,x6⟩:=aN QE
   exact I7 (v:=.agg (bE x a cap)) (by simp [results,Tryz.results219,go_sem,x0,x1,x2,x3,x4,x5,x6]) rfl (Ends.cK rfl hbE ⟨a,cap,rfl,hKE.mono ak⟩ hRE)
 by_cases h8:lvl=8
 case pos =>
  subst h8;rw [if_neg (by decide),if_pos rfl] at hf ⊢;generalize hMM:cI n o ts=M at *;have con:=hp rfl (w.alloc (.cells gQ 55)) R tb ts hR1 (by rw [hMM]; exact hf);rw [hMM] at con;clear hd hp hc hf hMM hR1;go_enter Tryz.func219,Tryz.ntmps219;go_wp2_with fail
  generalize w.alloc _=w1 at *;refine con.mono ?_;rintro e w2 ⟨hb2,hW⟩;have QZ:=(hb2.2 _ (lt_of_heap QZ0) ak).trans QZ0;clear con;rcases M with c | ⟨x,rs⟩
  ·obtain ⟨rfl,us,hE⟩:=hW;have HE:=ah hE;clear hE;go_wp2_with fail
   exact ⟨rfl,Ends.err rfl ((aj.of hal ak).trans hb2) HE.out⟩
  ·obtain ⟨v,rfl,⟨a,cap,rfl,hks⟩,hRW⟩:=hW;obtain ⟨z0,z1,z2,z3,z4,z5,z6⟩:=aN QZ;obtain ⟨y0,y1,y2,y3,y4,y5,y6⟩:=dT QZ;have HRW:=ah hRW;have HKW:=ah hks;clear hRW hks;go_wp2_with fail
   obtain ⟨QE,hRE,hKE,hbE⟩:=dR (w:=w) (cap:=cap) QZ HRW.out HKW.out ((aj.of hal ak).trans hb2) ak ak hltR hltT;generalize (((((((w2.setCell (af w 0) x.k).setCell (af w 1) x.v.1).setCell (af w 2) x.v.2.1).setCell (af w 3) x.v.2.2).setCell (af w 4) x.bp).setCell (af w 5) x.name).setCell (af w 6) (.slice a x.ks.length cap))=wE at *;obtain ⟨x0,x1,x2,x3,x4,x5,x6⟩:=aN QE
   exact I7 (v:=.agg (bE x a cap)) (by simp [results,Tryz.results219,go_sem,x0,x1,x2,x3,x4,x5,x6]) rfl (Ends.cK rfl hbE ⟨a,cap,rfl,hKE.mono ak⟩ hRE)
 case neg =>
  rw [if_neg h3,if_neg h8] at hf ⊢;generalize hMM:cd n lvl o ts=M at *;have con:=hc h3 h8 (w.alloc (.cells gQ 55)) R tb ts hR1 (by rw [hMM]; exact hf);rw [hMM] at con;clear hd hp hc hf hMM hR1;go_enter Tryz.func219,Tryz.ntmps219;go_wp2_with fail
  generalize w.alloc _=w1 at *;refine con.mono ?_;rintro e w2 ⟨hb2,hW⟩;have QZ:=(hb2.2 _ (lt_of_heap QZ0) ak).trans QZ0;clear con;rcases M with c | ⟨x,rs⟩
  ·obtain ⟨rfl,us,hE⟩:=hW;have HE:=ah hE;clear hE;go_wp2_with fail
   exact ⟨rfl,Ends.err rfl ((aj.of hal ak).trans hb2) HE.out⟩
  ·obtain ⟨v,rfl,⟨a,cap,rfl,hks⟩,hRW⟩:=hW;obtain ⟨z0,z1,z2,z3,z4,z5,z6⟩:=aN QZ;obtain ⟨y0,y1,y2,y3,y4,y5,y6⟩:=dT QZ;have HRW:=ah hRW;have HKW:=ah hks;clear hRW hks;go_wp2_with fail
   obtain ⟨QE,hRE,hKE,hbE⟩:=dR (w:=w) (cap:=cap) QZ HRW.out HKW.out ((aj.of hal ak).trans hb2) ak ak hltR hltT;generalize (((((((w2.setCell (af w 0) x.k).setCell (af w 1) x.v.1).setCell (af w 2) x.v.2.1).setCell (af w 3) x.v.2.2).setCell (af w 4) x.bp).setCell (af w 5) x.name).setCell (af w 6) (.slice a x.ks.length cap))=wE at *;obtain ⟨x0,x1,x2,x3,x4,x5,x6⟩:=aN QE
   exact I7 (v:=.agg (bE x a cap)) (by simp [results,Tryz.results219,go_sem,x0,x1,x2,x3,x4,x5,x6]) rfl (Ends.cK rfl hbE ⟨a,cap,rfl,hKE.mono ak⟩ hRE)
theorem BW {w:World} {R tb:Nat} {ts:List Tk} {o:Int} (h:aR w R tb ts o) (ho:0≤o∧o≤100) (r:PR SX)
  (hf:o+1≤100→∀ W,aj R w W→aR W R tb ts (o+1)→Calls Tryz.prog 233 #[af R 0] W (Ends R tb (o+1) W (VX W) r)) :
  Calls Tryz.prog 195 #[af R 0,.func (.func 233) #[af R 0] #[]] w (Ends R tb o w (VX w) (if o+1 > 100 then .error (4,iI ts) else r)):=by
 have hmf:∀ (fn:Fn) (first cap:Array Value) (w:World),(Instr.makeFunc fn first cap).run Tryz.prog w = .ok (.func fn first cap) w:=fun _ _ _ _=>rfl
 obtain ⟨off,cap,e1,e2,e3⟩:=h.ex;have hR:=h.lt;have HTB:w.heap.size+1≠tb:=by have:=e3.lt; omega
 have HR:=ah h;have a1:=cell_of (i:=1) e1 rfl;have f1:=I0 w R 1 _ _ e1;have HF:=ah hf;clear h e1 e2 e3 hf;generalize hM:(if o+1 > 100 then Except.error (4,iI ts) else r:PR SX)=M;have HM:=ah hM;clear hM;go_enter_defers Tryz.func195,Tryz.ntmps195
 go_upto_region 3 with fail
 have hset:=HR.out.hH (o+1);obtain ⟨hR1,hb1⟩:=hset;have hz1:(w.setCell (af R 1) (.int .i64 (o+1))).heap.size=w.heap.size:=World.size_setCell ..;have HR1:=ah hR1;clear hR1;generalize w.setCell _ _=w1 at *;have hA:Below w1 w1 ((w1.alloc (.cells #[af R 0] 155)).alloc (.cells gQ 55)):=(bR ..).alloc (by simp) _
 have Q1:((w1.alloc (.cells #[af R 0] 155)).alloc (.cells gQ 55)).heap[w.heap.size]? = some (.cells #[af R 0] 155 (0,0)):=by
  rw [← hz1];exact ((bR ..).block _ (by simp)).trans (aD w1 _ _)
 have Q2:((w1.alloc (.cells #[af R 0] 155)).alloc (.cells gQ 55)).heap[w.heap.size+1]? = some (.cells gQ 55 (0,0)):=by
  rw [show w.heap.size+1=(w1.alloc (.cells #[af R 0] 155)).heap.size by simp [hz1]];exact aD _ _ _
 generalize ((w1.alloc (.cells #[af R 0] 155)).alloc (.cells gQ 55))=w2 at *;have hb2:aj R w w2:=hb1.trans (.of hA ak);have hR2:=HR1.out.next hA;have HR2:=ah hR2;obtain ⟨off,cap,e1,e2,e3⟩:=hR2.ex;have d1:=cell_of (i:=1) e1 rfl;have d2:=cell_of (i:=0) Q1 rfl;have ltR:=hR2.lt;clear hR2 e1 e2 e3 a1 f1 hA hb1;by_cases hbig:o+1 > 100
 ·have hbig':100<o+1:=by omega
  have e:M = .error (4,iI ts):=by rw [← HM.out,if_pos hbig]
  subst e;obtain ⟨t,rs,ets⟩:=HR2.out.iU.ne;subst ets;have con:=fj HR2.out 4;clear HF HM;go_wp2_with fail
  refine cR con fun w3 hb3=>?_;have hR3:=HR2.out.next hb3;have q3:=cell_of (i:=0) (bH hb3 Q1) rfl;have dcon:=kV hR3 q3 ak (.panicking [ie 4 (iI (t :: rs))]);have hx:=(hR3.hH (o+1 - 1)).2;go_wp2_with fail
  refine leaves_cons (f:=218) (args:=#[af w 0]) (by simp) (by simp [go_sem]) ?_;refine dcon.mono ?_;rintro e u' w4 ⟨rfl,rfl,rfl⟩;show Leaves Tryz.prog Tryz.f195 _ _ [] _ _;simp only [Leaves,settle,ie];exact Ends.err (c:=(4,iI (t :: rs))) rfl ((hb2.trans (.of hb3 ak)).trans hx) (by simpa using (hR3.hH (o+1 - 1)).1)
 ·have hbig':¬ 100<o+1:=by omega
  have e:M=r:=by rw [← HM.out,if_neg hbig]
  subst e;have con:=HF.out ak w2 hb2 HR2.out;clear HF HM;go_wp2_with fail
  refine con.mono ?_;rintro e w3 ⟨hb3,h3⟩;have Q13:=(hb3.2 _ (lt_of_heap Q1) ak).trans Q1;have Q23:=(hb3.2 _ (lt_of_heap Q2) ak).trans Q2;have q3:=cell_of (i:=0) Q13 rfl;rcases M with c | ⟨x,rs⟩
  ·obtain ⟨rfl,us,h3⟩:=h3;have hs:=h3.hH (o+1 - 1);have dcon:=kV h3 q3 ak (.panicking [ie c.1 c.2]);clear h3;go_wp2_with fail
   refine leaves_cons (f:=218) (args:=#[af w 0]) (by simp) (by simp [go_sem]) ?_;refine dcon.mono ?_;rintro e u' w4 ⟨rfl,rfl,rfl⟩;show Leaves Tryz.prog Tryz.f195 _ _ [] _ _;simp only [Leaves,settle,ie];exact Ends.err (c:=c) rfl ((hb2.trans hb3).trans hs.2) (by simpa using hs.1)
  ·obtain ⟨v,rfl,⟨a,cap,rfl,hks⟩,hR3⟩:=h3;obtain ⟨z0,z1,z2,z3,z4,z5,z6⟩:=aN Q23;obtain ⟨y0,y1,y2,y3,y4,y5,y6⟩:=dT Q23;have HR3:=ah hR3;have HK:=ah hks;clear hR3 hks;go_wp2_with fail
   have QE:=mo Q23 x.k x.v.1 x.v.2.1 x.v.2.2 x.bp x.name (.slice a x.ks.length cap)
   have hb4:aj R w (((((((w3.setCell (af (w+1) 0) x.k).setCell (af (w+1) 1) x.v.1).setCell (af (w+1) 2) x.v.2.1).setCell (af (w+1) 3) x.v.2.2).setCell (af (w+1) 4) x.bp).setCell (af (w+1) 5) x.name).setCell (af (w+1) 6) (.slice a x.ks.length cap)):=Ba (hb2.trans hb3) ak ak _ _ _ _ _ _ _
   have hk4:aI (w+1) w3 (((((((w3.setCell (af (w+1) 0) x.k).setCell (af (w+1) 1) x.v.1).setCell (af (w+1) 2) x.v.2.1).setCell (af (w+1) 3) x.v.2.2).setCell (af (w+1) 4) x.bp).setCell (af (w+1) 5) x.name).setCell (af (w+1) 6) (.slice a x.ks.length cap)):=(((((((aI.refl _ _).set _ _).set _ _).set _ _).set _ _).set _ _).set _ _).set _ _
   generalize (((((((w3.setCell (af (w+1) 0) x.k).setCell (af (w+1) 1) x.v.1).setCell (af (w+1) 2) x.v.2.1).setCell (af (w+1) 3) x.v.2.2).setCell (af (w+1) 4) x.bp).setCell (af (w+1) 5) x.name).setCell (af (w+1) 6) (.slice a x.ks.length cap))=w4 at *;have hR4:=HR3.out.k1 hk4 ak HTB (by have:=HR3.out.r2; omega)
   have q4:=(Jp (a:=af w 0) (hk4.2 w (jm q3) ak)).trans q3;have hs:=hR4.hH (o+1 - 1);have dcon:=kV hR4 q4 ak .returning;refine leaves_cons (f:=218) (args:=#[af w 0]) (by simp) (by simp [go_sem]) ?_;refine dcon.mono ?_;rintro e u' w5 ⟨rfl,rfl,rfl⟩;show Leaves Tryz.prog Tryz.f195 _ _ [] _ _;have QE5:=(hs.2.2 _ (lt_of_heap QE) ak).trans QE;have hb5:=hb4.trans hs.2
   have hR5:aR (w4.setCell (af R 1) (.int .i64 (o+1 - 1))) R tb rs o:=by simpa using hs.1
   have hz2:=hb2.size;have HK5:=((HK.out.k1 hk4 (by have:=lt_of_heap Q2; omega)).k1 hs.2.k1 ak).mono ak;generalize w4.setCell _ _=w5 at *;obtain ⟨x0,x1,x2,x3,x4,x5,x6⟩:=aN QE5;refine ⟨.agg (bE x a cap),by simp [results,Tryz.results195,go_sem,x0,x1,x2,x3,x4,x5,x6],?_⟩;exact Ends.cK rfl hb5 ⟨a,cap,rfl,HK5⟩ hR5
theorem aJ.one {S:Nat→Prop} {w:World} {x:SX} {a:Option Addr} {c:Nat} (T:TypeId) (hx:aJ S w a x.ks) (hB:S w):aJ S (w.alloc (.cells (bE x a c) T)) (Option.some (af w 0)) [x]:=by
 have hq:=aD w (bE x a c) T;have hal:=bR w (.cells (bE x a c) T);refine .some _ _ _ (fun _=>a) (fun _=>c) hB (lt_of_heap hq) (fun i hi=>?_) (fun i hi=>?_)
 all_goals obtain rfl:i=0:=by simpa using hi
 ·exact ⟨cell_of (i:=0) hq rfl,cell_of (i:=1) hq rfl,cell_of (i:=2) hq rfl,cell_of (i:=3) hq rfl,cell_of (i:=4) hq rfl,cell_of (i:=5) hq rfl,cell_of (i:=6) hq rfl⟩
 ·exact hx.next hal
theorem aJ.two {S:Nat→Prop} {w:World} {x y:SX} {a b:Option Addr} {c d:Nat} (T:TypeId) (hx:aJ S w a x.ks) (hy:aJ S w b y.ks) (hB:S w):aJ S (w.alloc (.cells #[x.k,x.v.1,x.v.2.1,x.v.2.2,x.bp,x.name,.slice a x.ks.length c,y.k,y.v.1,y.v.2.1,y.v.2.2,y.bp,y.name,.slice b y.ks.length d] T)) (Option.some (af w 0)) [x,y]:=by
 have hq:=aD w #[x.k,x.v.1,x.v.2.1,x.v.2.2,x.bp,x.name,.slice a x.ks.length c,y.k,y.v.1,y.v.2.1,y.v.2.2,y.bp,y.name,.slice b y.ks.length d] T;have hal:=bR w (.cells #[x.k,x.v.1,x.v.2.1,x.v.2.2,x.bp,x.name,.slice a x.ks.length c,y.k,y.v.1,y.v.2.1,y.v.2.2,y.bp,y.name,.slice b y.ks.length d] T)
 refine .some _ _ _ (fun i=>if i=0 then a else b) (fun i=>if i=0 then c else d) hB (lt_of_heap hq) (fun i hi=>?_) (fun i hi=>?_)
 all_goals obtain rfl | rfl:i=0∨i=1:=by simp at hi; omega
 ·exact ⟨cell_of (i:=0) hq rfl,cell_of (i:=1) hq rfl,cell_of (i:=2) hq rfl,cell_of (i:=3) hq rfl,cell_of (i:=4) hq rfl,cell_of (i:=5) hq rfl,cell_of (i:=6) hq rfl⟩
 ·exact ⟨cell_of (i:=7) hq rfl,cell_of (i:=8) hq rfl,cell_of (i:=9) hq rfl,cell_of (i:=10) hq rfl,cell_of (i:=11) hq rfl,cell_of (i:=12) hq rfl,cell_of (i:=13) hq rfl⟩
 ·exact hx.next hal
 ·exact hy.next hal
theorem tZ {n:Nat} {o:Int} (ho:0≤o∧o≤100) (hd:o+1≤100→mD 233 [] (cJ n (o+1)) (o+1)) (hc:mD 243 [] (b7 n o) o):mD 233 [] (cJ (n+1) o) o:=by
 intro w R tb ts h hf;have hmf:∀ (fn:Fn) (first cap:Array Value) (w:World),(Instr.makeFunc fn first cap).run Tryz.prog w = .ok (.func fn first cap) w:=fun _ _ _ _=>rfl
 rw [cJ] at hf ⊢;have hltR:=h.lt;have hltT:=h.lK;obtain ⟨hal,QZ0⟩:=dZ w gQ 55;have hz':=lt_of_heap QZ0;have con0:=aY (h.next hal) ⟨#[110,111,116]⟩;clear h;rcases hi:bK ⟨#[110,111,116]⟩ ts with _ | _
 ·rw [hi,bT hi] at con0;simp only [hi,Jd,if_false] at hf ⊢;generalize hMM:b7 n o ts=M at *;go_enter Tryz.func233,Tryz.ntmps233;go_wp2_with fail
  generalize w.alloc _=w1 at *;refine con0.mono ?_;rintro e w3 ⟨rfl,h3,hb3⟩;have con:=hc w3 R tb ts h3 (by rw [hMM]; exact hf);have hz3:=hb3.size;rw [hMM] at con;have QZ3:=(hb3.2 _ (lt_of_heap QZ0) ak).trans QZ0;clear hd hc hf hMM h3 con0;go_wp2_with fail
  refine con.mono ?_;rintro e w2 ⟨hb2,hW⟩;have QZ:=(hb2.2 _ (lt_of_heap QZ3) ak).trans QZ3;clear con;rcases M with c | ⟨x,rs⟩
  ·obtain ⟨rfl,us,hE⟩:=hW;have HE:=ah hE;clear hE;go_wp2_with fail
   exact ⟨rfl,Ends.err rfl (((aj.of hal ak).trans hb3).trans hb2) HE.out⟩
  ·obtain ⟨v,rfl,⟨a,cap,rfl,hks⟩,hRW⟩:=hW;obtain ⟨z0,z1,z2,z3,z4,z5,z6⟩:=aN QZ;obtain ⟨y0,y1,y2,y3,y4,y5,y6⟩:=dT QZ;have HRW:=ah hRW;have HKW:=ah hks;clear hRW hks;go_wp2_with fail
   obtain ⟨QE,hRE,hKE,hbE⟩:=dR (w:=w) (cap:=cap) QZ HRW.out HKW.out (((aj.of hal ak).trans hb3).trans hb2) ak ak hltR hltT;generalize (((((((w2.setCell (af w 0) x.k).setCell (af w 1) x.v.1).setCell (af w 2) x.v.2.1).setCell (af w 3) x.v.2.2).setCell (af w 4) x.bp).setCell (af w 5) x.name).setCell (af w 6) (.slice a x.ks.length cap))=wE at *;obtain ⟨x0,x1,x2,x3,x4,x5,x6⟩:=aN QE
   exact I7 (v:=.agg (bE x a cap)) (by simp [results,Tryz.results233,go_sem,x0,x1,x2,x3,x4,x5,x6]) rfl (Ends.cK rfl hbE ⟨a,cap,rfl,hKE.mono ak⟩ hRE)
 ·rw [hi,cG hi] at con0;simp only [hi,if_true] at hf ⊢;generalize hMM:(if o+1 > 100 then Except.error (4,iI (aC ts)) else cJ n (o+1) (aC ts):PR SX)=M;have hne:o+1≤100→cJ n (o+1) (aC ts)≠eG:=fun h100 hc=>hf (by rw [if_neg ak,hc]; rfl)
  clear hf hc;go_enter Tryz.func233,Tryz.ntmps233;go_wp2_with fail
  generalize w.alloc _=w1 at *;refine con0.mono ?_;rintro e w3 ⟨rfl,h3,hb3⟩;have con:=BW h3 ho (cJ n (o+1) (aC ts)) (fun h100 W hbW hRW=>hd h100 W R tb _ hRW (hne h100));have hz3:=hb3.size;rw [hMM] at con;have QZ3:=(hb3.2 _ (lt_of_heap QZ0) ak).trans QZ0;clear hd hMM h3 con0 hne;go_wp2_with fail
  refine con.mono ?_;rintro e w2 ⟨hb2,hW⟩;have hz2:=hb2.size;have QZ2:=(hb2.2 _ (lt_of_heap QZ3) ak).trans QZ3;clear con;rcases M with c | ⟨x,rs⟩
  ·obtain ⟨rfl,us,hE⟩:=hW;have HE:=ah hE;clear hE;go_wp2_with fail
   exact ⟨rfl,Ends.err rfl (((aj.of hal ak).trans hb3).trans hb2) HE.out⟩
  ·obtain ⟨v,rfl,⟨a,c,rfl,hks⟩,hRW⟩:=hW;have HRW:=ah hRW;have HKW:=ah hks;clear hRW hks;have hal4:=bR w2 (.cells (bE x a c) 55);have K4:Hid (df w3 (w2.alloc (.cells (bE x a c) 55)) (some (af w2 0)) [x]):=aJ.one _ HKW.out (by show _≤_; omega);have con4:=gF 3 (some (af w2 0)) 1 1 (w2.alloc (.cells (bE x a c) 55));go_wp2_with fail
   generalize w2.alloc _=w4 at *;refine cR con4 fun w5 hb5=>?_;have hb25:=chain hal4 hb5;have QZ5:=bH hb25 QZ2;obtain ⟨z0,z1,z2,z3,z4,z5,z6⟩:=aN QZ5;obtain ⟨y0,y1,y2,y3,y4,y5,y6⟩:=dT QZ5;have K5:=df.next hb5 K4.out;have hx5:aj R w w5:=(((aj.of hal ak).trans hb3).trans hb2).trans (.of hb25 ak);have HR5:=ah (HRW.out.next hb25);clear con4;go_wp2_with fail
   obtain ⟨QE,hRE,hKE,hbE⟩:=dR (w:=w) (x:=nd 3 [x]) (a:=some ⟨w2,0,none⟩) (cap:=1) QZ5 HR5.out K5 hx5 ak ak hltR hltT;change (((((((w5.setCell (af w 0) (3:Int)).setCell (af w 1) aB).setCell (af w 2) aB).setCell (af w 3) ()).setCell (af w 4) ()).setCell (af w 5) ()).setCell (af w 6) (.slice (some (af w2 0)) 1 1)).heap[w.heap.size]? = _ at QE
   change aR (((((((w5.setCell (af w 0) (3:Int)).setCell (af w 1) aB).setCell (af w 2) aB).setCell (af w 3) ()).setCell (af w 4) ()).setCell (af w 5) ()).setCell (af w 6) (.slice (some (af w2 0)) 1 1)) R tb rs o at hRE
   change df _ (((((((w5.setCell (af w 0) (3:Int)).setCell (af w 1) aB).setCell (af w 2) aB).setCell (af w 3) ()).setCell (af w 4) ()).setCell (af w 5) ()).setCell (af w 6) (.slice (some (af w2 0)) 1 1)) _ _ at hKE
   change aj R w (((((((w5.setCell (af w 0) (3:Int)).setCell (af w 1) aB).setCell (af w 2) aB).setCell (af w 3) ()).setCell (af w 4) ()).setCell (af w 5) ()).setCell (af w 6) (.slice (some (af w2 0)) 1 1)) at hbE
   generalize (((((((w5.setCell (af w 0) (3:Int)).setCell (af w 1) aB).setCell (af w 2) aB).setCell (af w 3) ()).setCell (af w 4) ()).setCell (af w 5) ()).setCell (af w 6) (.slice (some (af w2 0)) 1 1))=wE at *;obtain ⟨x0,x1,x2,x3,x4,x5,x6⟩:=aN QE
   exact I7 (v:=.agg (bE (nd 3 [x]) (some (af w2 0)) 1)) (by simp [results,Tryz.results233,go_sem,x0,x1,x2,x3,x4,x5,x6]) rfl (Ends.cK rfl hbE ⟨_,1,rfl,hKE.mono ak⟩ hRE)
set_option maxHeartbeats 8000000
def SN (B g:Nat) (b:Nat):Prop:=B≤b∧b≠g∧b≠g+1
theorem xY {w:World} {R tb:Nat} {ts:List Tk} {o:Int} {x:SX} {a:Option Addr} {c B:Nat} (h:aR w R tb ts o) (hx:df B w a x.ks) (hB:B≤w.heap.size) (hRB:R<B):Calls Tryz.prog 253 #[af R 0,.agg (bE x a c)] w (Ends R tb o w (VX B) (fF x ts)):=by
 have hltR:=h.lt;have hltT:=h.lK;have hA:Below w w ((w.alloc (.cells (bE x a c) 55)).alloc (.cells gQ 55)):=(bR ..).alloc (by simp) _;have QB0:((w.alloc (.cells (bE x a c) 55)).alloc (.cells gQ 55)).heap[w.heap.size]? = some (.cells (bE x a c) 55 (0,0)):=((bR ..).block _ (by simp)).trans (aD w _ _);have QZ0:((w.alloc (.cells (bE x a c) 55)).alloc (.cells gQ 55)).heap[w.heap.size+1]? = some (.cells gQ 55 (0,0)):=by
  rw [show w.heap.size+1=(w.alloc (.cells (bE x a c) 55)).heap.size by simp];exact aD _ _ _
 have con:=aY (h.next hA) ⟨#[110,111,116]⟩;have HX:Hid (aJ (SN B w) ((w.alloc (.cells (bE x a c) 55)).alloc (.cells gQ 55)) a x.ks):=aJ.next hA (aJ.mono (fun b h1 h2=>⟨h1,by omega,by omega⟩) hx);have hSR:¬ SN B w R:=fun h=>by have:=h.1; omega
 have hz0:=lt_of_heap QZ0;generalize hM:fF x ts=M;have HM:Hid (aK (aV [⟨#[110,117,108,108]⟩] (fL ⟨#[110,111,116]⟩ ts)) (fun _ r=>.ok (if bK ⟨#[110,111,116]⟩ ts then nd 3 [nd 16 [x]] else nd 16 [x],r))=M):=hM;clear h hx hM;generalize hdn:bK ⟨#[110,111,116]⟩ ts=dn at *;go_enter Tryz.func253,Tryz.ntmps253;go_wp2_with fail
 generalize (w.alloc (.cells (bE x a c) 55)).alloc (.cells gQ 55)=w1 at *;refine con.mono ?_;rintro e w2 ⟨rfl,h2,hb2⟩;have hal3:=bR w2 (.cells #[.string ⟨#[110,117,108,108]⟩] 9);have con2:=de (cap:=1) (h2.next hal3) (dh.one w2 ⟨#[110,117,108,108]⟩ 9) (by have:=h2.lt; omega) (by simp);have hx2:aj R w w2:=(aj.of hA ak).trans hb2;have HX2:=aJ.k1 hb2.k1 hSR HX.out;have QB2:=(hb2.2 _ (lt_of_heap QB0) ak).trans QB0;have QZ2:=(hb2.2 _ (lt_of_heap QZ0) ak).trans QZ0
 have HX2':Hid (aJ (SN B w) w2 a x.ks):=HX2;have hz2:=lt_of_heap QZ2;clear con h2 HX2 HX QB0 QZ0;generalize aV [⟨#[110,117,108,108]⟩] (fL ⟨#[110,111,116]⟩ ts)=mu at *;go_wp2_with fail
 generalize w2.alloc (.cells #[.string ⟨#[110,117,108,108]⟩] 9)=w3 at *;refine con2.mono ?_;rintro e w4 ⟨hb4,h4⟩;have hx24:aj R w2 w4:=(aj.of hal3 ak).trans hb4;have hx4:aj R w w4:=hx2.trans hx24;clear con2;rcases mu with c1 | ⟨u,rs⟩
 ·obtain ⟨rfl,us,hE⟩:=h4;have HE:Hid (aR w4 R tb us o):=hE;clear hE;have e:M = .error c1:=HM.out.symm;subst e;clear HM;go_wp2_with fail
  exact ⟨rfl,Ends.err rfl hx4 HE.out⟩
 obtain ⟨v,rfl,rfl,hR4⟩:=h4;have HR4:Hid (aR w4 R tb rs o):=hR4;clear hR4;cases dn
 case false =>
  have e:M = .ok (nd 16 [x],rs):=HM.out.symm;subst e;clear HM;have QB4:=(hx24.2 _ (lt_of_heap QB2) ak).trans QB2;have QZ4:=(hx24.2 _ (lt_of_heap QZ2) ak).trans QZ2;have HX4:Hid (aJ (SN B w) w4 a x.ks):=aJ.k1 hx24.k1 hSR HX2'.out;obtain ⟨b0,b1,b2,b3,b4,b5,b6⟩:=aN QB4;have hz4:=lt_of_heap QZ4;have hal5:=bR w4 (.cells (bE x a c) 55);have K5:Hid (aJ (SN B w) (w4.alloc (.cells (bE x a c) 55)) (some (af w4 0)) [x]):=aJ.one _ HX4.out ⟨by omega,by omega,by omega⟩
  have con5:=gF 16 (some (af w4 0)) 1 1 (w4.alloc (.cells (bE x a c) 55));clear QB2 QZ2 HX2';go_wp2_with fail
  generalize w4.alloc (.cells (bE x a c) 55)=w5 at *;refine cR con5 fun w6 hb6=>?_;have hb46:=chain hal5 hb6;have QB6:=bH hb46 QB4;have QZ6:=bH hb46 QZ4;have K6:=aJ.next hb6 K5.out;have hx6:aj R w w6:=hx4.trans (.of hb46 ak);have hR6:=HR4.out.next hb46;clear con5 b0 b1 b2 b3 b4 b5 b6;obtain ⟨b0,b1,b2,b3,b4,b5,b6⟩:=aN QB6;obtain ⟨f0,f1,f2,f3,f4,f5,f6⟩:=dT QB6;have QZ6':=QZ6;have K6':Hid (aJ (SN B w) w6 (some (af w4 0)) [x]):=K6;have H6:Hid (aR w6 R tb rs o):=hR6
  have hz6:=lt_of_heap QZ6;clear K6 hR6 QB4 QZ4 K5 HX4;go_upto_region 4 with fail
  obtain ⟨QE,hRE,hKE,hbE,hk1⟩:=gD (w:=w) (x:=nd 16 [x]) (a:=some ⟨w4,0,none⟩) (cap:=1) QB6 H6.out K6'.out hx6 ak (fun h=>h.2.1 rfl) hltR hltT
  change (((((((w6.setCell (af w 0) (16:Int)).setCell (af w 1) aB).setCell (af w 2) aB).setCell (af w 3) ()).setCell (af w 4) ()).setCell (af w 5) ()).setCell (af w 6) (.slice (some (af w4 0)) 1 1)).heap[w.heap.size]? = some (.cells #[(16:Int),aB,aB,(),(),(),.slice (some (af w4 0)) 1 1] 55 (0,0)) at QE
  change aR (((((((w6.setCell (af w 0) (16:Int)).setCell (af w 1) aB).setCell (af w 2) aB).setCell (af w 3) ()).setCell (af w 4) ()).setCell (af w 5) ()).setCell (af w 6) (.slice (some (af w4 0)) 1 1)) R tb rs o at hRE
  change aJ _ (((((((w6.setCell (af w 0) (16:Int)).setCell (af w 1) aB).setCell (af w 2) aB).setCell (af w 3) ()).setCell (af w 4) ()).setCell (af w 5) ()).setCell (af w 6) (.slice (some (af w4 0)) 1 1)) _ _ at hKE
  change aj R w (((((((w6.setCell (af w 0) (16:Int)).setCell (af w 1) aB).setCell (af w 2) aB).setCell (af w 3) ()).setCell (af w 4) ()).setCell (af w 5) ()).setCell (af w 6) (.slice (some (af w4 0)) 1 1)) at hbE
  change aI _ w6 (((((((w6.setCell (af w 0) (16:Int)).setCell (af w 1) aB).setCell (af w 2) aB).setCell (af w 3) ()).setCell (af w 4) ()).setCell (af w 5) ()).setCell (af w 6) (.slice (some (af w4 0)) 1 1)) at hk1
  generalize (((((((w6.setCell (af w 0) (16:Int)).setCell (af w 1) aB).setCell (af w 2) aB).setCell (af w 3) ()).setCell (af w 4) ()).setCell (af w 5) ()).setCell (af w 6) (.slice (some (af w4 0)) 1 1))=w7 at *;have QZ7:=(hk1.2 _ (lt_of_heap QZ6) ak).trans QZ6;clear b0 b1 b2 b3 b4 b5 b6 f0 f1 f2 f3 f4 f5 f6 QZ6 QZ6' QB6 hk1;obtain ⟨b0,b1,b2,b3,b4,b5,b6⟩:=aN QE;have HR7:Hid (aR w7 R tb rs o):=hRE
  have HK7:Hid (aJ (SN B w) w7 (some (af w4 0)) [x]):=hKE;have hz7:=lt_of_heap QZ7;clear hRE hKE;obtain ⟨z0,z1,z2,z3,z4,z5,z6⟩:=aN QZ7;obtain ⟨y0,y1,y2,y3,y4,y5,y6⟩:=dT QZ7;go_wp2_with fail
  obtain ⟨QF,hRF,hKF,hbF,_⟩:=gD (w:=w) (x:=nd 16 [x]) (a:=some ⟨w4,0,none⟩) (cap:=1) QZ7 HR7.out HK7.out hbE ak (fun h=>h.2.2 rfl) hltR hltT;change (((((((w7.setCell (af (w+1) 0) (16:Int)).setCell (af (w+1) 1) aB).setCell (af (w+1) 2) aB).setCell (af (w+1) 3) ()).setCell (af (w+1) 4) ()).setCell (af (w+1) 5) ()).setCell (af (w+1) 6) (.slice (some (af w4 0)) 1 1)).heap[w.heap.size+1]? = _ at QF
  change aR (((((((w7.setCell (af (w+1) 0) (16:Int)).setCell (af (w+1) 1) aB).setCell (af (w+1) 2) aB).setCell (af (w+1) 3) ()).setCell (af (w+1) 4) ()).setCell (af (w+1) 5) ()).setCell (af (w+1) 6) (.slice (some (af w4 0)) 1 1)) R tb rs o at hRF
  change aJ _ (((((((w7.setCell (af (w+1) 0) (16:Int)).setCell (af (w+1) 1) aB).setCell (af (w+1) 2) aB).setCell (af (w+1) 3) ()).setCell (af (w+1) 4) ()).setCell (af (w+1) 5) ()).setCell (af (w+1) 6) (.slice (some (af w4 0)) 1 1)) _ _ at hKF
  change aj R w (((((((w7.setCell (af (w+1) 0) (16:Int)).setCell (af (w+1) 1) aB).setCell (af (w+1) 2) aB).setCell (af (w+1) 3) ()).setCell (af (w+1) 4) ()).setCell (af (w+1) 5) ()).setCell (af (w+1) 6) (.slice (some (af w4 0)) 1 1)) at hbF
  generalize (((((((w7.setCell (af (w+1) 0) (16:Int)).setCell (af (w+1) 1) aB).setCell (af (w+1) 2) aB).setCell (af (w+1) 3) ()).setCell (af (w+1) 4) ()).setCell (af (w+1) 5) ()).setCell (af (w+1) 6) (.slice (some (af w4 0)) 1 1))=wE at *;obtain ⟨x0,x1,x2,x3,x4,x5,x6⟩:=aN QF
  exact I7 (v:=.agg (bE (nd 16 [x]) (some (af w4 0)) 1)) (by simp [results,Tryz.results253,go_sem,x0,x1,x2,x3,x4,x5,x6]) rfl (Ends.cK rfl hbF ⟨_,1,rfl,aJ.mono (fun b h _=>h.1) hKF⟩ hRF)
 case true =>
  have e:M = .ok (nd 3 [nd 16 [x]],rs):=HM.out.symm;subst e;clear HM;have QB4:=(hx24.2 _ (lt_of_heap QB2) ak).trans QB2;have QZ4:=(hx24.2 _ (lt_of_heap QZ2) ak).trans QZ2;have HX4:Hid (aJ (SN B w) w4 a x.ks):=aJ.k1 hx24.k1 hSR HX2'.out;obtain ⟨b0,b1,b2,b3,b4,b5,b6⟩:=aN QB4;have hz4:=lt_of_heap QZ4;have hal5:=bR w4 (.cells (bE x a c) 55);have K5:Hid (aJ (SN B w) (w4.alloc (.cells (bE x a c) 55)) (some (af w4 0)) [x]):=aJ.one _ HX4.out ⟨by omega,by omega,by omega⟩
  have con5:=gF 16 (some (af w4 0)) 1 1 (w4.alloc (.cells (bE x a c) 55));clear QB2 QZ2 HX2';go_wp2_with fail
  generalize w4.alloc (.cells (bE x a c) 55)=w5 at *;refine cR con5 fun w6 hb6=>?_;have hb46:=chain hal5 hb6;have QB6:=bH hb46 QB4;have QZ6:=bH hb46 QZ4;have K6:=aJ.next hb6 K5.out;have hx6:aj R w w6:=hx4.trans (.of hb46 ak);have hR6:=HR4.out.next hb46;clear con5 b0 b1 b2 b3 b4 b5 b6;obtain ⟨b0,b1,b2,b3,b4,b5,b6⟩:=aN QB6;obtain ⟨f0,f1,f2,f3,f4,f5,f6⟩:=dT QB6;have QZ6':=QZ6;have K6':Hid (aJ (SN B w) w6 (some (af w4 0)) [x]):=K6;have H6:Hid (aR w6 R tb rs o):=hR6
  have hz6:=lt_of_heap QZ6;clear K6 hR6 QB4 QZ4 K5 HX4;go_upto_region 4 with fail
  obtain ⟨QE,hRE,hKE,hbE,hk1⟩:=gD (w:=w) (x:=nd 16 [x]) (a:=some ⟨w4,0,none⟩) (cap:=1) QB6 H6.out K6'.out hx6 ak (fun h=>h.2.1 rfl) hltR hltT
  change (((((((w6.setCell (af w 0) (16:Int)).setCell (af w 1) aB).setCell (af w 2) aB).setCell (af w 3) ()).setCell (af w 4) ()).setCell (af w 5) ()).setCell (af w 6) (.slice (some (af w4 0)) 1 1)).heap[w.heap.size]? = some (.cells #[(16:Int),aB,aB,(),(),(),.slice (some (af w4 0)) 1 1] 55 (0,0)) at QE
  change aR (((((((w6.setCell (af w 0) (16:Int)).setCell (af w 1) aB).setCell (af w 2) aB).setCell (af w 3) ()).setCell (af w 4) ()).setCell (af w 5) ()).setCell (af w 6) (.slice (some (af w4 0)) 1 1)) R tb rs o at hRE
  change aJ _ (((((((w6.setCell (af w 0) (16:Int)).setCell (af w 1) aB).setCell (af w 2) aB).setCell (af w 3) ()).setCell (af w 4) ()).setCell (af w 5) ()).setCell (af w 6) (.slice (some (af w4 0)) 1 1)) _ _ at hKE
  change aj R w (((((((w6.setCell (af w 0) (16:Int)).setCell (af w 1) aB).setCell (af w 2) aB).setCell (af w 3) ()).setCell (af w 4) ()).setCell (af w 5) ()).setCell (af w 6) (.slice (some (af w4 0)) 1 1)) at hbE
  change aI _ w6 (((((((w6.setCell (af w 0) (16:Int)).setCell (af w 1) aB).setCell (af w 2) aB).setCell (af w 3) ()).setCell (af w 4) ()).setCell (af w 5) ()).setCell (af w 6) (.slice (some (af w4 0)) 1 1)) at hk1
  generalize (((((((w6.setCell (af w 0) (16:Int)).setCell (af w 1) aB).setCell (af w 2) aB).setCell (af w 3) ()).setCell (af w 4) ()).setCell (af w 5) ()).setCell (af w 6) (.slice (some (af w4 0)) 1 1))=w7 at *;have QZ7:=(hk1.2 _ (lt_of_heap QZ6) ak).trans QZ6;clear b0 b1 b2 b3 b4 b5 b6 f0 f1 f2 f3 f4 f5 f6 QZ6 QZ6' QB6 hk1;obtain ⟨b0,b1,b2,b3,b4,b5,b6⟩:=aN QE;have HR7:Hid (aR w7 R tb rs o):=hRE
  have HK7:Hid (aJ (SN B w) w7 (some (af w4 0)) [x]):=hKE;have hz7:=lt_of_heap QZ7;clear hRE hKE;have hal8:=bR w7 (.cells #[(16:Int),aB,aB,(),(),(),.slice (some (af w4 0)) 1 1] 55)
  have K8:Hid (aJ (SN B w) (w7.alloc (.cells #[(16:Int),aB,aB,(),(),(),.slice (some (af w4 0)) 1 1] 55)) (some (af w7 0)) [nd 16 [x]]):=aJ.one (x:=nd 16 [x]) (c:=1) _ HK7.out ⟨by omega,by omega,by omega⟩;have con8:=gF 3 (some (af w7 0)) 1 1 (w7.alloc (.cells #[(16:Int),aB,aB,(),(),(),.slice (some (af w4 0)) 1 1] 55));go_wp2_with fail
  generalize w7.alloc (.cells #[(16:Int),aB,aB,(),(),(),.slice (some (af w4 0)) 1 1] 55)=w8 at *;refine cR con8 fun w9 hb9=>?_;have hb79:=chain hal8 hb9;have QZ9:=bH hb79 QZ7;obtain ⟨z0,z1,z2,z3,z4,z5,z6⟩:=aN QZ9;obtain ⟨y0,y1,y2,y3,y4,y5,y6⟩:=dT QZ9;have K9:Hid (aJ (SN B w) w9 (some (af w7 0)) [nd 16 [x]]):=aJ.next hb9 K8.out;have hx9:aj R w w9:=hbE.trans (.of hb79 ak);have H9:Hid (aR w9 R tb rs o):=HR7.out.next hb79;clear con8
  go_wp2_with fail
  obtain ⟨QF,hRF,hKF,hbF,_⟩:=gD (w:=w) (x:=nd 3 [nd 16 [x]]) (a:=some ⟨w7,0,none⟩) (cap:=1) QZ9 H9.out K9.out hx9 ak (fun h=>h.2.2 rfl) hltR hltT;change (((((((w9.setCell (af (w+1) 0) (3:Int)).setCell (af (w+1) 1) aB).setCell (af (w+1) 2) aB).setCell (af (w+1) 3) ()).setCell (af (w+1) 4) ()).setCell (af (w+1) 5) ()).setCell (af (w+1) 6) (.slice (some (af w7 0)) 1 1)).heap[w.heap.size+1]? = _ at QF
  change aR (((((((w9.setCell (af (w+1) 0) (3:Int)).setCell (af (w+1) 1) aB).setCell (af (w+1) 2) aB).setCell (af (w+1) 3) ()).setCell (af (w+1) 4) ()).setCell (af (w+1) 5) ()).setCell (af (w+1) 6) (.slice (some (af w7 0)) 1 1)) R tb rs o at hRF
  change aJ _ (((((((w9.setCell (af (w+1) 0) (3:Int)).setCell (af (w+1) 1) aB).setCell (af (w+1) 2) aB).setCell (af (w+1) 3) ()).setCell (af (w+1) 4) ()).setCell (af (w+1) 5) ()).setCell (af (w+1) 6) (.slice (some (af w7 0)) 1 1)) _ _ at hKF
  change aj R w (((((((w9.setCell (af (w+1) 0) (3:Int)).setCell (af (w+1) 1) aB).setCell (af (w+1) 2) aB).setCell (af (w+1) 3) ()).setCell (af (w+1) 4) ()).setCell (af (w+1) 5) ()).setCell (af (w+1) 6) (.slice (some (af w7 0)) 1 1)) at hbF
  generalize (((((((w9.setCell (af (w+1) 0) (3:Int)).setCell (af (w+1) 1) aB).setCell (af (w+1) 2) aB).setCell (af (w+1) 3) ()).setCell (af (w+1) 4) ()).setCell (af (w+1) 5) ()).setCell (af (w+1) 6) (.slice (some (af w7 0)) 1 1))=wE at *;obtain ⟨x0,x1,x2,x3,x4,x5,x6⟩:=aN QF
  exact I7 (v:=.agg (bE (nd 3 [nd 16 [x]]) (some (af w7 0)) 1)) (by simp [results,Tryz.results253,go_sem,x0,x1,x2,x3,x4,x5,x6]) rfl (Ends.cK rfl hbF ⟨_,1,rfl,aJ.mono (fun b h _=>h.1) hKF⟩ hRF)
end Go.Proofs.YtoknmnngaackkaaGreatDoor
namespace Go.Proofs.YtoknmnngaackkaaGreatDoor
open Go.RowKit
set_option maxRecDepth 100000
set_option maxHeartbeats 16000000
structure wu (w:World) where
 now:World
 ok:Below w w now
theorem oz {P:Program} {id:Nat} {Q:Exit→Act→World→Prop} {a:Act} {w:World} {l:List Oper} (hm:P.follows .mixedOrders=true) (hB:Region.lexB .any l.toArray=true)
  (h:wpQuiet P l.toArray (fun w'=>∃ n:wu w,w'=n.now) (fun a'=>∀ w',(∃ n:wu w,w'=n.now)→Q .normal a' w') l a):(Code.region id l.toArray true).wp P Q a w :=
 wp_region_quiet (C:=fun w'=>∃ n:wu w,w'=n.now) hm hB ⟨⟨w.drew,(I8 _ _).drew⟩,rfl⟩ (by simpa using h)
theorem xA {P:Program} {f:FuncId} {args:Array Value} {w:World} {n:wu w} {v:Value}
  (h:Calls P f args n.now fun e w'=>e = .returned v∧Below n.now.heap.size n.now w'):Calls P f args n.now fun e w''=>e = .returned v∧∃ m:wu w,w''=m.now :=
 h.mono fun _ w' ⟨he,hb⟩=>⟨he,⟨w',chain n.ok hb⟩,rfl⟩
section
variable {P:Program} {ops:Array Oper} {Q:Exit→Act→World→Prop} {md:Region.Mode} {C:World→Prop}
def gW (P:Program) (ops:Array Oper) (C:World→Prop) (o:Oper) (v:Value) (a:Act):Prop :=
 (Region.wanted o (yielded ops a.tmps)=true∧∀ n:World,C n→Oper.quietUpon P (fun w'=>Below n n w') n v ((execOp a.eval o).run P n)) ∨
 (Region.wanted o (yielded ops a.tmps)=false∧v=undef)
theorem gW.of_same {o:Oper} {v:Value} {a a':Act} (hy:gW P ops C o v a) (he:execOp a'.eval o=execOp a.eval o)
  (hw:Region.wanted o (yielded ops a'.tmps)=Region.wanted o (yielded ops a.tmps)):gW P ops C o v a':=by
 unfold gW at *;rw [he,hw];exact hy
theorem gW.wpOp {i:Nat} {o:Oper} {v:Value} {a:Act} (hi:ops[i]? = some o) (hy:gW P ops C o v a)
  {K:Act→World→Prop} {w:World} (hB:C w) (h:∀ w',Below w w w'→K (a.put o.dst v) w'):wpOp P ops Q i K a w:=by
 unfold Go.wpOp;simp only [hi];rcases hy with ⟨hw,hv⟩ | ⟨hw,rfl⟩
 ·simp only [hw,if_true];left;have h3:=hv w hB;unfold Oper.wp;generalize (execOp a.eval o).run P w=r at *;cases r with
  | ok n w' =>
   cases n <;> simp only [Oper.quietUpon] at h3 <;> simp only [Oper.upon]
   case value u =>
    obtain ⟨e1,e2⟩:=h3;rw [e1,e2];exact h _ (I8 _ _)
   case skip =>
    obtain ⟨e1,e2⟩:=h3;rw [e1,← e2];exact h _ (I8 _ _)
   case enter f args =>
    obtain ⟨e1,hc⟩:=h3;rw [e1];exact hc.mono fun e w'' ⟨he,hw''⟩=>by subst he; exact h _ hw''
  | halt x w'=>simp only [Oper.quietUpon] at h3
 ·simp only [hw,Jd,if_false];exact h _ (I8 _ _)
theorem rn {Φ:Act→Prop} {j:Nat} {oi oj:Oper} {v:Value} (hj:ops[j]? = some oj) (hap:oi.apart ops oj=true)
  (hsj:∀ cs b,oj.op ≠ .select cs b) (hQ:∀ c a w,Q (.panic c) (a.put oi.dst v) w→Q (.panic c) a w)
  (aM:∀ (a:Act),Φ a→∀ u,Φ (a.put oj.dst u)) (keepD:∀ (a:Act) (d:Deferred),Φ a→Φ { a with defers:=d :: a.defers })
  {K:Act→World→Prop} {a:Act} {w:World} (hy:Φ a) (h:wpOp P ops Q j K (a.put oi.dst v) w) :
  wpOp P ops Q j (fun a' w'=>Φ a'∧K (a'.put oi.dst v) w') a w:=by
 obtain ⟨h1,h2,_⟩:=Oper.apart_spec hap;unfold wpOp at *;simp only [hj] at *;rw [wanted_put oj a oi.dst v h1] at h
 split
 ·rename_i hw
  simp only [hw,if_true] at h;rcases h with h | ⟨hasks,hlets⟩
  case inr=>exact .inr ⟨by unfold Oper.asks at *; rw [execOp_put oj hsj a oi.dst v h1] at hasks; exact hasks,hlets⟩
  refine .inl ?_;unfold Oper.wp at *;rw [execOp_put oj hsj a oi.dst v h1] at h;generalize (execOp a.eval oj).run P w=r at *;cases r with
  | ok n w' =>
   cases n <;> simp only [Oper.upon] at h ⊢
   case value u=>exact ⟨aM a hy u,by rw [← Act.put_comm a v u h2]; exact h⟩
   case skip=>exact ⟨aM a hy _,by rw [← Act.put_comm a v undef h2]; exact h⟩
   case defer d =>
    refine ⟨aM _ (keepD a d hy) _,?_⟩;rw [← Act.put_comm _ v undef h2,← Act.put_defers];exact h
   case enter f args =>
    refine Calls.mono h fun e w'' he=>?_
    cases e with
    | returned u=>exact ⟨aM a hy u,by rw [← Act.put_comm a v u h2]; exact he⟩
    | panicked c=>exact hQ _ _ _ he
    | outgrown=>exact he
   case row row args=>exact Rows.mono h fun u w'' he=>⟨aM a hy u,by rw [← Act.put_comm a v u h2]; exact he⟩
  | halt x w' =>
   cases x <;> simp only [Oper.upon] at h ⊢
   case panic u=>exact hQ _ _ _ h
 ·rename_i hw
  simp only [hw] at h;exact ⟨aM a hy _,by rw [← Act.put_comm a v undef h2]; exact h⟩
def nK (P:Program) (md:Region.Mode) (ops:Array Oper) (Q:Exit→Act→World→Prop) (C:World→Prop):Nat→Array Bool→Act→World→Prop
 | 0,listed,a,w=>Region.ready md ops listed = []∧∀ w',Below w w w'→Q .normal a w'
 | fuel+1,listed,a,w=>∀ w',Below w w w'→(Region.ready md ops listed = []→Q .normal a w') ∧
  ∀ i ∈ Region.ready md ops listed,wpOp P ops Q i (fun a' w''=>C w''∧nK P md ops Q C fuel (listed.setIfInBounds i true) a' w'') a w'
theorem nK.later:∀ (fuel:Nat) {listed:Array Bool} {a:Act} {w w1:World},nK P md ops Q C fuel listed a w→Below w w w1→nK P md ops Q C fuel listed a w1
 | 0,_,_,_,_,h,hb=>⟨h.1,fun w' hw'=>h.2 w' (chain hb hw')⟩
 | _+1,_,_,_,_,h,hb=>fun w' hw'=>h w' (chain hb hw')
theorem mi:∀ (fuel:Nat) (listed:Array Bool) (a:Act) (w:World),nK P md ops Q C fuel listed a w→wpAny P md ops Q fuel listed a w
 | 0,_,_,_,h=>⟨h.1,h.2 _ (I8 _ _)⟩
 | fuel+1,_,_,w,h=>⟨(h w (I8 _ _)).1,fun i hi=>wpOp_mono (fun a' w' h'=>mi fuel _ a' w' h'.2) ((h w (I8 _ _)).2 i hi)⟩
theorem yF (hC:∀ w w',C w→Below w w w'→C w') {i:Nat} {oi:Oper} {v:Value} (hi:ops[i]? = some oi) (hsel:∀ (j:Nat) (o:Oper) cs b,ops[j]? = some o→o.op ≠ .select cs b)
  (hQ:∀ c a w,Q (.panic c) (a.put oi.dst v) w→Q (.panic c) a w) :
  ∀ (fuel:Nat) (listed:Array Bool) (a:Act) (w:World),
   (∀ j oj,ops[j]? = some oj→j≠i→listed.getD j true=false→(∀ e ∈ oj.after,Region.binds md e=true→e.on≠i)→oi.apart ops oj=true) →
   i ∈ Region.ready md ops listed→gW P ops C oi v a→C w →
   nK P md ops Q C fuel (listed.setIfInBounds i true) (a.put oi.dst v) w→nK P md ops Q C (fuel+1) listed a w:=by
 intro fuel
 induction fuel with
 | zero =>
  intro listed a w _ hr hy hB H w' hw';refine ⟨fun h=>(by rw [h] at hr; cases hr),fun j hj=>?_⟩;by_cases hji:j=i
  ·subst hji;exact hy.wpOp hi (hC _ _ hB hw') fun w'' hw''=>⟨hC _ _ (hC _ _ hB hw') hw'',H.later 0 (chain hw' hw'')⟩
  ·have:=ready_mono hj hji;rw [H.1] at this;cases this
 | succ fuel ih =>
  intro listed a w hfree hr hy hB H w' hw';refine ⟨fun h=>(by rw [h] at hr; cases hr),fun j hj=>?_⟩;by_cases hji:j=i
  ·subst hji;exact hy.wpOp hi (hC _ _ hB hw') fun w'' hw''=>⟨hC _ _ (hC _ _ hB hw') hw'',H.later (fuel+1) (chain hw' hw'')⟩
  ·have h1:=(H w' hw').2 j (ready_mono hj hji);obtain ⟨hjun,oj,hoj,hall⟩:=mem_ready.1 hj;have hnot:∀ e ∈ oj.after,Region.binds md e=true→e.on≠i:=fun e he hb heq=>by
    have h1:=hall e he hb;have h0:=(mem_ready.1 hr).1;rw [heq] at h1;rcases Jw i listed.size with h' | h'
    ·simp [h'] at h0 h1; rw [h0] at h1; cases h1
    ·simp [JF h'] at h1
   have hap:=hfree j oj hoj hji hjun hnot;obtain ⟨_,_,h3⟩:=Oper.apart_spec hap;have h2:=rn (Φ:=gW P ops C oi v) hoj hap (fun cs b=>hsel j oj cs b hoj) hQ
    (fun a hy u=>hy.of_same (execOp_put oi (fun cs b=>hsel i oi cs b hi) a oj.dst u h3) (wanted_put oi a oj.dst u h3)) (fun a d hy=>hy.of_same rfl rfl) hy h1
   have hfree':∀ k ok,ops[k]? = some ok→k≠i→(listed.setIfInBounds j true).getD k true=false →
     (∀ e ∈ ok.after,Region.binds md e=true→e.on≠i)→oi.apart ops ok=true:=fun k ok hk hki hun hno=>by
    refine hfree k ok hk hki ?_ hno;by_cases hjk:j=k
    ·subst hjk; exact hjun
    ·rw [getD_set_ne true hjk] at hun; exact hun
   refine wpOp_mono (fun a' w'' h4=>⟨h4.2.1,ih (listed.setIfInBounds j true) a' w'' hfree' (ready_mono hr (Ne.symm hji)) h4.1 h4.2.1 ?_⟩) h2;rw [Array.setIfInBounds_comm _ _ hji];exact h4.2.2
theorem eA (hC:∀ w w',C w→Below w w w'→C w') {i:Nat} {oi:Oper} {v:Value} {fuel:Nat} {listed:Array Bool} {a:Act} {w:World} (d:Option Tmp) (hi:ops[i]? = some oi) (hd:oi.dst=d)
  (hs:Region.noSelect ops=true) (hf:Region.free md ops listed i=true) (hr:(Region.ready md ops listed).contains i=true)
  (hQ:∀ c a w,Q (.panic c) (a.put oi.dst v) w→Q (.panic c) a w) (hy:gW P ops C oi v a) (hB:C w)
  (h:nK P md ops Q C fuel (listed.setIfInBounds i true) (a.put d v) w):nK P md ops Q C (fuel+1) listed a w:=by
 subst hd;exact yF hC hi (Region.noSelect_spec hs) hQ fuel listed a w (Region.free_spec hi hf) (by simpa using hr) hy hB h
theorem oU {rs:List Nat} {fuel:Nat} {listed:Array Bool} {a:Act} {w:World} (hr:Region.ready md ops listed=rs) (hne:rs ≠ [])
  (h:∀ w',Below w w w'→∀ i ∈ rs,wpOp P ops Q i (fun a' w''=>C w''∧nK P md ops Q C fuel (listed.setIfInBounds i true) a' w'') a w'):nK P md ops Q C (fuel+1) listed a w :=
 fun w' hw'=>⟨fun h0=>absurd (hr ▸ h0) hne,hr ▸ h w' hw'⟩
theorem cT (hC:∀ w w',C w→Below w.heap.size w w'→C w') (d:Tmp) (i:Nat) (v:Value) {oi:Oper} {fuel:Nat} {listed:Array Bool} {a:Act} {w:World} (hy:∀ n:World,C n→Oper.quietUpon P (fun w'=>Below n.heap.size n w') n v ((execOp a.eval oi).run P n)) (hB:C w) (h:nK P md ops Q C fuel (listed.setIfInBounds i true) (a.put (some d) v) w) (hi:ops[i]? = some oi:=by exact rfl) (hd:oi.dst = some d:=by exact rfl) (hs:Region.noSelect ops=true:=by kernel_rfl) (hf:Region.free md ops listed i=true:=by kernel_rfl) (hr:(Region.ready md ops listed).contains i=true:=by kernel_rfl) (hQ:∀ c a w,Q (.panic c) (a.put oi.dst v) w→Q (.panic c) a w:=by exact fun _ _ _ h=>h) (hw:Region.wanted oi (yielded ops a.tmps)=true:=by exact rfl):nK P md ops Q C (fuel+1) listed a w:=eA hC (some d) hi hd hs hf hr hQ (.inl ⟨hw,hy⟩) hB h
theorem pN (j:Nat) {fuel:Nat} {listed:Array Bool} {a:Act} {w:World} (hr:Region.ready md ops listed=[j]) (h:∀ w',Below w.heap.size w w'→wpOp P ops Q j (fun a' w''=>C w''∧nK P md ops Q C fuel (listed.setIfInBounds j true) a' w'') a w'):nK P md ops Q C (fuel+1) listed a w:=oU hr (by simp) fun w' hb i hi=>by
 obtain rfl:i=j:=by simpa using hi
 exact h w' hb
theorem eK {listed:Array Bool} {a:Act} {w:World} (hr:Region.ready md ops listed = []) (h:∀ w',Below w w w'→Q .normal a w'):nK P md ops Q C 0 listed a w:=⟨hr,h⟩
theorem bX {id:Nat} {a:Act} {w:World} (C:World→Prop) (hm:P.follows .mixedOrders=true)
  (h:nK P .any ops Q C ops.size (Array.replicate ops.size false) a w.drew):(Code.region id ops true).wp P Q a w :=
 wp_region_any hm (mi _ _ _ _ h)
end
end Go.Proofs.YtoknmnngaackkaaGreatDoor
