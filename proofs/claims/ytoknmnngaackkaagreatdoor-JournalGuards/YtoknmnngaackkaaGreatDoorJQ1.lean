/- Together: A7, A8, A9, AA, AB, AC, AD, Past, Ext2. -/
import Derived.Defers
import Derived.Recover
import Derived.Deep.Cut
import Derived.Deep.MidRow
import Derived.WalkKit
import Derived.BigQuiet
import Derived.OrdersHeld
import Derived.RegionTactic
import Derived.Test.YtoknmnngaackkaaGreatDoorJQ0
namespace Go.Proofs.YtoknmnngaackkaaGreatDoor
open Go.RowKit Go.Lib Go.Shelf
set_option maxRecDepth 100000
set_option maxHeartbeats 16000000
set_option maxRecDepth 100000
set_option maxHeartbeats 4000000
theorem tp {w:World} {R tb:Nat} {ts:List Tk} {o:Int} (h:au w R tb ts o):Calls Tryz.prog 244 #[.pointer (some ⟨R,0,none⟩)] w fun e w'=>e = .returned (.bool (dI ts))∧Below w.heap.size w w':=by
 obtain ⟨t,r,rfl⟩:=h.gQ.ne;have con:=iT h;have HR:Hid (au w R tb (t :: r) o):=h;generalize hM:dI (t :: r)=M;have HM:Hid (((t.1 == 2) || (t.1 == 3) || bu ⟨#[45]⟩ (t :: r) || bu ⟨#[110,117,108,108]⟩ (t :: r) || bu ⟨#[116,114,117,101]⟩ (t :: r) || bu ⟨#[102,97,108,115,101]⟩ (t :: r))=M):=hM;clear h hM;rcases g1:t.1 == 2 with _ | _
 case true =>
  go_enter Tryz.func244,Tryz.ntmps244;go_wp2_with fail
  refine con.mono ?_;rintro e w1 ⟨rfl,hb1⟩;have hf:=dR (.string t.2.1) (.int .i64 t.2.2) t.1 w1;go_wp2_with fail
  exact C0 (results_tmp rfl _ _ _) rfl ⟨by rw [← HM.out,g1]; rfl,hb1⟩
 rcases g2:t.1 == 3 with _ | _
 case true =>
  go_enter Tryz.func244,Tryz.ntmps244;go_wp2_with fail
  refine con.mono ?_;rintro e w1 ⟨rfl,hb1⟩;have hf:=dR (.string t.2.1) (.int .i64 t.2.2) t.1 w1;go_wp2_with fail
  exact C0 (results_tmp rfl _ _ _) rfl ⟨by rw [← HM.out,g1,g2]; rfl,hb1⟩
 rcases k0:bu ⟨#[45]⟩ (t :: r) with _ | _
 case true =>
  go_enter Tryz.func244,Tryz.ntmps244;go_wp2_with fail
  refine con.mono ?_;rintro e w1 ⟨rfl,hb1⟩;have hf:=dR (.string t.2.1) (.int .i64 t.2.2) t.1 w1;have con0:=gX (HR.out.next (hb1)) ⟨#[45]⟩;rw [k0] at con0;go_wp2_with fail
  refine con0.mono ?_;rintro e v0 ⟨rfl,c0⟩;go_wp2_with fail
  exact C0 (results_tmp rfl _ _ _) rfl ⟨by rw [← HM.out,g1,g2,k0]; rfl,chain (hb1) c0⟩
 rcases k1:bu ⟨#[110,117,108,108]⟩ (t :: r) with _ | _
 case true =>
  go_enter Tryz.func244,Tryz.ntmps244;go_wp2_with fail
  refine con.mono ?_;rintro e w1 ⟨rfl,hb1⟩;have hf:=dR (.string t.2.1) (.int .i64 t.2.2) t.1 w1;have con0:=gX (HR.out.next (hb1)) ⟨#[45]⟩;rw [k0] at con0;go_wp2_with fail
  refine con0.mono ?_;rintro e v0 ⟨rfl,c0⟩;have con1:=gX (HR.out.next (chain (hb1) c0)) ⟨#[110,117,108,108]⟩;rw [k1] at con1;go_wp2_with fail
  refine con1.mono ?_;rintro e v1 ⟨rfl,c1⟩;go_wp2_with fail
  exact C0 (results_tmp rfl _ _ _) rfl ⟨by rw [← HM.out,g1,g2,k0,k1]; rfl,chain (chain (hb1) c0) c1⟩
 rcases k2:bu ⟨#[116,114,117,101]⟩ (t :: r) with _ | _
 case true =>
  go_enter Tryz.func244,Tryz.ntmps244;go_wp2_with fail
  refine con.mono ?_;rintro e w1 ⟨rfl,hb1⟩;have hf:=dR (.string t.2.1) (.int .i64 t.2.2) t.1 w1;have con0:=gX (HR.out.next (hb1)) ⟨#[45]⟩;rw [k0] at con0;go_wp2_with fail
  refine con0.mono ?_;rintro e v0 ⟨rfl,c0⟩;have con1:=gX (HR.out.next (chain (hb1) c0)) ⟨#[110,117,108,108]⟩;rw [k1] at con1;go_wp2_with fail
  refine con1.mono ?_;rintro e v1 ⟨rfl,c1⟩;have con2:=gX (HR.out.next (chain (chain (hb1) c0) c1)) ⟨#[116,114,117,101]⟩;rw [k2] at con2;go_wp2_with fail
  refine con2.mono ?_;rintro e v2 ⟨rfl,c2⟩;go_wp2_with fail
  exact C0 (results_tmp rfl _ _ _) rfl ⟨by rw [← HM.out,g1,g2,k0,k1,k2]; rfl,chain (chain (chain (hb1) c0) c1) c2⟩
 rcases k3:bu ⟨#[102,97,108,115,101]⟩ (t :: r) with _ | _
 case true =>
  go_enter Tryz.func244,Tryz.ntmps244;go_wp2_with fail
  refine con.mono ?_;rintro e w1 ⟨rfl,hb1⟩;have hf:=dR (.string t.2.1) (.int .i64 t.2.2) t.1 w1;have con0:=gX (HR.out.next (hb1)) ⟨#[45]⟩;rw [k0] at con0;go_wp2_with fail
  refine con0.mono ?_;rintro e v0 ⟨rfl,c0⟩;have con1:=gX (HR.out.next (chain (hb1) c0)) ⟨#[110,117,108,108]⟩;rw [k1] at con1;go_wp2_with fail
  refine con1.mono ?_;rintro e v1 ⟨rfl,c1⟩;have con2:=gX (HR.out.next (chain (chain (hb1) c0) c1)) ⟨#[116,114,117,101]⟩;rw [k2] at con2;go_wp2_with fail
  refine con2.mono ?_;rintro e v2 ⟨rfl,c2⟩;have con3:=gX (HR.out.next (chain (chain (chain (hb1) c0) c1) c2)) ⟨#[102,97,108,115,101]⟩;rw [k3] at con3;go_wp2_with fail
  refine con3.mono ?_;rintro e v3 ⟨rfl,c3⟩;go_wp2_with fail
  exact C0 (results_tmp rfl _ _ _) rfl ⟨by rw [← HM.out,g1,g2,k0,k1,k2,k3]; rfl,chain (chain (chain (chain (hb1) c0) c1) c2) c3⟩
 go_enter Tryz.func244,Tryz.ntmps244;go_wp2_with fail
 refine con.mono ?_;rintro e w1 ⟨rfl,hb1⟩;have hf:=dR (.string t.2.1) (.int .i64 t.2.2) t.1 w1;have con0:=gX (HR.out.next (hb1)) ⟨#[45]⟩;rw [k0] at con0;go_wp2_with fail
 refine con0.mono ?_;rintro e v0 ⟨rfl,c0⟩;have con1:=gX (HR.out.next (chain (hb1) c0)) ⟨#[110,117,108,108]⟩;rw [k1] at con1;go_wp2_with fail
 refine con1.mono ?_;rintro e v1 ⟨rfl,c1⟩;have con2:=gX (HR.out.next (chain (chain (hb1) c0) c1)) ⟨#[116,114,117,101]⟩;rw [k2] at con2;go_wp2_with fail
 refine con2.mono ?_;rintro e v2 ⟨rfl,c2⟩;have con3:=gX (HR.out.next (chain (chain (chain (hb1) c0) c1) c2)) ⟨#[102,97,108,115,101]⟩;rw [k3] at con3;go_wp2_with fail
 refine con3.mono ?_;rintro e v3 ⟨rfl,c3⟩;go_wp2_with fail
 exact C0 (results_tmp rfl _ _ _) rfl ⟨by rw [← HM.out,g1,g2,k0,k1,k2,k3]; rfl,chain (chain (chain (chain (hb1) c0) c1) c2) c3⟩
structure sd (W:World) (b off:Nat) (x:SX) (a:Option Addr) (cap:Nat):Prop where
 c0:W.cell? ⟨b,off,none⟩=some (.int .i64 x.k)
 c1:W.cell? ⟨b,off+1,none⟩=some (.int .i64 x.v.1)
 c2:W.cell? ⟨b,off+2,none⟩=some (.int .i64 x.v.2.1)
 c3:W.cell? ⟨b,off+3,none⟩=some (.string x.v.2.2)
 c4:W.cell? ⟨b,off+4,none⟩=some (.string x.aH)
 c5:W.cell? ⟨b,off+5,none⟩=some (.string x.name)
 c6:W.cell? ⟨b,off+6,none⟩=some (.slice a x.ks.length cap)
theorem sd.jo {t:Nat} {W W':World} {b off:Nat} {x:SX} {a:Option Addr} {cap:Nat} (h:sd W b off x a cap) (hb:af t W W') (hl:b<W.heap.size) (hn:b≠t):sd W' b off x a cap :=
 have f:∀ o,W'.cell? ⟨b,o,none⟩=W.cell? ⟨b,o,none⟩:=fun o=>hb.cell (p:=⟨b,o,none⟩) hl hn
 ⟨(f _).trans h.c0,(f _).trans h.c1,(f _).trans h.c2,(f _).trans h.c3,(f _).trans h.c4,(f _).trans h.c5,(f _).trans h.c6⟩
def aF (g:Nat) (W W':World):Prop:=W.heap.size≤W'.heap.size∧∀ k,k<W.heap.size→k≠g→W'.heap[k]? = W.heap[k]?
theorem af.k1 {t:Nat} {W W':World} (h:af t W W'):aF t W W':=⟨h.size,h.2⟩
theorem aF.of {g:Nat} {W W':World} (h:Below W.heap.size W W'):aF g W W':=⟨h.size,fun k hk _=>h.block k hk⟩
theorem aF.trans {g:Nat} {a b c:World} (h:aF g a b) (k:aF g b c):aF g a c:=⟨Dt h.1 k.1,fun i hi hn=>(k.2 i (Dg hi h.1) hn).trans (h.2 i hi hn)⟩
theorem aF.refl (g:Nat) (a:World):aF g a a:=⟨CX _,fun _ _ _=>rfl⟩
theorem aF.set {g:Nat} {a b:World} (h:aF g a b) (o:Nat) (u:Value):aF g a (b.setCell ⟨g,o,none⟩ u) :=
 ⟨by simpa using h.1,fun k hk hn=>(DN b ⟨g,o,none⟩ u k hn).trans (h.2 k hk hn)⟩
theorem sd.k1 {t:Nat} {W W':World} {b off:Nat} {x:SX} {a:Option Addr} {cap:Nat} (h:sd W b off x a cap) (hb:aF t W W') (hl:b<W.heap.size) (hn:b≠t):sd W' b off x a cap :=
 have f:∀ o,W'.cell? ⟨b,o,none⟩=W.cell? ⟨b,o,none⟩:=fun o=>Dq (a:=⟨b,o,none⟩) (hb.2 b hl hn)
 ⟨(f _).trans h.c0,(f _).trans h.c1,(f _).trans h.c2,(f _).trans h.c3,(f _).trans h.c4,(f _).trans h.c5,(f _).trans h.c6⟩
inductive aD (S:Nat→Prop) (W:World):Option Addr→List SX→Prop
 | nil (a:Option Addr):aD S W a []
 | some (b off:Nat) (l:List SX) (ai:Nat→Option Addr) (cap:Nat→Nat) (hb:S b) (hlt:b<W.heap.size)
   (hc:∀ (i:Nat) (h:i<l.length),sd W b (off+i*7) l[i] (ai i) (cap i))
   (hk:∀ (i:Nat) (h:i<l.length),aD S W (ai i) l[i].ks):aD S W (some ⟨b,off,none⟩) l
theorem aD.k1 {S:Nat→Prop} {g:Nat} {W W':World} (hb:aF g W W') (hg:¬ S g) {a:Option Addr} {l:List SX} (h:aD S W a l):aD S W' a l:=by
 induction h with
 | nil a=>exact .nil a
 | some b off l ai cap hR hlt hc _ ih=>exact .some b off l ai cap hR (Dg hlt hb.1) (fun i hi=>(hc i hi).k1 hb hlt (by rintro rfl; exact hg hR)) ih
theorem aD.next {S:Nat→Prop} {W W':World} (hb:Below W.heap.size W W') {a:Option Addr} {l:List SX} (h:aD S W a l):aD S W' a l:=by
 induction h with
 | nil a=>exact .nil a
 | some b off l ai cap hR hlt hc _ ih=>exact .some b off l ai cap hR (Dg hlt hb.size) (fun i hi=>(hc i hi).k1 (aF.of (g:=W.heap.size) hb) hlt (by omega)) ih
theorem aD.mono {S S':Nat→Prop} {W:World} (hs:∀ b,S b→b<W.heap.size→S' b) {a:Option Addr} {l:List SX} (h:aD S W a l):aD S' W a l:=by
 induction h with
 | nil a=>exact .nil a
 | some b off l ai cap hR hlt hc _ ih=>exact .some b off l ai cap (hs b hR hlt) hlt hc ih
theorem aD.elem {S:Nat→Prop} {W:World} {a:Option Addr} {l:List SX} (h:aD S W a l) {k:Nat} (hk:k<l.length) :
  ∃ b off ai cap,a=Option.some ⟨b,off,none⟩∧S b∧b<W.heap.size∧sd W b (off+k*7) l[k] ai cap∧aD S W ai l[k].ks:=by
 cases h with
 | nil=>simp at hk
 | some b off l ai cap hb hlt hc hh=>exact ⟨b,off,ai k,cap k,rfl,hb,hlt,hc k hk,hh k hk⟩
abbrev bQ (B:Nat) (W:World) (a:Option Addr) (l:List SX):Prop:=aD (fun b=>B≤b) W a l
theorem bQ.k1 {B g:Nat} {W W':World} (hb:aF g W W') (hg:g<B) {a:Option Addr} {l:List SX} (h:bQ B W a l):bQ B W' a l:=aD.k1 hb (by show ¬ B≤g; omega) h
theorem bQ.next {B:Nat} {W W':World} (hb:Below W.heap.size W W') {a:Option Addr} {l:List SX} (h:bQ B W a l):bQ B W' a l:=aD.next hb h
theorem bQ.mono {B B':Nat} {W:World} (hB:B'≤B) {a:Option Addr} {l:List SX} (h:bQ B W a l):bQ B' W a l:=aD.mono (fun _ h _=>Dt hB h) h
abbrev aT (x:SX) (a:Option Addr) (cap:Nat):Array Value:=#[.int .i64 x.k,.int .i64 x.v.1,.int .i64 x.v.2.1,.string x.v.2.2,.string x.aH,.string x.name,.slice a x.ks.length cap]
def VX (B:Nat) (W:World) (v:Value) (x:SX):Prop:=∃ a cap,v = .agg (aT x a cap)∧bQ B W a x.ks
theorem VX.k1 {B g:Nat} {W W':World} (hb:aF g W W') (hg:g<B) {v:Value} {x:SX} (h:VX B W v x):VX B W' v x:=by
 obtain ⟨a,cap,h1,h2⟩:=h;exact ⟨a,cap,h1,h2.k1 hb hg⟩
theorem VX.mono {B B':Nat} {W:World} (hB:B'≤B) {v:Value} {x:SX} (h:VX B W v x):VX B' W v x:=by
 obtain ⟨a,cap,h1,h2⟩:=h;exact ⟨a,cap,h1,h2.mono hB⟩
theorem au.k1 {W w1:World} {R tb g:Nat} {ts:List Tk} {o:Int} (h:au W R tb ts o) (hk:aF g W w1) (h1:g≠R) (h2:g≠tb) (h3:1<g):au w1 R tb ts o:=by
 obtain ⟨off,cap,e1,e2,e3⟩:=h.ex;have f:∀ o,w1.cell? ⟨tb,o,none⟩=W.cell? ⟨tb,o,none⟩:=fun o=>Dq (a:=⟨tb,o,none⟩) (hk.2 tb e3.lt (Ne.symm h2))
 exact ⟨⟨off,cap,(hk.2 _ (lt_of_heap e1) (Ne.symm h1)).trans e1,e2,⟨Dg e3.lt hk.1,fun i hi=>(f _).trans (e3.c0 i hi),fun i hi=>(f _).trans (e3.c1 i hi),fun i hi=>(f _).trans (e3.c2 i hi)⟩⟩,h.ne,h.gQ,h.small,⟨Dg h.gl.lt hk.1,fun j hj=>(Dq (a:=⟨1,j,none⟩) (hk.2 1 h.gl.lt (by omega))).trans (h.gl.inf j hj),fun j hj=>(Dq (a:=⟨0,j,none⟩) (hk.2 0 (by have:=h.gl.lt; omega) (by omega))).trans (h.gl.sig j hj)⟩,h.r2⟩
theorem au.j5 {W:World} {R tb:Nat} {ts:List Tk} {o:Int} (h:au W R tb ts o):tb<W.heap.size:=by
 obtain ⟨_,_,_,_,h⟩:=h.ex;exact h.lt
theorem fL (k:Int) (a:Option Addr) (n cap:Nat) (w:World):Calls Tryz.prog 221 #[.int .i64 k,.slice a n cap] w fun e w'=>e = .returned (.agg #[.int .i64 k,.int .i64 0,.int .i64 0,.string ⟨#[]⟩,.string ⟨#[]⟩,.string ⟨#[]⟩,.slice a n cap])∧Below w.heap.size w w':=by
 go_enter Tryz.func221,Tryz.ntmps221;go_wp2_with fail
 exact C0 (v:=.agg #[.int .i64 k,.int .i64 0,.int .i64 0,.string ⟨#[]⟩,.string ⟨#[]⟩,.string ⟨#[]⟩,.slice a n cap]) (by simp [results,Tryz.results221,go_sem]) rfl ⟨rfl,(CY _ _).alloc (CX _) _⟩
theorem au.gi {W:World} {R tb:Nat} {ts:List Tk} {o:Int} (h:au W R tb ts o) (o':Int):au (W.setCell ⟨R,1,none⟩ (.int .i64 o')) R tb ts o'∧af R W (W.setCell ⟨R,1,none⟩ (.int .i64 o')):=by
 obtain ⟨off,cap,e1,e2,e3⟩:=h.ex;have hb:af R W (W.setCell ⟨R,1,none⟩ (.int .i64 o')):=(af.refl _ _).set _ _;exact ⟨⟨⟨off,cap,C1 W R 1 _ _ (.int .i64 o') e1,e2,e3.jo hb h.ne⟩,h.ne,h.gQ,h.small,h.gl.jo hb h.r2,h.r2⟩,hb⟩
theorem hJ {W:World} {b o:Nat} {u:Value} (hc:W.cell? ⟨b,o,none⟩=some u):b<W.heap.size:=by
 rcases DF b W.heap.size with h' | h'
 ·exact h'
 ·simp [World.cell?,DM h'] at hc
theorem aK {W:World} {g:Nat} {T:TypeId} {c0 c1 c2 c3 c4 c5 c6:Value} (h:W.heap[g]? = some (.cells #[c0,c1,c2,c3,c4,c5,c6] T (0,0))):W.cell? ⟨g,0,none⟩=some c0∧W.cell? ⟨g,1,none⟩=some c1∧W.cell? ⟨g,2,none⟩=some c2∧W.cell? ⟨g,3,none⟩=some c3∧W.cell? ⟨g,4,none⟩=some c4∧W.cell? ⟨g,5,none⟩=some c5∧W.cell? ⟨g,6,none⟩=some c6 :=
 ⟨cell_of (i:=0) h rfl,cell_of (i:=1) h rfl,cell_of (i:=2) h rfl,cell_of (i:=3) h rfl,cell_of (i:=4) h rfl,cell_of (i:=5) h rfl,cell_of (i:=6) h rfl⟩
theorem dE {W:World} {g:Nat} {T:TypeId} {c0 c1 c2 c3 c4 c5 c6:Value} (h:W.heap[g]? = some (.cells #[c0,c1,c2,c3,c4,c5,c6] T (0,0))):W.frozen? ⟨g,0,none⟩=false∧W.frozen? ⟨g,1,none⟩=false∧W.frozen? ⟨g,2,none⟩=false∧W.frozen? ⟨g,3,none⟩=false∧W.frozen? ⟨g,4,none⟩=false∧W.frozen? ⟨g,5,none⟩=false∧W.frozen? ⟨g,6,none⟩=false :=
 ⟨C3 W g 0 _ _ h,C3 W g 1 _ _ h,C3 W g 2 _ _ h,C3 W g 3 _ _ h,C3 W g 4 _ _ h,C3 W g 5 _ _ h,C3 W g 6 _ _ h⟩
theorem lU {W:World} {g:Nat} {T:TypeId} {c0 c1 c2 c3 c4 c5 c6:Value} (h:W.heap[g]? = some (.cells #[c0,c1,c2,c3,c4,c5,c6] T (0,0))) (v0 v1 v2 v3 v4 v5 v6:Value):(((((((W.setCell ⟨g,0,none⟩ v0).setCell ⟨g,1,none⟩ v1).setCell ⟨g,2,none⟩ v2).setCell ⟨g,3,none⟩ v3).setCell ⟨g,4,none⟩ v4).setCell ⟨g,5,none⟩ v5).setCell ⟨g,6,none⟩ v6).heap[g]? = some (.cells #[v0,v1,v2,v3,v4,v5,v6] T (0,0)):=by
 have h:=C1 _ g 0 _ _ v0 h;have h:=C1 _ g 1 _ _ v1 h;have h:=C1 _ g 2 _ _ v2 h;have h:=C1 _ g 3 _ _ v3 h;have h:=C1 _ g 4 _ _ v4 h;have h:=C1 _ g 5 _ _ v5 h;have h:=C1 _ g 6 _ _ v6 h;exact h
theorem wG {t g:Nat} {W0 W:World} (h:af t W0 W) (hg:W0.heap.size≤g) (ht:t≤W0.heap.size) (v0 v1 v2 v3 v4 v5 v6:Value):af t W0 (((((((W.setCell ⟨g,0,none⟩ v0).setCell ⟨g,1,none⟩ v1).setCell ⟨g,2,none⟩ v2).setCell ⟨g,3,none⟩ v3).setCell ⟨g,4,none⟩ v4).setCell ⟨g,5,none⟩ v5).setCell ⟨g,6,none⟩ v6) :=
 (((((((h.aL g 0 _ hg ht).aL g 1 _ hg ht).aL g 2 _ hg ht).aL g 3 _ hg ht).aL g 4 _ hg ht).aL g 5 _ hg ht).aL g 6 _ hg ht)
abbrev dU:Array Value:=#[.int .i64 0,.int .i64 0,.int .i64 0,.string ⟨#[]⟩,.string ⟨#[]⟩,.string ⟨#[]⟩,.slice none 0 0]
theorem jB {w:World} {R tb q:Nat} {ts:List Tk} {o:Int} (h:au w R tb ts o) (hq:w.cell? ⟨q,0,none⟩=some (.pointer (some ⟨R,0,none⟩))) (ho:-1000≤o∧o≤1000) (u:FrameMode) :
  CallsD Tryz.prog 218 #[.pointer (some ⟨q,0,none⟩)] u w fun e u' w'=>u'=u∧(e = .returned (.tuple #[])∧w'=w.setCell ⟨R,1,none⟩ (.int .i64 (o - 1))):=by
 obtain ⟨off,cap,e1,e2,e3⟩:=h.ex;have c1:w.cell? ⟨R,1,none⟩=some (.int .i64 o):=cell_of (i:=1) e1 rfl;have f1:=C3 w R 1 _ _ e1;clear h e1 e2 e3;go_enter_d Tryz.func218,Tryz.ntmps218
 go_wp2_with fail
 go_end0
 exact ⟨rfl,rfl⟩
theorem wH {w:World} {R tb q:Nat} {ts:List Tk} {o:Int} (h:au w R tb ts o) (hq:w.cell? ⟨q,0,none⟩=some (.pointer (some ⟨R,0,none⟩))) (hqR:q≠R) (ho:0≤o∧o≤100) (r:PR SX)
  (hf:o+1≤100→∀ W,af R w W→au W R tb ts (o+1)→W.cell? ⟨q,0,none⟩=some (.pointer (some ⟨R,0,none⟩))→Calls Tryz.prog 196 #[.pointer (some ⟨q,0,none⟩)] W (Ends R tb (o+1) W (VX W.heap.size) r)) :
  Calls Tryz.prog 195 #[.pointer (some ⟨R,0,none⟩),.func (.func 196) #[] #[.pointer (some ⟨q,0,none⟩)]] w (Ends R tb o w (VX w.heap.size) (if o+1 > 100 then .error (4,gY ts) else r)):=by
 have hmf:∀ (fn:Fn) (first cap:Array Value) (w:World),(Instr.makeFunc fn first cap).run Tryz.prog w = .ok (.func fn first cap) w:=fun _ _ _ _=>rfl
 obtain ⟨off,cap,e1,e2,e3⟩:=h.ex;have hR:=h.lt;have HTB:w.heap.size+1≠tb:=by have:=e3.lt; omega
 have HR:Hid (au w R tb ts o):=h;have a1:w.cell? ⟨R,1,none⟩=some (.int .i64 o):=cell_of (i:=1) e1 rfl;have f1:=C3 w R 1 _ _ e1;have HF:Hid _:=hf;clear h e1 e2 e3 hf;generalize hM:(if o+1 > 100 then Except.error (4,gY ts) else r:PR SX)=M;have HM:Hid ((if o+1 > 100 then Except.error (4,gY ts) else r:PR SX)=M):=hM;clear hM;go_enter_defers Tryz.func195,Tryz.ntmps195
 go_upto_region 3 with fail
 have hset:=HR.out.gi (o+1);obtain ⟨hR1,hb1⟩:=hset;have hz1:(w.setCell ⟨R,1,none⟩ (.int .i64 (o+1))).heap.size=w.heap.size:=World.size_setCell ..;have HR1:Hid (au (w.setCell ⟨R,1,none⟩ (.int .i64 (o+1))) R tb ts (o+1)):=hR1;clear hR1;generalize w.setCell ⟨R,1,none⟩ (.int .i64 (o+1))=w1 at *;have hA:Below w1.heap.size w1 ((w1.alloc (.cells #[.pointer (some ⟨R,0,none⟩)] 155)).alloc (.cells dU 55)):=((CY _ _).alloc (CX _) _).alloc (by simp) _
 have Q1:((w1.alloc (.cells #[.pointer (some ⟨R,0,none⟩)] 155)).alloc (.cells dU 55)).heap[w.heap.size]? = some (.cells #[.pointer (some ⟨R,0,none⟩)] 155 (0,0)):=by
  rw [← hz1];exact (((CY _ _).alloc (CX _) _).block _ (by simp)).trans (ar w1 _ _)
 have Q2:((w1.alloc (.cells #[.pointer (some ⟨R,0,none⟩)] 155)).alloc (.cells dU 55)).heap[w.heap.size+1]? = some (.cells dU 55 (0,0)):=by
  rw [show w.heap.size+1=(w1.alloc (.cells #[.pointer (some ⟨R,0,none⟩)] 155)).heap.size by simp [hz1]];exact ar _ _ _
 generalize ((w1.alloc (.cells #[.pointer (some ⟨R,0,none⟩)] 155)).alloc (.cells dU 55))=w2 at *;have hb2:af R w w2:=hb1.trans (.of hA (by omega));have hR2:au w2 R tb ts (o+1):=HR1.out.next hA;have HR2:Hid (au w2 R tb ts (o+1)):=hR2;have hq2:w2.cell? ⟨q,0,none⟩=some (.pointer (some ⟨R,0,none⟩)):=by
  have hlt:q<w.heap.size:=hJ hq;exact (hb2.cell (p:=⟨q,0,none⟩) hlt hqR).trans hq
 have HQ2:Hid (w2.cell? ⟨q,0,none⟩=some (.pointer (some ⟨R,0,none⟩))):=hq2;obtain ⟨off,cap,e1,e2,e3⟩:=hR2.ex;have d1:w2.cell? ⟨R,1,none⟩=some (.int .i64 (o+1)):=cell_of (i:=1) e1 rfl;have d2:w2.cell? ⟨w.heap.size,0,none⟩=some (.pointer (some ⟨R,0,none⟩)):=cell_of (i:=0) Q1 rfl;have ltR:=hR2.lt;clear hR2 e1 e2 e3 a1 f1 hq hq2 hA hb1;by_cases hbig:o+1 > 100
 ·have hbig':100<o+1:=by omega
  have e:M = .error (4,gY ts):=by rw [← HM.out,if_pos hbig]
  subst e;obtain ⟨t,rs,ets⟩:=HR2.out.gQ.ne;subst ets;have con:=eN HR2.out 4;clear HF HM;go_wp2_with fail
  refine con.mono ?_;rintro e w3 ⟨rfl,hb3⟩;have hR3:=HR2.out.next hb3;have q3:w3.cell? ⟨w.heap.size,0,none⟩=some (.pointer (some ⟨R,0,none⟩)):=cell_of (i:=0) ((hb3.block _ (lt_of_heap Q1)).trans Q1) rfl;have dcon:=jB hR3 q3 (by omega) (.panicking [gn 4 (gY (t :: rs))]);have hx:=(hR3.gi (o+1 - 1)).2;go_wp2_with fail
  refine leaves_cons (f:=218) (args:=#[.pointer (some ⟨w.heap.size,0,none⟩)]) (by simp) (by simp [go_sem]) ?_;refine dcon.mono ?_;rintro e u' w4 ⟨rfl,rfl,rfl⟩;show Leaves Tryz.prog Tryz.f195 _ _ [] _ _;simp only [Leaves,settle,gn];exact Ends.err (c:=(4,gY (t :: rs))) rfl ((hb2.trans (.of hb3 (by omega))).trans hx) (by simpa using (hR3.gi (o+1 - 1)).1)
 ·have hbig':¬ 100<o+1:=by omega
  have e:M=r:=by rw [← HM.out,if_neg hbig]
  subst e;have con:=HF.out (by omega) w2 hb2 HR2.out HQ2.out;clear HF HM;go_wp2_with fail
  refine con.mono ?_;rintro e w3 ⟨hb3,h3⟩;have Q13:=(hb3.2 _ (lt_of_heap Q1) (by omega)).trans Q1;have Q23:=(hb3.2 _ (lt_of_heap Q2) (by omega)).trans Q2;have q3:w3.cell? ⟨w.heap.size,0,none⟩=some (.pointer (some ⟨R,0,none⟩)):=cell_of (i:=0) Q13 rfl;rcases M with c | ⟨x,rs⟩
  ·obtain ⟨rfl,us,h3⟩:=h3;have hs:=h3.gi (o+1 - 1);have dcon:=jB h3 q3 (by omega) (.panicking [gn c.1 c.2]);clear h3;go_wp2_with fail
   refine leaves_cons (f:=218) (args:=#[.pointer (some ⟨w.heap.size,0,none⟩)]) (by simp) (by simp [go_sem]) ?_;refine dcon.mono ?_;rintro e u' w4 ⟨rfl,rfl,rfl⟩;show Leaves Tryz.prog Tryz.f195 _ _ [] _ _;simp only [Leaves,settle,gn];exact Ends.err (c:=c) rfl ((hb2.trans hb3).trans hs.2) (by simpa using hs.1)
  ·obtain ⟨v,rfl,⟨a,cap,rfl,hks⟩,hR3⟩:=h3;obtain ⟨z0,z1,z2,z3,z4,z5,z6⟩:=aK Q23;obtain ⟨y0,y1,y2,y3,y4,y5,y6⟩:=dE Q23;have HR3:Hid (au w3 R tb rs (o+1)):=hR3;have HK:Hid (bQ w2.heap.size w3 a x.ks):=hks;clear hR3 hks;go_wp2_with fail
   have QE:=lU Q23 (.int .i64 x.k) (.int .i64 x.v.1) (.int .i64 x.v.2.1) (.string x.v.2.2) (.string x.aH) (.string x.name) (.slice a x.ks.length cap)
   have hb4:af R w (((((((w3.setCell ⟨w.heap.size+1,0,none⟩ (.int .i64 x.k)).setCell ⟨w.heap.size+1,1,none⟩ (.int .i64 x.v.1)).setCell ⟨w.heap.size+1,2,none⟩ (.int .i64 x.v.2.1)).setCell ⟨w.heap.size+1,3,none⟩ (.string x.v.2.2)).setCell ⟨w.heap.size+1,4,none⟩ (.string x.aH)).setCell ⟨w.heap.size+1,5,none⟩ (.string x.name)).setCell ⟨w.heap.size+1,6,none⟩ (.slice a x.ks.length cap)):=wG (hb2.trans hb3) (by omega) (by omega) _ _ _ _ _ _ _
   have hk4:aF (w.heap.size+1) w3 (((((((w3.setCell ⟨w.heap.size+1,0,none⟩ (.int .i64 x.k)).setCell ⟨w.heap.size+1,1,none⟩ (.int .i64 x.v.1)).setCell ⟨w.heap.size+1,2,none⟩ (.int .i64 x.v.2.1)).setCell ⟨w.heap.size+1,3,none⟩ (.string x.v.2.2)).setCell ⟨w.heap.size+1,4,none⟩ (.string x.aH)).setCell ⟨w.heap.size+1,5,none⟩ (.string x.name)).setCell ⟨w.heap.size+1,6,none⟩ (.slice a x.ks.length cap)):=(((((((aF.refl _ _).set _ _).set _ _).set _ _).set _ _).set _ _).set _ _).set _ _
   generalize (((((((w3.setCell ⟨w.heap.size+1,0,none⟩ (.int .i64 x.k)).setCell ⟨w.heap.size+1,1,none⟩ (.int .i64 x.v.1)).setCell ⟨w.heap.size+1,2,none⟩ (.int .i64 x.v.2.1)).setCell ⟨w.heap.size+1,3,none⟩ (.string x.v.2.2)).setCell ⟨w.heap.size+1,4,none⟩ (.string x.aH)).setCell ⟨w.heap.size+1,5,none⟩ (.string x.name)).setCell ⟨w.heap.size+1,6,none⟩ (.slice a x.ks.length cap))=w4 at *;have hR4:au w4 R tb rs (o+1):=HR3.out.k1 hk4 (by omega) HTB (by have:=HR3.out.r2; omega)
   have q4:w4.cell? ⟨w.heap.size,0,none⟩=some (.pointer (some ⟨R,0,none⟩)):=(Dq (a:=⟨w.heap.size,0,none⟩) (hk4.2 w.heap.size (hJ q3) (by omega))).trans q3;have hs:=hR4.gi (o+1 - 1);have dcon:=jB hR4 q4 (by omega) .returning;refine leaves_cons (f:=218) (args:=#[.pointer (some ⟨w.heap.size,0,none⟩)]) (by simp) (by simp [go_sem]) ?_;refine dcon.mono ?_;rintro e u' w5 ⟨rfl,rfl,rfl⟩;show Leaves Tryz.prog Tryz.f195 _ _ [] _ _;have QE5:=(hs.2.2 _ (lt_of_heap QE) (by omega)).trans QE;have hb5:=hb4.trans hs.2
   have hR5:au (w4.setCell ⟨R,1,none⟩ (.int .i64 (o+1 - 1))) R tb rs o:=by simpa using hs.1
   have hz2:=hb2.size;have HK5:bQ w.heap.size (w4.setCell ⟨R,1,none⟩ (.int .i64 (o+1 - 1))) a x.ks:=((HK.out.k1 hk4 (by have:=lt_of_heap Q2; omega)).k1 hs.2.k1 (by omega)).mono (by omega);generalize w4.setCell ⟨R,1,none⟩ (.int .i64 (o+1 - 1))=w5 at *;obtain ⟨x0,x1,x2,x3,x4,x5,x6⟩:=aK QE5;refine ⟨.agg (aT x a cap),by simp [results,Tryz.results195,go_sem,x0,x1,x2,x3,x4,x5,x6],?_⟩;exact Ends.bV rfl hb5 ⟨a,cap,rfl,HK5⟩ hR5
def rz:List Value:=[.int .i64 5,.string ⟨#[111,114]⟩,.int .i64 1,.int .i64 4,.string ⟨#[97,110,100]⟩,.int .i64 2,.int .i64 6,.string ⟨#[61]⟩,.int .i64 4,.int .i64 7,.string ⟨#[60,62]⟩,.int .i64 4,.int .i64 8,.string ⟨#[60]⟩,.int .i64 4,.int .i64 9,.string ⟨#[60,61]⟩,.int .i64 4,.int .i64 10,.string ⟨#[62]⟩,.int .i64 4,.int .i64 11,.string ⟨#[62,61]⟩,.int .i64 4,.int .i64 12,.string ⟨#[43]⟩,.int .i64 5,.int .i64 13,.string ⟨#[45]⟩,.int .i64 5,.int .i64 14,.string ⟨#[42]⟩,.int .i64 6,.int .i64 15,.string ⟨#[124,124]⟩,.int .i64 7]
theorem Gl.range {W:World} (h:Gl W):W.rangeAt 1 0 rz:=fun j v hj=>by
 have hl:j<36:=by
  rcases DF j 36 with h | h
  ·exact h
  ·rw [DS (by simpa [rz] using h)] at hj; cases hj
 rw [Dr,h.inf j hl,← hj];show rz.toArray[j]? = rz[j]?;simp
theorem se (k:Nat) (h:k<12) (w:World):(Instr.index 232 (.agg rz.toArray) (.int .i64 k)).run Tryz.prog w = .ok (.agg #[.int .i64 (cJ[k]'(by simpa [cJ] using h)).1,.string (cJ[k]'(by simpa [cJ] using h)).2.1,.int .i64 (cJ[k]'(by simpa [cJ] using h)).2.2]) w:=by
 rcases k with _ | _ | _ | _ | _ | _ | _ | _ | _ | _ | _ | _ | k
 all_goals first | (exfalso; omega) | kernel_rfl
theorem ui (lvl:Int) (ts:List Tk) (k:Nat) (h:k<cJ.length):cU lvl ts (cJ.drop k)=if cJ[k].2.2=lvl∧bu cJ[k].2.1 ts=true then (cJ[k].1,az ts) else cU lvl ts (cJ.drop (k+1)):=by
 rw [Da h,cU]
theorem oW {w:World} {R tb:Nat} {ts:List Tk} {o:Int} (h:au w R tb ts o) (lvl:Int):Calls Tryz.prog 220 #[.pointer (some ⟨R,0,none⟩),.int .i64 lvl] w fun e w'=>e = .returned (.int .i64 (bT lvl ts).1)∧au w' R tb (bT lvl ts).2 o∧af R w w':=by
 have HR:Hid (au w R tb ts o):=h;generalize hM:bT lvl ts=M;have HM:Hid (cU lvl ts cJ=M):=hM;have hr:=h.gl.range;clear h hM;go_enter Tryz.func220,Tryz.ntmps220;go_upto_region 1 with fail
 refine wp_region_lit ?_;refine wpList_load_mid rfl 232 _ rfl 1 0 rfl rz (.array 12 201) hr (by kernel_rfl) rfl (by kernel_rfl) ?_;simp only [Act.put,pA,pB,pC];go_wp2_with fail
 clear hr;go_loopw [8] (fun i wr=>∃ k:Nat,k≤12∧i = .int .i64 k∧Hid (cU lvl ts (cJ.drop k)=M)∧af R w wr∧Hid (au wr R tb ts o)) (fun i _=>12 - (intOf i).toNat)
 case atStart=>exact ⟨0,by omega,rfl,HM,af.refl _ _,HR⟩
 case round =>
  obtain ⟨k,hk,rfl,HK,hx,HW⟩:=hrel;by_cases hlt:k<12
  ·have hkz:(k:Int)<12:=by omega
   have hid:=se k hlt wr;have hkl:k<cJ.length:=by simpa [cJ] using hlt
   have HG:=ui lvl ts k hkl;have HG2:Hid ((if cJ[k].2.2=lvl∧bu cJ[k].2.1 ts=true then (cJ[k].1,az ts) else cU lvl ts (cJ.drop (k+1)))=M):=HG.symm.trans HK.out;clear HG HK;generalize cJ[k]=e at *;have hltR:=HW.out.lt;have hal:=ab wr (.cells #[.int .i64 e.1,.string e.2.1,.int .i64 e.2.2] 201);have hq:=ar wr #[.int .i64 e.1,.string e.2.1,.int .i64 e.2.2] 201;rcases hl:e.2.2 == lvl with _ | _
   ·have HG3:Hid (cU lvl ts (cJ.drop (k+1))=M):=by
     show _=_;rw [← HG2.out,if_neg (fun c=>by rw [c.1] at hl; simp at hl)]
    clear HG2;go_wp2_with fail
    go_roundw
    case rel=>exact ⟨k+1,by omega,by go_num,HG3,hx.trans (.of hal (by omega)),HW.out.next hal⟩
    case measure=>simp [intOf]; omega
   ·have hle:e.2.2=lvl:=by simpa using hl
    rw [hle] at hal hq;have con:=aM (HW.out.next hal) e.2.1;rcases hi:bu e.2.1 ts with _ | _
    ·have HG3:Hid (cU lvl ts (cJ.drop (k+1))=M):=by
      show _=_;rw [← HG2.out,if_neg (fun c=>by rw [hi] at c; exact absurd c.2 (by simp))]
     clear HG2;rw [hi,bC hi] at con;go_wp2_with fail
     refine con.mono ?_;rintro e' w1 ⟨rfl,h1,hx1⟩;have H1:Hid (au w1 R tb ts o):=h1;clear con h1;go_wp2_with fail
     go_roundw
     case rel=>exact ⟨k+1,by omega,by go_num,HG3,(hx.trans (.of hal (by omega))).trans hx1,H1⟩
     case measure=>simp [intOf]; omega
    ·have e2:M=(e.1,az ts):=by rw [← HG2.out,if_pos ⟨hle,hi⟩]
     subst e2;clear HG2;rw [hi,bP hi] at con;go_wp2_with fail
     refine con.mono ?_;rintro e' w1 ⟨rfl,h1,hx1⟩;have H1:Hid (au w1 R tb (az ts) o):=h1;have q1:=(hx1.2 _ (lt_of_heap hq) (by omega)).trans hq;have c0:w1.cell? ⟨wr.heap.size,0,none⟩=some (.int .i64 e.1):=cell_of (i:=0) q1 rfl;clear con h1;go_wp2_with fail
     exact C0 (results_tmp rfl _ _ _) rfl ⟨by first | rfl | trivial,H1.out,(hx.trans (.of hal (by omega))).trans hx1⟩
  ·have hkz:¬ (k:Int)<12:=by omega
   have e2:M=(0,ts):=by rw [← HK.out,Dh (by show 12≤k; omega)]; rfl
   subst e2;clear HK;go_wp2_with fail
   exact C0 (results_tmp rfl _ _ _) rfl ⟨by first | rfl | trivial,HW.out,hx⟩
theorem fT {w W:World} {R tb g:Nat} {S:Nat→Prop} {rs:List Tk} {o:Int} {x:SX} {a:Option Addr} {cap:Nat} {c0 c1 c2 c3 c4 c5 c6:Value} (Q:W.heap[g]? = some (.cells #[c0,c1,c2,c3,c4,c5,c6] 55 (0,0))) (hR:au W R tb rs o) (hk:aD S W a x.ks) (hb:af R w W) (h1:w.heap.size≤g) (h2:¬ S g) (h3:R<w.heap.size) (h4:tb<w.heap.size) :
  (((((((W.setCell ⟨g,0,none⟩ (.int .i64 x.k)).setCell ⟨g,1,none⟩ (.int .i64 x.v.1)).setCell ⟨g,2,none⟩ (.int .i64 x.v.2.1)).setCell ⟨g,3,none⟩ (.string x.v.2.2)).setCell ⟨g,4,none⟩ (.string x.aH)).setCell ⟨g,5,none⟩ (.string x.name)).setCell ⟨g,6,none⟩ (.slice a x.ks.length cap)).heap[g]? = some (.cells (aT x a cap) 55 (0,0))∧au (((((((W.setCell ⟨g,0,none⟩ (.int .i64 x.k)).setCell ⟨g,1,none⟩ (.int .i64 x.v.1)).setCell ⟨g,2,none⟩ (.int .i64 x.v.2.1)).setCell ⟨g,3,none⟩ (.string x.v.2.2)).setCell ⟨g,4,none⟩ (.string x.aH)).setCell ⟨g,5,none⟩ (.string x.name)).setCell ⟨g,6,none⟩ (.slice a x.ks.length cap)) R tb rs o∧aD S (((((((W.setCell ⟨g,0,none⟩ (.int .i64 x.k)).setCell ⟨g,1,none⟩ (.int .i64 x.v.1)).setCell ⟨g,2,none⟩ (.int .i64 x.v.2.1)).setCell ⟨g,3,none⟩ (.string x.v.2.2)).setCell ⟨g,4,none⟩ (.string x.aH)).setCell ⟨g,5,none⟩ (.string x.name)).setCell ⟨g,6,none⟩ (.slice a x.ks.length cap)) a x.ks∧af R w (((((((W.setCell ⟨g,0,none⟩ (.int .i64 x.k)).setCell ⟨g,1,none⟩ (.int .i64 x.v.1)).setCell ⟨g,2,none⟩ (.int .i64 x.v.2.1)).setCell ⟨g,3,none⟩ (.string x.v.2.2)).setCell ⟨g,4,none⟩ (.string x.aH)).setCell ⟨g,5,none⟩ (.string x.name)).setCell ⟨g,6,none⟩ (.slice a x.ks.length cap))∧aF g W (((((((W.setCell ⟨g,0,none⟩ (.int .i64 x.k)).setCell ⟨g,1,none⟩ (.int .i64 x.v.1)).setCell ⟨g,2,none⟩ (.int .i64 x.v.2.1)).setCell ⟨g,3,none⟩ (.string x.v.2.2)).setCell ⟨g,4,none⟩ (.string x.aH)).setCell ⟨g,5,none⟩ (.string x.name)).setCell ⟨g,6,none⟩ (.slice a x.ks.length cap)):=by
 have hk1:aF g W (((((((W.setCell ⟨g,0,none⟩ (.int .i64 x.k)).setCell ⟨g,1,none⟩ (.int .i64 x.v.1)).setCell ⟨g,2,none⟩ (.int .i64 x.v.2.1)).setCell ⟨g,3,none⟩ (.string x.v.2.2)).setCell ⟨g,4,none⟩ (.string x.aH)).setCell ⟨g,5,none⟩ (.string x.name)).setCell ⟨g,6,none⟩ (.slice a x.ks.length cap)):=(((((((aF.refl _ _).set _ _).set _ _).set _ _).set _ _).set _ _).set _ _).set _ _;exact ⟨lU Q _ _ _ _ _ _ _,hR.k1 hk1 (by omega) (by omega) (by have:=hR.r2; omega),hk.k1 hk1 h2,wG hb h1 (by omega) _ _ _ _ _ _ _,hk1⟩
theorem da {w W:World} {R tb g B:Nat} {rs:List Tk} {o:Int} {x:SX} {a:Option Addr} {cap:Nat} {c0 c1 c2 c3 c4 c5 c6:Value} (Q:W.heap[g]? = some (.cells #[c0,c1,c2,c3,c4,c5,c6] 55 (0,0))) (hR:au W R tb rs o) (hk:bQ B W a x.ks) (hb:af R w W) (h1:w.heap.size≤g) (h2:g<B) (h3:R<w.heap.size) (h4:tb<w.heap.size) :
  (((((((W.setCell ⟨g,0,none⟩ (.int .i64 x.k)).setCell ⟨g,1,none⟩ (.int .i64 x.v.1)).setCell ⟨g,2,none⟩ (.int .i64 x.v.2.1)).setCell ⟨g,3,none⟩ (.string x.v.2.2)).setCell ⟨g,4,none⟩ (.string x.aH)).setCell ⟨g,5,none⟩ (.string x.name)).setCell ⟨g,6,none⟩ (.slice a x.ks.length cap)).heap[g]? = some (.cells (aT x a cap) 55 (0,0))∧au (((((((W.setCell ⟨g,0,none⟩ (.int .i64 x.k)).setCell ⟨g,1,none⟩ (.int .i64 x.v.1)).setCell ⟨g,2,none⟩ (.int .i64 x.v.2.1)).setCell ⟨g,3,none⟩ (.string x.v.2.2)).setCell ⟨g,4,none⟩ (.string x.aH)).setCell ⟨g,5,none⟩ (.string x.name)).setCell ⟨g,6,none⟩ (.slice a x.ks.length cap)) R tb rs o∧bQ B (((((((W.setCell ⟨g,0,none⟩ (.int .i64 x.k)).setCell ⟨g,1,none⟩ (.int .i64 x.v.1)).setCell ⟨g,2,none⟩ (.int .i64 x.v.2.1)).setCell ⟨g,3,none⟩ (.string x.v.2.2)).setCell ⟨g,4,none⟩ (.string x.aH)).setCell ⟨g,5,none⟩ (.string x.name)).setCell ⟨g,6,none⟩ (.slice a x.ks.length cap)) a x.ks∧af R w (((((((W.setCell ⟨g,0,none⟩ (.int .i64 x.k)).setCell ⟨g,1,none⟩ (.int .i64 x.v.1)).setCell ⟨g,2,none⟩ (.int .i64 x.v.2.1)).setCell ⟨g,3,none⟩ (.string x.v.2.2)).setCell ⟨g,4,none⟩ (.string x.aH)).setCell ⟨g,5,none⟩ (.string x.name)).setCell ⟨g,6,none⟩ (.slice a x.ks.length cap)):=by
 obtain ⟨p1,p2,p3,p4,_⟩:=fT (cap:=cap) Q hR hk hb h1 (by show ¬ B≤g; omega) h3 h4;exact ⟨p1,p2,p3,p4⟩
def jt (F:Nat) (args:List Value) (p:List Tk→PR SX) (o:Int):Prop:=∀ (w:World) (R tb:Nat) (ts:List Tk),au w R tb ts o→p ts≠dm→Calls Tryz.prog F (Value.pointer (some ⟨R,0,none⟩) :: args).toArray w (Ends R tb o w (VX w.heap.size) (p ts))
theorem wN {n:Nat} {o:Int} (hc:jt 197 [.int .i64 1] (b9 n 1 o) o) {w:World} {R tb q:Nat} {ts:List Tk} (h:au w R tb ts o) (hq:w.cell? ⟨q,0,none⟩=some (.pointer (some ⟨R,0,none⟩))) (hf:b9 n 1 o ts≠dm):Calls Tryz.prog 196 #[.pointer (some ⟨q,0,none⟩)] w (Ends R tb o w (VX w.heap.size) (b9 n 1 o ts)):=by
 have hltR:=h.lt;have hltT:=h.j5;have hltq:=hJ hq;have hal:=ab w (.cells dU 55);have QZ0:=ar w dU 55;have con:=hc (w.alloc (.cells dU 55)) R tb ts (h.next hal) hf;have hz:=hal.size;have hz':w.heap.size<(w.alloc (.cells dU 55)).heap.size:=lt_of_heap QZ0;generalize b9 n 1 o ts=M at *;clear hc hf h;go_enter Tryz.func196,Tryz.ntmps196;go_wp2_with fail
 generalize w.alloc (.cells dU 55)=w1 at *;refine con.mono ?_;rintro e w2 ⟨hb2,hW⟩;have QZ:=(hb2.2 _ (lt_of_heap QZ0) (by omega)).trans QZ0;clear con;rcases M with c | ⟨x,rs⟩
 ·obtain ⟨rfl,us,hE⟩:=hW;have HE:Hid (au w2 R tb us o):=hE;clear hE;go_wp2_with fail
  exact ⟨rfl,Ends.err rfl ((af.of hal (by omega)).trans hb2) HE.out⟩
 ·obtain ⟨v,rfl,⟨a,cap,rfl,hks⟩,hRW⟩:=hW;obtain ⟨z0,z1,z2,z3,z4,z5,z6⟩:=aK QZ;obtain ⟨y0,y1,y2,y3,y4,y5,y6⟩:=dE QZ;have HRW:Hid (au w2 R tb rs o):=hRW;have HKW:Hid (bQ _ w2 a x.ks):=hks;clear hRW hks;go_wp2_with fail
  obtain ⟨QE,hRE,hKE,hbE⟩:=da (w:=w) (cap:=cap) QZ HRW.out HKW.out ((af.of hal (by omega)).trans hb2) (by omega) (by omega) hltR hltT;generalize (((((((w2.setCell ⟨w.heap.size,0,none⟩ (.int .i64 x.k)).setCell ⟨w.heap.size,1,none⟩ (.int .i64 x.v.1)).setCell ⟨w.heap.size,2,none⟩ (.int .i64 x.v.2.1)).setCell ⟨w.heap.size,3,none⟩ (.string x.v.2.2)).setCell ⟨w.heap.size,4,none⟩ (.string x.aH)).setCell ⟨w.heap.size,5,none⟩ (.string x.name)).setCell ⟨w.heap.size,6,none⟩ (.slice a x.ks.length cap))=wE at *;obtain ⟨x0,x1,x2,x3,x4,x5,x6⟩:=aK QE
  exact C0 (v:=.agg (aT x a cap)) (by simp [results,Tryz.results196,go_sem,x0,x1,x2,x3,x4,x5,x6]) rfl (Ends.bV rfl hbE ⟨a,cap,rfl,hKE.mono (by omega)⟩ hRE)
theorem uD {n:Nat} {o:Int} (ho:0≤o∧o≤100) (hc:o+1≤100→jt 197 [.int .i64 1] (b9 n 1 (o+1)) (o+1)):jt 164 [] (cY (n+1) o) o:=by
 intro w R tb ts h hf;have hmf:∀ (fn:Fn) (first cap:Array Value) (w:World),(Instr.makeFunc fn first cap).run Tryz.prog w = .ok (.func fn first cap) w:=fun _ _ _ _=>rfl
 rw [cY] at hf ⊢;have hltR:=h.lt;have hltT:=h.j5;have hA:Below w.heap.size w ((w.alloc (.cells #[.pointer (some ⟨R,0,none⟩)] 155)).alloc (.cells dU 55)):=((CY _ _).alloc (CX _) _).alloc (by simp) _;have QB:((w.alloc (.cells #[.pointer (some ⟨R,0,none⟩)] 155)).alloc (.cells dU 55)).heap[w.heap.size]? = some (.cells #[.pointer (some ⟨R,0,none⟩)] 155 (0,0)):=(((CY _ _).alloc (CX _) _).block _ (by simp)).trans (ar w _ _)
 have QZ0:((w.alloc (.cells #[.pointer (some ⟨R,0,none⟩)] 155)).alloc (.cells dU 55)).heap[w.heap.size+1]? = some (.cells dU 55 (0,0)):=by
  rw [show w.heap.size+1=(w.alloc (.cells #[.pointer (some ⟨R,0,none⟩)] 155)).heap.size by simp];exact ar _ _ _
 have HR:Hid (au w R tb ts o):=h;clear h;have b0:((w.alloc (.cells #[.pointer (some ⟨R,0,none⟩)] 155)).alloc (.cells dU 55)).cell? ⟨w.heap.size,0,none⟩=some (.pointer (some ⟨R,0,none⟩)):=cell_of (i:=0) QB rfl;have B0:Hid (((w.alloc (.cells #[.pointer (some ⟨R,0,none⟩)] 155)).alloc (.cells dU 55)).cell? ⟨w.heap.size,0,none⟩=some (.pointer (some ⟨R,0,none⟩))):=b0;clear b0;have con:=wH (HR.out.next hA) B0.out (by omega) ho (b9 n 1 (o+1) ts) (fun h100 W hbW hRW hqW=>wN (hc h100) hRW hqW (by rw [if_neg (by omega)] at hf; exact hf))
 generalize (if o+1 > 100 then Except.error (4,gY ts) else b9 n 1 (o+1) ts:PR SX)=M at *;have hz':=lt_of_heap QZ0;clear hc hf;go_enter Tryz.func164,Tryz.ntmps164;go_wp2_with fail
 generalize (w.alloc (.cells #[.pointer (some ⟨R,0,none⟩)] 155)).alloc (.cells dU 55)=w1 at *;refine con.mono ?_;rintro e w2 ⟨hb2,hW⟩;have QZ:=(hb2.2 _ (lt_of_heap QZ0) (by omega)).trans QZ0;clear con;rcases M with c | ⟨x,rs⟩
 ·obtain ⟨rfl,us,hE⟩:=hW;have HE:Hid (au w2 R tb us o):=hE;clear hE;go_wp2_with fail
  exact ⟨rfl,Ends.err rfl ((af.of hA (by omega)).trans hb2) HE.out⟩
 ·obtain ⟨v,rfl,⟨a,cap,rfl,hks⟩,hRW⟩:=hW;obtain ⟨z0,z1,z2,z3,z4,z5,z6⟩:=aK QZ;obtain ⟨y0,y1,y2,y3,y4,y5,y6⟩:=dE QZ;have HRW:Hid (au w2 R tb rs o):=hRW;have HKW:Hid (bQ _ w2 a x.ks):=hks;clear hRW hks;go_wp2_with fail
  obtain ⟨QE,hRE,hKE,hbE⟩:=da (w:=w) (cap:=cap) QZ HRW.out HKW.out ((af.of hA (by omega)).trans hb2) (by omega) (by omega) hltR hltT;generalize (((((((w2.setCell ⟨w.heap.size+1,0,none⟩ (.int .i64 x.k)).setCell ⟨w.heap.size+1,1,none⟩ (.int .i64 x.v.1)).setCell ⟨w.heap.size+1,2,none⟩ (.int .i64 x.v.2.1)).setCell ⟨w.heap.size+1,3,none⟩ (.string x.v.2.2)).setCell ⟨w.heap.size+1,4,none⟩ (.string x.aH)).setCell ⟨w.heap.size+1,5,none⟩ (.string x.name)).setCell ⟨w.heap.size+1,6,none⟩ (.slice a x.ks.length cap))=wE at *;obtain ⟨x0,x1,x2,x3,x4,x5,x6⟩:=aK QE
  exact C0 (v:=.agg (aT x a cap)) (by simp [results,Tryz.results164,go_sem,x0,x1,x2,x3,x4,x5,x6]) rfl (Ends.bV rfl hbE ⟨a,cap,rfl,hKE.mono (by omega)⟩ hRE)
theorem rV {n:Nat} {lvl o:Int} (hd:lvl=3→jt 233 [] (dz n o) o) (hp:lvl=8→jt 234 [] (cE n o) o) (hc:lvl≠3→lvl≠8→jt 197 [.int .i64 lvl] (b9 n lvl o) o):jt 219 [.int .i64 lvl] (dG (n+1) lvl o) o:=by
 intro w R tb ts h hf;rw [dG] at hf ⊢;have hltR:=h.lt;have hltT:=h.j5;have hal:=ab w (.cells dU 55);have QZ0:=ar w dU 55;have hz':w.heap.size<(w.alloc (.cells dU 55)).heap.size:=lt_of_heap QZ0;have hR1:=h.next hal;clear h;by_cases h3:lvl=3
 case pos =>
  subst h3;rw [if_pos rfl] at hf ⊢;generalize hMM:dz n o ts=M at *;have con:=hd rfl (w.alloc (.cells dU 55)) R tb ts hR1 (by rw [hMM]; exact hf);rw [hMM] at con;clear hd hp hc hf hMM hR1;go_enter Tryz.func219,Tryz.ntmps219;go_wp2_with fail
  generalize w.alloc (.cells dU 55)=w1 at *;refine con.mono ?_;rintro e w2 ⟨hb2,hW⟩;have QZ:=(hb2.2 _ (lt_of_heap QZ0) (by omega)).trans QZ0;clear con;rcases M with c | ⟨x,rs⟩
  ·obtain ⟨rfl,us,hE⟩:=hW;have HE:Hid (au w2 R tb us o):=hE;clear hE;go_wp2_with fail
   exact ⟨rfl,Ends.err rfl ((af.of hal (by omega)).trans hb2) HE.out⟩
  ·obtain ⟨v,rfl,⟨a,cap,rfl,hks⟩,hRW⟩:=hW;obtain ⟨z0,z1,z2,z3,z4,z5,z6⟩:=aK QZ;obtain ⟨y0,y1,y2,y3,y4,y5,y6⟩:=dE QZ;have HRW:Hid (au w2 R tb rs o):=hRW;have HKW:Hid (bQ _ w2 a x.ks):=hks;clear hRW hks;go_wp2_with fail
   obtain ⟨QE,hRE,hKE,hbE⟩:=da (w:=w) (cap:=cap) QZ HRW.out HKW.out ((af.of hal (by omega)).trans hb2) (by omega) (by omega) hltR hltT;generalize (((((((w2.setCell ⟨w.heap.size,0,none⟩ (.int .i64 x.k)).setCell ⟨w.heap.size,1,none⟩ (.int .i64 x.v.1)).setCell ⟨w.heap.size,2,none⟩ (.int .i64 x.v.2.1)).setCell ⟨w.heap.size,3,none⟩ (.string x.v.2.2)).setCell ⟨w.heap.size,4,none⟩ (.string x.aH)).setCell ⟨w.heap.size,5,none⟩ (.string x.name)).setCell ⟨w.heap.size,6,none⟩ (.slice a x.ks.length cap))=wE at *;obtain ⟨x0,x1,x2,x3,x4,x5,x6⟩:=aK QE
   exact C0 (v:=.agg (aT x a cap)) (by simp [results,Tryz.results219,go_sem,x0,x1,x2,x3,x4,x5,x6]) rfl (Ends.bV rfl hbE ⟨a,cap,rfl,hKE.mono (by omega)⟩ hRE)
 by_cases h8:lvl=8
 case pos =>
  subst h8;rw [if_neg (by decide),if_pos rfl] at hf ⊢;generalize hMM:cE n o ts=M at *;have con:=hp rfl (w.alloc (.cells dU 55)) R tb ts hR1 (by rw [hMM]; exact hf);rw [hMM] at con;clear hd hp hc hf hMM hR1;go_enter Tryz.func219,Tryz.ntmps219;go_wp2_with fail
  generalize w.alloc (.cells dU 55)=w1 at *;refine con.mono ?_;rintro e w2 ⟨hb2,hW⟩;have QZ:=(hb2.2 _ (lt_of_heap QZ0) (by omega)).trans QZ0;clear con;rcases M with c | ⟨x,rs⟩
  ·obtain ⟨rfl,us,hE⟩:=hW;have HE:Hid (au w2 R tb us o):=hE;clear hE;go_wp2_with fail
   exact ⟨rfl,Ends.err rfl ((af.of hal (by omega)).trans hb2) HE.out⟩
  ·obtain ⟨v,rfl,⟨a,cap,rfl,hks⟩,hRW⟩:=hW;obtain ⟨z0,z1,z2,z3,z4,z5,z6⟩:=aK QZ;obtain ⟨y0,y1,y2,y3,y4,y5,y6⟩:=dE QZ;have HRW:Hid (au w2 R tb rs o):=hRW;have HKW:Hid (bQ _ w2 a x.ks):=hks;clear hRW hks;go_wp2_with fail
   obtain ⟨QE,hRE,hKE,hbE⟩:=da (w:=w) (cap:=cap) QZ HRW.out HKW.out ((af.of hal (by omega)).trans hb2) (by omega) (by omega) hltR hltT;generalize (((((((w2.setCell ⟨w.heap.size,0,none⟩ (.int .i64 x.k)).setCell ⟨w.heap.size,1,none⟩ (.int .i64 x.v.1)).setCell ⟨w.heap.size,2,none⟩ (.int .i64 x.v.2.1)).setCell ⟨w.heap.size,3,none⟩ (.string x.v.2.2)).setCell ⟨w.heap.size,4,none⟩ (.string x.aH)).setCell ⟨w.heap.size,5,none⟩ (.string x.name)).setCell ⟨w.heap.size,6,none⟩ (.slice a x.ks.length cap))=wE at *;obtain ⟨x0,x1,x2,x3,x4,x5,x6⟩:=aK QE
   exact C0 (v:=.agg (aT x a cap)) (by simp [results,Tryz.results219,go_sem,x0,x1,x2,x3,x4,x5,x6]) rfl (Ends.bV rfl hbE ⟨a,cap,rfl,hKE.mono (by omega)⟩ hRE)
 case neg =>
  rw [if_neg h3,if_neg h8] at hf ⊢;generalize hMM:b9 n lvl o ts=M at *;have con:=hc h3 h8 (w.alloc (.cells dU 55)) R tb ts hR1 (by rw [hMM]; exact hf);rw [hMM] at con;clear hd hp hc hf hMM hR1;go_enter Tryz.func219,Tryz.ntmps219;go_wp2_with fail
  generalize w.alloc (.cells dU 55)=w1 at *;refine con.mono ?_;rintro e w2 ⟨hb2,hW⟩;have QZ:=(hb2.2 _ (lt_of_heap QZ0) (by omega)).trans QZ0;clear con;rcases M with c | ⟨x,rs⟩
  ·obtain ⟨rfl,us,hE⟩:=hW;have HE:Hid (au w2 R tb us o):=hE;clear hE;go_wp2_with fail
   exact ⟨rfl,Ends.err rfl ((af.of hal (by omega)).trans hb2) HE.out⟩
  ·obtain ⟨v,rfl,⟨a,cap,rfl,hks⟩,hRW⟩:=hW;obtain ⟨z0,z1,z2,z3,z4,z5,z6⟩:=aK QZ;obtain ⟨y0,y1,y2,y3,y4,y5,y6⟩:=dE QZ;have HRW:Hid (au w2 R tb rs o):=hRW;have HKW:Hid (bQ _ w2 a x.ks):=hks;clear hRW hks;go_wp2_with fail
   obtain ⟨QE,hRE,hKE,hbE⟩:=da (w:=w) (cap:=cap) QZ HRW.out HKW.out ((af.of hal (by omega)).trans hb2) (by omega) (by omega) hltR hltT;generalize (((((((w2.setCell ⟨w.heap.size,0,none⟩ (.int .i64 x.k)).setCell ⟨w.heap.size,1,none⟩ (.int .i64 x.v.1)).setCell ⟨w.heap.size,2,none⟩ (.int .i64 x.v.2.1)).setCell ⟨w.heap.size,3,none⟩ (.string x.v.2.2)).setCell ⟨w.heap.size,4,none⟩ (.string x.aH)).setCell ⟨w.heap.size,5,none⟩ (.string x.name)).setCell ⟨w.heap.size,6,none⟩ (.slice a x.ks.length cap))=wE at *;obtain ⟨x0,x1,x2,x3,x4,x5,x6⟩:=aK QE
   exact C0 (v:=.agg (aT x a cap)) (by simp [results,Tryz.results219,go_sem,x0,x1,x2,x3,x4,x5,x6]) rfl (Ends.bV rfl hbE ⟨a,cap,rfl,hKE.mono (by omega)⟩ hRE)
theorem vL {w:World} {R tb:Nat} {ts:List Tk} {o:Int} (h:au w R tb ts o) (ho:0≤o∧o≤100) (r:PR SX)
  (hf:o+1≤100→∀ W,af R w W→au W R tb ts (o+1)→Calls Tryz.prog 233 #[.pointer (some ⟨R,0,none⟩)] W (Ends R tb (o+1) W (VX W.heap.size) r)) :
  Calls Tryz.prog 195 #[.pointer (some ⟨R,0,none⟩),.func (.func 233) #[.pointer (some ⟨R,0,none⟩)] #[]] w (Ends R tb o w (VX w.heap.size) (if o+1 > 100 then .error (4,gY ts) else r)):=by
 have hmf:∀ (fn:Fn) (first cap:Array Value) (w:World),(Instr.makeFunc fn first cap).run Tryz.prog w = .ok (.func fn first cap) w:=fun _ _ _ _=>rfl
 obtain ⟨off,cap,e1,e2,e3⟩:=h.ex;have hR:=h.lt;have HTB:w.heap.size+1≠tb:=by have:=e3.lt; omega
 have HR:Hid (au w R tb ts o):=h;have a1:w.cell? ⟨R,1,none⟩=some (.int .i64 o):=cell_of (i:=1) e1 rfl;have f1:=C3 w R 1 _ _ e1;have HF:Hid _:=hf;clear h e1 e2 e3 hf;generalize hM:(if o+1 > 100 then Except.error (4,gY ts) else r:PR SX)=M;have HM:Hid ((if o+1 > 100 then Except.error (4,gY ts) else r:PR SX)=M):=hM;clear hM;go_enter_defers Tryz.func195,Tryz.ntmps195
 go_upto_region 3 with fail
 have hset:=HR.out.gi (o+1);obtain ⟨hR1,hb1⟩:=hset;have hz1:(w.setCell ⟨R,1,none⟩ (.int .i64 (o+1))).heap.size=w.heap.size:=World.size_setCell ..;have HR1:Hid (au (w.setCell ⟨R,1,none⟩ (.int .i64 (o+1))) R tb ts (o+1)):=hR1;clear hR1;generalize w.setCell ⟨R,1,none⟩ (.int .i64 (o+1))=w1 at *;have hA:Below w1.heap.size w1 ((w1.alloc (.cells #[.pointer (some ⟨R,0,none⟩)] 155)).alloc (.cells dU 55)):=((CY _ _).alloc (CX _) _).alloc (by simp) _
 have Q1:((w1.alloc (.cells #[.pointer (some ⟨R,0,none⟩)] 155)).alloc (.cells dU 55)).heap[w.heap.size]? = some (.cells #[.pointer (some ⟨R,0,none⟩)] 155 (0,0)):=by
  rw [← hz1];exact (((CY _ _).alloc (CX _) _).block _ (by simp)).trans (ar w1 _ _)
 have Q2:((w1.alloc (.cells #[.pointer (some ⟨R,0,none⟩)] 155)).alloc (.cells dU 55)).heap[w.heap.size+1]? = some (.cells dU 55 (0,0)):=by
  rw [show w.heap.size+1=(w1.alloc (.cells #[.pointer (some ⟨R,0,none⟩)] 155)).heap.size by simp [hz1]];exact ar _ _ _
 generalize ((w1.alloc (.cells #[.pointer (some ⟨R,0,none⟩)] 155)).alloc (.cells dU 55))=w2 at *;have hb2:af R w w2:=hb1.trans (.of hA (by omega));have hR2:au w2 R tb ts (o+1):=HR1.out.next hA;have HR2:Hid (au w2 R tb ts (o+1)):=hR2;obtain ⟨off,cap,e1,e2,e3⟩:=hR2.ex;have d1:w2.cell? ⟨R,1,none⟩=some (.int .i64 (o+1)):=cell_of (i:=1) e1 rfl;have d2:w2.cell? ⟨w.heap.size,0,none⟩=some (.pointer (some ⟨R,0,none⟩)):=cell_of (i:=0) Q1 rfl;have ltR:=hR2.lt;clear hR2 e1 e2 e3 a1 f1 hA hb1;by_cases hbig:o+1 > 100
 ·have hbig':100<o+1:=by omega
  have e:M = .error (4,gY ts):=by rw [← HM.out,if_pos hbig]
  subst e;obtain ⟨t,rs,ets⟩:=HR2.out.gQ.ne;subst ets;have con:=eN HR2.out 4;clear HF HM;go_wp2_with fail
  refine con.mono ?_;rintro e w3 ⟨rfl,hb3⟩;have hR3:=HR2.out.next hb3;have q3:w3.cell? ⟨w.heap.size,0,none⟩=some (.pointer (some ⟨R,0,none⟩)):=cell_of (i:=0) ((hb3.block _ (lt_of_heap Q1)).trans Q1) rfl;have dcon:=jB hR3 q3 (by omega) (.panicking [gn 4 (gY (t :: rs))]);have hx:=(hR3.gi (o+1 - 1)).2;go_wp2_with fail
  refine leaves_cons (f:=218) (args:=#[.pointer (some ⟨w.heap.size,0,none⟩)]) (by simp) (by simp [go_sem]) ?_;refine dcon.mono ?_;rintro e u' w4 ⟨rfl,rfl,rfl⟩;show Leaves Tryz.prog Tryz.f195 _ _ [] _ _;simp only [Leaves,settle,gn];exact Ends.err (c:=(4,gY (t :: rs))) rfl ((hb2.trans (.of hb3 (by omega))).trans hx) (by simpa using (hR3.gi (o+1 - 1)).1)
 ·have hbig':¬ 100<o+1:=by omega
  have e:M=r:=by rw [← HM.out,if_neg hbig]
  subst e;have con:=HF.out (by omega) w2 hb2 HR2.out;clear HF HM;go_wp2_with fail
  refine con.mono ?_;rintro e w3 ⟨hb3,h3⟩;have Q13:=(hb3.2 _ (lt_of_heap Q1) (by omega)).trans Q1;have Q23:=(hb3.2 _ (lt_of_heap Q2) (by omega)).trans Q2;have q3:w3.cell? ⟨w.heap.size,0,none⟩=some (.pointer (some ⟨R,0,none⟩)):=cell_of (i:=0) Q13 rfl;rcases M with c | ⟨x,rs⟩
  ·obtain ⟨rfl,us,h3⟩:=h3;have hs:=h3.gi (o+1 - 1);have dcon:=jB h3 q3 (by omega) (.panicking [gn c.1 c.2]);clear h3;go_wp2_with fail
   refine leaves_cons (f:=218) (args:=#[.pointer (some ⟨w.heap.size,0,none⟩)]) (by simp) (by simp [go_sem]) ?_;refine dcon.mono ?_;rintro e u' w4 ⟨rfl,rfl,rfl⟩;show Leaves Tryz.prog Tryz.f195 _ _ [] _ _;simp only [Leaves,settle,gn];exact Ends.err (c:=c) rfl ((hb2.trans hb3).trans hs.2) (by simpa using hs.1)
  ·obtain ⟨v,rfl,⟨a,cap,rfl,hks⟩,hR3⟩:=h3;obtain ⟨z0,z1,z2,z3,z4,z5,z6⟩:=aK Q23;obtain ⟨y0,y1,y2,y3,y4,y5,y6⟩:=dE Q23;have HR3:Hid (au w3 R tb rs (o+1)):=hR3;have HK:Hid (bQ w2.heap.size w3 a x.ks):=hks;clear hR3 hks;go_wp2_with fail
   have QE:=lU Q23 (.int .i64 x.k) (.int .i64 x.v.1) (.int .i64 x.v.2.1) (.string x.v.2.2) (.string x.aH) (.string x.name) (.slice a x.ks.length cap)
   have hb4:af R w (((((((w3.setCell ⟨w.heap.size+1,0,none⟩ (.int .i64 x.k)).setCell ⟨w.heap.size+1,1,none⟩ (.int .i64 x.v.1)).setCell ⟨w.heap.size+1,2,none⟩ (.int .i64 x.v.2.1)).setCell ⟨w.heap.size+1,3,none⟩ (.string x.v.2.2)).setCell ⟨w.heap.size+1,4,none⟩ (.string x.aH)).setCell ⟨w.heap.size+1,5,none⟩ (.string x.name)).setCell ⟨w.heap.size+1,6,none⟩ (.slice a x.ks.length cap)):=wG (hb2.trans hb3) (by omega) (by omega) _ _ _ _ _ _ _
   have hk4:aF (w.heap.size+1) w3 (((((((w3.setCell ⟨w.heap.size+1,0,none⟩ (.int .i64 x.k)).setCell ⟨w.heap.size+1,1,none⟩ (.int .i64 x.v.1)).setCell ⟨w.heap.size+1,2,none⟩ (.int .i64 x.v.2.1)).setCell ⟨w.heap.size+1,3,none⟩ (.string x.v.2.2)).setCell ⟨w.heap.size+1,4,none⟩ (.string x.aH)).setCell ⟨w.heap.size+1,5,none⟩ (.string x.name)).setCell ⟨w.heap.size+1,6,none⟩ (.slice a x.ks.length cap)):=(((((((aF.refl _ _).set _ _).set _ _).set _ _).set _ _).set _ _).set _ _).set _ _
   generalize (((((((w3.setCell ⟨w.heap.size+1,0,none⟩ (.int .i64 x.k)).setCell ⟨w.heap.size+1,1,none⟩ (.int .i64 x.v.1)).setCell ⟨w.heap.size+1,2,none⟩ (.int .i64 x.v.2.1)).setCell ⟨w.heap.size+1,3,none⟩ (.string x.v.2.2)).setCell ⟨w.heap.size+1,4,none⟩ (.string x.aH)).setCell ⟨w.heap.size+1,5,none⟩ (.string x.name)).setCell ⟨w.heap.size+1,6,none⟩ (.slice a x.ks.length cap))=w4 at *;have hR4:au w4 R tb rs (o+1):=HR3.out.k1 hk4 (by omega) HTB (by have:=HR3.out.r2; omega)
   have q4:w4.cell? ⟨w.heap.size,0,none⟩=some (.pointer (some ⟨R,0,none⟩)):=(Dq (a:=⟨w.heap.size,0,none⟩) (hk4.2 w.heap.size (hJ q3) (by omega))).trans q3;have hs:=hR4.gi (o+1 - 1);have dcon:=jB hR4 q4 (by omega) .returning;refine leaves_cons (f:=218) (args:=#[.pointer (some ⟨w.heap.size,0,none⟩)]) (by simp) (by simp [go_sem]) ?_;refine dcon.mono ?_;rintro e u' w5 ⟨rfl,rfl,rfl⟩;show Leaves Tryz.prog Tryz.f195 _ _ [] _ _;have QE5:=(hs.2.2 _ (lt_of_heap QE) (by omega)).trans QE;have hb5:=hb4.trans hs.2
   have hR5:au (w4.setCell ⟨R,1,none⟩ (.int .i64 (o+1 - 1))) R tb rs o:=by simpa using hs.1
   have hz2:=hb2.size;have HK5:bQ w.heap.size (w4.setCell ⟨R,1,none⟩ (.int .i64 (o+1 - 1))) a x.ks:=((HK.out.k1 hk4 (by have:=lt_of_heap Q2; omega)).k1 hs.2.k1 (by omega)).mono (by omega);generalize w4.setCell ⟨R,1,none⟩ (.int .i64 (o+1 - 1))=w5 at *;obtain ⟨x0,x1,x2,x3,x4,x5,x6⟩:=aK QE5;refine ⟨.agg (aT x a cap),by simp [results,Tryz.results195,go_sem,x0,x1,x2,x3,x4,x5,x6],?_⟩;exact Ends.bV rfl hb5 ⟨a,cap,rfl,HK5⟩ hR5
theorem aD.one {S:Nat→Prop} {w:World} {x:SX} {a:Option Addr} {c:Nat} (T:TypeId) (hx:aD S w a x.ks) (hB:S w.heap.size):aD S (w.alloc (.cells (aT x a c) T)) (Option.some ⟨w.heap.size,0,none⟩) [x]:=by
 have hq:=ar w (aT x a c) T;have hal:=ab w (.cells (aT x a c) T);refine .some _ _ _ (fun _=>a) (fun _=>c) hB (lt_of_heap hq) (fun i hi=>?_) (fun i hi=>?_)
 all_goals obtain rfl:i=0:=by simpa using hi
 ·exact ⟨cell_of (i:=0) hq rfl,cell_of (i:=1) hq rfl,cell_of (i:=2) hq rfl,cell_of (i:=3) hq rfl,cell_of (i:=4) hq rfl,cell_of (i:=5) hq rfl,cell_of (i:=6) hq rfl⟩
 ·exact hx.next hal
theorem aD.two {S:Nat→Prop} {w:World} {x y:SX} {a b:Option Addr} {c d:Nat} (T:TypeId) (hx:aD S w a x.ks) (hy:aD S w b y.ks) (hB:S w.heap.size):aD S (w.alloc (.cells #[.int .i64 x.k,.int .i64 x.v.1,.int .i64 x.v.2.1,.string x.v.2.2,.string x.aH,.string x.name,.slice a x.ks.length c,.int .i64 y.k,.int .i64 y.v.1,.int .i64 y.v.2.1,.string y.v.2.2,.string y.aH,.string y.name,.slice b y.ks.length d] T)) (Option.some ⟨w.heap.size,0,none⟩) [x,y]:=by
 have hq:=ar w #[.int .i64 x.k,.int .i64 x.v.1,.int .i64 x.v.2.1,.string x.v.2.2,.string x.aH,.string x.name,.slice a x.ks.length c,.int .i64 y.k,.int .i64 y.v.1,.int .i64 y.v.2.1,.string y.v.2.2,.string y.aH,.string y.name,.slice b y.ks.length d] T;have hal:=ab w (.cells #[.int .i64 x.k,.int .i64 x.v.1,.int .i64 x.v.2.1,.string x.v.2.2,.string x.aH,.string x.name,.slice a x.ks.length c,.int .i64 y.k,.int .i64 y.v.1,.int .i64 y.v.2.1,.string y.v.2.2,.string y.aH,.string y.name,.slice b y.ks.length d] T)
 refine .some _ _ _ (fun i=>if i=0 then a else b) (fun i=>if i=0 then c else d) hB (lt_of_heap hq) (fun i hi=>?_) (fun i hi=>?_)
 all_goals obtain rfl | rfl:i=0∨i=1:=by simp at hi; omega
 ·exact ⟨cell_of (i:=0) hq rfl,cell_of (i:=1) hq rfl,cell_of (i:=2) hq rfl,cell_of (i:=3) hq rfl,cell_of (i:=4) hq rfl,cell_of (i:=5) hq rfl,cell_of (i:=6) hq rfl⟩
 ·exact ⟨cell_of (i:=7) hq rfl,cell_of (i:=8) hq rfl,cell_of (i:=9) hq rfl,cell_of (i:=10) hq rfl,cell_of (i:=11) hq rfl,cell_of (i:=12) hq rfl,cell_of (i:=13) hq rfl⟩
 ·exact hx.next hal
 ·exact hy.next hal
theorem qD {n:Nat} {o:Int} (ho:0≤o∧o≤100) (hd:o+1≤100→jt 233 [] (dz n (o+1)) (o+1)) (hc:jt 243 [] (cO n o) o):jt 233 [] (dz (n+1) o) o:=by
 intro w R tb ts h hf;have hmf:∀ (fn:Fn) (first cap:Array Value) (w:World),(Instr.makeFunc fn first cap).run Tryz.prog w = .ok (.func fn first cap) w:=fun _ _ _ _=>rfl
 rw [dz] at hf ⊢;have hltR:=h.lt;have hltT:=h.j5;have hal:=ab w (.cells dU 55);have QZ0:=ar w dU 55;have hz':w.heap.size<(w.alloc (.cells dU 55)).heap.size:=lt_of_heap QZ0;have con0:=aM (h.next hal) ⟨#[110,111,116]⟩;clear h;rcases hi:bu ⟨#[110,111,116]⟩ ts with _ | _
 ·rw [hi,bC hi] at con0;simp only [hi,De,if_false] at hf ⊢;generalize hMM:cO n o ts=M at *;go_enter Tryz.func233,Tryz.ntmps233;go_wp2_with fail
  generalize w.alloc (.cells dU 55)=w1 at *;refine con0.mono ?_;rintro e w3 ⟨rfl,h3,hb3⟩;have con:=hc w3 R tb ts h3 (by rw [hMM]; exact hf);have hz3:=hb3.size;rw [hMM] at con;have QZ3:=(hb3.2 _ (lt_of_heap QZ0) (by omega)).trans QZ0;clear hd hc hf hMM h3 con0;go_wp2_with fail
  refine con.mono ?_;rintro e w2 ⟨hb2,hW⟩;have QZ:=(hb2.2 _ (lt_of_heap QZ3) (by omega)).trans QZ3;clear con;rcases M with c | ⟨x,rs⟩
  ·obtain ⟨rfl,us,hE⟩:=hW;have HE:Hid (au w2 R tb us o):=hE;clear hE;go_wp2_with fail
   exact ⟨rfl,Ends.err rfl (((af.of hal (by omega)).trans hb3).trans hb2) HE.out⟩
  ·obtain ⟨v,rfl,⟨a,cap,rfl,hks⟩,hRW⟩:=hW;obtain ⟨z0,z1,z2,z3,z4,z5,z6⟩:=aK QZ;obtain ⟨y0,y1,y2,y3,y4,y5,y6⟩:=dE QZ;have HRW:Hid (au w2 R tb rs o):=hRW;have HKW:Hid (bQ _ w2 a x.ks):=hks;clear hRW hks;go_wp2_with fail
   obtain ⟨QE,hRE,hKE,hbE⟩:=da (w:=w) (cap:=cap) QZ HRW.out HKW.out (((af.of hal (by omega)).trans hb3).trans hb2) (by omega) (by omega) hltR hltT;generalize (((((((w2.setCell ⟨w.heap.size,0,none⟩ (.int .i64 x.k)).setCell ⟨w.heap.size,1,none⟩ (.int .i64 x.v.1)).setCell ⟨w.heap.size,2,none⟩ (.int .i64 x.v.2.1)).setCell ⟨w.heap.size,3,none⟩ (.string x.v.2.2)).setCell ⟨w.heap.size,4,none⟩ (.string x.aH)).setCell ⟨w.heap.size,5,none⟩ (.string x.name)).setCell ⟨w.heap.size,6,none⟩ (.slice a x.ks.length cap))=wE at *;obtain ⟨x0,x1,x2,x3,x4,x5,x6⟩:=aK QE
   exact C0 (v:=.agg (aT x a cap)) (by simp [results,Tryz.results233,go_sem,x0,x1,x2,x3,x4,x5,x6]) rfl (Ends.bV rfl hbE ⟨a,cap,rfl,hKE.mono (by omega)⟩ hRE)
 ·rw [hi,bP hi] at con0;simp only [hi,if_true] at hf ⊢;generalize hMM:(if o+1 > 100 then Except.error (4,gY (az ts)) else dz n (o+1) (az ts):PR SX)=M;have hne:o+1≤100→dz n (o+1) (az ts)≠dm:=fun h100 hc=>hf (by rw [if_neg (by omega),hc]; rfl)
  clear hf hc;go_enter Tryz.func233,Tryz.ntmps233;go_wp2_with fail
  generalize w.alloc (.cells dU 55)=w1 at *;refine con0.mono ?_;rintro e w3 ⟨rfl,h3,hb3⟩;have con:=vL h3 ho (dz n (o+1) (az ts)) (fun h100 W hbW hRW=>hd h100 W R tb _ hRW (hne h100));have hz3:=hb3.size;rw [hMM] at con;have QZ3:=(hb3.2 _ (lt_of_heap QZ0) (by omega)).trans QZ0;clear hd hMM h3 con0 hne;go_wp2_with fail
  refine con.mono ?_;rintro e w2 ⟨hb2,hW⟩;have hz2:=hb2.size;have QZ2:=(hb2.2 _ (lt_of_heap QZ3) (by omega)).trans QZ3;clear con;rcases M with c | ⟨x,rs⟩
  ·obtain ⟨rfl,us,hE⟩:=hW;have HE:Hid (au w2 R tb us o):=hE;clear hE;go_wp2_with fail
   exact ⟨rfl,Ends.err rfl (((af.of hal (by omega)).trans hb3).trans hb2) HE.out⟩
  ·obtain ⟨v,rfl,⟨a,c,rfl,hks⟩,hRW⟩:=hW;have HRW:Hid (au w2 R tb rs o):=hRW;have HKW:Hid (bQ _ w2 a x.ks):=hks;clear hRW hks;have hal4:=ab w2 (.cells (aT x a c) 55);have K4:Hid (bQ w3.heap.size (w2.alloc (.cells (aT x a c) 55)) (some ⟨w2.heap.size,0,none⟩) [x]):=aD.one _ HKW.out (by show _≤_; omega);have con4:=fL 3 (some ⟨w2.heap.size,0,none⟩) 1 1 (w2.alloc (.cells (aT x a c) 55));go_wp2_with fail
   generalize w2.alloc (.cells (aT x a c) 55)=w4 at *;refine con4.mono ?_;rintro e w5 ⟨rfl,hb5⟩;have hb25:=chain hal4 hb5;have QZ5:=(hb25.block _ (lt_of_heap QZ2)).trans QZ2;obtain ⟨z0,z1,z2,z3,z4,z5,z6⟩:=aK QZ5;obtain ⟨y0,y1,y2,y3,y4,y5,y6⟩:=dE QZ5;have K5:=bQ.next hb5 K4.out;have hx5:af R w w5:=(((af.of hal (by omega)).trans hb3).trans hb2).trans (.of hb25 (by omega));have HR5:Hid (au w5 R tb rs o):=HRW.out.next hb25;clear con4;go_wp2_with fail
   obtain ⟨QE,hRE,hKE,hbE⟩:=da (w:=w) (x:=nd 3 [x]) (a:=some ⟨w2.heap.size,0,none⟩) (cap:=1) QZ5 HR5.out K5 hx5 (by omega) (by omega) hltR hltT;change (((((((w5.setCell ⟨w.heap.size,0,none⟩ (.int .i64 3)).setCell ⟨w.heap.size,1,none⟩ (.int .i64 0)).setCell ⟨w.heap.size,2,none⟩ (.int .i64 0)).setCell ⟨w.heap.size,3,none⟩ (.string ⟨#[]⟩)).setCell ⟨w.heap.size,4,none⟩ (.string ⟨#[]⟩)).setCell ⟨w.heap.size,5,none⟩ (.string ⟨#[]⟩)).setCell ⟨w.heap.size,6,none⟩ (.slice (some ⟨w2.heap.size,0,none⟩) 1 1)).heap[w.heap.size]? = _ at QE
   change au (((((((w5.setCell ⟨w.heap.size,0,none⟩ (.int .i64 3)).setCell ⟨w.heap.size,1,none⟩ (.int .i64 0)).setCell ⟨w.heap.size,2,none⟩ (.int .i64 0)).setCell ⟨w.heap.size,3,none⟩ (.string ⟨#[]⟩)).setCell ⟨w.heap.size,4,none⟩ (.string ⟨#[]⟩)).setCell ⟨w.heap.size,5,none⟩ (.string ⟨#[]⟩)).setCell ⟨w.heap.size,6,none⟩ (.slice (some ⟨w2.heap.size,0,none⟩) 1 1)) R tb rs o at hRE
   change bQ _ (((((((w5.setCell ⟨w.heap.size,0,none⟩ (.int .i64 3)).setCell ⟨w.heap.size,1,none⟩ (.int .i64 0)).setCell ⟨w.heap.size,2,none⟩ (.int .i64 0)).setCell ⟨w.heap.size,3,none⟩ (.string ⟨#[]⟩)).setCell ⟨w.heap.size,4,none⟩ (.string ⟨#[]⟩)).setCell ⟨w.heap.size,5,none⟩ (.string ⟨#[]⟩)).setCell ⟨w.heap.size,6,none⟩ (.slice (some ⟨w2.heap.size,0,none⟩) 1 1)) _ _ at hKE
   change af R w (((((((w5.setCell ⟨w.heap.size,0,none⟩ (.int .i64 3)).setCell ⟨w.heap.size,1,none⟩ (.int .i64 0)).setCell ⟨w.heap.size,2,none⟩ (.int .i64 0)).setCell ⟨w.heap.size,3,none⟩ (.string ⟨#[]⟩)).setCell ⟨w.heap.size,4,none⟩ (.string ⟨#[]⟩)).setCell ⟨w.heap.size,5,none⟩ (.string ⟨#[]⟩)).setCell ⟨w.heap.size,6,none⟩ (.slice (some ⟨w2.heap.size,0,none⟩) 1 1)) at hbE
   generalize (((((((w5.setCell ⟨w.heap.size,0,none⟩ (.int .i64 3)).setCell ⟨w.heap.size,1,none⟩ (.int .i64 0)).setCell ⟨w.heap.size,2,none⟩ (.int .i64 0)).setCell ⟨w.heap.size,3,none⟩ (.string ⟨#[]⟩)).setCell ⟨w.heap.size,4,none⟩ (.string ⟨#[]⟩)).setCell ⟨w.heap.size,5,none⟩ (.string ⟨#[]⟩)).setCell ⟨w.heap.size,6,none⟩ (.slice (some ⟨w2.heap.size,0,none⟩) 1 1))=wE at *;obtain ⟨x0,x1,x2,x3,x4,x5,x6⟩:=aK QE
   exact C0 (v:=.agg (aT (nd 3 [x]) (some ⟨w2.heap.size,0,none⟩) 1)) (by simp [results,Tryz.results233,go_sem,x0,x1,x2,x3,x4,x5,x6]) rfl (Ends.bV rfl hbE ⟨_,1,rfl,hKE.mono (by omega)⟩ hRE)
set_option maxHeartbeats 8000000
def SN (B g:Nat) (b:Nat):Prop:=B≤b∧b≠g∧b≠g+1
theorem tk {w:World} {R tb:Nat} {ts:List Tk} {o:Int} {x:SX} {a:Option Addr} {c B:Nat} (h:au w R tb ts o) (hx:bQ B w a x.ks) (hB:B≤w.heap.size) (hRB:R<B):Calls Tryz.prog 253 #[.pointer (some ⟨R,0,none⟩),.agg (aT x a c)] w (Ends R tb o w (VX B) (hU x ts)):=by
 have hltR:=h.lt;have hltT:=h.j5;have hA:Below w.heap.size w ((w.alloc (.cells (aT x a c) 55)).alloc (.cells dU 55)):=((CY _ _).alloc (CX _) _).alloc (by simp) _;have QB0:((w.alloc (.cells (aT x a c) 55)).alloc (.cells dU 55)).heap[w.heap.size]? = some (.cells (aT x a c) 55 (0,0)):=(((CY _ _).alloc (CX _) _).block _ (by simp)).trans (ar w _ _);have QZ0:((w.alloc (.cells (aT x a c) 55)).alloc (.cells dU 55)).heap[w.heap.size+1]? = some (.cells dU 55 (0,0)):=by
  rw [show w.heap.size+1=(w.alloc (.cells (aT x a c) 55)).heap.size by simp];exact ar _ _ _
 have con:=aM (h.next hA) ⟨#[110,111,116]⟩;have HX:Hid (aD (SN B w.heap.size) ((w.alloc (.cells (aT x a c) 55)).alloc (.cells dU 55)) a x.ks):=aD.next hA (aD.mono (fun b h1 h2=>⟨h1,by omega,by omega⟩) hx);have hSR:¬ SN B w.heap.size R:=fun h=>by have:=h.1; omega
 have hz0:=lt_of_heap QZ0;generalize hM:hU x ts=M;have HM:Hid (bf (aS [⟨#[110,117,108,108]⟩] (dM ⟨#[110,111,116]⟩ ts)) (fun _ r=>.ok (if bu ⟨#[110,111,116]⟩ ts then nd 3 [nd 16 [x]] else nd 16 [x],r))=M):=hM;clear h hx hM;generalize hdn:bu ⟨#[110,111,116]⟩ ts=dn at *;go_enter Tryz.func253,Tryz.ntmps253;go_wp2_with fail
 generalize (w.alloc (.cells (aT x a c) 55)).alloc (.cells dU 55)=w1 at *;refine con.mono ?_;rintro e w2 ⟨rfl,h2,hb2⟩;have hal3:=ab w2 (.cells #[.string ⟨#[110,117,108,108]⟩] 9);have con2:=cz (cap:=1) (h2.next hal3) (cj.one w2 ⟨#[110,117,108,108]⟩ 9) (by have:=h2.lt; omega) (by simp);have hx2:af R w w2:=(af.of hA (by omega)).trans hb2;have HX2:=aD.k1 hb2.k1 hSR HX.out;have QB2:=(hb2.2 _ (lt_of_heap QB0) (by omega)).trans QB0;have QZ2:=(hb2.2 _ (lt_of_heap QZ0) (by omega)).trans QZ0
 have HX2':Hid (aD (SN B w.heap.size) w2 a x.ks):=HX2;have hz2:=lt_of_heap QZ2;clear con h2 HX2 HX QB0 QZ0;generalize aS [⟨#[110,117,108,108]⟩] (dM ⟨#[110,111,116]⟩ ts)=mu at *;go_wp2_with fail
 generalize w2.alloc (.cells #[.string ⟨#[110,117,108,108]⟩] 9)=w3 at *;refine con2.mono ?_;rintro e w4 ⟨hb4,h4⟩;have hx24:af R w2 w4:=(af.of hal3 (by omega)).trans hb4;have hx4:af R w w4:=hx2.trans hx24;clear con2;rcases mu with c1 | ⟨u,rs⟩
 ·obtain ⟨rfl,us,hE⟩:=h4;have HE:Hid (au w4 R tb us o):=hE;clear hE;have e:M = .error c1:=HM.out.symm;subst e;clear HM;go_wp2_with fail
  exact ⟨rfl,Ends.err rfl hx4 HE.out⟩
 obtain ⟨v,rfl,rfl,hR4⟩:=h4;have HR4:Hid (au w4 R tb rs o):=hR4;clear hR4;cases dn
 case false =>
  have e:M = .ok (nd 16 [x],rs):=HM.out.symm;subst e;clear HM;have QB4:=(hx24.2 _ (lt_of_heap QB2) (by omega)).trans QB2;have QZ4:=(hx24.2 _ (lt_of_heap QZ2) (by omega)).trans QZ2;have HX4:Hid (aD (SN B w.heap.size) w4 a x.ks):=aD.k1 hx24.k1 hSR HX2'.out;obtain ⟨b0,b1,b2,b3,b4,b5,b6⟩:=aK QB4;have hz4:=lt_of_heap QZ4;have hal5:=ab w4 (.cells (aT x a c) 55);have K5:Hid (aD (SN B w.heap.size) (w4.alloc (.cells (aT x a c) 55)) (some ⟨w4.heap.size,0,none⟩) [x]):=aD.one _ HX4.out ⟨by omega,by omega,by omega⟩
  have con5:=fL 16 (some ⟨w4.heap.size,0,none⟩) 1 1 (w4.alloc (.cells (aT x a c) 55));clear QB2 QZ2 HX2';go_wp2_with fail
  generalize w4.alloc (.cells (aT x a c) 55)=w5 at *;refine con5.mono ?_;rintro e w6 ⟨rfl,hb6⟩;have hb46:=chain hal5 hb6;have QB6:=(hb46.block _ (lt_of_heap QB4)).trans QB4;have QZ6:=(hb46.block _ (lt_of_heap QZ4)).trans QZ4;have K6:=aD.next hb6 K5.out;have hx6:af R w w6:=hx4.trans (.of hb46 (by omega));have hR6:=HR4.out.next hb46;clear con5 b0 b1 b2 b3 b4 b5 b6;obtain ⟨b0,b1,b2,b3,b4,b5,b6⟩:=aK QB6;obtain ⟨f0,f1,f2,f3,f4,f5,f6⟩:=dE QB6;have QZ6':=QZ6;have K6':Hid (aD (SN B w.heap.size) w6 (some ⟨w4.heap.size,0,none⟩) [x]):=K6;have H6:Hid (au w6 R tb rs o):=hR6
  have hz6:=lt_of_heap QZ6;clear K6 hR6 QB4 QZ4 K5 HX4;go_upto_region 4 with fail
  obtain ⟨QE,hRE,hKE,hbE,hk1⟩:=fT (w:=w) (x:=nd 16 [x]) (a:=some ⟨w4.heap.size,0,none⟩) (cap:=1) QB6 H6.out K6'.out hx6 (by omega) (fun h=>h.2.1 rfl) hltR hltT
  change (((((((w6.setCell ⟨w.heap.size,0,none⟩ (.int .i64 16)).setCell ⟨w.heap.size,1,none⟩ (.int .i64 0)).setCell ⟨w.heap.size,2,none⟩ (.int .i64 0)).setCell ⟨w.heap.size,3,none⟩ (.string ⟨#[]⟩)).setCell ⟨w.heap.size,4,none⟩ (.string ⟨#[]⟩)).setCell ⟨w.heap.size,5,none⟩ (.string ⟨#[]⟩)).setCell ⟨w.heap.size,6,none⟩ (.slice (some ⟨w4.heap.size,0,none⟩) 1 1)).heap[w.heap.size]? = some (.cells #[.int .i64 16,.int .i64 0,.int .i64 0,.string ⟨#[]⟩,.string ⟨#[]⟩,.string ⟨#[]⟩,.slice (some ⟨w4.heap.size,0,none⟩) 1 1] 55 (0,0)) at QE
  change au (((((((w6.setCell ⟨w.heap.size,0,none⟩ (.int .i64 16)).setCell ⟨w.heap.size,1,none⟩ (.int .i64 0)).setCell ⟨w.heap.size,2,none⟩ (.int .i64 0)).setCell ⟨w.heap.size,3,none⟩ (.string ⟨#[]⟩)).setCell ⟨w.heap.size,4,none⟩ (.string ⟨#[]⟩)).setCell ⟨w.heap.size,5,none⟩ (.string ⟨#[]⟩)).setCell ⟨w.heap.size,6,none⟩ (.slice (some ⟨w4.heap.size,0,none⟩) 1 1)) R tb rs o at hRE
  change aD _ (((((((w6.setCell ⟨w.heap.size,0,none⟩ (.int .i64 16)).setCell ⟨w.heap.size,1,none⟩ (.int .i64 0)).setCell ⟨w.heap.size,2,none⟩ (.int .i64 0)).setCell ⟨w.heap.size,3,none⟩ (.string ⟨#[]⟩)).setCell ⟨w.heap.size,4,none⟩ (.string ⟨#[]⟩)).setCell ⟨w.heap.size,5,none⟩ (.string ⟨#[]⟩)).setCell ⟨w.heap.size,6,none⟩ (.slice (some ⟨w4.heap.size,0,none⟩) 1 1)) _ _ at hKE
  change af R w (((((((w6.setCell ⟨w.heap.size,0,none⟩ (.int .i64 16)).setCell ⟨w.heap.size,1,none⟩ (.int .i64 0)).setCell ⟨w.heap.size,2,none⟩ (.int .i64 0)).setCell ⟨w.heap.size,3,none⟩ (.string ⟨#[]⟩)).setCell ⟨w.heap.size,4,none⟩ (.string ⟨#[]⟩)).setCell ⟨w.heap.size,5,none⟩ (.string ⟨#[]⟩)).setCell ⟨w.heap.size,6,none⟩ (.slice (some ⟨w4.heap.size,0,none⟩) 1 1)) at hbE
  change aF _ w6 (((((((w6.setCell ⟨w.heap.size,0,none⟩ (.int .i64 16)).setCell ⟨w.heap.size,1,none⟩ (.int .i64 0)).setCell ⟨w.heap.size,2,none⟩ (.int .i64 0)).setCell ⟨w.heap.size,3,none⟩ (.string ⟨#[]⟩)).setCell ⟨w.heap.size,4,none⟩ (.string ⟨#[]⟩)).setCell ⟨w.heap.size,5,none⟩ (.string ⟨#[]⟩)).setCell ⟨w.heap.size,6,none⟩ (.slice (some ⟨w4.heap.size,0,none⟩) 1 1)) at hk1
  generalize (((((((w6.setCell ⟨w.heap.size,0,none⟩ (.int .i64 16)).setCell ⟨w.heap.size,1,none⟩ (.int .i64 0)).setCell ⟨w.heap.size,2,none⟩ (.int .i64 0)).setCell ⟨w.heap.size,3,none⟩ (.string ⟨#[]⟩)).setCell ⟨w.heap.size,4,none⟩ (.string ⟨#[]⟩)).setCell ⟨w.heap.size,5,none⟩ (.string ⟨#[]⟩)).setCell ⟨w.heap.size,6,none⟩ (.slice (some ⟨w4.heap.size,0,none⟩) 1 1))=w7 at *;have QZ7:=(hk1.2 _ (lt_of_heap QZ6) (by omega)).trans QZ6;clear b0 b1 b2 b3 b4 b5 b6 f0 f1 f2 f3 f4 f5 f6 QZ6 QZ6' QB6 hk1;obtain ⟨b0,b1,b2,b3,b4,b5,b6⟩:=aK QE;have HR7:Hid (au w7 R tb rs o):=hRE
  have HK7:Hid (aD (SN B w.heap.size) w7 (some ⟨w4.heap.size,0,none⟩) [x]):=hKE;have hz7:=lt_of_heap QZ7;clear hRE hKE;obtain ⟨z0,z1,z2,z3,z4,z5,z6⟩:=aK QZ7;obtain ⟨y0,y1,y2,y3,y4,y5,y6⟩:=dE QZ7;go_wp2_with fail
  obtain ⟨QF,hRF,hKF,hbF,_⟩:=fT (w:=w) (x:=nd 16 [x]) (a:=some ⟨w4.heap.size,0,none⟩) (cap:=1) QZ7 HR7.out HK7.out hbE (by omega) (fun h=>h.2.2 rfl) hltR hltT;change (((((((w7.setCell ⟨w.heap.size+1,0,none⟩ (.int .i64 16)).setCell ⟨w.heap.size+1,1,none⟩ (.int .i64 0)).setCell ⟨w.heap.size+1,2,none⟩ (.int .i64 0)).setCell ⟨w.heap.size+1,3,none⟩ (.string ⟨#[]⟩)).setCell ⟨w.heap.size+1,4,none⟩ (.string ⟨#[]⟩)).setCell ⟨w.heap.size+1,5,none⟩ (.string ⟨#[]⟩)).setCell ⟨w.heap.size+1,6,none⟩ (.slice (some ⟨w4.heap.size,0,none⟩) 1 1)).heap[w.heap.size+1]? = _ at QF
  change au (((((((w7.setCell ⟨w.heap.size+1,0,none⟩ (.int .i64 16)).setCell ⟨w.heap.size+1,1,none⟩ (.int .i64 0)).setCell ⟨w.heap.size+1,2,none⟩ (.int .i64 0)).setCell ⟨w.heap.size+1,3,none⟩ (.string ⟨#[]⟩)).setCell ⟨w.heap.size+1,4,none⟩ (.string ⟨#[]⟩)).setCell ⟨w.heap.size+1,5,none⟩ (.string ⟨#[]⟩)).setCell ⟨w.heap.size+1,6,none⟩ (.slice (some ⟨w4.heap.size,0,none⟩) 1 1)) R tb rs o at hRF
  change aD _ (((((((w7.setCell ⟨w.heap.size+1,0,none⟩ (.int .i64 16)).setCell ⟨w.heap.size+1,1,none⟩ (.int .i64 0)).setCell ⟨w.heap.size+1,2,none⟩ (.int .i64 0)).setCell ⟨w.heap.size+1,3,none⟩ (.string ⟨#[]⟩)).setCell ⟨w.heap.size+1,4,none⟩ (.string ⟨#[]⟩)).setCell ⟨w.heap.size+1,5,none⟩ (.string ⟨#[]⟩)).setCell ⟨w.heap.size+1,6,none⟩ (.slice (some ⟨w4.heap.size,0,none⟩) 1 1)) _ _ at hKF
  change af R w (((((((w7.setCell ⟨w.heap.size+1,0,none⟩ (.int .i64 16)).setCell ⟨w.heap.size+1,1,none⟩ (.int .i64 0)).setCell ⟨w.heap.size+1,2,none⟩ (.int .i64 0)).setCell ⟨w.heap.size+1,3,none⟩ (.string ⟨#[]⟩)).setCell ⟨w.heap.size+1,4,none⟩ (.string ⟨#[]⟩)).setCell ⟨w.heap.size+1,5,none⟩ (.string ⟨#[]⟩)).setCell ⟨w.heap.size+1,6,none⟩ (.slice (some ⟨w4.heap.size,0,none⟩) 1 1)) at hbF
  generalize (((((((w7.setCell ⟨w.heap.size+1,0,none⟩ (.int .i64 16)).setCell ⟨w.heap.size+1,1,none⟩ (.int .i64 0)).setCell ⟨w.heap.size+1,2,none⟩ (.int .i64 0)).setCell ⟨w.heap.size+1,3,none⟩ (.string ⟨#[]⟩)).setCell ⟨w.heap.size+1,4,none⟩ (.string ⟨#[]⟩)).setCell ⟨w.heap.size+1,5,none⟩ (.string ⟨#[]⟩)).setCell ⟨w.heap.size+1,6,none⟩ (.slice (some ⟨w4.heap.size,0,none⟩) 1 1))=wE at *;obtain ⟨x0,x1,x2,x3,x4,x5,x6⟩:=aK QF
  exact C0 (v:=.agg (aT (nd 16 [x]) (some ⟨w4.heap.size,0,none⟩) 1)) (by simp [results,Tryz.results253,go_sem,x0,x1,x2,x3,x4,x5,x6]) rfl (Ends.bV rfl hbF ⟨_,1,rfl,aD.mono (fun b h _=>h.1) hKF⟩ hRF)
 case true =>
  have e:M = .ok (nd 3 [nd 16 [x]],rs):=HM.out.symm;subst e;clear HM;have QB4:=(hx24.2 _ (lt_of_heap QB2) (by omega)).trans QB2;have QZ4:=(hx24.2 _ (lt_of_heap QZ2) (by omega)).trans QZ2;have HX4:Hid (aD (SN B w.heap.size) w4 a x.ks):=aD.k1 hx24.k1 hSR HX2'.out;obtain ⟨b0,b1,b2,b3,b4,b5,b6⟩:=aK QB4;have hz4:=lt_of_heap QZ4;have hal5:=ab w4 (.cells (aT x a c) 55);have K5:Hid (aD (SN B w.heap.size) (w4.alloc (.cells (aT x a c) 55)) (some ⟨w4.heap.size,0,none⟩) [x]):=aD.one _ HX4.out ⟨by omega,by omega,by omega⟩
  have con5:=fL 16 (some ⟨w4.heap.size,0,none⟩) 1 1 (w4.alloc (.cells (aT x a c) 55));clear QB2 QZ2 HX2';go_wp2_with fail
  generalize w4.alloc (.cells (aT x a c) 55)=w5 at *;refine con5.mono ?_;rintro e w6 ⟨rfl,hb6⟩;have hb46:=chain hal5 hb6;have QB6:=(hb46.block _ (lt_of_heap QB4)).trans QB4;have QZ6:=(hb46.block _ (lt_of_heap QZ4)).trans QZ4;have K6:=aD.next hb6 K5.out;have hx6:af R w w6:=hx4.trans (.of hb46 (by omega));have hR6:=HR4.out.next hb46;clear con5 b0 b1 b2 b3 b4 b5 b6;obtain ⟨b0,b1,b2,b3,b4,b5,b6⟩:=aK QB6;obtain ⟨f0,f1,f2,f3,f4,f5,f6⟩:=dE QB6;have QZ6':=QZ6;have K6':Hid (aD (SN B w.heap.size) w6 (some ⟨w4.heap.size,0,none⟩) [x]):=K6;have H6:Hid (au w6 R tb rs o):=hR6
  have hz6:=lt_of_heap QZ6;clear K6 hR6 QB4 QZ4 K5 HX4;go_upto_region 4 with fail
  obtain ⟨QE,hRE,hKE,hbE,hk1⟩:=fT (w:=w) (x:=nd 16 [x]) (a:=some ⟨w4.heap.size,0,none⟩) (cap:=1) QB6 H6.out K6'.out hx6 (by omega) (fun h=>h.2.1 rfl) hltR hltT
  change (((((((w6.setCell ⟨w.heap.size,0,none⟩ (.int .i64 16)).setCell ⟨w.heap.size,1,none⟩ (.int .i64 0)).setCell ⟨w.heap.size,2,none⟩ (.int .i64 0)).setCell ⟨w.heap.size,3,none⟩ (.string ⟨#[]⟩)).setCell ⟨w.heap.size,4,none⟩ (.string ⟨#[]⟩)).setCell ⟨w.heap.size,5,none⟩ (.string ⟨#[]⟩)).setCell ⟨w.heap.size,6,none⟩ (.slice (some ⟨w4.heap.size,0,none⟩) 1 1)).heap[w.heap.size]? = some (.cells #[.int .i64 16,.int .i64 0,.int .i64 0,.string ⟨#[]⟩,.string ⟨#[]⟩,.string ⟨#[]⟩,.slice (some ⟨w4.heap.size,0,none⟩) 1 1] 55 (0,0)) at QE
  change au (((((((w6.setCell ⟨w.heap.size,0,none⟩ (.int .i64 16)).setCell ⟨w.heap.size,1,none⟩ (.int .i64 0)).setCell ⟨w.heap.size,2,none⟩ (.int .i64 0)).setCell ⟨w.heap.size,3,none⟩ (.string ⟨#[]⟩)).setCell ⟨w.heap.size,4,none⟩ (.string ⟨#[]⟩)).setCell ⟨w.heap.size,5,none⟩ (.string ⟨#[]⟩)).setCell ⟨w.heap.size,6,none⟩ (.slice (some ⟨w4.heap.size,0,none⟩) 1 1)) R tb rs o at hRE
  change aD _ (((((((w6.setCell ⟨w.heap.size,0,none⟩ (.int .i64 16)).setCell ⟨w.heap.size,1,none⟩ (.int .i64 0)).setCell ⟨w.heap.size,2,none⟩ (.int .i64 0)).setCell ⟨w.heap.size,3,none⟩ (.string ⟨#[]⟩)).setCell ⟨w.heap.size,4,none⟩ (.string ⟨#[]⟩)).setCell ⟨w.heap.size,5,none⟩ (.string ⟨#[]⟩)).setCell ⟨w.heap.size,6,none⟩ (.slice (some ⟨w4.heap.size,0,none⟩) 1 1)) _ _ at hKE
  change af R w (((((((w6.setCell ⟨w.heap.size,0,none⟩ (.int .i64 16)).setCell ⟨w.heap.size,1,none⟩ (.int .i64 0)).setCell ⟨w.heap.size,2,none⟩ (.int .i64 0)).setCell ⟨w.heap.size,3,none⟩ (.string ⟨#[]⟩)).setCell ⟨w.heap.size,4,none⟩ (.string ⟨#[]⟩)).setCell ⟨w.heap.size,5,none⟩ (.string ⟨#[]⟩)).setCell ⟨w.heap.size,6,none⟩ (.slice (some ⟨w4.heap.size,0,none⟩) 1 1)) at hbE
  change aF _ w6 (((((((w6.setCell ⟨w.heap.size,0,none⟩ (.int .i64 16)).setCell ⟨w.heap.size,1,none⟩ (.int .i64 0)).setCell ⟨w.heap.size,2,none⟩ (.int .i64 0)).setCell ⟨w.heap.size,3,none⟩ (.string ⟨#[]⟩)).setCell ⟨w.heap.size,4,none⟩ (.string ⟨#[]⟩)).setCell ⟨w.heap.size,5,none⟩ (.string ⟨#[]⟩)).setCell ⟨w.heap.size,6,none⟩ (.slice (some ⟨w4.heap.size,0,none⟩) 1 1)) at hk1
  generalize (((((((w6.setCell ⟨w.heap.size,0,none⟩ (.int .i64 16)).setCell ⟨w.heap.size,1,none⟩ (.int .i64 0)).setCell ⟨w.heap.size,2,none⟩ (.int .i64 0)).setCell ⟨w.heap.size,3,none⟩ (.string ⟨#[]⟩)).setCell ⟨w.heap.size,4,none⟩ (.string ⟨#[]⟩)).setCell ⟨w.heap.size,5,none⟩ (.string ⟨#[]⟩)).setCell ⟨w.heap.size,6,none⟩ (.slice (some ⟨w4.heap.size,0,none⟩) 1 1))=w7 at *;have QZ7:=(hk1.2 _ (lt_of_heap QZ6) (by omega)).trans QZ6;clear b0 b1 b2 b3 b4 b5 b6 f0 f1 f2 f3 f4 f5 f6 QZ6 QZ6' QB6 hk1;obtain ⟨b0,b1,b2,b3,b4,b5,b6⟩:=aK QE;have HR7:Hid (au w7 R tb rs o):=hRE
  have HK7:Hid (aD (SN B w.heap.size) w7 (some ⟨w4.heap.size,0,none⟩) [x]):=hKE;have hz7:=lt_of_heap QZ7;clear hRE hKE;have hal8:=ab w7 (.cells #[.int .i64 16,.int .i64 0,.int .i64 0,.string ⟨#[]⟩,.string ⟨#[]⟩,.string ⟨#[]⟩,.slice (some ⟨w4.heap.size,0,none⟩) 1 1] 55)
  have K8:Hid (aD (SN B w.heap.size) (w7.alloc (.cells #[.int .i64 16,.int .i64 0,.int .i64 0,.string ⟨#[]⟩,.string ⟨#[]⟩,.string ⟨#[]⟩,.slice (some ⟨w4.heap.size,0,none⟩) 1 1] 55)) (some ⟨w7.heap.size,0,none⟩) [nd 16 [x]]):=aD.one (x:=nd 16 [x]) (c:=1) _ HK7.out ⟨by omega,by omega,by omega⟩;have con8:=fL 3 (some ⟨w7.heap.size,0,none⟩) 1 1 (w7.alloc (.cells #[.int .i64 16,.int .i64 0,.int .i64 0,.string ⟨#[]⟩,.string ⟨#[]⟩,.string ⟨#[]⟩,.slice (some ⟨w4.heap.size,0,none⟩) 1 1] 55));go_wp2_with fail
  generalize w7.alloc (.cells #[.int .i64 16,.int .i64 0,.int .i64 0,.string ⟨#[]⟩,.string ⟨#[]⟩,.string ⟨#[]⟩,.slice (some ⟨w4.heap.size,0,none⟩) 1 1] 55)=w8 at *;refine con8.mono ?_;rintro e w9 ⟨rfl,hb9⟩;have hb79:=chain hal8 hb9;have QZ9:=(hb79.block _ (lt_of_heap QZ7)).trans QZ7;obtain ⟨z0,z1,z2,z3,z4,z5,z6⟩:=aK QZ9;obtain ⟨y0,y1,y2,y3,y4,y5,y6⟩:=dE QZ9;have K9:Hid (aD (SN B w.heap.size) w9 (some ⟨w7.heap.size,0,none⟩) [nd 16 [x]]):=aD.next hb9 K8.out;have hx9:af R w w9:=hbE.trans (.of hb79 (by omega));have H9:Hid (au w9 R tb rs o):=HR7.out.next hb79;clear con8
  go_wp2_with fail
  obtain ⟨QF,hRF,hKF,hbF,_⟩:=fT (w:=w) (x:=nd 3 [nd 16 [x]]) (a:=some ⟨w7.heap.size,0,none⟩) (cap:=1) QZ9 H9.out K9.out hx9 (by omega) (fun h=>h.2.2 rfl) hltR hltT;change (((((((w9.setCell ⟨w.heap.size+1,0,none⟩ (.int .i64 3)).setCell ⟨w.heap.size+1,1,none⟩ (.int .i64 0)).setCell ⟨w.heap.size+1,2,none⟩ (.int .i64 0)).setCell ⟨w.heap.size+1,3,none⟩ (.string ⟨#[]⟩)).setCell ⟨w.heap.size+1,4,none⟩ (.string ⟨#[]⟩)).setCell ⟨w.heap.size+1,5,none⟩ (.string ⟨#[]⟩)).setCell ⟨w.heap.size+1,6,none⟩ (.slice (some ⟨w7.heap.size,0,none⟩) 1 1)).heap[w.heap.size+1]? = _ at QF
  change au (((((((w9.setCell ⟨w.heap.size+1,0,none⟩ (.int .i64 3)).setCell ⟨w.heap.size+1,1,none⟩ (.int .i64 0)).setCell ⟨w.heap.size+1,2,none⟩ (.int .i64 0)).setCell ⟨w.heap.size+1,3,none⟩ (.string ⟨#[]⟩)).setCell ⟨w.heap.size+1,4,none⟩ (.string ⟨#[]⟩)).setCell ⟨w.heap.size+1,5,none⟩ (.string ⟨#[]⟩)).setCell ⟨w.heap.size+1,6,none⟩ (.slice (some ⟨w7.heap.size,0,none⟩) 1 1)) R tb rs o at hRF
  change aD _ (((((((w9.setCell ⟨w.heap.size+1,0,none⟩ (.int .i64 3)).setCell ⟨w.heap.size+1,1,none⟩ (.int .i64 0)).setCell ⟨w.heap.size+1,2,none⟩ (.int .i64 0)).setCell ⟨w.heap.size+1,3,none⟩ (.string ⟨#[]⟩)).setCell ⟨w.heap.size+1,4,none⟩ (.string ⟨#[]⟩)).setCell ⟨w.heap.size+1,5,none⟩ (.string ⟨#[]⟩)).setCell ⟨w.heap.size+1,6,none⟩ (.slice (some ⟨w7.heap.size,0,none⟩) 1 1)) _ _ at hKF
  change af R w (((((((w9.setCell ⟨w.heap.size+1,0,none⟩ (.int .i64 3)).setCell ⟨w.heap.size+1,1,none⟩ (.int .i64 0)).setCell ⟨w.heap.size+1,2,none⟩ (.int .i64 0)).setCell ⟨w.heap.size+1,3,none⟩ (.string ⟨#[]⟩)).setCell ⟨w.heap.size+1,4,none⟩ (.string ⟨#[]⟩)).setCell ⟨w.heap.size+1,5,none⟩ (.string ⟨#[]⟩)).setCell ⟨w.heap.size+1,6,none⟩ (.slice (some ⟨w7.heap.size,0,none⟩) 1 1)) at hbF
  generalize (((((((w9.setCell ⟨w.heap.size+1,0,none⟩ (.int .i64 3)).setCell ⟨w.heap.size+1,1,none⟩ (.int .i64 0)).setCell ⟨w.heap.size+1,2,none⟩ (.int .i64 0)).setCell ⟨w.heap.size+1,3,none⟩ (.string ⟨#[]⟩)).setCell ⟨w.heap.size+1,4,none⟩ (.string ⟨#[]⟩)).setCell ⟨w.heap.size+1,5,none⟩ (.string ⟨#[]⟩)).setCell ⟨w.heap.size+1,6,none⟩ (.slice (some ⟨w7.heap.size,0,none⟩) 1 1))=wE at *;obtain ⟨x0,x1,x2,x3,x4,x5,x6⟩:=aK QF
  exact C0 (v:=.agg (aT (nd 3 [nd 16 [x]]) (some ⟨w7.heap.size,0,none⟩) 1)) (by simp [results,Tryz.results253,go_sem,x0,x1,x2,x3,x4,x5,x6]) rfl (Ends.bV rfl hbF ⟨_,1,rfl,aD.mono (fun b h _=>h.1) hKF⟩ hRF)
end Go.Proofs.YtoknmnngaackkaaGreatDoor
namespace Go.Proofs.YtoknmnngaackkaaGreatDoor
open Go.RowKit
set_option maxRecDepth 100000
set_option maxHeartbeats 16000000
structure qY (w:World) where
 now:World
 ok:Below w.heap.size w now
theorem mS {P:Program} {id:Nat} {Q:Exit→Act→World→Prop} {a:Act} {w:World} {l:List Oper} (hm:P.follows .mixedOrders=true) (hB:Region.lexB .any l.toArray=true)
  (h:wpQuiet P l.toArray (fun w'=>∃ n:qY w,w'=n.now) (fun a'=>∀ w',(∃ n:qY w,w'=n.now)→Q .normal a' w') l a):(Code.region id l.toArray true).wp P Q a w :=
 wp_region_quiet (C:=fun w'=>∃ n:qY w,w'=n.now) hm hB ⟨⟨w.drew,(CY _ _).drew⟩,rfl⟩ (by simpa using h)
theorem sQ {P:Program} {f:FuncId} {args:Array Value} {w:World} {n:qY w} {v:Value}
  (h:Calls P f args n.now fun e w'=>e = .returned v∧Below n.now.heap.size n.now w'):Calls P f args n.now fun e w''=>e = .returned v∧∃ m:qY w,w''=m.now :=
 h.mono fun _ w' ⟨he,hb⟩=>⟨he,⟨w',chain n.ok hb⟩,rfl⟩
section
variable {P:Program} {ops:Array Oper} {Q:Exit→Act→World→Prop} {md:Region.Mode} {C:World→Prop}
def gg (P:Program) (ops:Array Oper) (C:World→Prop) (o:Oper) (v:Value) (a:Act):Prop :=
 (Region.wanted o (yielded ops a.tmps)=true∧∀ n:World,C n→Oper.quietUpon P (fun w'=>Below n.heap.size n w') n v ((execOp a.eval o).run P n)) ∨
 (Region.wanted o (yielded ops a.tmps)=false∧v=undef)
theorem gg.of_same {o:Oper} {v:Value} {a a':Act} (hy:gg P ops C o v a) (he:execOp a'.eval o=execOp a.eval o)
  (hw:Region.wanted o (yielded ops a'.tmps)=Region.wanted o (yielded ops a.tmps)):gg P ops C o v a':=by
 unfold gg at *;rw [he,hw];exact hy
theorem gg.wpOp {i:Nat} {o:Oper} {v:Value} {a:Act} (hi:ops[i]? = some o) (hy:gg P ops C o v a)
  {K:Act→World→Prop} {w:World} (hB:C w) (h:∀ w',Below w.heap.size w w'→K (a.put o.dst v) w'):wpOp P ops Q i K a w:=by
 unfold Go.wpOp;simp only [hi];rcases hy with ⟨hw,hv⟩ | ⟨hw,rfl⟩
 ·simp only [hw,if_true];left;have h3:=hv w hB;unfold Oper.wp;generalize (execOp a.eval o).run P w=r at *;cases r with
  | ok n w' =>
   cases n <;> simp only [Oper.quietUpon] at h3 <;> simp only [Oper.upon]
   case value u =>
    obtain ⟨e1,e2⟩:=h3;rw [e1,e2];exact h _ (CY _ _)
   case skip =>
    obtain ⟨e1,e2⟩:=h3;rw [e1,← e2];exact h _ (CY _ _)
   case enter f args =>
    obtain ⟨e1,hc⟩:=h3;rw [e1];exact hc.mono fun e w'' ⟨he,hw''⟩=>by subst he; exact h _ hw''
  | halt x w'=>simp only [Oper.quietUpon] at h3
 ·simp only [hw,De,if_false];exact h _ (CY _ _)
theorem n8 {Φ:Act→Prop} {j:Nat} {oi oj:Oper} {v:Value} (hj:ops[j]? = some oj) (hap:oi.apart ops oj=true)
  (hsj:∀ cs b,oj.op ≠ .select cs b) (hQ:∀ c a w,Q (.panic c) (a.put oi.dst v) w→Q (.panic c) a w)
  (bz:∀ (a:Act),Φ a→∀ u,Φ (a.put oj.dst u)) (keepD:∀ (a:Act) (d:Deferred),Φ a→Φ { a with defers:=d :: a.defers })
  {K:Act→World→Prop} {a:Act} {w:World} (hy:Φ a) (h:wpOp P ops Q j K (a.put oi.dst v) w) :
  wpOp P ops Q j (fun a' w'=>Φ a'∧K (a'.put oi.dst v) w') a w:=by
 obtain ⟨h1,h2,_⟩:=Oper.apart_spec hap;unfold wpOp at *;simp only [hj] at *;rw [wanted_put oj a oi.dst v h1] at h
 split
 ·rename_i hw
  simp only [hw,if_true] at h;rcases h with h | ⟨hasks,hlets⟩
  case inr=>exact .inr ⟨by unfold Oper.asks at *; rw [execOp_put oj hsj a oi.dst v h1] at hasks; exact hasks,hlets⟩
  refine .inl ?_;unfold Oper.wp at *;rw [execOp_put oj hsj a oi.dst v h1] at h;generalize (execOp a.eval oj).run P w=r at *;cases r with
  | ok n w' =>
   cases n <;> simp only [Oper.upon] at h ⊢
   case value u=>exact ⟨bz a hy u,by rw [← Act.put_comm a v u h2]; exact h⟩
   case skip=>exact ⟨bz a hy _,by rw [← Act.put_comm a v undef h2]; exact h⟩
   case defer d =>
    refine ⟨bz _ (keepD a d hy) _,?_⟩;rw [← Act.put_comm _ v undef h2,← Act.put_defers];exact h
   case enter f args =>
    refine Calls.mono h fun e w'' he=>?_
    cases e with
    | returned u=>exact ⟨bz a hy u,by rw [← Act.put_comm a v u h2]; exact he⟩
    | panicked c=>exact hQ _ _ _ he
    | outgrown=>exact he
   case row row args=>exact Rows.mono h fun u w'' he=>⟨bz a hy u,by rw [← Act.put_comm a v u h2]; exact he⟩
  | halt x w' =>
   cases x <;> simp only [Oper.upon] at h ⊢
   case panic u=>exact hQ _ _ _ h
 ·rename_i hw
  simp only [hw] at h;exact ⟨bz a hy _,by rw [← Act.put_comm a v undef h2]; exact h⟩
def uk (P:Program) (md:Region.Mode) (ops:Array Oper) (Q:Exit→Act→World→Prop) (C:World→Prop):Nat→Array Bool→Act→World→Prop
 | 0,listed,a,w=>Region.ready md ops listed = []∧∀ w',Below w.heap.size w w'→Q .normal a w'
 | fuel+1,listed,a,w=>∀ w',Below w.heap.size w w'→(Region.ready md ops listed = []→Q .normal a w') ∧
  ∀ i ∈ Region.ready md ops listed,wpOp P ops Q i (fun a' w''=>C w''∧uk P md ops Q C fuel (listed.setIfInBounds i true) a' w'') a w'
theorem uk.later:∀ (fuel:Nat) {listed:Array Bool} {a:Act} {w w1:World},uk P md ops Q C fuel listed a w→Below w.heap.size w w1→uk P md ops Q C fuel listed a w1
 | 0,_,_,_,_,h,hb=>⟨h.1,fun w' hw'=>h.2 w' (chain hb hw')⟩
 | _+1,_,_,_,_,h,hb=>fun w' hw'=>h w' (chain hb hw')
theorem kN:∀ (fuel:Nat) (listed:Array Bool) (a:Act) (w:World),uk P md ops Q C fuel listed a w→wpAny P md ops Q fuel listed a w
 | 0,_,_,_,h=>⟨h.1,h.2 _ (CY _ _)⟩
 | fuel+1,_,_,w,h=>⟨(h w (CY _ _)).1,fun i hi=>wpOp_mono (fun a' w' h'=>kN fuel _ a' w' h'.2) ((h w (CY _ _)).2 i hi)⟩
theorem uG (hC:∀ w w',C w→Below w.heap.size w w'→C w') {i:Nat} {oi:Oper} {v:Value} (hi:ops[i]? = some oi) (hsel:∀ (j:Nat) (o:Oper) cs b,ops[j]? = some o→o.op ≠ .select cs b)
  (hQ:∀ c a w,Q (.panic c) (a.put oi.dst v) w→Q (.panic c) a w) :
  ∀ (fuel:Nat) (listed:Array Bool) (a:Act) (w:World),
   (∀ j oj,ops[j]? = some oj→j≠i→listed.getD j true=false→(∀ e ∈ oj.after,Region.binds md e=true→e.on≠i)→oi.apart ops oj=true) →
   i ∈ Region.ready md ops listed→gg P ops C oi v a→C w →
   uk P md ops Q C fuel (listed.setIfInBounds i true) (a.put oi.dst v) w→uk P md ops Q C (fuel+1) listed a w:=by
 intro fuel
 induction fuel with
 | zero =>
  intro listed a w _ hr hy hB H w' hw';refine ⟨fun h=>(by rw [h] at hr; cases hr),fun j hj=>?_⟩;by_cases hji:j=i
  ·subst hji;exact hy.wpOp hi (hC _ _ hB hw') fun w'' hw''=>⟨hC _ _ (hC _ _ hB hw') hw'',H.later 0 (chain hw' hw'')⟩
  ·have:=ready_mono hj hji;rw [H.1] at this;cases this
 | succ fuel ih =>
  intro listed a w hfree hr hy hB H w' hw';refine ⟨fun h=>(by rw [h] at hr; cases hr),fun j hj=>?_⟩;by_cases hji:j=i
  ·subst hji;exact hy.wpOp hi (hC _ _ hB hw') fun w'' hw''=>⟨hC _ _ (hC _ _ hB hw') hw'',H.later (fuel+1) (chain hw' hw'')⟩
  ·have h1:=(H w' hw').2 j (ready_mono hj hji);obtain ⟨hjun,oj,hoj,hall⟩:=mem_ready.1 hj;have hnot:∀ e ∈ oj.after,Region.binds md e=true→e.on≠i:=fun e he hb heq=>by
    have h1:=hall e he hb;have h0:=(mem_ready.1 hr).1;rw [heq] at h1;rcases DF i listed.size with h' | h'
    ·simp [h'] at h0 h1; rw [h0] at h1; cases h1
    ·simp [DM h'] at h1
   have hap:=hfree j oj hoj hji hjun hnot;obtain ⟨_,_,h3⟩:=Oper.apart_spec hap;have h2:=n8 (Φ:=gg P ops C oi v) hoj hap (fun cs b=>hsel j oj cs b hoj) hQ
    (fun a hy u=>hy.of_same (execOp_put oi (fun cs b=>hsel i oi cs b hi) a oj.dst u h3) (wanted_put oi a oj.dst u h3)) (fun a d hy=>hy.of_same rfl rfl) hy h1
   have hfree':∀ k ok,ops[k]? = some ok→k≠i→(listed.setIfInBounds j true).getD k true=false →
     (∀ e ∈ ok.after,Region.binds md e=true→e.on≠i)→oi.apart ops ok=true:=fun k ok hk hki hun hno=>by
    refine hfree k ok hk hki ?_ hno;by_cases hjk:j=k
    ·subst hjk; exact hjun
    ·rw [getD_set_ne true hjk] at hun; exact hun
   refine wpOp_mono (fun a' w'' h4=>⟨h4.2.1,ih (listed.setIfInBounds j true) a' w'' hfree' (ready_mono hr (Ne.symm hji)) h4.1 h4.2.1 ?_⟩) h2;rw [Array.setIfInBounds_comm _ _ hji];exact h4.2.2
theorem aN (hC:∀ w w',C w→Below w.heap.size w w'→C w') {i:Nat} {oi:Oper} {v:Value} {fuel:Nat} {listed:Array Bool} {a:Act} {w:World} (d:Option Tmp) (hi:ops[i]? = some oi) (hd:oi.dst=d)
  (hs:Region.noSelect ops=true) (hf:Region.free md ops listed i=true) (hr:(Region.ready md ops listed).contains i=true)
  (hQ:∀ c a w,Q (.panic c) (a.put oi.dst v) w→Q (.panic c) a w) (hy:gg P ops C oi v a) (hB:C w)
  (h:uk P md ops Q C fuel (listed.setIfInBounds i true) (a.put d v) w):uk P md ops Q C (fuel+1) listed a w:=by
 subst hd;exact uG hC hi (Region.noSelect_spec hs) hQ fuel listed a w (Region.free_spec hi hf) (by simpa using hr) hy hB h
theorem ae (hC:∀ w w',C w→Below w.heap.size w w'→C w') {i:Nat} {oi:Oper} {v:Value} {fuel:Nat} {listed:Array Bool} {a:Act} {w:World} (d:Tmp) (hy:∀ n:World,C n→Oper.quietUpon P (fun w'=>Below n.heap.size n w') n v ((execOp a.eval oi).run P n)) (hB:C w) (h:uk P md ops Q C fuel (listed.setIfInBounds i true) (a.put (some d) v) w) (hi:ops[i]? = some oi:=by exact rfl) (hd:oi.dst = some d:=by exact rfl) (hs:Region.noSelect ops=true:=by kernel_rfl) (hf:Region.free md ops listed i=true:=by kernel_rfl) (hr:(Region.ready md ops listed).contains i=true:=by kernel_rfl) (hQ:∀ c a w,Q (.panic c) (a.put oi.dst v) w→Q (.panic c) a w:=by exact fun _ _ _ h=>h) (hw:Region.wanted oi (yielded ops a.tmps)=true:=by exact rfl):uk P md ops Q C (fuel+1) listed a w:=aN hC (some d) hi hd hs hf hr hQ (.inl ⟨hw,hy⟩) hB h
theorem bA {rs:List Nat} {fuel:Nat} {listed:Array Bool} {a:Act} {w:World} (hr:Region.ready md ops listed=rs) (hne:rs ≠ [])
  (h:∀ w',Below w.heap.size w w'→∀ i ∈ rs,wpOp P ops Q i (fun a' w''=>C w''∧uk P md ops Q C fuel (listed.setIfInBounds i true) a' w'') a w'):uk P md ops Q C (fuel+1) listed a w :=
 fun w' hw'=>⟨fun h0=>absurd (hr ▸ h0) hne,hr ▸ h w' hw'⟩
theorem fq {listed:Array Bool} {a:Act} {w:World} (hr:Region.ready md ops listed = []) (h:∀ w',Below w.heap.size w w'→Q .normal a w'):uk P md ops Q C 0 listed a w:=⟨hr,h⟩
theorem cK {id:Nat} {a:Act} {w:World} (C:World→Prop) (hm:P.follows .mixedOrders=true)
  (h:uk P .any ops Q C ops.size (Array.replicate ops.size false) a w.drew):(Code.region id ops true).wp P Q a w :=
 wp_region_any hm (kN _ _ _ _ h)
end
end Go.Proofs.YtoknmnngaackkaaGreatDoor
