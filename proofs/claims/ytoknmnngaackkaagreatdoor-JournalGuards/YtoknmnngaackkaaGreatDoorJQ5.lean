/- Together: BA, BB, BC, BD, BE, BF, BG. -/
import Derived.Deep.DeepCutAuto
import Derived.Deep.CutBlock
import Derived.Deep.LoopGhost
import Derived.Lib.Strings
import Derived.Lib.BufferRead
import Derived.Shelf.Pu.Clone
import Derived.Shelf.Lay
import Derived.Ground.MpProg
import Derived.Test.YtoknmnngaackkaaGreatDoorJQ4
namespace Go.Proofs.YtoknmnngaackkaaGreatDoor
open Go.RowKit Go.Lib Go.Shelf
set_option maxRecDepth 100000
set_option maxHeartbeats 16000000
set_option maxRecDepth 100000
set_option maxHeartbeats 8000000
def BW (B:Nat) (W:World) (v:Value) (x:j3):Prop:=∃ p1 d1 p2 d2 p3 d3,v = .agg #[.slice p1 x.parts.length d1,.slice p2 x.ops.length d2,.slice p3 x.order.length d3,.int .i64 x.aE]∧aI b7 21 (fun b=>B≤b) W p1 x.parts∧aI fJ 1 (fun b=>B≤b) W p2 x.ops∧aI bO 7 (fun b=>B≤b) W p3 x.order
abbrev zs:Array Value:=#[.slice none 0 0,.slice none 0 0,.slice none 0 0,.int .i64 0]
theorem AJ:(Tryz.prog.info? 50).map (·.size)=some 4:=by kernel_rfl
theorem A4:(Tryz.prog.info? 79).map (fun i=>(i.zero,i.size,i.bytes))=some (some (.agg nw),21,280):=by kernel_rfl
theorem zu:(Tryz.prog.info? 3).map (fun i=>(i.zero,i.size,i.bytes))=some (some (.int .i64 0),1,8):=by kernel_rfl
theorem aQ.mH {α:Type} {En:ir α} (ok:fi En) {e size base:Nat} {S:Nat→Prop} {W W1:World} {v:Value} {l:List α} (h:aQ En e size base S W v l) (hk:ay (fun b=>S b∨v.ownBlock=some b) W W1):aQ En e size base S W1 v l:=by
 obtain ⟨xs,h1,h2⟩:=h;refine ⟨xs,?_,fun i hi=>?_⟩
 ·obtain ⟨h0,⟨h1,h2⟩ | ⟨k,cap,cur,h1,h2,h3,h4⟩⟩:=h1
  ·exact ⟨h0,.inl ⟨h1,h2⟩⟩
  ·exact ⟨h0,.inr ⟨k,cap,cur,h1,h2,(hk.2 k (.inr (by rw [h1]; rfl)) (lt_of_heap h3)).trans h3,h4⟩⟩
 ·obtain ⟨cs,c1,c2,c3⟩:=h2 i hi;exact ⟨cs,c1,c2,ok.mono (fun b hb' _=>⟨hb'.1,Dg hb'.2.1 hk.1,hb'.2.2⟩) (ok.next (hk.mono fun _ h=>.inl h.1) c3)⟩
theorem aQ.vl {α:Type} {En:ir α} (ok:fi En) {e size base:Nat} {S S':Nat→Prop} {W:World} {v:Value} {l:List α} (h:aQ En e size base S W v l) (hs:∀ b,S b→b<W.heap.size→v.ownBlock≠some b→S' b):aQ En e size base S' W v l:=by
 obtain ⟨xs,h1,h2⟩:=h;refine ⟨xs,h1,fun i hi=>?_⟩;obtain ⟨cs,c1,c2,c3⟩:=h2 i hi;exact ⟨cs,c1,c2,ok.mono (fun b hb' _=>⟨hs b hb'.1 hb'.2.1 hb'.2.2,hb'.2.1,hb'.2.2⟩) c3⟩
theorem aQ.Cv {α:Type} {En:ir α} (ok:fi En) {e size base:Nat} {S S':Nat→Prop} {W:World} {v:Value} {l:List α} (h:aQ En e size base S W v l) (hs:∀ b,S b→S' b) (ho:∀ k,v.ownBlock=some k→base≤k→S' k):∃ a cap,v = .slice a l.length cap∧aI En size S' W a l:=by
 rcases h.fin ok with ⟨rfl,rfl⟩ | ⟨g,cap,rfl,h1,h2,h3⟩
 ·exact ⟨none,0,rfl,.inl rfl⟩
 ·refine ⟨_,cap,rfl,.inr ⟨g,0,rfl,ho g rfl h1,h2,fun i hi=>?_⟩⟩;obtain ⟨cs,c1,c2,c3⟩:=h3 i hi;exact ⟨cs,c1,by simpa using c2,ok.mono (fun b h _=>hs b h) c3⟩
theorem kl {P:Program} {w:World} {o:Oper} {a:Act} {K:Act→World→Prop} {Q:Exit→Act→World→Prop} (s x:Operand) (t:TypeId)
  (ho:o.op = .call { callee:=.builtin .append,args:=#[s,x],argTypes:=#[t,t] })
  (base:Nat) (e:TypeId) (i:TypeInfo) (z:Value) (size bytes:Nat) (ht:P.underlying t=some (.slice e)) (hi:P.info? e=some i) (hz:i.zero=some z)
  (hsize:i.size=size) (hby:i.bytes=bytes) (hzs:z.cells.size=size) (hsz:0<size)
  (v:Value) (n:Nat) (xs:List Value) (hs:a.eval s=v) (hown:w.ownsRow base e size v n xs)
  (ad:Addr) (m c:Nat) (news:List Value) (hx:a.eval x = .slice (some ad) m c) (hl:news.length=m*size) (hnews:∀ j u,news[j]? = some u→w.cell? (ad.add j)=some u) (h1:∀ u ∈ news,u.oneCell'=true)
  (h63:n+m≤maxLen) (hbytes:(n+m)*bytes≤140737488355328) (hbase:base≤w.heap.size)
  (h:∀ v' w',w'.ownsRow base e size v' (n+m) (xs ++ news)→w.grownBy w' v.ownBlock→(v'.ownBlock=v.ownBlock∨v'.ownBlock=some w.heap.size)→K (a.put o.dst v') w'):o.wp P a w K Q:=by
 obtain ⟨v',w',hr,h2,h3,_,h5⟩:=run_append_own_at (P:=P) w base t o.type e i z size bytes ht hi hz hsize hby hzs hsz v n xs hown ad m c news hl hnews h1 h63 hbytes hbase;unfold Oper.wp;simp [execOp,ho,resolve,invoke,builtin,hs,hx,hr,Result.andThen];exact h v' w' h2 h3 h5
def SQ (w0 gq:Nat) (b:Nat):Prop:=w0<b∧b≠gq
def SP (w0 gq:Nat) (vo:Value) (b:Nat):Prop:=w0<b∧b≠gq∧vo.ownBlock≠some b
def AG (po:List fD × List Int) (r2:List Tk):PR j3 :=
 if bu ⟨#[111,114,100,101,114]⟩ r2 then bf (aS [⟨#[98,121]⟩] (az r2)) fun _ r3=>bf (bS eP 8 9 r3) fun l r4=>bf (aS [⟨#[108,105,109,105,116]⟩] r4) fun _ r5=>bf (dp 0 50 r5) fun n r6=>.ok (⟨po.1,po.2,l,n⟩,r6)
  else .ok (⟨po.1,po.2,[],-1⟩,r2)
theorem wm (ts:List Tk):iA ts=bf (ef ts) fun s r=>bf (fa 5 [s] [] r) fun po r2=>AG po r2:=rfl
theorem oC {ts:List Tk} (h:(bp ts).1=0):(bp ts).2=ts:=by
 unfold bp at h ⊢
 split at h
 ·split at h <;> simp at h
 ·split at h
  ·split at h <;> simp at h
  ·simp_all
structure sH (w:World) (R gq:Nat) (wr:World) (vp vo:Value) (ps:List fD) (ops:List Int):Prop where
 qz:wr.heap[w.heap.size]? = some (.cells zs 50 (0,0))
 qq:wr.heap[gq]? = some (.cells #[vp,vo,.slice none 0 0,.int .i64 (-1)] 50 (0,0))
 p:aQ b7 79 21 (w.heap.size+1) (SP w.heap.size gq vo) wr vp ps
 po:∀ k,vp.ownBlock=some k→k≠gq∧vo.ownBlock≠some k
 i:aQ fJ 3 1 (w.heap.size+1) (SQ w.heap.size gq) wr vo ops
 io:∀ k,vo.ownBlock=some k→k≠gq
theorem sH.bz {w:World} {R gq:Nat} {wr w1:World} {vp vo:Value} {ps:List fD} {ops:List Int} (h:sH w R gq wr vp vo ps ops) (hb:af R wr w1) (hR:R<w.heap.size) (hg:w.heap.size<gq):sH w R gq w1 vp vo ps ops:=by
 refine ⟨(hb.2 _ (lt_of_heap h.qz) (by omega)).trans h.qz,(hb.2 _ (lt_of_heap h.qq) (by omega)).trans h.qq,h.p.mH cf (hb.k1.k ?_),h.po,h.i.mH fV (hb.k1.k ?_),h.io⟩
 ·rintro (h1 | h1)
  ·have:=h1.1; omega
  ·have:=(h.p.lt _ h1).1; omega
 ·rintro (h1 | h1)
  ·have:=h1.1; omega
  ·have:=(h.i.lt _ h1).1; omega
theorem yr {W:World} {g:Nat} {T:TypeId} {c0 c1 c2 c3:Value} (h:W.heap[g]? = some (.cells #[c0,c1,c2,c3] T (0,0))) (v0:Value):(W.setCell ⟨g,2,none⟩ v0).heap[g]? = some (.cells #[c0,c1,v0,c3] T (0,0))∧aF g W (W.setCell ⟨g,2,none⟩ v0)∧(∀ {R:Nat} {w:World},af R w W→w.heap.size≤g→R<w.heap.size→af R w (W.setCell ⟨g,2,none⟩ v0)):=by
 refine ⟨?_,((aF.refl _ _).set 2 v0),fun hb hg hr=>(hb.aL g 2 v0 hg (Dd hr))⟩;have h:(W.setCell ⟨g,2,none⟩ v0).heap[g]? = some (.cells #[c0,c1,v0,c3] T (0,0)):=C1 W g 2 _ _ v0 h;generalize W.setCell ⟨g,2,none⟩ v0=W0 at h ⊢;exact h
theorem yd {W:World} {g:Nat} {T:TypeId} {c0 c1 c2 c3:Value} (h:W.heap[g]? = some (.cells #[c0,c1,c2,c3] T (0,0))) (v0:Value):(W.setCell ⟨g,3,none⟩ v0).heap[g]? = some (.cells #[c0,c1,c2,v0] T (0,0))∧aF g W (W.setCell ⟨g,3,none⟩ v0)∧(∀ {R:Nat} {w:World},af R w W→w.heap.size≤g→R<w.heap.size→af R w (W.setCell ⟨g,3,none⟩ v0)):=by
 refine ⟨?_,((aF.refl _ _).set 3 v0),fun hb hg hr=>(hb.aL g 3 v0 hg (Dd hr))⟩;have h:(W.setCell ⟨g,3,none⟩ v0).heap[g]? = some (.cells #[c0,c1,c2,v0] T (0,0)):=C1 W g 3 _ _ v0 h;generalize W.setCell ⟨g,3,none⟩ v0=W0 at h ⊢;exact h
theorem yc {W:World} {g:Nat} {T:TypeId} {c0 c1 c2 c3:Value} (h:W.heap[g]? = some (.cells #[c0,c1,c2,c3] T (0,0))) (v0:Value):(W.setCell ⟨g,1,none⟩ v0).heap[g]? = some (.cells #[c0,v0,c2,c3] T (0,0))∧aF g W (W.setCell ⟨g,1,none⟩ v0)∧(∀ {R:Nat} {w:World},af R w W→w.heap.size≤g→R<w.heap.size→af R w (W.setCell ⟨g,1,none⟩ v0)):=by
 refine ⟨?_,((aF.refl _ _).set 1 v0),fun hb hg hr=>(hb.aL g 1 v0 hg (Dd hr))⟩;have h:(W.setCell ⟨g,1,none⟩ v0).heap[g]? = some (.cells #[c0,v0,c2,c3] T (0,0)):=C1 W g 1 _ _ v0 h;generalize W.setCell ⟨g,1,none⟩ v0=W0 at h ⊢;exact h
theorem yO {W:World} {g:Nat} {T:TypeId} {c0 c1 c2 c3:Value} (h:W.heap[g]? = some (.cells #[c0,c1,c2,c3] T (0,0))) (v0:Value):(W.setCell ⟨g,0,none⟩ v0).heap[g]? = some (.cells #[v0,c1,c2,c3] T (0,0))∧aF g W (W.setCell ⟨g,0,none⟩ v0)∧(∀ {R:Nat} {w:World},af R w W→w.heap.size≤g→R<w.heap.size→af R w (W.setCell ⟨g,0,none⟩ v0)):=by
 refine ⟨?_,((aF.refl _ _).set 0 v0),fun hb hg hr=>(hb.aL g 0 v0 hg (Dd hr))⟩;have h:(W.setCell ⟨g,0,none⟩ v0).heap[g]? = some (.cells #[v0,c1,c2,c3] T (0,0)):=C1 W g 0 _ _ v0 h;generalize W.setCell ⟨g,0,none⟩ v0=W0 at h ⊢;exact h
theorem qO {w:World} {R tb:Nat} {ts:List Tk} (h:au w R tb ts 0):Calls Tryz.prog 133 #[.pointer (some ⟨R,0,none⟩)] w (Ends R tb 0 w (BW w.heap.size) (iA ts)):=by
 have hmf:∀ (fn:Fn) (first cap:Array Value) (w:World),(Instr.makeFunc fn first cap).run Tryz.prog w = .ok (.func fn first cap) w:=fun _ _ _ _=>rfl
 have hltR:=h.lt;have hltT:=h.j5;have hx0:af R w w:=af.refl _ _;have HR0:Hid (au w R tb ts 0):=h;generalize hM:iA ts=M;have HM0:Hid _:=hM;clear h hM;go_enter Tryz.func133,Tryz.ntmps133;go_upto_region 1 with fail
 have hal1:=ab w (.cells zs 50);have Q2:=ar w zs 50;have hsg6:=hx0.size;generalize w.alloc (.cells zs 50)=w3 at *;have hx4:af R w w3:=hx0.trans (.of hal1 (by omega));have HR5:Hid (au w3 R tb ts 0):=HR0.out.next hal1;clear HR0 hx0 hal1;obtain ⟨i0,hi,hj0,hj1,hj2⟩:=info_parts A4;obtain ⟨k0,hk,hk0,hk1,hk2⟩:=info_parts zu;have hm:=HM0.out;rw [wm] at hm;have HMa:Hid _:=hm;clear hm HM0;have hsz:=hx4.size;have con8:=lr HR5.out;have hm:=HMa.out;generalize ef ts=L at hm con8;have HM12:Hid _:=hm
 clear hm HMa HR5;have hl_g6:=lt_of_heap Q2;go_wp2_with fail
 refine con8.mono ?_;rintro e w9 ⟨hb10,hW⟩;have hx11:=hx4.trans hb10;have Q14:=(hb10.2 _ (lt_of_heap Q2) (by omega)).trans Q2;clear Q2;clear con8 hb10 hx4;rcases L with ce | ⟨s0,r13⟩
 ·obtain ⟨rfl,us,hE⟩:=hW;have HE:Hid (au w9 R tb us 0):=hE;clear hE;have e:M = .error ce:=HM12.out.symm;subst e;clear HM12;go_wp2_with fail
  exact ⟨rfl,Ends.err rfl hx11 HE.out⟩
 obtain ⟨v,rfl,⟨a1,c1,a2,c2,a3,c3,a4,c4,a5,c5,rfl,k1,k2,k3,k4,k5⟩,hR⟩:=hW;have HR15:Hid (au w9 R tb r13 0):=hR;have hm:=HM12.out;simp only [bg] at hm;have HM16:Hid _:=hm;clear hm hR HM12
 have HK17:Hid (b7 (fun b=>w.heap.size<b) w9 s0 [.bool s0.distinct,.bool s0.star,.slice a1 s0.items.length c1,.slice a2 s0.sources.length c2,.bool s0.aB,.bool s0.aG,.int .i64 s0.ah.k,.int .i64 s0.ah.v.1,.int .i64 s0.ah.v.2.1,.string s0.ah.v.2.2,.string s0.ah.aH,.string s0.ah.name,.slice a3 s0.ah.ks.length c3,.int .i64 s0.aj.k,.int .i64 s0.aj.v.1,.int .i64 s0.aj.v.2.1,.string s0.aj.v.2.2,.string s0.aj.aH,.string s0.aj.name,.slice a4 s0.aj.ks.length c4,.slice a5 s0.group.length c5]):=cf.mono (S:=fun b=>w3.heap.size≤b) (fun b h _=>by have:_≤b:=h; show w.heap.size<b; omega) (⟨a1,c1,a2,c2,a3,c3,a4,c4,a5,c5,rfl,k1,k2,k3,k4,k5⟩)
 clear k1 k2 k3 k4 k5;clear hsz hl_g6;have hlz:=lt_of_heap Q14;have hsz:=hx11.size;have hal2:=ab w9 (.cells (eE s0 a1 a2 a3 a4 a5 c1 c2 c3 c4 c5) 79);have halQ:Below (w9.alloc (.cells (eE s0 a1 a2 a3 a4 a5 c1 c2 c3 c4 c5) 79)).heap.size (w9.alloc (.cells (eE s0 a1 a2 a3 a4 a5 c1 c2 c3 c4 c5) 79)) ((w9.alloc (.cells (eE s0 a1 a2 a3 a4 a5 c1 c2 c3 c4 c5) 79)).alloc (.cells #[.slice (some ⟨w9.heap.size,0,none⟩) 1 1,.slice none 0 0,.slice none 0 0,.int .i64 (-1)] 50)):=(CY _ _).alloc (CX _) _
 have Q2:((w9.alloc (.cells (eE s0 a1 a2 a3 a4 a5 c1 c2 c3 c4 c5) 79)).alloc (.cells #[.slice (some ⟨w9.heap.size,0,none⟩) 1 1,.slice none 0 0,.slice none 0 0,.int .i64 (-1)] 50)).heap[w9.heap.size+1]? = some (.cells #[.slice (some ⟨w9.heap.size,0,none⟩) 1 1,.slice none 0 0,.slice none 0 0,.int .i64 (-1)] 50 (0,0)):=by
  rw [show w9.heap.size+1=(w9.alloc (.cells (eE s0 a1 a2 a3 a4 a5 c1 c2 c3 c4 c5) 79)).heap.size by simp];exact ar _ _ _
 have P1:aQ b7 79 21 (w.heap.size+1) (fun b=>w.heap.size<b) (w9.alloc (.cells (eE s0 a1 a2 a3 a4 a5 c1 c2 c3 c4 c5) 79)) (.slice (some ⟨w9.heap.size,0,none⟩) 1 1) [s0]:=aQ.one cf (ca:=(eE s0 a1 a2 a3 a4 a5 c1 c2 c3 c4 c5)) HK17.out rfl (by omega)
 have P2:aQ b7 79 21 (w.heap.size+1) (SP w.heap.size (w9.heap.size+1) (.slice none 0 0)) ((w9.alloc (.cells (eE s0 a1 a2 a3 a4 a5 c1 c2 c3 c4 c5) 79)).alloc (.cells #[.slice (some ⟨w9.heap.size,0,none⟩) 1 1,.slice none 0 0,.slice none 0 0,.int .i64 (-1)] 50)) (.slice (some ⟨w9.heap.size,0,none⟩) 1 1) [s0]:=(P1.vl cf (fun b h1 h2 _=>⟨h1,by simp at h2; omega,by simp [Value.ownBlock]⟩)).next cf halQ
 have D2:Below w9.heap.size w9 ((w9.alloc (.cells (eE s0 a1 a2 a3 a4 a5 c1 c2 c3 c4 c5) 79)).alloc (.cells #[.slice (some ⟨w9.heap.size,0,none⟩) 1 1,.slice none 0 0,.slice none 0 0,.int .i64 (-1)] 50)):=chain hal2 halQ
 have ST:sH w R (w9.heap.size+1) ((w9.alloc (.cells (eE s0 a1 a2 a3 a4 a5 c1 c2 c3 c4 c5) 79)).alloc (.cells #[.slice (some ⟨w9.heap.size,0,none⟩) 1 1,.slice none 0 0,.slice none 0 0,.int .i64 (-1)] 50)) (.slice (some ⟨w9.heap.size,0,none⟩) 1 1) (.slice none 0 0) [s0] []:=⟨(D2.block _ hlz).trans Q14,Q2,P2,fun k e=>⟨by have:=Du e; change w9.heap.size=k at this; omega,by simp [Value.ownBlock]⟩,aQ.nil _ _ _ _ _ _,fun k e=>by simp [Value.ownBlock] at e⟩
 have hxQ:af R w ((w9.alloc (.cells (eE s0 a1 a2 a3 a4 a5 c1 c2 c3 c4 c5) 79)).alloc (.cells #[.slice (some ⟨w9.heap.size,0,none⟩) 1 1,.slice none 0 0,.slice none 0 0,.int .i64 (-1)] 50)):=hx11.trans (.of D2 (by omega));have HRQ:Hid (au ((w9.alloc (.cells (eE s0 a1 a2 a3 a4 a5 c1 c2 c3 c4 c5) 79)).alloc (.cells #[.slice (some ⟨w9.heap.size,0,none⟩) 1 1,.slice none 0 0,.slice none 0 0,.int .i64 (-1)] 50)) R tb r13 0):=HR15.out.next D2
 have HST:Hid (sH w R (w9.heap.size+1) ((w9.alloc (.cells (eE s0 a1 a2 a3 a4 a5 c1 c2 c3 c4 c5) 79)).alloc (.cells #[.slice (some ⟨w9.heap.size,0,none⟩) 1 1,.slice none 0 0,.slice none 0 0,.int .i64 (-1)] 50)) (.slice (some ⟨w9.heap.size,0,none⟩) 1 1) (.slice none 0 0) [s0] []):=ST;clear HR15 hx11 Q14 HK17 hal2 halQ Q2 P1 P2 D2 ST;go_upto_region 2 with fail
 generalize ((w9.alloc (.cells (eE s0 a1 a2 a3 a4 a5 c1 c2 c3 c4 c5) 79)).alloc (.cells #[.slice (some ⟨w9.heap.size,0,none⟩) 1 1,.slice none 0 0,.slice none 0 0,.int .i64 (-1)] 50))=wA at *;generalize (Value.slice (some ⟨w9.heap.size,0,none⟩) 1 1)=vp at *;have hgq:w.heap.size<w9.heap.size+1:=by omega
 clear hlz hsz;generalize w9.heap.size+1=gq at *;have conb:=mM HRQ.out;generalize hbt:bp r13=bt at conb;go_wp2_with fail
 refine conb.mono ?_;rintro e w9 ⟨rfl,h9,hb9⟩;subst hbt;have HR9:Hid (au w9 R tb (bp r13).2 0):=h9;have hx9:=hxQ.trans hb9;have ST9:Hid (sH w R gq w9 vp (.slice none 0 0) [s0] []):=HST.out.bz hb9 hltR hgq;clear conb h9 hxQ HRQ HST hb9;go_wp2_with fail
 go_loopg [4] 5 (fun m kv wr=>∃ (t0:List Tk) (vp vo:Value) (ps:List fD) (ops:List Int),kv = .int .i64 (bp t0).1∧Hid (m+ps.length=6)∧Hid (1≤ps.length∧ps.length≤4)∧Hid (ops.length+1=ps.length)∧Hid ((bf (fa m ps ops t0) fun po r2=>AG po r2)=M)∧af R w wr∧Hid (au wr R tb (bp t0).2 0)∧Hid (sH w R gq wr vp vo ps ops))
 case atStart=>exact ⟨r13,vp,.slice none 0 0,[s0],[],rfl,by show _=_; simp,by show _∧_; simp,by show _=_; simp,HM16,hx9,HR9,ST9⟩
 case round =>
  clear HM16 hx9 HR9 ST9;obtain ⟨t0,vp,vo,ps,ops,rfl,hn,hps,hop,HL,hxr,HRr,HS⟩:=hrel;obtain ⟨m,rfl⟩:∃ m,gk=m+1:=⟨gk - 1,by have:=hn.out; have:=hps.out; omega⟩
  have hL:=HL.out;rw [fa] at hL;by_cases hb0:(bp t0).1=0
  ·rw [if_pos hb0,bg] at hL;have hRe:=HRr.out;rw [oC hb0] at hRe;have bb:((bp t0).1 != 0)=false:=by simpa using hb0
   obtain ⟨av,cv,rfl,hlp⟩:=HS.out.p.Cv cf (fun b h=>(⟨h.1,h.2.1⟩:SQ w.heap.size gq b)) (fun k e h=>⟨by omega,(HS.out.po k e).1⟩);obtain ⟨ao,co,rfl,hlo⟩:=HS.out.i.Cv fV (fun b h=>h) (fun k e h=>(⟨by omega,HS.out.io k e⟩:SQ w.heap.size gq k));have QZ:=HS.out.qz;have QQ:=HS.out.qq;have HKp:Hid (bo b7 21 (fun b=>w.heap.size<b∧b≠gq) wr ps [.slice av ps.length cv]):=⟨av,cv,rfl,hlp⟩
   have HKo:Hid (bo fJ 1 (fun b=>w.heap.size<b∧b≠gq) wr ops [.slice ao ops.length co]):=⟨ao,co,rfl,hlo⟩
   have HRE:Hid (au wr R tb t0 0):=hRe;rw [AG] at hL;have HME:Hid _:=hL;clear HL hL hRe HRr HS hlp hlo;generalize (bp t0).1=bk at *;clear hb0;rcases hi1518:bu ⟨#[111,114,100,101,114]⟩ t0 with _ | _
   ·have hsz:=hxr.size;have con3019:=aM HRE.out ⟨#[111,114,100,101,114]⟩;rw [hi1518,bC hi1518] at con3019;have hm:=HME.out;simp only [hi1518,De,if_false] at hm;have HM3024:Hid _:=hm;clear hm HME HRE;go_wp2_with fail
    refine con3019.mono ?_;rintro e w3020 ⟨rfl,hR,hb3021⟩;have HR3023:Hid (au w3020 R tb t0 0):=hR;have hx3022:=hxr.trans hb3021;have Q3025:=(hb3021.2 _ (lt_of_heap QZ) (by omega)).trans QZ;clear QZ;have Q3026:=(hb3021.2 _ (lt_of_heap QQ) (by omega)).trans QQ;clear QQ;have HK3027:Hid ((bo b7 21) (fun b=>w.heap.size<b∧b≠gq) w3020 ps [.slice av ps.length cv]):=(bd cf 21).next (hb3021.k1.k (by show ¬ _; omega)) HKp.out;clear HKp;have HK3028:Hid ((bo fJ 1) (fun b=>w.heap.size<b∧b≠gq) w3020 ops [.slice ao ops.length co]):=(bd fV 1).next (hb3021.k1.k (by show ¬ _; omega)) HKo.out
    clear HKo;clear con3019 hR hb3021 hxr hsz hi1518;have e:=HM3024.out;subst e;clear HM3024;go_wp2_with (first | (refine wpList_load_row rfl 50 _ rfl gq rfl 50 #[.slice av ps.length cv,.slice ao ops.length co,.slice none 0 0,.int .i64 (-1)] (0,0) _ Q3026 Tryz.underlying50 rfl AJ ?_) | (refine wpList_store_row rfl 50 _ _ rfl w.heap.size #[.slice av ps.length cv,.slice ao ops.length co,.slice none 0 0,.int .i64 (-1)] rfl rfl 50 zs Q3025 AJ rfl (fX rfl) ?_))
    obtain ⟨QE,hRE,hbE,hkE⟩:=fR (w:=w) Q3025 HR3023.out hx3022 (by omega) hltR hltT #[.slice av ps.length cv,.slice ao ops.length co,.slice none 0 0,.int .i64 (-1)];generalize w3020.setRow w.heap.size #[.slice av ps.length cv,.slice ao ops.length co,.slice none 0 0,.int .i64 (-1)]=wE at *;have L0:(bo b7 21) (fun b=>w.heap.size≤b) wE ps [.slice av ps.length cv]:=(bd cf 21).mono (fun b h _=>by have:w.heap.size<b∧b≠gq:=h; show _≤b; omega) ((bd cf 21).next (hkE.k (by show ¬ _; omega)) HK3027.out)
    have L1:(bo fJ 1) (fun b=>w.heap.size≤b) wE ops [.slice ao ops.length co]:=(bd fV 1).mono (fun b h _=>by have:w.heap.size<b∧b≠gq:=h; show _≤b; omega) ((bd fV 1).next (hkE.k (by show ¬ _; omega)) HK3028.out);exact C0 (v:=.agg #[.slice av ps.length cv,.slice ao ops.length co,.slice none 0 0,.int .i64 (-1)]) (results_cell_row Tryz.results133 _ _ _ _ _ _ _ rfl QE Tryz.underlying50 rfl AJ) rfl (Ends.bV (x:=(⟨ps,ops,[],-1⟩:j3)) rfl hbE (⟨av,cv,ao,co,none,0,rfl,L0.ls,L1.ls,.inl rfl⟩) hRE)
   ·have hsz:=hxr.size;have con4019:=aM HRE.out ⟨#[111,114,100,101,114]⟩;rw [hi1518,bP hi1518] at con4019;have hm:=HME.out;simp only [hi1518,if_true] at hm;have HM4024:Hid _:=hm;clear hm HME HRE;go_wp2_with fail
    refine con4019.mono ?_;rintro e w4020 ⟨rfl,hR,hb4021⟩;have HR4023:Hid (au w4020 R tb (az t0) 0):=hR;have hx4022:=hxr.trans hb4021;have Q4025:=(hb4021.2 _ (lt_of_heap QZ) (by omega)).trans QZ;clear QZ;have Q4026:=(hb4021.2 _ (lt_of_heap QQ) (by omega)).trans QQ;clear QQ;have HK4027:Hid ((bo b7 21) (fun b=>w.heap.size<b∧b≠gq) w4020 ps [.slice av ps.length cv]):=(bd cf 21).next (hb4021.k1.k (by show ¬ _; omega)) HKp.out;clear HKp
    have HK4028:Hid ((bo fJ 1) (fun b=>w.heap.size<b∧b≠gq) w4020 ops [.slice ao ops.length co]):=(bd fV 1).next (hb4021.k1.k (by show ¬ _; omega)) HKo.out;clear HKo;clear con4019 hR hb4021 hxr hsz hi1518;have hal4029:=ab w4020 (.cells #[.string ⟨#[98,121]⟩] 9);have hsz:=hx4022.size;have con4030:=cz (cap:=1) (HR4023.out.next hal4029) (cj.one w4020 ⟨#[98,121]⟩ 9) (by omega) (by simp);have hm:=HM4024.out;generalize aS [⟨#[98,121]⟩] (az t0)=L at hm con4030;have HM4036:Hid _:=hm;clear hm HM4024 HR4023
    go_wp2_with fail
    generalize w4020.alloc (.cells #[.string ⟨#[98,121]⟩] 9)=wa4032 at *;refine con4030.mono ?_;rintro e w4031 ⟨hb4033,hW⟩;have hxa4034:af R w4020 w4031:=(af.of hal4029 (by omega)).trans hb4033;have hx4035:=hx4022.trans hxa4034;have Q4038:=(hxa4034.2 _ (lt_of_heap Q4025) (by omega)).trans Q4025;clear Q4025;have Q4039:=(hxa4034.2 _ (lt_of_heap Q4026) (by omega)).trans Q4026;clear Q4026;have HK4040:Hid ((bo b7 21) (fun b=>w.heap.size<b∧b≠gq) w4031 ps [.slice av ps.length cv]):=(bd cf 21).next (hxa4034.k1.k (by show ¬ _; omega)) HK4027.out;clear HK4027
    have HK4041:Hid ((bo fJ 1) (fun b=>w.heap.size<b∧b≠gq) w4031 ops [.slice ao ops.length co]):=(bd fV 1).next (hxa4034.k1.k (by show ¬ _; omega)) HK4028.out;clear HK4028;clear con4030 hal4029 hb4033 hxa4034 hx4022 hsz;rcases L with ce | ⟨u4042,r4037⟩
    ·obtain ⟨rfl,us,hE⟩:=hW;have HE:Hid (au w4031 R tb us 0):=hE;clear hE;have e:M = .error ce:=HM4036.out.symm;subst e;clear HM4036;go_wp2_with fail
     exact ⟨rfl,Ends.err rfl hx4035 HE.out⟩
    obtain ⟨v,rfl,rfl,hR⟩:=hW;have HR4043:Hid (au w4031 R tb r4037 0):=hR;have hm:=HM4036.out;simp only [bg] at hm;have HM4044:Hid _:=hm;clear hm hR HM4036;have hsz:=hx4035.size;have con4045:=mP HR4043.out;have hm:=HM4044.out;generalize bS eP 8 9 r4037=L at hm con4045;have HM4049:Hid _:=hm;clear hm HM4044 HR4043;have hl_g0:=lt_of_heap Q4038;have hl_gq:=lt_of_heap Q4039;go_wp2_with fail
    refine con4045.mono ?_;rintro e w4046 ⟨hb4047,hW⟩;have hx4048:=hx4035.trans hb4047;have Q4051:=(hb4047.2 _ (lt_of_heap Q4038) (by omega)).trans Q4038;clear Q4038;have Q4052:=(hb4047.2 _ (lt_of_heap Q4039) (by omega)).trans Q4039;clear Q4039;have HK4053:Hid ((bo b7 21) (fun b=>w.heap.size<b∧b≠gq) w4046 ps [.slice av ps.length cv]):=(bd cf 21).next (hb4047.k1.k (by show ¬ _; omega)) HK4040.out;clear HK4040;have HK4054:Hid ((bo fJ 1) (fun b=>w.heap.size<b∧b≠gq) w4046 ops [.slice ao ops.length co]):=(bd fV 1).next (hb4047.k1.k (by show ¬ _; omega)) HK4041.out;clear HK4041
    clear con4045 hb4047 hx4035;rcases L with ce | ⟨l,r4050⟩
    ·obtain ⟨rfl,us,hE⟩:=hW;have HE:Hid (au w4046 R tb us 0):=hE;clear hE;have e:M = .error ce:=HM4049.out.symm;subst e;clear HM4049;go_wp2_with fail
     exact ⟨rfl,Ends.err rfl hx4048 HE.out⟩
    obtain ⟨v,rfl,⟨a5,c5,rfl,hls⟩,hR⟩:=hW;have HR4055:Hid (au w4046 R tb r4050 0):=hR;have hm:=HM4049.out;simp only [bg] at hm;have HM4056:Hid _:=hm;clear hm hR HM4049;have HK4057:Hid ((bo bO 7) (fun b=>w.heap.size<b∧b≠gq) w4046 l [.slice a5 l.length c5]):=(bd bX 7).mono (S:=fun b=>w4031.heap.size≤b) (fun b h _=>by have:_≤b:=h; show w.heap.size<b∧b≠gq; omega) (⟨a5,c5,rfl,hls⟩);clear hls;clear hsz hl_g0 hl_gq;have z4058:w4046.cell? ⟨gq,2,none⟩=some (.slice none 0 0):=cell_of (i:=2) Q4052 rfl;have z4058f:=C3 w4046 gq 2 _ _ Q4052;go_upto_region 11 with fail
    obtain ⟨Q4063,hk4060,hbx⟩:=yr Q4052 (.slice a5 l.length c5);have hx4061:=hbx hx4048 (by omega) (by omega);clear hbx z4058 z4058f;generalize (w4046.setCell ⟨gq,2,none⟩ (.slice a5 l.length c5))=w4059 at *;have Q4064:=(hk4060.2 _ (lt_of_heap Q4051) (by omega)).trans Q4051;clear Q4051;have HK4065:Hid ((bo b7 21) (fun b=>w.heap.size<b∧b≠gq) w4059 ps [.slice av ps.length cv]):=(bd cf 21).next (hk4060.k (by show ¬ _; omega)) HK4053.out;clear HK4053
    have HK4066:Hid ((bo fJ 1) (fun b=>w.heap.size<b∧b≠gq) w4059 ops [.slice ao ops.length co]):=(bd fV 1).next (hk4060.k (by show ¬ _; omega)) HK4054.out;clear HK4054;have HK4067:Hid ((bo bO 7) (fun b=>w.heap.size<b∧b≠gq) w4059 l [.slice a5 l.length c5]):=(bd bX 7).next (hk4060.k (by show ¬ _; omega)) HK4057.out;clear HK4057;clear Q4052;have HR4062:Hid (au w4059 R tb r4050 0):=HR4055.out.k1 hk4060 (by omega) (by omega) (by have:=HR4055.out.r2; omega);clear HR4055 hk4060 hx4048
    have hal4068:=ab w4059 (.cells #[.string ⟨#[108,105,109,105,116]⟩] 9);have hsz:=hx4061.size;have con4069:=cz (cap:=1) (HR4062.out.next hal4068) (cj.one w4059 ⟨#[108,105,109,105,116]⟩ 9) (by omega) (by simp);have hm:=HM4056.out;generalize aS [⟨#[108,105,109,105,116]⟩] r4050=L at hm con4069;have HM4075:Hid _:=hm;clear hm HM4056 HR4062;go_wp2_with fail
    generalize w4059.alloc (.cells #[.string ⟨#[108,105,109,105,116]⟩] 9)=wa4071 at *;refine con4069.mono ?_;rintro e w4070 ⟨hb4072,hW⟩;have hxa4073:af R w4059 w4070:=(af.of hal4068 (by omega)).trans hb4072;have hx4074:=hx4061.trans hxa4073;have Q4077:=(hxa4073.2 _ (lt_of_heap Q4064) (by omega)).trans Q4064;clear Q4064;have Q4078:=(hxa4073.2 _ (lt_of_heap Q4063) (by omega)).trans Q4063;clear Q4063;have HK4079:Hid ((bo b7 21) (fun b=>w.heap.size<b∧b≠gq) w4070 ps [.slice av ps.length cv]):=(bd cf 21).next (hxa4073.k1.k (by show ¬ _; omega)) HK4065.out;clear HK4065
    have HK4080:Hid ((bo fJ 1) (fun b=>w.heap.size<b∧b≠gq) w4070 ops [.slice ao ops.length co]):=(bd fV 1).next (hxa4073.k1.k (by show ¬ _; omega)) HK4066.out;clear HK4066;have HK4081:Hid ((bo bO 7) (fun b=>w.heap.size<b∧b≠gq) w4070 l [.slice a5 l.length c5]):=(bd bX 7).next (hxa4073.k1.k (by show ¬ _; omega)) HK4067.out;clear HK4067;clear con4069 hal4068 hb4072 hxa4073 hx4061 hsz;rcases L with ce | ⟨u4082,r4076⟩
    ·obtain ⟨rfl,us,hE⟩:=hW;have HE:Hid (au w4070 R tb us 0):=hE;clear hE;have e:M = .error ce:=HM4075.out.symm;subst e;clear HM4075;go_wp2_with fail
     exact ⟨rfl,Ends.err rfl hx4074 HE.out⟩
    obtain ⟨v,rfl,rfl,hR⟩:=hW;have HR4083:Hid (au w4070 R tb r4076 0):=hR;have hm:=HM4075.out;simp only [bg] at hm;have HM4084:Hid _:=hm;clear hm hR HM4075;have hsz:=hx4074.size;have con4085:=nE HR4083.out 0 50;have hm:=HM4084.out;generalize dp 0 50 r4076=L at hm con4085;have HM4089:Hid _:=hm;clear hm HM4084 HR4083;have hl_g0:=lt_of_heap Q4077;have hl_gq:=lt_of_heap Q4078;go_wp2_with fail
    refine con4085.mono ?_;rintro e w4086 ⟨hb4087,hW⟩;have hx4088:=hx4074.trans hb4087;have Q4091:=(hb4087.2 _ (lt_of_heap Q4077) (by omega)).trans Q4077;clear Q4077;have Q4092:=(hb4087.2 _ (lt_of_heap Q4078) (by omega)).trans Q4078;clear Q4078;have HK4093:Hid ((bo b7 21) (fun b=>w.heap.size<b∧b≠gq) w4086 ps [.slice av ps.length cv]):=(bd cf 21).next (hb4087.k1.k (by show ¬ _; omega)) HK4079.out;clear HK4079;have HK4094:Hid ((bo fJ 1) (fun b=>w.heap.size<b∧b≠gq) w4086 ops [.slice ao ops.length co]):=(bd fV 1).next (hb4087.k1.k (by show ¬ _; omega)) HK4080.out;clear HK4080
    have HK4095:Hid ((bo bO 7) (fun b=>w.heap.size<b∧b≠gq) w4086 l [.slice a5 l.length c5]):=(bd bX 7).next (hb4087.k1.k (by show ¬ _; omega)) HK4081.out;clear HK4081;clear con4085 hb4087 hx4074;rcases L with ce | ⟨n,r4090⟩
    ·obtain ⟨rfl,us,hE⟩:=hW;have HE:Hid (au w4086 R tb us 0):=hE;clear hE;have e:M = .error ce:=HM4089.out.symm;subst e;clear HM4089;go_wp2_with fail
     exact ⟨rfl,Ends.err rfl hx4088 HE.out⟩
    obtain ⟨v,rfl,rfl,hR⟩:=hW;have HR4096:Hid (au w4086 R tb r4090 0):=hR;have hm:=HM4089.out;simp only [bg] at hm;have HM4097:Hid _:=hm;clear hm hR HM4089;clear hsz hl_g0 hl_gq;have z4098:w4086.cell? ⟨gq,3,none⟩=some (.int .i64 (-1)):=cell_of (i:=3) Q4092 rfl;have z4098f:=C3 w4086 gq 3 _ _ Q4092;go_upto_region 13 with fail
    obtain ⟨Q4103,hk4100,hbx⟩:=yd Q4092 (.int .i64 n);have hx4101:=hbx hx4088 (by omega) (by omega);clear hbx z4098 z4098f;generalize (w4086.setCell ⟨gq,3,none⟩ (.int .i64 n))=w4099 at *;have Q4104:=(hk4100.2 _ (lt_of_heap Q4091) (by omega)).trans Q4091;clear Q4091;have HK4105:Hid ((bo b7 21) (fun b=>w.heap.size<b∧b≠gq) w4099 ps [.slice av ps.length cv]):=(bd cf 21).next (hk4100.k (by show ¬ _; omega)) HK4093.out;clear HK4093;have HK4106:Hid ((bo fJ 1) (fun b=>w.heap.size<b∧b≠gq) w4099 ops [.slice ao ops.length co]):=(bd fV 1).next (hk4100.k (by show ¬ _; omega)) HK4094.out
    clear HK4094;have HK4107:Hid ((bo bO 7) (fun b=>w.heap.size<b∧b≠gq) w4099 l [.slice a5 l.length c5]):=(bd bX 7).next (hk4100.k (by show ¬ _; omega)) HK4095.out;clear HK4095;clear Q4092;have HR4102:Hid (au w4099 R tb r4090 0):=HR4096.out.k1 hk4100 (by omega) (by omega) (by have:=HR4096.out.r2; omega);clear HR4096 hk4100 hx4088;have e:=HM4097.out;subst e;clear HM4097
    go_wp2_with (first | (refine wpList_load_row rfl 50 _ rfl gq rfl 50 #[.slice av ps.length cv,.slice ao ops.length co,.slice a5 l.length c5,.int .i64 n] (0,0) _ Q4103 Tryz.underlying50 rfl AJ ?_) | (refine wpList_store_row rfl 50 _ _ rfl w.heap.size #[.slice av ps.length cv,.slice ao ops.length co,.slice a5 l.length c5,.int .i64 n] rfl rfl 50 zs Q4104 AJ rfl (fX rfl) ?_))
    obtain ⟨QE,hRE,hbE,hkE⟩:=fR (w:=w) Q4104 HR4102.out hx4101 (by omega) hltR hltT #[.slice av ps.length cv,.slice ao ops.length co,.slice a5 l.length c5,.int .i64 n];generalize w4099.setRow w.heap.size #[.slice av ps.length cv,.slice ao ops.length co,.slice a5 l.length c5,.int .i64 n]=wE at *;have L0:(bo b7 21) (fun b=>w.heap.size≤b) wE ps [.slice av ps.length cv]:=(bd cf 21).mono (fun b h _=>by have:w.heap.size<b∧b≠gq:=h; show _≤b; omega) ((bd cf 21).next (hkE.k (by show ¬ _; omega)) HK4105.out)
    have L1:(bo fJ 1) (fun b=>w.heap.size≤b) wE ops [.slice ao ops.length co]:=(bd fV 1).mono (fun b h _=>by have:w.heap.size<b∧b≠gq:=h; show _≤b; omega) ((bd fV 1).next (hkE.k (by show ¬ _; omega)) HK4106.out);have L2:(bo bO 7) (fun b=>w.heap.size≤b) wE l [.slice a5 l.length c5]:=(bd bX 7).mono (fun b h _=>by have:w.heap.size<b∧b≠gq:=h; show _≤b; omega) ((bd bX 7).next (hkE.k (by show ¬ _; omega)) HK4107.out)
    exact C0 (v:=.agg #[.slice av ps.length cv,.slice ao ops.length co,.slice a5 l.length c5,.int .i64 n]) (results_cell_row Tryz.results133 _ _ _ _ _ _ _ rfl QE Tryz.underlying50 rfl AJ) rfl (Ends.bV (x:=(⟨ps,ops,l,n⟩:j3)) rfl hbE (⟨av,cv,ao,co,a5,c5,rfl,L0.ls,L1.ls,L2.ls⟩) hRE)
  rw [if_neg hb0] at hL;have bb:((bp t0).1 != 0)=true:=by simpa using hb0
  obtain ⟨ap,cp,ep⟩:=HS.out.p.len;have u0:wr.cell? ⟨gq,0,none⟩=some vp:=cell_of (i:=0) HS.out.qq rfl;generalize bp t0=bt at *;obtain ⟨bk,bs⟩:=bt;by_cases hbig:(ps.length:Int) ≥ 4
  ·have con1:=fH HRr.out hbig;rw [if_pos hbig] at hL;have e:M = .error (5,gY bs):=hL.symm;subst e ep;clear HL hL HS hbig hb0;go_wp2_with fail
   refine con1.mono ?_;rintro e w5 ⟨rfl,hb5⟩;go_wp2_with fail
   exact ⟨rfl,Ends.err rfl (hxr.trans (.of hb5 (by have:=hxr.size; omega))) (HRr.out.next hb5)⟩
  have con1:=hX (w:=wr) (R:=R) (n:=(ps.length:Int)) (most:=4) (by omega);rw [if_neg hbig,nN] at hL;have HM1:Hid _:=hL;have HB:Hid (¬ (ps.length:Int) ≥ 4):=hbig;subst ep;clear HL hL hbig hb0;go_wp2_with fail
  refine con1.mono ?_;rintro e w5 ⟨rfl,hb5⟩;have hsr:=hxr.size;have hx5:af R w w5:=hxr.trans (.of hb5 (by omega));have HS5:=HS.out.bz (af.of (t:=R) hb5 (by omega)) hltR hgq;have HR5:=HRr.out.next hb5;clear con1 HRr u0;have hal6:=ab w5 (.cells #[.int .i64 bk] 3);have q6:=ar w5 #[.int .i64 bk] 3;have HS6:=HS5.bz (af.of (t:=R) hal6 (by have:=hx5.size; omega)) hltR hgq;have hnb:=HS5.i.lt;obtain ⟨ys,o6,en6⟩:=HS6.i;have u1:w5.cell? ⟨gq,1,none⟩=some vo:=cell_of (i:=1) HS5.qq rfl;have hg5:=lt_of_heap HS5.qq
  have hw5:=lt_of_heap HS5.qz;have HS6H:Hid (sH w R gq (w5.alloc (.cells #[.int .i64 bk] 3)) (.slice ap ps.length cp) vo ps ops):=HS6;have HR5H:Hid (au w5 R tb bs 0):=HR5;obtain ⟨aq,cq,eq⟩:=HS5.i.len;subst eq;clear HS HS5 HS6 HR5;go_wp2_with (first | (at_builtin; refine aX rfl _ _ 47 rfl (w.heap.size+1) 3 k0 _ 1 8 Tryz.underlying47 hk hk0 hk1 hk2 rfl (by decide) _ _ _ rfl o6 ⟨w5.heap.size,0,none⟩ 1 1 [.int .i64 bk] rfl rfl ?Ac1 ?Ac2 ?Ac3 ?Ac4 ?Ac5 ?_))
  case Ac1 =>
   intro i u hu;rw [bF,Dr];exact cell_of (i:=i) q6 (by rw [← hu]; simp)
  case Ac2=>intro u hu; simp at hu; subst hu; rfl
  case Ac3=>unfold maxLen; have:=hop.out; have:=hps.out; omega
  case Ac4=>have:=hop.out; have:=hps.out; omega
  case Ac5=>have:=hal6.size; omega
  intro v' w7 o7 g7 hd7;have z7:=g7.size;have hz6:=hal6.size;have hsz6:(w5.alloc (.cells #[.int .i64 bk] 3)).heap.size=w5.heap.size+1:=by simp
  have O7:aQ fJ 3 1 (w.heap.size+1) (SQ w.heap.size gq) w7 v' (ops ++ [bk]):=aQ.push fV o6 en6 (cs:=[.int .i64 bk]) rfl rfl o7 g7 (by simpa using hd7);have hio:∀ k,v'.ownBlock=some k→k≠gq:=fun k e=>by
   rcases hd7 with h | h
   ·exact HS6H.out.io k (h ▸ e)
   ·rw [h] at e; have e:=Du e; have:(w5.alloc (.cells #[.int .i64 bk] 3)).heap.size=w5.heap.size+1:=by simp
    omega
  have P7:aQ b7 79 21 (w.heap.size+1) (SP w.heap.size gq v') w7 (.slice ap ps.length cp) ps:=by
   refine (HS6H.out.p.vl cf (S':=fun b=>SP w.heap.size gq (.slice aq ops.length cq) b∧b<(w5.alloc (.cells #[.int .i64 bk] 3)).heap.size) (fun b h1 h2 _=>⟨h1,h2⟩)).mH cf ⟨g7.size,fun b hb hl=>g7.block b hl (fun e=>?_)⟩ |>.vl cf (fun b h1 _ _=>⟨h1.1.1,h1.1.2.1,fun e=>?_⟩)
   ·rcases hb with hb | hb
    ·exact hb.1.2.2 e.symm
    ·exact (HS6H.out.po b hb).2 e.symm
   ·rcases hd7 with h | h
    ·exact h1.1.2.2 (h ▸ e)
    ·rw [h] at e; have e:=Du e; have:=h1.2; omega
  have hpo:∀ k,(Value.slice ap ps.length cp).ownBlock=some k→k≠gq∧v'.ownBlock≠some k:=fun k e=>⟨(HS6H.out.po k e).1,fun e'=>by
   rcases hd7 with h | h
   ·exact (HS6H.out.po k e).2 (h ▸ e')
   ·rw [h] at e'; have e':=Du e'; have:=(HS6H.out.p.lt k e).2; omega⟩
  have QQ7:w7.heap[gq]? = some (.cells #[.slice ap ps.length cp,.slice aq ops.length cq,.slice none 0 0,.int .i64 (-1)] 50 (0,0)):=(g7.block _ (by omega) (fun e=>HS6H.out.io _ e.symm rfl)).trans HS6H.out.qq;have QZ7:w7.heap[w.heap.size]? = some (.cells zs 50 (0,0)):=(g7.block _ (by omega) (fun e=>by have:=(hnb _ e.symm).1; omega)).trans HS6H.out.qz;have D7:Below w.heap.size w5 w7:=(hal6.mono (by omega)).trans ((CY _ _).grown g7 (by omega) (fun q hq=>by have:=(hnb q hq).1; omega));have hx7:af R w w7:=hx5.low D7 (CX _) (by omega);have HR7:=HR5H.out.low D7 hltR hltT
  obtain ⟨av2,cv2,e2⟩:=O7.len;generalize (ops ++ [bk]).length=n2 at e2;subst e2;have u1:w7.cell? ⟨gq,1,none⟩=some (.slice aq ops.length cq):=cell_of (i:=1) QQ7 rfl;have u1f:=C3 w7 gq 1 _ _ QQ7;obtain ⟨QQ8,hk8,hbx8⟩:=yc QQ7 (.slice av2 n2 cv2);have hx8:=hbx8 hx7 (by omega) (by omega)
  have ST8:sH w R gq (w7.setCell ⟨gq,1,none⟩ (.slice av2 n2 cv2)) (.slice ap ps.length cp) (.slice av2 n2 cv2) ps (ops ++ [bk]):=⟨(hk8.2 _ (lt_of_heap QZ7) (by omega)).trans QZ7,QQ8,P7.mH cf (hk8.k (fun h=>h.elim (fun h=>h.2.1 rfl) (fun h=>(hpo _ h).1 rfl))),hpo,O7.mH fV (hk8.k (fun h=>h.elim (fun h=>h.2 rfl) (fun h=>hio _ h rfl))),hio⟩
  have HR8:Hid (au (w7.setCell ⟨gq,1,none⟩ (.slice av2 n2 cv2)) R tb bs 0):=HR7.k1 hk8 (by omega) (by omega) (by have:=HR7.r2; omega);have HS8:Hid (sH w R gq (w7.setCell ⟨gq,1,none⟩ (.slice av2 n2 cv2)) (.slice ap ps.length cp) (.slice av2 n2 cv2) ps (ops ++ [bk])):=ST8;clear o6 en6 o7 g7 hd7 O7 P7 QQ8 hbx8 HS6H HR5H q6 hal6 HR7 ST8 hio hpo D7 hx7 hx5 hb5 hnb;go_upto_region 7 with fail
  generalize w7.setCell ⟨gq,1,none⟩ (.slice av2 n2 cv2)=w8 at *;generalize Value.slice av2 n2 cv2=v' at *;clear u1 u1f hk8 QQ7 QZ7;have hCC:∀ W W':World,W.heap[gq]? = some (.cells #[.slice ap ps.length cp,v',.slice none 0 0,.int .i64 (-1)] 50 (0,0))→Below W.heap.size W W'→W'.heap[gq]? = some (.cells #[.slice ap ps.length cp,v',.slice none 0 0,.int .i64 (-1)] 50 (0,0)):=fun W W' h hb=>(hb.block _ (lt_of_heap h)).trans h
  have hdr:Below w8.heap.size w8 w8.drew:=(CY _ _).drew;have CW:=hCC _ _ HS8.out.qq hdr;refine ey (fun W=>W.heap[gq]? = some (.cells #[.slice ap ps.length cp,v',.slice none 0 0,.int .i64 (-1)] 50 (0,0))) 7 (by kernel_rfl) ?_;refine aV hCC (some 26) (i:=0) (v:=.pointer (some ⟨gq,0,none⟩)) rfl rfl (by kernel_rfl) (by kernel_rfl) (by kernel_rfl) (by kernel_rfl) (by kernel_rfl) rfl (fun _ _ _ h=>h) (Or.inl ⟨rfl,fun n hn=>?_⟩) (fun _=>CW) ?_
  ·go_simp
  simp only [Act.put,pA,pB,pC];refine aV hCC (some 27) (i:=1) (v:=.slice ap ps.length cp) rfl rfl (by kernel_rfl) (by kernel_rfl) (by kernel_rfl) (by kernel_rfl) (by kernel_rfl) rfl (fun _ _ _ h=>h) (Or.inl ⟨rfl,fun n hn=>?_⟩) (fun _=>CW) ?_
  ·have u:=cell_of (i:=0) hn rfl; go_simp
  simp only [Act.put,pA,pB,pC];refine aV hCC (some 28) (i:=2) (v:=.pointer (some ⟨R,0,none⟩)) rfl rfl (by kernel_rfl) (by kernel_rfl) (by kernel_rfl) (by kernel_rfl) (by kernel_rfl) rfl (fun _ _ _ h=>h) (Or.inl ⟨rfl,fun n hn=>?_⟩) (fun _=>CW) ?_
  ·go_simp
  simp only [Act.put,pA,pB,pC];refine bM (rs:=[3]) (by kernel_rfl) (by simp) ?_;intro w9 hb9 jj hj;obtain rfl:jj=3:=by simpa using hj
  clear hj;have D9:=chain hdr hb9;have CW9:=hCC _ _ CW hb9;have con:=lr (HR8.out.next D9);have hlg8:=lt_of_heap HS8.out.qq;have hiv:∀ b,v'.ownBlock=some b→b<w8.heap.size:=fun b e=>(HS8.out.i.lt b e).2
  have hnb9:∀ b,(Value.slice ap ps.length cp).ownBlock=some b→b<w8.heap.size:=fun b e=>(HS8.out.p.lt b e).2
  have hm:=HM1.out;generalize ef bs=L at hm con;have HM2:Hid _:=hm;clear hm HM1;refine wpOp_step rfl (fun K hK=>?_);go_simp;refine con.mono ?_;rintro e w10 ⟨hb10,hW⟩;clear con;have C10:=(hb10.2 _ (lt_of_heap CW9) (by omega)).trans CW9;have hs8:=hx8.size;have hs9:=D9.size;have hs10:=hb10.size;have hx10:af R w w10:=(hx8.trans (.of D9 (by omega))).trans hb10;rcases L with ce | ⟨x,r2⟩
  ·obtain ⟨rfl,us,hE⟩:=hW;have e:M = .error ce:=HM2.out.symm;subst e;exact ⟨rfl,Ends.err rfl hx10 hE⟩
  obtain ⟨v,rfl,⟨a1,c1,a2,c2,a3,c3,a4,c4,a5,c5,rfl,k1,k2,k3,k4,k5⟩,hRW⟩:=hW;have HS10:Hid (sH w R gq w10 (.slice ap ps.length cp) v' ps (ops ++ [bk])):=(HS8.out.bz (af.of (t:=R) D9 (by omega)) hltR hgq).bz hb10 hltR hgq
  have HX10:Hid (b7 (fun b=>w9.heap.size≤b) w10 x [.bool x.distinct,.bool x.star,.slice a1 x.items.length c1,.slice a2 x.sources.length c2,.bool x.aB,.bool x.aG,.int .i64 x.ah.k,.int .i64 x.ah.v.1,.int .i64 x.ah.v.2.1,.string x.ah.v.2.2,.string x.ah.aH,.string x.ah.name,.slice a3 x.ah.ks.length c3,.int .i64 x.aj.k,.int .i64 x.aj.v.1,.int .i64 x.aj.v.2.1,.string x.aj.v.2.2,.string x.aj.aH,.string x.aj.name,.slice a4 x.aj.ks.length c4,.slice a5 x.group.length c5]):=⟨a1,c1,a2,c2,a3,c3,a4,c4,a5,c5,rfl,k1,k2,k3,k4,k5⟩
  have HR10:Hid (au w10 R tb r2 0):=hRW;have hm:=HM2.out;simp only [bg] at hm;have HM3:Hid _:=hm;refine hK _ _ ⟨fun _=>C10,?_⟩;clear hK K CW CW9 HM2 hm hRW k1 k2 k3 k4 k5 HS8 HR8;refine bM (rs:=[4]) (by kernel_rfl) (by simp) ?_;intro w11 hb11 jj hj;obtain rfl:jj=4:=by simpa using hj
  clear hj;have C11:=hCC _ _ C10 hb11;have hal12:=ab w11 (.cells (eE x a1 a2 a3 a4 a5 c1 c2 c3 c4 c5) 79);have q12:=ar w11 (eE x a1 a2 a3 a4 a5 c1 c2 c3 c4 c5) 79;have C12:=hCC _ _ C11 hal12;refine wpOp_step rfl (fun K hK=>?_);go_simp;refine hK _ _ ⟨fun _=>C12,?_⟩;clear hK K;have hs11:=hb11.size;have D12:=chain hb11 hal12;generalize hw12:w11.alloc (.cells (eE x a1 a2 a3 a4 a5 c1 c2 c3 c4 c5) 79)=w12 at *;refine bM (rs:=[5]) (by kernel_rfl) (by simp) ?_;intro w13 hb13 jj hj;obtain rfl:jj=5:=by simpa using hj
  clear hj;have C13:=hCC _ _ C12 hb13;have D13:Below w10.heap.size w10 w13:=chain D12 hb13;have q13:=(hb13.block _ (lt_of_heap q12)).trans q12;have HS13:=HS10.out.bz (af.of (t:=R) D13 (by omega)) hltR hgq
  have HX13:b7 (fun b=>w9.heap.size≤b) w13 x [.bool x.distinct,.bool x.star,.slice a1 x.items.length c1,.slice a2 x.sources.length c2,.bool x.aB,.bool x.aG,.int .i64 x.ah.k,.int .i64 x.ah.v.1,.int .i64 x.ah.v.2.1,.string x.ah.v.2.2,.string x.ah.aH,.string x.ah.name,.slice a3 x.ah.ks.length c3,.int .i64 x.aj.k,.int .i64 x.aj.v.1,.int .i64 x.aj.v.2.1,.string x.aj.v.2.2,.string x.aj.aH,.string x.aj.name,.slice a4 x.aj.ks.length c4,.slice a5 x.group.length c5]:=cf.next (ay.of D13) HX10.out;have hnb:=HS10.out.p.lt;have hs13:=D13.size
  obtain ⟨xs,o13,en13⟩:=HS13.p;have hlq:=lt_of_heap HS13.qq;have hlz:=lt_of_heap HS13.qz;have hq13:=lt_of_heap q13;refine wpOp_step rfl (fun K hK=>?_)
  refine kl _ _ 46 rfl (w.heap.size+1) 79 i0 _ 21 280 Tryz.underlying46 hi hj0 hj1 hj2 rfl (by decide) (.slice ap ps.length cp) ps.length _ rfl o13 ⟨w11.heap.size,0,none⟩ 1 1 [.bool x.distinct,.bool x.star,.slice a1 x.items.length c1,.slice a2 x.sources.length c2,.bool x.aB,.bool x.aG,.int .i64 x.ah.k,.int .i64 x.ah.v.1,.int .i64 x.ah.v.2.1,.string x.ah.v.2.2,.string x.ah.aH,.string x.ah.name,.slice a3 x.ah.ks.length c3,.int .i64 x.aj.k,.int .i64 x.aj.v.1,.int .i64 x.aj.v.2.1,.string x.aj.v.2.2,.string x.aj.aH,.string x.aj.name,.slice a4 x.aj.ks.length c4,.slice a5 x.group.length c5] rfl rfl ?Bc1 ?Bc2 ?Bc3 ?Bc4 ?Bc5 ?_
  case Bc1 =>
   intro i u hu;rw [bF,Dr];exact cell_of (i:=i) q13 (by rw [← hu]; simp)
  case Bc2=>exact fun u hu=>List.all_eq_true.1 (rfl:List.all [.bool x.distinct,.bool x.star,.slice a1 x.items.length c1,.slice a2 x.sources.length c2,.bool x.aB,.bool x.aG,.int .i64 x.ah.k,.int .i64 x.ah.v.1,.int .i64 x.ah.v.2.1,.string x.ah.v.2.2,.string x.ah.aH,.string x.ah.name,.slice a3 x.ah.ks.length c3,.int .i64 x.aj.k,.int .i64 x.aj.v.1,.int .i64 x.aj.v.2.1,.string x.aj.v.2.2,.string x.aj.aH,.string x.aj.name,.slice a4 x.aj.ks.length c4,.slice a5 x.group.length c5] (·.oneCell')=true) u hu
  case Bc3=>unfold maxLen; have:=hps.out; omega
  case Bc4=>have:=hps.out; omega
  case Bc5=>omega
  intro vq w14 o14 g14 hd14;have z14:=g14.size;have P14:aQ b7 79 21 (w.heap.size+1) (SP w.heap.size gq v') w14 vq (ps ++ [x]):=aQ.push cf o13 en13 rfl (cf.mono (fun b h1 h2=>⟨⟨by have:w9.heap.size≤b:=h1; omega,by have:w9.heap.size≤b:=h1; omega,fun e=>by have:=hiv b e; have:w9.heap.size≤b:=h1; omega⟩,h2,fun e=>by have:=hnb9 b e; have:w9.heap.size≤b:=h1; omega⟩) HX13) o14 g14 (by simpa using hd14);have hpo:∀ k,vq.ownBlock=some k→k≠gq∧v'.ownBlock≠some k:=fun k e=>by
   rcases hd14 with h | h
   ·exact HS13.po k (h ▸ e)
   ·rw [h] at e; have e:=Du e; exact ⟨by omega,fun e2=>by have:=(HS13.i.lt k e2).2; omega⟩
  have QQ14:w14.heap[gq]? = some (.cells #[.slice ap ps.length cp,v',.slice none 0 0,.int .i64 (-1)] 50 (0,0)):=(g14.block _ hlq (fun e=>(HS13.po _ e.symm).1 rfl)).trans HS13.qq;have QZ14:w14.heap[w.heap.size]? = some (.cells zs 50 (0,0)):=(g14.block _ hlz (fun e=>by have:=(HS13.p.lt _ e.symm).1; omega)).trans HS13.qz;have I14:aQ fJ 3 1 (w.heap.size+1) (SQ w.heap.size gq) w14 v' (ops ++ [bk]):=by
   obtain ⟨ys,h1,h2⟩:=HS13.i;refine ⟨ys,h1.kept g14 ?_,h2⟩;rcases hv:v'.ownBlock with _ | k
   ·exact .inl rfl
   ·exact .inr (fun e=>(HS13.po k e.symm).2 hv)
  have D14:Below w.heap.size w13 w14:=(CY _ _).grown g14 (by omega) (fun q hq=>by have:=(HS13.p.lt q hq).1; omega);have hx14:af R w w14:=(hx10.trans (.of D13 (by omega))).low D14 (CX _) (by omega);have R14:=(HR10.out.next D13).low D14 hltR hltT;refine hK _ _ ⟨fun _=>QQ14,?_⟩;clear hK K o13 en13 o14 g14 hd14;have ST14:sH w R gq w14 (.slice ap ps.length cp) v' ps (ops ++ [bk])∨True:=.inr trivial;refine bM (rs:=[6]) (by kernel_rfl) (by simp) ?_;intro w15 hb15 jj hj;obtain rfl:jj=6:=by simpa using hj
  clear hj;have C15:=hCC _ _ QQ14 hb15;refine wpOp_step rfl (fun K hK=>?_);go_simp;refine hK _ _ ⟨fun _=>C15,?_⟩;clear hK K;refine bM (rs:=[7]) (by kernel_rfl) (by simp) ?_;intro w16 hb16 jj hj;obtain rfl:jj=7:=by simpa using hj
  clear hj;have C16:=hCC _ _ C15 hb16;have D16:Below w14.heap.size w14 w16:=chain hb15 hb16;have u0:=cell_of (i:=0) C16 rfl;have u0f:=C3 w16 gq 0 _ _ C16;obtain ⟨QQ17,hk17,hbx17⟩:=yO C16 vq;have hs16:=D16.size;have hx16:af R w w16:=hx14.trans (.of D16 (by have:=hx14.size; omega));have hx17:=hbx17 hx16 (by omega) (by omega);have R16:=R14.next D16;have R17:Hid (au (w16.setCell ⟨gq,0,none⟩ vq) R tb r2 0):=R16.k1 hk17 (by omega) (by omega) (by have:=R16.r2; omega)
  have ST17:sH w R gq (w16.setCell ⟨gq,0,none⟩ vq) vq v' (ps ++ [x]) (ops ++ [bk]):=⟨(hk17.2 _ (by omega) (by omega)).trans ((D16.block _ (by omega)).trans QZ14),QQ17,(P14.next cf D16).mH cf (hk17.k (fun h=>h.elim (fun h=>h.2.1 rfl) (fun h=>(hpo _ h).1 rfl))),hpo,(I14.next fV D16).mH fV (hk17.k (fun h=>h.elim (fun h=>h.2 rfl) (fun h=>HS13.io _ h rfl))),HS13.io⟩
  obtain ⟨aw,cw,ew⟩:=P14.len;generalize (ps ++ [x]).length=n3 at ew;have hone:vq.oneCell'=true:=by rw [ew]; rfl
  refine wpOp_step rfl (fun K hK=>?_);subst ew;go_simp;generalize w16.setCell ⟨gq,0,none⟩ _=w17 at *;refine hK _ _ ⟨fun h=>by simp at h,?_⟩;clear hK K;refine gx (by kernel_rfl) ?_;intro w18 hb18;have hs17:=hx17.size;have hx18:af R w w18:=hx17.trans (.of hb18 (by omega));have R18:=R17.out.next hb18;have ST18:=ST17.bz (af.of (t:=R) hb18 (by omega)) hltR hgq;have con19:=mM R18;generalize hbt:bp r2=bt at con19;have HS18:Hid _:=ST18;clear ST17 ST18 R17 R18 QQ17 QZ14 QQ14 P14 I14 hpo C16 C15 C13 C12 C11 C10 HS13 HX13 HS10 HX10 HR10 R14 R16 hk17 hbx17 u0 u0f
  go_wp2_with fail
  refine con19.mono ?_;rintro e w19 ⟨rfl,h19,hb19⟩;subst hbt;have H19:Hid (au w19 R tb (bp r2).2 0):=h19;have hx19:=hx18.trans hb19;have ST19:Hid (sH w R gq w19 _ v' (ps ++ [x]) (ops ++ [bk])):=HS18.out.bz hb19 hltR hgq;clear con19 h19;go_wp2_with fail
  go_roundg m
  case measure=>omega
  case rel=>exact ⟨r2,_,v',ps ++ [x],ops ++ [bk],rfl,by show _=_; have:=hn.out; simp; omega,by show _∧_; have:=hps.out; have:=HB.out; simp; omega,by show _=_; have:=hop.out; simp; omega,HM3,hx19,H19,ST19⟩
theorem oL.of {B:Nat} {W:World} {x:cW} {cs:List Value} (h:bG (fun b=>B≤b) W x cs):oL B W (.agg cs.toArray) x:=by
 obtain ⟨a1,c1,p1,d1,p2,d2,p3,d3,a2,c2,a3,c3,rfl,h⟩:=h;exact ⟨a1,c1,p1,d1,p2,d2,p3,d3,a2,c2,a3,c3,rfl,h⟩
theorem rO {w:World} {R tb:Nat} {ts:List Tk} (h:au w R tb ts 0):Calls Tryz.prog 130 #[.pointer (some ⟨R,0,none⟩)] w (Ends R tb 0 w (oL w.heap.size) (gV ts)):=by
 have hmf:∀ (fn:Fn) (first cap:Array Value) (w:World),(Instr.makeFunc fn first cap).run Tryz.prog w = .ok (.func fn first cap) w:=fun _ _ _ _=>rfl
 have hltR:=h.lt;have hltT:=h.j5;have hx0:af R w w:=af.refl _ _;have HR0:Hid (au w R tb ts 0):=h;generalize hM:gV ts=M;unfold gV at hM;try dsimp only at hM
 have HM0:Hid _:=hM;clear h hM;go_enter Tryz.func130,Tryz.ntmps130;go_upto_region 1 with fail
 have hal1:=ab w (.cells bL 57);have Q2:=ar w bL 57;have hsg6:=hx0.size;generalize w.alloc (.cells bL 57)=w3 at *;have hx4:af R w w3:=hx0.trans (.of hal1 (by omega));have HR5:Hid (au w3 R tb ts 0):=HR0.out.next hal1;clear HR0 hx0 hal1;rcases hi8:bu ⟨#[118,105,101,119]⟩ ts with _ | _
 ·have hsz:=hx4.size;have con1509:=aM HR5.out ⟨#[118,105,101,119]⟩;rw [hi8,bC hi8] at con1509;have hm:=HM0.out;simp only [hi8,De,if_false] at hm;have HM1514:Hid _:=hm;clear hm HM0 HR5;go_wp2_with fail
  refine con1509.mono ?_;rintro e w1510 ⟨rfl,hR,hb1511⟩;have HR1513:Hid (au w1510 R tb ts 0):=hR;have hx1512:=hx4.trans hb1511;have Q1515:=(hb1511.2 _ (lt_of_heap Q2) (by omega)).trans Q2;clear Q2;clear con1509 hR hb1511 hx4 hsz hi8;have hal1516:=ab w1510 (.cells #[.string ⟨#[116,97,98,108,101]⟩] 9);have hsz:=hx1512.size;have con1517:=cz (cap:=1) (HR1513.out.next hal1516) (cj.one w1510 ⟨#[116,97,98,108,101]⟩ 9) (by omega) (by simp);have hm:=HM1514.out
  generalize aS [⟨#[116,97,98,108,101]⟩] ts=L at hm con1517;have HM1523:Hid _:=hm;clear hm HM1514 HR1513;go_wp2_with fail
  generalize w1510.alloc (.cells #[.string ⟨#[116,97,98,108,101]⟩] 9)=wa1519 at *;refine con1517.mono ?_;rintro e w1518 ⟨hb1520,hW⟩;have hxa1521:af R w1510 w1518:=(af.of hal1516 (by omega)).trans hb1520;have hx1522:=hx1512.trans hxa1521;have Q1525:=(hxa1521.2 _ (lt_of_heap Q1515) (by omega)).trans Q1515;clear Q1515;clear con1517 hal1516 hb1520 hxa1521 hx1512 hsz;rcases L with ce | ⟨u1526,r1524⟩
  ·obtain ⟨rfl,us,hE⟩:=hW;have HE:Hid (au w1518 R tb us 0):=hE;clear hE;have e:M = .error ce:=HM1523.out.symm;subst e;clear HM1523;go_wp2_with fail
   exact ⟨rfl,Ends.err rfl hx1522 HE.out⟩
  obtain ⟨v,rfl,rfl,hR⟩:=hW;have HR1527:Hid (au w1518 R tb r1524 0):=hR;have hm:=HM1523.out;try simp only [bg] at hm
  have HM1528:Hid _:=hm;clear hm hR HM1523;have hsz:=hx1522.size;have con1529:=gG HR1527.out;have hm:=HM1528.out;generalize cV r1524=L at hm con1529;have HM1533:Hid _:=hm;clear hm HM1528 HR1527;have hl_g6:=lt_of_heap Q1525;go_wp2_with fail
  refine con1529.mono ?_;rintro e w1530 ⟨hb1531,hW⟩;have hx1532:=hx1522.trans hb1531;have Q1535:=(hb1531.2 _ (lt_of_heap Q1525) (by omega)).trans Q1525;clear Q1525;clear con1529 hb1531 hx1522;rcases L with ce | ⟨nm,r1534⟩
  ·obtain ⟨rfl,us,hE⟩:=hW;have HE:Hid (au w1530 R tb us 0):=hE;clear hE;have e:M = .error ce:=HM1533.out.symm;subst e;clear HM1533;go_wp2_with fail
   exact ⟨rfl,Ends.err rfl hx1532 HE.out⟩
  obtain ⟨v,rfl,rfl,hR⟩:=hW;have HR1536:Hid (au w1530 R tb r1534 0):=hR;have hm:=HM1533.out;try simp only [bg] at hm
  have HM1537:Hid _:=hm;clear hm hR HM1533;clear hsz hl_g6;go_upto_region 8 with (first | (refine bB rfl 57 _ _ rfl bL #[.int .i64 1,.string nm,.slice none 0 0,.slice none 0 0,.slice none 0 0,.slice none 0 0,.int .i64 0,.slice none 0 0,.bool false,.int .i64 0,.int .i64 0,.int .i64 0,.string ⟨#[]⟩,.string ⟨#[]⟩,.string ⟨#[]⟩,.slice none 0 0] rfl rfl dh rfl (fX rfl) ?_))
  have hbl_g6_g1543:=lt_of_heap Q1535;have hal1538:=ab w1530 (.cells #[.int .i64 1,.string nm,.slice none 0 0,.slice none 0 0,.slice none 0 0,.slice none 0 0,.int .i64 0,.slice none 0 0,.bool false,.int .i64 0,.int .i64 0,.int .i64 0,.string ⟨#[]⟩,.string ⟨#[]⟩,.string ⟨#[]⟩,.slice none 0 0] 57)
  have Q1539:=ar w1530 #[.int .i64 1,.string nm,.slice none 0 0,.slice none 0 0,.slice none 0 0,.slice none 0 0,.int .i64 0,.slice none 0 0,.bool false,.int .i64 0,.int .i64 0,.int .i64 0,.string ⟨#[]⟩,.string ⟨#[]⟩,.string ⟨#[]⟩,.slice none 0 0] 57;have hsg1543:=hx1532.size;generalize w1530.alloc (.cells #[.int .i64 1,.string nm,.slice none 0 0,.slice none 0 0,.slice none 0 0,.slice none 0 0,.int .i64 0,.slice none 0 0,.bool false,.int .i64 0,.int .i64 0,.int .i64 0,.string ⟨#[]⟩,.string ⟨#[]⟩,.string ⟨#[]⟩,.slice none 0 0] 57)=w1540 at *
  have Q1545:=(hal1538.block _ (lt_of_heap Q1535)).trans Q1535;clear Q1535;have hx1541:af R w w1540:=hx1532.trans (.of hal1538 (by omega));have HR1542:Hid (au w1540 R tb r1534 0):=HR1536.out.next hal1538;clear HR1536 hx1532 hal1538;generalize hqg1543:w1530.heap.size=g1543 at *;clear hqg1543;have hal1546:=ab w1540 (.cells #[.string ⟨#[40]⟩] 9);have hsz:=hx1541.size;have con1547:=cz (cap:=1) (HR1542.out.next hal1546) (cj.one w1540 ⟨#[40]⟩ 9) (by omega) (by simp);have hm:=HM1537.out
  generalize aS [⟨#[40]⟩] r1534=L at hm con1547;have HM1553:Hid _:=hm;clear hm HM1537 HR1542;go_wp2_with fail
  generalize w1540.alloc (.cells #[.string ⟨#[40]⟩] 9)=wa1549 at *;refine con1547.mono ?_;rintro e w1548 ⟨hb1550,hW⟩;have hxa1551:af R w1540 w1548:=(af.of hal1546 (by omega)).trans hb1550;have hx1552:=hx1541.trans hxa1551;have Q1555:=(hxa1551.2 _ (lt_of_heap Q1545) (by omega)).trans Q1545;clear Q1545;have Q1556:=(hxa1551.2 _ (lt_of_heap Q1539) (by omega)).trans Q1539;clear Q1539;clear con1547 hal1546 hb1550 hxa1551 hx1541 hsz;rcases L with ce | ⟨u1557,r1554⟩
  ·obtain ⟨rfl,us,hE⟩:=hW;have HE:Hid (au w1548 R tb us 0):=hE;clear hE;have e:M = .error ce:=HM1553.out.symm;subst e;clear HM1553;go_wp2_with fail
   exact ⟨rfl,Ends.err rfl hx1552 HE.out⟩
  obtain ⟨v,rfl,rfl,hR⟩:=hW;have HR1558:Hid (au w1548 R tb r1554 0):=hR;have hm:=HM1553.out;try simp only [bg] at hm
  have HM1559:Hid _:=hm;clear hm hR HM1553;have hsz:=hx1552.size;have con1560:=rh HR1558.out;have hm:=HM1559.out;generalize bS db 8 9 r1554=L at hm con1560;have HM1564:Hid _:=hm;clear hm HM1559 HR1558;have hl_g6:=lt_of_heap Q1555;have hl_g1543:=lt_of_heap Q1556;go_wp2_with fail
  refine con1560.mono ?_;rintro e w1561 ⟨hb1562,hW⟩;have hx1563:=hx1552.trans hb1562;have Q1566:=(hb1562.2 _ (lt_of_heap Q1555) (by omega)).trans Q1555;clear Q1555;have Q1567:=(hb1562.2 _ (lt_of_heap Q1556) (by omega)).trans Q1556;clear Q1556;clear con1560 hb1562 hx1552;rcases L with ce | ⟨l,r1565⟩
  ·obtain ⟨rfl,us,hE⟩:=hW;have HE:Hid (au w1561 R tb us 0):=hE;clear hE;have e:M = .error ce:=HM1564.out.symm;subst e;clear HM1564;go_wp2_with fail
   exact ⟨rfl,Ends.err rfl hx1563 HE.out⟩
  obtain ⟨v,rfl,⟨a1,c1,rfl,hls⟩,hR⟩:=hW;have HR1568:Hid (au w1561 R tb r1565 0):=hR;have hm:=HM1564.out;try simp only [bg] at hm
  have HM1569:Hid _:=hm;clear hm hR HM1564;have HK1570:Hid ((bo iq 2) (fun b=>g1543<b) w1561 l [.slice a1 l.length c1]):=(bd je 2).mono (S:=fun b=>w1548.heap.size≤b) (fun b h _=>by have:_≤b:=h; show g1543<b; omega) (⟨a1,c1,rfl,hls⟩);clear hls;clear hsz hl_g6 hl_g1543;have z1571:w1561.cell? ⟨g1543,2,none⟩=some (.slice none 0 0):=cell_of (i:=2) Q1567 rfl;have z1571f:=C3 w1561 g1543 2 _ _ Q1567;go_upto_region 10 with fail
  obtain ⟨Q1576,hk1573,hbx⟩:=uR Q1567 (.slice a1 l.length c1);have hx1574:=hbx hx1563 (by omega) (by omega);clear hbx z1571 z1571f;generalize (w1561.setCell ⟨g1543,2,none⟩ (.slice a1 l.length c1))=w1572 at *;have Q1577:=(hk1573.2 _ (lt_of_heap Q1566) (by omega)).trans Q1566;clear Q1566;have HK1578:Hid ((bo iq 2) (fun b=>g1543<b) w1572 l [.slice a1 l.length c1]):=(bd je 2).next (hk1573.k (by show ¬ _; omega)) HK1570.out;clear HK1570;clear Q1567;have HR1575:Hid (au w1572 R tb r1565 0):=HR1568.out.k1 hk1573 (by omega) (by omega) (by have:=HR1568.out.r2; omega)
  clear HR1568 hk1573 hx1563;have hal1579:=ab w1572 (.cells #[.string ⟨#[41]⟩] 9);have hsz:=hx1574.size;have con1580:=cz (cap:=1) (HR1575.out.next hal1579) (cj.one w1572 ⟨#[41]⟩ 9) (by omega) (by simp);have hm:=HM1569.out;generalize aS [⟨#[41]⟩] r1565=L at hm con1580;have HM1586:Hid _:=hm;clear hm HM1569 HR1575;go_wp2_with fail
  generalize w1572.alloc (.cells #[.string ⟨#[41]⟩] 9)=wa1582 at *;refine con1580.mono ?_;rintro e w1581 ⟨hb1583,hW⟩;have hxa1584:af R w1572 w1581:=(af.of hal1579 (by omega)).trans hb1583;have hx1585:=hx1574.trans hxa1584;have Q1588:=(hxa1584.2 _ (lt_of_heap Q1577) (by omega)).trans Q1577;clear Q1577;have Q1589:=(hxa1584.2 _ (lt_of_heap Q1576) (by omega)).trans Q1576;clear Q1576;have HK1590:Hid ((bo iq 2) (fun b=>g1543<b) w1581 l [.slice a1 l.length c1]):=(bd je 2).next (hxa1584.k1.k (by show ¬ _; omega)) HK1578.out;clear HK1578;clear con1580 hal1579 hb1583 hxa1584 hx1574 hsz
  rcases L with ce | ⟨u1591,r1587⟩
  ·obtain ⟨rfl,us,hE⟩:=hW;have HE:Hid (au w1581 R tb us 0):=hE;clear hE;have e:M = .error ce:=HM1586.out.symm;subst e;clear HM1586;go_wp2_with fail
   exact ⟨rfl,Ends.err rfl hx1585 HE.out⟩
  obtain ⟨v,rfl,rfl,hR⟩:=hW;have HR1592:Hid (au w1581 R tb r1587 0):=hR;have hm:=HM1586.out;try simp only [bg] at hm
  have HM1593:Hid _:=hm;clear hm hR HM1586;have e:=HM1593.out;subst e;clear HM1593
  go_wp2_with (first | (refine wpList_load_row rfl 57 _ rfl g1543 rfl 57 #[.int .i64 1,.string nm,.slice a1 l.length c1,.slice none 0 0,.slice none 0 0,.slice none 0 0,.int .i64 0,.slice none 0 0,.bool false,.int .i64 0,.int .i64 0,.int .i64 0,.string ⟨#[]⟩,.string ⟨#[]⟩,.string ⟨#[]⟩,.slice none 0 0] (0,0) _ Q1589 Tryz.underlying57 rfl dh ?_) | (refine wpList_store_row rfl 57 _ _ rfl w.heap.size #[.int .i64 1,.string nm,.slice a1 l.length c1,.slice none 0 0,.slice none 0 0,.slice none 0 0,.int .i64 0,.slice none 0 0,.bool false,.int .i64 0,.int .i64 0,.int .i64 0,.string ⟨#[]⟩,.string ⟨#[]⟩,.string ⟨#[]⟩,.slice none 0 0] rfl rfl 57 bL Q1588 dh rfl (fX rfl) ?_))
  obtain ⟨QE,hRE,hbE,hkE⟩:=fR (w:=w) Q1588 HR1592.out hx1585 (by omega) hltR hltT #[.int .i64 1,.string nm,.slice a1 l.length c1,.slice none 0 0,.slice none 0 0,.slice none 0 0,.int .i64 0,.slice none 0 0,.bool false,.int .i64 0,.int .i64 0,.int .i64 0,.string ⟨#[]⟩,.string ⟨#[]⟩,.string ⟨#[]⟩,.slice none 0 0];generalize w1581.setRow w.heap.size #[.int .i64 1,.string nm,.slice a1 l.length c1,.slice none 0 0,.slice none 0 0,.slice none 0 0,.int .i64 0,.slice none 0 0,.bool false,.int .i64 0,.int .i64 0,.int .i64 0,.string ⟨#[]⟩,.string ⟨#[]⟩,.string ⟨#[]⟩,.slice none 0 0]=wE at *
  have L0:(bo iq 2) (fun b=>w.heap.size≤b) wE l [.slice a1 l.length c1]:=(bd je 2).mono (fun b h _=>by have:g1543<b:=h; show _≤b; omega) ((bd je 2).next (hkE.k (by show ¬ _; omega)) HK1590.out)
  exact C0 (v:=.agg #[.int .i64 1,.string nm,.slice a1 l.length c1,.slice none 0 0,.slice none 0 0,.slice none 0 0,.int .i64 0,.slice none 0 0,.bool false,.int .i64 0,.int .i64 0,.int .i64 0,.string ⟨#[]⟩,.string ⟨#[]⟩,.string ⟨#[]⟩,.slice none 0 0]) (results_cell_row Tryz.results130 _ _ _ _ _ _ _ rfl QE Tryz.underlying57 rfl dh) rfl (Ends.bV (x:=(⟨1,nm,l,mF,[],false,jN⟩:cW)) rfl hbE (⟨a1,c1,none,0,none,0,none,0,none,0,none,0,rfl,L0.ls,.inl rfl,.inl rfl,.inl rfl,.inl rfl,aD.nil _⟩) hRE)
 ·have hsz:=hx4.size;have con2509:=aM HR5.out ⟨#[118,105,101,119]⟩;rw [hi8,bP hi8] at con2509;have hm:=HM0.out;simp only [hi8,if_true] at hm;have HM2514:Hid _:=hm;clear hm HM0 HR5;go_wp2_with fail
  refine con2509.mono ?_;rintro e w2510 ⟨rfl,hR,hb2511⟩;have HR2513:Hid (au w2510 R tb (az ts) 0):=hR;have hx2512:=hx4.trans hb2511;have Q2515:=(hb2511.2 _ (lt_of_heap Q2) (by omega)).trans Q2;clear Q2;clear con2509 hR hb2511 hx4 hsz hi8;have hsz:=hx2512.size;have con2516:=gG HR2513.out;have hm:=HM2514.out;generalize cV (az ts)=L at hm con2516;have HM2520:Hid _:=hm;clear hm HM2514 HR2513;have hl_g6:=lt_of_heap Q2515;go_wp2_with fail
  refine con2516.mono ?_;rintro e w2517 ⟨hb2518,hW⟩;have hx2519:=hx2512.trans hb2518;have Q2522:=(hb2518.2 _ (lt_of_heap Q2515) (by omega)).trans Q2515;clear Q2515;clear con2516 hb2518 hx2512;rcases L with ce | ⟨nm,r2521⟩
  ·obtain ⟨rfl,us,hE⟩:=hW;have HE:Hid (au w2517 R tb us 0):=hE;clear hE;have e:M = .error ce:=HM2520.out.symm;subst e;clear HM2520;go_wp2_with fail
   exact ⟨rfl,Ends.err rfl hx2519 HE.out⟩
  obtain ⟨v,rfl,rfl,hR⟩:=hW;have HR2523:Hid (au w2517 R tb r2521 0):=hR;have hm:=HM2520.out;try simp only [bg] at hm
  have HM2524:Hid _:=hm;clear hm hR HM2520;clear hsz hl_g6;go_upto_region 3 with (first | (refine bB rfl 57 _ _ rfl bL #[.int .i64 2,.string nm,.slice none 0 0,.slice none 0 0,.slice none 0 0,.slice none 0 0,.int .i64 0,.slice none 0 0,.bool false,.int .i64 0,.int .i64 0,.int .i64 0,.string ⟨#[]⟩,.string ⟨#[]⟩,.string ⟨#[]⟩,.slice none 0 0] rfl rfl dh rfl (fX rfl) ?_))
  have hbl_g6_g2530:=lt_of_heap Q2522;have hal2525:=ab w2517 (.cells #[.int .i64 2,.string nm,.slice none 0 0,.slice none 0 0,.slice none 0 0,.slice none 0 0,.int .i64 0,.slice none 0 0,.bool false,.int .i64 0,.int .i64 0,.int .i64 0,.string ⟨#[]⟩,.string ⟨#[]⟩,.string ⟨#[]⟩,.slice none 0 0] 57)
  have Q2526:=ar w2517 #[.int .i64 2,.string nm,.slice none 0 0,.slice none 0 0,.slice none 0 0,.slice none 0 0,.int .i64 0,.slice none 0 0,.bool false,.int .i64 0,.int .i64 0,.int .i64 0,.string ⟨#[]⟩,.string ⟨#[]⟩,.string ⟨#[]⟩,.slice none 0 0] 57;have hsg2530:=hx2519.size;generalize w2517.alloc (.cells #[.int .i64 2,.string nm,.slice none 0 0,.slice none 0 0,.slice none 0 0,.slice none 0 0,.int .i64 0,.slice none 0 0,.bool false,.int .i64 0,.int .i64 0,.int .i64 0,.string ⟨#[]⟩,.string ⟨#[]⟩,.string ⟨#[]⟩,.slice none 0 0] 57)=w2527 at *
  have Q2532:=(hal2525.block _ (lt_of_heap Q2522)).trans Q2522;clear Q2522;have hx2528:af R w w2527:=hx2519.trans (.of hal2525 (by omega));have HR2529:Hid (au w2527 R tb r2521 0):=HR2523.out.next hal2525;clear HR2523 hx2519 hal2525;generalize hqg2530:w2517.heap.size=g2530 at *;clear hqg2530;have hal2533:=ab w2527 (.cells #[.string ⟨#[97,115]⟩] 9);have hsz:=hx2528.size;have con2534:=cz (cap:=1) (HR2529.out.next hal2533) (cj.one w2527 ⟨#[97,115]⟩ 9) (by omega) (by simp);have hm:=HM2524.out
  generalize aS [⟨#[97,115]⟩] r2521=L at hm con2534;have HM2540:Hid _:=hm;clear hm HM2524 HR2529;go_wp2_with fail
  generalize w2527.alloc (.cells #[.string ⟨#[97,115]⟩] 9)=wa2536 at *;refine con2534.mono ?_;rintro e w2535 ⟨hb2537,hW⟩;have hxa2538:af R w2527 w2535:=(af.of hal2533 (by omega)).trans hb2537;have hx2539:=hx2528.trans hxa2538;have Q2542:=(hxa2538.2 _ (lt_of_heap Q2532) (by omega)).trans Q2532;clear Q2532;have Q2543:=(hxa2538.2 _ (lt_of_heap Q2526) (by omega)).trans Q2526;clear Q2526;clear con2534 hal2533 hb2537 hxa2538 hx2528 hsz;rcases L with ce | ⟨u2544,r2541⟩
  ·obtain ⟨rfl,us,hE⟩:=hW;have HE:Hid (au w2535 R tb us 0):=hE;clear hE;have e:M = .error ce:=HM2540.out.symm;subst e;clear HM2540;go_wp2_with fail
   exact ⟨rfl,Ends.err rfl hx2539 HE.out⟩
  obtain ⟨v,rfl,rfl,hR⟩:=hW;have HR2545:Hid (au w2535 R tb r2541 0):=hR;have hm:=HM2540.out;try simp only [bg] at hm
  have HM2546:Hid _:=hm;clear hm hR HM2540;have hsz:=hx2539.size;have con2547:=qO HR2545.out;have hm:=HM2546.out;generalize iA r2541=L at hm con2547;have HM2551:Hid _:=hm;clear hm HM2546 HR2545;have hl_g6:=lt_of_heap Q2542;have hl_g2530:=lt_of_heap Q2543;go_wp2_with fail
  refine con2547.mono ?_;rintro e w2548 ⟨hb2549,hW⟩;have hx2550:=hx2539.trans hb2549;have Q2553:=(hb2549.2 _ (lt_of_heap Q2542) (by omega)).trans Q2542;clear Q2542;have Q2554:=(hb2549.2 _ (lt_of_heap Q2543) (by omega)).trans Q2543;clear Q2543;clear con2547 hb2549 hx2539;rcases L with ce | ⟨q,r2552⟩
  ·obtain ⟨rfl,us,hE⟩:=hW;have HE:Hid (au w2548 R tb us 0):=hE;clear hE;have e:M = .error ce:=HM2551.out.symm;subst e;clear HM2551;go_wp2_with fail
   exact ⟨rfl,Ends.err rfl hx2550 HE.out⟩
  obtain ⟨v,rfl,⟨p1,d1,p2,d2,p3,d3,rfl,h1,h2,h3⟩,hR⟩:=hW;have HR2555:Hid (au w2548 R tb r2552 0):=hR;have hm:=HM2551.out;try simp only [bg] at hm
  have HM2556:Hid _:=hm;clear hm hR HM2551;have HK2557:Hid ((bo b7 21) (fun b=>g2530<b) w2548 q.parts [.slice p1 q.parts.length d1]):=(bd cf 21).mono (S:=fun b=>w2535.heap.size≤b) (fun b h _=>by have:_≤b:=h; show g2530<b; omega) (⟨p1,d1,rfl,h1⟩);clear h1;have HK2558:Hid ((bo fJ 1) (fun b=>g2530<b) w2548 q.ops [.slice p2 q.ops.length d2]):=(bd fV 1).mono (S:=fun b=>w2535.heap.size≤b) (fun b h _=>by have:_≤b:=h; show g2530<b; omega) (⟨p2,d2,rfl,h2⟩);clear h2
  have HK2559:Hid ((bo bO 7) (fun b=>g2530<b) w2548 q.order [.slice p3 q.order.length d3]):=(bd bX 7).mono (S:=fun b=>w2535.heap.size≤b) (fun b h _=>by have:_≤b:=h; show g2530<b; omega) (⟨p3,d3,rfl,h3⟩);clear h3;clear hsz hl_g6 hl_g2530;have z2560:w2548.cell? ⟨g2530,3,none⟩=some (.slice none 0 0):=cell_of (i:=3) Q2554 rfl;have z2560f:=C3 w2548 g2530 3 _ _ Q2554;have z2561:w2548.cell? ⟨g2530,4,none⟩=some (.slice none 0 0):=cell_of (i:=4) Q2554 rfl;have z2561f:=C3 w2548 g2530 4 _ _ Q2554
  have z2562:w2548.cell? ⟨g2530,5,none⟩=some (.slice none 0 0):=cell_of (i:=5) Q2554 rfl;have z2562f:=C3 w2548 g2530 5 _ _ Q2554;have z2563:w2548.cell? ⟨g2530,6,none⟩=some (.int .i64 0):=cell_of (i:=6) Q2554 rfl;have z2563f:=C3 w2548 g2530 6 _ _ Q2554;go_upto_region 5 with fail
  obtain ⟨Q2568,hk2565,hbx⟩:=uY Q2554 (.slice p1 q.parts.length d1) (.slice p2 q.ops.length d2) (.slice p3 q.order.length d3) (.int .i64 q.aE);have hx2566:=hbx hx2550 (by omega) (by omega);clear hbx z2560 z2560f z2561 z2561f z2562 z2562f z2563 z2563f;generalize ((((w2548.setCell ⟨g2530,3,none⟩ (.slice p1 q.parts.length d1)).setCell ⟨g2530,4,none⟩ (.slice p2 q.ops.length d2)).setCell ⟨g2530,5,none⟩ (.slice p3 q.order.length d3)).setCell ⟨g2530,6,none⟩ (.int .i64 q.aE))=w2564 at *;have Q2569:=(hk2565.2 _ (lt_of_heap Q2553) (by omega)).trans Q2553;clear Q2553
  have HK2570:Hid ((bo b7 21) (fun b=>g2530<b) w2564 q.parts [.slice p1 q.parts.length d1]):=(bd cf 21).next (hk2565.k (by show ¬ _; omega)) HK2557.out;clear HK2557;have HK2571:Hid ((bo fJ 1) (fun b=>g2530<b) w2564 q.ops [.slice p2 q.ops.length d2]):=(bd fV 1).next (hk2565.k (by show ¬ _; omega)) HK2558.out;clear HK2558;have HK2572:Hid ((bo bO 7) (fun b=>g2530<b) w2564 q.order [.slice p3 q.order.length d3]):=(bd bX 7).next (hk2565.k (by show ¬ _; omega)) HK2559.out;clear HK2559;clear Q2554
  have HR2567:Hid (au w2564 R tb r2552 0):=HR2555.out.k1 hk2565 (by omega) (by omega) (by have:=HR2555.out.r2; omega);clear HR2555 hk2565 hx2550;have e:=HM2556.out;subst e;clear HM2556
  go_wp2_with (first | (refine wpList_load_row rfl 57 _ rfl g2530 rfl 57 #[.int .i64 2,.string nm,.slice none 0 0,.slice p1 q.parts.length d1,.slice p2 q.ops.length d2,.slice p3 q.order.length d3,.int .i64 q.aE,.slice none 0 0,.bool false,.int .i64 0,.int .i64 0,.int .i64 0,.string ⟨#[]⟩,.string ⟨#[]⟩,.string ⟨#[]⟩,.slice none 0 0] (0,0) _ Q2568 Tryz.underlying57 rfl dh ?_) | (refine wpList_store_row rfl 57 _ _ rfl w.heap.size #[.int .i64 2,.string nm,.slice none 0 0,.slice p1 q.parts.length d1,.slice p2 q.ops.length d2,.slice p3 q.order.length d3,.int .i64 q.aE,.slice none 0 0,.bool false,.int .i64 0,.int .i64 0,.int .i64 0,.string ⟨#[]⟩,.string ⟨#[]⟩,.string ⟨#[]⟩,.slice none 0 0] rfl rfl 57 bL Q2569 dh rfl (fX rfl) ?_))
  obtain ⟨QE,hRE,hbE,hkE⟩:=fR (w:=w) Q2569 HR2567.out hx2566 (by omega) hltR hltT #[.int .i64 2,.string nm,.slice none 0 0,.slice p1 q.parts.length d1,.slice p2 q.ops.length d2,.slice p3 q.order.length d3,.int .i64 q.aE,.slice none 0 0,.bool false,.int .i64 0,.int .i64 0,.int .i64 0,.string ⟨#[]⟩,.string ⟨#[]⟩,.string ⟨#[]⟩,.slice none 0 0]
  generalize w2564.setRow w.heap.size #[.int .i64 2,.string nm,.slice none 0 0,.slice p1 q.parts.length d1,.slice p2 q.ops.length d2,.slice p3 q.order.length d3,.int .i64 q.aE,.slice none 0 0,.bool false,.int .i64 0,.int .i64 0,.int .i64 0,.string ⟨#[]⟩,.string ⟨#[]⟩,.string ⟨#[]⟩,.slice none 0 0]=wE at *;have L0:(bo b7 21) (fun b=>w.heap.size≤b) wE q.parts [.slice p1 q.parts.length d1]:=(bd cf 21).mono (fun b h _=>by have:g2530<b:=h; show _≤b; omega) ((bd cf 21).next (hkE.k (by show ¬ _; omega)) HK2570.out)
  have L1:(bo fJ 1) (fun b=>w.heap.size≤b) wE q.ops [.slice p2 q.ops.length d2]:=(bd fV 1).mono (fun b h _=>by have:g2530<b:=h; show _≤b; omega) ((bd fV 1).next (hkE.k (by show ¬ _; omega)) HK2571.out);have L2:(bo bO 7) (fun b=>w.heap.size≤b) wE q.order [.slice p3 q.order.length d3]:=(bd bX 7).mono (fun b h _=>by have:g2530<b:=h; show _≤b; omega) ((bd bX 7).next (hkE.k (by show ¬ _; omega)) HK2572.out)
  exact C0 (v:=.agg #[.int .i64 2,.string nm,.slice none 0 0,.slice p1 q.parts.length d1,.slice p2 q.ops.length d2,.slice p3 q.order.length d3,.int .i64 q.aE,.slice none 0 0,.bool false,.int .i64 0,.int .i64 0,.int .i64 0,.string ⟨#[]⟩,.string ⟨#[]⟩,.string ⟨#[]⟩,.slice none 0 0]) (results_cell_row Tryz.results130 _ _ _ _ _ _ _ rfl QE Tryz.underlying57 rfl dh) rfl (Ends.bV (x:=(⟨2,nm,[],q,[],false,jN⟩:cW)) rfl hbE (⟨none,0,p1,d1,p2,d2,p3,d3,none,0,none,0,rfl,.inl rfl,L0.ls,L1.ls,L2.ls,.inl rfl,aD.nil _⟩) hRE)
theorem oI {w:World} {R tb:Nat} {ts:List Tk} (h:au w R tb ts 0):Calls Tryz.prog 100 #[.pointer (some ⟨R,0,none⟩)] w (Ends R tb 0 w (oL w.heap.size) (dD ts)):=by
 have hmf:∀ (fn:Fn) (first cap:Array Value) (w:World),(Instr.makeFunc fn first cap).run Tryz.prog w = .ok (.func fn first cap) w:=fun _ _ _ _=>rfl
 have hltR:=h.lt;have hltT:=h.j5;have hx0:af R w w:=af.refl _ _;have HR0:Hid (au w R tb ts 0):=h;generalize hM:dD ts=M;unfold dD at hM;try dsimp only at hM
 have HM0:Hid _:=hM;clear h hM;go_enter Tryz.func100,Tryz.ntmps100;go_upto_region 1 with fail
 have hal1:=ab w (.cells bL 57);have Q2:=ar w bL 57;have hsg6:=hx0.size;generalize w.alloc (.cells bL 57)=w3 at *;have hx4:af R w w3:=hx0.trans (.of hal1 (by omega));have HR5:Hid (au w3 R tb ts 0):=HR0.out.next hal1;clear HR0 hx0 hal1;rcases hi8:bu ⟨#[99,114,101,97,116,101]⟩ ts with _ | _
 ·have hsz:=hx4.size;have con1509:=aM HR5.out ⟨#[99,114,101,97,116,101]⟩;rw [hi8,bC hi8] at con1509;have hm:=HM0.out;simp only [hi8,De,if_false] at hm;have HM1514:Hid _:=hm;clear hm HM0 HR5;go_wp2_with fail
  refine con1509.mono ?_;rintro e w1510 ⟨rfl,hR,hb1511⟩;have HR1513:Hid (au w1510 R tb ts 0):=hR;have hx1512:=hx4.trans hb1511;have Q1515:=(hb1511.2 _ (lt_of_heap Q2) (by omega)).trans Q2;clear Q2;clear con1509 hR hb1511 hx4 hsz hi8;rcases hi1516:bu ⟨#[105,110,115,101,114,116]⟩ ts with _ | _
  ·have hsz:=hx1512.size;have con3017:=aM HR1513.out ⟨#[105,110,115,101,114,116]⟩;rw [hi1516,bC hi1516] at con3017;have hm:=HM1514.out;simp only [hi1516,De,if_false] at hm;have HM3022:Hid _:=hm;clear hm HM1514 HR1513;go_wp2_with fail
   refine con3017.mono ?_;rintro e w3018 ⟨rfl,hR,hb3019⟩;have HR3021:Hid (au w3018 R tb ts 0):=hR;have hx3020:=hx1512.trans hb3019;have Q3023:=(hb3019.2 _ (lt_of_heap Q1515) (by omega)).trans Q1515;clear Q1515;clear con3017 hR hb3019 hx1512 hsz hi1516;rcases hi3024:bu ⟨#[100,101,108,101,116,101]⟩ ts with _ | _
   ·have hsz:=hx3020.size;have con4525:=aM HR3021.out ⟨#[100,101,108,101,116,101]⟩;rw [hi3024,bC hi3024] at con4525;have hm:=HM3022.out;simp only [hi3024,De,if_false] at hm;have HM4530:Hid _:=hm;clear hm HM3022 HR3021;go_wp2_with fail
    refine con4525.mono ?_;rintro e w4526 ⟨rfl,hR,hb4527⟩;have HR4529:Hid (au w4526 R tb ts 0):=hR;have hx4528:=hx3020.trans hb4527;have Q4531:=(hb4527.2 _ (lt_of_heap Q3023) (by omega)).trans Q3023;clear Q3023;clear con4525 hR hb4527 hx3020 hsz hi3024;rcases hi4532:bu ⟨#[115,104,111,119]⟩ ts with _ | _
    ·have hsz:=hx4528.size;have con6033:=aM HR4529.out ⟨#[115,104,111,119]⟩;rw [hi4532,bC hi4532] at con6033;have hm:=HM4530.out;simp only [hi4532,De,if_false] at hm;have HM6038:Hid _:=hm;clear hm HM4530 HR4529;go_wp2_with fail
     refine con6033.mono ?_;rintro e w6034 ⟨rfl,hR,hb6035⟩;have HR6037:Hid (au w6034 R tb ts 0):=hR;have hx6036:=hx4528.trans hb6035;have Q6039:=(hb6035.2 _ (lt_of_heap Q4531) (by omega)).trans Q4531;clear Q4531;clear con6033 hR hb6035 hx4528 hsz hi4532;have hR:=HR6037.out;obtain ⟨tt,rr,ets⟩:=hR.gQ.ne;have hm:=HM6038.out;rw [ets] at hR hm;have conf:=eN hR 2;subst hm;clear HM6038 HR6037;have HRf:Hid (au _ R tb (tt :: rr) 0):=hR;clear hR;go_wp2_with fail
     refine conf.mono ?_;rintro e wf ⟨rfl,hbf⟩;go_wp2_with fail
     exact ⟨rfl,Ends.err (c:=(2,gY (tt :: rr))) rfl (hx6036.trans (.of hbf (by have:=hx6036.size; omega))) (HRf.out.next hbf)⟩
    ·have hsz:=hx4528.size;have con7033:=aM HR4529.out ⟨#[115,104,111,119]⟩;rw [hi4532,bP hi4532] at con7033;have hm:=HM4530.out;simp only [hi4532,if_true] at hm;have HM7038:Hid _:=hm;clear hm HM4530 HR4529;go_wp2_with fail
     refine con7033.mono ?_;rintro e w7034 ⟨rfl,hR,hb7035⟩;have HR7037:Hid (au w7034 R tb (az ts) 0):=hR;have hx7036:=hx4528.trans hb7035;have Q7039:=(hb7035.2 _ (lt_of_heap Q4531) (by omega)).trans Q4531;clear Q4531;clear con7033 hR hb7035 hx4528 hsz hi4532;have hsz:=hx7036.size;have con7040:=qO HR7037.out;have hm:=HM7038.out;generalize iA (az ts)=L at hm con7040;have HM7044:Hid _:=hm;clear hm HM7038 HR7037;have hl_g6:=lt_of_heap Q7039;go_wp2_with fail
     refine con7040.mono ?_;rintro e w7041 ⟨hb7042,hW⟩;have hx7043:=hx7036.trans hb7042;have Q7046:=(hb7042.2 _ (lt_of_heap Q7039) (by omega)).trans Q7039;clear Q7039;clear con7040 hb7042 hx7036;rcases L with ce | ⟨q,r7045⟩
     ·obtain ⟨rfl,us,hE⟩:=hW;have HE:Hid (au w7041 R tb us 0):=hE;clear hE;have e:M = .error ce:=HM7044.out.symm;subst e;clear HM7044;go_wp2_with fail
      exact ⟨rfl,Ends.err rfl hx7043 HE.out⟩
     obtain ⟨v,rfl,⟨p1,d1,p2,d2,p3,d3,rfl,h1,h2,h3⟩,hR⟩:=hW;have HR7047:Hid (au w7041 R tb r7045 0):=hR;have hm:=HM7044.out;try simp only [bg] at hm
     have HM7048:Hid _:=hm;clear hm hR HM7044;have HK7049:Hid ((bo b7 21) (fun b=>w.heap.size<b) w7041 q.parts [.slice p1 q.parts.length d1]):=(bd cf 21).mono (S:=fun b=>w7034.heap.size≤b) (fun b h _=>by have:_≤b:=h; show w.heap.size<b; omega) (⟨p1,d1,rfl,h1⟩);clear h1;have HK7050:Hid ((bo fJ 1) (fun b=>w.heap.size<b) w7041 q.ops [.slice p2 q.ops.length d2]):=(bd fV 1).mono (S:=fun b=>w7034.heap.size≤b) (fun b h _=>by have:_≤b:=h; show w.heap.size<b; omega) (⟨p2,d2,rfl,h2⟩);clear h2
     have HK7051:Hid ((bo bO 7) (fun b=>w.heap.size<b) w7041 q.order [.slice p3 q.order.length d3]):=(bd bX 7).mono (S:=fun b=>w7034.heap.size≤b) (fun b h _=>by have:_≤b:=h; show w.heap.size<b; omega) (⟨p3,d3,rfl,h3⟩);clear h3;clear hsz hl_g6;have e:=HM7048.out;subst e;clear HM7048
     go_wp2_with (first | (refine wpList_store_row rfl 57 _ _ rfl w.heap.size #[.int .i64 5,.string ⟨#[]⟩,.slice none 0 0,.slice p1 q.parts.length d1,.slice p2 q.ops.length d2,.slice p3 q.order.length d3,.int .i64 q.aE,.slice none 0 0,.bool false,.int .i64 0,.int .i64 0,.int .i64 0,.string ⟨#[]⟩,.string ⟨#[]⟩,.string ⟨#[]⟩,.slice none 0 0] rfl rfl 57 bL Q7046 dh rfl (fX rfl) ?_))
     obtain ⟨QE,hRE,hbE,hkE⟩:=fR (w:=w) Q7046 HR7047.out hx7043 (by omega) hltR hltT #[.int .i64 5,.string ⟨#[]⟩,.slice none 0 0,.slice p1 q.parts.length d1,.slice p2 q.ops.length d2,.slice p3 q.order.length d3,.int .i64 q.aE,.slice none 0 0,.bool false,.int .i64 0,.int .i64 0,.int .i64 0,.string ⟨#[]⟩,.string ⟨#[]⟩,.string ⟨#[]⟩,.slice none 0 0]
     generalize w7041.setRow w.heap.size #[.int .i64 5,.string ⟨#[]⟩,.slice none 0 0,.slice p1 q.parts.length d1,.slice p2 q.ops.length d2,.slice p3 q.order.length d3,.int .i64 q.aE,.slice none 0 0,.bool false,.int .i64 0,.int .i64 0,.int .i64 0,.string ⟨#[]⟩,.string ⟨#[]⟩,.string ⟨#[]⟩,.slice none 0 0]=wE at *;have L0:(bo b7 21) (fun b=>w.heap.size≤b) wE q.parts [.slice p1 q.parts.length d1]:=(bd cf 21).mono (fun b h _=>by have:w.heap.size<b:=h; show _≤b; omega) ((bd cf 21).next (hkE.k (by show ¬ _; omega)) HK7049.out)
     have L1:(bo fJ 1) (fun b=>w.heap.size≤b) wE q.ops [.slice p2 q.ops.length d2]:=(bd fV 1).mono (fun b h _=>by have:w.heap.size<b:=h; show _≤b; omega) ((bd fV 1).next (hkE.k (by show ¬ _; omega)) HK7050.out);have L2:(bo bO 7) (fun b=>w.heap.size≤b) wE q.order [.slice p3 q.order.length d3]:=(bd bX 7).mono (fun b h _=>by have:w.heap.size<b:=h; show _≤b; omega) ((bd bX 7).next (hkE.k (by show ¬ _; omega)) HK7051.out)
     exact C0 (v:=.agg #[.int .i64 5,.string ⟨#[]⟩,.slice none 0 0,.slice p1 q.parts.length d1,.slice p2 q.ops.length d2,.slice p3 q.order.length d3,.int .i64 q.aE,.slice none 0 0,.bool false,.int .i64 0,.int .i64 0,.int .i64 0,.string ⟨#[]⟩,.string ⟨#[]⟩,.string ⟨#[]⟩,.slice none 0 0]) (results_cell_row Tryz.results100 _ _ _ _ _ _ _ rfl QE Tryz.underlying57 rfl dh) rfl (Ends.bV (x:=(⟨5,eB,[],q,[],false,jN⟩:cW)) rfl hbE (⟨none,0,p1,d1,p2,d2,p3,d3,none,0,none,0,rfl,.inl rfl,L0.ls,L1.ls,L2.ls,.inl rfl,aD.nil _⟩) hRE)
   ·have hsz:=hx3020.size;have con5525:=aM HR3021.out ⟨#[100,101,108,101,116,101]⟩;rw [hi3024,bP hi3024] at con5525;have hm:=HM3022.out;simp only [hi3024,if_true] at hm;have HM5530:Hid _:=hm;clear hm HM3022 HR3021;go_wp2_with fail
    refine con5525.mono ?_;rintro e w5526 ⟨rfl,hR,hb5527⟩;have HR5529:Hid (au w5526 R tb (az ts) 0):=hR;have hx5528:=hx3020.trans hb5527;have Q5531:=(hb5527.2 _ (lt_of_heap Q3023) (by omega)).trans Q3023;clear Q3023;clear con5525 hR hb5527 hx3020 hsz hi3024;have hsz:=hx5528.size;have con5532:=rI HR5529.out;have hm:=HM5530.out;generalize iF (az ts)=L at hm con5532;have HM5536:Hid _:=hm;clear hm HM5530 HR5529;have hl_g6:=lt_of_heap Q5531;go_wp2_with fail
    refine con5532.mono ?_;rintro e w5533 ⟨hb5534,hW⟩;have hx5535:=hx5528.trans hb5534;have Q5538:=(hb5534.2 _ (lt_of_heap Q5531) (by omega)).trans Q5531;clear Q5531;clear con5532 hb5534 hx5528;rcases L with ce | ⟨x,r5537⟩
    ·obtain ⟨rfl,us,hE⟩:=hW;have HE:Hid (au w5533 R tb us 0):=hE;clear hE;have e:M = .error ce:=HM5536.out.symm;subst e;clear HM5536;go_wp2_with fail
     exact ⟨rfl,Ends.err rfl hx5535 HE.out⟩
    obtain ⟨v,rfl,⟨a1,c1,p1,d1,p2,d2,p3,d3,a2,c2,a3,c3,rfl,h1,h2,h3,h4,h5,h6⟩,hR⟩:=hW;have HR5539:Hid (au w5533 R tb r5537 0):=hR;have hm:=HM5536.out;try simp only [bg] at hm
    have HM5540:Hid _:=hm;clear hm hR HM5536
    have HK5541:Hid (bG (fun b=>w.heap.size<b) w5533 x [.int .i64 x.kind,.string x.name,.slice a1 x.bx.length c1,.slice p1 x.query.parts.length d1,.slice p2 x.query.ops.length d2,.slice p3 x.query.order.length d3,.int .i64 x.query.aE,.slice a2 x.rows.length c2,.bool x.aB,.int .i64 x.ah.k,.int .i64 x.ah.v.1,.int .i64 x.ah.v.2.1,.string x.ah.v.2.2,.string x.ah.aH,.string x.ah.name,.slice a3 x.ah.ks.length c3]):=bZ.mono (S:=fun b=>w5526.heap.size≤b) (fun b h _=>by have:_≤b:=h; show w.heap.size<b; omega) (⟨a1,c1,p1,d1,p2,d2,p3,d3,a2,c2,a3,c3,rfl,h1,h2,h3,h4,h5,h6⟩)
    clear h1 h2 h3 h4 h5 h6;clear hsz hl_g6;have e:=HM5540.out;subst e;clear HM5540;go_wp2_with (first | (refine wpList_store_row rfl 57 _ _ rfl w.heap.size #[.int .i64 x.kind,.string x.name,.slice a1 x.bx.length c1,.slice p1 x.query.parts.length d1,.slice p2 x.query.ops.length d2,.slice p3 x.query.order.length d3,.int .i64 x.query.aE,.slice a2 x.rows.length c2,.bool x.aB,.int .i64 x.ah.k,.int .i64 x.ah.v.1,.int .i64 x.ah.v.2.1,.string x.ah.v.2.2,.string x.ah.aH,.string x.ah.name,.slice a3 x.ah.ks.length c3] rfl rfl 57 bL Q5538 dh rfl (fX rfl) ?_))
    obtain ⟨QE,hRE,hbE,hkE⟩:=fR (w:=w) Q5538 HR5539.out hx5535 (by omega) hltR hltT #[.int .i64 x.kind,.string x.name,.slice a1 x.bx.length c1,.slice p1 x.query.parts.length d1,.slice p2 x.query.ops.length d2,.slice p3 x.query.order.length d3,.int .i64 x.query.aE,.slice a2 x.rows.length c2,.bool x.aB,.int .i64 x.ah.k,.int .i64 x.ah.v.1,.int .i64 x.ah.v.2.1,.string x.ah.v.2.2,.string x.ah.aH,.string x.ah.name,.slice a3 x.ah.ks.length c3]
    generalize w5533.setRow w.heap.size #[.int .i64 x.kind,.string x.name,.slice a1 x.bx.length c1,.slice p1 x.query.parts.length d1,.slice p2 x.query.ops.length d2,.slice p3 x.query.order.length d3,.int .i64 x.query.aE,.slice a2 x.rows.length c2,.bool x.aB,.int .i64 x.ah.k,.int .i64 x.ah.v.1,.int .i64 x.ah.v.2.1,.string x.ah.v.2.2,.string x.ah.aH,.string x.ah.name,.slice a3 x.ah.ks.length c3]=wE at *
    have L0:bG (fun b=>w.heap.size≤b) wE x [.int .i64 x.kind,.string x.name,.slice a1 x.bx.length c1,.slice p1 x.query.parts.length d1,.slice p2 x.query.ops.length d2,.slice p3 x.query.order.length d3,.int .i64 x.query.aE,.slice a2 x.rows.length c2,.bool x.aB,.int .i64 x.ah.k,.int .i64 x.ah.v.1,.int .i64 x.ah.v.2.1,.string x.ah.v.2.2,.string x.ah.aH,.string x.ah.name,.slice a3 x.ah.ks.length c3]:=bZ.mono (fun b h _=>by have:w.heap.size<b:=h; show _≤b; omega) (bZ.next (hkE.k (by show ¬ _; omega)) HK5541.out)
    exact C0 (v:=.agg #[.int .i64 x.kind,.string x.name,.slice a1 x.bx.length c1,.slice p1 x.query.parts.length d1,.slice p2 x.query.ops.length d2,.slice p3 x.query.order.length d3,.int .i64 x.query.aE,.slice a2 x.rows.length c2,.bool x.aB,.int .i64 x.ah.k,.int .i64 x.ah.v.1,.int .i64 x.ah.v.2.1,.string x.ah.v.2.2,.string x.ah.aH,.string x.ah.name,.slice a3 x.ah.ks.length c3]) (results_cell_row Tryz.results100 _ _ _ _ _ _ _ rfl QE Tryz.underlying57 rfl dh) rfl (Ends.bV (x:=x) rfl hbE (oL.of L0) hRE)
  ·have hsz:=hx1512.size;have con4017:=aM HR1513.out ⟨#[105,110,115,101,114,116]⟩;rw [hi1516,bP hi1516] at con4017;have hm:=HM1514.out;simp only [hi1516,if_true] at hm;have HM4022:Hid _:=hm;clear hm HM1514 HR1513;go_wp2_with fail
   refine con4017.mono ?_;rintro e w4018 ⟨rfl,hR,hb4019⟩;have HR4021:Hid (au w4018 R tb (az ts) 0):=hR;have hx4020:=hx1512.trans hb4019;have Q4023:=(hb4019.2 _ (lt_of_heap Q1515) (by omega)).trans Q1515;clear Q1515;clear con4017 hR hb4019 hx1512 hsz hi1516;have hsz:=hx4020.size;have con4024:=qC HR4021.out;have hm:=HM4022.out;generalize gP (az ts)=L at hm con4024;have HM4028:Hid _:=hm;clear hm HM4022 HR4021;have hl_g6:=lt_of_heap Q4023;go_wp2_with fail
   refine con4024.mono ?_;rintro e w4025 ⟨hb4026,hW⟩;have hx4027:=hx4020.trans hb4026;have Q4030:=(hb4026.2 _ (lt_of_heap Q4023) (by omega)).trans Q4023;clear Q4023;clear con4024 hb4026 hx4020;rcases L with ce | ⟨x,r4029⟩
   ·obtain ⟨rfl,us,hE⟩:=hW;have HE:Hid (au w4025 R tb us 0):=hE;clear hE;have e:M = .error ce:=HM4028.out.symm;subst e;clear HM4028;go_wp2_with fail
    exact ⟨rfl,Ends.err rfl hx4027 HE.out⟩
   obtain ⟨v,rfl,⟨a1,c1,p1,d1,p2,d2,p3,d3,a2,c2,a3,c3,rfl,h1,h2,h3,h4,h5,h6⟩,hR⟩:=hW;have HR4031:Hid (au w4025 R tb r4029 0):=hR;have hm:=HM4028.out;try simp only [bg] at hm
   have HM4032:Hid _:=hm;clear hm hR HM4028
   have HK4033:Hid (bG (fun b=>w.heap.size<b) w4025 x [.int .i64 x.kind,.string x.name,.slice a1 x.bx.length c1,.slice p1 x.query.parts.length d1,.slice p2 x.query.ops.length d2,.slice p3 x.query.order.length d3,.int .i64 x.query.aE,.slice a2 x.rows.length c2,.bool x.aB,.int .i64 x.ah.k,.int .i64 x.ah.v.1,.int .i64 x.ah.v.2.1,.string x.ah.v.2.2,.string x.ah.aH,.string x.ah.name,.slice a3 x.ah.ks.length c3]):=bZ.mono (S:=fun b=>w4018.heap.size≤b) (fun b h _=>by have:_≤b:=h; show w.heap.size<b; omega) (⟨a1,c1,p1,d1,p2,d2,p3,d3,a2,c2,a3,c3,rfl,h1,h2,h3,h4,h5,h6⟩)
   clear h1 h2 h3 h4 h5 h6;clear hsz hl_g6;have e:=HM4032.out;subst e;clear HM4032;go_wp2_with (first | (refine wpList_store_row rfl 57 _ _ rfl w.heap.size #[.int .i64 x.kind,.string x.name,.slice a1 x.bx.length c1,.slice p1 x.query.parts.length d1,.slice p2 x.query.ops.length d2,.slice p3 x.query.order.length d3,.int .i64 x.query.aE,.slice a2 x.rows.length c2,.bool x.aB,.int .i64 x.ah.k,.int .i64 x.ah.v.1,.int .i64 x.ah.v.2.1,.string x.ah.v.2.2,.string x.ah.aH,.string x.ah.name,.slice a3 x.ah.ks.length c3] rfl rfl 57 bL Q4030 dh rfl (fX rfl) ?_))
   obtain ⟨QE,hRE,hbE,hkE⟩:=fR (w:=w) Q4030 HR4031.out hx4027 (by omega) hltR hltT #[.int .i64 x.kind,.string x.name,.slice a1 x.bx.length c1,.slice p1 x.query.parts.length d1,.slice p2 x.query.ops.length d2,.slice p3 x.query.order.length d3,.int .i64 x.query.aE,.slice a2 x.rows.length c2,.bool x.aB,.int .i64 x.ah.k,.int .i64 x.ah.v.1,.int .i64 x.ah.v.2.1,.string x.ah.v.2.2,.string x.ah.aH,.string x.ah.name,.slice a3 x.ah.ks.length c3]
   generalize w4025.setRow w.heap.size #[.int .i64 x.kind,.string x.name,.slice a1 x.bx.length c1,.slice p1 x.query.parts.length d1,.slice p2 x.query.ops.length d2,.slice p3 x.query.order.length d3,.int .i64 x.query.aE,.slice a2 x.rows.length c2,.bool x.aB,.int .i64 x.ah.k,.int .i64 x.ah.v.1,.int .i64 x.ah.v.2.1,.string x.ah.v.2.2,.string x.ah.aH,.string x.ah.name,.slice a3 x.ah.ks.length c3]=wE at *
   have L0:bG (fun b=>w.heap.size≤b) wE x [.int .i64 x.kind,.string x.name,.slice a1 x.bx.length c1,.slice p1 x.query.parts.length d1,.slice p2 x.query.ops.length d2,.slice p3 x.query.order.length d3,.int .i64 x.query.aE,.slice a2 x.rows.length c2,.bool x.aB,.int .i64 x.ah.k,.int .i64 x.ah.v.1,.int .i64 x.ah.v.2.1,.string x.ah.v.2.2,.string x.ah.aH,.string x.ah.name,.slice a3 x.ah.ks.length c3]:=bZ.mono (fun b h _=>by have:w.heap.size<b:=h; show _≤b; omega) (bZ.next (hkE.k (by show ¬ _; omega)) HK4033.out)
   exact C0 (v:=.agg #[.int .i64 x.kind,.string x.name,.slice a1 x.bx.length c1,.slice p1 x.query.parts.length d1,.slice p2 x.query.ops.length d2,.slice p3 x.query.order.length d3,.int .i64 x.query.aE,.slice a2 x.rows.length c2,.bool x.aB,.int .i64 x.ah.k,.int .i64 x.ah.v.1,.int .i64 x.ah.v.2.1,.string x.ah.v.2.2,.string x.ah.aH,.string x.ah.name,.slice a3 x.ah.ks.length c3]) (results_cell_row Tryz.results100 _ _ _ _ _ _ _ rfl QE Tryz.underlying57 rfl dh) rfl (Ends.bV (x:=x) rfl hbE (oL.of L0) hRE)
 ·have hsz:=hx4.size;have con2509:=aM HR5.out ⟨#[99,114,101,97,116,101]⟩;rw [hi8,bP hi8] at con2509;have hm:=HM0.out;simp only [hi8,if_true] at hm;have HM2514:Hid _:=hm;clear hm HM0 HR5;go_wp2_with fail
  refine con2509.mono ?_;rintro e w2510 ⟨rfl,hR,hb2511⟩;have HR2513:Hid (au w2510 R tb (az ts) 0):=hR;have hx2512:=hx4.trans hb2511;have Q2515:=(hb2511.2 _ (lt_of_heap Q2) (by omega)).trans Q2;clear Q2;clear con2509 hR hb2511 hx4 hsz hi8;have hsz:=hx2512.size;have con2516:=rO HR2513.out;have hm:=HM2514.out;generalize gV (az ts)=L at hm con2516;have HM2520:Hid _:=hm;clear hm HM2514 HR2513;have hl_g6:=lt_of_heap Q2515;go_wp2_with fail
  refine con2516.mono ?_;rintro e w2517 ⟨hb2518,hW⟩;have hx2519:=hx2512.trans hb2518;have Q2522:=(hb2518.2 _ (lt_of_heap Q2515) (by omega)).trans Q2515;clear Q2515;clear con2516 hb2518 hx2512;rcases L with ce | ⟨x,r2521⟩
  ·obtain ⟨rfl,us,hE⟩:=hW;have HE:Hid (au w2517 R tb us 0):=hE;clear hE;have e:M = .error ce:=HM2520.out.symm;subst e;clear HM2520;go_wp2_with fail
   exact ⟨rfl,Ends.err rfl hx2519 HE.out⟩
  obtain ⟨v,rfl,⟨a1,c1,p1,d1,p2,d2,p3,d3,a2,c2,a3,c3,rfl,h1,h2,h3,h4,h5,h6⟩,hR⟩:=hW;have HR2523:Hid (au w2517 R tb r2521 0):=hR;have hm:=HM2520.out;try simp only [bg] at hm
  have HM2524:Hid _:=hm;clear hm hR HM2520
  have HK2525:Hid (bG (fun b=>w.heap.size<b) w2517 x [.int .i64 x.kind,.string x.name,.slice a1 x.bx.length c1,.slice p1 x.query.parts.length d1,.slice p2 x.query.ops.length d2,.slice p3 x.query.order.length d3,.int .i64 x.query.aE,.slice a2 x.rows.length c2,.bool x.aB,.int .i64 x.ah.k,.int .i64 x.ah.v.1,.int .i64 x.ah.v.2.1,.string x.ah.v.2.2,.string x.ah.aH,.string x.ah.name,.slice a3 x.ah.ks.length c3]):=bZ.mono (S:=fun b=>w2510.heap.size≤b) (fun b h _=>by have:_≤b:=h; show w.heap.size<b; omega) (⟨a1,c1,p1,d1,p2,d2,p3,d3,a2,c2,a3,c3,rfl,h1,h2,h3,h4,h5,h6⟩)
  clear h1 h2 h3 h4 h5 h6;clear hsz hl_g6;have e:=HM2524.out;subst e;clear HM2524;go_wp2_with (first | (refine wpList_store_row rfl 57 _ _ rfl w.heap.size #[.int .i64 x.kind,.string x.name,.slice a1 x.bx.length c1,.slice p1 x.query.parts.length d1,.slice p2 x.query.ops.length d2,.slice p3 x.query.order.length d3,.int .i64 x.query.aE,.slice a2 x.rows.length c2,.bool x.aB,.int .i64 x.ah.k,.int .i64 x.ah.v.1,.int .i64 x.ah.v.2.1,.string x.ah.v.2.2,.string x.ah.aH,.string x.ah.name,.slice a3 x.ah.ks.length c3] rfl rfl 57 bL Q2522 dh rfl (fX rfl) ?_))
  obtain ⟨QE,hRE,hbE,hkE⟩:=fR (w:=w) Q2522 HR2523.out hx2519 (by omega) hltR hltT #[.int .i64 x.kind,.string x.name,.slice a1 x.bx.length c1,.slice p1 x.query.parts.length d1,.slice p2 x.query.ops.length d2,.slice p3 x.query.order.length d3,.int .i64 x.query.aE,.slice a2 x.rows.length c2,.bool x.aB,.int .i64 x.ah.k,.int .i64 x.ah.v.1,.int .i64 x.ah.v.2.1,.string x.ah.v.2.2,.string x.ah.aH,.string x.ah.name,.slice a3 x.ah.ks.length c3]
  generalize w2517.setRow w.heap.size #[.int .i64 x.kind,.string x.name,.slice a1 x.bx.length c1,.slice p1 x.query.parts.length d1,.slice p2 x.query.ops.length d2,.slice p3 x.query.order.length d3,.int .i64 x.query.aE,.slice a2 x.rows.length c2,.bool x.aB,.int .i64 x.ah.k,.int .i64 x.ah.v.1,.int .i64 x.ah.v.2.1,.string x.ah.v.2.2,.string x.ah.aH,.string x.ah.name,.slice a3 x.ah.ks.length c3]=wE at *
  have L0:bG (fun b=>w.heap.size≤b) wE x [.int .i64 x.kind,.string x.name,.slice a1 x.bx.length c1,.slice p1 x.query.parts.length d1,.slice p2 x.query.ops.length d2,.slice p3 x.query.order.length d3,.int .i64 x.query.aE,.slice a2 x.rows.length c2,.bool x.aB,.int .i64 x.ah.k,.int .i64 x.ah.v.1,.int .i64 x.ah.v.2.1,.string x.ah.v.2.2,.string x.ah.aH,.string x.ah.name,.slice a3 x.ah.ks.length c3]:=bZ.mono (fun b h _=>by have:w.heap.size<b:=h; show _≤b; omega) (bZ.next (hkE.k (by show ¬ _; omega)) HK2525.out)
  exact C0 (v:=.agg #[.int .i64 x.kind,.string x.name,.slice a1 x.bx.length c1,.slice p1 x.query.parts.length d1,.slice p2 x.query.ops.length d2,.slice p3 x.query.order.length d3,.int .i64 x.query.aE,.slice a2 x.rows.length c2,.bool x.aB,.int .i64 x.ah.k,.int .i64 x.ah.v.1,.int .i64 x.ah.v.2.1,.string x.ah.v.2.2,.string x.ah.aH,.string x.ah.name,.slice a3 x.ah.ks.length c3]) (results_cell_row Tryz.results100 _ _ _ _ _ _ _ rfl QE Tryz.underlying57 rfl dh) rfl (Ends.bV (x:=x) rfl hbE (oL.of L0) hRE)
theorem zl:(Tryz.prog.info? 57).map (fun i=>(i.zero,i.size,i.bytes))=some (some (.agg bL),16,256):=by kernel_rfl
theorem nA {w:World} {R tb:Nat} {ts:List Tk} (h:au w R tb ts 0):Calls Tryz.prog 67 #[.pointer (some ⟨R,0,none⟩)] w (Ends R tb 0 w (zp bG 16 w.heap.size) (cT 61 [] ts)):=by
 obtain ⟨i0,hi,hj0,hj1,hj2⟩:=info_parts zl;have hltR:=h.lt;have hltT:=h.j5;have HR0:Hid (au w R tb ts 0):=h;generalize hM:cT 61 [] ts=M;have HM:Hid (cT 61 [] ts=M):=hM;clear h hM;go_enter Tryz.func67,Tryz.ntmps67;go_wp2_with fail
 go_loopg [3] 61 (fun m ow wr=>∃ (ov:Value) (acc:List cW) (us:List Tk),ov=ow∧Hid (m+acc.length=61)∧Hid (acc.length≤60)∧Hid (cT m acc us=M)∧af R w wr∧Hid (au wr R tb us 0)∧Hid (aQ bG 57 16 w.heap.size (fun b=>w.heap.size≤b) wr ov acc))
 case atStart=>exact ⟨_,[],ts,rfl,by show _=_; simp,by show _≤_; simp,HM,af.refl _ _,HR0,aQ.nil _ _ _ _ _ _⟩
 case round =>
  clear HM HR0;obtain ⟨ov,acc,us,rfl,hn,hacc,HL,hx,HR,HO⟩:=hrel;obtain ⟨m,rfl⟩:∃ m,gk=m+1:=⟨gk - 1,by have:=hn.out; have:=hacc.out; omega⟩
  have hzr:=hx.size;have HL2:=HL.out;rw [cT] at HL2;have hR0:=HR.out;obtain ⟨t,r,rfl⟩:=hR0.gQ.ne;have con0:=iT hR0;obtain ⟨a0,c0,e0⟩:=HO.out.len;subst e0;clear HL hR0;go_wp2_with fail
  refine con0.mono ?_;rintro e w1 ⟨rfl,hb1⟩;have hf1:=dR (.string t.2.1) (.int .i64 t.2.2) t.1 w1;have hx1:af R w w1:=hx.trans (.of hb1 (by omega));have H1:Hid (au w1 R tb (t :: r) 0):=HR.out.next hb1;have HO1:Hid (aQ bG 57 16 w.heap.size (fun b=>w.heap.size≤b) w1 (.slice a0 acc.length c0) acc):=HO.out.next bZ hb1;have hz1:=hb1.size;clear con0 HR HO;by_cases h5:t.1=5
  ·have b5:(t.1 != 5)=false:=by simpa using h5
   rw [if_pos (by simpa [cy] using h5)] at HL2;subst HL2;obtain ⟨av,cv,ev,hls⟩:=HO1.out.ls bZ (fun _ h=>h);obtain ⟨rfl,rfl⟩:a0=av∧c0=cv:=by simpa using ev
   have HK:Hid (aI bG 16 (fun b=>w.heap.size≤b) w1 a0 acc):=hls;clear hls HO1 ev h5;go_wp2_with fail
   refine C0 (v:=.slice a0 acc.length c0) (by simp [results,Tryz.results67,go_sem]) rfl ?_;exact Ends.bV rfl hx1 ⟨a0,c0,rfl,HK.out⟩ H1.out
  have b5:(t.1 != 5)=true:=by simpa using h5
  rw [if_neg (by simpa [cy] using h5)] at HL2;clear h5;by_cases hbig:(acc.length:Int) ≥ 60
  ·have con1:=fH H1.out hbig;rw [if_pos hbig] at HL2;subst HL2;clear HO1 hbig;go_wp2_with fail
   refine con1.mono ?_;rintro e w5 ⟨rfl,hb5⟩;go_wp2_with fail
   exact ⟨rfl,Ends.err rfl (hx1.trans (.of hb5 (by omega))) (H1.out.next hb5)⟩
  have con1:=hX (w:=w1) (R:=R) (n:=(acc.length:Int)) (most:=60) (by omega);rw [if_neg hbig] at HL2;have HM1:Hid _:=HL2;have HB:Hid (¬ (acc.length:Int) ≥ 60):=hbig;clear HL2 hbig;go_wp2_with fail
  refine con1.mono ?_;rintro e w5 ⟨rfl,hb5⟩;have hx5:=hx1.trans (.of hb5 (by omega));have hz5:=hb5.size;have HO5:Hid (aQ bG 57 16 w.heap.size (fun b=>w.heap.size≤b) w5 (.slice a0 acc.length c0) acc):=HO1.out.next bZ hb5;have hR5:=H1.out.next hb5;have con2:=oI hR5;have hm:=HM1.out;generalize dD (t :: r)=L at hm con2;have HM2:Hid _:=hm;clear con1 hR5 HO1 H1 hm HM1 hf1;go_wp2_with fail
  refine con2.mono ?_;rintro e w3 ⟨hb3,hW⟩;have hx3:=hx5.trans hb3;have hz3:=hb3.size;clear con2;rcases L with ce | ⟨x,r3⟩
  ·obtain ⟨rfl,us',hE⟩:=hW;have HE:Hid (au w3 R tb us' 0):=hE;clear hE;have e:M = .error ce:=HM2.out.symm;subst e;clear HM2;go_wp2_with fail
   exact ⟨rfl,Ends.err rfl hx3 HE.out⟩
  obtain ⟨v,rfl,⟨a1,c1,p1,d1,p2,d2,p3,d3,a2,c2,a3,c3,rfl,h1,h2,h3,h4,h5,h6⟩,hR3⟩:=hW;have HR3:Hid (au w3 R tb r3 0):=hR3;have hm:=HM2.out;simp only [bg] at hm;have HM3:Hid _:=hm
  have HX3:bG (fun b=>w5.heap.size≤b) w3 x [.int .i64 x.kind,.string x.name,.slice a1 x.bx.length c1,.slice p1 x.query.parts.length d1,.slice p2 x.query.ops.length d2,.slice p3 x.query.order.length d3,.int .i64 x.query.aE,.slice a2 x.rows.length c2,.bool x.aB,.int .i64 x.ah.k,.int .i64 x.ah.v.1,.int .i64 x.ah.v.2.1,.string x.ah.v.2.2,.string x.ah.aH,.string x.ah.name,.slice a3 x.ah.ks.length c3]:=⟨a1,c1,p1,d1,p2,d2,p3,d3,a2,c2,a3,c3,rfl,h1,h2,h3,h4,h5,h6⟩
  have hal4:=ab w3 (.cells #[.int .i64 x.kind,.string x.name,.slice a1 x.bx.length c1,.slice p1 x.query.parts.length d1,.slice p2 x.query.ops.length d2,.slice p3 x.query.order.length d3,.int .i64 x.query.aE,.slice a2 x.rows.length c2,.bool x.aB,.int .i64 x.ah.k,.int .i64 x.ah.v.1,.int .i64 x.ah.v.2.1,.string x.ah.v.2.2,.string x.ah.aH,.string x.ah.name,.slice a3 x.ah.ks.length c3] 57)
  have q4:=ar w3 #[.int .i64 x.kind,.string x.name,.slice a1 x.bx.length c1,.slice p1 x.query.parts.length d1,.slice p2 x.query.ops.length d2,.slice p3 x.query.order.length d3,.int .i64 x.query.aE,.slice a2 x.rows.length c2,.bool x.aB,.int .i64 x.ah.k,.int .i64 x.ah.v.1,.int .i64 x.ah.v.2.1,.string x.ah.v.2.2,.string x.ah.aH,.string x.ah.name,.slice a3 x.ah.ks.length c3] 57;have O3:aQ bG 57 16 w.heap.size (fun b=>w.heap.size≤b) w3 (.slice a0 acc.length c0) acc:=HO5.out.bz bZ (fun _ h=>h) (hb3.k1.k (by show ¬ w.heap.size≤R; omega));have hnb:=HO5.out.lt
  obtain ⟨ys,o4,en4⟩:=O3.next bZ hal4
  have HKS:Hid (bG (fun b=>w5.heap.size≤b) (w3.alloc (.cells #[.int .i64 x.kind,.string x.name,.slice a1 x.bx.length c1,.slice p1 x.query.parts.length d1,.slice p2 x.query.ops.length d2,.slice p3 x.query.order.length d3,.int .i64 x.query.aE,.slice a2 x.rows.length c2,.bool x.aB,.int .i64 x.ah.k,.int .i64 x.ah.v.1,.int .i64 x.ah.v.2.1,.string x.ah.v.2.2,.string x.ah.aH,.string x.ah.name,.slice a3 x.ah.ks.length c3] 57)) x [.int .i64 x.kind,.string x.name,.slice a1 x.bx.length c1,.slice p1 x.query.parts.length d1,.slice p2 x.query.ops.length d2,.slice p3 x.query.order.length d3,.int .i64 x.query.aE,.slice a2 x.rows.length c2,.bool x.aB,.int .i64 x.ah.k,.int .i64 x.ah.v.1,.int .i64 x.ah.v.2.1,.string x.ah.v.2.2,.string x.ah.aH,.string x.ah.name,.slice a3 x.ah.ks.length c3]):=bZ.next (ay.of hal4) HX3
  have EN4:Hid (∀ (i:Nat) (h:i<acc.length),∃ cs,cs.length=16∧(∀ j,j<16→ys[i*16+j]? = cs[j]?)∧bG (oT (fun b=>w.heap.size≤b) (.slice a0 acc.length c0) (w3.alloc (.cells #[.int .i64 x.kind,.string x.name,.slice a1 x.bx.length c1,.slice p1 x.query.parts.length d1,.slice p2 x.query.ops.length d2,.slice p3 x.query.order.length d3,.int .i64 x.query.aE,.slice a2 x.rows.length c2,.bool x.aB,.int .i64 x.ah.k,.int .i64 x.ah.v.1,.int .i64 x.ah.v.2.1,.string x.ah.v.2.2,.string x.ah.aH,.string x.ah.name,.slice a3 x.ah.ks.length c3] 57))) (w3.alloc (.cells #[.int .i64 x.kind,.string x.name,.slice a1 x.bx.length c1,.slice p1 x.query.parts.length d1,.slice p2 x.query.ops.length d2,.slice p3 x.query.order.length d3,.int .i64 x.query.aE,.slice a2 x.rows.length c2,.bool x.aB,.int .i64 x.ah.k,.int .i64 x.ah.v.1,.int .i64 x.ah.v.2.1,.string x.ah.v.2.2,.string x.ah.aH,.string x.ah.name,.slice a3 x.ah.ks.length c3] 57)) acc[i] cs):=en4
  clear hR3 hm HM2 O3 en4 HX3 h1 h2 h3 h4 h5 h6 HO5
  go_wp2_with (first | (at_builtin; refine aX rfl _ _ 22 rfl w.heap.size 57 i0 _ 16 256 Tryz.underlying22 hi hj0 hj1 hj2 rfl (by decide) _ _ _ rfl o4 ⟨w3.heap.size,0,none⟩ 1 1 [.int .i64 x.kind,.string x.name,.slice a1 x.bx.length c1,.slice p1 x.query.parts.length d1,.slice p2 x.query.ops.length d2,.slice p3 x.query.order.length d3,.int .i64 x.query.aE,.slice a2 x.rows.length c2,.bool x.aB,.int .i64 x.ah.k,.int .i64 x.ah.v.1,.int .i64 x.ah.v.2.1,.string x.ah.v.2.2,.string x.ah.aH,.string x.ah.name,.slice a3 x.ah.ks.length c3] rfl rfl ?Ac1 ?Ac2 ?Ac3 ?Ac4 ?Ac5 ?_))
  case Ac1 =>
   intro i u hu;rw [bF,Dr];exact cell_of (i:=i) q4 (by rw [← hu]; simp)
  case Ac2=>exact fun u hu=>List.all_eq_true.1 (rfl:List.all [.int .i64 x.kind,.string x.name,.slice a1 x.bx.length c1,.slice p1 x.query.parts.length d1,.slice p2 x.query.ops.length d2,.slice p3 x.query.order.length d3,.int .i64 x.query.aE,.slice a2 x.rows.length c2,.bool x.aB,.int .i64 x.ah.k,.int .i64 x.ah.v.1,.int .i64 x.ah.v.2.1,.string x.ah.v.2.2,.string x.ah.aH,.string x.ah.name,.slice a3 x.ah.ks.length c3] (·.oneCell')=true) u hu
  case Ac3=>unfold maxLen; have:=hacc.out; omega
  case Ac4=>have:=hacc.out; omega
  case Ac5=>have:=hal4.size; omega
  intro v' w6 o5 g5 hd5;have z5:=g5.size;have hz4:=hal4.size;have O5:Hid (aQ bG 57 16 w.heap.size (fun b=>w.heap.size≤b) w6 v' (acc ++ [x])):=aQ.push bZ o4 EN4.out rfl (bZ.mono (fun b h1 h2=>⟨by have:w5.heap.size≤b:=h1; show w.heap.size≤b; omega,h2,fun e=>by have:=(hnb b e).2; have:w5.heap.size≤b:=h1; omega⟩) HKS.out) o5 g5 (by simpa using hd5);have D5:Below w.heap.size w3 w6:=(hal4.mono (by omega)).trans ((CY _ _).grown g5 (by omega) (fun q hq=>by have:=(hnb q hq).1; omega));have hx6:af R w w6:=hx3.low D5 (CX _) (by omega);have H6:=HR3.out.low D5 hltR hltT
  have hal7:=ab w6 (.cells #[.string ⟨#[59]⟩] 9);have con7:=cz (cap:=1) (H6.next hal7) (cj.one w6 ⟨#[59]⟩ 9) (by omega) (by simp);have hm:=HM3.out;generalize aS [⟨#[59]⟩] r3=L at hm con7;have HM4:Hid _:=hm;clear o4 EN4 o5 g5 hd5 HKS q4 HR3 hal4 hm HM3 H6;go_wp2_with fail
  generalize w6.alloc (.cells #[.string ⟨#[59]⟩] 9)=wa at *;refine con7.mono ?_;rintro e w8 ⟨hb8,hW⟩;have hxa:af R w6 w8:=(af.of hal7 (by omega)).trans hb8;have hx8:=hx6.trans hxa;have O8:Hid (aQ bG 57 16 w.heap.size (fun b=>w.heap.size≤b) w8 v' (acc ++ [x])):=O5.out.bz bZ (fun _ h=>h) (hxa.k1.k (by show ¬ w.heap.size≤R; omega));clear con7;rcases L with ce | ⟨u8,r8⟩
  ·obtain ⟨rfl,us',hE⟩:=hW;have HE:Hid (au w8 R tb us' 0):=hE;clear hE;have e:M = .error ce:=HM4.out.symm;subst e;clear HM4;go_wp2_with fail
   exact ⟨rfl,Ends.err rfl hx8 HE.out⟩
  obtain ⟨v,rfl,rfl,hR8⟩:=hW;have hm:=HM4.out;simp only [bg] at hm;have HM5:Hid _:=hm;have HR8:Hid (au w8 R tb r8 0):=hR8;clear hm HM4 hR8;go_wp2_with fail
  go_roundg m
  case measure=>omega
  case rel=>exact ⟨_,acc ++ [x],r8,rfl,by show _=_; have:=hn.out; simp; omega,by show _≤_; have:=hacc.out; have:=HB.out; simp; omega,HM5,hx8,HR8,O8⟩
set_option maxHeartbeats 4000000
def eJ (l:List UInt8):ByteArray:=⟨l.toArray⟩
def dQ (f:Int→Bool) (l:List UInt8):Nat:=eM f (l.map fun c=>(c.toNat:Int))
def gB:List (List UInt8):=[[60,62],[60,61],[62,61],[124,124],[60],[62],[61],[43],[45],[42],[40],[41],[44],[46],[59]]
abbrev TR:Type:=Except Er (Tk × Nat)
def gR (l:List UInt8) (p:Int):List (List UInt8)→TR
 | []=>.error (2,p)
 | g :: gs=>if Lib.hasPrefix l g then .ok ((4,eJ g,p),g.length) else gR l p gs
def jL (p:Int) (k:Nat) (out:List UInt8):TR:=if out.length > 60 then .error (4,p) else .ok ((3,eJ out,p),k+1)
def dt (p:Int):List UInt8→Nat→List UInt8→TR
 | [],_,_=>.error (2,p)
 | [c],k,out=>if c=39 then jL p k out else .error (2,p)
 | c :: d :: r,k,out=>if c=39 then (if d=39 then dt p r (k+2) (out ++ [39]) else jL p k out) else dt p (d :: r) (k+1) (out ++ [c])
def hI (l:List UInt8) (p:Int):TR:=if dQ fx l > 16 then .error (3,p) else .ok ((2,eJ (l.take (dQ fx l)),p),dQ fx l)
def ff (l:List UInt8) (p:Int):TR :=
 if gK (((l.headD 0).toNat:Nat):Int) then .ok ((1,eJ (l.take (dQ gd l)),p),dQ gd l)
 else if fx (((l.headD 0).toNat:Nat):Int) then hI l p
 else if l.headD 0=39 then dt p l.tail 1 []
 else gR l p gB
def jd:Nat→List UInt8→Int→Except Er (List Tk)
 | 0,_,_=>.error (-1,0)
 | n+1,l,p=>if l = [] then .ok [(5,eB,p)] else
  match ff l p with
  | .error e=>.error e
  | .ok (t,j)=>match jd n ((l.drop j).drop (dQ ez (l.drop j))) (p+j+dQ ez (l.drop j)) with
   | .error e=>.error e
   | .ok ts=>.ok (t :: ts)
def jb (s:ByteArray):Except Er (List Tk):=jd (s.size+1) (s.data.toList.drop (dQ ez s.data.toList)) (dQ ez s.data.toList)
def eF {α:Type} (w:World) (V:Value→α→Prop) (r:Except Er α) (e:Ending) (w':World):Prop :=
 Below w.heap.size w w'∧match r with
  | .ok x=>∃ v,e = .returned v∧V v x
  | .error c=>e = .panicked [gn c.1 c.2]
def AK (p:Int) (v:Value) (x:Tk × Nat):Prop:=v = .tuple #[.agg #[.int .i64 x.1.1,.string x.1.2.1,.int .i64 x.1.2.2],.int .i64 (p+x.2)]
theorem eF.err {α:Type} {w w':World} {V:Value→α→Prop} {r:Except Er α} {c:Er} (hr:r = .error c) (hb:Below w.heap.size w w'):eF w V r (.panicked [gn c.1 c.2]) w':=by subst hr; exact ⟨hb,rfl⟩
theorem eF.bV {α:Type} {w w':World} {V:Value→α→Prop} {r:Except Er α} {x:α} {v:Value} (hr:r = .ok x) (hb:Below w.heap.size w w') (hv:V v x):eF w V r (.returned v) w':=by subst hr; exact ⟨hb,v,rfl,hv⟩
theorem Ap (s:ByteArray):lb s=s.data.toList.map fun c=>(c.toNat:Int):=rfl
theorem jC (f:Int→Bool) (s:ByteArray) (i:Nat):eM f ((lb s).drop i)=dQ f (s.data.toList.drop i):=by rw [Ap,dQ,List.map_drop]
theorem qJ (f:Int→Bool):∀ l,eM f l≤l.length
 | []=>CX _
 | c :: r=>by rw [eM]; split <;> simp; exact qJ f r
theorem iU (f:Int→Bool) (l:List UInt8):dQ f l≤l.length:=by have:=qJ f (l.map fun c=>((c.toNat:Nat):Int)); simpa [dQ] using this
theorem lB (s:ByteArray) (i n:Nat):s.extract i (i+n)=eJ ((s.data.toList.drop i).take n):=by
 apply ByteArray.ext;apply Array.ext';simp [eJ,ByteArray.data_extract]
theorem mZ (s p:ByteArray) (w:World):Calls Tryz.prog 187 #[.string s,.string p] w fun e w'=>e = .returned (.bool (Lib.hasPrefix s.data.toList p.data.toList))∧w'=w:=by
 rw [← Lib.hasPrefix_of_take,← Lib.size_eq,← Lib.size_eq];go_enter Tryz.func187,Tryz.ntmps187;go_wp2
 ·rename_i h
  go_ret;refine ⟨?_,rfl⟩;show Ending.returned (Value.bool ((s.extract 0 p.size).toList == p.toList))=_;rw [Lib.extract_toList,Lib.toList_data];simp [h]
 ·rename_i h
  go_ret;refine ⟨?_,rfl⟩;show Ending.returned (Value.bool false)=_;simp [h]
theorem kL (s p:ByteArray) (w:World):Calls Tryz.prog 151 #[.string s,.string p] w fun e w'=>e = .returned (.bool (Lib.hasPrefix s.data.toList p.data.toList))∧w'=w:=by
 have con:=mZ s p w;generalize Lib.hasPrefix s.data.toList p.data.toList=b at *;go_enter Tryz.func151,Tryz.ntmps151;go_wp2_with fail
 refine con.mono ?_;rintro e w1 ⟨rfl,rfl⟩;go_wp2_with fail
 exact C0 (results_tmp rfl _ _ _) rfl ⟨by first | rfl | trivial,by first | rfl | trivial⟩
theorem qx (s:ByteArray) (i:Nat) (hi:i<s.size) (hs:s.size≤4000) (w:World):Calls Tryz.prog 125 #[.string s,.int .i64 i] w (eF w (AK i) (hI (s.data.toList.drop i) i)):=by
 have hal:=ab w (.cells #[.int .i64 0,.string ⟨#[]⟩,.int .i64 0] 152);have con:=lP 85 (fun _ _=>by kernel_rfl) fx (fun c w=>kY c w) s i (by omega) hs (w.alloc (.cells #[.int .i64 0,.string ⟨#[]⟩,.int .i64 0] 152));rw [jC] at con;have hle:i+dQ fx (s.data.toList.drop i)≤s.size:=by have:=iU fx (s.data.toList.drop i); rw [DA,Dl] at this; show _≤s.data.size; have:i<s.data.size:=hi; omega
 have hex:=lB s i (dQ fx (s.data.toList.drop i));have QZ0:=ar w #[.int .i64 0,.string ⟨#[]⟩,.int .i64 0] 152;generalize hM:hI (s.data.toList.drop i) i=M;rw [hI] at hM;have HM:Hid _:=hM;generalize dQ fx (s.data.toList.drop i)=k at *;generalize eJ (List.take k (s.data.toList.drop i))=tx at *;clear hM;by_cases hk:k > 16
 ·have e:M = .error (3,(i:Int)):=by rw [← HM.out,if_pos hk]
  subst e;have hkz:(16:Int)<((i+k:Nat):Int) - (i:Int):=by omega
  clear HM hex;go_enter Tryz.func125,Tryz.ntmps125;go_wp2_with fail
  generalize w.alloc (.cells #[.int .i64 0,.string ⟨#[]⟩,.int .i64 0] 152)=w1 at *;refine con.mono ?_;rintro e w2 ⟨rfl,rfl⟩;have conf:=eG 3 i w2;go_wp2_with fail
  refine conf.mono ?_;rintro e w3 ⟨rfl,hb3⟩;go_wp2_with fail
  exact ⟨rfl,eF.err rfl (chain hal hb3)⟩
 ·have e:M = .ok ((2,tx,(i:Int)),k):=by rw [← HM.out,if_neg hk]
  subst e;have hkz:¬ (16:Int)<((i+k:Nat):Int) - (i:Int):=by omega
  have hle2:i≤i+k:=by omega
  clear HM;go_enter Tryz.func125,Tryz.ntmps125;go_wp2_with fail
  generalize w.alloc (.cells #[.int .i64 0,.string ⟨#[]⟩,.int .i64 0] 152)=w1 at *;refine con.mono ?_;rintro e w2 ⟨rfl,rfl⟩;obtain ⟨z0,z1,z2⟩:=cu QZ0;obtain ⟨y0,y1,y2⟩:=gS QZ0;go_wp2_with fail
  have QE:=eV QZ0 (.int .i64 2) (.string tx) (.int .i64 i);have hbE:=jH hal (CX _) (.int .i64 2) (.string tx) (.int .i64 i);generalize (((w2.setCell ⟨w.heap.size,0,none⟩ (.int .i64 2)).setCell ⟨w.heap.size,1,none⟩ (.string tx)).setCell ⟨w.heap.size,2,none⟩ (.int .i64 i))=wE at *;obtain ⟨x0,x1,x2⟩:=cu QE;exact C0 (v:=.tuple #[.agg #[.int .i64 2,.string tx,.int .i64 i],.int .i64 ((i+k:Nat):Int)]) (by simp [results,Tryz.results125,go_sem,x0,x1,x2]) rfl (eF.bV rfl hbE (by simp [AK]))
def CM (v:Value) (x:Tk):Prop:=v = .agg #[.int .i64 x.1,.string x.2.1,.int .i64 x.2.2]
theorem wR (s:ByteArray) (p:Int) (w:World):Calls Tryz.prog 152 #[.string s,.int .i64 p] w (eF w CM (if s.size > 60 then .error (4,p) else .ok (3,s,p))):=by
 have hal:=ab w (.cells #[.int .i64 0,.string ⟨#[]⟩,.int .i64 0] 152);have QZ0:=ar w #[.int .i64 0,.string ⟨#[]⟩,.int .i64 0] 152;by_cases hk:s.size > 60
 ·rw [if_pos hk];have hkz:(60:Int)<(s.size:Int):=by omega
  have conf:=eG 4 p (w.alloc (.cells #[.int .i64 0,.string ⟨#[]⟩,.int .i64 0] 152));go_enter Tryz.func152,Tryz.ntmps152;go_wp2_with fail
  generalize w.alloc (.cells #[.int .i64 0,.string ⟨#[]⟩,.int .i64 0] 152)=w1 at *;refine conf.mono ?_;rintro e w3 ⟨rfl,hb3⟩;go_wp2_with fail
  exact ⟨rfl,eF.err rfl (chain hal hb3)⟩
 ·rw [if_neg hk];have hkz:¬ (60:Int)<(s.size:Int):=by omega
  go_enter Tryz.func152,Tryz.ntmps152;go_upto_region 1 with fail
  generalize w.alloc (.cells #[.int .i64 0,.string ⟨#[]⟩,.int .i64 0] 152)=w2 at *;obtain ⟨z0,z1,z2⟩:=cu QZ0;obtain ⟨y0,y1,y2⟩:=gS QZ0;go_wp2_with fail
  have QE:=eV QZ0 (.int .i64 3) (.string s) (.int .i64 p);have hbE:=jH hal (CX _) (.int .i64 3) (.string s) (.int .i64 p);generalize (((w2.setCell ⟨w.heap.size,0,none⟩ (.int .i64 3)).setCell ⟨w.heap.size,1,none⟩ (.string s)).setCell ⟨w.heap.size,2,none⟩ (.int .i64 p))=wE at *;obtain ⟨x0,x1,x2⟩:=cu QE;exact C0 (v:=.agg #[.int .i64 3,.string s,.int .i64 p]) (by simp [results,Tryz.results152,go_sem,x0,x1,x2]) rfl (eF.bV rfl hbE rfl)
theorem qR {p:Int} {c:UInt8} (h:c≠39) (r:List UInt8) (k:Nat) (out:List UInt8):dt p (c :: r) k out=dt p r (k+1) (out ++ [c]):=by
 cases r with
 | nil=>simp [dt,h]
 | cons d r=>rw [dt,if_neg h]
theorem vd {p:Int} (r:List UInt8) (h:Lib.hasPrefix r [39]=false) (k:Nat) (out:List UInt8):dt p (39 :: r) k out=jL p k out:=by
 cases r with
 | nil=>rw [dt,if_pos rfl]
 | cons d r =>
  rw [dt,if_pos rfl,if_neg];rintro rfl;simp [Lib.hasPrefix,List.isPrefixOf] at h
theorem xa {p:Int} (r:List UInt8) (h:Lib.hasPrefix r [39]=true) (k:Nat) (out:List UInt8):∃ r',r=39 :: r'∧dt p (39 :: r) k out=dt p r' (k+2) (out ++ [39]):=by
 cases r with
 | nil=>simp [Lib.hasPrefix,List.isPrefixOf] at h
 | cons d r =>
  have:d=39:=by simp [Lib.hasPrefix,List.isPrefixOf] at h; exact h.symm
  subst this;exact ⟨r,rfl,by rw [dt,if_pos rfl,if_pos rfl]⟩
def Bv:ir UInt8:=fun _ _ x cs=>cs = [.int .u8 ((x.toNat:Nat):Int)]
theorem A7:fi Bv:=⟨fun _ h=>h,fun _ h=>h⟩
theorem nY:(Tryz.prog.info? 5).map (fun i=>(i.zero,i.size,i.bytes))=some (some (.int .u8 0),1,1):=by kernel_rfl
theorem sh {s:ByteArray} {i:Nat} (h:i<s.size):s.data.toList.drop i=s[i] :: s.data.toList.drop (i+1):=by
 rw [Da (by rw [Dl]; exact h),Array.getElem_toList];rfl
theorem lx (s:ByteArray) (i:Nat):(s.extract i s.size).data.toList=s.data.toList.drop i:=by
 simp [ByteArray.data_extract];exact List.take_of_length_le (by simp)
theorem aQ.str {e base:Nat} {S:Nat→Prop} {W:World} {v:Value} {l:List UInt8} (h:aQ Bv e 1 base S W v l) (src dst el:TypeId) (hs:Tryz.prog.underlying src=some (.slice el)) (he:Tryz.prog.underlying el=some (.int .u8)) (hd:Tryz.prog.underlying dst=some .string):(convert src dst v).run Tryz.prog W = .ok (.string (eJ l)) W:=by
 rcases h.fin A7 with ⟨rfl,rfl⟩ | ⟨g,cap,rfl,h1,h2,h3⟩
 ·exact Lib.run_convert_nil_bytes W src dst el 0 hs he hd
 ·refine run_convert_bytes_back W src dst el _ cap l hs he hd (fun j hj=>?_);obtain ⟨cs,c1,c2,rfl⟩:=h3 j hj;rw [bF];have:=c2 0 _ rfl
  simpa using this
theorem uC (s:ByteArray) (p:Nat) (hp:p<s.size) (hs:s.size≤4000) (w:World):Calls Tryz.prog 126 #[.string s,.int .i64 p] w (eF w (AK p) (dt p (s.data.toList.drop (p+1)) 1 [])):=by
 obtain ⟨i0,hi0,hj0,hj1,hj2⟩:=info_parts nY;have hal:=ab w (.cells #[.int .i64 0,.string ⟨#[]⟩,.int .i64 0] 152);have QZ0:=ar w #[.int .i64 0,.string ⟨#[]⟩,.int .i64 0] 152;generalize hM:dt p (s.data.toList.drop (p+1)) 1 []=M;have HM:Hid (dt p (s.data.toList.drop (p+1)) ((p+1) - p) []=M):=by show _=_; rw [← hM,show p+1 - p=1 by omega]
 clear hM;go_enter Tryz.func126,Tryz.ntmps126;go_upto_region 1 with fail
 generalize w.alloc (.cells #[.int .i64 0,.string ⟨#[]⟩,.int .i64 0] 152)=w1 at *;go_wp2_with fail
 go_loopw [6,7] (fun ow iv wr=>∃ (i:Nat) (out:List UInt8) (ov:Value),ov=ow∧iv = .int .i64 i∧p+1≤i∧i≤s.size∧Hid (dt p (s.data.toList.drop i) (i - p) out=M)∧Hid (out.length≤i)∧Below w.heap.size w wr∧wr.heap[w.heap.size]? = some (.cells #[.int .i64 0,.string ⟨#[]⟩,.int .i64 0] 152 (0,0))∧Hid (aQ Bv 5 1 (w.heap.size+1) (fun b=>w.heap.size<b) wr ov out)) (fun _ iv _=>s.size - (RowKit.intOf iv).toNat)
 case atStart=>exact ⟨p+1,[],_,rfl,by go_num,by omega,by omega,HM,by show _≤_; simp,hal,QZ0,aQ.nil _ _ _ _ _ _⟩
 case round =>
  clear HM hal QZ0;obtain ⟨i,out,ov,rfl,rfl,h1,h2,HL,hol,hx,QZ,HO⟩:=hrel;have hzw:=hx.size;by_cases hlt:i<s.size
  ·have hkz:(i:Int)<(s.size:Int):=by omega
   have hL:=HL.out;rw [sh hlt] at hL;obtain ⟨ac,cc,eo⟩:=HO.out.len;by_cases hc:s[i]=39
   ·have hcb:(((s[i].toNat:Nat):Int) == 39)=true:=by rw [hc]; rfl
    rw [hc] at hL;have con:=kL (s.extract (i+1) s.size) ⟨#[39]⟩ wr;rw [lx] at con;have hli:i+1≤s.size:=by omega
    rcases hq:Lib.hasPrefix (s.data.toList.drop (i+1)) [39] with _ | _
    ·have hcon:Lib.hasPrefix (s.data.toList.drop (i+1)) (⟨#[39]⟩:ByteArray).data.toList=false:=hq;rw [hcon] at con;rw [vd _ hq,jL] at hL;have hcv:=HO.out.str 24 9 5 Tryz.underlying24 (by kernel_rfl) (by kernel_rfl);have hsz:(eJ out).size=out.length:=by show out.toArray.size=_; simp
     have con2:=wR (eJ out) p wr;rw [hsz] at con2;have HML:Hid _:=hL;generalize hr:(if out.length > 60 then Except.error (4,(p:Int)) else .ok ((3:Int),eJ out,(p:Int)):Except Er Tk)=L at con2;have HR:Hid _:=hr;generalize eJ out=tx at *;clear HL hL hq hcon hr hc;subst eo;go_wp2_with fail
     refine con.mono ?_;rintro e w2 ⟨rfl,rfl⟩;go_wp2_with fail
     refine con2.mono ?_;rintro e w3 ⟨hb3,hW⟩;clear con con2;have hb:=chain hx hb3;have QZ3:=(hb3.block _ (lt_of_heap QZ)).trans QZ;by_cases hbig:out.length > 60
     ·have e1:L = .error (4,(p:Int)):=by rw [← HR.out,if_pos hbig]
      have e2:M = .error (4,(p:Int)):=by rw [← HML.out,if_pos hbig]
      subst e1 e2;obtain rfl:=hW;clear HR HML;go_wp2_with fail
      exact ⟨rfl,eF.err (c:=(4,(p:Int))) rfl hb⟩
     ·have e1:L = .ok ((3:Int),tx,(p:Int)):=by rw [← HR.out,if_neg hbig]
      have e2:M = .ok (((3:Int),tx,(p:Int)),i - p+1):=by rw [← HML.out,if_neg hbig]
      subst e1 e2;obtain ⟨v,rfl,rfl⟩:=hW;clear HR HML hbig;obtain ⟨z0,z1,z2⟩:=cu QZ3;obtain ⟨y0,y1,y2⟩:=gS QZ3;go_wp2_with fail
      have QE:=eV QZ3 (.int .i64 3) (.string tx) (.int .i64 p);have hbE:=jH hb (CX _) (.int .i64 3) (.string tx) (.int .i64 p);generalize (((w3.setCell ⟨w.heap.size,0,none⟩ (.int .i64 3)).setCell ⟨w.heap.size,1,none⟩ (.string tx)).setCell ⟨w.heap.size,2,none⟩ (.int .i64 p))=wE at *;obtain ⟨x0,x1,x2⟩:=cu QE;have hii:(i:Int)+1=(p:Int)+((i - p+1:Nat):Int):=by omega
      exact C0 (v:=.tuple #[.agg #[.int .i64 3,.string tx,.int .i64 p],.int .i64 ((i:Int)+1)]) (by simp [results,Tryz.results126,go_sem,x0,x1,x2]) rfl (eF.bV rfl hbE (by show _=_; rw [hii]))
    ·have hcon:Lib.hasPrefix (s.data.toList.drop (i+1)) (⟨#[39]⟩:ByteArray).data.toList=true:=hq;rw [hcon] at con;obtain ⟨r',er,et⟩:=xa (p:=(p:Int)) _ hq (i - p) out;rw [et] at hL;have hlt1:i+1<s.size:=by
      rcases DF (i+1) s.size with h | h
      ·exact h
      ·rw [Dh (by rw [Dl]; exact h)] at er; cases er
     rw [sh hlt1] at er;obtain ⟨hc1,rfl⟩:=List.cons.inj er;have hkz1:(i:Int)+1<(s.size:Int):=by omega
     have HL3:Hid (dt p (s.data.toList.drop (i+2)) (i+2 - p) (out ++ [39])=M):=by show _=_; rw [← hL,show i+2 - p=i - p+2 by omega]
     have hix:((s[i+1].toNat:Nat):Int)=39:=by rw [hc1]; rfl
     clear HL hL hq hcon et er hc;subst eo;go_wp2_with fail
     refine con.mono ?_;rintro e w2 ⟨rfl,rfl⟩;clear con;have hal4:=ab w2 (.cells #[.int .u8 39] 5);have q4:=ar w2 #[.int .u8 39] 5;have hnb:=HO.out.lt;have hlz:=lt_of_heap QZ;obtain ⟨ys,o4,en4⟩:=HO.out.next A7 hal4;go_wp2_with (first | (at_builtin; refine aX rfl _ _ 24 rfl (w.heap.size+1) 5 i0 _ 1 1 Tryz.underlying24 hi0 hj0 hj1 hj2 rfl (by decide) _ _ _ rfl o4 ⟨w2.heap.size,0,none⟩ 1 1 [.int .u8 39] rfl rfl ?Ac1 ?Ac2 ?Ac3 ?Ac4 ?Ac5 ?_))
     case Ac1 =>
      intro i u hu;rw [bF,Dr];exact cell_of (i:=i) q4 (by rw [← hu]; simp)
     case Ac2=>intro u hu; simp at hu; subst hu; rfl
     case Ac3=>unfold maxLen; have:=hol.out; omega
     case Ac4=>have:=hol.out; omega
     case Ac5=>have:=hal4.size; omega
     intro v' w6 o5 g5 hd5;have z5:=g5.size;have hz4:=hal4.size;have O5:Hid (aQ Bv 5 1 (w.heap.size+1) (fun b=>w.heap.size<b) w6 v' (out ++ [39])):=aQ.push A7 o4 en4 (cs:=[.int .u8 39]) rfl rfl o5 g5 (by simpa using hd5);have D5:Below (w.heap.size+1) w2 w6:=(hal4.mono (by omega)).trans ((CY _ _).grown g5 (by omega) (fun q hq=>by have:=(hnb q hq).1; omega));have QZ6:=(D5.block w.heap.size (by omega)).trans QZ;have hx6:Below w.heap.size w w6:=hx.trans (D5.mono (by omega));clear o4 en4 o5 g5 hd5 q4 hal4 HO QZ hx;go_wp2_with fail
     go_roundw
     case rel=>exact ⟨i+2,out ++ [39],_,rfl,by go_num,by omega,by omega,HL3,by show _≤_; have:=hol.out; simp; omega,hx6,QZ6,O5⟩
     case measure=>simp [RowKit.intOf]; omega
   ·have hcb:(((s[i].toNat:Nat):Int) == 39)=false:=by
     rw [beq_eq_false_iff_ne];intro e;exact hc (UInt8.toNat_inj.1 (by have:(39:UInt8).toNat=39:=rfl; omega))
    rw [qR hc] at hL;have HL3:Hid (dt p (s.data.toList.drop (i+1)) (i+1 - p) (out ++ [s[i]])=M):=by show _=_; rw [← hL,show i+1 - p=i - p+1 by omega]
    clear HL hL hc;subst eo;have hal4:=ab wr (.cells #[.int .u8 ((s[i].toNat:Nat):Int)] 5);have q4:=ar wr #[.int .u8 ((s[i].toNat:Nat):Int)] 5;have hnb:=HO.out.lt;have hlz:=lt_of_heap QZ;obtain ⟨ys,o4,en4⟩:=HO.out.next A7 hal4;go_wp2_with (first | (at_builtin; refine aX rfl _ _ 24 rfl (w.heap.size+1) 5 i0 _ 1 1 Tryz.underlying24 hi0 hj0 hj1 hj2 rfl (by decide) _ _ _ rfl o4 ⟨wr.heap.size,0,none⟩ 1 1 [.int .u8 ((s[i].toNat:Nat):Int)] rfl rfl ?Ac1 ?Ac2 ?Ac3 ?Ac4 ?Ac5 ?_))
    case Ac1 =>
     intro i u hu;rw [bF,Dr];exact cell_of (i:=i) q4 (by rw [← hu]; simp)
    case Ac2=>intro u hu; simp at hu; subst hu; rfl
    case Ac3=>unfold maxLen; have:=hol.out; omega
    case Ac4=>have:=hol.out; omega
    case Ac5=>have:=hal4.size; omega
    intro v' w6 o5 g5 hd5;have z5:=g5.size;have hz4:=hal4.size;have O5:Hid (aQ Bv 5 1 (w.heap.size+1) (fun b=>w.heap.size<b) w6 v' (out ++ [s[i]])):=aQ.push A7 o4 en4 (cs:=[.int .u8 ((s[i].toNat:Nat):Int)]) rfl rfl o5 g5 (by simpa using hd5);have D5:Below (w.heap.size+1) wr w6:=(hal4.mono (by omega)).trans ((CY _ _).grown g5 (by omega) (fun q hq=>by have:=(hnb q hq).1; omega));have QZ6:=(D5.block w.heap.size (by omega)).trans QZ;have hx6:Below w.heap.size w w6:=hx.trans (D5.mono (by omega));clear o4 en4 o5 g5 hd5 q4 hal4 HO QZ hx;go_wp2_with fail
    go_roundw
    case rel=>exact ⟨i+1,out ++ [s[i]],_,rfl,by go_num,by omega,by omega,HL3,by show _≤_; have:=hol.out; simp; omega,hx6,QZ6,O5⟩
    case measure=>simp [RowKit.intOf]; omega
  ·have hkz:¬ (i:Int)<(s.size:Int):=by omega
   have e:M = .error (2,(p:Int)):=by
    rw [← HL.out,Dh (by rw [Dl]; show s.size≤i; omega)];rfl
   subst e;have conf:=eG 2 p wr;clear HL;go_wp2_with fail
   refine conf.mono ?_;rintro e w3 ⟨rfl,hb3⟩;go_wp2_with fail
   exact ⟨rfl,eF.err rfl (chain hx hb3)⟩
end Go.Proofs.YtoknmnngaackkaaGreatDoor
namespace Go.Proofs
open Go.Shelf
set_option maxRecDepth 100000
set_option maxHeartbeats 16000000
shelf_lay LaysPu.n25 Mp 25 at Tryz as Tryz.cloneL
end Go.Proofs
namespace Go.Proofs.YtoknmnngaackkaaGreatDoor
open Go.RowKit Go.Lib Go.Shelf
set_option maxRecDepth 100000
set_option maxHeartbeats 8000000
theorem rl (s:ByteArray) (w:World) (h:s.size≤4000):Calls Tryz.prog 150 #[.string s] w fun e w'=>e = .returned (.string s)∧Below w.heap.size w w':=AnyPu.stringslite_Clone Tryz.cloneL s w (by omega)
theorem vW (s:ByteArray) (w:World) (h:s.size≤4000):Calls Tryz.prog 124 #[.string s] w fun e w'=>e = .returned (.string s)∧Below w.heap.size w w':=by
 have con:=rl s w h;go_enter Tryz.func124,Tryz.ntmps124;go_wp2_with fail
 refine con.mono ?_;rintro e w1 ⟨rfl,hb⟩;go_wp2_with fail
 exact C0 (results_tmp rfl _ _ _) rfl ⟨by first | rfl | trivial,hb⟩
def tC:List Value:=[.string ⟨#[60,62]⟩,.string ⟨#[60,61]⟩,.string ⟨#[62,61]⟩,.string ⟨#[124,124]⟩,.string ⟨#[60]⟩,.string ⟨#[62]⟩,.string ⟨#[61]⟩,.string ⟨#[43]⟩,.string ⟨#[45]⟩,.string ⟨#[42]⟩,.string ⟨#[40]⟩,.string ⟨#[41]⟩,.string ⟨#[44]⟩,.string ⟨#[46]⟩,.string ⟨#[59]⟩]
theorem Gl.AD {W:World} (h:Gl W):W.rangeAt 0 0 tC:=fun j v hj=>by
 have hl:j<15:=by
  rcases DF j 15 with h | h
  ·exact h
  ·rw [DS (by simpa [tC] using h)] at hj; cases hj
 rw [Dr,h.sig j hl,← hj];show tC.toArray[j]? = tC[j]?;simp
theorem yG (k:Nat) (h:k<15) (w:World):(Instr.index 189 (.agg tC.toArray) (.int .i64 k)).run Tryz.prog w = .ok (.string (eJ (gB[k]'(by simpa [gB] using h)))) w:=by
 rcases k with _ | _ | _ | _ | _ | _ | _ | _ | _ | _ | _ | _ | _ | _ | _ | k
 all_goals first | (exfalso; omega) | kernel_rfl
theorem s9 (l:List UInt8):(eJ l).data.toList=l:=by simp [eJ]
theorem fh (l:List UInt8):(eJ l).size=l.length:=by show l.toArray.size=_; simp
theorem zd {k:Nat} (h:k<gB.length):(gB[k]).length≤2:=by
 have:∀ g ∈ gB,g.length≤2:=by decide
 exact this _ (DC h)
theorem tY (s:ByteArray) (p:Nat) (hp:p<s.size) (hs:s.size≤4000) {w:World} (hg:Gl w):Calls Tryz.prog 127 #[.string s,.int .i64 p] w (eF w (AK p) (gR (s.data.toList.drop p) p gB)):=by
 have hal:=ab w (.cells #[.int .i64 0,.string ⟨#[]⟩,.int .i64 0] 152);have QZ:=ar w #[.int .i64 0,.string ⟨#[]⟩,.int .i64 0] 152;have hr:=(hg.next hal).AD;generalize hM:gR (s.data.toList.drop p) p gB=M;have HM:Hid (gR (s.data.toList.drop p) p gB=M):=hM;clear hM hg;go_enter Tryz.func127,Tryz.ntmps127;go_upto_region 1 with fail
 generalize w.alloc (.cells #[.int .i64 0,.string ⟨#[]⟩,.int .i64 0] 152)=w1 at *;refine wp_region_lit ?_;refine wpList_load_mid rfl 189 _ rfl 0 0 rfl tC (.array 15 9) hr (by kernel_rfl) rfl (by kernel_rfl) ?_;simp only [Act.put,pA,pB,pC];go_wp2_with fail
 clear hr;go_loopw [9] (fun i wr=>∃ k:Nat,k≤15∧i = .int .i64 k∧Hid (gR (s.data.toList.drop p) p (gB.drop k)=M)∧wr=w1) (fun i _=>15 - (RowKit.intOf i).toNat)
 case atStart=>exact ⟨0,by omega,rfl,HM,rfl⟩
 case round =>
  obtain ⟨k,hk,rfl,HK,rfl⟩:=hrel;by_cases hlt:k<15
  ·have hkz:(k:Int)<15:=by omega
   have hid:=yG k hlt wr;have hkl:k<gB.length:=by simpa [gB] using hlt
   have hL:=HK.out;rw [Da hkl,gR] at hL;have hgl:=zd hkl;generalize gB[k]=g at *;have con:=kL (s.extract p s.size) (eJ g) wr;rw [lx,s9] at con;have hpl:p≤s.size:=by omega
   have hsz:=fh g;rcases hq:Lib.hasPrefix (s.data.toList.drop p) g with _ | _
   ·rw [hq] at con hL;rw [if_neg (by decide)] at hL;have HL3:Hid (gR (s.data.toList.drop p) p (gB.drop (k+1))=M):=hL;clear HK hL hq;go_wp2_with fail
    refine con.mono ?_;rintro e w2 ⟨rfl,rfl⟩;clear con;go_wp2_with fail
    go_roundw
    case rel=>exact ⟨k+1,by omega,by go_num,HL3,by first | rfl | trivial⟩
    case measure=>simp [RowKit.intOf]; omega
   ·rw [hq] at con hL;rw [if_pos rfl] at hL;subst hL;clear HK hq;go_wp2_with fail
    refine con.mono ?_;rintro e w2 ⟨rfl,rfl⟩;clear con;obtain ⟨z0,z1,z2⟩:=cu QZ;obtain ⟨y0,y1,y2⟩:=gS QZ;go_wp2_with fail
    have QE:=eV QZ (.int .i64 4) (.string (eJ g)) (.int .i64 p);have hbE:=jH hal (CX _) (.int .i64 4) (.string (eJ g)) (.int .i64 p);generalize (((w2.setCell ⟨w.heap.size,0,none⟩ (.int .i64 4)).setCell ⟨w.heap.size,1,none⟩ (.string (eJ g))).setCell ⟨w.heap.size,2,none⟩ (.int .i64 p))=wE at *;obtain ⟨x0,x1,x2⟩:=cu QE;exact C0 (v:=.tuple #[.agg #[.int .i64 4,.string (eJ g),.int .i64 p],.int .i64 ((p:Int)+(g.length:Nat))]) (by simp [results,Tryz.results127,go_sem,x0,x1,x2]) rfl (eF.bV (x:=((4,eJ g,(p:Int)),g.length)) rfl hbE (rfl))
  ·have hkz:¬ (k:Int)<15:=by omega
   have e:M = .error (2,(p:Int)):=by
    rw [← HK.out,show gB.drop k = [] from Dh (by show 15≤k; omega)];rfl
   subst e;have conf:=eG 2 p wr;clear HK;go_wp2_with fail
   refine conf.mono ?_;rintro e w3 ⟨rfl,hb3⟩;go_wp2_with fail
   exact ⟨rfl,eF.err rfl (chain hal hb3)⟩
theorem yX {s:ByteArray} {p:Nat} (hp:p<s.size):(s.data.toList.drop p).headD 0=s[p]∧(s.data.toList.drop p).tail=s.data.toList.drop (p+1):=by rw [sh hp]; exact ⟨rfl,rfl⟩
theorem rf (s:ByteArray) (p:Nat) (hp:p<s.size) (hs:s.size≤4000) {w:World} (hg:Gl w):Calls Tryz.prog 97 #[.string s,.int .i64 p] w (eF w (AK p) (ff (s.data.toList.drop p) p)):=by
 have hal:=ab w (.cells #[.int .i64 0,.string ⟨#[]⟩,.int .i64 0] 152);have QZ:=ar w #[.int .i64 0,.string ⟨#[]⟩,.int .i64 0] 152;have hg1:Hid (Gl (w.alloc (.cells #[.int .i64 0,.string ⟨#[]⟩,.int .i64 0] 152))):=hg.next hal;obtain ⟨hd0,hd1⟩:=yX hp;have hkz:(p:Int)<(s.size:Int):=by omega
 have con:=jT ((s[p].toNat:Nat):Int) (w.alloc (.cells #[.int .i64 0,.string ⟨#[]⟩,.int .i64 0] 152));clear hg;generalize hM:ff (s.data.toList.drop p) p=M;rw [ff,hd0,hd1] at hM;have HM:Hid _:=hM;clear hM hd0 hd1;go_enter Tryz.func97,Tryz.ntmps97;go_upto_region 1 with fail
 generalize w.alloc (.cells #[.int .i64 0,.string ⟨#[]⟩,.int .i64 0] 152)=w1 at *;rcases h1:gK ((s[p].toNat:Nat):Int) with _ | _
 case true =>
  rw [h1] at con;have con2:=mN s p (by omega) hs w1;rw [jC] at con2;have hle:p+dQ gd (s.data.toList.drop p)≤s.size:=by have:=iU gd (s.data.toList.drop p); rw [DA,Dl] at this; show _≤s.data.size; have:p<s.data.size:=hp; omega
  have hex:=lB s p (dQ gd (s.data.toList.drop p));have e:M = .ok ((1,eJ ((s.data.toList.drop p).take (dQ gd (s.data.toList.drop p))),(p:Int)),dQ gd (s.data.toList.drop p)):=by rw [← HM.out,h1]; rfl
  generalize dQ gd (s.data.toList.drop p)=k at *;have htx:(eJ ((s.data.toList.drop p).take k)).size≤4000:=by rw [fh,Dz,DA,Dl]; have:s.data.size≤4000:=hs; omega
  generalize eJ ((s.data.toList.drop p).take k)=tx at *;subst e;have hle2:p≤p+k:=by omega
  have con3:=vW tx w1 htx;clear HM h1;go_wp2_with fail
  refine con.mono ?_;rintro e w2 ⟨rfl,rfl⟩;go_wp2_with fail
  refine con2.mono ?_;rintro e w3 ⟨rfl,rfl⟩;go_wp2_with fail
  refine con3.mono ?_;rintro e w4 ⟨rfl,hb4⟩;have QZ4:=(hb4.block _ (lt_of_heap QZ)).trans QZ;have hb:=chain hal hb4;obtain ⟨z0,z1,z2⟩:=cu QZ4;obtain ⟨y0,y1,y2⟩:=gS QZ4;clear con con2 con3;go_wp2_with fail
  have QE:=eV QZ4 (.int .i64 1) (.string tx) (.int .i64 p);have hbE:=jH hb (CX _) (.int .i64 1) (.string tx) (.int .i64 p);generalize (((w4.setCell ⟨w.heap.size,0,none⟩ (.int .i64 1)).setCell ⟨w.heap.size,1,none⟩ (.string tx)).setCell ⟨w.heap.size,2,none⟩ (.int .i64 p))=wE at *;obtain ⟨x0,x1,x2⟩:=cu QE;exact C0 (v:=.tuple #[.agg #[.int .i64 1,.string tx,.int .i64 p],.int .i64 ((p+k:Nat):Int)]) (by simp [results,Tryz.results97,go_sem,x0,x1,x2]) rfl (eF.bV (x:=((1,tx,(p:Int)),k)) rfl hbE (by simp [AK]))
 rw [h1] at con;have hM1:=HM.out;rw [h1,if_neg (by decide)] at hM1;have cond:=kY ((s[p].toNat:Nat):Int) w1;rcases h2:fx ((s[p].toNat:Nat):Int) with _ | _
 case true =>
  rw [h2] at cond;rw [h2,if_pos rfl] at hM1;clear h1 h2;have con2:=qx s p hp hs w1;have HM2:Hid _:=hM1;generalize hT:hI (s.data.toList.drop p) (p:Int)=L at con2;have HT:Hid _:=hT;clear hT HM hM1;go_wp2_with fail
  refine con.mono ?_;rintro e w2 ⟨rfl,rfl⟩;go_wp2_with fail
  refine cond.mono ?_;rintro e w3 ⟨rfl,rfl⟩;clear cond;go_wp2_with fail
  refine con2.mono ?_;rintro e w4 ⟨hb4,hW⟩;have QZ4:=(hb4.block _ (lt_of_heap QZ)).trans QZ;have hb:=chain hal hb4;clear con con2;obtain rfl:L=M:=HT.out.symm.trans HM2.out;clear HT HM2;rcases L with ce | ⟨t,j⟩
  ·obtain rfl:=hW;go_wp2_with fail
   exact ⟨rfl,eF.err rfl hb⟩
  obtain ⟨v,rfl,rfl⟩:=hW;obtain ⟨z0,z1,z2⟩:=cu QZ4;obtain ⟨y0,y1,y2⟩:=gS QZ4;go_wp2_with fail
  have QE:=eV QZ4 (.int .i64 t.1) (.string t.2.1) (.int .i64 t.2.2);have hbE:=jH hb (CX _) (.int .i64 t.1) (.string t.2.1) (.int .i64 t.2.2);generalize (((w4.setCell ⟨w.heap.size,0,none⟩ (.int .i64 t.1)).setCell ⟨w.heap.size,1,none⟩ (.string t.2.1)).setCell ⟨w.heap.size,2,none⟩ (.int .i64 t.2.2))=wE at *;obtain ⟨x0,x1,x2⟩:=cu QE;exact C0 (v:=.tuple #[.agg #[.int .i64 t.1,.string t.2.1,.int .i64 t.2.2],.int .i64 ((p:Int)+(j:Nat))]) (by simp [results,Tryz.results97,go_sem,x0,x1,x2]) rfl (eF.bV (x:=(t,j)) rfl hbE (rfl))
 rw [h2] at cond;rw [h2,if_neg (by decide)] at hM1;by_cases h3:s[p]=39
 case pos =>
  have hcb:(((s[p].toNat:Nat):Int) == 39)=true:=by rw [h3]; rfl
  rw [if_pos h3] at hM1;clear h1 h2 h3;have con2:=uC s p hp hs w1;have HM2:Hid _:=hM1;generalize hT:dt (p:Int) (s.data.toList.drop (p+1)) 1 []=L at con2;have HT:Hid _:=hT;clear hT HM hM1;go_wp2_with fail
  refine con.mono ?_;rintro e w2 ⟨rfl,rfl⟩;go_wp2_with fail
  refine cond.mono ?_;rintro e w3 ⟨rfl,rfl⟩;clear cond;go_wp2_with fail
  refine con2.mono ?_;rintro e w4 ⟨hb4,hW⟩;have QZ4:=(hb4.block _ (lt_of_heap QZ)).trans QZ;have hb:=chain hal hb4;clear con con2;obtain rfl:L=M:=HT.out.symm.trans HM2.out;clear HT HM2;rcases L with ce | ⟨t,j⟩
  ·obtain rfl:=hW;go_wp2_with fail
   exact ⟨rfl,eF.err rfl hb⟩
  obtain ⟨v,rfl,rfl⟩:=hW;obtain ⟨z0,z1,z2⟩:=cu QZ4;obtain ⟨y0,y1,y2⟩:=gS QZ4;go_wp2_with fail
  have QE:=eV QZ4 (.int .i64 t.1) (.string t.2.1) (.int .i64 t.2.2);have hbE:=jH hb (CX _) (.int .i64 t.1) (.string t.2.1) (.int .i64 t.2.2);generalize (((w4.setCell ⟨w.heap.size,0,none⟩ (.int .i64 t.1)).setCell ⟨w.heap.size,1,none⟩ (.string t.2.1)).setCell ⟨w.heap.size,2,none⟩ (.int .i64 t.2.2))=wE at *;obtain ⟨x0,x1,x2⟩:=cu QE;exact C0 (v:=.tuple #[.agg #[.int .i64 t.1,.string t.2.1,.int .i64 t.2.2],.int .i64 ((p:Int)+(j:Nat))]) (by simp [results,Tryz.results97,go_sem,x0,x1,x2]) rfl (eF.bV (x:=(t,j)) rfl hbE (rfl))
 have hcb:(((s[p].toNat:Nat):Int) == 39)=false:=by
  rw [beq_eq_false_iff_ne];intro e;exact h3 (UInt8.toNat_inj.1 (by have:(39:UInt8).toNat=39:=rfl; omega))
 rw [if_neg h3] at hM1;clear h1 h2 h3;have con2:=tY s p hp hs hg1.out;have HM2:Hid _:=hM1;generalize hT:gR (s.data.toList.drop p) (p:Int) gB=L at con2;have HT:Hid _:=hT;clear hT HM hM1;go_wp2_with fail
 refine con.mono ?_;rintro e w2 ⟨rfl,rfl⟩;go_wp2_with fail
 refine cond.mono ?_;rintro e w3 ⟨rfl,rfl⟩;clear cond;go_wp2_with fail
 refine con2.mono ?_;rintro e w4 ⟨hb4,hW⟩;have QZ4:=(hb4.block _ (lt_of_heap QZ)).trans QZ;have hb:=chain hal hb4;clear con con2;obtain rfl:L=M:=HT.out.symm.trans HM2.out;clear HT HM2;rcases L with ce | ⟨t,j⟩
 ·obtain rfl:=hW;go_wp2_with fail
  exact ⟨rfl,eF.err rfl hb⟩
 obtain ⟨v,rfl,rfl⟩:=hW;obtain ⟨z0,z1,z2⟩:=cu QZ4;obtain ⟨y0,y1,y2⟩:=gS QZ4;go_wp2_with fail
 have QE:=eV QZ4 (.int .i64 t.1) (.string t.2.1) (.int .i64 t.2.2);have hbE:=jH hb (CX _) (.int .i64 t.1) (.string t.2.1) (.int .i64 t.2.2);generalize (((w4.setCell ⟨w.heap.size,0,none⟩ (.int .i64 t.1)).setCell ⟨w.heap.size,1,none⟩ (.string t.2.1)).setCell ⟨w.heap.size,2,none⟩ (.int .i64 t.2.2))=wE at *;obtain ⟨x0,x1,x2⟩:=cu QE;exact C0 (v:=.tuple #[.agg #[.int .i64 t.1,.string t.2.1,.int .i64 t.2.2],.int .i64 ((p:Int)+(j:Nat))]) (by simp [results,Tryz.results97,go_sem,x0,x1,x2]) rfl (eF.bV (x:=(t,j)) rfl hbE (rfl))
set_option maxHeartbeats 16000000
def xO:ir Tk:=fun _ _ x cs=>cs = [.int .i64 x.1,.string x.2.1,.int .i64 x.2.2]
theorem zA:fi xO:=⟨fun _ h=>h,fun _ h=>h⟩
theorem Bw:(Tryz.prog.info? 152).map (fun i=>(i.zero,i.size,i.bytes))=some (some (.agg #[.int .i64 0,.string ⟨#[]⟩,.int .i64 0]),3,32):=by kernel_rfl
def emap {α β:Type} (f:α→β):Except Er α→Except Er β
 | .error e=>.error e
 | .ok x=>.ok (f x)
theorem aQ.CH {α:Type} {En:ir α} (ok:fi En) {e size base:Nat} {S:Nat→Prop} {W:World} {v:Value} {l:List α} (h:aQ En e size base S W v l) (hs:∀ b,base≤b→S b):∃ a cap,v = .slice a l.length cap∧l.length≤cap∧aI En size S W a l:=by
 obtain ⟨a,cap,rfl,hl⟩:=h.ls ok hs;refine ⟨a,cap,rfl,?_,hl⟩;obtain ⟨xs,⟨_,⟨e,hn⟩ | ⟨g,c',cur,e,_,_,hc,_⟩⟩,_⟩:=h
 ·rw [hn]; exact Dm _
 ·injection e with _ _ e
  omega
theorem qG (n:Nat) (p:Int):jd (n+1) [] p = .ok [(5,eB,p)]:=by rw [jd,if_pos rfl]
theorem nF (n:Nat) (l:List UInt8) (p:Int) (h:l ≠ []):jd (n+1) l p=match ff l p with
  | .error e=>.error e
  | .ok (t,j)=>emap (fun ts=>t :: ts) (jd n ((l.drop j).drop (dQ ez (l.drop j))) (p+j+dQ ez (l.drop j))):=by
 rw [jd,if_neg h];rcases ff l p with e | ⟨t,j⟩
 ·rfl
 ·simp only;rcases jd n ((l.drop j).drop (dQ ez (l.drop j))) (p+j+dQ ez (l.drop j)) with e | ts <;> rfl
theorem kX {p:Int}:∀ (l:List UInt8) (k:Nat) (out:List UInt8) {t:Tk} {j:Nat},dt p l k out = .ok (t,j)→k<j∧j≤k+l.length
 | [],k,out,t,j,h=>by rw [dt] at h; cases h
 | [c],k,out,t,j,h=>by
  rw [dt] at h
  split at h
  ·unfold jL at h
   split at h
   ·cases h
   ·injection h with h; injection h with _ h; simp; omega
  ·cases h
 | c :: d :: r,k,out,t,j,h=>by
  rw [dt] at h
  split at h
  ·split at h
   ·have:=kX r (k+2) _ h
    simp; omega
   ·unfold jL at h
    split at h
    ·cases h
    ·injection h with h; injection h with _ h; simp; omega
  ·have:=kX (d :: r) (k+1) _ h
   simp at this ⊢; omega
theorem ot {l:List UInt8} {p:Int}:∀ (gs:List (List UInt8)),(∀ g ∈ gs,1≤g.length)→∀ {t:Tk} {j:Nat},gR l p gs = .ok (t,j)→1≤j∧j≤l.length
 | [],_,t,j,h=>by rw [gR] at h; cases h
 | g :: gs,hg,t,j,h=>by
  rw [gR] at h
  split at h
  ·rename_i hp
   injection h with h; injection h with _ h
   subst h
   exact ⟨hg g (by simp),by
    have:g <+: l:=List.isPrefixOf_iff_prefix.1 hp
    exact this.length_le⟩
  ·exact ot gs (fun g h=>hg g (by simp [h])) h
theorem mQ {f:Int→Bool} {l:List UInt8} (hl:l ≠ []) (h:f (((l.headD 0).toNat:Nat):Int)=true):1≤dQ f l:=by
 cases l with
 | nil=>exact absurd rfl hl
 | cons c r=>simp only [List.headD_cons] at h; simp [dQ,eM,h]
theorem mw {l:List UInt8} {p:Int} (hl:l ≠ []) {t:Tk} {j:Nat} (h:ff l p = .ok (t,j)):1≤j∧j≤l.length:=by
 unfold ff at h
 split at h
 ·rename_i hc
  injection h with h; injection h with _ h
  subst h;exact ⟨mQ hl (by show (gK _ || fx _)=true; rw [hc]; rfl),iU _ _⟩
 ·split at h
  ·rename_i hc
   unfold hI at h
   split at h
   ·cases h
   ·injection h with h; injection h with _ h
    subst h;exact ⟨mQ hl hc,iU _ _⟩
  ·split at h
   ·have:=kX _ _ _ h;have:l.tail.length+1=l.length:=by cases l with | nil=>exact absurd rfl hl | cons c r=>rfl
    omega
   ·exact ot gB (by decide) h
def jV (w:World) (r:Except Er (List Tk)) (e:Ending) (w':World):Prop :=
 Below w.heap.size w w'∧match r with
  | .ok x=>∃ a cap,e = .returned (.slice a x.length cap)∧x.length≤cap∧aI xO 3 (fun b=>w.heap.size≤b) w' a x
  | .error c=>e = .panicked [gn c.1 c.2]
theorem jV.err {w w':World} {r:Except Er (List Tk)} {c:Er} (hr:r = .error c) (hb:Below w.heap.size w w'):jV w r (.panicked [gn c.1 c.2]) w':=by subst hr; exact ⟨hb,rfl⟩
theorem jV.bV {w w':World} {r:Except Er (List Tk)} {x:List Tk} (hr:r = .ok x) (hb:Below w.heap.size w w') (a:Option Addr) (cap:Nat) {v:Value} (hv:v = .slice a x.length cap) (hc:x.length≤cap) (h:aI xO 3 (fun b=>w.heap.size≤b) w' a x):jV w r (.returned v) w':=by subst hr hv; exact ⟨hb,a,cap,rfl,hc,h⟩
theorem uB (s:ByteArray) (hs:s.size≤4000) {w:World} (hg:Gl w):Calls Tryz.prog 66 #[.string s] w (jV w (jb s)):=by
 obtain ⟨i0,hi0,hj0,hj1,hj2⟩:=info_parts Bw;have con:=lP 96 (fun _ _=>by kernel_rfl) ez (fun c w=>nD c w) s 0 (by omega) hs w;rw [jC,DL,Dr] at con;have hle:=iU ez s.data.toList;rw [Dl] at hle;generalize hM:jb s=M;rw [jb] at hM;have HG:Hid (Gl w):=hg;generalize hk0:dQ ez s.data.toList=k0 at *;have HM:Hid (emap (fun ts=>[] ++ ts) (jd (s.size+1) (s.data.toList.drop k0) (k0:Int))=M):=by
  show _=_;rw [← hM];rcases jd (s.size+1) (s.data.toList.drop k0) (k0:Int) with e | ts <;> rfl
 clear hM hg hk0;go_enter Tryz.func66,Tryz.ntmps66;go_wp2_with fail
 refine con.mono ?_;rintro e w0 ⟨rfl,rfl⟩;clear con;go_wp2_with fail
 go_loopg [3,4] (s.size+1) (fun m ow iv wr=>∃ (i:Nat) (acc:List Tk) (ov:Value),ov=ow∧iv = .int .i64 i∧i≤s.size∧Hid (s.size - i+1≤m)∧Hid (acc.length≤i)∧Hid (emap (fun ts=>acc ++ ts) (jd m (s.data.toList.drop i) (i:Int))=M)∧Below w0.heap.size w0 wr∧Hid (aQ xO 152 3 w0.heap.size (fun b=>w0.heap.size≤b) wr ov acc))
 case atStart=>exact ⟨k0,[],_,rfl,rfl,hle,by show _≤_; omega,by show _≤_; simp,HM,CY _ _,aQ.nil _ _ _ _ _ _⟩
 case round =>
  clear HM;obtain ⟨i,acc,ov,rfl,rfl,hi,hm,hol,HL,hxW,HO⟩:=hrel;obtain ⟨m,rfl⟩:∃ m,gk=m+1:=⟨gk - 1,by have:=hm.out; omega⟩
  obtain ⟨ac,cc,eo⟩:=HO.out.len;by_cases hlt:i<s.size
  ·have hkz:(i:Int)<(s.size:Int):=by omega
   have hL:=HL.out;have hne:s.data.toList.drop i ≠ []:=by rw [sh hlt]; simp
   rw [nF _ _ _ hne] at hL;have con:=rf s i hlt hs (HG.out.next hxW);have hlen:=fun t j=>mw (l:=s.data.toList.drop i) (p:=(i:Int)) hne (t:=t) (j:=j)
   generalize ff (s.data.toList.drop i) (i:Int)=L at *;have HL2:Hid _:=hL;clear HL hL;subst eo;go_wp2_with fail
   refine con.mono ?_;rintro e w2 ⟨hb2,hW⟩;have hx2:=chain hxW hb2;have HO2:Hid (aQ xO 152 3 w0.heap.size (fun b=>w0.heap.size≤b) w2 (.slice ac acc.length cc) acc):=HO.out.next zA hb2;clear con HO;rcases L with ce | ⟨x,j⟩
   ·obtain rfl:=hW;have e:M = .error ce:=HL2.out.symm;subst e;clear HL2 hlen;go_wp2_with fail
    exact ⟨rfl,jV.err rfl hx2⟩
   obtain ⟨v,rfl,hv⟩:=hW;change v = .tuple #[.agg #[.int .i64 x.1,.string x.2.1,.int .i64 x.2.2],.int .i64 ((i:Int)+((j:Nat):Int))] at hv;subst hv;have hj:=hlen x j rfl;rw [DA,Dl] at hj;have hjs:i+j≤s.size:=by have:s.data.size=s.size:=rfl; omega
   have hdd:(s.data.toList.drop i).drop j=s.data.toList.drop (i+j):=by rw [List.drop_drop]
   have hLa:=HL2.out;simp only at hLa;rw [hdd,List.drop_drop] at hLa;have con5:=fun W=>lP 96 (fun _ _=>by kernel_rfl) ez (fun c w=>nD c w) s (i+j) (by omega) hs W
   simp only [jC] at con5;have hbl:=iU ez (s.data.toList.drop (i+j));rw [DA,Dl] at hbl;have hss:s.data.size=s.size:=rfl;generalize dQ ez (s.data.toList.drop (i+j))=kb at *;have HL5:Hid (emap (fun ts=>(acc ++ [x]) ++ ts) (jd m (s.data.toList.drop (i+j+kb)) ((i+j+kb:Nat):Int))=M):=by
    show _=_;rw [← hLa,show ((i+j+kb:Nat):Int)=(i:Int)+(j:Int)+(kb:Int) by omega];rcases jd m (s.data.toList.drop (i+j+kb)) ((i:Int)+(j:Int)+(kb:Int)) with e | ts
    ·rfl
    ·simp [emap]
   have hal3:=ab w2 (.cells #[.int .i64 x.1,.string x.2.1,.int .i64 x.2.2] 152);have q3:=ar w2 #[.int .i64 x.1,.string x.2.1,.int .i64 x.2.2] 152;have HO3:Hid (aQ xO 152 3 w0.heap.size (fun b=>w0.heap.size≤b) (w2.alloc (.cells #[.int .i64 x.1,.string x.2.1,.int .i64 x.2.2] 152)) (.slice ac acc.length cc) acc):=HO2.out.next zA hal3;have hxW3:=chain hx2 hal3;clear HL2 hLa hlen hdd HO2 hxW;have hxW:=hxW3;have HC5:Hid _:=con5;clear con5 hne;go_upto_region 5 with fail
   have hij:(i:Int)+(j:Int)=((i+j:Nat):Int):=by omega
   generalize w2.alloc (.cells #[.int .i64 x.1,.string x.2.1,.int .i64 x.2.2] 152)=w3 at *;obtain ⟨z0,z1,z2⟩:=cu q3;clear hij;have hal4:=ab w3 (.cells #[.int .i64 x.1,.string x.2.1,.int .i64 x.2.2] 152);have q4:=ar w3 #[.int .i64 x.1,.string x.2.1,.int .i64 x.2.2] 152;have hnb:=HO3.out.lt;have hzW:=hxW.size;obtain ⟨ys,o4,en4⟩:=HO3.out.next zA hal4
   go_wp2_with (first | (at_builtin; refine aX rfl _ _ 118 rfl w0.heap.size 152 i0 _ 3 32 Tryz.underlying118 hi0 hj0 hj1 hj2 rfl (by decide) (.slice ac acc.length cc) acc.length _ rfl o4 ⟨w3.heap.size,0,none⟩ 1 1 [.int .i64 x.1,.string x.2.1,.int .i64 x.2.2] rfl rfl ?Ac1 ?Ac2 ?Ac3 ?Ac4 ?Ac5 ?_))
   case Ac1 =>
    intro i u hu;rw [bF,Dr];exact cell_of (i:=i) q4 (by rw [← hu]; simp)
   case Ac2=>first | (intro u hu; simp at hu; rcases hu with rfl | rfl | rfl <;> rfl) | exact ⟨rfl,rfl,rfl⟩
   case Ac3=>unfold maxLen; have:=hol.out; omega
   case Ac4=>have:=hol.out; omega
   case Ac5=>have:=hal4.size; omega
   intro v' w6 o5 g5 hd5;have z5:=g5.size;have hz4:=hal4.size;have O5:Hid (aQ xO 152 3 w0.heap.size (fun b=>w0.heap.size≤b) w6 v' (acc ++ [x])):=aQ.push zA o4 en4 (cs:=[.int .i64 x.1,.string x.2.1,.int .i64 x.2.2]) rfl rfl o5 g5 (by simpa using hd5);have D5:Below w0.heap.size w3 w6:=(hal4.mono (by omega)).trans ((CY _ _).grown g5 (by omega) (fun q hq=>by have:=(hnb q hq).1; omega));have hx6:Below w0.heap.size w0 w6:=hxW.trans D5;clear o4 en4 o5 g5 hd5 q4 hal4 HO3;have con6:=HC5.out w6;rw [show ((i+j:Nat):Int)=(i:Int)+(j:Int) by omega] at con6;clear z0 z1 z2 q3 HC5
   go_wp2_with fail
   refine con6.mono ?_;rintro e w7 ⟨rfl,rfl⟩;clear con6;go_wp2_with fail
   go_roundg m
   case measure=>omega
   case rel=>exact ⟨i+j+kb,acc ++ [x],_,rfl,by go_num,by omega,by show _≤_; have:=hm.out; omega,by show _≤_; have:=hol.out; simp; omega,HL5,hx6,O5⟩
  ·have hkz:¬ (i:Int)<(s.size:Int):=by omega
   have hL:=HL.out;rw [Dh (by rw [Dl]; show s.size≤i; omega),qG] at hL;have e:M = .ok (acc ++ [(5,eB,(i:Int))]):=hL.symm;subst e;clear HL hL;subst eo;have hal4:=ab wr (.cells #[.int .i64 5,.string ⟨#[]⟩,.int .i64 i] 152);have q4:=ar wr #[.int .i64 5,.string ⟨#[]⟩,.int .i64 i] 152;have hnb:=HO.out.lt;have hzW:=hxW.size;obtain ⟨ys,o4,en4⟩:=HO.out.next zA hal4
   go_wp2_with (first | (at_builtin; refine aX rfl _ _ 118 rfl w0.heap.size 152 i0 _ 3 32 Tryz.underlying118 hi0 hj0 hj1 hj2 rfl (by decide) (.slice ac acc.length cc) acc.length _ rfl o4 ⟨wr.heap.size,0,none⟩ 1 1 [.int .i64 5,.string ⟨#[]⟩,.int .i64 i] rfl rfl ?Ac1 ?Ac2 ?Ac3 ?Ac4 ?Ac5 ?_))
   case Ac2=>first | (intro u hu; simp at hu; rcases hu with rfl | rfl | rfl <;> rfl) | exact ⟨rfl,rfl,rfl⟩
   case Ac3=>unfold maxLen; have:=hol.out; omega
   case Ac4=>have:=hol.out; omega
   case Ac5=>have:=hal4.size; omega
   intro v' w6 o5 g5 hd5;have z5:=g5.size;have hz4:=hal4.size;have O5:Hid (aQ xO 152 3 w0.heap.size (fun b=>w0.heap.size≤b) w6 v' (acc ++ [((5,eB,(i:Int)):Tk)])):=aQ.push zA o4 en4 (cs:=[.int .i64 5,.string ⟨#[]⟩,.int .i64 i]) rfl rfl o5 g5 (by simpa using hd5);have D5:Below w0.heap.size wr w6:=(hal4.mono (by omega)).trans ((CY _ _).grown g5 (by omega) (fun q hq=>by have:=(hnb q hq).1; omega));have hx6:Below w0.heap.size w0 w6:=hxW.trans D5;clear o4 en4 o5 g5 hd5 q4 hal4 HO;obtain ⟨av,cv,rfl,hcp,hls⟩:=O5.out.CH zA (fun _ h=>h)
   have HK:Hid (aI xO 3 (fun b=>w0.heap.size≤b) w6 av (acc ++ [(5,eB,(i:Int))])):=hls;clear hls O5;generalize hn:(acc ++ [((5:Int),eB,(i:Int))]).length=n at *;go_wp2_with fail
   refine C0 (v:=.slice av n cv) (by simp [results,Tryz.results66,go_sem]) rfl ?_;exact jV.bV rfl hx6 av cv (by rw [hn]) (by rw [hn]; exact hcp) HK.out
def fZ (w:World) (at_ r:Int) (e:Ending) (w':World):Prop:=Below w.heap.size w w'∧((r=0∧e = .returned (.tuple #[]))∨(r≠0∧e = .panicked [gn r at_]))
def dy (a b:Int):Int:=if a=0 then b else a
theorem cg (b:Int):dy 0 b=b:=rfl
theorem cZ {a:Int} (h:a≠0) (b:Int):dy a b=a:=if_neg h
theorem fA (err at_:Int) (w:World):Calls Tryz.prog 68 #[.agg #[.int .i64 at_],.bool true,.int .i64 err] w fun e w'=>e = .returned (.tuple #[])∧Below w.heap.size w w':=by
 have hal:=ab w (.cells #[.int .i64 at_] 86);go_enter Tryz.func68,Tryz.ntmps68;go_wp2_with fail
 go_end0
 exact ⟨rfl,hal⟩
theorem dv (err at_:Int) (w:World):Calls Tryz.prog 68 #[.agg #[.int .i64 at_],.bool false,.int .i64 err] w fun e w'=>e = .panicked [gn err at_]∧Below w.heap.size w w':=by
 have hal:=ab w (.cells #[.int .i64 at_] 86);have QB:=ar w #[.int .i64 at_] 86;have con:=eG err at_ (w.alloc (.cells #[.int .i64 at_] 86));go_enter Tryz.func68,Tryz.ntmps68;go_upto_region 1 with fail
 generalize w.alloc (.cells #[.int .i64 at_] 86)=w1 at *;have c0:w1.cell? ⟨w.heap.size,0,none⟩=some (.int .i64 at_):=cell_of (i:=0) QB rfl;go_wp2_with fail
 refine con.mono ?_;rintro e w2 ⟨rfl,hb2⟩;go_wp2_with fail
 exact ⟨rfl,rfl,chain hal hb2⟩
theorem fZ.ok {w w':World} {at_ r:Int} (hb:Below w.heap.size w w') (h:r=0):fZ w at_ r (.returned (.tuple #[])) w':=⟨hb,.inl ⟨h,rfl⟩⟩
theorem fZ.bad {w w':World} {at_ r x:Int} (hb:Below w.heap.size w w') (h:r=x) (hx:x≠0):fZ w at_ r (.panicked [gn x at_]) w':=by subst h; exact ⟨hb,.inr ⟨hx,rfl⟩⟩
def eD (n least most:Int):Int:=if decide (least≤n) && decide (n≤most) then 0 else 5
theorem fo (n least most at_:Int) (w:World):Calls Tryz.prog 37 #[.agg #[.int .i64 at_],.int .i64 n,.int .i64 least,.int .i64 most] w (fZ w at_ (eD n least most)):=by
 have hal:=ab w (.cells #[.int .i64 at_] 86);have QB:=ar w #[.int .i64 at_] 86;have hcs:(least≤n∧n≤most)∨(least≤n∧¬ n≤most)∨¬ least≤n:=by omega
 rcases hcs with h1 | h1 | h1
 ·have g1:least≤n:=h1.1;have g2:n≤most:=h1.2;have con:=fA 5 at_ (w.alloc (.cells #[.int .i64 at_] 86));have HR:Hid (eD n least most=0):=by show _=_; simp [eD,g1,g2]
  clear h1;go_enter Tryz.func37,Tryz.ntmps37;go_upto_region 1 with fail
  generalize w.alloc (.cells #[.int .i64 at_] 86)=w1 at *;have c0:w1.cell? ⟨w.heap.size,0,none⟩=some (.int .i64 at_):=cell_of (i:=0) QB rfl;generalize eD n least most=r at *;go_wp2_with fail
  refine con.mono ?_;rintro e w2 ⟨rfl,hb2⟩;go_wp2_with fail
  go_end0
  exact .ok (chain hal hb2) HR.out
 ·have g1:least≤n:=h1.1;have g2:¬ n≤most:=h1.2;have con:=dv 5 at_ (w.alloc (.cells #[.int .i64 at_] 86));have HR:Hid (eD n least most=5):=by show _=_; simp [eD,g1,g2]
  clear h1;go_enter Tryz.func37,Tryz.ntmps37;go_upto_region 1 with fail
  generalize w.alloc (.cells #[.int .i64 at_] 86)=w1 at *;have c0:w1.cell? ⟨w.heap.size,0,none⟩=some (.int .i64 at_):=cell_of (i:=0) QB rfl;generalize eD n least most=r at *;go_wp2_with fail
  refine con.mono ?_;rintro e w2 ⟨rfl,hb2⟩;go_wp2_with fail
  exact ⟨rfl,.bad (chain hal hb2) HR.out (by decide)⟩
 ·have g1:¬ least≤n:=h1;have con:=dv 5 at_ (w.alloc (.cells #[.int .i64 at_] 86));have HR:Hid (eD n least most=5):=by show _=_; simp [eD,g1]
  clear h1;go_enter Tryz.func37,Tryz.ntmps37;go_upto_region 1 with fail
  generalize w.alloc (.cells #[.int .i64 at_] 86)=w1 at *;have c0:w1.cell? ⟨w.heap.size,0,none⟩=some (.int .i64 at_):=cell_of (i:=0) QB rfl;generalize eD n least most=r at *;go_wp2_with fail
  refine con.mono ?_;rintro e w2 ⟨rfl,hb2⟩;go_wp2_with fail
  exact ⟨rfl,.bad (chain hal hb2) HR.out (by decide)⟩
theorem uf (s:ByteArray) (w:World):Calls Tryz.prog 20 #[.string s] w fun e w'=>e = .returned (.bool (cN s))∧w'=w:=by
 by_cases hs:s.size≤4000
 ·exact qf s hs w
 ·have hb:cN s=false:=by
   unfold cN;rw [decide_eq_false (show ¬ s.size≤12 by omega)];simp
  rw [hb];have h1:(1:Int)≤(s.size:Int):=by omega
  have h2:¬ (s.size:Int)≤12:=by omega
  clear hb hs;go_enter Tryz.func20,Tryz.ntmps20;go_wp2_with fail
  exact C0 (results_tmp rfl _ _ _) rfl ⟨by first | rfl | trivial,by first | rfl | trivial⟩
def dB (s:ByteArray):Int:=if cN s then 0 else 7
theorem jl (s:ByteArray) (at_:Int) (w:World):Calls Tryz.prog 69 #[.agg #[.int .i64 at_],.string s] w (fZ w at_ (dB s)):=by
 have hal:=ab w (.cells #[.int .i64 at_] 86);have QB:=ar w #[.int .i64 at_] 86;rw [dB];obtain ⟨b,hb⟩:∃ b,cN s=b:=⟨_,rfl⟩
 have HB:Hid (cN s=b):=hb;rw [hb];clear hb;generalize hr:(if b then (0:Int) else 7)=r;have HR:Hid ((if b then (0:Int) else 7)=r):=hr;clear hr;go_enter Tryz.func69,Tryz.ntmps69;go_upto_region 1 with fail
 generalize w.alloc (.cells #[.int .i64 at_] 86)=w1 at *;have hCC:∀ W W':World,W.heap[w.heap.size]? = some (.cells #[.int .i64 at_] 86 (0,0))→Below W.heap.size W W'→W'.heap[w.heap.size]? = some (.cells #[.int .i64 at_] 86 (0,0)):=fun W W' h hb=>(hb.block _ (lt_of_heap h)).trans h
 have hdr:Below w1.heap.size w1 w1.drew:=(CY _ _).drew;have CW:=hCC _ _ QB hdr;refine ey (fun W=>W.heap[w.heap.size]? = some (.cells #[.int .i64 at_] 86 (0,0))) 3 (by kernel_rfl) ?_;refine aV hCC (some 4) (i:=0) (v:=.agg #[.int .i64 at_]) rfl rfl (by kernel_rfl) (by kernel_rfl) (by kernel_rfl) (by kernel_rfl) (by kernel_rfl) rfl (fun _ _ _ h=>h) (Or.inl ⟨rfl,fun n hn=>?_⟩) (fun _=>CW) ?_
 ·have c0:=cell_of (i:=0) hn rfl;go_simp
 simp only [Act.put,pA,pB,pC];refine aV hCC (some 5) (i:=1) (v:=.string s) rfl rfl (by kernel_rfl) (by kernel_rfl) (by kernel_rfl) (by kernel_rfl) (by kernel_rfl) rfl (fun _ _ _ h=>h) (Or.inl ⟨rfl,fun n hn=>?_⟩) (fun _=>CW) ?_
 ·go_simp
 simp only [Act.put,pA,pB,pC];refine bM (rs:=[2]) (by kernel_rfl) (by simp) ?_;intro w5 hb5 jj hj;obtain rfl:jj=2:=by simpa using hj
 clear hj;have con:=uf s w5;rw [HB.out] at con;refine wpOp_step rfl (fun K hK=>?_);go_simp;refine con.mono ?_;rintro e w6 ⟨rfl,rfl⟩;have hb6:Below w6.heap.size w6 w6:=CY _ _;have C6:=hCC _ _ CW hb5;refine hK _ _ ⟨fun _=>C6,?_⟩;clear hK K con;refine bM (rs:=[3]) (by kernel_rfl) (by simp) ?_;intro w7 hb7 jj hj;obtain rfl:jj=3:=by simpa using hj
 clear hj;have hbb:=chain hal (chain (chain hdr hb5) (chain hb6 hb7));cases b
 ·have con:=dv 7 at_ w7;refine wpOp_step rfl (fun K hK=>?_);go_simp;refine con.mono ?_;rintro e w8 ⟨rfl,hb8⟩;exact ⟨rfl,.bad (chain hbb hb8) HR.out.symm (by decide)⟩
 ·have con:=fA 7 at_ w7;refine wpOp_step rfl (fun K hK=>?_);go_simp;refine con.mono ?_;rintro e w8 ⟨rfl,hb8⟩;refine hK _ _ ⟨fun h=>by simp at h,?_⟩;refine gx (by kernel_rfl) ?_;intro w9 hb9;go_wp2_with fail
  go_end0
  exact .ok (chain hbb (chain hb8 hb9)) HR.out.symm
def cM (s:ByteArray):Int:=if s.toList.isEmpty then 0 else dB s
theorem mi (s:ByteArray) (at_:Int) (w:World):Calls Tryz.prog 168 #[.agg #[.int .i64 at_],.string s] w (fZ w at_ (cM s)):=by
 have hal:=ab w (.cells #[.int .i64 at_] 86);have QB:=ar w #[.int .i64 at_] 86;have con:=jl s at_ (w.alloc (.cells #[.int .i64 at_] 86));rw [cM];generalize dB s=r at *;rcases he:s.toList.isEmpty with _ | _
 ·have b1:s.toList.isEmpty=false:=he;rw [if_neg (by decide)];clear he;go_enter Tryz.func168,Tryz.ntmps168;go_upto_region 1 with fail
  generalize w.alloc (.cells #[.int .i64 at_] 86)=w1 at *;have c0:w1.cell? ⟨w.heap.size,0,none⟩=some (.int .i64 at_):=cell_of (i:=0) QB rfl;go_wp2_with fail
  refine con.mono ?_;rintro e w2 ⟨hb2,⟨h,rfl⟩ | ⟨h,rfl⟩⟩
  ·go_wp2_with fail
   go_end0
   exact ⟨chain hal hb2,.inl ⟨h,rfl⟩⟩
  ·go_wp2_with fail
   exact ⟨rfl,chain hal hb2,.inr ⟨h,rfl⟩⟩
 ·have b1:s.toList.isEmpty=true:=he;rw [if_pos rfl];clear he;go_enter Tryz.func168,Tryz.ntmps168;go_wp2_with fail
  go_end0
  exact ⟨hal,.inl ⟨rfl,rfl⟩⟩
end Go.Proofs.YtoknmnngaackkaaGreatDoor
