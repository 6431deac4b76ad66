/- The walk of tidelaw5.QueryAlgebra. -/
import Derived.Test.YtoefpglknaiaeaaGreatH1
import Derived.Deep.Cut
namespace Go.Proofs.YtoefpglknaiaeaaGreat
open Go.RowKit Go.Lib Go.Shelf

set_option maxRecDepth 100000 in
set_option maxHeartbeats 16000000 in
theorem queryAlgebra_walk (ta:Option Addr) (tc:Nat) (ts:List (List Int)) (p:Pl) (q:Pw) (p':Pl) (q':Pw) (x:Ex) (xa:Option Addr) (xc:Nat) (da:Option Addr) (dc:Nat) (data:List (List Zp)) (w:World) (hT:TbAt w.heap.size w ta ts) (hp:PlB w.heap.size w p q) (hk:PlOk p) (hp':PlB w.heap.size w p' q') (hk':PlOk p') (hx:KsAt w.heap.size w xa x.ks) (hD:DtAt w da data) (_hn:data.length≤10000000000000) :
  Calls Tryz.prog 6 #[.slice ta ts.length tc,plV p q,plV p' q',exV x.k x.v x.c xa x.ks.length xc,.slice da data.length dc] w fun e w'=>e = .returned (.bool true)∧Below w.heap.size w w':=by
 have h1:Below w.heap.size w (w.alloc (.cells #[.int .i64 p.k,.int .i64 p.n,.int .i64 p.x.k,.int .i64 p.x.v.1,.int .i64 p.x.v.2.1,.string p.x.v.2.2,.int .i64 p.x.c,.slice q.xa p.x.ks.length q.xc,.slice q.sa p.xs.length q.sc,.slice q.ga p.gs.length q.gc,.slice q.ka p.ks.length q.kc] 31)):=(Below.refl _ _).alloc (Nat.le_refl _) _
 have E1:ElX (w.alloc (.cells #[.int .i64 p.k,.int .i64 p.n,.int .i64 p.x.k,.int .i64 p.x.v.1,.int .i64 p.x.v.2.1,.string p.x.v.2.2,.int .i64 p.x.c,.slice q.xa p.x.ks.length q.xc,.slice q.sa p.xs.length q.sc,.slice q.ga p.gs.length q.gc,.slice q.ka p.ks.length q.kc] 31)) w.heap.size p q:=⟨Elv.new w p q 31,by simp⟩
 have z1:(w.alloc (.cells #[.int .i64 p.k,.int .i64 p.n,.int .i64 p.x.k,.int .i64 p.x.v.1,.int .i64 p.x.v.2.1,.string p.x.v.2.2,.int .i64 p.x.c,.slice q.xa p.x.ks.length q.xc,.slice q.sa p.xs.length q.sc,.slice q.ga p.gs.length q.gc,.slice q.ka p.ks.length q.kc] 31)).heap.size=w.heap.size+1:=by simp
 unfold plV exV
 go_enter Tryz.func6,Tryz.ntmps6
 go_upto_region 1 with fail
 generalize w.alloc (.cells #[.int .i64 p.k,.int .i64 p.n,.int .i64 p.x.k,.int .i64 p.x.v.1,.int .i64 p.x.v.2.1,.string p.x.v.2.2,.int .i64 p.x.c,.slice q.xa p.x.ks.length q.xc,.slice q.sa p.xs.length q.sc,.slice q.ga p.gs.length q.gc,.slice q.ka p.ks.length q.kc] 31)=w1 at *
 have h2:Below w1.heap.size w1 (w1.alloc (.cells #[.int .i64 p'.k,.int .i64 p'.n,.int .i64 p'.x.k,.int .i64 p'.x.v.1,.int .i64 p'.x.v.2.1,.string p'.x.v.2.2,.int .i64 p'.x.c,.slice q'.xa p'.x.ks.length q'.xc,.slice q'.sa p'.xs.length q'.sc,.slice q'.ga p'.gs.length q'.gc,.slice q'.ka p'.ks.length q'.kc] 31)):=(Below.refl _ _).alloc (Nat.le_refl _) _
 have E2:ElX (w1.alloc (.cells #[.int .i64 p'.k,.int .i64 p'.n,.int .i64 p'.x.k,.int .i64 p'.x.v.1,.int .i64 p'.x.v.2.1,.string p'.x.v.2.2,.int .i64 p'.x.c,.slice q'.xa p'.x.ks.length q'.xc,.slice q'.sa p'.xs.length q'.sc,.slice q'.ga p'.gs.length q'.gc,.slice q'.ka p'.ks.length q'.kc] 31)) w1.heap.size p' q':=⟨Elv.new w1 p' q' 31,by simp⟩
 have z2:(w1.alloc (.cells #[.int .i64 p'.k,.int .i64 p'.n,.int .i64 p'.x.k,.int .i64 p'.x.v.1,.int .i64 p'.x.v.2.1,.string p'.x.v.2.2,.int .i64 p'.x.c,.slice q'.xa p'.x.ks.length q'.xc,.slice q'.sa p'.xs.length q'.sc,.slice q'.ga p'.gs.length q'.gc,.slice q'.ka p'.ks.length q'.kc] 31)).heap.size=w1.heap.size+1:=by simp
 replace E1:=E1.next h2
 generalize w1.alloc (.cells #[.int .i64 p'.k,.int .i64 p'.n,.int .i64 p'.x.k,.int .i64 p'.x.v.1,.int .i64 p'.x.v.2.1,.string p'.x.v.2.2,.int .i64 p'.x.c,.slice q'.xa p'.x.ks.length q'.xc,.slice q'.sa p'.xs.length q'.sc,.slice q'.ga p'.gs.length q'.gc,.slice q'.ka p'.ks.length q'.kc] 31)=w2 at *
 have h3:Below w2.heap.size w2 (w2.alloc (.cells #[.int .i64 x.k,.int .i64 x.v.1,.int .i64 x.v.2.1,.string x.v.2.2,.int .i64 x.c,.slice xa x.ks.length xc] 27)):=(Below.refl _ _).alloc (Nat.le_refl _) _
 have E3:(w2.alloc (.cells #[.int .i64 x.k,.int .i64 x.v.1,.int .i64 x.v.2.1,.string x.v.2.2,.int .i64 x.c,.slice xa x.ks.length xc] 27)).rangeAt w2.heap.size 0 (exL x xa xc):=range_of (heap_new w2 _ _)
 have z3:(w2.alloc (.cells #[.int .i64 x.k,.int .i64 x.v.1,.int .i64 x.v.2.1,.string x.v.2.2,.int .i64 x.c,.slice xa x.ks.length xc] 27)).heap.size=w2.heap.size+1:=by simp
 replace E1:=E1.next h3
 replace E2:=E2.next h3
 generalize w2.alloc (.cells #[.int .i64 x.k,.int .i64 x.v.1,.int .i64 x.v.2.1,.string x.v.2.2,.int .i64 x.c,.slice xa x.ks.length xc] 27)=w3 at *
 have hz2:w2.heap.size=w.heap.size+1+1:=by omega
 have hz3:w3.heap.size=w.heap.size+1+1+1:=by omega
 rw [z1] at E2
 rw [hz2] at E3
 have hA:=chain h1 (chain h2 h3)
 clear z1 z2 z3 hz2 h1 h2 h3
 go_wp2_with fail
 refine (alive5_at w3).mono ?_
 rintro e w4 ⟨rfl,hb⟩
 replace E1:=E1.next hb
 replace E2:=E2.next hb
 replace E3:=range_next E3 hb (by omega)
 replace hA:=chain hA hb
 have hz:w.heap.size+1+1+1≤w4.heap.size:=by have:=hb.size; omega
 clear hb hz3
 go_wp2_with fail
 rename_i K hK
 refine region3 _ _ rfl rfl rfl rfl rfl E1 E2 ?_
 intro a1 v1 b b' s s' hb1 S1 e11 e12 T
 refine hK _ _ ?_
 refine wp_seq ?_
 refine region4 (B:=w4.heap.size) (k:=5) (k':=6) (b8:=w.heap.size+1+1) a1 v1 (fun _ _ _ _ _ h=>h) S1.size (S1.tmps 8 (by kernel_rfl)) e11 e12 (range_next E3 hb1 (by omega)) (by omega) hb1.size T ?_
 intro a2 v2 hb2 S2 T2
 have hv:Below w4.heap.size w4 v2:=hb1.trans hb2
 have hw:Below w.heap.size w v2:=chain hA hv
 have TX:TbX v2 ta ts:=TbX.next (w:=w) hT hw
 have DX:DtAt v2 da data:=hD.next hw
 have X6:PlX v2 p q:=PlX.next (w:=w) hp hw
 have X7:PlX v2 p' q':=PlX.next (w:=w) hp' hw
 have KX:KsAt v2.heap.size v2 xa x.ks:=(KsAt.next hw (Nat.le_refl _) hx).up hw.size
 have X11:PlX v2 (.mk 5 0 x [] [] [p,p']) ⟨xa,xc,none,0,none,0,some ⟨s,0,none⟩,2⟩:=⟨KX,.nil _,.inl rfl,ps_of T2.k T2.ls X6 X7⟩
 have X12:PlX v2 (.mk 6 0 x [] [] [p,p']) ⟨xa,xc,none,0,none,0,some ⟨s',0,none⟩,2⟩:=⟨KX,.nil _,.inl rfl,ps_of T2.k' T2.ls' X6 X7⟩
 have ok:∀ k,PlOk (.mk k 0 x [] [] [p,p']):=fun k=>.mk _ _ _ _ _ _ (by omega) (by simp) (by simp) fun r hr=>by
  simp only [List.mem_cons,List.not_mem_nil,or_false] at hr
  rcases hr with rfl | rfl
  ·exact hk
  ·exact hk'
 refine wp_seq ?_
 refine region5 a2 v2 (S2.size.trans S1.size) ((S2.tmps 0 (by kernel_rfl)).trans (S1.tmps 0 (by kernel_rfl))) ((S2.tmps 4 (by kernel_rfl)).trans (S1.tmps 4 (by kernel_rfl))) ((S2.tmps 6 (by kernel_rfl)).trans (S1.tmps 6 (by kernel_rfl))) ((S2.tmps 7 (by kernel_rfl)).trans (S1.tmps 7 (by kernel_rfl))) ((S2.tmps 11 (by kernel_rfl)).trans e11) ((S2.tmps 12 (by kernel_rfl)).trans e12)
  (E1.next hv) (E2.next hv) (el_of T2.r T2.lb) (el_of T2.r' T2.lb') X6 X7 X11 X12 TX DX hk hk' (ok 5) (ok 6) ?_
 intro a3 v3 hb3 hd3 _ h10
 refine wp_ret ?_
 exact bodyPost_ret (v:=.bool true) ((results_tmp rfl _ _ _).trans (by rw [h10])) (hd3.trans (S2.defers.trans S1.defers)) ⟨rfl,chain hw hb3⟩
end Go.Proofs.YtoefpglknaiaeaaGreat
