/- Together: ER, ES, ET, EU, FixQuick, XOpen, AOpen, EOpen, ZOpen. -/
import Derived.Deep.Slices
import Derived.Deep.Strs
import Derived.ProofKit
import Derived.OpenShut
import Derived.ChangeOld
import Derived.Lib.SmallJoins
import Derived.SizedLaws
import Derived.Test.YtohjlfhmnmcndaaGreatM18
import Derived.Test.YtohjlfhmnmcndaaGreatM14
import Derived.Test.YtohjlfhmnmcndaaGreatM6
import Derived.Test.YtohjlfhmnmcndaaGreatM9
import Derived.Test.YtohjlfhmnmcndaaGreatM1
namespace Go.Proofs.YtohjlfhmnmcndaaGreat
open Go.RowKit Go.Lib Go.Shelf
set_option maxRecDepth 100000
set_option maxHeartbeats 16000000
abbrev qB:Array Value:=#[.int .i64 1,.int .i64 0,.int .i64 0,.int .i64 0,.int .i64 0,.string ⟨#[]⟩,.int .i64 0,.slice none 0 0,.slice none 0 0,.slice none 0 0,.slice none 0 0]
theorem Gx (w:World):Calls Tryz.prog 22 #[] w fun e w'=>∃ s c,e = .returned (.tuple #[bP (et 0) pO,bP gw (sq s c)])∧pM w' gw (sq s c)∧Below w.heap.size w w':=by
 have z1:(w.alloc (.cells oJ 31)).heap.size=w.heap.size+1:=by simp
 have z2:((w.alloc (.cells oJ 31)).alloc (.cells oJ 31)).heap.size=w.heap.size+2:=by simp
 have b1:=aa w (.cells oJ 31);have b2:Below (w.alloc (.cells oJ 31)).heap.size (w.alloc (.cells oJ 31)) ((w.alloc (.cells oJ 31)).alloc (.cells oJ 31)):=(Nk _ _).alloc (Nj _) _;have b3:Below ((w.alloc (.cells oJ 31)).alloc (.cells oJ 31)).heap.size ((w.alloc (.cells oJ 31)).alloc (.cells oJ 31)) (((w.alloc (.cells oJ 31)).alloc (.cells oJ 31)).alloc (.cells qB 31)):=(Nk _ _).alloc (Nj _) _;have Z0:=aw w oJ 31;have Z1:=aw (w.alloc (.cells oJ 31)) oJ 31
 replace Z0:=((chain b2 b3).block _ (ae Z0)).trans Z0;replace Z1:=(b3.block _ (ae Z1)).trans Z1;have E2:oZ (((w.alloc (.cells oJ 31)).alloc (.cells oJ 31)).alloc (.cells qB 31)) ((w.alloc (.cells oJ 31)).alloc (.cells oJ 31)).heap.size (et 0) pO:=⟨gY.new _ (et 0) pO 31,by simp⟩
 rw [z1] at Z1;rw [z2] at E2;have hA:=chain b1 (chain b2 b3);clear z1 z2 b1 b2 b3;go_enter Tryz.func22,Tryz.ntmps22;go_upto_region 2 with fail
 generalize ((w.alloc (.cells oJ 31)).alloc (.cells oJ 31)).alloc (.cells qB 31)=wA at *;go_wp2_with fail
 rename_i K hK
 refine Li _ _ rfl rfl E2 ?_;intro a1 v1 b s c hb1 S1 e3 hl J;refine hK _ _ ?_;refine wp_seq ?_;have l0:=ae Z0;have l1:=ae Z1;have l2:=E2.lt;have m0:=(hb1.block _ l0).trans Z0;have m1:=(hb1.block _ l1).trans Z1;refine LA (b0:=w.heap.size) (b1:=w.heap.size+1) (b2:=w.heap.size+2) (b3:=b) (s:=s) (c:=c) a1 v1 S1.size (S1.tmps 0 (by kernel_rfl)) (S1.tmps 1 (by kernel_rfl)) (S1.tmps 2 (by kernel_rfl)) e3 m0 m1 (by omega) (E2.next hb1) (by omega) (by omega) J (by omega) (by omega) ?_;intro a2 v2 s' c' B2 S2 E0 E1 PX
 have t0:a2.tmps.getD 0 undef = .pointer (some ⟨w.heap.size,0,none⟩):=(S2.tmps 0 (by kernel_rfl)).trans (S1.tmps 0 (by kernel_rfl));have t1:a2.tmps.getD 1 undef = .pointer (some ⟨w.heap.size+1,0,none⟩):=(S2.tmps 1 (by kernel_rfl)).trans (S1.tmps 1 (by kernel_rfl));have hw:=chain hA hb1;have hB:Below w.heap.size w v2:=⟨B2.os.trans hw.os,B2.tape.trans hw.tape,B2.output.trans hw.output,Nw hw.size B2.size,fun k hk=>(B2.bm k (Nn hk hw.size) (by omega) (by omega)).trans (hw.block k hk)⟩
 obtain ⟨y0,y1,⟨y2,y3,y4,y5,y6,y7⟩,y8,y9,y10⟩:=E0.el;simp only [Np] at y1 y2 y3 y4 y5 y6 y7 y8 y9 y10;obtain ⟨x0,x1,⟨x2,x3,x4,x5,x6,x7⟩,x8,x9,x10⟩:=E1.el;simp only [Np] at x1 x2 x3 x4 x5 x6 x7 x8 x9 x10;refine wp_ret ?_;refine Nl (v:=.tuple #[bP (et 0) pO,bP gw (sq s' c')]) ?_ (S2.defers.trans S1.defers) ⟨s',c',rfl,PX,hB⟩;simp only [Pg] at t0 t1;clear hB hw B2 PX E0 E1 m0 m1 Z0 Z1 E2 J hK K;unfold bP;simp [results,Tryz.results22,go_sem,t0,t1,y0,y1,y2,y3,y4,y5,y6,y7,y8,y9,y10,x0,x1,x2,x3,x4,x5,x6,x7,x8,x9,x10]
def JL (a b:Int):List Vl:=[(3,a,⟨#[]⟩),(3,b,⟨#[]⟩)]
def ph:List Zp:=[(JL 1 2,1),(JL 2 3,1)]
theorem Bh:(eW [[3,3]] (et 0) gw [ph]).2.2=0:=by decide +kernel
theorem Am:(eW [[3,3]] (et 0) gw [ph]).2.1=2:=by decide +kernel
theorem AD:(eW [[3,3]] (et 0) gw [ph]).1.length=3:=by decide +kernel
theorem Lb {W:World} {s:Nat} {x y:Int} (h:W.heap[s]? = some (.cells #[.int .i64 3,.int .i64 x,.string ⟨#[]⟩,.int .i64 3,.int .i64 y,.string ⟨#[]⟩] 24 (0,0))):aM W (some ⟨s,0,none⟩) (JL x y) :=
 ⟨by simp [JL,maxLen],.inr ⟨s,0,rfl,fun i hi=>by
  match i,hi with
  | 0,_=>exact ⟨cell_of (i:=0) h rfl,cell_of (i:=1) h rfl,cell_of (i:=2) h rfl⟩
  | 1,_=>exact ⟨cell_of (i:=3) h rfl,cell_of (i:=4) h rfl,cell_of (i:=5) h rfl⟩,ae h⟩⟩
theorem BM (x y:Int) (w:World):Calls Tryz.prog 21 #[.int .i64 x,.int .i64 y] w fun e w'=>∃ s,e = .returned (.agg #[.slice (some ⟨s,0,none⟩) 2 2,.int .i64 1])∧aM w' (some ⟨s,0,none⟩) (JL x y)∧Below w.heap.size w w':=by
 have hA:Below w.heap.size w ((w.alloc (.cells #[.slice (some ⟨w.heap.size+1,0,none⟩) 2 2,.int .i64 1] 58)).alloc (.cells #[.int .i64 3,.int .i64 x,.string ⟨#[]⟩,.int .i64 3,.int .i64 y,.string ⟨#[]⟩] 24)):=((Nk _ _).alloc (Nj _) _).alloc (by simp) _;have H:=aw (w.alloc (.cells #[.slice (some ⟨w.heap.size+1,0,none⟩) 2 2,.int .i64 1] 58)) #[.int .i64 3,.int .i64 x,.string ⟨#[]⟩,.int .i64 3,.int .i64 y,.string ⟨#[]⟩] 24;rw [show (w.alloc (.cells #[.slice (some ⟨w.heap.size+1,0,none⟩) 2 2,.int .i64 1] 58)).heap.size=w.heap.size+1 by simp] at H;have S:=Lb H
 go_enter Tryz.func21,Tryz.ntmps21;go_wp2
 exact Nl (v:=.agg #[.slice (some ⟨w.heap.size+1,0,none⟩) 2 2,.int .i64 1]) (by simp [results,Tryz.results21,go_sem]) rfl ⟨_,rfl,S,hA⟩
def f8 (lo s c:Nat) (_d:Nat→Bool) (k:Nat) (W:World) (v:Value):Prop:=match k with
 | 0=>∃ b,v = .slice (some ⟨b,0,none⟩) 2 2∧IX W (some ⟨b,0,none⟩) [3,3]
 | 1=>∃ b,v = .slice (some ⟨b,0,none⟩) 1 1∧rB W (some ⟨b,0,none⟩) [[3,3]]
 | 2=>v=bP (et 0) pO
 | 3=>v=bP gw (sq s c)
 | 4=>∃ x,v = .agg #[.slice (some ⟨x,0,none⟩) 2 2,.int .i64 1]∧aM W (some ⟨x,0,none⟩) (JL 1 2)
 | 5=>∃ x,v = .agg #[.slice (some ⟨x,0,none⟩) 2 2,.int .i64 1]∧aM W (some ⟨x,0,none⟩) (JL 2 3)
 | 6=>∃ b,v = .slice (some ⟨b,0,none⟩) 2 2∧aL W (some ⟨b,0,none⟩) ph
 | 7=>∃ b,v = .slice (some ⟨b,0,none⟩) 1 1∧gL W (some ⟨b,0,none⟩) [ph]
 | 8=>∃ u,v = .tuple #[u,.int .i64 2,.int .i64 0]∧bZ lo W u (eW [[3,3]] (et 0) gw [ph]).1
 | 9=>∃ u,v = .tuple #[u,.int .i64 2,.int .i64 0]∧bZ lo W u (eW [[3,3]] (et 0) gw [ph]).1
 | 10=>bZ lo W v (eW [[3,3]] (et 0) gw [ph]).1
 | 11=>v = .int .i64 2
 | 12=>v = .int .i64 0
 | 13=>bZ lo W v (eW [[3,3]] (et 0) gw [ph]).1
 | 14=>v = .int .i64 2
 | 15=>v = .int .i64 0
 | _=>True
theorem Jz (lo s c:Nat):∀ d (i j:Nat) W W' v,f8 lo s c d j W v→Below W.heap.size W W'→f8 lo s c (cI d i) j W' v:=by
 intro d i j W W' v h hb
 match j,h with
 | 0,h=>obtain ⟨b,e,h⟩:=h; exact ⟨b,e,h.next hb⟩
 | 1,h=>obtain ⟨b,e,h⟩:=h; exact ⟨b,e,h.next hb⟩
 | 2,h=>exact h
 | 3,h=>exact h
 | 4,h=>obtain ⟨b,e,h⟩:=h; exact ⟨b,e,h.next hb⟩
 | 5,h=>obtain ⟨b,e,h⟩:=h; exact ⟨b,e,h.next hb⟩
 | 6,h=>obtain ⟨b,e,h⟩:=h; exact ⟨b,e,h.next hb⟩
 | 7,h=>obtain ⟨b,e,h⟩:=h; exact ⟨b,e,h.next hb⟩
 | 8,h=>obtain ⟨b,e,h⟩:=h; exact ⟨b,e,h.next hb⟩
 | 9,h=>obtain ⟨b,e,h⟩:=h; exact ⟨b,e,h.next hb⟩
 | 10,h=>exact bZ.next h hb
 | 11,h=>exact h
 | 12,h=>exact h
 | 13,h=>exact bZ.next h hb
 | 14,h=>exact h
 | 15,h=>exact h
 | _+16,h=>exact trivial
theorem AZ (n:Int) (h:-9223372036854775808≤n∧n≤9223372036854775807):cz (et n):=.mk _ _ _ _ _ _ h (by simp) (by simp) (fun p hp=>by cases hp)
theorem Lq:cz gw:=.mk _ _ _ _ _ _ (by omega) (by simp) (by simp) fun p hp=>by
 simp at hp
 subst hp
 refine .mk _ _ _ _ _ _ (by omega) (by simp) (by simp) fun p hp=>?_
 simp at hp
 rcases hp with rfl | rfl
 ·exact AZ 1 (by omega)
 ·exact AZ 0 (by omega)
theorem LM {W:World} {b x y:Nat} (h:W.heap[b]? = some (.cells #[.slice (some ⟨x,0,none⟩) 2 2,.int .i64 1,.slice (some ⟨y,0,none⟩) 2 2,.int .i64 1] 58 (0,0))) (hx:aM W (some ⟨x,0,none⟩) (JL 1 2)) (hy:aM W (some ⟨y,0,none⟩) (JL 2 3)):aL W (some ⟨b,0,none⟩) ph :=
 ⟨by simp [ph,maxLen],.inr ⟨b,0,rfl,ae h,fun i hi=>by
  match i,hi with
  | 0,_=>exact ⟨cell_of (i:=1) h rfl,_,2,cell_of (i:=0) h rfl,hx⟩
  | 1,_=>exact ⟨cell_of (i:=3) h rfl,_,2,cell_of (i:=2) h rfl,hy⟩⟩⟩
theorem KZ {W:World} {b:Nat} (h:W.heap[b]? = some (.cells #[.int .i64 3,.int .i64 3] 3 (0,0))):IX W (some ⟨b,0,none⟩) [3,3] :=
 ⟨by simp [maxLen],.inr ⟨b,0,rfl,ae h,fun i hi=>by
  match i,hi with
  | 0,_=>exact cell_of (i:=0) h rfl
  | 1,_=>exact cell_of (i:=1) h rfl⟩⟩
theorem KW {Q:Exit→Act→World→Prop} {b1 b2 s c:Nat} (a:Act) (w:World) (hsz:a.tmps.size=34) (h1:a.tmps.getD 1 undef = .pointer (some ⟨b1,0,none⟩)) (h2:a.tmps.getD 2 undef = .pointer (some ⟨b2,0,none⟩)) (E1:oZ w b1 (et 0) pO) (E2:oZ w b2 gw (sq s c)) (PX:pM w gw (sq s c))
  (fin:∀ a' w' v,Below w.heap.size w w'→Same (tT Tryz.f8 2) a a'→a'.tmps.getD 3 undef=v→a'.tmps.getD 4 undef = .int .i64 2→a'.tmps.getD 5 undef = .int .i64 0→bZ w.heap.size w' v (eW [[3,3]] (et 0) gw [ph]).1→Q .normal a' w'):(Code.region 2 (tT Tryz.f8 2) true).wp Tryz.prog Q a w:=by
 refine gu (by kernel_rfl) (fun W=>Below w.heap.size w W) (f8 w.heap.size s c) (fun _ _ W W'=>Below W.heap.size W W') (fun d _ i j W W' v _ _ _ h hb=>Jz _ s c d i j W W' v h hb) (by rw [hsz]; kernel_rfl) (Nk _ _).drew ?_ ?_
 ·refine ⟨?_,?_,?_,?_,?_,?_,?_,?_,?_,?_,?_,?_,?_,?_,?_,?_,trivial⟩
  ·refine bu rfl rfl fun d a' W hc hs hd hcl hf=>?_
   have hal:=aa W (.cells #[.int .i64 3,.int .i64 3] 3);refine ⟨.slice (some ⟨W.heap.size,0,none⟩) 2 2,W.alloc (.cells #[.int .i64 3,.int .i64 3] 3),?_,chain hc hal,hal,⟨_,rfl,KZ (aw W #[.int .i64 3,.int .i64 3] 3)⟩⟩;simp only [execOp,Act.eval,NM,NO,NS];clear hf hcl hs fin hal;go_simp
  ·refine bu rfl rfl fun d a' W hc hs hd hcl hf=>?_
   obtain ⟨b,k,H⟩:=bM hf (j:=0) (t:=11) (by kernel_rfl);have hal:=aa W (.cells #[.slice (some ⟨b,0,none⟩) 2 2] 45);refine ⟨.slice (some ⟨W.heap.size,0,none⟩) 1 1,W.alloc (.cells #[.slice (some ⟨b,0,none⟩) 2 2] 45),?_,chain hc hal,hal,⟨_,rfl,rB.one 2 H⟩⟩;simp only [execOp,Act.eval,k,NM,NO,NS];clear hf hcl hs fin hal;clear k H;go_simp
  ·refine bu rfl rfl fun d a' W hc hs hd hcl hf=>?_
   have h:a'.tmps.getD 1 undef=_:=(hs.tmps 1 (by kernel_rfl)).trans h1;obtain ⟨y0,y1,⟨y2,y3,y4,y5,y6,y7⟩,y8,y9,y10⟩:=(E1.next hc).el;simp only [Np] at y1 y2 y3 y4 y5 y6 y7 y8 y9 y10;refine ⟨bP (et 0) pO,W,?_,hc,Nk _ _,rfl⟩;simp only [execOp,Act.eval,h];clear hf hcl hs fin h;unfold bP;go_simp
  ·refine bu rfl rfl fun d a' W hc hs hd hcl hf=>?_
   have h:a'.tmps.getD 2 undef=_:=(hs.tmps 2 (by kernel_rfl)).trans h2;obtain ⟨y0,y1,⟨y2,y3,y4,y5,y6,y7⟩,y8,y9,y10⟩:=(E2.next hc).el;simp only [Np] at y1 y2 y3 y4 y5 y6 y7 y8 y9 y10;refine ⟨bP gw (sq s c),W,?_,hc,Nk _ _,rfl⟩;simp only [execOp,Act.eval,h];clear hf hcl hs fin h;unfold bP;go_simp
  ·refine hU rfl rfl fun d a' W hc hs hd _ hf=>⟨21,#[.int .i64 1,.int .i64 2],?_,(BM 1 2 W).mono fun e w' ⟨s,he,hS,hb⟩=>⟨_,he,chain hc hb,hb,s,rfl,hS⟩⟩
   simp only [execOp,Act.eval,resolve,NM,NO,NS];rfl
  ·refine hU rfl rfl fun d a' W hc hs hd _ hf=>⟨21,#[.int .i64 2,.int .i64 3],?_,(BM 2 3 W).mono fun e w' ⟨s,he,hS,hb⟩=>⟨_,he,chain hc hb,hb,s,rfl,hS⟩⟩
   simp only [execOp,Act.eval,resolve,NM,NO,NS];rfl
  ·refine bu rfl rfl fun d a' W hc hs hd hcl hf=>?_
   obtain ⟨x,k1,H1⟩:=bM hf (j:=4) (t:=15) (by kernel_rfl);obtain ⟨y,k2,H2⟩:=bM hf (j:=5) (t:=16) (by kernel_rfl);have hal:=aa W (.cells #[.slice (some ⟨x,0,none⟩) 2 2,.int .i64 1,.slice (some ⟨y,0,none⟩) 2 2,.int .i64 1] 58);refine ⟨.slice (some ⟨W.heap.size,0,none⟩) 2 2,W.alloc (.cells #[.slice (some ⟨x,0,none⟩) 2 2,.int .i64 1,.slice (some ⟨y,0,none⟩) 2 2,.int .i64 1] 58),?_,chain hc hal,hal,⟨_,rfl,LM (aw W _ 58) (H1.next hal) (H2.next hal)⟩⟩
   simp only [execOp,Act.eval,k1,k2,NM,NO,NS];clear hf hcl hs fin hal;clear k1 k2 H1 H2;go_simp
  ·refine bu rfl rfl fun d a' W hc hs hd hcl hf=>?_
   obtain ⟨b,k,H⟩:=bM hf (j:=6) (t:=17) (by kernel_rfl);have hal:=aa W (.cells #[.slice (some ⟨b,0,none⟩) 2 2] 34);refine ⟨.slice (some ⟨W.heap.size,0,none⟩) 1 1,W.alloc (.cells #[.slice (some ⟨b,0,none⟩) 2 2] 34),?_,chain hc hal,hal,⟨_,rfl,K0 (cap:=2) H (by intro e; cases e)⟩⟩;simp only [execOp,Act.eval,k,NM,NO,NS];clear hf hcl hs fin hal;clear k H;go_simp
  ·refine hU rfl rfl fun d a' W hc hs hd _ hf=>?_
   obtain ⟨b1,k1,H1⟩:=bM hf (j:=1) (t:=12) (by kernel_rfl);have k2:a'.tmps.getD 13 undef=_:=bM hf (j:=2) (t:=13) (by kernel_rfl);have k3:a'.tmps.getD 14 undef=_:=bM hf (j:=3) (t:=14) (by kernel_rfl);obtain ⟨b4,k4,H4⟩:=bM hf (j:=7) (t:=18) (by kernel_rfl);have con:=GM [[3,3]] (et 0) pO gw (sq s c) [ph] (some ⟨b1,0,none⟩) 1 (some ⟨b4,0,none⟩) 1 W H1 (MJ _ _ 0) (AZ 0 (by omega)) (PX.next hc) Lq H4;rw [Bh,Am] at con
   refine ⟨9,#[.slice (some ⟨b1,0,none⟩) 1 1,bP (et 0) pO,bP gw (sq s c),.slice (some ⟨b4,0,none⟩) 1 1],?_,con.mono fun e w' ⟨u,he,hO,hb⟩=>⟨_,he,chain hc hb,hb,u,rfl,hO.mono hc.size⟩⟩;simp only [execOp,Act.eval,k1,k2,k3,k4,resolve,NM,NO,NS];rfl
  ·exact jc rfl rfl (.inl rfl) (j:=8) (by kernel_rfl) (fun _ _ _=>Nk _ _) (fun d W v h=>h)
  ·exact jb rfl rfl rfl (j:=9) (by kernel_rfl) (fun _ _ _=>Nk _ _) (fun d W v h=>by obtain ⟨u,e,h⟩:=h; exact ⟨_,u,e,rfl,h⟩)
  ·exact jb rfl rfl rfl (j:=9) (by kernel_rfl) (fun _ _ _=>Nk _ _) (fun d W v h=>by obtain ⟨u,e,h⟩:=h; exact ⟨_,_,e,rfl,rfl⟩)
  ·exact jb rfl rfl rfl (j:=9) (by kernel_rfl) (fun _ _ _=>Nk _ _) (fun d W v h=>by obtain ⟨u,e,h⟩:=h; exact ⟨_,_,e,rfl,rfl⟩)
  ·exact jc rfl rfl (.inr rfl) (j:=10) (by kernel_rfl) (fun _ _ _=>Nk _ _) (fun d W v h=>h)
  ·exact jc rfl rfl (.inr rfl) (j:=11) (by kernel_rfl) (fun _ _ _=>Nk _ _) (fun d W v h=>h)
  ·exact jc rfl rfl (.inr rfl) (j:=12) (by kernel_rfl) (fun _ _ _=>Nk _ _) (fun d W v h=>h)
 ·intro d a' w' hc hs hall hf;exact fin a' w' _ hc hs rfl (hf 14 (of_decide_eq_true (by kernel_rfl)) _ 4 rfl rfl) (hf 15 (of_decide_eq_true (by kernel_rfl)) _ 5 rfl rfl) (hf 13 (of_decide_eq_true (by kernel_rfl)) _ 3 rfl rfl)
theorem AM (w:World):Calls Tryz.prog 8 #[] w fun e w'=>e = .returned (.bool true)∧Below w.heap.size w w':=by
 have con:=Gx w;go_enter Tryz.func8,Tryz.ntmps8;go_wp2_with fail
 refine con.mono ?_;rintro e w1 ⟨s,c,rfl,PX,hb1⟩;clear con;rw [Lp,Ml];have z1:(w1.alloc (.cells qB 31)).heap.size=w1.heap.size+1:=by simp
 have k1:=aa w1 (.cells qB 31);have k2:Below (w1.alloc (.cells qB 31)).heap.size (w1.alloc (.cells qB 31)) ((w1.alloc (.cells qB 31)).alloc (.cells #[.int .i64 3,.int .i64 0,.int .i64 0,.int .i64 0,.int .i64 0,.string ⟨#[]⟩,.int .i64 0,.slice none 0 0,.slice (some ⟨s,0,none⟩) 2 2,.slice none 0 0,.slice (some ⟨c,0,none⟩) 1 1] 31)):=(Nk _ _).alloc (Nj _) _;have E1:oZ (w1.alloc (.cells qB 31)) w1.heap.size (et 0) pO:=⟨gY.new _ (et 0) pO 31,by simp⟩
 have E2:oZ ((w1.alloc (.cells qB 31)).alloc (.cells #[.int .i64 3,.int .i64 0,.int .i64 0,.int .i64 0,.int .i64 0,.string ⟨#[]⟩,.int .i64 0,.slice none 0 0,.slice (some ⟨s,0,none⟩) 2 2,.slice none 0 0,.slice (some ⟨c,0,none⟩) 1 1] 31)) (w1.alloc (.cells qB 31)).heap.size gw (sq s c):=⟨gY.new _ gw (sq s c) 31,by simp⟩
 replace E1:=E1.next k2;rw [z1] at E2;replace PX:=PX.next (chain k1 k2);have hA:=chain hb1 (chain k1 k2);clear z1 k1 k2 hb1;go_upto_region 2 with fail
 generalize (w1.alloc (.cells qB 31)).alloc (.cells #[.int .i64 3,.int .i64 0,.int .i64 0,.int .i64 0,.int .i64 0,.string ⟨#[]⟩,.int .i64 0,.slice none 0 0,.slice (some ⟨s,0,none⟩) 2 2,.slice none 0 0,.slice (some ⟨c,0,none⟩) 1 1] 31)=w2 at *;go_wp2_with fail
 rename_i K hK
 refine KW _ _ rfl rfl rfl E1 E2 PX ?_;intro a3 w3 v3 hb3 S3 e3 e4 e5 O3;refine hK _ _ ?_;clear hK K;obtain ⟨x3,c3,rfl,Z3,_⟩:=O3.xK;rw [AD] at e3;have ea:=S3.qp (l:=[some 11,some 12,some 13,some 14,some 15,some 16,some 17,some 18,some 19,some 10,some 20,some 21,some 22,some 3,some 4,some 5]) (by kernel_rfl);simp only [qp,Act.put,NK,NX,N0,e3,e4,e5] at ea
 generalize a3.tmps.getD 11 undef=u11,a3.tmps.getD 12 undef=u12,a3.tmps.getD 13 undef=u13,a3.tmps.getD 14 undef=u14,a3.tmps.getD 15 undef=u15,a3.tmps.getD 16 undef=u16,a3.tmps.getD 17 undef=u17,a3.tmps.getD 18 undef=u18,a3.tmps.getD 19 undef=u19,a3.tmps.getD 10 undef=u10,a3.tmps.getD 20 undef=u20,a3.tmps.getD 21 undef=u21,a3.tmps.getD 22 undef=u22 at ea;subst ea;go_wp2
 go_ret;exact ⟨rfl,chain hA hb3⟩
theorem JF {ts:List (List Int)} {p p':Pl} {data:List (List Zp)} (h:¬ eA ts p p' data=0):lD ts p p' data=([],eA ts p p' data):=by unfold lD; rw [if_pos h]
theorem IQ {ts:List (List Int)} {p p':Pl} {data:List (List Zp)} (h:eA ts p p' data=0) (h2:lR (ts.length:Int) p'=false):lD ts p p' data=([],8):=by unfold lD; rw [if_neg (by simpa using h),if_pos h2]
theorem Jk {ts:List (List Int)} {p p':Pl} {data:List (List Zp)} (h:eA ts p p' data=0) (h2:lR (ts.length:Int) p'=true) (h3:(eW ts p p' data).2.2=0) (ht:ij data=true):lD ts p p' data=((eW ts p p' data).1,0):=by
 have F:=KO (P:=fun _=>True) h3 (fun _=>trivial) fun _ _ _ _ _=>trivial
 have hl:=(pk h).2.1;obtain ⟨q1,q2⟩:=Lo hl h2;have dl:(data.length:Int)=ts.length:=by have:=(j8 (pk h).2.2.2).1; omega
 obtain ⟨s1,s2⟩:=Bx h3 (by rw [dl]; exact q1) q2 ht;unfold lD;rw [if_neg (by simpa using h),if_neg (by rw [h2]; simp),if_neg (by simpa using F.qJ),s1,s2]
theorem tZ (ta:Option Addr) (tc:Nat) (ts:List (List Int)) (p:Pl) (q:Pw) (p':Pl) (q':Pw) (da:Option Addr) (dc:Nat) (data:List (List Zp)) (w:World) (hT:fy w.heap.size w ta ts) (hp:ja w.heap.size w p q) (hk:cz p) (hp':ja w.heap.size w p' q') (hk':cz p') (hD:gL w da data) (hn:data.length≤10000000000000) :
  Calls Tryz.prog 3 #[.slice ta ts.length tc,bP p q,bP p' q',.slice da data.length dc] w fun e w'=>e = .returned (.bool true)∧Below w.heap.size w w':=by
 have hA:=jM w p q p' q';have EL:=zL w p q p' q';have ER:=yO w p q p' q';have HK:Hid (cz p):=hk;have HK':Hid (cz p'):=hk';have TX:=rB.next (w:=w) hT hA;have PX:=pM.next (w:=w) hp hA;have PX':=pM.next (w:=w) hp' hA;have DX:=hD.next hA;clear hk hk' hT hp hp' hD;unfold bP;go_enter Tryz.func3,Tryz.ntmps3;go_upto_region 1 with fail
 generalize (w.alloc (bK p q)).alloc (bK p' q')=wA at *;have con:=AM wA;go_wp2_with fail
 refine con.mono ?_;rintro e w1 ⟨rfl,hb⟩;clear con;replace hA:=chain hA hb;replace TX:=TX.next hb;replace PX:=PX.next hb;replace PX':=PX'.next hb;replace DX:=DX.next hb;replace EL:=EL.next hb;replace ER:=ER.next hb;clear hb;have HQ1:Hid (¬ eA ts p p' data=0→lD ts p p' data=([],eA ts p p' data)):=JF;have HQ2:Hid (eA ts p p' data=0→lR (ts.length:Int) p'=false→lD ts p p' data=([],8)):=IQ;have HQ3:Hid (eA ts p p' data=0→lR (ts.length:Int) p'=true→(eW ts p p' data).2.2=0→ij data=true→lD ts p p' data=((eW ts p p' data).1,0)):=Jk
 have HLW:Hid (eA ts p p' data=0→aX (bN ts p) p'=0∧data.length≤8):=fun h=>⟨(pk h).2.1,wh h⟩
 have con:=GM ts p q p' q' data ta tc da dc w1 TX PX HK.out PX' HK'.out DX;obtain ⟨R1,hR1⟩:∃ R,eW ts p p' data=R:=⟨_,rfl⟩
 rw [hR1] at con HQ3;clear hR1;obtain ⟨z1,n1,e1⟩:=R1;obtain ⟨y0,y1,⟨y2,y3,y4,y5,y6,y7⟩,y8,y9,y10⟩:=EL.el;simp only [Np] at y1 y2 y3 y4 y5 y6 y7 y8 y9 y10;obtain ⟨x0,x1,⟨x2,x3,x4,x5,x6,x7⟩,x8,x9,x10⟩:=ER.el;simp only [Np] at x1 x2 x3 x4 x5 x6 x7 x8 x9 x10;unfold bP at con;(try dsimp only at con);go_wp2_with fail
 refine con.mono ?_;rintro e w2 ⟨v2,rfl,O2,hb⟩;clear con y0 y1 y2 y3 y4 y5 y6 y7 y8 y9 y10 x0 x1 x2 x3 x4 x5 x6 x7 x8 x9 x10;obtain ⟨a2,c2,rfl,Z2,_⟩:=O2.xK;replace hA:=chain hA hb;replace TX:=TX.next hb;replace PX:=PX.next hb;replace PX':=PX'.next hb;replace DX:=DX.next hb;replace EL:=EL.next hb;replace ER:=ER.next hb;clear hb O2;have con:=Gy ts p q p' q' data ta tc da dc w2 TX PX HK.out PX' HK'.out DX;obtain ⟨R2,hR2⟩:∃ R,lD ts p p' data=R:=⟨_,rfl⟩
 rw [hR2] at con HQ1 HQ2 HQ3;clear hR2;obtain ⟨z2,e2⟩:=R2;obtain ⟨y0,y1,⟨y2,y3,y4,y5,y6,y7⟩,y8,y9,y10⟩:=EL.el;simp only [Np] at y1 y2 y3 y4 y5 y6 y7 y8 y9 y10;obtain ⟨x0,x1,⟨x2,x3,x4,x5,x6,x7⟩,x8,x9,x10⟩:=ER.el;simp only [Np] at x1 x2 x3 x4 x5 x6 x7 x8 x9 x10;unfold bP at con;(try dsimp only at con);go_wp2_with fail
 refine con.mono ?_;rintro e w3 ⟨v3,rfl,O3,hb⟩;clear con y0 y1 y2 y3 y4 y5 y6 y7 y8 y9 y10 x0 x1 x2 x3 x4 x5 x6 x7 x8 x9 x10;obtain ⟨a3,c3,rfl,Z3,_⟩:=O3.xK;replace hA:=chain hA hb;replace TX:=TX.next hb;replace PX:=PX.next hb;replace PX':=PX'.next hb;replace DX:=DX.next hb;replace EL:=EL.next hb;replace ER:=ER.next hb;replace Z2:=Z2.next hb;clear hb O3;have con:=Et ts p q p' q' data ta tc da dc w3 TX PX HK.out PX' HK'.out DX hn;generalize eA ts p p' data=we at *;obtain ⟨y0,y1,⟨y2,y3,y4,y5,y6,y7⟩,y8,y9,y10⟩:=EL.el;simp only [Np] at y1 y2 y3 y4 y5 y6 y7 y8 y9 y10
 obtain ⟨x0,x1,⟨x2,x3,x4,x5,x6,x7⟩,x8,x9,x10⟩:=ER.el;simp only [Np] at x1 x2 x3 x4 x5 x6 x7 x8 x9 x10;unfold bP at con;go_wp2_with fail
 refine con.mono ?_;rintro e w4 ⟨rfl,hb⟩;clear con y0 y1 y2 y3 y4 y5 y6 y7 y8 y9 y10 x0 x1 x2 x3 x4 x5 x6 x7 x8 x9 x10;replace hA:=chain hA hb;replace TX:=TX.next hb;replace PX:=PX.next hb;replace PX':=PX'.next hb;replace DX:=DX.next hb;replace EL:=EL.next hb;replace ER:=ER.next hb;replace Z2:=Z2.next hb;replace Z3:=Z3.next hb;clear hb;by_cases h0:we=0;rotate_left
 ·have e:=HQ1.out h0;injection e with r1 r2
  subst r1 r2;have hb0:(e2 != 0)=true:=by simpa using h0
  clear HQ1 HQ2 HQ3 HLW h0 Z2 Z3;go_wp2_with fail
  go_ret;exact ⟨rfl,hA⟩
 obtain ⟨lk,d8⟩:=HLW.out h0;have HQ2':=HQ2.out h0;have HQ3':=HQ3.out h0;have con:=zQ (bN ts p) (ts.length:Int) p' q' w4 lk PX';rw [IW lk] at con;have H2:Hid (lR (ts.length:Int) p'=false→(z2,e2)=([],8)):=HQ2';have H3:Hid (lR (ts.length:Int) p'=true→e1=0→ij data=true→(z2,e2)=(z1,0)):=HQ3';generalize lR (ts.length:Int) p'=pb at *;subst h0;clear HQ1 HQ2 HQ3 HLW HQ2' HQ3' lk;obtain ⟨x0,x1,⟨x2,x3,x4,x5,x6,x7⟩,x8,x9,x10⟩:=ER.el;simp only [Np] at x1 x2 x3 x4 x5 x6 x7 x8 x9 x10;unfold bP at con;go_wp2_with fail
 refine con.mono ?_;rintro e w5 ⟨rfl,hb⟩;clear con x0 x1 x2 x3 x4 x5 x6 x7 x8 x9 x10;replace hA:=chain hA hb;replace TX:=TX.next hb;replace PX:=PX.next hb;replace PX':=PX'.next hb;replace DX:=DX.next hb;replace EL:=EL.next hb;replace ER:=ER.next hb;replace Z2:=Z2.next hb;replace Z3:=Z3.next hb;clear hb;cases pb with
 | false =>
  have e:=H2.out rfl;injection e with r1 r2
  subst r1 r2;clear H2 H3 Z2 Z3;go_wp2_with fail
  go_ret;exact ⟨rfl,hA⟩
 | true =>
 by_cases h1:e1=0;rotate_left
 ·have hb1:(e1 != 0)=true:=by simpa using h1
  clear H2 H3;go_wp2_with fail
  go_ret;exact ⟨rfl,hA⟩
 have H4:Hid (ij data=true→(z2,e2)=(z1,0)):=H3.out rfl h1;subst h1;clear H2 H3;have con:=GP data da dc w5 DX (by omega);generalize ij data=tb at *;go_wp2_with fail
 refine con.mono ?_;rintro e w6 ⟨rfl,hb⟩;clear con;replace hA:=chain hA hb;replace Z2:=Z2.next hb;replace Z3:=Z3.next hb;clear hb;cases tb with
 | false =>
  go_wp2_with fail
  go_ret;exact ⟨rfl,hA⟩
 | true =>
 have e:=H4.out rfl;injection e with r1 r2
 subst r1 r2;have con:=Kc a2 a3 c2 c3 z2 w6 Z2 Z3;clear H4;go_wp2_with fail
 refine con.mono ?_;rintro e w7 ⟨rfl,hb⟩;clear con;go_wp2_with fail
 go_ret;exact ⟨rfl,chain hA hb⟩
end Go.Proofs.YtohjlfhmnmcndaaGreat
namespace Go.Proofs.YtohjlfhmnmcndaaGreat
open Go.ChangeShapes Go.WideShapes Go.ChangeAt Go.RowKit Go.Joins
set_option maxRecDepth 100000
set_option maxHeartbeats 16000000
theorem gT (b off i:Nat):(⟨b,off,none⟩:Addr).add i=⟨b,off+i,none⟩:=by
 unfold Addr.add;by_cases h:i=0 <;> simp [h]
theorem q3:Tryz.prog.cellsOf 3=1:=by kernel_rfl
theorem q2:Tryz.prog.cellsOf 2=1:=by kernel_rfl
theorem q9:Tryz.prog.cellsOf 9=1:=by kernel_rfl
theorem M5:Tryz.prog.cellsOf 24=3:=by kernel_rfl
theorem Ni:Tryz.prog.cellsOf 25=1:=by kernel_rfl
theorem Mx:Tryz.prog.cellsOf 27=6:=by kernel_rfl
theorem ED {H:Type} {enc:TypeId × Value→H} {W:World} {base:Nat} {sp:Nat→Bool} {hd:Bool} {fuel:Nat} {cs:List Value} {x:DataW H × List MemPlace}
  (h:DataW.trod enc Tryz.prog W base sp hd fuel 24 cs=some x):∃ v:Vl,cs = [.int .i64 v.1,.int .i64 v.2.1,.string v.2.2]:=by
 obtain ⟨y0,y1,y2,m,_,hlen,h0,h1,h2⟩:=Go.Deep.trod_struct3 Tryz.underlying24 h
 rw [M5] at hlen
 match cs,hlen with
 | [c0,c1,c2],_ =>
  simp only [q3,q2,q9] at h0 h1 h2
  obtain ⟨k,e0,_,_⟩:=DataW.trod_int Tryz.underlying3 h0
  obtain ⟨n,e1,_,_⟩:=DataW.trod_int Tryz.underlying2 h1
  obtain ⟨s,e2,_,_⟩:=DataW.trod_string Tryz.underlying9 h2
  simp at e0 e1 e2
  subst e0 e1 e2
  exact ⟨(k,n,s),rfl⟩
instance:Inhabited Ex:=⟨.mk 0 (0,0,⟨#[]⟩) 0 []⟩
def ze {H:Type} (enc:TypeId × Value→H) (W:World) (hd:Bool) (m:Nat):Prop :=
 ∀ cs x,DataW.trod enc Tryz.prog W 0 (fun _=>true) hd m 25 cs=some x→∃ (a:Option Addr) (cap:Nat) (l:List Ex),cs = [.slice a l.length cap]∧bd W.heap.size W a l
theorem ng {H:Type} {enc:TypeId × Value→H} {W:World} {hd:Bool} {fuel:Nat} (ih:∀ m,m<fuel→ze enc W hd m) {cs:List Value} {x:DataW H × List MemPlace}
  (h:DataW.trod enc Tryz.prog W 0 (fun _=>true) hd fuel 27 cs=some x) :
  ∃ (e:Ex) (a:Option Addr) (cap:Nat),cs = [.int .i64 e.k,.int .i64 e.v.1,.int .i64 e.v.2.1,.string e.v.2.2,.int .i64 e.c,.slice a e.ks.length cap]∧bd W.heap.size W a e.ks:=by
 obtain ⟨xs,n,hn,_,hl,hlen,hf⟩:=DataW.trod_struct Tryz.underlying27 h;rw [Mx] at hl
 match xs,hlen with
 | [y0,y1,y2,y3],_ =>
  have h0:=hf 0 _ rfl;have h1:=hf 1 _ rfl;have h2:=hf 2 _ rfl;have h3:=hf 3 _ rfl
  match cs,hl with
  | [c0,c1,c2,c3,c4,c5],_ =>
   simp [q3,M5,Ni] at h0 h1 h2 h3;obtain ⟨k,e0,_,_⟩:=DataW.trod_int Tryz.underlying3 h0;obtain ⟨v,e1⟩:=ED h1;obtain ⟨c,e2,_,_⟩:=DataW.trod_int Tryz.underlying3 h2;obtain ⟨a,cap,l,e3,hk⟩:=ih n (by omega) _ _ h3;simp at e0 e1 e2 e3;obtain ⟨r1,r2,r3⟩:=e1;subst e0 r1 r2 r3 e2 e3;exact ⟨.mk k v c l,a,cap,rfl,hk⟩
theorem tJ {H:Type} (enc:TypeId × Value→H) (W:World) (hd:Bool) (fuel:Nat):ze enc W hd fuel:=by
 induction fuel using Nat.strongRecOn with
 | ind fuel ih =>
  intro cs x h;rcases DataW.trod_slice Tryz.underlying25 h with ⟨hcs,_⟩ | ⟨a,len,cap,elems,rest,n,hn,hcs,_,_,_,_,hlen,hel,_,_⟩
  ·exact ⟨none,0,[],hcs,.nil _⟩
  ·rw [Mx] at hel;obtain ⟨f,hf⟩:=Go.Deep.choose_lt (α:=Ex × Option Addr × Nat) (n:=len) (p:=fun i (y:Ex × Option Addr × Nat) =>
     (W.cell? ((a.add (i*6)).add 0)=some (.int .i64 y.1.k)∧W.cell? ((a.add (i*6)).add 1)=some (.int .i64 y.1.v.1)∧W.cell? ((a.add (i*6)).add 2)=some (.int .i64 y.1.v.2.1)∧W.cell? ((a.add (i*6)).add 3)=some (.string y.1.v.2.2) ∧
      W.cell? ((a.add (i*6)).add 4)=some (.int .i64 y.1.c)∧W.cell? ((a.add (i*6)).add 5)=some (.slice y.2.1 y.1.ks.length y.2.2))∧bd W.heap.size W y.2.1 y.1.ks) (fun i hi=>by
    have key:=hel i hi;rw [NF (by omega)] at key;obtain ⟨cs',h1,h2⟩:=Option.bind_eq_some_iff.1 key;obtain ⟨_,hl6,hcell⟩:=OW h1;obtain ⟨e,ai,ci,rfl,hk⟩:=ng (fun m hm=>ih m (by omega)) h2;exact ⟨(e,ai,ci),⟨hcell 0 (by simp),hcell 1 (by simp),hcell 2 (by simp),hcell 3 (by simp),hcell 4 (by simp),hcell 5 (by simp)⟩,hk⟩)
   refine ⟨some a,cap,(List.range len).map fun i=>(f i).1,by simpa using hcs,?_⟩;by_cases h0:len=0
   ·subst h0; exact .nil _
   ·obtain ⟨b,off,spot⟩:=a;have hc:=(hf 0 (by omega)).1.1;have hspot:spot=none:=by simpa [Addr.add] using OR hc
    subst hspot;refine .some b off _ (fun i=>(f i).2.1) (fun i=>(f i).2.2) (Nt W _ (by simpa [Addr.add] using hc)) (fun i hi=>?_) (fun i hi=>?_)
    ·have hi':i<len:=by simpa using hi
     have:=(hf i hi').1;simp only [gT] at this;simp only [Oe,OI];exact ⟨this.1,this.2.1,this.2.2.1,this.2.2.2.1,this.2.2.2.2.1,this.2.2.2.2.2⟩
    ·have hi':i<len:=by simpa using hi
     simp only [Oe,OI];exact (hf i hi').2
theorem Mj:Tryz.prog.cellsOf 133=7:=by kernel_rfl
theorem DY {H:Type} {enc:TypeId × Value→H} {W:World} {hd:Bool} {fuel:Nat} {cs:List Value} {x:DataW H × List MemPlace}
  (h:DataW.trod enc Tryz.prog W 0 (fun _=>true) hd fuel 133 cs=some x) :
  ∃ (g:Ag) (a:Option Addr) (cap:Nat),cs = [.int .i64 g.1,.int .i64 g.2.k,.int .i64 g.2.v.1,.int .i64 g.2.v.2.1,.string g.2.v.2.2,.int .i64 g.2.c,.slice a g.2.ks.length cap]∧bd W.heap.size W a g.2.ks:=by
 obtain ⟨xs,n,hn,_,hl,hlen,hf⟩:=DataW.trod_struct Tryz.underlying133 h
 rw [Mj] at hl
 match xs,hlen with
 | [y0,y1],_ =>
  have h0:=hf 0 _ rfl
  have h1:=hf 1 _ rfl
  match cs,hl with
  | [c0,c1,c2,c3,c4,c5,c6],_ =>
   simp [q3,Mx] at h0 h1
   obtain ⟨k,e0,_,_⟩:=DataW.trod_int Tryz.underlying3 h0
   obtain ⟨e,a,cap,e1,hk⟩:=ng (fun m _=>tJ enc W hd m) h1
   simp at e0 e1
   obtain ⟨r1,r2,r3,r4,r5,r6⟩:=e1
   subst e0 r1 r2 r3 r4 r5 r6
   exact ⟨(k,e),a,cap,rfl,hk⟩
instance:Inhabited Ag:=⟨(0,.mk 0 (0,0,⟨#[]⟩) 0 [])⟩
theorem DW:8≤Tryz.prog.bytesOf 133:=by decide +kernel
theorem AA:8≤Tryz.prog.bytesOf 27:=by decide +kernel
theorem Hp (b off i:Nat):(⟨b,off,none⟩:Addr).add i=⟨b,off+i,none⟩:=by
 unfold Addr.add;by_cases h:i=0 <;> simp [h]
theorem H6 {H:Type} {enc:TypeId × Value→H} {W:World} {base:Nat} {sp:Nat→Bool} {hd:Bool} {fuel:Nat} {cs:List Value} {x:DataW H × List MemPlace} {a:Addr}
  (hc:W.cells? base a 3=some cs) (h:DataW.trod enc Tryz.prog W base sp hd fuel 24 cs=some x) :
  ∃ v:Vl,W.cell? (a.add 0)=some (.int .i64 v.1)∧W.cell? (a.add 1)=some (.int .i64 v.2.1)∧W.cell? (a.add 2)=some (.string v.2.2):=by
 obtain ⟨_,hlen,hcell⟩:=OW hc;obtain ⟨y0,y1,y2,m,_,_,h0,h1,h2⟩:=Go.Deep.trod_struct3 Tryz.underlying24 h;have q3:Tryz.prog.cellsOf 3=1:=by kernel_rfl
 have q2:Tryz.prog.cellsOf 2=1:=by kernel_rfl
 have q9:Tryz.prog.cellsOf 9=1:=by kernel_rfl
 match cs,hlen with
 | [c0,c1,c2],_ =>
  simp only [q3,q2,q9] at h0 h1 h2;obtain ⟨k,e0,_,_⟩:=DataW.trod_int Tryz.underlying3 h0;obtain ⟨n,e1,_,_⟩:=DataW.trod_int Tryz.underlying2 h1;obtain ⟨s,e2,_,_⟩:=DataW.trod_string Tryz.underlying9 h2;simp at e0 e1 e2;subst e0 e1 e2;exact ⟨(k,n,s),hcell 0 (by omega),hcell 1 (by omega),hcell 2 (by omega)⟩
theorem Au {H:Type} {enc:TypeId × Value→H} {W:World} {hd:Bool} {fuel:Nat} {cs:List Value} {x:DataW H × List MemPlace}
  (hf:DataW.trod enc Tryz.prog W 0 (fun _=>true) hd fuel 56 cs=some x):∃ (a:Option Addr) (cap:Nat) (l:List Vl),cs = [.slice a l.length cap]∧aM W a l:=by
 rcases Go.Deep.open_slice Tryz.underlying56 hf with ⟨hcs,_⟩ | ⟨a,len,cap,m,n,D,Pl,hcs,_,hl,hm,hmm,_,hx⟩
 ·exact ⟨none,0,[],hcs,by simp,.inl rfl⟩
 ·have q:Tryz.prog.cellsOf 24=3:=by kernel_rfl
  rw [q] at hx;simp only [if_true] at hmm;obtain ⟨f,hf'⟩:=Go.Deep.choose_lt (α:=Vl) (n:=len) (p:=fun i (v:Vl)=>W.cell? ((a.add (i*3)).add 0)=some (.int .i64 v.1)∧W.cell? ((a.add (i*3)).add 1)=some (.int .i64 v.2.1)∧W.cell? ((a.add (i*3)).add 2)=some (.string v.2.2)) (fun i hi=>by
   obtain ⟨cs',h1,h2⟩:=hx i (by omega);exact H6 h1 h2)
  refine ⟨some a,cap,(List.range len).map f,by simpa using hcs,?_,?_⟩
  ·simp; omega
  by_cases h0:len=0
  ·left; simp [h0]
  ·right;obtain ⟨b,off,spot⟩:=a;have hc:=(hf' 0 (by omega)).1;have hspot:spot=none:=by simpa [Addr.add] using OR hc
   subst hspot;refine ⟨b,off,rfl,fun i hi=>?_,?_⟩
   ·have hi':i<len:=by simpa using hi
    have:=hf' i hi';simp only [Hp] at this;simp only [Oe,OI];exact this
   ·exact Nt W _ (by simpa [Addr.add] using hc)
theorem Kh {P:Program} {H:Type} {enc:TypeId × Value→H} {w:World} {base:Nat} {spare:Nat→Bool} {held:Bool} {t:TypeId} {f0 f1:Field} {fuel:Nat} {cs:List Value} {x:DataW H × List MemPlace} (ht:P.underlying t=some (.struct #[f0,f1])) (h:DataW.trod enc P w base spare held fuel t cs=some x) :
  ∃ y0 y1 n,DataW.trod enc P w base spare held n f0.type ((cs.drop f0.offset).take (P.cellsOf f0.type))=some y0 ∧
   DataW.trod enc P w base spare held n f1.type ((cs.drop f1.offset).take (P.cellsOf f1.type))=some y1:=by
 obtain ⟨xs,n,_,rfl,hl,hlen,hf⟩:=DataW.trod_struct ht h
 match xs,hlen with
 | [y0,y1],_=>exact ⟨y0,y1,n,by simpa using hf 0 f0 rfl,by simpa using hf 1 f1 rfl⟩
theorem Fe {H:Type} {enc:TypeId × Value→H} {W:World} {hd:Bool} {fuel:Nat} {cs:List Value} {x:DataW H × List MemPlace} {a:Addr}
  (hc:W.cells? 0 a 2=some cs) (h:DataW.trod enc Tryz.prog W 0 (fun _=>true) hd fuel 58 cs=some x) :
  ∃ z:Zp,W.cell? (a.add 1)=some (.int .i64 z.2)∧∃ ai cap,W.cell? (a.add 0)=some (.slice ai z.1.length cap)∧aM W ai z.1:=by
 obtain ⟨_,hlen,hcell⟩:=OW hc;obtain ⟨y0,y1,n,h0,h1⟩:=Kh Tryz.underlying58 h;have q23:Tryz.prog.cellsOf 56=1:=by kernel_rfl
 have q2:Tryz.prog.cellsOf 2=1:=by kernel_rfl
 match cs,hlen with
 | [c0,c1],_ =>
  simp only [q23,q2] at h0 h1;obtain ⟨ai,cap,l,e0,hs⟩:=Au h0;obtain ⟨k,e1,_,_⟩:=DataW.trod_int Tryz.underlying2 h1;simp at e0 e1;subst e0 e1;exact ⟨(l,k),hcell 1 (by omega),ai,cap,hcell 0 (by omega),hs⟩
end Go.Proofs.YtohjlfhmnmcndaaGreat
