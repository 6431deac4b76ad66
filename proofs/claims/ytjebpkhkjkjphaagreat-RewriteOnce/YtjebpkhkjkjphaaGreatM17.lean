/- IU. -/
import Derived.Deep.CutBlock
import Derived.Deep.DeepCutAuto
import Derived.Test.YtjebpkhkjkjphaaGreatM15
namespace Go.Proofs.YtjebpkhkjkjphaaGreat
open Go.RowKit Go.Lib Go.Shelf
set_option maxRecDepth 100000
set_option maxHeartbeats 16000000
abbrev pL (p:Pl) (q:Pw):Array Value:=(jt p q p.ks.length)
def ou (b:Nat) (p:Pl) (q q':Pw) (W:World):Prop:=W.heap[b]? = some (.cells (pL p q) 31 (0,0))∧W.heap[b+1]? = some (.cells (pL p q') 31 (0,0))
theorem ou.next {b:Nat} {p:Pl} {q q':Pw} {W W':World} (h:ou b p q q' W) (hb:Below W.heap.size W W'):ou b p q q' W':=⟨(hb.block _ (ae h.1)).trans h.1,(hb.block _ (ae h.2)).trans h.2⟩
def uG (b:Nat) (p:Pl) (q q':Pw) (ba oa bb ob:Nat) (LA LB:List Value) (W:World):Prop:=ou b p q q' W∧At W ba oa LA∧At W bb ob LB∧ba<W.heap.size∧bb<W.heap.size
theorem uG.next {b ba oa bb ob:Nat} {p:Pl} {q q':Pw} {LA LB:List Value} {W W':World} (h:uG b p q q' ba oa bb ob LA LB W) (hb:Below W.heap.size W W'):uG b p q q' ba oa bb ob LA LB W' :=
 ⟨h.1.next hb,fun i u hi=>(hb.cell (p:=⟨ba,_,none⟩) h.2.2.2.1).trans (h.2.1 i u hi),fun i u hi=>(hb.cell (p:=⟨bb,_,none⟩) h.2.2.2.2).trans (h.2.2.1 i u hi),Hi h.2.2.2.1 hb.size,Hi h.2.2.2.2 hb.size⟩
def CU (g:Ag) (a:Option Addr) (c:Nat):List Value:=.int .i64 g.1 :: lK g.2 a c
theorem tD {W:World} {b off:Nat} {g:Ag} {a:Option Addr} {c:Nat} (h0:W.cell? ⟨b,off,none⟩=some (.int .i64 g.1)) (h:ik W b (off+1) g.2.k g.2.v g.2.c a g.2.ks.length c):At W b off (CU g a c):=fun j u hj=>by
 match j,hj with
 | 0,hj=>cases hj; exact h0
 | j+1,hj=>rw [Nat.add_comm j 1,← IZ]; exact ov h j u hj
theorem Az {W:World} {b off:Nat} {p:Pl} {q:Pw} (h:gQ W b off p q):At W b off (pL p q).toList:=fun j u hj=>by
 obtain ⟨h0,h1,⟨h2,h3,h4,h5,h6,h7⟩,h8,h9,h10⟩:=h
 match j,hj with
 | 0,hj=>cases hj; exact h0
 | 1,hj=>cases hj; exact h1
 | 2,hj=>cases hj; exact h2
 | 3,hj=>cases hj; exact h3
 | 4,hj=>cases hj; exact h4
 | 5,hj=>cases hj; exact h5
 | 6,hj=>cases hj; exact h6
 | 7,hj=>cases hj; exact h7
 | 8,hj=>cases hj; exact h8
 | 9,hj=>cases hj; exact h9
 | 10,hj=>cases hj; exact h10
def Bo (p:Pl):Prop:=∀ (q q':Pw) (w:World),kG p→ki w.heap.size w p q→ki w.heap.size w p q' →
 Calls Tryz.prog 10 #[fp p q,fp p q'] w fun e w'=>e = .returned (.bool true)∧Below w.heap.size w w'
theorem xJ (p:Pl) (ih:∀ r ∈ p.ks,Bo r):Bo p:=by
 intro q q' w hw hp hp';have HW:Hid (GO p):=hw.q;have IH:Hid (∀ r ∈ p.ks,Bo r):=ih;have HP:Hid (ki w.heap.size w p q):=hp;have HP':Hid (ki w.heap.size w p q'):=hp';have h2:=HW.out.two;clear hw ih hp hp';obtain ⟨xa,xc,sa,sc,ga,gc,ka,kc⟩:=q;obtain ⟨xa',xc',sa',sc',ga',gc',ka',kc'⟩:=q';have A:Below w.heap.size w ((w.alloc (.cells (pL p ⟨xa,xc,sa,sc,ga,gc,ka,kc⟩) 31)).alloc (.cells (pL p ⟨xa',xc',sa',sc',ga',gc',ka',kc'⟩) 31)):=((He _ _).alloc (Hd _) _).alloc (by simp) _
 have T2:ou w.heap.size p ⟨xa,xc,sa,sc,ga,gc,ka,kc⟩ ⟨xa',xc',sa',sc',ga',gc',ka',kc'⟩ ((w.alloc (.cells (pL p ⟨xa,xc,sa,sc,ga,gc,ka,kc⟩) 31)).alloc (.cells (pL p ⟨xa',xc',sa',sc',ga',gc',ka',kc'⟩) 31)):=⟨by
  rw [aD _ _ (by simp only [Hg]; omega)];exact aw w _ 31 rfl,aw (w.alloc (.cells (pL p ⟨xa,xc,sa,sc,ga,gc,ka,kc⟩) 31)) _ 31 (by simp only [Hg])⟩
 unfold fp;go_enter Tryz.func10,Tryz.ntmps10;go_upto_region 1 with fail
 generalize (w.alloc (.cells (pL p ⟨xa,xc,sa,sc,ga,gc,ka,kc⟩) 31)).alloc (.cells (pL p ⟨xa',xc',sa',sc',ga',gc',ka',kc'⟩) 31)=w2 at *;have x0:w2.cell? ⟨w.heap.size,0,none⟩=some (.int .i64 p.k):=cell_of (i:=0) T2.1 rfl;have y0:w2.cell? ⟨w.heap.size+1,0,none⟩=some (.int .i64 p.k):=cell_of (i:=0) T2.2 rfl;have x1:w2.cell? ⟨w.heap.size,1,none⟩=some (.int .i64 p.n):=cell_of (i:=1) T2.1 rfl;have y1:w2.cell? ⟨w.heap.size+1,1,none⟩=some (.int .i64 p.n):=cell_of (i:=1) T2.2 rfl;have x10:w2.cell? ⟨w.heap.size,10,none⟩=some (.slice ka p.ks.length kc):=cell_of (i:=10) T2.1 rfl
 have y10:w2.cell? ⟨w.heap.size+1,10,none⟩=some (.slice ka' p.ks.length kc'):=cell_of (i:=10) T2.2 rfl;go_cut [38] (fun v wc=>v = .bool false∧wc=w2)
 case first =>
  have bs:(p.k == 1)=true∨((p.k == 1)=false∧(p.k == 13)=true)∨((p.k == 1)=false∧(p.k == 13)=false):=by
   cases (p.k == 1) <;> cases (p.k == 13) <;> simp
  rcases bs with b1 | ⟨b1,b2⟩ | ⟨b1,b2⟩
  all_goals
   go_wp2_with fail
   go_meet
   case rel=>exact ⟨rfl,rfl⟩
 case rest =>
  obtain ⟨rfl,rfl⟩:=hcut;clear x1 y1 x10 y10;clear x0 y0;go_upto_region 3 with fail
  have x0:wc.cell? ⟨w.heap.size,0,none⟩=some (.int .i64 p.k):=cell_of (i:=0) T2.1 rfl;have y0:wc.cell? ⟨w.heap.size+1,0,none⟩=some (.int .i64 p.k):=cell_of (i:=0) T2.2 rfl;have x2:wc.cell? ⟨w.heap.size,2,none⟩=some (.int .i64 p.x.k):=cell_of (i:=2) T2.1 rfl;have y2:wc.cell? ⟨w.heap.size+1,2,none⟩=some (.int .i64 p.x.k):=cell_of (i:=2) T2.2 rfl;have x3:wc.cell? ⟨w.heap.size,3,none⟩=some (.int .i64 p.x.v.1):=cell_of (i:=3) T2.1 rfl;have y3:wc.cell? ⟨w.heap.size+1,3,none⟩=some (.int .i64 p.x.v.1):=cell_of (i:=3) T2.2 rfl
  have x4:wc.cell? ⟨w.heap.size,4,none⟩=some (.int .i64 p.x.v.2.1):=cell_of (i:=4) T2.1 rfl;have y4:wc.cell? ⟨w.heap.size+1,4,none⟩=some (.int .i64 p.x.v.2.1):=cell_of (i:=4) T2.2 rfl;have x5:wc.cell? ⟨w.heap.size,5,none⟩=some (.string p.x.v.2.2):=cell_of (i:=5) T2.1 rfl;have y5:wc.cell? ⟨w.heap.size+1,5,none⟩=some (.string p.x.v.2.2):=cell_of (i:=5) T2.2 rfl;have x6:wc.cell? ⟨w.heap.size,6,none⟩=some (.int .i64 p.x.c):=cell_of (i:=6) T2.1 rfl;have y6:wc.cell? ⟨w.heap.size+1,6,none⟩=some (.int .i64 p.x.c):=cell_of (i:=6) T2.2 rfl
  have x7:wc.cell? ⟨w.heap.size,7,none⟩=some (.slice xa p.x.ks.length xc):=cell_of (i:=7) T2.1 rfl;have y7:wc.cell? ⟨w.heap.size+1,7,none⟩=some (.slice xa' p.x.ks.length xc'):=cell_of (i:=7) T2.2 rfl;go_cut [59] (fun v wc=>v = .bool false∧ou w.heap.size p ⟨xa,xc,sa,sc,ga,gc,ka,kc⟩ ⟨xa',xc',sa',sc',ga',gc',ka',kc'⟩ wc∧Below w.heap.size w wc)
  case first =>
   by_cases hk:p.k=2∨4≤p.k∧p.k≤7
   ·have con:=oL p.x xa xc xa' xc' wc (HW.out.x hk) ((aO.next A (Hd _) HP.out.x).up A.size) ((aO.next A (Hd _) HP'.out.x).up A.size);have bs:(p.k == 2)=true∨((p.k == 2)=false∧decide (4≤p.k)=true∧decide (p.k≤7)=true):=by
     simp only [beq_iff_eq,beq_eq_false_iff_ne,decide_eq_true_eq];omega
    clear hk;rcases bs with b1 | ⟨b1,b2,b3⟩
    all_goals
     go_wp2_with fail
     refine con.mono ?_;rintro e w3 ⟨rfl,hb3⟩;go_wp2_with fail
     go_meet
     case rel=>exact ⟨rfl,T2.next hb3,chain A hb3⟩
   ·have bs:(p.k == 2)=false∧(decide (4≤p.k)=false∨(decide (4≤p.k)=true∧decide (p.k≤7)=false)):=by
     simp only [beq_eq_false_iff_ne,decide_eq_true_eq,decide_eq_false_iff_not];omega
    clear hk;obtain ⟨b1,b2 | ⟨b2,b3⟩⟩:=bs
    all_goals
     go_wp2_with fail
     go_meet
     case rel=>exact ⟨rfl,T2,A⟩
  case rest =>as_aux_lemma =>
   clear x0 y0 x2 y2 x3 y3 x4 y4 x5 y5 x6 y6 x7 y7;clear T2 A;obtain ⟨rfl,T2,A⟩:=hcut;go_upto_region 5 with fail
   have x0:wc.cell? ⟨w.heap.size,0,none⟩=some (.int .i64 p.k):=cell_of (i:=0) T2.1 rfl;have y0:wc.cell? ⟨w.heap.size+1,0,none⟩=some (.int .i64 p.k):=cell_of (i:=0) T2.2 rfl;obtain ⟨B,hB⟩:∃ B,decide (p.k=3∨p.k=12∨p.k=13)=B:=⟨_,rfl⟩
   have HB:Hid (decide (p.k=3∨p.k=12∨p.k=13)=B):=hB;clear hB;go_cut [72] (fun v wx=>v = .bool B∧wx=wc)
   case first =>
    by_cases hk:p.k=3∨p.k=12∨p.k=13
    ·obtain rfl:B=true:=by rw [← HB.out]; exact decide_eq_true hk
     have bs:(p.k == 3)=true∨((p.k == 3)=false∧(p.k == 12)=true)∨((p.k == 3)=false∧(p.k == 12)=false∧(p.k == 13)=true):=by
      simp only [beq_iff_eq,beq_eq_false_iff_ne];omega
     clear hk HB;rcases bs with b1 | ⟨b1,b2⟩ | ⟨b1,b2,b3⟩
     all_goals
      go_wp2_with fail
      go_meet
      case rel=>exact ⟨rfl,rfl⟩
    ·obtain rfl:B=false:=by rw [← HB.out]; exact decide_eq_false hk
     have bs:(p.k == 3)=false∧(p.k == 12)=false∧(p.k == 13)=false:=by
      simp only [beq_eq_false_iff_ne];omega
     obtain ⟨b1,b2,b3⟩:=bs;clear hk HB;go_wp2_with fail
     go_meet
     case rel=>exact ⟨rfl,rfl⟩
   case rest =>
    obtain ⟨rfl,rfl⟩:=hcut;clear x0 y0;go_upto_if 72 with fail
    go_cut [] (fun wc=>ou w.heap.size p ⟨xa,xc,sa,sc,ga,gc,ka,kc⟩ ⟨xa',xc',sa',sc',ga',gc',ka',kc'⟩ wc∧Below w.heap.size w wc)
    case first =>as_aux_lemma =>
     cases B with
     | false =>
      go_wp2_with fail
      go_meet
      case rel=>exact ⟨T2,A⟩
     | true =>
      have x8:wc.cell? ⟨w.heap.size,8,none⟩=some (.slice sa p.xs.length sc):=cell_of (i:=8) T2.1 rfl;have y8:wc.cell? ⟨w.heap.size+1,8,none⟩=some (.slice sa' p.xs.length sc'):=cell_of (i:=8) T2.2 rfl;have HX:Hid (p.xs.length≤100000∧∀ x ∈ p.xs,dz eD x):=HW.out.xs (of_decide_eq_true HB.out);have hx5:=HX.out.1;clear HB;go_wp2_with fail
      go_loopw [83] (fun i wr=>∃ j:Nat,j≤p.xs.length∧i = .int .i64 j∧ou w.heap.size p ⟨xa,xc,sa,sc,ga,gc,ka,kc⟩ ⟨xa',xc',sa',sc',ga',gc',ka',kc'⟩ wr∧Below w.heap.size w wr) (fun i _=>p.xs.length - (intOf i).toNat)
      case atStart=>exact ⟨0,Hl _,rfl,T2,A⟩
      case round =>
       clear T2 A;obtain ⟨j,hj,rfl,T2,A⟩:=hrel;by_cases hlt:j<p.xs.length;rotate_left
       ·have hjz:¬ (j:Int)<(p.xs.length:Int):=by omega
        go_wp2_with fail
        go_meet
        case rel=>exact ⟨T2,A⟩
       have hjz:(j:Int)<(p.xs.length:Int):=by omega
       obtain ⟨ba,oa,a1,c1,ea,la,s1,k1⟩:=((aO.next A (Hd _) HP.out.xs).up A.size).elem hlt;obtain ⟨bb,ob,a2,c2,eb,lb,s2,k2⟩:=((aO.next A (Hd _) HP'.out.xs).up A.size).elem hlt;obtain rfl:sa=some ⟨ba,oa,none⟩:=ea;obtain rfl:sa'=some ⟨bb,ob,none⟩:=eb;have ta:=ov s1;have tb:=ov s2;have HE:Hid (dz eD p.xs[j]):=HX.out.2 _ (Hm hlt);clear s1 s2 x8 y8;go_upto_region 11 with fail
       have hCC:∀ W W':World,uG w.heap.size p ⟨xa,xc,some ⟨ba,oa,none⟩,sc,ga,gc,ka,kc⟩ ⟨xa',xc',some ⟨bb,ob,none⟩,sc',ga',gc',ka',kc'⟩ ba (oa+j*6) bb (ob+j*6) (lK p.xs[j] a1 c1) (lK p.xs[j] a2 c2) W→Below W.heap.size W W'→uG w.heap.size p ⟨xa,xc,some ⟨ba,oa,none⟩,sc,ga,gc,ka,kc⟩ ⟨xa',xc',some ⟨bb,ob,none⟩,sc',ga',gc',ka',kc'⟩ ba (oa+j*6) bb (ob+j*6) (lK p.xs[j] a1 c1) (lK p.xs[j] a2 c2) W':=fun _ _ h hb=>h.next hb
       have hdr:Below wr.heap.size wr wr.drew:=(He _ _).drew;have CW:uG w.heap.size p ⟨xa,xc,some ⟨ba,oa,none⟩,sc,ga,gc,ka,kc⟩ ⟨xa',xc',some ⟨bb,ob,none⟩,sc',ga',gc',ka',kc'⟩ ba (oa+j*6) bb (ob+j*6) (lK p.xs[j] a1 c1) (lK p.xs[j] a2 c2) wr.drew:=hCC _ _ ⟨T2,ta,tb,la,lb⟩ hdr;refine aG (uG w.heap.size p ⟨xa,xc,some ⟨ba,oa,none⟩,sc,ga,gc,ka,kc⟩ ⟨xa',xc',some ⟨bb,ob,none⟩,sc',ga',gc',ka',kc'⟩ ba (oa+j*6) bb (ob+j*6) (lK p.xs[j] a1 c1) (lK p.xs[j] a2 c2)) (by kernel_rfl) ?_
       refine ab hCC 86 (i:=0) (v:=.pointer (some ⟨w.heap.size,8,none⟩)) (fun n hn=>?_) CW ?_
       ·go_simp
       simp only [Act.put,pA,pB,pC];refine ab hCC 87 (i:=1) (v:=.slice (some ⟨ba,oa,none⟩) p.xs.length sc) (fun n hn=>?_) CW ?_
       ·have hc:n.cell? ⟨w.heap.size,8,none⟩=some (.slice (some ⟨ba,oa,none⟩) p.xs.length sc):=cell_of (i:=8) hn.1.1 rfl;go_simp
       simp only [Act.put,pA,pB,pC];refine ab hCC 88 (i:=2) (v:=.int .i64 j) (fun n hn=>?_) CW ?_
       ·go_simp
       simp only [Act.put,pA,pB,pC];refine ab hCC 89 (i:=3) (v:=.pointer (some ⟨ba,oa+j*6,none⟩)) (fun n hn=>?_) CW ?_
       ·go_simp
       simp only [Act.put,pA,pB,pC];refine ab hCC 90 (i:=4) (v:=.agg (aW p.xs[j] a1 c1)) (fun n hn=>?_) CW ?_
       ·have hc0:n.cell? ⟨ba,oa+j*6,none⟩=some (.int .i64 p.xs[j].k):=hn.2.1 0 _ rfl;have hc1:n.cell? ⟨ba,oa+j*6+1,none⟩=some (.int .i64 p.xs[j].v.1):=hn.2.1 1 _ rfl;have hc2:n.cell? ⟨ba,oa+j*6+2,none⟩=some (.int .i64 p.xs[j].v.2.1):=hn.2.1 2 _ rfl;have hc3:n.cell? ⟨ba,oa+j*6+3,none⟩=some (.string p.xs[j].v.2.2):=hn.2.1 3 _ rfl;have hc4:n.cell? ⟨ba,oa+j*6+4,none⟩=some (.int .i64 p.xs[j].c):=hn.2.1 4 _ rfl;have hc5:n.cell? ⟨ba,oa+j*6+5,none⟩=some (.slice a1 p.xs[j].ks.length c1):=hn.2.1 5 _ rfl;go_simp
       simp only [Act.put,pA,pB,pC];refine ab hCC 91 (i:=5) (v:=.pointer (some ⟨w.heap.size+1,8,none⟩)) (fun n hn=>?_) CW ?_
       ·go_simp
       simp only [Act.put,pA,pB,pC];refine ab hCC 92 (i:=6) (v:=.slice (some ⟨bb,ob,none⟩) p.xs.length sc') (fun n hn=>?_) CW ?_
       ·have hc:n.cell? ⟨w.heap.size+1,8,none⟩=some (.slice (some ⟨bb,ob,none⟩) p.xs.length sc'):=cell_of (i:=8) hn.1.2 rfl;go_simp
       simp only [Act.put,pA,pB,pC];refine ab hCC 93 (i:=7) (v:=.int .i64 j) (fun n hn=>?_) CW ?_
       ·go_simp
       simp only [Act.put,pA,pB,pC];refine ab hCC 94 (i:=8) (v:=.pointer (some ⟨bb,ob+j*6,none⟩)) (fun n hn=>?_) CW ?_
       ·go_simp
       simp only [Act.put,pA,pB,pC];refine ab hCC 95 (i:=9) (v:=.agg (aW p.xs[j] a2 c2)) (fun n hn=>?_) CW ?_
       ·have hc0:n.cell? ⟨bb,ob+j*6,none⟩=some (.int .i64 p.xs[j].k):=hn.2.2.1 0 _ rfl;have hc1:n.cell? ⟨bb,ob+j*6+1,none⟩=some (.int .i64 p.xs[j].v.1):=hn.2.2.1 1 _ rfl;have hc2:n.cell? ⟨bb,ob+j*6+2,none⟩=some (.int .i64 p.xs[j].v.2.1):=hn.2.2.1 2 _ rfl;have hc3:n.cell? ⟨bb,ob+j*6+3,none⟩=some (.string p.xs[j].v.2.2):=hn.2.2.1 3 _ rfl;have hc4:n.cell? ⟨bb,ob+j*6+4,none⟩=some (.int .i64 p.xs[j].c):=hn.2.2.1 4 _ rfl;have hc5:n.cell? ⟨bb,ob+j*6+5,none⟩=some (.slice a2 p.xs[j].ks.length c2):=hn.2.2.1 5 _ rfl;go_simp
       simp only [Act.put,pA,pB,pC];refine au (rs:=[10]) (by kernel_rfl) (by simp) ?_;intro w5 hb5 jj hjj;obtain rfl:jj=10:=by simpa using hjj
       clear hjj;have D5:=chain hdr hb5;have CW5:=hCC _ _ CW hb5;have con:=oL p.xs[j] a1 c1 a2 c2 w5 HE.out ((aO.next D5 (Hd _) k1).up D5.size) ((aO.next D5 (Hd _) k2).up D5.size);refine wpOp_step rfl (fun K hK=>?_);go_simp;refine con.mono ?_;rintro e w6 ⟨rfl,hb6⟩;have CW6:=hCC _ _ CW5 hb6;refine hK _ _ ⟨CW6,?_⟩;clear hK K con CW CW5;have D6:=chain D5 hb6;refine ab hCC 97 (i:=11) (v:=.bool false) (fun n hn=>?_) CW6 ?_
       ·go_simp
       simp only [Act.put,pA,pB,pC];refine bd (by kernel_rfl) ?_;intro w7 hb7;have D7:=chain D6 hb7;have T7:=T2.next D7;have A7:=chain A D7;clear hCC ta tb;go_wp2_with fail
       go_roundw
       case rel=>exact ⟨j+1,by omega,by go_num,T7,A7⟩
       case measure=>simp [intOf]; omega
    case rest =>as_aux_lemma =>
     clear T2 A HB;obtain ⟨T2,A⟩:=hcut;go_upto_region 14 with fail
     have x0:wc.cell? ⟨w.heap.size,0,none⟩=some (.int .i64 p.k):=cell_of (i:=0) T2.1 rfl;have y0:wc.cell? ⟨w.heap.size+1,0,none⟩=some (.int .i64 p.k):=cell_of (i:=0) T2.2 rfl;obtain ⟨B,hB⟩:∃ B,(p.k == 12)=B:=⟨_,rfl⟩
     have HB:Hid ((p.k == 12)=B):=hB;go_cut [101] (fun v wx=>v = .bool B∧wx=wc)
     case first =>
      cases B
      all_goals
       go_wp2_with fail
       go_meet
       case rel=>exact ⟨rfl,rfl⟩
     case rest =>
      obtain ⟨rfl,rfl⟩:=hcut;clear x0 y0 hB;go_upto_if 101 with fail
      go_cut [] (fun wc=>ou w.heap.size p ⟨xa,xc,sa,sc,ga,gc,ka,kc⟩ ⟨xa',xc',sa',sc',ga',gc',ka',kc'⟩ wc∧Below w.heap.size w wc)
      case first =>as_aux_lemma =>
       cases B with
       | false =>
        go_wp2_with fail
        go_meet
        case rel=>exact ⟨T2,A⟩
       | true =>
        have x9:wc.cell? ⟨w.heap.size,9,none⟩=some (.slice ga p.gs.length gc):=cell_of (i:=9) T2.1 rfl;have y9:wc.cell? ⟨w.heap.size+1,9,none⟩=some (.slice ga' p.gs.length gc'):=cell_of (i:=9) T2.2 rfl;have HX:Hid (p.gs.length≤100000∧∀ g ∈ p.gs,g.1≠1→dz eD g.2):=HW.out.gs (by simpa using HB.out);have hx5:=HX.out.1;clear HB;go_wp2_with fail
        go_loopw [112] (fun i wr=>∃ j:Nat,j≤p.gs.length∧i = .int .i64 j∧ou w.heap.size p ⟨xa,xc,sa,sc,ga,gc,ka,kc⟩ ⟨xa',xc',sa',sc',ga',gc',ka',kc'⟩ wr∧Below w.heap.size w wr) (fun i _=>p.gs.length - (intOf i).toNat)
        case atStart=>exact ⟨0,Hl _,rfl,T2,A⟩
        case round =>
         clear T2 A;obtain ⟨j,hj,rfl,T2,A⟩:=hrel;by_cases hlt:j<p.gs.length;rotate_left
         ·have hjz:¬ (j:Int)<(p.gs.length:Int):=by omega
          go_wp2_with fail
          go_meet
          case rel=>exact ⟨T2,A⟩
         have hjz:(j:Int)<(p.gs.length:Int):=by omega
         obtain ⟨ba,oa,a1,c1,ea,la,g1,s1,k1⟩:=((fJ.next A (Hd _) HP.out.gs).up A.size).elem hlt;obtain ⟨bb,ob,a2,c2,eb,lb,g2,s2,k2⟩:=((fJ.next A (Hd _) HP'.out.gs).up A.size).elem hlt;obtain rfl:ga=some ⟨ba,oa,none⟩:=ea;obtain rfl:ga'=some ⟨bb,ob,none⟩:=eb;have ta:=tD g1 s1;have tb:=tD g2 s2;have HE:Hid (p.gs[j].1≠1→dz eD p.gs[j].2):=HX.out.2 _ (Hm hlt);clear g1 g2 s1 s2 x9 y9;go_upto_region 20 with fail
         have hCC:∀ W W':World,uG w.heap.size p ⟨xa,xc,sa,sc,some ⟨ba,oa,none⟩,gc,ka,kc⟩ ⟨xa',xc',sa',sc',some ⟨bb,ob,none⟩,gc',ka',kc'⟩ ba (oa+j*7) bb (ob+j*7) (CU p.gs[j] a1 c1) (CU p.gs[j] a2 c2) W→Below W.heap.size W W'→uG w.heap.size p ⟨xa,xc,sa,sc,some ⟨ba,oa,none⟩,gc,ka,kc⟩ ⟨xa',xc',sa',sc',some ⟨bb,ob,none⟩,gc',ka',kc'⟩ ba (oa+j*7) bb (ob+j*7) (CU p.gs[j] a1 c1) (CU p.gs[j] a2 c2) W':=fun _ _ h hb=>h.next hb
         have hdr:Below wr.heap.size wr wr.drew:=(He _ _).drew;have CW:uG w.heap.size p ⟨xa,xc,sa,sc,some ⟨ba,oa,none⟩,gc,ka,kc⟩ ⟨xa',xc',sa',sc',some ⟨bb,ob,none⟩,gc',ka',kc'⟩ ba (oa+j*7) bb (ob+j*7) (CU p.gs[j] a1 c1) (CU p.gs[j] a2 c2) wr.drew:=hCC _ _ ⟨T2,ta,tb,la,lb⟩ hdr;refine aG (uG w.heap.size p ⟨xa,xc,sa,sc,some ⟨ba,oa,none⟩,gc,ka,kc⟩ ⟨xa',xc',sa',sc',some ⟨bb,ob,none⟩,gc',ka',kc'⟩ ba (oa+j*7) bb (ob+j*7) (CU p.gs[j] a1 c1) (CU p.gs[j] a2 c2)) (by kernel_rfl) ?_
         refine ab hCC 115 (i:=0) (v:=.pointer (some ⟨w.heap.size,9,none⟩)) (fun n hn=>?_) CW ?_
         ·go_simp
         simp only [Act.put,pA,pB,pC];refine ab hCC 116 (i:=1) (v:=.slice (some ⟨ba,oa,none⟩) p.gs.length gc) (fun n hn=>?_) CW ?_
         ·have hc:n.cell? ⟨w.heap.size,9,none⟩=some (.slice (some ⟨ba,oa,none⟩) p.gs.length gc):=cell_of (i:=9) hn.1.1 rfl;go_simp
         simp only [Act.put,pA,pB,pC];refine ab hCC 117 (i:=2) (v:=.int .i64 j) (fun n hn=>?_) CW ?_
         ·go_simp
         simp only [Act.put,pA,pB,pC];refine ab hCC 118 (i:=3) (v:=.pointer (some ⟨ba,oa+j*7,none⟩)) (fun n hn=>?_) CW ?_
         ·go_simp
         simp only [Act.put,pA,pB,pC];refine ab hCC 119 (i:=4) (v:=.pointer (some ⟨ba,oa+j*7,none⟩)) (fun n hn=>?_) CW ?_
         ·go_simp
         simp only [Act.put,pA,pB,pC];refine ab hCC 120 (i:=5) (v:=.int .i64 p.gs[j].1) (fun n hn=>?_) CW ?_
         ·have hc:n.cell? ⟨ba,oa+j*7,none⟩=some (.int .i64 p.gs[j].1):=hn.2.1 0 _ rfl;go_simp
         simp only [Act.put,pA,pB,pC];refine ab hCC 121 (i:=6) (v:=.pointer (some ⟨w.heap.size+1,9,none⟩)) (fun n hn=>?_) CW ?_
         ·go_simp
         simp only [Act.put,pA,pB,pC];refine ab hCC 122 (i:=7) (v:=.slice (some ⟨bb,ob,none⟩) p.gs.length gc') (fun n hn=>?_) CW ?_
         ·have hc:n.cell? ⟨w.heap.size+1,9,none⟩=some (.slice (some ⟨bb,ob,none⟩) p.gs.length gc'):=cell_of (i:=9) hn.1.2 rfl;go_simp
         simp only [Act.put,pA,pB,pC];refine ab hCC 123 (i:=8) (v:=.int .i64 j) (fun n hn=>?_) CW ?_
         ·go_simp
         simp only [Act.put,pA,pB,pC];refine ab hCC 124 (i:=9) (v:=.pointer (some ⟨bb,ob+j*7,none⟩)) (fun n hn=>?_) CW ?_
         ·go_simp
         simp only [Act.put,pA,pB,pC];refine ab hCC 125 (i:=10) (v:=.pointer (some ⟨bb,ob+j*7,none⟩)) (fun n hn=>?_) CW ?_
         ·go_simp
         simp only [Act.put,pA,pB,pC];refine ab hCC 126 (i:=11) (v:=.int .i64 p.gs[j].1) (fun n hn=>?_) CW ?_
         ·have hc:n.cell? ⟨bb,ob+j*7,none⟩=some (.int .i64 p.gs[j].1):=hn.2.2.1 0 _ rfl;go_simp
         simp only [Act.put,pA,pB,pC];refine ab hCC 127 (i:=12) (v:=.bool false) (fun n hn=>?_) CW ?_
         ·go_simp
         simp only [Act.put,pA,pB,pC];refine ab hCC 128 (i:=13) (v:=.bool false) (fun n hn=>?_) CW ?_
         ·go_simp
         simp only [Act.put,pA,pB,pC];refine ab hCC 129 (i:=14) (v:=.pointer (some ⟨w.heap.size,9,none⟩)) (fun n hn=>?_) CW ?_
         ·go_simp
         simp only [Act.put,pA,pB,pC];refine ab hCC 130 (i:=15) (v:=.slice (some ⟨ba,oa,none⟩) p.gs.length gc) (fun n hn=>?_) CW ?_
         ·have hc:n.cell? ⟨w.heap.size,9,none⟩=some (.slice (some ⟨ba,oa,none⟩) p.gs.length gc):=cell_of (i:=9) hn.1.1 rfl;go_simp
         simp only [Act.put,pA,pB,pC];refine ab hCC 131 (i:=16) (v:=.int .i64 j) (fun n hn=>?_) CW ?_
         ·go_simp
         simp only [Act.put,pA,pB,pC];refine ab hCC 132 (i:=17) (v:=.pointer (some ⟨ba,oa+j*7,none⟩)) (fun n hn=>?_) CW ?_
         ·go_simp
         simp only [Act.put,pA,pB,pC];refine ab hCC 133 (i:=18) (v:=.pointer (some ⟨ba,oa+j*7,none⟩)) (fun n hn=>?_) CW ?_
         ·go_simp
         simp only [Act.put,pA,pB,pC];refine ab hCC 134 (i:=19) (v:=.int .i64 p.gs[j].1) (fun n hn=>?_) CW ?_
         ·have hc:n.cell? ⟨ba,oa+j*7,none⟩=some (.int .i64 p.gs[j].1):=hn.2.1 0 _ rfl;go_simp
         simp only [Act.put,pA,pB,pC];by_cases hg:p.gs[j].1=1
         ·have b2:(p.gs[j].1 != 1)=false:=by simp [hg]
          refine ab hCC 135 (i:=20) (v:=.bool false) (fun n hn=>?_) CW ?_
          ·go_simp
          simp only [Act.put,pA,pB,pC];refine ab hCC 136 (i:=21) (v:=.bool false) (fun n hn=>?_) CW ?_
          ·go_simp
          simp only [Act.put,pA,pB,pC];refine ag hCC (some 137) (i:=22) (v:=undef) rfl rfl (by kernel_rfl) (by kernel_rfl) (by kernel_rfl) (fun _ _ _ h=>h) (Or.inr ⟨rfl,rfl⟩) CW ?_;simp only [Act.put,pA,pB,pC];refine ag hCC (some 138) (i:=23) (v:=undef) rfl rfl (by kernel_rfl) (by kernel_rfl) (by kernel_rfl) (fun _ _ _ h=>h) (Or.inr ⟨rfl,rfl⟩) CW ?_;simp only [Act.put,pA,pB,pC];refine ag hCC (some 139) (i:=24) (v:=undef) rfl rfl (by kernel_rfl) (by kernel_rfl) (by kernel_rfl) (fun _ _ _ h=>h) (Or.inr ⟨rfl,rfl⟩) CW ?_;simp only [Act.put,pA,pB,pC]
          refine ag hCC (some 140) (i:=25) (v:=undef) rfl rfl (by kernel_rfl) (by kernel_rfl) (by kernel_rfl) (fun _ _ _ h=>h) (Or.inr ⟨rfl,rfl⟩) CW ?_;simp only [Act.put,pA,pB,pC];refine ag hCC (some 141) (i:=26) (v:=undef) rfl rfl (by kernel_rfl) (by kernel_rfl) (by kernel_rfl) (fun _ _ _ h=>h) (Or.inr ⟨rfl,rfl⟩) CW ?_;simp only [Act.put,pA,pB,pC];refine ag hCC (some 142) (i:=27) (v:=undef) rfl rfl (by kernel_rfl) (by kernel_rfl) (by kernel_rfl) (fun _ _ _ h=>h) (Or.inr ⟨rfl,rfl⟩) CW ?_;simp only [Act.put,pA,pB,pC]
          refine ag hCC (some 143) (i:=28) (v:=undef) rfl rfl (by kernel_rfl) (by kernel_rfl) (by kernel_rfl) (fun _ _ _ h=>h) (Or.inr ⟨rfl,rfl⟩) CW ?_;simp only [Act.put,pA,pB,pC];refine ag hCC (some 144) (i:=29) (v:=undef) rfl rfl (by kernel_rfl) (by kernel_rfl) (by kernel_rfl) (fun _ _ _ h=>h) (Or.inr ⟨rfl,rfl⟩) CW ?_;simp only [Act.put,pA,pB,pC];refine ag hCC (some 145) (i:=30) (v:=undef) rfl rfl (by kernel_rfl) (by kernel_rfl) (by kernel_rfl) (fun _ _ _ h=>h) (Or.inr ⟨rfl,rfl⟩) CW ?_;simp only [Act.put,pA,pB,pC]
          refine ag hCC (some 146) (i:=31) (v:=undef) rfl rfl (by kernel_rfl) (by kernel_rfl) (by kernel_rfl) (fun _ _ _ h=>h) (Or.inr ⟨rfl,rfl⟩) CW ?_;simp only [Act.put,pA,pB,pC];refine ag hCC (some 147) (i:=32) (v:=undef) rfl rfl (by kernel_rfl) (by kernel_rfl) (by kernel_rfl) (fun _ _ _ h=>h) (Or.inr ⟨rfl,rfl⟩) CW ?_;simp only [Act.put,pA,pB,pC];refine ag hCC (some 148) (i:=33) (v:=undef) rfl rfl (by kernel_rfl) (by kernel_rfl) (by kernel_rfl) (fun _ _ _ h=>h) (Or.inr ⟨rfl,rfl⟩) CW ?_;simp only [Act.put,pA,pB,pC]
          refine ag hCC (some 149) (i:=34) (v:=undef) rfl rfl (by kernel_rfl) (by kernel_rfl) (by kernel_rfl) (fun _ _ _ h=>h) (Or.inr ⟨rfl,rfl⟩) CW ?_;simp only [Act.put,pA,pB,pC];refine ag hCC (some 150) (i:=35) (v:=undef) rfl rfl (by kernel_rfl) (by kernel_rfl) (by kernel_rfl) (fun _ _ _ h=>h) (Or.inr ⟨rfl,rfl⟩) CW ?_;simp only [Act.put,pA,pB,pC];refine ab hCC 151 (i:=36) (v:=.bool false) (fun n hn=>?_) CW ?_
          ·go_simp
          simp only [Act.put,pA,pB,pC];refine ab hCC 152 (i:=37) (v:=.bool false) (fun n hn=>?_) CW ?_
          ·go_simp
          simp only [Act.put,pA,pB,pC];have D6:=hdr;refine bd (by kernel_rfl) ?_;intro w7 hb7;have D7:=chain D6 hb7;have T7:=T2.next D7;have A7:=chain A D7;clear hCC ta tb;go_wp2_with fail
          go_roundw
          case rel=>exact ⟨j+1,by omega,by go_num,T7,A7⟩
          case measure=>simp [intOf]; omega
         ·have b2:(p.gs[j].1 != 1)=true:=by simpa using hg
          refine ab hCC 135 (i:=20) (v:=.bool true) (fun n hn=>?_) CW ?_
          ·go_simp
          simp only [Act.put,pA,pB,pC];refine ab hCC 136 (i:=21) (v:=.bool true) (fun n hn=>?_) CW ?_
          ·go_simp
          simp only [Act.put,pA,pB,pC];refine ab hCC 137 (i:=22) (v:=.pointer (some ⟨w.heap.size,9,none⟩)) (fun n hn=>?_) CW ?_
          ·go_simp
          simp only [Act.put,pA,pB,pC];refine ab hCC 138 (i:=23) (v:=.slice (some ⟨ba,oa,none⟩) p.gs.length gc) (fun n hn=>?_) CW ?_
          ·have hc:n.cell? ⟨w.heap.size,9,none⟩=some (.slice (some ⟨ba,oa,none⟩) p.gs.length gc):=cell_of (i:=9) hn.1.1 rfl;go_simp
          simp only [Act.put,pA,pB,pC];refine ab hCC 139 (i:=24) (v:=.int .i64 j) (fun n hn=>?_) CW ?_
          ·go_simp
          simp only [Act.put,pA,pB,pC];refine ab hCC 140 (i:=25) (v:=.pointer (some ⟨ba,oa+j*7,none⟩)) (fun n hn=>?_) CW ?_
          ·go_simp
          simp only [Act.put,pA,pB,pC];refine ab hCC 141 (i:=26) (v:=.pointer (some ⟨ba,oa+j*7+1,none⟩)) (fun n hn=>?_) CW ?_
          ·go_simp
          simp only [Act.put,pA,pB,pC];refine ab hCC 142 (i:=27) (v:=.agg (aW p.gs[j].2 a1 c1)) (fun n hn=>?_) CW ?_
          ·have hc0:n.cell? ⟨ba,oa+j*7+1,none⟩=some (.int .i64 p.gs[j].2.k):=hn.2.1 1 _ rfl;have hc1:n.cell? ⟨ba,oa+j*7+1+1,none⟩=some (.int .i64 p.gs[j].2.v.1):=hn.2.1 2 _ rfl;have hc2:n.cell? ⟨ba,oa+j*7+1+2,none⟩=some (.int .i64 p.gs[j].2.v.2.1):=hn.2.1 3 _ rfl;have hc3:n.cell? ⟨ba,oa+j*7+1+3,none⟩=some (.string p.gs[j].2.v.2.2):=hn.2.1 4 _ rfl;have hc4:n.cell? ⟨ba,oa+j*7+1+4,none⟩=some (.int .i64 p.gs[j].2.c):=hn.2.1 5 _ rfl;have hc5:n.cell? ⟨ba,oa+j*7+1+5,none⟩=some (.slice a1 p.gs[j].2.ks.length c1):=hn.2.1 6 _ rfl;go_simp
          simp only [Act.put,pA,pB,pC];refine ab hCC 143 (i:=28) (v:=.pointer (some ⟨w.heap.size+1,9,none⟩)) (fun n hn=>?_) CW ?_
          ·go_simp
          simp only [Act.put,pA,pB,pC];refine ab hCC 144 (i:=29) (v:=.slice (some ⟨bb,ob,none⟩) p.gs.length gc') (fun n hn=>?_) CW ?_
          ·have hc:n.cell? ⟨w.heap.size+1,9,none⟩=some (.slice (some ⟨bb,ob,none⟩) p.gs.length gc'):=cell_of (i:=9) hn.1.2 rfl;go_simp
          simp only [Act.put,pA,pB,pC];refine ab hCC 145 (i:=30) (v:=.int .i64 j) (fun n hn=>?_) CW ?_
          ·go_simp
          simp only [Act.put,pA,pB,pC];refine ab hCC 146 (i:=31) (v:=.pointer (some ⟨bb,ob+j*7,none⟩)) (fun n hn=>?_) CW ?_
          ·go_simp
          simp only [Act.put,pA,pB,pC];refine ab hCC 147 (i:=32) (v:=.pointer (some ⟨bb,ob+j*7+1,none⟩)) (fun n hn=>?_) CW ?_
          ·go_simp
          simp only [Act.put,pA,pB,pC];refine ab hCC 148 (i:=33) (v:=.agg (aW p.gs[j].2 a2 c2)) (fun n hn=>?_) CW ?_
          ·have hc0:n.cell? ⟨bb,ob+j*7+1,none⟩=some (.int .i64 p.gs[j].2.k):=hn.2.2.1 1 _ rfl;have hc1:n.cell? ⟨bb,ob+j*7+1+1,none⟩=some (.int .i64 p.gs[j].2.v.1):=hn.2.2.1 2 _ rfl;have hc2:n.cell? ⟨bb,ob+j*7+1+2,none⟩=some (.int .i64 p.gs[j].2.v.2.1):=hn.2.2.1 3 _ rfl;have hc3:n.cell? ⟨bb,ob+j*7+1+3,none⟩=some (.string p.gs[j].2.v.2.2):=hn.2.2.1 4 _ rfl;have hc4:n.cell? ⟨bb,ob+j*7+1+4,none⟩=some (.int .i64 p.gs[j].2.c):=hn.2.2.1 5 _ rfl;have hc5:n.cell? ⟨bb,ob+j*7+1+5,none⟩=some (.slice a2 p.gs[j].2.ks.length c2):=hn.2.2.1 6 _ rfl;go_simp
          simp only [Act.put,pA,pB,pC];refine au (rs:=[34]) (by kernel_rfl) (by simp) ?_;intro w5 hb5 jj hjj;obtain rfl:jj=34:=by simpa using hjj
          clear hjj;have D5:=chain hdr hb5;have CW5:=hCC _ _ CW hb5;have con:=oL p.gs[j].2 a1 c1 a2 c2 w5 (HE.out hg) ((aO.next D5 (Hd _) k1).up D5.size) ((aO.next D5 (Hd _) k2).up D5.size);refine wpOp_step rfl (fun K hK=>?_);go_simp;refine con.mono ?_;rintro e w6 ⟨rfl,hb6⟩;have CW6:=hCC _ _ CW5 hb6;refine hK _ _ ⟨CW6,?_⟩;clear hK K con CW CW5;have D6:=chain D5 hb6;refine ab hCC 150 (i:=35) (v:=.bool false) (fun n hn=>?_) CW6 ?_
          ·go_simp
          simp only [Act.put,pA,pB,pC];refine ab hCC 151 (i:=36) (v:=.bool false) (fun n hn=>?_) CW6 ?_
          ·go_simp
          simp only [Act.put,pA,pB,pC];refine ab hCC 152 (i:=37) (v:=.bool false) (fun n hn=>?_) CW6 ?_
          ·go_simp
          simp only [Act.put,pA,pB,pC];refine bd (by kernel_rfl) ?_;intro w7 hb7;have D7:=chain D6 hb7;have T7:=T2.next D7;have A7:=chain A D7;clear hCC ta tb;go_wp2_with fail
          go_roundw
          case rel=>exact ⟨j+1,by omega,by go_num,T7,A7⟩
          case measure=>simp [intOf]; omega
      case rest =>as_aux_lemma =>
       clear T2 A HB;obtain ⟨T2,A⟩:=hcut;have x10:wc.cell? ⟨w.heap.size,10,none⟩=some (.slice ka p.ks.length kc):=cell_of (i:=10) T2.1 rfl;have y10:wc.cell? ⟨w.heap.size+1,10,none⟩=some (.slice ka' p.ks.length kc'):=cell_of (i:=10) T2.2 rfl;go_wp2_with fail
       go_loopw [157] (fun i wr=>∃ j:Nat,j≤p.ks.length∧i = .int .i64 j∧ou w.heap.size p ⟨xa,xc,sa,sc,ga,gc,ka,kc⟩ ⟨xa',xc',sa',sc',ga',gc',ka',kc'⟩ wr∧Below w.heap.size w wr) (fun i _=>p.ks.length - (intOf i).toNat)
       case atStart=>exact ⟨0,Hl _,rfl,T2,A⟩
       case round =>
        clear T2 A;obtain ⟨j,hj,rfl,T2,A⟩:=hrel;by_cases hlt:j<p.ks.length;rotate_left
        ·have hjz:¬ (j:Int)<(p.ks.length:Int):=by omega
         go_wp2_with fail
         go_ret;exact ⟨rfl,A⟩
        have hjz:(j:Int)<(p.ks.length:Int):=by omega
        obtain ⟨ba,oa,q1,ea,la,s1,k1⟩:=((gS.next A (Hd _) HP.out.ks).up A.size).elem hlt;obtain ⟨bb,ob,q2,eb,lb,s2,k2⟩:=((gS.next A (Hd _) HP'.out.ks).up A.size).elem hlt;obtain rfl:ka=some ⟨ba,oa,none⟩:=ea;obtain rfl:ka'=some ⟨bb,ob,none⟩:=eb;have ta:=Az s1;have tb:=Az s2;have HE:Hid (Bo p.ks[j]∧kG p.ks[j]):=⟨IH.out _ (Hm hlt),HW.out.ks _ (Hm hlt)⟩
        clear s1 s2 x10 y10;go_upto_region 26 with fail
        have hCC:∀ W W':World,uG w.heap.size p ⟨xa,xc,sa,sc,ga,gc,some ⟨ba,oa,none⟩,kc⟩ ⟨xa',xc',sa',sc',ga',gc',some ⟨bb,ob,none⟩,kc'⟩ ba (oa+j*11) bb (ob+j*11) (pL p.ks[j] q1).toList (pL p.ks[j] q2).toList W→Below W.heap.size W W'→uG w.heap.size p ⟨xa,xc,sa,sc,ga,gc,some ⟨ba,oa,none⟩,kc⟩ ⟨xa',xc',sa',sc',ga',gc',some ⟨bb,ob,none⟩,kc'⟩ ba (oa+j*11) bb (ob+j*11) (pL p.ks[j] q1).toList (pL p.ks[j] q2).toList W':=fun _ _ h hb=>h.next hb
        have hdr:Below wr.heap.size wr wr.drew:=(He _ _).drew;have CW:uG w.heap.size p ⟨xa,xc,sa,sc,ga,gc,some ⟨ba,oa,none⟩,kc⟩ ⟨xa',xc',sa',sc',ga',gc',some ⟨bb,ob,none⟩,kc'⟩ ba (oa+j*11) bb (ob+j*11) (pL p.ks[j] q1).toList (pL p.ks[j] q2).toList wr.drew:=hCC _ _ ⟨T2,ta,tb,la,lb⟩ hdr;refine aG (uG w.heap.size p ⟨xa,xc,sa,sc,ga,gc,some ⟨ba,oa,none⟩,kc⟩ ⟨xa',xc',sa',sc',ga',gc',some ⟨bb,ob,none⟩,kc'⟩ ba (oa+j*11) bb (ob+j*11) (pL p.ks[j] q1).toList (pL p.ks[j] q2).toList) (by kernel_rfl) ?_
        refine ab hCC 160 (i:=0) (v:=.pointer (some ⟨w.heap.size,10,none⟩)) (fun n hn=>?_) CW ?_
        ·go_simp
        simp only [Act.put,pA,pB,pC];refine ab hCC 161 (i:=1) (v:=.slice (some ⟨ba,oa,none⟩) p.ks.length kc) (fun n hn=>?_) CW ?_
        ·have hc:n.cell? ⟨w.heap.size,10,none⟩=some (.slice (some ⟨ba,oa,none⟩) p.ks.length kc):=cell_of (i:=10) hn.1.1 rfl;go_simp
        simp only [Act.put,pA,pB,pC];refine ab hCC 162 (i:=2) (v:=.int .i64 j) (fun n hn=>?_) CW ?_
        ·go_simp
        simp only [Act.put,pA,pB,pC];refine ab hCC 163 (i:=3) (v:=.pointer (some ⟨ba,oa+j*11,none⟩)) (fun n hn=>?_) CW ?_
        ·go_simp
        simp only [Act.put,pA,pB,pC];refine ab hCC 164 (i:=4) (v:=.agg (pL p.ks[j] q1)) (fun n hn=>?_) CW ?_
        ·have hc0:n.cell? ⟨ba,oa+j*11,none⟩=some (.int .i64 p.ks[j].k):=hn.2.1 0 _ rfl;have hc1:n.cell? ⟨ba,oa+j*11+1,none⟩=some (.int .i64 p.ks[j].n):=hn.2.1 1 _ rfl;have hc2:n.cell? ⟨ba,oa+j*11+2,none⟩=some (.int .i64 p.ks[j].x.k):=hn.2.1 2 _ rfl;have hc3:n.cell? ⟨ba,oa+j*11+3,none⟩=some (.int .i64 p.ks[j].x.v.1):=hn.2.1 3 _ rfl;have hc4:n.cell? ⟨ba,oa+j*11+4,none⟩=some (.int .i64 p.ks[j].x.v.2.1):=hn.2.1 4 _ rfl;have hc5:n.cell? ⟨ba,oa+j*11+5,none⟩=some (.string p.ks[j].x.v.2.2):=hn.2.1 5 _ rfl;have hc6:n.cell? ⟨ba,oa+j*11+6,none⟩=some (.int .i64 p.ks[j].x.c):=hn.2.1 6 _ rfl
         have hc7:n.cell? ⟨ba,oa+j*11+7,none⟩=some (.slice q1.xa p.ks[j].x.ks.length q1.xc):=hn.2.1 7 _ rfl;have hc8:n.cell? ⟨ba,oa+j*11+8,none⟩=some (.slice q1.sa p.ks[j].xs.length q1.sc):=hn.2.1 8 _ rfl;have hc9:n.cell? ⟨ba,oa+j*11+9,none⟩=some (.slice q1.ga p.ks[j].gs.length q1.gc):=hn.2.1 9 _ rfl;have hc10:n.cell? ⟨ba,oa+j*11+10,none⟩=some (.slice q1.ka p.ks[j].ks.length q1.kc):=hn.2.1 10 _ rfl;go_simp
        simp only [Act.put,pA,pB,pC];refine ab hCC 165 (i:=5) (v:=.pointer (some ⟨w.heap.size+1,10,none⟩)) (fun n hn=>?_) CW ?_
        ·go_simp
        simp only [Act.put,pA,pB,pC];refine ab hCC 166 (i:=6) (v:=.slice (some ⟨bb,ob,none⟩) p.ks.length kc') (fun n hn=>?_) CW ?_
        ·have hc:n.cell? ⟨w.heap.size+1,10,none⟩=some (.slice (some ⟨bb,ob,none⟩) p.ks.length kc'):=cell_of (i:=10) hn.1.2 rfl;go_simp
        simp only [Act.put,pA,pB,pC];refine ab hCC 167 (i:=7) (v:=.int .i64 j) (fun n hn=>?_) CW ?_
        ·go_simp
        simp only [Act.put,pA,pB,pC];refine ab hCC 168 (i:=8) (v:=.pointer (some ⟨bb,ob+j*11,none⟩)) (fun n hn=>?_) CW ?_
        ·go_simp
        simp only [Act.put,pA,pB,pC];refine ab hCC 169 (i:=9) (v:=.agg (pL p.ks[j] q2)) (fun n hn=>?_) CW ?_
        ·have hc0:n.cell? ⟨bb,ob+j*11,none⟩=some (.int .i64 p.ks[j].k):=hn.2.2.1 0 _ rfl;have hc1:n.cell? ⟨bb,ob+j*11+1,none⟩=some (.int .i64 p.ks[j].n):=hn.2.2.1 1 _ rfl;have hc2:n.cell? ⟨bb,ob+j*11+2,none⟩=some (.int .i64 p.ks[j].x.k):=hn.2.2.1 2 _ rfl;have hc3:n.cell? ⟨bb,ob+j*11+3,none⟩=some (.int .i64 p.ks[j].x.v.1):=hn.2.2.1 3 _ rfl;have hc4:n.cell? ⟨bb,ob+j*11+4,none⟩=some (.int .i64 p.ks[j].x.v.2.1):=hn.2.2.1 4 _ rfl;have hc5:n.cell? ⟨bb,ob+j*11+5,none⟩=some (.string p.ks[j].x.v.2.2):=hn.2.2.1 5 _ rfl
         have hc6:n.cell? ⟨bb,ob+j*11+6,none⟩=some (.int .i64 p.ks[j].x.c):=hn.2.2.1 6 _ rfl;have hc7:n.cell? ⟨bb,ob+j*11+7,none⟩=some (.slice q2.xa p.ks[j].x.ks.length q2.xc):=hn.2.2.1 7 _ rfl;have hc8:n.cell? ⟨bb,ob+j*11+8,none⟩=some (.slice q2.sa p.ks[j].xs.length q2.sc):=hn.2.2.1 8 _ rfl;have hc9:n.cell? ⟨bb,ob+j*11+9,none⟩=some (.slice q2.ga p.ks[j].gs.length q2.gc):=hn.2.2.1 9 _ rfl;have hc10:n.cell? ⟨bb,ob+j*11+10,none⟩=some (.slice q2.ka p.ks[j].ks.length q2.kc):=hn.2.2.1 10 _ rfl;go_simp
        simp only [Act.put,pA,pB,pC];refine au (rs:=[10]) (by kernel_rfl) (by simp) ?_;intro w5 hb5 jj hjj;obtain rfl:jj=10:=by simpa using hjj
        clear hjj;have D5:=chain hdr hb5;have CW5:=hCC _ _ CW hb5;have con:=HE.out.1 q1 q2 w5 HE.out.2 ((k1.next D5 (Hd _)).up D5.size) ((k2.next D5 (Hd _)).up D5.size);refine wpOp_step rfl (fun K hK=>?_);go_simp;refine con.mono ?_;rintro e w6 ⟨rfl,hb6⟩;have CW6:=hCC _ _ CW5 hb6;refine hK _ _ ⟨CW6,?_⟩;clear hK K con CW CW5;have D6:=chain D5 hb6;refine ab hCC 171 (i:=11) (v:=.bool false) (fun n hn=>?_) CW6 ?_
        ·go_simp
        simp only [Act.put,pA,pB,pC];refine bd (by kernel_rfl) ?_;intro w7 hb7;have D7:=chain D6 hb7;have T7:=T2.next D7;have A7:=chain A D7;clear hCC ta tb;go_wp2_with fail
        go_roundw
        case rel=>exact ⟨j+1,by omega,by go_num,T7,A7⟩
        case measure=>simp [intOf]; omega
theorem DI:∀ p,Bo p:=Pl.ind fun k n x xs gs ks ih=>xJ (.mk k n x xs gs ks) ih
end Go.Proofs.YtjebpkhkjkjphaaGreat
