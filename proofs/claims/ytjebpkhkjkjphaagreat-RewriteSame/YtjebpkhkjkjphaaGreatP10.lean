/- Together: N5, G9, GA, GB, N6, N7, N8, N9, NA. -/
import Derived.Test.YtjebpkhkjkjphaaGreatP9
import Derived.Test.YtjebpkhkjkjphaaGreatP8
namespace Go.Proofs.YtjebpkhkjkjphaaGreat
open Go.RowKit Go.Lib Go.Shelf
set_option maxRecDepth 100000
set_option maxHeartbeats 16000000
theorem Ds (af:List Int) {xs:List Ex} {j:Nat} (h:j<xs.length):gT af (xs.take (j+1))=gT af (xs.take j) ++ [(an af xs[j]).1]:=by
 unfold gT;rw [Mp h,M7];rfl
theorem jD (af:List Int) (xs:List Ex):(gT af xs).length=xs.length:=by unfold gT; rw [MA]
theorem gq.nx {W w1:World} {g:Nat} {l:List Int} (h:gq W g l) (hb:Below W.heap.size W w1):gq w1 g l :=
 ⟨Mh h.lt hb.size,fun i hi=>(hb.cell (p:=⟨g,i,none⟩) h.lt).trans (h.c i hi),fun i=>(hb.frozen (p:=⟨g,i,none⟩) h.lt).trans (h.f i)⟩
theorem qp {W:World} {g n j:Nat} {ts:List Int} (h:gq W g (ts ++ List.replicate (n - j) 0)) (hl:ts.length=j) (hj:j<n):W.cell? ⟨g,j,none⟩=some (.int .i64 0)∧W.frozen? ⟨g,j,none⟩=false∧∀ u,gq (W.setCell ⟨g,j,none⟩ (.int .i64 u)) g ((ts ++ [u]) ++ List.replicate (n - (j+1)) 0):=by
 have hlen:j<(ts ++ List.replicate (n - j) 0).length:=by simp; omega
 refine ⟨?_,h.f j,fun u=>?_⟩
 ·rw [h.c j hlen]
  congr 2
  rw [No (by omega)];simp
 ·have:=h.set j hlen u;rw [As ts n j u hl hj] at this;exact this
theorem pP (af:List Int) (xs:List Ex) (ca:Option Addr) (ccap:Nat) (xa:Option Addr) (xcap:Nat) (w:World) (hc:bG w.heap.size w ca af) (hx:aX w.heap.size w xa xs) (h8:xs.length≤8) :
  Calls Tryz.prog 99 #[.slice ca af.length ccap,.slice xa xs.length xcap] w fun e w'=>e = .returned (.slice (some ⟨w.heap.size,0,none⟩) xs.length xs.length)∧gq w' w.heap.size (gT af xs)∧Below w.heap.size w w':=by
 have hmk:=ur h8;have O0:=gq.new w xs.length 3;have hal0:=aa w (.cells (Array.replicate xs.length (.int .i64 0)) 3);go_enter Tryz.func99,Tryz.ntmps99;go_wp2_with fail
 generalize w.alloc (.cells (Array.replicate xs.length (.int .i64 0)) 3)=w1 at *;clear hmk;go_loopw [13] (fun i wr=>∃ j:Nat,j≤xs.length∧i = .int .i64 j∧gq wr w.heap.size (gT af (xs.take j) ++ List.replicate (xs.length - j) 0)∧Below w.heap.size w wr) (fun i _=>xs.length - (intOf i).toNat)
 case atStart=>exact ⟨0,Mj _,rfl,by simpa [gT] using O0,hal0⟩
 case round =>
  obtain ⟨j,hj,rfl,hO,hb⟩:=hrel;have hz:=hb.size;by_cases hlt:j<xs.length
  ·obtain ⟨b,off,ai,ci,rfl,hbl,sx,kx⟩:=(aX.next hb (Mc _) hx).elem hlt;obtain ⟨x0,x1,x2,x3,x4,x5⟩:=sx;have hjz:(j:Int)<(xs.length:Int):=by omega
   have hal:=aa wr (.cells (fS xs[j] ai ci) 27);have hA:=chain hb hal;have con:=mF af xs[j] ca ccap ai ci _ ((aX.next hal hz kx).up (Mr hz hal.size)) ((hc.next hA (Mc _)).up hA.size);have HT:Hid (gT af (xs.take (j+1))=gT af (xs.take j) ++ [(an af xs[j]).1]):=Ds af hlt;have hlen:(gT af (xs.take j)).length=j:=by rw [jD,MH]; omega
   unfold iU at con;go_wp2_with fail
   refine con.mono ?_;rintro e w5 ⟨rfl,hb5⟩;clear con x0 x1 x2 x3 x4 x5 kx;have hb5':=chain hal hb5;obtain ⟨cc,ff,hset⟩:=qp (hO.nx hb5') hlen hlt;have hA5:=chain hb hb5';have O6:=hset (an af xs[j]).1;have hA6:=hA5.setCell (p:=⟨w.heap.size,j,none⟩) (Mc _) (.int .i64 (an af xs[j]).1);rw [← HT.out] at O6;clear hset hO hlen;dsimp only;go_wp2
   go_roundw
   case rel=>exact ⟨j+1,by omega,by go_num,O6,hA6⟩
   case measure=>simp [intOf]; omega
  ·have e:j=xs.length:=by omega
   subst e;rw [MB,Nat.sub_self,List.replicate_zero,Nm] at hO;go_wp2
   go_ret;exact ⟨rfl,hO,hb⟩
def eW (af:List Int) (gs:List Ag):List Int:=gs.map (tX af)
theorem zD (af:List Int) {gs:List Ag} {j:Nat} (h:j<gs.length):eW af (gs.take (j+1))=eW af (gs.take j) ++ [tX af gs[j]]:=by
 unfold eW;rw [Mp h,M7];rfl
theorem td (af:List Int) (gs:List Ag):(eW af gs).length=gs.length:=by unfold eW; rw [MA]
theorem vU (af:List Int) (gs:List Ag) (ca:Option Addr) (ccap:Nat) (xa:Option Addr) (xcap:Nat) (w:World) (hc:bG w.heap.size w ca af) (hx:ie w.heap.size w xa gs) (h8:gs.length≤8) :
  Calls Tryz.prog 101 #[.slice ca af.length ccap,.slice xa gs.length xcap] w fun e w'=>e = .returned (.slice (some ⟨w.heap.size,0,none⟩) gs.length gs.length)∧gq w' w.heap.size (eW af gs)∧Below w.heap.size w w':=by
 have hmk:=ur h8;have O0:=gq.new w gs.length 3;have hal0:=aa w (.cells (Array.replicate gs.length (.int .i64 0)) 3);go_enter Tryz.func101,Tryz.ntmps101;go_wp2_with fail
 generalize w.alloc (.cells (Array.replicate gs.length (.int .i64 0)) 3)=w1 at *;clear hmk;go_loopw [13] (fun i wr=>∃ j:Nat,j≤gs.length∧i = .int .i64 j∧gq wr w.heap.size (eW af (gs.take j) ++ List.replicate (gs.length - j) 0)∧Below w.heap.size w wr) (fun i _=>gs.length - (intOf i).toNat)
 case atStart=>exact ⟨0,Mj _,rfl,by simpa [eW] using O0,hal0⟩
 case round =>
  obtain ⟨j,hj,rfl,hO,hb⟩:=hrel;have hz:=hb.size;by_cases hlt:j<gs.length
  ·obtain ⟨b,off,ai,ci,rfl,hbl,x0,sx,kx⟩:=(ie.next hb (Mc _) hx).elem hlt;obtain ⟨x1,x2,x3,x4,x5,x6⟩:=sx;have hjz:(j:Int)<(gs.length:Int):=by omega
   have hal:=aa wr (.cells (mC gs[j].1 gs[j].2.k gs[j].2.v.1 gs[j].2.v.2.1 gs[j].2.v.2.2 gs[j].2.c ai gs[j].2.ks.length ci) 67);have q0:=ak wr (mC gs[j].1 gs[j].2.k gs[j].2.v.1 gs[j].2.v.2.1 gs[j].2.v.2.2 gs[j].2.c ai gs[j].2.ks.length ci) 67;have HT:Hid (eW af (gs.take (j+1))=eW af (gs.take j) ++ [tX af gs[j]]):=zD af hlt
   have hlen:(eW af (gs.take j)).length=j:=by rw [td,MH]; omega
   have zn:w.heap.size≠wr.heap.size:=Nat.ne_of_lt hO.lt;obtain ⟨cc,ff,hset⟩:=qp (hO.nx hal) hlen hlt;have O1:=hset 3;have hS:Below w.heap.size wr ((wr.alloc (.cells (mC gs[j].1 gs[j].2.k gs[j].2.v.1 gs[j].2.v.2.1 gs[j].2.v.2.2 gs[j].2.c ai gs[j].2.ks.length ci) 67)).setCell ⟨w.heap.size,j,none⟩ (.int .i64 3)):=(hal.mono hz).setCell (p:=⟨w.heap.size,j,none⟩) (Mc _) _;have kk:=aX.next hS (Mc _) kx;clear hset hO kx;go_upto_region 6 with fail
   clear x0 x1 x2 x3 x4 x5 x6 cc ff;have p0:((wr.alloc (.cells (mC gs[j].1 gs[j].2.k gs[j].2.v.1 gs[j].2.v.2.1 gs[j].2.v.2.2 gs[j].2.c ai gs[j].2.ks.length ci) 67)).setCell ⟨w.heap.size,j,none⟩ (.int .i64 3)).cell? ⟨wr.heap.size,0,none⟩=some (.int .i64 gs[j].1):=(cM zn).trans (cell_of (i:=0) q0 rfl)
   have p1:((wr.alloc (.cells (mC gs[j].1 gs[j].2.k gs[j].2.v.1 gs[j].2.v.2.1 gs[j].2.v.2.2 gs[j].2.c ai gs[j].2.ks.length ci) 67)).setCell ⟨w.heap.size,j,none⟩ (.int .i64 3)).cell? ⟨wr.heap.size,1,none⟩=some (.int .i64 gs[j].2.k):=(cM zn).trans (cell_of (i:=1) q0 rfl)
   have p2:((wr.alloc (.cells (mC gs[j].1 gs[j].2.k gs[j].2.v.1 gs[j].2.v.2.1 gs[j].2.v.2.2 gs[j].2.c ai gs[j].2.ks.length ci) 67)).setCell ⟨w.heap.size,j,none⟩ (.int .i64 3)).cell? ⟨wr.heap.size,2,none⟩=some (.int .i64 gs[j].2.v.1):=(cM zn).trans (cell_of (i:=2) q0 rfl)
   have p3:((wr.alloc (.cells (mC gs[j].1 gs[j].2.k gs[j].2.v.1 gs[j].2.v.2.1 gs[j].2.v.2.2 gs[j].2.c ai gs[j].2.ks.length ci) 67)).setCell ⟨w.heap.size,j,none⟩ (.int .i64 3)).cell? ⟨wr.heap.size,3,none⟩=some (.int .i64 gs[j].2.v.2.1):=(cM zn).trans (cell_of (i:=3) q0 rfl)
   have p4:((wr.alloc (.cells (mC gs[j].1 gs[j].2.k gs[j].2.v.1 gs[j].2.v.2.1 gs[j].2.v.2.2 gs[j].2.c ai gs[j].2.ks.length ci) 67)).setCell ⟨w.heap.size,j,none⟩ (.int .i64 3)).cell? ⟨wr.heap.size,4,none⟩=some (.string gs[j].2.v.2.2):=(cM zn).trans (cell_of (i:=4) q0 rfl)
   have p5:((wr.alloc (.cells (mC gs[j].1 gs[j].2.k gs[j].2.v.1 gs[j].2.v.2.1 gs[j].2.v.2.2 gs[j].2.c ai gs[j].2.ks.length ci) 67)).setCell ⟨w.heap.size,j,none⟩ (.int .i64 3)).cell? ⟨wr.heap.size,5,none⟩=some (.int .i64 gs[j].2.c):=(cM zn).trans (cell_of (i:=5) q0 rfl)
   have p6:((wr.alloc (.cells (mC gs[j].1 gs[j].2.k gs[j].2.v.1 gs[j].2.v.2.1 gs[j].2.v.2.2 gs[j].2.c ai gs[j].2.ks.length ci) 67)).setCell ⟨w.heap.size,j,none⟩ (.int .i64 3)).cell? ⟨wr.heap.size,6,none⟩=some (.slice ai gs[j].2.ks.length ci):=(cM zn).trans (cell_of (i:=6) q0 rfl);generalize (wr.alloc (.cells (mC gs[j].1 gs[j].2.k gs[j].2.v.1 gs[j].2.v.2.1 gs[j].2.v.2.2 gs[j].2.c ai gs[j].2.ks.length ci) 67)).setCell ⟨w.heap.size,j,none⟩ (.int .i64 3)=wk at *
   clear q0 hal;have hA:=hb.trans hS;have hzk:=hS.size;by_cases hk:gs[j].1=4∨gs[j].1=5
   ·have HT':Hid (eW af (gs.take (j+1))=eW af (gs.take j) ++ [(an af gs[j].2).1]):=by show _=_; rw [HT.out]; unfold tX; rw [if_pos hk]
    have con:=mF af gs[j].2 ca ccap ai ci wk (kk.up hA.size) ((hc.next hA (Mc _)).up hA.size);generalize (an af gs[j].2).1=ty at *;unfold iU at con;generalize gs[j].1=kd at *;clear HT;have hk2:kd=4∨(¬ kd=4∧kd=5):=by omega
    clear hk;rcases hk2 with rfl | ⟨hk4,rfl⟩
    all_goals (
     go_wp2_with fail
     refine con.mono ?_;rintro e w5 ⟨rfl,hb5⟩;clear con p0 p1 p2 p3 p4 p5 p6 kk;have O5:=O1.nx hb5;have hlen2:j<((eW af (gs.take j) ++ [3]) ++ List.replicate (gs.length - (j+1)) 0).length:=by first | (simp [hlen]; done) | (simp [hlen]; omega)
     have cc:w5.cell? ⟨w.heap.size,j,none⟩=some (.int .i64 3):=by
      rw [O5.c j hlen2]
      congr 2
      rw [Mz (by simp [hlen])];rw [No (by omega)];simp [hlen]
     have ff:=O5.f j;have O6:=O5.set j hlen2 ty;have es:((eW af (gs.take j) ++ [3]) ++ List.replicate (gs.length - (j+1)) 0).set j ty=eW af (gs.take (j+1)) ++ List.replicate (gs.length - (j+1)) 0:=by
      rw [HT'.out,List.set_append_left _ _ (by simp [hlen]),List.set_append_right _ _ (by omega)];simp [hlen]
     rw [es] at O6;have hA6:=(chain hA hb5).setCell (p:=⟨w.heap.size,j,none⟩) (Mc _) (.int .i64 ty);clear O5 es hlen2 O1 hlen;dsimp only;go_wp2_with fail
     go_roundw
     case rel=>exact ⟨j+1,by omega,by go_num,O6,hA6⟩
     case measure=>simp [intOf]; omega)
   ·have HT':Hid (eW af (gs.take (j+1))=eW af (gs.take j) ++ [3]):=by show _=_; rw [HT.out]; unfold tX; rw [if_neg hk]
    have k4:(gs[j].1 == 4)=false:=by rw [beq_eq_false_iff_ne]; exact fun e=>hk (.inl e)
    have k5:(gs[j].1 == 5)=false:=by rw [beq_eq_false_iff_ne]; exact fun e=>hk (.inr e)
    rw [← HT'.out] at O1;clear hk HT hlen;go_wp2_with fail
    go_roundw
    case rel=>exact ⟨j+1,by omega,by go_num,O1,hA⟩
    case measure=>simp [intOf]; omega
  ·have e:j=gs.length:=by omega
   subst e;rw [MB,Nat.sub_self,List.replicate_zero,Nm] at hO;go_wp2_with fail
   go_ret;exact ⟨rfl,hO,hb⟩
theorem BO {l r:List Int} {j:Nat} (h:j<l.length) (h':j<r.length) (he:¬ (bR l[j] r[j]).2=0):jE (l.drop j) (r.drop j)=(bR l[j] r[j]).2:=by
 rw [Mi h,Mi h',jE,if_pos he]
theorem yH {l r:List Int} {j:Nat} (h:j<l.length) (h':j<r.length) (he:(bR l[j] r[j]).2=0):jE (l.drop j) (r.drop j)=jE (l.drop (j+1)) (r.drop (j+1)):=by
 rw [Mi h,Mi h',jE,if_neg (by simp [he])]
theorem C5 {l r:List Int} {j:Nat} (h:l.length≤j):jE (l.drop j) (r.drop j)=0:=by
 rw [MG h,jE];intro a l b r h; cases h
theorem qO:∀ {l r:List Int} {j:Nat} (h:j<l.length) (h':j<r.length),fb (l.take (j+1)) (r.take (j+1))=fb (l.take j) (r.take j) ++ [(bR l[j] r[j]).1]
 | a :: l,b :: r,0,_,_=>by simp [fb]
 | a :: l,b :: r,j+1,h,h'=>by
  have:=qO (l:=l) (r:=r) (j:=j) (by simpa using h) (by simpa using h')
  simp only [List.take_succ_cons,fb,Nw,M8] at this ⊢
  rw [this]
theorem lJ:∀ {l r:List Int},l.length=r.length→(fb l r).length=l.length
 | [],[],_=>rfl
 | a :: l,b :: r,h=>by rw [fb,NG,lJ (by simpa using h),NG]
theorem tQ (l r:List Int) (la:Option Addr) (lc:Nat) (ra:Option Addr) (rc:Nat) (w:World) (hl:bG w.heap.size w la l) (hr:bG w.heap.size w ra r) (h8:l.length≤8) :
  Calls Tryz.prog 102 #[.slice la l.length lc,.slice ra r.length rc] w fun e w'=>∃ v,e = .returned (.tuple #[v,.int .i64 (rL l r)])∧(rL l r=0→v = .slice (some ⟨w.heap.size,0,none⟩) l.length l.length∧gq w' w.heap.size (fb l r))∧(¬ rL l r=0→v = .slice none 0 0)∧Below w.heap.size w w':=by
 have hmk:=ur h8;have O0:=gq.new w l.length 3;have hal0:=aa w (.cells (Array.replicate l.length (.int .i64 0)) 3);generalize he:rL l r=er;have HE:=aw he;clear he;go_enter Tryz.func102,Tryz.ntmps102;by_cases hlr:l.length=r.length;rotate_left
 ·have hne:((l.length:Int) != (r.length:Int))=true:=by simp; omega
  have e:er=8:=by rw [← HE.out]; unfold rL; rw [if_pos hlr]
  subst e;clear hmk O0 hal0 HE;go_wp2_with fail
  exact Me (v:=.tuple #[.slice none 0 0,.int .i64 8]) (by simp [results,Tryz.results102,go_sem]) rfl ⟨_,rfl,fun c=>by omega,fun _=>rfl,Md _ _⟩
 have hne:((l.length:Int) != (r.length:Int))=false:=by simp; omega
 have HE':Hid (er=jE (l.drop 0) (r.drop 0)):=by show _=_; rw [← HE.out]; unfold rL; rw [if_neg (by simpa using hlr)]; rfl
 have HL:=aw hlr;have hl1:l.length≤r.length:=by omega
 have hl2:r.length≤l.length:=by omega
 clear HE hlr;go_wp2_with fail
 generalize w.alloc (.cells (Array.replicate l.length (.int .i64 0)) 3)=w1 at *;clear hmk hne;go_loopw [20] (fun i wr=>∃ j:Nat,j≤l.length∧i = .int .i64 j∧Hid (er=jE (l.drop j) (r.drop j))∧gq wr w.heap.size (fb (l.take j) (r.take j) ++ List.replicate (l.length - j) 0)∧Below w.heap.size w wr) (fun i _=>l.length - (intOf i).toNat)
 case atStart=>exact ⟨0,Mj _,rfl,HE',by simpa [fb] using O0,hal0⟩
 case round =>
  obtain ⟨j,hj,rfl,HT,hO,hb⟩:=hrel;by_cases hlt:j<l.length
  ·have hlr:j<r.length:=by omega
   obtain ⟨b1,o1,rfl,hb1,c1⟩:=(hl.next hb (Mc _)).elem hlt;obtain ⟨b2,o2,rfl,hb2,c2⟩:=(hr.next hb (Mc _)).elem hlr;have hjz:(j:Int)<(l.length:Int):=by omega
   have hjr:(j:Int)<(r.length:Int):=by omega
   have hj0:(0:Int)≤(j:Int):=by omega
   have HBad:Hid (¬ (bR l[j] r[j]).2=0→er=(bR l[j] r[j]).2):=fun c=>HT.out.trans (BO hlt hlr c)
   have HOk:Hid ((bR l[j] r[j]).2=0→er=jE (l.drop (j+1)) (r.drop (j+1))):=fun c=>HT.out.trans (yH hlt hlr c)
   have HTl:Hid (fb (l.take (j+1)) (r.take (j+1))=fb (l.take j) (r.take j) ++ [(bR l[j] r[j]).1]):=qO hlt hlr;have hlen:(fb (l.take j) (r.take j)).length=j:=by rw [lJ (by rw [MH,MH]; omega),MH]; omega
   clear HT;have con:=cn l[j] r[j];generalize bR l[j] r[j]=tg at *;generalize l[j]=lj at *;generalize r[j]=rj at *;have p1:=aq c1;have p2:=aq c2;haveI:Nonempty (dG wr):=⟨⟨_,Md _ _⟩⟩
   go_wp2_with fail
   refine aI (by kernel_rfl) (by kernel_rfl) ?_
   repeat (go_big_quiet_step (first | (go_at_call 132; exact du (con _))))
   refine wpQuiet_nil ?_;rintro w5 ⟨⟨v5,hb5⟩,h5⟩;obtain rfl:w5=v5:=h5;clear p1 p2 this c1 c2 con;by_cases h0:tg.2=0
   ·have HT':Hid (er=jE (l.drop (j+1)) (r.drop (j+1))):=HOk.out h0;have h0b:(tg.2 != 0)=false:=by simp [h0]
    obtain ⟨cc,ff,hset⟩:=qp (hO.nx hb5) hlen hlt;have O6:=hset tg.1;have hA6:=(chain hb hb5).setCell (p:=⟨w.heap.size,j,none⟩) (Mc _) (.int .i64 tg.1);rw [← HTl.out] at O6;clear HBad HOk h0 hset hO hlen HTl;go_wp2_with fail
    go_roundw
    case rel=>exact ⟨j+1,by omega,by go_num,HT',O6,hA6⟩
    case measure=>simp [intOf]; omega
   ·have e:er=tg.2:=HBad.out h0;have h0b:(tg.2 != 0)=true:=by simpa using h0
    clear HBad HOk HTl hO hlen;go_wp2_with fail
    exact Me (v:=.tuple #[.slice none 0 0,.int .i64 tg.2]) (by simp [results,Tryz.results102,go_sem]) rfl ⟨_,by rw [e],fun c=>absurd (e ▸ c) h0,fun _=>rfl,chain hb hb5⟩
  ·have e:j=l.length:=by omega
   have er0:er=0:=by rw [HT.out,C5 (by omega)]
   subst e;rw [MB,Nat.sub_self,List.replicate_zero,Nm,HL.out,MB] at hO;subst er0;clear HT;go_wp2_with fail
   first
    | exact Me (v:=.tuple #[.slice (some ⟨w.heap.size,0,none⟩) l.length l.length,.int .i64 0]) (by simp [results,Tryz.results102,go_sem]) rfl ⟨_,rfl,⟨rfl,hO⟩,hb⟩
    | exact Me (v:=.tuple #[.slice (some ⟨w.heap.size,0,none⟩) l.length l.length,.int .i64 0]) (by simp [results,Tryz.results102,go_sem]) rfl ⟨_,rfl,fun _=>⟨rfl,hO⟩,fun c=>absurd rfl c,hb⟩
def BC (lo:Nat) (u:Value) (T:List Wp→Vl) (w:World):Prop :=
 ∃ g cb,u = .func (.func g) #[] cb∧(∀ args w,(callFunc g args).run Tryz.prog w = .ok (.enter g args) w) ∧
  ∀ (l:List Wp) (a:Option Addr) (cap:Nat) (W:World),Kz l→0<l.length→jk W a l→Since lo w W →
   Calls Tryz.prog g (#[.slice a l.length cap] ++ cb) W fun e w'=>e = .returned (fW (T l))∧Below W.heap.size W w'
theorem BC.next {lo:Nat} {u:Value} {T:List Wp→Vl} {w w1:World} (h:BC lo u T w) (hb:Since lo w w1):BC lo u T w1:=by
 obtain ⟨g,cb,e,eg,hd⟩:=h;exact ⟨g,cb,e,eg,fun l a cap W hk h0 hs hW=>hd l a cap W hk h0 hs (hb.trans hW)⟩
def jK (T:List Wp→Vl) (l:List Wp):Vl:=if l.length=0 then (1,0,⟨#[]⟩) else T l
theorem xE (lo:Nat) (ut:Value) (T:List Wp→Vl) (tb:Nat) (a:Option Addr) (cap:Nat) (l:List Wp) (W:World) (c0:W.cell? ⟨tb,0,none⟩=some ut) (hT:BC lo ut T W) (hk:Kz l) (h:jk W a l) :
  Calls Tryz.prog 178 #[.slice a l.length cap,.pointer (some ⟨tb,0,none⟩)] W fun e w'=>e = .returned (fW (jK T l))∧Below W.heap.size W w':=by
 have hal:=aa W (.cells #[.int .i64 0,.int .i64 0,.string ⟨#[]⟩] 24);have q0:=ak W #[.int .i64 0,.int .i64 0,.string ⟨#[]⟩] 24
 have ends:∀ w2:World,Below (W.alloc (.cells #[.int .i64 0,.int .i64 0,.string ⟨#[]⟩] 24)).heap.size (W.alloc (.cells #[.int .i64 0,.int .i64 0,.string ⟨#[]⟩] 24)) w2→(w2.cell? ⟨W.heap.size,0,none⟩=some (.int .i64 0)∧w2.cell? ⟨W.heap.size,1,none⟩=some (.int .i64 0)∧w2.cell? ⟨W.heap.size,2,none⟩=some (.string ⟨#[]⟩))∧w2.frozen? ⟨W.heap.size,0,none⟩=false∧w2.frozen? ⟨W.heap.size,1,none⟩=false∧w2.frozen? ⟨W.heap.size,2,none⟩=false:=fun w2 hb2=>by
  have q2:=(hb2.block _ (ae q0)).trans q0;exact ⟨⟨cell_of (i:=0) q2 rfl,cell_of (i:=1) q2 rfl,cell_of (i:=2) q2 rfl⟩,Mg w2 W.heap.size 0 _ _ q2,Mg w2 W.heap.size 1 _ _ q2,Mg w2 W.heap.size 2 _ _ q2⟩
 have HEn:Hid _:=ends;have d:=(hal.cell (p:=⟨tb,0,none⟩) (Mm _ _ c0)).trans c0;clear ends;by_cases h0:l.length=0
 ·have e:jK T l=(1,0,⟨#[]⟩):=by unfold jK; rw [if_pos h0]
  rw [e,h0];unfold fW;clear e d hT;go_enter Tryz.func178,Tryz.ntmps178;go_wp2_with fail
  generalize W.alloc (.cells #[.int .i64 0,.int .i64 0,.string ⟨#[]⟩] 24)=w0 at *;refine (dN w0).mono ?_;rintro e w2 ⟨rfl,hb2⟩;obtain ⟨⟨d0,d1,d2⟩,f0,f1,f2⟩:=HEn.out w2 hb2;have hA2:=chain hal hb2;dsimp only;go_wp2
  exact Me (v:=.agg #[.int .i64 1,.int .i64 0,.string ⟨#[]⟩]) (by simp [results,Tryz.results178,go_sem,d0,d1,d2]) rfl ⟨rfl,((hA2.setCell (p:=⟨W.heap.size,0,none⟩) (Mc _) _).setCell (p:=⟨W.heap.size,1,none⟩) (Mc _) _).setCell (p:=⟨W.heap.size,2,none⟩) (Mc _) _⟩
 ·have e:jK T l=T l:=by unfold jK; rw [if_neg h0]
  rw [e];obtain ⟨gt,ct,rfl,egt,dt⟩:=hT;have con:=dt l a cap _ hk (by omega) (h.next hal) (Since.of hal);have hn:¬ (l.length:Int)=0:=by omega
  have hnb:((l.length:Int) == 0)=false:=by rw [beq_eq_false_iff_ne]; exact hn
  generalize T l=res at *;unfold fW at con ⊢;clear e dt h0;go_enter Tryz.func178,Tryz.ntmps178;go_wp2_with fail
  generalize W.alloc (.cells #[.int .i64 0,.int .i64 0,.string ⟨#[]⟩] 24)=w0 at *;go_wp2_with (go_at_fn gt; refine con.mono ?_; rintro e w2 ⟨rfl,hb2⟩; obtain ⟨⟨d0,d1,d2⟩,f0,f1,f2⟩:=HEn.out w2 hb2; have hA2:=chain hal hb2)
  exact Me (v:=.agg #[.int .i64 res.1,.int .i64 res.2.1,.string res.2.2]) (by simp [results,Tryz.results178,go_sem,d0,d1,d2]) rfl ⟨rfl,((hA2.setCell (p:=⟨W.heap.size,0,none⟩) (Mc _) _).setCell (p:=⟨W.heap.size,1,none⟩) (Mc _) _).setCell (p:=⟨W.heap.size,2,none⟩) (Mc _) _⟩
theorem nN (u:Value) (T:List Wp→Vl) (w:World) (hT:BC w.heap.size u T w) :
  Calls Tryz.prog 149 #[u] w fun e w'=>∃ v,e = .returned v∧pw w.heap.size v (jK T) w'∧Below w.heap.size w w':=by
 have hT':=hT;obtain ⟨gt,ct,rfl,_,_⟩:=hT';have hal:=aa w (.cells #[.func (.func gt) #[] ct] 163);have q0:=ak w #[.func (.func gt) #[] ct] 163;have fin:pw w.heap.size (.func (.func 178) #[] #[.pointer (some ⟨w.heap.size,0,none⟩)]) (jK T) (w.alloc (.cells #[.func (.func gt) #[] ct] 163)) :=
  ⟨178,_,rfl,enters_of Tryz.func178 (by kernel_rfl) rfl,fun l a cap W hk hs hW=>xE w.heap.size _ T w.heap.size a cap l W ((hW.cell (p:=⟨w.heap.size,0,none⟩) (Mc _) (ae q0)).trans (cell_of (i:=0) q0 rfl)) ((hT.next (Since.of hal)).next hW) hk hs⟩
 have HF:Hid _:=fin;clear fin hT;go_enter Tryz.func149,Tryz.ntmps149;go_wp2
 go_ret;exact ⟨_,rfl,HF.out,hal⟩
def oI (g:Nat) (T:List Wp→Vl):Prop:=∀ (l:List Wp) (a:Option Addr) (cap:Nat) (W:World),Kz l→0<l.length→jk W a l→Calls Tryz.prog g #[.slice a l.length cap] W fun e w'=>e = .returned (fW (T l))∧Below W.heap.size W w'
theorem oI.fn {g:Nat} {T:List Wp→Vl} (h:oI g T) (eg:∀ args w,(callFunc g args).run Tryz.prog w = .ok (.enter g args) w) (lo:Nat) (w:World):BC lo (.func (.func g) #[] #[]) T w :=
 ⟨g,#[],rfl,eg,fun l a cap W hk h0 hs _=>by simpa using h l a cap W hk h0 hs⟩
theorem BL (h:oI 150 (fH 3)):gj 3:=by
 intro w;have eT:jK (fH 3)=fH 3:=by
  funext l
  unfold jK
  split
  ·rename_i h0
   have:l = []:=Mo h0;subst this;simp [fH,Kh]
  ·rfl
 have con:=nN (.func (.func 150) #[] #[]) (fH 3) w (h.fn (enters_of Tryz.func150 (by kernel_rfl) rfl) _ _);rw [eT] at con;go_enter Tryz.func112,Tryz.ntmps112;go_wp2_with fail
 refine con.mono ?_;rintro e w1 ⟨v,rfl,hv,hb⟩;clear con;obtain ⟨g,cb,rfl⟩:∃ g cb,v = .func (.func g) #[] cb:=by obtain ⟨g,cb,e,_⟩:=hv; exact ⟨g,cb,e⟩
 dsimp only;go_wp2
 go_ret;exact ⟨_,rfl,hv,hb⟩
theorem Cs (h:oI 151 (fH 4)):gj 4:=by
 intro w;have eT:jK (fH 4)=fH 4:=by
  funext l
  unfold jK
  split
  ·rename_i h0
   have:l = []:=Mo h0;subst this;simp [fH,IZ]
  ·rfl
 have con:=nN (.func (.func 151) #[] #[]) (fH 4) w (h.fn (enters_of Tryz.func151 (by kernel_rfl) rfl) _ _);rw [eT] at con;go_enter Tryz.func112,Tryz.ntmps112;go_wp2_with fail
 refine con.mono ?_;rintro e w1 ⟨v,rfl,hv,hb⟩;clear con;obtain ⟨g,cb,rfl⟩:∃ g cb,v = .func (.func g) #[] cb:=by obtain ⟨g,cb,e,_⟩:=hv; exact ⟨g,cb,e⟩
 dsimp only;go_wp2
 go_ret;exact ⟨_,rfl,hv,hb⟩
theorem CQ (h:oI 152 (fH 5)):gj 5:=by
 intro w;have eT:jK (fH 5)=fH 5:=by
  funext l
  unfold jK
  split
  ·rename_i h0
   have:l = []:=Mo h0;subst this;simp [fH,Hj]
  ·rfl
 have con:=nN (.func (.func 152) #[] #[]) (fH 5) w (h.fn (enters_of Tryz.func152 (by kernel_rfl) rfl) _ _);rw [eT] at con;go_enter Tryz.func112,Tryz.ntmps112;go_wp2_with fail
 refine con.mono ?_;rintro e w1 ⟨v,rfl,hv,hb⟩;clear con;obtain ⟨g,cb,rfl⟩:∃ g cb,v = .func (.func g) #[] cb:=by obtain ⟨g,cb,e,_⟩:=hv; exact ⟨g,cb,e⟩
 dsimp only;go_wp2
 go_ret;exact ⟨_,rfl,hv,hb⟩
theorem qB (x y:Wp) (w:World):Calls Tryz.prog 181 #[.agg #[.int .i64 x.1.1,.int .i64 x.1.2.1,.string x.1.2.2,.int .i64 x.2],.agg #[.int .i64 y.1.1,.int .i64 y.1.2.1,.string y.1.2.2,.int .i64 y.2]] w fun e w'=>e = .returned (.int .i64 (dY x.1.1 x.1.2.1 x.1.2.2 y.1.1 y.1.2.1 y.1.2.2))∧Below w.heap.size w w':=by
 go_enter Tryz.func181,Tryz.ntmps181;go_wp2_with fail
 refine (lh _ _ _ _ _ _ _).mono ?_;rintro e w1 ⟨rfl,hb1⟩;dsimp only;go_wp2
 go_ret;exact ⟨rfl,chain (((Md _ _).alloc (Mc _) _).alloc (by simp) _) hb1⟩
theorem Av (a b c d:Value) (w:World):(Instr.field 202 (.agg #[a,b,c,d]) 0).run Tryz.prog w = .ok (.agg #[a,b,c]) w:=by kernel_rfl
structure fI (W:World) (b:Nat) (p:Wp):Prop where
 c0:W.cell? ⟨b,0,none⟩=some (.int .i64 p.1.1)
 c1:W.cell? ⟨b,1,none⟩=some (.int .i64 p.1.2.1)
 c2:W.cell? ⟨b,2,none⟩=some (.string p.1.2.2)
 c3:W.cell? ⟨b,3,none⟩=some (.int .i64 p.2)
 f:∀ i,W.frozen? ⟨b,i,none⟩=false
 lt:b<W.heap.size
theorem fI.next {W w1:World} {b:Nat} {p:Wp} (h:fI W b p) (hb:Below W.heap.size W w1):fI w1 b p :=
 ⟨(hb.cell (p:=⟨b,0,none⟩) h.lt).trans h.c0,(hb.cell (p:=⟨b,1,none⟩) h.lt).trans h.c1,(hb.cell (p:=⟨b,2,none⟩) h.lt).trans h.c2,(hb.cell (p:=⟨b,3,none⟩) h.lt).trans h.c3,fun i=>(hb.frozen (p:=⟨b,i,none⟩) h.lt).trans (h.f i),Mh h.lt hb.size⟩
theorem fI.new (W:World) (p:Wp) (T:TypeId):fI (W.alloc (.cells #[.int .i64 p.1.1,.int .i64 p.1.2.1,.string p.1.2.2,.int .i64 p.2] T)) W.heap.size p:=by
 have q:=ak W #[.int .i64 p.1.1,.int .i64 p.1.2.1,.string p.1.2.2,.int .i64 p.2] T;exact ⟨cell_of (i:=0) q rfl,cell_of (i:=1) q rfl,cell_of (i:=2) q rfl,cell_of (i:=3) q rfl,fun i=>Mg _ W.heap.size i _ _ q,ae q⟩
theorem fI.put {W:World} {b:Nat} {p:Wp} (h:fI W b p) (u:Wp):fI ((((W.setCell ⟨b,0,none⟩ (.int .i64 u.1.1)).setCell ⟨b,1,none⟩ (.int .i64 u.1.2.1)).setCell ⟨b,2,none⟩ (.string u.1.2.2)).setCell ⟨b,3,none⟩ (.int .i64 u.2)) b u:=by
 refine ⟨?_,?_,?_,?_,fun i=>by rw [MQ,MQ,MQ,MQ]; exact h.f i,by simpa using h.lt⟩
 ·simp [go_sem,h.c0]
 ·simp [go_sem,h.c1]
 ·simp [go_sem,h.c2]
 ·simp [go_sem,h.c3]
theorem fI.GN {W:World} {b:Nat} {p:Wp} (h:fI W b p) (g:Nat) (u:Wp) (hn:g≠b):fI ((((W.setCell ⟨g,0,none⟩ (.int .i64 u.1.1)).setCell ⟨g,1,none⟩ (.int .i64 u.1.2.1)).setCell ⟨g,2,none⟩ (.string u.1.2.2)).setCell ⟨g,3,none⟩ (.int .i64 u.2)) b p:=by
 have key:∀ (X:World) (o o':Nat) (v:Value),(X.setCell ⟨g,o',none⟩ v).cell? ⟨b,o,none⟩=X.cell? ⟨b,o,none⟩:=fun X o o' v=>Mn _ _ _ _ (by intro e; injection e with e; exact hn e)
 refine ⟨?_,?_,?_,?_,fun i=>by rw [MQ,MQ,MQ,MQ]; exact h.f i,by simpa using h.lt⟩
 ·rw [key,key,key,key]; exact h.c0
 ·rw [key,key,key,key]; exact h.c1
 ·rw [key,key,key,key]; exact h.c2
 ·rw [key,key,key,key]; exact h.c3
def jh:List Wp→Wp
 | []=>(eD,0)
 | p :: r=>r.foldl (fun m x=>if dI x.1 m.1<0 then x else m) p
theorem De {l:List Wp} {i:Nat} (h0:0<i) (h:i<l.length):jh (l.take (i+1))=if dI l[i].1 (jh (l.take i)).1<0 then l[i] else jh (l.take i):=by
 rw [Mp h]
 match l,i,h0,h with
 | p :: r,i+1,_,h =>
  simp only [List.take_succ_cons,M8,jh,List.foldl_append,Nl,List.foldl_nil];rfl
theorem DV {l:List Wp} (h:0<l.length):jh (l.take 1)=l[0]:=by
 match l,h with
 | p :: r,_=>rfl
theorem Gk:∀ (l:List Wp),0<l.length→(jh l).1=IZ l
 | p :: r,_=>by
  unfold jh IZ
  have aux:∀ (r:List Wp) (p:Wp),(r.foldl (fun m x=>if dI x.1 m.1<0 then x else m) p).1=r.foldl (fun m x=>if dI x.1 m<0 then x.1 else m) p.1:=by
   intro r
   induction r with
   | nil=>intro p; rfl
   | cons x t ih =>
    intro p;rw [Nl,Nl,ih];by_cases c:dI x.1 p.1<0
    ·rw [if_pos c,if_pos c]
    ·rw [if_neg c,if_neg c]
  exact aux r p
theorem xV (g:Nat) (eg:∀ args w,(callFunc g args).run Tryz.prog w = .ok (.enter g args) w) (hd:∀ (x y:Wp) (W:World),Calls Tryz.prog g #[.agg #[.int .i64 x.1.1,.int .i64 x.1.2.1,.string x.1.2.2,.int .i64 x.2],.agg #[.int .i64 y.1.1,.int .i64 y.1.2.1,.string y.1.2.2,.int .i64 y.2]] W fun e w'=>e = .returned (.int .i64 (dY x.1.1 x.1.2.1 x.1.2.2 y.1.1 y.1.2.1 y.1.2.2))∧Below W.heap.size W w') (a:Option Addr) (cap:Nat) (l:List Wp) (w:World) (h:jk w a l) (h0:0<l.length) (hl:l.length≤400) :
  Calls Tryz.prog 180 #[.slice a l.length cap,.func (.func g) #[] #[]] w fun e w'=>e = .returned (.agg #[.int .i64 (jh l).1.1,.int .i64 (jh l).1.2.1,.string (jh l).1.2.2,.int .i64 (jh l).2])∧Below w.heap.size w w':=by
 have hal:=aa w (.cells #[.int .i64 0,.int .i64 0,.string ⟨#[]⟩,.int .i64 0] 202);have V0:fI (w.alloc (.cells #[.int .i64 0,.int .i64 0,.string ⟨#[]⟩,.int .i64 0] 202)) w.heap.size (eD,0):=fI.new w (eD,0) 202;obtain ⟨b,off,rfl,hbl,c0,c1,c2,c3⟩:=(h.next hal).elem h0;have z0:(w.alloc (.cells #[.int .i64 0,.int .i64 0,.string ⟨#[]⟩,.int .i64 0] 202)).heap.size > w.heap.size:=by simp
 generalize hres:jh l=res;have HRes:Hid (jh l=res):=hres;clear hres;simp only [Nv,Ng] at c0 c1 c2 c3;have hn1:¬ (l.length:Int)<1:=by omega
 have hp:(0:Int)<(l.length:Int):=by omega
 go_enter Tryz.func180,Tryz.ntmps180;go_upto_region 3 with fail
 generalize w.alloc (.cells #[.int .i64 0,.int .i64 0,.string ⟨#[]⟩,.int .i64 0] 202)=w0 at *;have hal1:=aa w0 (.cells #[.int .i64 l[0].1.1,.int .i64 l[0].1.2.1,.string l[0].1.2.2,.int .i64 l[0].2] 202);have V1:fI (w0.alloc (.cells #[.int .i64 l[0].1.1,.int .i64 l[0].1.2.1,.string l[0].1.2.2,.int .i64 l[0].2] 202)) w0.heap.size l[0]:=fI.new w0 l[0] 202;have V0':=V0.next hal1;go_upto_region 4 with fail
 clear c0 c1 c2 c3 V0;have hA1:=chain hal hal1;generalize w0.alloc (.cells #[.int .i64 l[0].1.1,.int .i64 l[0].1.2.1,.string l[0].1.2.2,.int .i64 l[0].2] 202)=w1 at *;go_wp2_with fail
 go_loopw [6] (fun i wr=>∃ (k:Nat) (mv:Wp),0<k∧k≤l.length∧i = .int .i64 k∧fI wr w0.heap.size mv∧fI wr w.heap.size (eD,0)∧Hid (mv=jh (l.take k))∧Below w.heap.size w wr) (fun i _=>l.length - (intOf i).toNat)
 case atStart=>exact ⟨1,l[0],by omega,by omega,rfl,V1,V0',(DV h0).symm,hA1⟩
 case round =>
  clear V1 V0' hA1 hal1;obtain ⟨k,mv,hk0,hk,rfl,VM,VR,HM,hb⟩:=hrel;by_cases hlt:k<l.length
  ·obtain ⟨b',off',e',hbl',c0,c1,c2,c3⟩:=(h.next hb).elem hlt;have HT:Hid (jh (l.take (k+1))=if dI l[k].1 (jh (l.take k)).1<0 then l[k] else jh (l.take k)):=De hk0 hlt;injection e' with e'
   injection e' with e1 e2 _
   subst e1 e2;have k0:(0:Int)≤(k:Int):=by omega
   have k1:(k:Int)<(l.length:Int):=by omega
   clear c0 c1 c2 c3;have hCC:∀ W W':World,(jk W (some ⟨b,off,none⟩) l∧fI W w0.heap.size mv)→Below W.heap.size W W'→(jk W' (some ⟨b,off,none⟩) l∧fI W' w0.heap.size mv):=fun W W' h hb=>⟨h.1.next hb,h.2.next hb⟩
   have hdr:Below wr.heap.size wr wr.drew:=(Md _ _).drew;have CW:(jk wr.drew (some ⟨b,off,none⟩) l∧fI wr.drew w0.heap.size mv):=hCC _ _ ⟨h.next hb,VM⟩ hdr;go_upto_region 7 with fail
   refine aH (fun W=>(jk W (some ⟨b,off,none⟩) l∧fI W w0.heap.size mv)) (by kernel_rfl) ?_;refine az hCC 20 0 (.func (.func g) #[] #[]) (fun n hn=>?_) CW ?_
   ·go_simp
   simp only [pD,pB,pC];refine az hCC 21 1 (.slice (some ⟨b,off,none⟩) l.length cap) (fun n hn=>?_) CW ?_
   ·go_simp
   simp only [pD,pB,pC];refine az hCC 22 2 (.int .i64 (k:Int)) (fun n hn=>?_) CW ?_
   ·go_simp
   simp only [pD,pB,pC];refine az hCC 23 3 (.pointer (some ⟨b,off+k*4,none⟩)) (fun n hn=>?_) CW ?_
   ·go_simp
   simp only [pD,pB,pC];refine az hCC 24 4 (.agg #[.int .i64 l[k].1.1,.int .i64 l[k].1.2.1,.string l[k].1.2.2,.int .i64 l[k].2]) (fun n hn=>?_) CW ?_
   ·obtain ⟨b2,off2,e2,_,d0,d1,d2,d3⟩:=hn.1.elem hlt;injection e2 with e2
    injection e2 with e21 e22 _
    subst e21 e22;go_simp
   simp only [pD,pB,pC];refine az hCC 25 5 (.agg #[.int .i64 mv.1.1,.int .i64 mv.1.2.1,.string mv.1.2.2,.int .i64 mv.2]) (fun n hn=>?_) CW ?_
   ·obtain ⟨n0,n1,n2,n3,_,_⟩:=hn.2;go_simp
   simp only [pD,pB,pC];refine bD 6 ?_;intro w3 hb3
   have CW3:=hCC _ _ CW hb3;have con:=hd l[k] mv w3;generalize hcm:dY l[k].1.1 l[k].1.2.1 l[k].1.2.2 mv.1.1 mv.1.2.1 mv.1.2.2=cm at con;have HCm:Hid (dI l[k].1 mv.1=cm):=hcm;clear hcm;refine wpOp_step rfl (fun K hK=>?_);go_simp
   first | (refine con.mono ?_) | (go_at_fn g; refine con.mono ?_)
   rintro e w4 ⟨rfl,hb4⟩;clear con;have CW4:=hCC _ _ CW3 hb4;refine hK _ _ ⟨CW4,?_⟩;clear hK K CW3;refine az hCC 27 7 (.bool (decide (cm<0))) (fun n hn=>?_) CW4 ?_
   ·go_simp
   simp only [pD,pB,pC];refine bo (by kernel_rfl) ?_;intro w7 hb7;have D7:=chain hdr (chain hb3 (chain hb4 hb7));have hB7:=chain hb D7;obtain ⟨S7,VM7⟩:=hCC _ _ CW4 hb7;have VR7:=VR.next D7;clear CW CW4 hCC hb3 hb4 hb7 VM VR;by_cases hc:cm<0
   ·have hg:decide (cm<0)=true:=decide_eq_true hc;rw [hg];have HM':Hid (l[k]=jh (l.take (k+1))):=by show _=_; rw [HT.out,← HM.out,HCm.out,if_pos hc]
    obtain ⟨b2,off2,e2,_,d0,d1,d2,d3⟩:=S7.elem hlt;injection e2 with e2
    injection e2 with e21 e22 _
    subst e21 e22;have VS:=VM7.put l[k];have VRS:=VR7.GN w0.heap.size l[k] (by omega);obtain ⟨n0,n1,n2,n3,nf,nl⟩:=VM7;have nf0:=nf 0;have nf1:=nf 1;have nf2:=nf 2;have nf3:=nf 3;clear hc HM D7;go_wp2
    go_roundw
    case rel=>exact ⟨k+1,l[k],by omega,by omega,by go_num,VS,VRS,HM',(((hB7.setCell (p:=⟨w0.heap.size,0,none⟩) (by show _≤w0.heap.size; omega) _).setCell (p:=⟨w0.heap.size,1,none⟩) (by show _≤w0.heap.size; omega) _).setCell (p:=⟨w0.heap.size,2,none⟩) (by show _≤w0.heap.size; omega) _).setCell (p:=⟨w0.heap.size,3,none⟩) (by show _≤w0.heap.size; omega) _⟩
    case measure=>simp [intOf]; omega
   ·have hg:decide (cm<0)=false:=decide_eq_false hc;rw [hg];have HM':Hid (mv=jh (l.take (k+1))):=by show _=_; rw [HT.out,← HM.out,HCm.out,if_neg hc]
    clear hc HM D7 S7;go_wp2
    go_roundw
    case rel=>exact ⟨k+1,mv,by omega,by omega,by go_num,VM7,VR7,HM',hB7⟩
    case measure=>simp [intOf]; omega
  ·have e:k=l.length:=by omega
   subst e;have er:mv=res:=by rw [HM.out,MB,HRes.out]
   subst er;obtain ⟨m0,m1,m2,m3,_,_⟩:=VM;have VS:=VR.put mv;obtain ⟨n0,n1,n2,n3,nf,nl⟩:=VR;have nf0:=nf 0;have nf1:=nf 1;have nf2:=nf 2;have nf3:=nf 3;obtain ⟨s0,s1,s2,s3,_,_⟩:=VS;clear HM;go_wp2
   exact Me (v:=.agg #[.int .i64 mv.1.1,.int .i64 mv.1.2.1,.string mv.1.2.2,.int .i64 mv.2]) (by simp [results,Tryz.results180,go_sem,s0,s1,s2,s3]) rfl ⟨rfl,(((hb.setCell (p:=⟨w.heap.size,0,none⟩) (Mc _) _).setCell (p:=⟨w.heap.size,1,none⟩) (Mc _) _).setCell (p:=⟨w.heap.size,2,none⟩) (Mc _) _).setCell (p:=⟨w.heap.size,3,none⟩) (Mc _) _⟩
def jm:List Wp→Wp
 | []=>(eD,0)
 | p :: r=>r.foldl (fun m x=>if 0<dI x.1 m.1 then x else m) p
theorem CA {l:List Wp} {i:Nat} (h0:0<i) (h:i<l.length):jm (l.take (i+1))=if 0<dI l[i].1 (jm (l.take i)).1 then l[i] else jm (l.take i):=by
 rw [Mp h]
 match l,i,h0,h with
 | p :: r,i+1,_,h =>
  simp only [List.take_succ_cons,M8,jm,List.foldl_append,Nl,List.foldl_nil];rfl
theorem FP {l:List Wp} (h:0<l.length):jm (l.take 1)=l[0]:=by
 match l,h with
 | p :: r,_=>rfl
theorem Ft:∀ (l:List Wp),0<l.length→(jm l).1=Hj l
 | p :: r,_=>by
  unfold jm Hj
  have aux:∀ (r:List Wp) (p:Wp),(r.foldl (fun m x=>if 0<dI x.1 m.1 then x else m) p).1=r.foldl (fun m x=>if 0<dI x.1 m then x.1 else m) p.1:=by
   intro r
   induction r with
   | nil=>intro p; rfl
   | cons x t ih =>
    intro p;rw [Nl,Nl,ih];by_cases c:0<dI x.1 p.1
    ·rw [if_pos c,if_pos c]
    ·rw [if_neg c,if_neg c]
  exact aux r p
theorem yS (g:Nat) (eg:∀ args w,(callFunc g args).run Tryz.prog w = .ok (.enter g args) w) (hd:∀ (x y:Wp) (W:World),Calls Tryz.prog g #[.agg #[.int .i64 x.1.1,.int .i64 x.1.2.1,.string x.1.2.2,.int .i64 x.2],.agg #[.int .i64 y.1.1,.int .i64 y.1.2.1,.string y.1.2.2,.int .i64 y.2]] W fun e w'=>e = .returned (.int .i64 (dY x.1.1 x.1.2.1 x.1.2.2 y.1.1 y.1.2.1 y.1.2.2))∧Below W.heap.size W w') (a:Option Addr) (cap:Nat) (l:List Wp) (w:World) (h:jk w a l) (h0:0<l.length) (hl:l.length≤400) :
  Calls Tryz.prog 182 #[.slice a l.length cap,.func (.func g) #[] #[]] w fun e w'=>e = .returned (.agg #[.int .i64 (jm l).1.1,.int .i64 (jm l).1.2.1,.string (jm l).1.2.2,.int .i64 (jm l).2])∧Below w.heap.size w w':=by
 have hal:=aa w (.cells #[.int .i64 0,.int .i64 0,.string ⟨#[]⟩,.int .i64 0] 202);have V0:fI (w.alloc (.cells #[.int .i64 0,.int .i64 0,.string ⟨#[]⟩,.int .i64 0] 202)) w.heap.size (eD,0):=fI.new w (eD,0) 202;obtain ⟨b,off,rfl,hbl,c0,c1,c2,c3⟩:=(h.next hal).elem h0;have z0:(w.alloc (.cells #[.int .i64 0,.int .i64 0,.string ⟨#[]⟩,.int .i64 0] 202)).heap.size > w.heap.size:=by simp
 generalize hres:jm l=res;have HRes:Hid (jm l=res):=hres;clear hres;simp only [Nv,Ng] at c0 c1 c2 c3;have hn1:¬ (l.length:Int)<1:=by omega
 have hp:(0:Int)<(l.length:Int):=by omega
 go_enter Tryz.func182,Tryz.ntmps182;go_upto_region 3 with fail
 generalize w.alloc (.cells #[.int .i64 0,.int .i64 0,.string ⟨#[]⟩,.int .i64 0] 202)=w0 at *;have hal1:=aa w0 (.cells #[.int .i64 l[0].1.1,.int .i64 l[0].1.2.1,.string l[0].1.2.2,.int .i64 l[0].2] 202);have V1:fI (w0.alloc (.cells #[.int .i64 l[0].1.1,.int .i64 l[0].1.2.1,.string l[0].1.2.2,.int .i64 l[0].2] 202)) w0.heap.size l[0]:=fI.new w0 l[0] 202;have V0':=V0.next hal1;go_upto_region 4 with fail
 clear c0 c1 c2 c3 V0;have hA1:=chain hal hal1;generalize w0.alloc (.cells #[.int .i64 l[0].1.1,.int .i64 l[0].1.2.1,.string l[0].1.2.2,.int .i64 l[0].2] 202)=w1 at *;go_wp2_with fail
 go_loopw [6] (fun i wr=>∃ (k:Nat) (mv:Wp),0<k∧k≤l.length∧i = .int .i64 k∧fI wr w0.heap.size mv∧fI wr w.heap.size (eD,0)∧Hid (mv=jm (l.take k))∧Below w.heap.size w wr) (fun i _=>l.length - (intOf i).toNat)
 case atStart=>exact ⟨1,l[0],by omega,by omega,rfl,V1,V0',(FP h0).symm,hA1⟩
 case round =>
  clear V1 V0' hA1 hal1;obtain ⟨k,mv,hk0,hk,rfl,VM,VR,HM,hb⟩:=hrel;by_cases hlt:k<l.length
  ·obtain ⟨b',off',e',hbl',c0,c1,c2,c3⟩:=(h.next hb).elem hlt;have HT:Hid (jm (l.take (k+1))=if 0<dI l[k].1 (jm (l.take k)).1 then l[k] else jm (l.take k)):=CA hk0 hlt;injection e' with e'
   injection e' with e1 e2 _
   subst e1 e2;have k0:(0:Int)≤(k:Int):=by omega
   have k1:(k:Int)<(l.length:Int):=by omega
   clear c0 c1 c2 c3;have hCC:∀ W W':World,(jk W (some ⟨b,off,none⟩) l∧fI W w0.heap.size mv)→Below W.heap.size W W'→(jk W' (some ⟨b,off,none⟩) l∧fI W' w0.heap.size mv):=fun W W' h hb=>⟨h.1.next hb,h.2.next hb⟩
   have hdr:Below wr.heap.size wr wr.drew:=(Md _ _).drew;have CW:(jk wr.drew (some ⟨b,off,none⟩) l∧fI wr.drew w0.heap.size mv):=hCC _ _ ⟨h.next hb,VM⟩ hdr;go_upto_region 7 with fail
   refine aH (fun W=>(jk W (some ⟨b,off,none⟩) l∧fI W w0.heap.size mv)) (by kernel_rfl) ?_;refine az hCC 20 0 (.func (.func g) #[] #[]) (fun n hn=>?_) CW ?_
   ·go_simp
   simp only [pD,pB,pC];refine az hCC 21 1 (.slice (some ⟨b,off,none⟩) l.length cap) (fun n hn=>?_) CW ?_
   ·go_simp
   simp only [pD,pB,pC];refine az hCC 22 2 (.int .i64 (k:Int)) (fun n hn=>?_) CW ?_
   ·go_simp
   simp only [pD,pB,pC];refine az hCC 23 3 (.pointer (some ⟨b,off+k*4,none⟩)) (fun n hn=>?_) CW ?_
   ·go_simp
   simp only [pD,pB,pC];refine az hCC 24 4 (.agg #[.int .i64 l[k].1.1,.int .i64 l[k].1.2.1,.string l[k].1.2.2,.int .i64 l[k].2]) (fun n hn=>?_) CW ?_
   ·obtain ⟨b2,off2,e2,_,d0,d1,d2,d3⟩:=hn.1.elem hlt;injection e2 with e2
    injection e2 with e21 e22 _
    subst e21 e22;go_simp
   simp only [pD,pB,pC];refine az hCC 25 5 (.agg #[.int .i64 mv.1.1,.int .i64 mv.1.2.1,.string mv.1.2.2,.int .i64 mv.2]) (fun n hn=>?_) CW ?_
   ·obtain ⟨n0,n1,n2,n3,_,_⟩:=hn.2;go_simp
   simp only [pD,pB,pC];refine bD 6 ?_;intro w3 hb3
   have CW3:=hCC _ _ CW hb3;have con:=hd l[k] mv w3;generalize hcm:dY l[k].1.1 l[k].1.2.1 l[k].1.2.2 mv.1.1 mv.1.2.1 mv.1.2.2=cm at con;have HCm:Hid (dI l[k].1 mv.1=cm):=hcm;clear hcm;refine wpOp_step rfl (fun K hK=>?_);go_simp
   first | (refine con.mono ?_) | (go_at_fn g; refine con.mono ?_)
   rintro e w4 ⟨rfl,hb4⟩;clear con;have CW4:=hCC _ _ CW3 hb4;refine hK _ _ ⟨CW4,?_⟩;clear hK K CW3;refine az hCC 27 7 (.bool (decide (0<cm))) (fun n hn=>?_) CW4 ?_
   ·go_simp
   simp only [pD,pB,pC];refine bo (by kernel_rfl) ?_;intro w7 hb7;have D7:=chain hdr (chain hb3 (chain hb4 hb7));have hB7:=chain hb D7;obtain ⟨S7,VM7⟩:=hCC _ _ CW4 hb7;have VR7:=VR.next D7;clear CW CW4 hCC hb3 hb4 hb7 VM VR;by_cases hc:0<cm
   ·have hg:decide (0<cm)=true:=decide_eq_true hc;rw [hg];have HM':Hid (l[k]=jm (l.take (k+1))):=by show _=_; rw [HT.out,← HM.out,HCm.out,if_pos hc]
    obtain ⟨b2,off2,e2,_,d0,d1,d2,d3⟩:=S7.elem hlt;injection e2 with e2
    injection e2 with e21 e22 _
    subst e21 e22;have VS:=VM7.put l[k];have VRS:=VR7.GN w0.heap.size l[k] (by omega);obtain ⟨n0,n1,n2,n3,nf,nl⟩:=VM7;have nf0:=nf 0;have nf1:=nf 1;have nf2:=nf 2;have nf3:=nf 3;clear hc HM D7;go_wp2
    go_roundw
    case rel=>exact ⟨k+1,l[k],by omega,by omega,by go_num,VS,VRS,HM',(((hB7.setCell (p:=⟨w0.heap.size,0,none⟩) (by show _≤w0.heap.size; omega) _).setCell (p:=⟨w0.heap.size,1,none⟩) (by show _≤w0.heap.size; omega) _).setCell (p:=⟨w0.heap.size,2,none⟩) (by show _≤w0.heap.size; omega) _).setCell (p:=⟨w0.heap.size,3,none⟩) (by show _≤w0.heap.size; omega) _⟩
    case measure=>simp [intOf]; omega
   ·have hg:decide (0<cm)=false:=decide_eq_false hc;rw [hg];have HM':Hid (mv=jm (l.take (k+1))):=by show _=_; rw [HT.out,← HM.out,HCm.out,if_neg hc]
    clear hc HM D7 S7;go_wp2
    go_roundw
    case rel=>exact ⟨k+1,mv,by omega,by omega,by go_num,VM7,VR7,HM',hB7⟩
    case measure=>simp [intOf]; omega
  ·have e:k=l.length:=by omega
   subst e;have er:mv=res:=by rw [HM.out,MB,HRes.out]
   subst er;obtain ⟨m0,m1,m2,m3,_,_⟩:=VM;have VS:=VR.put mv;obtain ⟨n0,n1,n2,n3,nf,nl⟩:=VR;have nf0:=nf 0;have nf1:=nf 1;have nf2:=nf 2;have nf3:=nf 3;obtain ⟨s0,s1,s2,s3,_,_⟩:=VS;clear HM;go_wp2
   exact Me (v:=.agg #[.int .i64 mv.1.1,.int .i64 mv.1.2.1,.string mv.1.2.2,.int .i64 mv.2]) (by simp [results,Tryz.results182,go_sem,s0,s1,s2,s3]) rfl ⟨rfl,(((hb.setCell (p:=⟨w.heap.size,0,none⟩) (Mc _) _).setCell (p:=⟨w.heap.size,1,none⟩) (Mc _) _).setCell (p:=⟨w.heap.size,2,none⟩) (Mc _) _).setCell (p:=⟨w.heap.size,3,none⟩) (Mc _) _⟩
theorem GC:oI 151 (fH 4):=by
 intro l a cap W hk h0 h;have eT:fH 4 l=(jh l).1:=by rw [Gk l h0]; simp [fH]
 rw [eT];have hal:=aa W (.cells #[.int .i64 0,.int .i64 0,.string ⟨#[]⟩] 24);have q0:=ak W #[.int .i64 0,.int .i64 0,.string ⟨#[]⟩] 24;have con:=xV 181 (enters_of Tryz.func181 (by kernel_rfl) rfl) qB a cap l _ (h.next hal) h0 hk.len;generalize jh l=res at *;unfold fW;clear eT;go_enter Tryz.func151,Tryz.ntmps151;go_wp2_with fail
 generalize W.alloc (.cells #[.int .i64 0,.int .i64 0,.string ⟨#[]⟩] 24)=w0 at *;refine con.mono ?_;rintro e w2 ⟨rfl,hb2⟩;clear con;have q2:=(hb2.block _ (ae q0)).trans q0;have d0:w2.cell? ⟨W.heap.size,0,none⟩=some (.int .i64 0):=cell_of (i:=0) q2 rfl;have d1:w2.cell? ⟨W.heap.size,1,none⟩=some (.int .i64 0):=cell_of (i:=1) q2 rfl;have d2:w2.cell? ⟨W.heap.size,2,none⟩=some (.string ⟨#[]⟩):=cell_of (i:=2) q2 rfl;have f0:w2.frozen? ⟨W.heap.size,0,none⟩=false:=Mg w2 W.heap.size 0 _ _ q2;have f1:w2.frozen? ⟨W.heap.size,1,none⟩=false:=Mg w2 W.heap.size 1 _ _ q2
 have f2:w2.frozen? ⟨W.heap.size,2,none⟩=false:=Mg w2 W.heap.size 2 _ _ q2;have hA2:=chain hal hb2;have hfw:=Av (.int .i64 res.1.1) (.int .i64 res.1.2.1) (.string res.1.2.2) (.int .i64 res.2) w2;dsimp only;go_wp2
 exact Me (v:=.agg #[.int .i64 res.1.1,.int .i64 res.1.2.1,.string res.1.2.2]) (by simp [results,Tryz.results151,go_sem,d0,d1,d2]) rfl ⟨rfl,((hA2.setCell (p:=⟨W.heap.size,0,none⟩) (Mc _) _).setCell (p:=⟨W.heap.size,1,none⟩) (Mc _) _).setCell (p:=⟨W.heap.size,2,none⟩) (Mc _) _⟩
theorem vQ:oI 152 (fH 5):=by
 intro l a cap W hk h0 h;have eT:fH 5 l=(jm l).1:=by rw [Ft l h0]; simp [fH]
 rw [eT];have hal:=aa W (.cells #[.int .i64 0,.int .i64 0,.string ⟨#[]⟩] 24);have q0:=ak W #[.int .i64 0,.int .i64 0,.string ⟨#[]⟩] 24;have con:=yS 181 (enters_of Tryz.func181 (by kernel_rfl) rfl) qB a cap l _ (h.next hal) h0 hk.len;generalize jm l=res at *;unfold fW;clear eT;go_enter Tryz.func152,Tryz.ntmps152;go_wp2_with fail
 generalize W.alloc (.cells #[.int .i64 0,.int .i64 0,.string ⟨#[]⟩] 24)=w0 at *;refine con.mono ?_;rintro e w2 ⟨rfl,hb2⟩;clear con;have q2:=(hb2.block _ (ae q0)).trans q0;have d0:w2.cell? ⟨W.heap.size,0,none⟩=some (.int .i64 0):=cell_of (i:=0) q2 rfl;have d1:w2.cell? ⟨W.heap.size,1,none⟩=some (.int .i64 0):=cell_of (i:=1) q2 rfl;have d2:w2.cell? ⟨W.heap.size,2,none⟩=some (.string ⟨#[]⟩):=cell_of (i:=2) q2 rfl;have f0:w2.frozen? ⟨W.heap.size,0,none⟩=false:=Mg w2 W.heap.size 0 _ _ q2;have f1:w2.frozen? ⟨W.heap.size,1,none⟩=false:=Mg w2 W.heap.size 1 _ _ q2
 have f2:w2.frozen? ⟨W.heap.size,2,none⟩=false:=Mg w2 W.heap.size 2 _ _ q2;have hA2:=chain hal hb2;have hfw:=Av (.int .i64 res.1.1) (.int .i64 res.1.2.1) (.string res.1.2.2) (.int .i64 res.2) w2;dsimp only;go_wp2
 exact Me (v:=.agg #[.int .i64 res.1.1,.int .i64 res.1.2.1,.string res.1.2.2]) (by simp [results,Tryz.results152,go_sem,d0,d1,d2]) rfl ⟨rfl,((hA2.setCell (p:=⟨W.heap.size,0,none⟩) (Mc _) _).setCell (p:=⟨W.heap.size,1,none⟩) (Mc _) _).setCell (p:=⟨W.heap.size,2,none⟩) (Mc _) _⟩
theorem J6:gj 4:=Cs GC
theorem JR:gj 5:=CQ vQ
def px:List Wp→Int
 | []=>0
 | p :: r=>p.2*(p.1.2.1.tdiv 100000000)+px r
def pg:List Wp→Int
 | []=>0
 | p :: r=>p.2*(p.1.2.1.tmod 100000000)+pg r
theorem Dy {l:List Wp} {k:Nat} (h:k<l.length):px (l.take (k+1))=px (l.take k)+l[k].2*(l[k].1.2.1.tdiv 100000000):=by
 have aux:∀ (l:List Wp) (p:Wp),px (l ++ [p])=px l+p.2*(p.1.2.1.tdiv 100000000):=by
  intro l p
  induction l with
  | nil=>simp [px]
  | cons q r ih=>rw [M8,px,px,ih]; omega
 rw [Mp h,aux]
theorem Cl {l:List Wp} {k:Nat} (h:k<l.length):pg (l.take (k+1))=pg (l.take k)+l[k].2*(l[k].1.2.1.tmod 100000000):=by
 have aux:∀ (l:List Wp) (p:Wp),pg (l ++ [p])=pg l+p.2*(p.1.2.1.tmod 100000000):=by
  intro l p
  induction l with
  | nil=>simp [pg]
  | cons q r ih=>rw [M8,pg,pg,ih]; omega
 rw [Mp h,aux]
theorem Jp:∀ l:List Wp,px l*100000000+pg l=qz l
 | []=>rfl
 | p :: r=>by
  have ih:=Jp r
  have e:=Int.mul_tdiv_add_tmod p.1.2.1 100000000
  rw [px,pg,qz,← ih]
  conv=>rhs; rw [← e]
  rw [Int.mul_add,Int.add_mul,Int.mul_assoc p.2,Int.mul_comm (Int.tdiv _ _) 100000000]
  omega
theorem Ap {n:Int} (h:-1000000000000000≤n∧n≤1000000000000000):-10000000≤n.tdiv 100000000∧n.tdiv 100000000≤10000000:=by
 by_cases h0:0≤n
 ·rw [Int.tdiv_eq_ediv_of_nonneg h0]; omega
 ·have e:=Int.neg_tdiv (-n) 100000000;rw [Int.neg_neg] at e;rw [e,Int.tdiv_eq_ediv_of_nonneg (by omega)];omega
theorem Bf {n:Int}:-100000000≤n.tmod 100000000∧n.tmod 100000000≤100000000:=by
 by_cases h0:0≤n
 ·rw [Int.tmod_eq_emod_of_nonneg h0]; omega
 ·have e:=Int.neg_tmod (-n) 100000000;rw [Int.neg_neg] at e;rw [e,Int.tmod_eq_emod_of_nonneg (by omega)];omega
theorem EM {n:Int}:-100000000<n.tmod 100000000∧n.tmod 100000000<100000000:=by
 by_cases h0:0≤n
 ·rw [Int.tmod_eq_emod_of_nonneg h0]; omega
 ·have e:=Int.neg_tmod (-n) 100000000;rw [Int.neg_neg] at e;rw [e,Int.tmod_eq_emod_of_nonneg (by omega)];omega
theorem ET {x w B:Int} (h:0≤w∧w≤1000000) (hx:-B≤x∧x≤B) (hB:0≤B):-(1000000*B)≤w*x∧w*x≤1000000*B:=by
 constructor
 ·have h1:w*(-B)≤w*x:=Int.mul_le_mul_of_nonneg_left hx.1 h.1;have h2:w*B≤1000000*B:=Int.mul_le_mul_of_nonneg_right h.2 hB;rw [Int.mul_neg] at h1;omega
 ·have h1:w*x≤w*B:=Int.mul_le_mul_of_nonneg_left hx.2 h.1;have h2:w*B≤1000000*B:=Int.mul_le_mul_of_nonneg_right h.2 hB;omega
theorem J4:oI 150 (fH 3):=by
 intro l a cap W hok hl0 h;have eT:fH 3 l=if nM (qz l)=true then (3,qz l,⟨#[]⟩) else (1,0,⟨#[]⟩):=by
  have:¬ l = []:=by intro e; rw [e] at hl0; simp at hl0
  simp only [fH,if_true,Kh];rw [if_neg this]
 have hl:=hok.len;have HK:=aw hok;generalize hres:fH 3 l=res;have HRes:Hid (res=if nM (qz l)=true then (3,qz l,⟨#[]⟩) else (1,0,⟨#[]⟩)):=by show _=_; rw [← hres]; exact eT
 clear hok eT hres hl0;have hal0:=aa W (.cells #[.int .i64 0,.int .i64 0,.string ⟨#[]⟩] 24);have q00:=ak W #[.int .i64 0,.int .i64 0,.string ⟨#[]⟩] 24;unfold fW;go_enter Tryz.func150,Tryz.ntmps150;go_wp2_with fail
 generalize W.alloc (.cells #[.int .i64 0,.int .i64 0,.string ⟨#[]⟩] 24)=w0 at *;go_loopw [3,4,9] (fun vu vv i wr=>∃ (k:Nat) (u v:Int),k≤l.length∧i = .int .i64 k∧vu = .int .i64 u∧vv = .int .i64 v∧Hid (u=px (l.take k)∧v=pg (l.take k)) ∧ -(10000000000000*(k:Int))≤u∧u≤10000000000000*(k:Int) ∧ -(100000000000000*(k:Int))≤v∧v≤100000000000000*(k:Int)∧Below w0.heap.size w0 wr) (fun _ _ i _=>l.length - (intOf i).toNat)
 case atStart=>exact ⟨0,0,0,Mj _,rfl,rfl,rfl,⟨rfl,rfl⟩,by omega,by omega,by omega,by omega,Md _ _⟩
 case round =>
  obtain ⟨k,u,v,hk,rfl,rfl,rfl,HN,hu0,hu1,hv0,hv1,hb⟩:=hrel;have hA:=chain hal0 hb;by_cases hlt:k<l.length
  ·obtain ⟨b,off,rfl,hbl,c0,c1,c2,c3⟩:=(h.next hA).elem hlt;have hw:=HK.out.wt _ (Mk hlt);have hn:=JT (HK.out.right _ (Mk hlt)) (HK.out.num _ (Mk hlt));have hal:=aa wr (.cells #[.int .i64 l[k].1.1,.int .i64 l[k].1.2.1,.string l[k].1.2.2,.int .i64 l[k].2] 202);have b1:=ET hw (Ap hn) (by decide);have b2:=ET hw (Bf (n:=l[k].1.2.1)) (by decide)
   have HN':Hid (u+l[k].2*(l[k].1.2.1.tdiv 100000000)=px (l.take (k+1))∧v+l[k].2*(l[k].1.2.1.tmod 100000000)=pg (l.take (k+1))):=⟨by rw [Dy hlt,HN.out.1],by rw [Cl hlt,HN.out.2]⟩
   have t1:=Ap hn;have t2:=Bf (n:=l[k].1.2.1);have hW1:IntKind.i64.wrap (l[k].2*(l[k].1.2.1.tdiv 100000000))=l[k].2*(l[k].1.2.1.tdiv 100000000):=IntWalk.i64_in _ ⟨by omega,by omega⟩;have hW2:IntKind.i64.wrap (l[k].2*(l[k].1.2.1.tmod 100000000))=l[k].2*(l[k].1.2.1.tmod 100000000):=IntWalk.i64_in _ ⟨by omega,by omega⟩;have hW3:IntKind.i64.wrap (u+l[k].2*(l[k].1.2.1.tdiv 100000000))=u+l[k].2*(l[k].1.2.1.tdiv 100000000):=IntWalk.i64_in _ ⟨by omega,by omega⟩
   have hW4:IntKind.i64.wrap (v+l[k].2*(l[k].1.2.1.tmod 100000000))=v+l[k].2*(l[k].1.2.1.tmod 100000000):=IntWalk.i64_in _ ⟨by omega,by omega⟩;have hW5:IntKind.i64.wrap (l[k].1.2.1.tdiv 100000000)=l[k].1.2.1.tdiv 100000000:=IntWalk.i64_in _ ⟨by omega,by omega⟩;have hW6:IntKind.i64.wrap (l[k].1.2.1.tmod 100000000)=l[k].1.2.1.tmod 100000000:=IntWalk.i64_in _ ⟨by omega,by omega⟩;go_wp2_with fail
   go_roundw
   case rel=>exact ⟨k+1,u+l[k].2*(l[k].1.2.1.tdiv 100000000),v+l[k].2*(l[k].1.2.1.tmod 100000000),by omega,by go_num,rfl,rfl,HN',by omega,by omega,by omega,by omega,chain hb hal⟩
   case measure=>simp [intOf]; omega
  ·have e:k=l.length:=by omega
   subst e;have es:qz l=u*100000000+v:=by
    have:=HN.out;rw [MB] at this;rw [this.1,this.2,Jp]
   have ev:=Int.mul_tdiv_add_tmod v 100000000;have vb:=EM (n:=v);have hn4:(l.length:Int)≤400:=by omega
   generalize hq:v.tdiv 100000000=vq at *;generalize hm:v.tmod 100000000=vm at *;have hs:qz l=(u+vq)*100000000+vm:=by omega
   have hW5:IntKind.i64.wrap vq=vq:=IntWalk.i64_in _ ⟨by omega,by omega⟩;have hW6:IntKind.i64.wrap vm=vm:=IntWalk.i64_in _ ⟨by omega,by omega⟩;have hW7:IntKind.i64.wrap (u+vq)=u+vq:=IntWalk.i64_in _ ⟨by omega,by omega⟩;generalize hu:u+vq=u2 at *;have HS:=aw hs;clear HN es hs ev;by_cases ho:u2 < -10000001∨10000001<u2
   ·have er:res=(1,0,⟨#[]⟩):=by
     rw [HRes.out,HS.out];have:nM (u2*100000000+vm)=false:=by simp [nM]; omega
     rw [this]; rfl
    subst er;clear HRes HS;by_cases ho1:u2 < -10000001;rotate_left;have ho2:10000001<u2:=by omega
    all_goals
     go_wp2_with fail
     refine (dN wr).mono ?_;rintro e w2 ⟨rfl,hb2⟩;have q2:=((chain hb hb2).block _ (ae q00)).trans q00;have d0:w2.cell? ⟨W.heap.size,0,none⟩=some (.int .i64 0):=cell_of (i:=0) q2 rfl;have d1:w2.cell? ⟨W.heap.size,1,none⟩=some (.int .i64 0):=cell_of (i:=1) q2 rfl;have d2:w2.cell? ⟨W.heap.size,2,none⟩=some (.string ⟨#[]⟩):=cell_of (i:=2) q2 rfl;have f0:w2.frozen? ⟨W.heap.size,0,none⟩=false:=Mg w2 W.heap.size 0 _ _ q2;have f1:w2.frozen? ⟨W.heap.size,1,none⟩=false:=Mg w2 W.heap.size 1 _ _ q2
     have f2:w2.frozen? ⟨W.heap.size,2,none⟩=false:=Mg w2 W.heap.size 2 _ _ q2;have hA2:=chain hA hb2;dsimp only;go_wp2_with fail
     exact Me (v:=.agg #[.int .i64 1,.int .i64 0,.string ⟨#[]⟩]) (by simp [results,Tryz.results150,go_sem,d0,d1,d2]) rfl ⟨rfl,((hA2.setCell (p:=⟨W.heap.size,0,none⟩) (Mc _) _).setCell (p:=⟨W.heap.size,1,none⟩) (Mc _) _).setCell (p:=⟨W.heap.size,2,none⟩) (Mc _) _⟩
   ·have ho1:¬ u2 < -10000001:=fun h=>ho (.inl h)
    have ho2:¬ 10000001<u2:=fun h=>ho (.inr h)
    have hW8:IntKind.i64.wrap (u2*100000000)=u2*100000000:=IntWalk.i64_in _ ⟨by omega,by omega⟩;have hW9:IntKind.i64.wrap (u2*100000000+vm)=u2*100000000+vm:=IntWalk.i64_in _ ⟨by omega,by omega⟩;have con:Calls Tryz.prog 179 #[.int .i64 (u2*100000000+vm)] wr fun e w'=>e = .returned (.agg #[.int .i64 res.1,.int .i64 res.2.1,.string res.2.2])∧Below wr.heap.size wr w':=by
     rw [HRes.out,HS.out];cases hi:nM (u2*100000000+vm) with
     | true=>exact zO _ wr hi
     | false=>exact Aw _ wr hi
    clear HRes HS ho;generalize hS:u2*100000000+vm=s at *;go_wp2_with fail
    refine con.mono ?_;rintro e w2 ⟨rfl,hb2⟩;clear con;have q2:=((chain hb hb2).block _ (ae q00)).trans q00;have d0:w2.cell? ⟨W.heap.size,0,none⟩=some (.int .i64 0):=cell_of (i:=0) q2 rfl;have d1:w2.cell? ⟨W.heap.size,1,none⟩=some (.int .i64 0):=cell_of (i:=1) q2 rfl;have d2:w2.cell? ⟨W.heap.size,2,none⟩=some (.string ⟨#[]⟩):=cell_of (i:=2) q2 rfl;have f0:w2.frozen? ⟨W.heap.size,0,none⟩=false:=Mg w2 W.heap.size 0 _ _ q2;have f1:w2.frozen? ⟨W.heap.size,1,none⟩=false:=Mg w2 W.heap.size 1 _ _ q2
    have f2:w2.frozen? ⟨W.heap.size,2,none⟩=false:=Mg w2 W.heap.size 2 _ _ q2;have hA2:=chain hA hb2;dsimp only;go_wp2_with fail
    exact Me (v:=.agg #[.int .i64 res.1,.int .i64 res.2.1,.string res.2.2]) (by simp [results,Tryz.results150,go_sem,d0,d1,d2]) rfl ⟨rfl,((hA2.setCell (p:=⟨W.heap.size,0,none⟩) (Mc _) _).setCell (p:=⟨W.heap.size,1,none⟩) (Mc _) _).setCell (p:=⟨W.heap.size,2,none⟩) (Mc _) _⟩
theorem JA:gj 3:=BL J4
theorem sD (k:Int):gj k:=by
 by_cases h3:k=3
 ·subst h3; exact JA
 by_cases h4:k=4
 ·subst h4; exact J6
 by_cases h5:k=5
 ·subst h5; exact JR
 exact Cv k h3 h4 h5
theorem qI {k:Int} {n:Nat} {m d:Int} (h:60<m∨15<d):dX k n m d=4:=by simp [dX,h]
theorem qH {k:Int} {n:Nat} {m d:Int} (h:¬ 60<m) (h':¬ 15<d) (h2:k<1∨13<k):dX k n m d=1:=by simp [dX,h,h',h2]
theorem zZ {k:Int} {n:Nat} {m d:Int} (h:¬ 60<m) (h':¬ 15<d) (h2:¬ k<1) (h3:¬ 13<k) (h4:¬ n=dD k):dX k n m d=5:=by simp [dX,h,h',h2,h3,h4]
theorem Fg {k:Int} {n:Nat} {m d:Int} (h:¬ 60<m) (h':¬ 15<d) (h2:¬ k<1) (h3:¬ 13<k) (h4:n=dD k):dX k n m d=0:=by simp [dX,h,h',h2,h3,h4]
theorem rQ (p:Pl) (q:Pw) (m d:Int) (w:World):Calls Tryz.prog 40 #[gR p q,.int .i64 m,.int .i64 d] w fun e w'=>e = .returned (.int .i64 (dX p.k p.ks.length m d))∧Below w.heap.size w w':=by
 unfold gR;by_cases h1:60<m;rw [qI (.inl h1)];rotate_left;by_cases h2:15<d;rw [qI (.inr h2)];rotate_left;by_cases h3:p.k<1;rw [qH h1 h2 (.inl h3)];rotate_left;by_cases h4:13<p.k;rw [qH h1 h2 (.inr h4)];rotate_left;obtain ⟨qb,hq,hn⟩:∃ qb:Bool,((p.ks.length:Int) != ((dD p.k:Nat):Int))=qb∧dX p.k p.ks.length m d=if qb then 5 else 0:=by
  by_cases h5:p.ks.length=dD p.k
  ·exact ⟨false,by simp [h5],by rw [Fg h1 h2 h3 h4 h5]; rfl⟩
  ·exact ⟨true,by simp; omega,by rw [zZ h1 h2 h3 h4 h5]; rfl⟩
 rw [hn];clear hn;have hA:Below w.heap.size w (w.alloc (.cells (dS p q) 31)):=((Md _ _).alloc (Mc _) _)
 have E:=iA.new w p q 31;go_enter Tryz.func40,Tryz.ntmps40;go_wp2_with fail
 generalize w.alloc (.cells (dS p q) 31)=wA at *;have p0:=aq E.c0;have p10:=aq E.eM;simp only [Mq] at p10;haveI:Nonempty (dG wA):=⟨⟨_,Md _ _⟩⟩
 refine aI (by kernel_rfl) (by kernel_rfl) ?_
 repeat (go_big_quiet_step (first | (go_at_call 65; exact du (zY _ _))))
 refine wpQuiet_nil ?_;rintro w3 ⟨⟨v3,hb3⟩,h3'⟩;obtain rfl:w3=v3:=h3';have hb:=chain hA hb3;clear p0 p10 E hA hb3;cases qb
 ·go_wp2_with fail
  go_ret;exact ⟨rfl,hb⟩
 ·go_wp2_with fail
  go_ret;exact ⟨rfl,hb⟩
 all_goals
  go_enter Tryz.func40,Tryz.ntmps40;go_wp2_with fail
  go_ret;exact ⟨rfl,((Md _ _).alloc (Mc _) _)⟩
theorem lP (w:World):bc w none []:=⟨Mj _,.inl rfl⟩
theorem rK (p:Pl) (q:Pw) (af:List Int) (ca:Option Addr) (cc:Nat) (w:World) (hp:oh w.heap.size w p q) (hc:bG w.heap.size w ca af) (hn:-9223372036854775808≤p.n∧p.n≤9223372036854775807) (hs:p.xs.length+p.gs.length≤9223372036854775807) :
  Calls Tryz.prog 98 #[gR p q,.slice ca af.length cc] w fun e w'=>e = .returned (.int .i64 (fZ p.k p.n p.x p.xs p.gs af))∧Below w.heap.size w w':=by
 have hA:Below w.heap.size w (w.alloc (.cells (dS p q) 31)):=((Md _ _).alloc (Mc _) _)
 have E:=iA.new w p q 31;have hpA:=(hp.next hA (Mc _)).up hA.size;have hcA:=(hc.next hA (Mc _)).up hA.size;have c2:=th af p.x ca cc q.xa q.xc none 0 [] _ hcA hpA.x (lP _);have c3:=Fq af p.xs ca cc q.sa q.sc none 0 [] _ hcA hpA.xs (lP _);have c12:=ve af p.xs p.gs (fun g _ _=>sD g.1) hs ca cc q.sa q.sc q.ga q.gc none 0 [] _ hcA hpA.xs hpA.gs (lP _);have c13:=Gw af p.xs p.n hn ca cc q.sa q.sc none 0 [] _ hcA hpA.xs (lP _)
 have H2:Hid (p.k=2→fZ p.k p.n p.x p.xs p.gs af=gz af p.x []):=fun h=>by unfold fZ; rw [if_pos h]
 have H3:Hid (p.k=3→fZ p.k p.n p.x p.xs p.gs af=lq af p.xs []):=fun h=>by unfold fZ; rw [if_neg (by omega),if_pos h]
 have H12:Hid (p.k=12→fZ p.k p.n p.x p.xs p.gs af=dM af p.xs p.gs []):=fun h=>by unfold fZ; rw [if_neg (by omega),if_neg (by omega),if_pos h]
 have H13:Hid (p.k=13→fZ p.k p.n p.x p.xs p.gs af=kX af p.xs p.n []):=fun h=>by unfold fZ; rw [if_neg (by omega),if_neg (by omega),if_neg (by omega),if_pos h]
 have H0:Hid (¬ p.k=2→¬ p.k=3→¬ p.k=12→¬ p.k=13→fZ p.k p.n p.x p.xs p.gs af=0):=fun h1 h2 h3 h4=>by unfold fZ; rw [if_neg h1,if_neg h2,if_neg h3,if_neg h4]
 generalize fZ p.k p.n p.x p.xs p.gs af=er at *;generalize gz af p.x []=e2 at *;generalize lq af p.xs []=e3 at *;generalize dM af p.xs p.gs []=e12 at *;generalize kX af p.xs p.n []=e13 at *;generalize lY af p.x []=z2 at *;generalize ui af p.xs []=z3 at *;generalize iN af p.xs p.gs []=z12 at *;generalize rO af p.xs p.n []=z13 at *;obtain ⟨p0,p1,p2,p8,p9,p10⟩:=E;obtain ⟨x0,x1,x2,x3,x4,x5⟩:=p2;simp only [Mq] at p1 x0 x1 x2 x3 x4 x5 p8 p9 p10;unfold iU at c2;unfold gR;go_enter Tryz.func98,Tryz.ntmps98;by_cases k2:p.k=2
 ·have e:=H2.out k2;subst e;have kb:(p.k == 2)=true:=by simpa using k2
  clear H2 H3 H12 H13 H0 c3 c12 c13 k2;go_wp2_with fail
  generalize w.alloc (.cells (dS p q) 31)=wA at *;refine c2.mono ?_;rintro e w5 ⟨v5,rfl,O5,hb5⟩;clear c2 O5;dsimp only;go_wp2
  go_ret;exact ⟨rfl,chain hA hb5⟩
 have b2:(p.k == 2)=false:=by rw [beq_eq_false_iff_ne]; exact k2
 by_cases k3:p.k=3
 ·have e:=H3.out k3;subst e;have kb:(p.k == 3)=true:=by simpa using k3
  clear H2 H3 H12 H13 H0 c2 c12 c13 k3 k2;go_wp2_with fail
  generalize w.alloc (.cells (dS p q) 31)=wA at *;refine c3.mono ?_;rintro e w5 ⟨v5,rfl,O5,hb5⟩;clear c3 O5;dsimp only;go_wp2
  go_ret;exact ⟨rfl,chain hA hb5⟩
 have b3:(p.k == 3)=false:=by rw [beq_eq_false_iff_ne]; exact k3
 by_cases k12:p.k=12
 ·have e:=H12.out k12;subst e;have kb:(p.k == 12)=true:=by simpa using k12
  clear H2 H3 H12 H13 H0 c2 c3 c13 k12 k2 k3;go_wp2_with fail
  generalize w.alloc (.cells (dS p q) 31)=wA at *;refine c12.mono ?_;rintro e w5 ⟨v5,rfl,O5,hb5⟩;clear c12 O5;dsimp only;go_wp2
  go_ret;exact ⟨rfl,chain hA hb5⟩
 have b12:(p.k == 12)=false:=by rw [beq_eq_false_iff_ne]; exact k12
 by_cases k13:p.k=13
 ·have e:=H13.out k13;subst e;have kb:(p.k == 13)=true:=by simpa using k13
  clear H2 H3 H12 H13 H0 c2 c3 c12 k13 k12 k2 k3;go_wp2_with fail
  generalize w.alloc (.cells (dS p q) 31)=wA at *;refine c13.mono ?_;rintro e w5 ⟨v5,rfl,O5,hb5⟩;clear c13 O5;dsimp only;go_wp2
  go_ret;exact ⟨rfl,chain hA hb5⟩
 have b13:(p.k == 13)=false:=by rw [beq_eq_false_iff_ne]; exact k13
 have e:=H0.out k2 k3 k12 k13;subst e;clear H2 H3 H12 H13 H0 c2 c3 c12 c13 k2 k3 k12 k13;go_wp2
 go_ret;exact ⟨rfl,hA⟩
inductive dx:Pl→Prop
 | mk (k n:Int) (x:Ex) (xs:List Ex) (gs:List Ag) (ks:List Pl) (hn:-9223372036854775808≤n∧n≤9223372036854775807) (hx:xs.length≤100000000000000) (hg:gs.length≤100000000000000) (hk:∀ p ∈ ks,dx p):dx (.mk k n x xs gs ks)
theorem dx.n {p:Pl} (h:dx p):-9223372036854775808≤p.n∧p.n≤9223372036854775807:=by cases h with | mk _ _ _ _ _ _ hn _ _ _=>exact hn
theorem dx.sum {p:Pl} (h:dx p):p.xs.length+p.gs.length≤9223372036854775807:=by cases h with | mk _ _ _ _ _ _ _ hx hg _=>simp only [Pl.xs,Pl.gs]; omega
theorem dx.ks {p:Pl} (h:dx p):∀ q ∈ p.ks,dx q:=by cases h with | mk _ _ _ _ _ _ _ _ _ hk=>exact hk
theorem lN {B lo:Nat} {W:World} {B1 n:Nat} {v:Value} {l:List Int} (ho:W.ownsRow B1 3 1 v n (l.map (Value.int .i64))) (hn:n=l.length) (htB:lo≤B1):∃ a cap,v = .slice a l.length cap∧nD B lo W a l:=by
 subst hn;have ho':=ho;obtain ⟨hx,⟨rfl,h0⟩ | ⟨g,cap,cur,rfl,hg,hh,hn,hc,hs,ht⟩⟩:=ho
 ·have:l = []:=Mo h0;subst this;exact ⟨none,0,rfl,⟨by simp,.inl rfl⟩⟩
 ·refine ⟨_,cap,rfl,⟨by omega,.inr ⟨g,0,rfl,(ho'.lt g rfl).2,by omega,fun i hi=>?_⟩⟩⟩;have:=ho'.cellAt i (by omega);rw [Mq,this];simp [hi]
theorem gq.t {B lo:Nat} {W:World} {g:Nat} {l:List Int} (h:gq W g l) (hl:l.length≤8) (hg:lo≤g):nD B lo W (some ⟨g,0,none⟩) l :=
 ⟨by unfold maxLen; omega,.inr ⟨g,0,rfl,h.lt,by omega,fun i hi=>by simpa using h.c i hi⟩⟩
theorem nD.nil (B lo:Nat) (W:World):nD B lo W none []:=⟨Mj _,.inl rfl⟩
theorem nD.low {B lo:Nat} {W w1:World} {a:Option Addr} {l:List Int} (h:nD B lo W a l) (hb:Below W.heap.size W w1) (hB:B≤W.heap.size):nD B lo w1 a l:=h.next (Kept.of hb hB)
theorem vJ {af:List Int} {xs:List Ex} {z:List Zp} (h:lq af xs z=0):xs.length≤8:=by
 unfold lq at h;by_cases h0:bU af xs=0
 ·exact (wR h0).1
 ·rw [if_pos h0] at h; exact absurd h h0
theorem qC {af:List Int} {xs:List Ex} {gs:List Ag} {z:List Zp} (h:dM af xs gs z=0):xs.length+gs.length≤8:=by
 unfold dM at h;by_cases h0:8<xs.length+gs.length
 ·rw [if_pos h0] at h; cases h
 ·omega
def Ee (B lo:Nat) (w':World) (e:Ending) (er:Int) (C:List Int):Prop:=∃ ca cc,e = .returned (.tuple #[.slice ca (if er=0 then C else []).length cc,.int .i64 er])∧nD B lo w' ca (if er=0 then C else [])
theorem tY (B lo:Nat) (hB:B≤lo) (p:Pl) (q:Pw) (af:List Int) (ca:Option Addr) (cc:Nat) (w:World) (ht:lo≤w.heap.size) (hp:oh w.heap.size w p q) (hc:nD B lo w ca af) (hk:dx p) :
  Calls Tryz.prog 67 #[gR p q,.slice ca af.length cc] w fun e w'=>Ee B lo w' e (fZ p.k p.n p.x p.xs p.gs af) (jY p.k p.xs p.gs af)∧Below w.heap.size w w':=by
 have hA:Below w.heap.size w (w.alloc (.cells (dS p q) 31)):=((Md _ _).alloc (Mc _) _)
 have E:=iA.new w p q 31;have hpA:=(hp.next hA (Mc _)).up hA.size;have hcA:=hc.low hA (by omega);have hzA:=hA.size;have con:=rK p q af ca cc _ hpA hcA.at hk.n hk.sum;have H3:Hid (p.k=3→jY p.k p.xs p.gs af=gT af p.xs):=fun h=>by unfold jY; rw [if_pos h]
 have H12:Hid (p.k=12→jY p.k p.xs p.gs af=gT af p.xs ++ eW af p.gs):=fun h=>by unfold jY eW; rw [if_neg (by omega),if_pos h]
 have H0:Hid (¬ p.k=3→¬ p.k=12→jY p.k p.xs p.gs af=af):=fun h1 h2=>by unfold jY; rw [if_neg h1,if_neg h2]
 have L3:Hid (p.k=3→fZ p.k p.n p.x p.xs p.gs af=0→p.xs.length≤8):=fun h e=>by unfold fZ at e; rw [if_neg (by omega),if_pos h] at e; exact vJ e
 have L12:Hid (p.k=12→fZ p.k p.n p.x p.xs p.gs af=0→p.xs.length+p.gs.length≤8):=fun h e=>by unfold fZ at e; rw [if_neg (by omega),if_neg (by omega),if_pos h] at e; exact qC e
 generalize fZ p.k p.n p.x p.xs p.gs af=er at *;generalize jY p.k p.xs p.gs af=C at *;have E':=E;obtain ⟨p0,p1,p2,p8,p9,p10⟩:=E';obtain ⟨x0,x1,x2,x3,x4,x5⟩:=p2;simp only [Mq] at p1 x0 x1 x2 x3 x4 x5 p8 p9 p10;unfold gR at con ⊢;have lw:=ae (ak w (dS p q) 31);go_enter Tryz.func67,Tryz.ntmps67;go_wp2_with fail
 generalize w.alloc (.cells (dS p q) 31)=wA at *;refine con.mono ?_;rintro e w5 ⟨rfl,hb5⟩;clear con p0 p1 x0 x1 x2 x3 x4 x5 p8 p9 p10;have hA5:=chain hA hb5;have E5:=E.next hb5 lw;obtain ⟨p0,p1,p2,p8,p9,p10⟩:=E5;simp only [Mq] at p1 p8 p9 p10;have hp5:=(hpA.next hb5 (Mc _)).up hb5.size;have hc5:=hcA.low hb5 (by omega);have hz5:=hb5.size;dsimp only;by_cases h0:er=0;rotate_left
 ·have hb:(er != 0)=true:=by simpa using h0
  go_wp2_with fail
  exact Me (v:=.tuple #[.slice none 0 0,.int .i64 er]) (by simp [results,Tryz.results67,go_sem]) rfl ⟨⟨none,0,by rw [if_neg h0]; rfl,by rw [if_neg h0]; exact nD.nil _ _ _⟩,hA5⟩
 subst h0;by_cases k3:p.k=3
 ·have e:=H3.out k3;subst e;have h8:=L3.out k3 rfl;have kb:(p.k == 3)=true:=by simpa using k3
  have con:=pP af p.xs ca cc q.sa q.sc w5 hc5.at hp5.xs h8;clear H3 H12 H0 L3 L12;go_wp2_with fail
  refine con.mono ?_;rintro e w6 ⟨rfl,O6,hb6⟩;clear con;have h8':(gT af p.xs).length≤8:=by rw [jD]; exact h8
  have I6:=O6.t (B:=B) (lo:=lo) h8' (by omega);have HEl:Hid ((gT af p.xs).length=p.xs.length):=jD _ _;dsimp only;clear p0 p1 p2 p8 p9 p10 h8';go_wp2_with fail
  exact Me (v:=.tuple #[.slice (some ⟨w5.heap.size,0,none⟩) p.xs.length p.xs.length,.int .i64 0]) (by simp [results,Tryz.results67,go_sem]) rfl ⟨⟨some ⟨w5.heap.size,0,none⟩,p.xs.length,by rw [if_pos rfl,HEl.out],by rw [if_pos rfl]; exact I6⟩,chain hA5 hb6⟩
 have b3:(p.k == 3)=false:=by rw [beq_eq_false_iff_ne]; exact k3
 by_cases k12:p.k=12
 ·have e:=H12.out k12;subst e;have h8:=L12.out k12 rfl;have kb:(p.k == 12)=true:=by simpa using k12
  clear H3 H12 H0 L3 L12;go_wp2_with fail
  clear p0 p1 p2 p10;have hCC:∀ W W':World,(W.cell? ⟨w.heap.size,8,none⟩=some (.slice q.sa p.xs.length q.sc)∧W.cell? ⟨w.heap.size,9,none⟩=some (.slice q.ga p.gs.length q.gc)∧w.heap.size<W.heap.size)→Below W.heap.size W W'→(W'.cell? ⟨w.heap.size,8,none⟩=some (.slice q.sa p.xs.length q.sc)∧W'.cell? ⟨w.heap.size,9,none⟩=some (.slice q.ga p.gs.length q.gc)∧w.heap.size<W'.heap.size):=fun W W' h hb=>⟨(hb.cell (p:=⟨w.heap.size,8,none⟩) h.2.2).trans h.1,(hb.cell (p:=⟨w.heap.size,9,none⟩) h.2.2).trans h.2.1,Mh h.2.2 hb.size⟩
  have hd:Below w5.heap.size w5 w5.drew:=(Md _ _).drew;have CW:=hCC _ _ ⟨p8,p9,Mh lw hz5⟩ hd;refine aH (fun W=>(W.cell? ⟨w.heap.size,8,none⟩=some (.slice q.sa p.xs.length q.sc)∧W.cell? ⟨w.heap.size,9,none⟩=some (.slice q.ga p.gs.length q.gc)∧w.heap.size<W.heap.size)) (by kernel_rfl) ?_;refine az hCC 23 0 (.slice ca af.length cc) (fun n hn=>?_) CW ?_
  ·go_simp
  simp only [pD,pB,pC];refine az hCC 24 1 (.pointer (some ⟨w.heap.size,8,none⟩)) (fun n hn=>?_) CW ?_
  ·go_simp
  simp only [pD,pB,pC];refine az hCC 25 2 (.slice q.sa p.xs.length q.sc) (fun n hn=>?_) CW ?_
  ·have hc:=hn.1;go_simp
  simp only [pD,pB,pC];refine az hCC 27 4 (.slice ca af.length cc) (fun n hn=>?_) CW ?_
  ·go_simp
  simp only [pD,pB,pC];refine az hCC 28 5 (.pointer (some ⟨w.heap.size,9,none⟩)) (fun n hn=>?_) CW ?_
  ·go_simp
  simp only [pD,pB,pC];refine az hCC 29 6 (.slice q.ga p.gs.length q.gc) (fun n hn=>?_) CW ?_
  ·have hc:=hn.2.1;go_simp
  simp only [pD,pB,pC];refine bD 3 ?_;intro w6 hb6
  have CW6:=hCC _ _ CW hb6;have D6:=chain hd hb6;have con:=pP af p.xs ca cc q.sa q.sc w6 (hc5.low D6 (by omega)).at ((hp5.next D6 (Mc _)).up D6.size).xs (by omega);refine wpOp_step rfl (fun K hK=>?_);go_simp;refine con.mono ?_;rintro e w7 ⟨rfl,O7,hb7⟩;clear con;have CW7:=hCC _ _ CW6 hb7;have D7:=chain D6 hb7;refine hK _ _ ⟨CW7,?_⟩;clear hK K;refine bD 7 ?_;intro w8 hb8
  have CW8:=hCC _ _ CW7 hb8;have D8:=chain D7 hb8;have con:=vU af p.gs ca cc q.ga q.gc w8 (hc5.low D8 (by omega)).at ((hp5.next D8 (Mc _)).up D8.size).gs (by omega);refine wpOp_step rfl (fun K hK=>?_);go_simp;refine con.mono ?_;rintro e w9 ⟨rfl,O9,hb9⟩;clear con;have CW9:=hCC _ _ CW8 hb9;have D9:=chain D8 hb9;refine hK _ _ ⟨CW9,?_⟩;clear hK K;refine bD 8 ?_;intro wB hbB
  have CWB:=hCC _ _ CW9 hbB;have DB:=chain D9 hbB;refine wpOp_step rfl (fun K hK=>?_);go_simp;have e1:(gT af p.xs).length=p.xs.length:=jD _ _;have e2:(eW af p.gs).length=p.gs.length:=td _ _;have R1:=fh ((O7.nx (chain hb8 (chain hb9 hbB))).is (by rw [e1]; unfold maxLen; omega));have R2:=fh ((O9.nx hbB).is (by rw [e2]; unfold maxLen; omega));rw [e1] at R1;rw [e2] at R2;have PC:=iQ.new p.xs.length p.gs.length R1 R2 42
  have halB:=aa wB (.cells #[.slice (some ⟨w6.heap.size,0,none⟩) p.xs.length p.xs.length,.slice (some ⟨w8.heap.size,0,none⟩) p.gs.length p.gs.length] 42);have CWC:=hCC _ _ CWB halB;have DC:=chain DB halB;refine hK _ _ ⟨CWC,?_⟩;clear hK K R1 R2;generalize wB.alloc (.cells #[.slice (some ⟨w6.heap.size,0,none⟩) p.xs.length p.xs.length,.slice (some ⟨w8.heap.size,0,none⟩) p.gs.length p.gs.length] 42)=wC at *;refine bD 9 ?_;intro wD hbD
  have CWD:=hCC _ _ CWC hbD;have DD:=chain DC hbD;refine wpOp_step rfl (fun K hK=>?_);go_simp;refine (jX _ _ _ _ _ wD (PC.next hbD) (by omega)).mono ?_;rintro e wE ⟨vE,rfl,OE,hbE⟩;rw [← M7] at OE;have hzD:=DD.size;obtain ⟨aE,cE,rfl,IE⟩:=lN (B:=B) (lo:=lo) OE (by simp [e1,e2]) (by omega);have CWE:=hCC _ _ CWD hbE;have DE:=chain DD hbE;refine hK _ _ ⟨CWE,?_⟩;clear hK K OE PC CW6 CW7 CW8 CW9 CWB CWC CWD CW O7 O9 e1 e2;obtain ⟨tt,htt⟩:∃ tt,tt=gT af p.xs ++ eW af p.gs:=⟨_,rfl⟩
  rw [← htt] at IE ⊢;have HTT:=aw htt;clear htt;refine az hCC 4 10 (.slice aE tt.length cE) (fun n hn=>?_) CWE ?_
  ·go_simp
  simp only [pD,pB,pC];refine az hCC 5 11 (.int .i64 0) (fun n hn=>?_) CWE ?_
  ·go_simp
  simp only [pD,pB,pC];refine bo (by kernel_rfl) ?_;intro wF hbF;have hAF:=chain hA5 (chain DE hbF);have IF:=IE.low hbF (by have:=DE.size; omega);clear CWE hCC hbF DE IE;go_wp2_with fail
  exact Me (v:=.tuple #[.slice aE tt.length cE,.int .i64 0]) (by simp [results,Tryz.results67,go_sem]) rfl ⟨⟨aE,cE,by rw [if_pos rfl,← HTT.out],by rw [if_pos rfl,← HTT.out]; exact IF⟩,hAF⟩
 have b12:(p.k == 12)=false:=by rw [beq_eq_false_iff_ne]; exact k12
 have e:=H0.out k3 k12;subst e;clear H3 H12 H0 L3 L12 k3 k12;go_wp2_with fail
 exact Me (v:=.tuple #[.slice ca C.length cc,.int .i64 0]) (by simp [results,Tryz.results67,go_sem]) rfl ⟨⟨ca,cc,by rw [if_pos rfl],by rw [if_pos rfl]; exact hc5⟩,hA5⟩
theorem tx (B lo:Nat) (hB:B≤lo) (p:Pl) (q:Pw) (l r:List Int) (la:Option Addr) (lc:Nat) (ra:Option Addr) (rc:Nat) (w:World) (ht:lo≤w.heap.size) (hp:oh w.heap.size w p q) (hl:nD B lo w la l) (hr:nD B lo w ra r) (hl8:l.length≤8) (hr8:r.length≤8) :
  Calls Tryz.prog 68 #[gR p q,.slice la l.length lc,.slice ra r.length rc] w fun e w'=>Ee B lo w' e (pk p.k p.x l r) (nX p.k l r)∧Below w.heap.size w w':=by
 have hA:Below w.heap.size w (w.alloc (.cells (dS p q) 31)):=((Md _ _).alloc (Mc _) _)
 have E:=iA.new w p q 31;have hpA:=(hp.next hA (Mc _)).up hA.size;have hlA:=hl.low hA (by omega);have hrA:=hr.low hA (by omega);have hzA:=hA.size;have lw:=ae (ak w (dS p q) 31);have HQ1:Hid (p.k=8∨p.k=9→pk p.k p.x l r=rL l r∧nX p.k l r=fb l r):=fun h=>by unfold pk nX; rw [if_pos h,if_pos h]; exact ⟨rfl,rfl⟩
 have HQ2:Hid (¬ (p.k=8∨p.k=9)→pk p.k p.x l r=cL 0 l r p.x [] []):=fun h=>by unfold pk; rw [if_neg h]
 have HQ3:Hid (¬ (p.k=8∨p.k=9)→p.k=5∨p.k=6→nX p.k l r=l):=fun h h'=>by unfold nX; rw [if_neg h,if_pos h']
 have HQ4:Hid (¬ (p.k=8∨p.k=9)→¬ (p.k=5∨p.k=6)→nX p.k l r=l ++ r):=fun h h'=>by unfold nX; rw [if_neg h,if_neg h']
 generalize pk p.k p.x l r=er at *;generalize nX p.k l r=C at *;have E':=E;obtain ⟨p0,p1,p2,p8,p9,p10⟩:=E';obtain ⟨x0,x1,x2,x3,x4,x5⟩:=p2;simp only [Mq] at p1 x0 x1 x2 x3 x4 x5 p8 p9 p10;unfold gR;go_enter Tryz.func68,Tryz.ntmps68;by_cases h89:p.k=8∨p.k=9
 ·obtain ⟨e1,e2⟩:=HQ1.out h89;have con:=tQ l r la lc ra rc _ hlA.at hrA.at hl8;rw [← e1] at con;have HL:Hid (er=0→(fb l r).length=l.length):=fun h0=>by
   rw [e1] at h0;unfold rL at h0;by_cases hlr:l.length=r.length
   ·exact lJ hlr
   ·rw [if_pos hlr] at h0; cases h0
  have HC:=aw e2;clear HQ1 HQ2 HQ3 HQ4 e1 e2;have h2:p.k=8∨(¬ p.k=8∧p.k=9):=by omega
  clear h89;rcases h2 with h2 | ⟨h2,h3⟩
  ·have b8:(p.k == 8)=true:=by simpa using h2
   clear h2;go_wp2_with fail
   generalize w.alloc (.cells (dS p q) 31)=wA at *;refine con.mono ?_;rintro e w5 ⟨v5,rfl,h0,hn0,hb5⟩;clear con;dsimp only;by_cases he:er=0
   ·subst he;obtain ⟨rfl,O5⟩:=h0 rfl;have HLn:Hid ((fb l r).length=l.length):=HL.out rfl;have I5:=O5.t (B:=B) (lo:=lo) (by rw [HLn.out]; exact hl8) (by omega);clear HL;clear h0 hn0;go_wp2_with fail
    exact Me (v:=.tuple #[.slice (some ⟨wA.heap.size,0,none⟩) l.length l.length,.int .i64 0]) (by simp [results,Tryz.results68,go_sem]) rfl ⟨⟨_,_,by rw [if_pos rfl,HC.out,HLn.out],by rw [if_pos rfl,HC.out]; exact I5⟩,chain hA hb5⟩
   ·obtain rfl:=hn0 he;clear h0 hn0;go_wp2_with fail
    exact Me (v:=.tuple #[.slice none 0 0,.int .i64 er]) (by simp [results,Tryz.results68,go_sem]) rfl ⟨⟨none,0,by rw [if_neg he]; rfl,by rw [if_neg he]; exact nD.nil _ _ _⟩,chain hA hb5⟩
  ·have b8:(p.k == 8)=false:=by rw [beq_eq_false_iff_ne]; exact h2
   have b9:(p.k == 9)=true:=by simpa using h3
   clear h2 h3;go_wp2_with fail
   generalize w.alloc (.cells (dS p q) 31)=wA at *;refine con.mono ?_;rintro e w5 ⟨v5,rfl,h0,hn0,hb5⟩;clear con;dsimp only;by_cases he:er=0
   ·subst he;obtain ⟨rfl,O5⟩:=h0 rfl;have HLn:Hid ((fb l r).length=l.length):=HL.out rfl;have I5:=O5.t (B:=B) (lo:=lo) (by rw [HLn.out]; exact hl8) (by omega);clear HL;clear h0 hn0;go_wp2_with fail
    exact Me (v:=.tuple #[.slice (some ⟨wA.heap.size,0,none⟩) l.length l.length,.int .i64 0]) (by simp [results,Tryz.results68,go_sem]) rfl ⟨⟨_,_,by rw [if_pos rfl,HC.out,HLn.out],by rw [if_pos rfl,HC.out]; exact I5⟩,chain hA hb5⟩
   ·obtain rfl:=hn0 he;clear h0 hn0;go_wp2_with fail
    exact Me (v:=.tuple #[.slice none 0 0,.int .i64 er]) (by simp [results,Tryz.results68,go_sem]) rfl ⟨⟨none,0,by rw [if_neg he]; rfl,by rw [if_neg he]; exact nD.nil _ _ _⟩,chain hA hb5⟩
 have b8:(p.k == 8)=false:=by rw [beq_eq_false_iff_ne]; exact fun e=>h89 (.inl e)
 have b9:(p.k == 9)=false:=by rw [beq_eq_false_iff_ne]; exact fun e=>h89 (.inr e)
 have con:=Ao l r p.x la lc ra rc q.xa q.xc none 0 [] none 0 [] _ hlA.at hrA.at hpA.x (lP _) (lP _) (by omega) (by omega);rw [← HQ2.out h89] at con;have H5:Hid (p.k=5∨p.k=6→C=l):=HQ3.out h89;have H0:Hid (¬ (p.k=5∨p.k=6)→C=l ++ r):=HQ4.out h89;clear HQ1 HQ2 HQ3 HQ4 h89;generalize ed 0 l r p.x [] []=zz at *;unfold iU at con;go_wp2_with fail
 generalize w.alloc (.cells (dS p q) 31)=wA at *;refine con.mono ?_;rintro e w5 ⟨v5,rfl,O5,hb5⟩;clear con O5 p0 p1 x0 x1 x2 x3 x4 x5 p8 p9 p10;have hA5:=chain hA hb5;have p0:=(E.next hb5 lw).c0;have hl5:=hlA.low hb5 (by omega);have hr5:=hrA.low hb5 (by omega);have hz5:=hb5.size;dsimp only;by_cases he:er=0;rotate_left
 ·have hb:(er != 0)=true:=by simpa using he
  go_wp2_with fail
  exact Me (v:=.tuple #[.slice none 0 0,.int .i64 er]) (by simp [results,Tryz.results68,go_sem]) rfl ⟨⟨none,0,by rw [if_neg he]; rfl,by rw [if_neg he]; exact nD.nil _ _ _⟩,hA5⟩
 subst he;by_cases h56:p.k=5∨p.k=6
 ·have e:=H5.out h56;have HC:=aw e;clear H5 H0 e;have h2:p.k=5∨(¬ p.k=5∧p.k=6):=by omega
  clear h56;rcases h2 with h2 | ⟨h2,h3⟩
  ·have b5:(p.k == 5)=true:=by simpa using h2
   clear h2;go_wp2_with fail
   exact Me (v:=.tuple #[.slice la l.length lc,.int .i64 0]) (by simp [results,Tryz.results68,go_sem]) rfl ⟨⟨la,lc,by rw [if_pos rfl,HC.out],by rw [if_pos rfl,HC.out]; exact hl5⟩,hA5⟩
  ·have b5:(p.k == 5)=false:=by rw [beq_eq_false_iff_ne]; exact h2
   have b6:(p.k == 6)=true:=by simpa using h3
   clear h2 h3;go_wp2_with fail
   exact Me (v:=.tuple #[.slice la l.length lc,.int .i64 0]) (by simp [results,Tryz.results68,go_sem]) rfl ⟨⟨la,lc,by rw [if_pos rfl,HC.out],by rw [if_pos rfl,HC.out]; exact hl5⟩,hA5⟩
 have b5:(p.k == 5)=false:=by rw [beq_eq_false_iff_ne]; exact fun e=>h56 (.inl e)
 have b6:(p.k == 6)=false:=by rw [beq_eq_false_iff_ne]; exact fun e=>h56 (.inr e)
 have HC:Hid (C=l ++ r):=H0.out h56;clear H5 H0 h56;have PC:=iQ.new lc rc (fh hl5.at) (fh hr5.at) 42;have hal5:=aa w5 (.cells #[.slice la l.length lc,.slice ra r.length rc] 42);go_wp2_with fail
 generalize w5.alloc (.cells #[.slice la l.length lc,.slice ra r.length rc] 42)=w6 at *;refine (jX _ _ _ _ _ w6 PC (by omega)).mono ?_;rintro e w7 ⟨v7,rfl,O7,hb7⟩;rw [← M7,← HC.out] at O7;have hl7:l.length+r.length=C.length:=by rw [HC.out,Mw]
 have hz6:=hal5.size;obtain ⟨a7,c7,rfl,I7⟩:=lN (B:=B) (lo:=lo) O7 hl7 (by omega);clear PC O7 hl7;dsimp only;go_wp2_with fail
 exact Me (v:=.tuple #[.slice a7 C.length c7,.int .i64 0]) (by simp [results,Tryz.results68,go_sem]) rfl ⟨⟨a7,c7,by rw [if_pos rfl],by rw [if_pos rfl]; exact I7⟩,chain hA5 (chain hal5 hb7)⟩
theorem Co (ts:List (List Int)) (B lo t:Nat) (ta:Option Addr) (tc:Nat) (p:Pl) (q:Pw) (na:Option Addr) (nc:Nat) (w:World) (hB:B≤t) (htl:t<lo) (hlw:lo≤w.heap.size) (c0:w.cell? ⟨t,0,none⟩=some (.slice ta ts.length tc)) (hT:iW B w ta ts) (hp:oh B w p q) (hN:qL ts B lo w na p.ks) (hk:dx p) (hlen:p.ks.length=dD p.k) (h8:∀ r ∈ p.ks,(ag ts r).length≤8) :
  Calls Tryz.prog 41 #[.pointer (some ⟨t,0,none⟩),gR p q,.slice na p.ks.length nc] w fun e w'=>Ee B lo w' e (eI ts p.k p.n p.x p.xs p.gs (p.ks.map (ag ts))) (kC ts p.k p.n p.xs p.gs (p.ks.map (ag ts)))∧Below w.heap.size w w':=by
 have hA:Below w.heap.size w (w.alloc (.cells (dS p q) 31)):=((Md _ _).alloc (Mc _) _)
 have E:=iA.new w p q 31;have lw:=ae (ak w (dS p q) 31);have ht:t<w.heap.size:=by omega
 have hBw:B≤w.heap.size:=by omega
 have h2:=kV p.k;have hc:p.ks = []∨(∃ k0,p.ks = [k0])∨∃ k0 k1,p.ks = [k0,k1]:=by
  match hm:p.ks with
  | []=>exact .inl rfl
  | [k0]=>exact .inr (.inl ⟨k0,rfl⟩)
  | [k0,k1]=>exact .inr (.inr ⟨k0,k1,rfl⟩)
  | _ :: _ :: _ :: _=>rw [hm] at hlen; simp at hlen; omega
 have dA:=(hA.cell (p:=⟨t,0,none⟩) ht).trans c0;generalize hER:eI ts p.k p.n p.x p.xs p.gs (p.ks.map (ag ts))=er;generalize hCR:kC ts p.k p.n p.xs p.gs (p.ks.map (ag ts))=C;have HER:=aw hER;have HCR:=aw hCR;have HK:=aw hk;clear hER hCR hlen h2 hk;unfold gR;go_enter Tryz.func41,Tryz.ntmps41;rcases hc with hks | ⟨k0,hks⟩ | ⟨k0,k1,hks⟩
 ·have hl0:p.ks.length=0:=by rw [hks]; rfl
  have lb:((p.ks.length:Int) == 0)=true:=by simp [hl0]
  have eE:er=if p.n<0∨ts.length≤p.n then 7 else 0:=by rw [← HER.out,hks]; rfl
  have eC:C=ts.getD p.n.toNat []:=by rw [← HCR.out,hks]; rfl
  have HE1:=aw eE;have HC1:=aw eC;clear eE eC;clear HER HCR h8 hks hl0;go_wp2_with fail
  generalize w.alloc (.cells (dS p q) 31)=wA at *;have hCC:∀ W W':World,(iA W w.heap.size 0 p q∧w.heap.size<W.heap.size∧W.cell? ⟨t,0,none⟩=some (.slice ta ts.length tc)∧t<W.heap.size)→Below W.heap.size W W'→(iA W' w.heap.size 0 p q∧w.heap.size<W'.heap.size∧W'.cell? ⟨t,0,none⟩=some (.slice ta ts.length tc)∧t<W'.heap.size):=fun W W' h hb=>⟨h.1.next hb h.2.1,Mh h.2.1 hb.size,(hb.cell (p:=⟨t,0,none⟩) h.2.2.2).trans h.2.2.1,Mh h.2.2.2 hb.size⟩
  have hd:Below wA.heap.size wA wA.drew:=(Md _ _).drew;have CW:=hCC _ _ ⟨E,lw,dA,Mh ht hA.size⟩ hd;refine aH (fun W=>(iA W w.heap.size 0 p q∧w.heap.size<W.heap.size∧W.cell? ⟨t,0,none⟩=some (.slice ta ts.length tc)∧t<W.heap.size)) (by kernel_rfl) ?_;refine az hCC 12 0 (.pointer (some ⟨t,0,none⟩)) (fun n hn=>?_) CW ?_
  ·go_simp
  simp only [pD,pB,pC];refine az hCC 13 1 (.pointer (some ⟨t,0,none⟩)) (fun n hn=>?_) CW ?_
  ·go_simp
  simp only [pD,pB,pC];refine az hCC 14 2 (.pointer (some ⟨t,0,none⟩)) (fun n hn=>?_) CW ?_
  ·go_simp
  simp only [pD,pB,pC];refine az hCC 15 3 (.slice ta ts.length tc) (fun n hn=>?_) CW ?_
  ·have hc:=hn.2.2.1;go_simp
  simp only [pD,pB,pC];refine az hCC 16 4 (.pointer (some ⟨w.heap.size,1,none⟩)) (fun n hn=>?_) CW ?_
  ·go_simp
  simp only [pD,pB,pC];refine az hCC 17 5 (.int .i64 p.n) (fun n hn=>?_) CW ?_
  ·have hc:=hn.1.c1;simp only [Mq] at hc;go_simp
  simp only [pD,pB,pC];refine bD 6 ?_;intro w6 hb6
  have CW6:=hCC _ _ CW hb6;have D6:=chain hA (chain hd hb6);have con:=tI ts p.n B ta tc w6 (hT.next D6 hBw);rw [← HE1.out,← HC1.out] at con;refine wpOp_step rfl (fun K hK=>?_);go_simp;refine con.mono ?_;rintro e w7 ⟨⟨a7,c7,rfl,I7⟩,hb7⟩;clear con;have CW7:=hCC _ _ CW6 hb7;have D7:=chain D6 hb7;refine hK _ _ ⟨CW7,?_⟩;clear hK K CW6 CW;have J7:=I7.t (lo:=lo) (by have:=CW7.2.2.2; omega);obtain ⟨cl,hcl⟩:∃ cl,cl=(if er=0 then C else []):=⟨_,rfl⟩
  rw [← hcl] at J7 ⊢;have HCl:=aw hcl;clear hcl I7;refine az hCC 19 7 (.slice a7 cl.length c7) (fun n hn=>?_) CW7 ?_
  ·go_simp
  simp only [pD,pB,pC];refine az hCC 20 8 (.int .i64 er) (fun n hn=>?_) CW7 ?_
  ·go_simp
  simp only [pD,pB,pC];refine az hCC 6 9 (.slice a7 cl.length c7) (fun n hn=>?_) CW7 ?_
  ·go_simp
  simp only [pD,pB,pC];refine az hCC 7 10 (.int .i64 er) (fun n hn=>?_) CW7 ?_
  ·go_simp
  simp only [pD,pB,pC];refine bo (by kernel_rfl) ?_;intro w8 hb8;have J8:=J7.low hb8 (by have:=CW7.2.2.2; omega);have D8:=chain D7 hb8;clear CW7 hCC hb8 D7 J7;go_wp2
  exact Me (v:=.tuple #[.slice a7 cl.length c7,.int .i64 er]) (by simp [results,Tryz.results41,go_sem]) rfl ⟨⟨a7,c7,by rw [HCl.out],by rw [← HCl.out]; exact J8⟩,D8⟩
 ·have hl0:p.ks.length=1:=by rw [hks]; rfl
  have lb:((p.ks.length:Int) == 0)=false:=by simp [hl0]
  have lb1:((p.ks.length:Int) == 1)=true:=by simp [hl0]
  have lz:0<p.ks.length:=by omega
  have eE:er=fZ p.k p.n p.x p.xs p.gs (ag ts k0):=by rw [← HER.out,hks]; rfl
  have eC:C=jY p.k p.xs p.gs (ag ts k0):=by rw [← HCR.out,hks]; rfl
  have HE1:=aw eE;have HC1:=aw eC;clear eE eC;rw [hks] at hN;obtain ⟨b,off,q0,c1,cc1,n1,nc1,rfl,hbl,hbt,_,d11,_,ND⟩:=hN.elem (i:=0) (by simp);simp only [Nv,Ng,Nc] at d11 ND;have I1:=ND.af;clear HER HCR h8 hks hl0 hN ND;have d11A:=(hA.cell (p:=⟨b,off+11,none⟩) hbl).trans d11;go_wp2_with fail
  generalize w.alloc (.cells (dS p q) 31)=wA at *;have hCC:∀ W W':World,(iA W w.heap.size 0 p q∧w.heap.size<W.heap.size∧W.cell? ⟨b,off+11,none⟩=some (.slice c1 (ag ts k0).length cc1)∧t<W.heap.size∧b<W.heap.size)→Below W.heap.size W W'→(iA W' w.heap.size 0 p q∧w.heap.size<W'.heap.size∧W'.cell? ⟨b,off+11,none⟩=some (.slice c1 (ag ts k0).length cc1)∧t<W'.heap.size∧b<W'.heap.size):=fun W W' h hb=>⟨h.1.next hb h.2.1,Mh h.2.1 hb.size,(hb.cell (p:=⟨b,off+11,none⟩) h.2.2.2.2).trans h.2.2.1,Mh h.2.2.2.1 hb.size,Mh h.2.2.2.2 hb.size⟩
  have hd:Below wA.heap.size wA wA.drew:=(Md _ _).drew;have CW:=hCC _ _ ⟨E,lw,d11A,Mh ht hA.size,Mh hbl hA.size⟩ hd;refine aH (fun W=>(iA W w.heap.size 0 p q∧w.heap.size<W.heap.size∧W.cell? ⟨b,off+11,none⟩=some (.slice c1 (ag ts k0).length cc1)∧t<W.heap.size∧b<W.heap.size)) (by kernel_rfl) ?_;refine az hCC 23 0 (.agg (dS p q)) (fun n hn=>?_) CW ?_
  ·obtain ⟨⟨n0,n1,⟨n2,n3,n4,n5,n6,n7⟩,n8,n9,n10⟩,_⟩:=hn;simp only [Mq] at n1 n2 n3 n4 n5 n6 n7 n8 n9 n10;go_simp
  simp only [pD,pB,pC];refine az hCC 24 1 (.slice (some ⟨b,off,none⟩) p.ks.length nc) (fun n hn=>?_) CW ?_
  ·go_simp
  simp only [pD,pB,pC];refine az hCC 25 2 (.pointer (some ⟨b,off,none⟩)) (fun n hn=>?_) CW ?_
  ·go_simp
  simp only [pD,pB,pC];refine az hCC 26 3 (.pointer (some ⟨b,off+11,none⟩)) (fun n hn=>?_) CW ?_
  ·go_simp
  simp only [pD,pB,pC];refine az hCC 27 4 (.slice c1 (ag ts k0).length cc1) (fun n hn=>?_) CW ?_
  ·have hc:=hn.2.2.1;go_simp
  simp only [pD,pB,pC];refine bD 5 ?_;intro w6 hb6
  have CW6:=hCC _ _ CW hb6;have D6:=chain hA (chain hd hb6);have con:=tY B lo (by omega) p q (ag ts k0) c1 cc1 w6 (Mr hlw D6.size) ((hp.next D6 hBw).up (Mr hBw D6.size)) (I1.low D6 hBw) HK.out;rw [← HE1.out,← HC1.out] at con;unfold gR at con;refine wpOp_step rfl (fun K hK=>?_);go_simp;refine con.mono ?_;rintro e w7 ⟨⟨a7,c7,rfl,J7⟩,hb7⟩;clear con;have CW7:=hCC _ _ CW6 hb7;have D7:=chain D6 hb7;refine hK _ _ ⟨CW7,?_⟩;clear hK K CW6 CW;obtain ⟨cl,hcl⟩:∃ cl,cl=(if er=0 then C else []):=⟨_,rfl⟩
  rw [← hcl] at J7 ⊢;have HCl:=aw hcl;clear hcl;refine az hCC 29 6 (.slice a7 cl.length c7) (fun n hn=>?_) CW7 ?_
  ·go_simp
  simp only [pD,pB,pC];refine az hCC 30 7 (.int .i64 er) (fun n hn=>?_) CW7 ?_
  ·go_simp
  simp only [pD,pB,pC];refine az hCC 6 8 (.slice a7 cl.length c7) (fun n hn=>?_) CW7 ?_
  ·go_simp
  simp only [pD,pB,pC];refine az hCC 7 9 (.int .i64 er) (fun n hn=>?_) CW7 ?_
  ·go_simp
  simp only [pD,pB,pC];refine bo (by kernel_rfl) ?_;intro w8 hb8;have J8:=J7.low hb8 (by have:=CW7.2.2.2.1; omega);have D8:=chain D7 hb8;clear CW7 hCC hb8 D7 J7;go_wp2
  exact Me (v:=.tuple #[.slice a7 cl.length c7,.int .i64 er]) (by simp [results,Tryz.results41,go_sem]) rfl ⟨⟨a7,c7,by rw [HCl.out],by rw [← HCl.out]; exact J8⟩,D8⟩
 ·have hl0:p.ks.length=2:=by rw [hks]; rfl
  have lb:((p.ks.length:Int) == 0)=false:=by simp [hl0]
  have lb1:((p.ks.length:Int) == 1)=false:=by simp [hl0]
  have lz:0<p.ks.length:=by omega
  have lz1:(1:Int)<(p.ks.length:Int):=by omega
  have eE:er=pk p.k p.x (ag ts k0) (ag ts k1):=by rw [← HER.out,hks]; rfl
  have eC:C=nX p.k (ag ts k0) (ag ts k1):=by rw [← HCR.out,hks]; rfl
  have HE1:=aw eE;have HC1:=aw eC;clear eE eC;have g0:=h8 k0 (by rw [hks]; simp);have g1:=h8 k1 (by rw [hks]; simp);rw [hks] at hN;obtain ⟨b,off,q0,c1,cc1,n1,nc1,rfl,hbl,hbt,_,d11,_,ND⟩:=hN.elem (i:=0) (by simp);obtain ⟨b',off',q1,c2,cc2,n2,nc2,eb,_,_,_,d24,_,ND1⟩:=hN.elem (i:=1) (by simp);have eb:=MO eb;injection eb with eb1 eb2
  subst eb1 eb2;simp only [Nv,Nat.one_mul,Ng,Nc,Nw] at d11 ND d24 ND1;have I1:=ND.af;have I2:=ND1.af;clear HER HCR h8 hks hl0 hN ND ND1;have d11A:=(hA.cell (p:=⟨b,off+11,none⟩) hbl).trans d11;have d24A:=(hA.cell (p:=⟨b,off+13+11,none⟩) hbl).trans d24;go_wp2_with fail
  generalize w.alloc (.cells (dS p q) 31)=wA at *
  have hCC:∀ W W':World,(iA W w.heap.size 0 p q∧w.heap.size<W.heap.size∧W.cell? ⟨b,off+11,none⟩=some (.slice c1 (ag ts k0).length cc1)∧W.cell? ⟨b,off+13+11,none⟩=some (.slice c2 (ag ts k1).length cc2)∧t<W.heap.size∧b<W.heap.size)→Below W.heap.size W W'→(iA W' w.heap.size 0 p q∧w.heap.size<W'.heap.size∧W'.cell? ⟨b,off+11,none⟩=some (.slice c1 (ag ts k0).length cc1)∧W'.cell? ⟨b,off+13+11,none⟩=some (.slice c2 (ag ts k1).length cc2)∧t<W'.heap.size∧b<W'.heap.size):=fun W W' h hb=>⟨h.1.next hb h.2.1,Mh h.2.1 hb.size,(hb.cell (p:=⟨b,off+11,none⟩) h.2.2.2.2.2).trans h.2.2.1,(hb.cell (p:=⟨b,off+13+11,none⟩) h.2.2.2.2.2).trans h.2.2.2.1,Mh h.2.2.2.2.1 hb.size,Mh h.2.2.2.2.2 hb.size⟩
  have hd:Below wA.heap.size wA wA.drew:=(Md _ _).drew;have CW:=hCC _ _ ⟨E,lw,d11A,d24A,Mh ht hA.size,Mh hbl hA.size⟩ hd;refine aH (fun W=>(iA W w.heap.size 0 p q∧w.heap.size<W.heap.size∧W.cell? ⟨b,off+11,none⟩=some (.slice c1 (ag ts k0).length cc1)∧W.cell? ⟨b,off+13+11,none⟩=some (.slice c2 (ag ts k1).length cc2)∧t<W.heap.size∧b<W.heap.size)) (by kernel_rfl) ?_;refine az hCC 31 0 (.agg (dS p q)) (fun n hn=>?_) CW ?_
  ·obtain ⟨⟨n0,n1,⟨n2,n3,n4,n5,n6,n7⟩,n8,n9,n10⟩,_⟩:=hn;simp only [Mq] at n1 n2 n3 n4 n5 n6 n7 n8 n9 n10;go_simp
  simp only [pD,pB,pC];refine az hCC 32 1 (.slice (some ⟨b,off,none⟩) p.ks.length nc) (fun n hn=>?_) CW ?_
  ·go_simp
  simp only [pD,pB,pC];refine az hCC 33 2 (.pointer (some ⟨b,off,none⟩)) (fun n hn=>?_) CW ?_
  ·go_simp
  simp only [pD,pB,pC];refine az hCC 34 3 (.pointer (some ⟨b,off+11,none⟩)) (fun n hn=>?_) CW ?_
  ·go_simp
  simp only [pD,pB,pC];refine az hCC 35 4 (.slice c1 (ag ts k0).length cc1) (fun n hn=>?_) CW ?_
  ·have hc:=hn.2.2.1;go_simp
  simp only [pD,pB,pC];refine az hCC 36 5 (.slice (some ⟨b,off,none⟩) p.ks.length nc) (fun n hn=>?_) CW ?_
  ·go_simp
  simp only [pD,pB,pC];refine az hCC 37 6 (.pointer (some ⟨b,off+13,none⟩)) (fun n hn=>?_) CW ?_
  ·go_simp
  simp only [pD,pB,pC];refine az hCC 38 7 (.pointer (some ⟨b,off+13+11,none⟩)) (fun n hn=>?_) CW ?_
  ·go_simp
  simp only [pD,pB,pC];refine az hCC 39 8 (.slice c2 (ag ts k1).length cc2) (fun n hn=>?_) CW ?_
  ·have hc:=hn.2.2.2.1;go_simp
  simp only [pD,pB,pC];refine bD 9 ?_;intro w6 hb6
  have CW6:=hCC _ _ CW hb6;have D6:=chain hA (chain hd hb6);have con:=tx B lo (by omega) p q (ag ts k0) (ag ts k1) c1 cc1 c2 cc2 w6 (Mr hlw D6.size) ((hp.next D6 hBw).up (Mr hBw D6.size)) (I1.low D6 hBw) (I2.low D6 hBw) g0 g1;rw [← HE1.out,← HC1.out] at con;unfold gR at con;refine wpOp_step rfl (fun K hK=>?_);go_simp;refine con.mono ?_;rintro e w7 ⟨⟨a7,c7,rfl,J7⟩,hb7⟩;clear con;have CW7:=hCC _ _ CW6 hb7;have D7:=chain D6 hb7;refine hK _ _ ⟨CW7,?_⟩;clear hK K CW6 CW;obtain ⟨cl,hcl⟩:∃ cl,cl=(if er=0 then C else []):=⟨_,rfl⟩
  rw [← hcl] at J7 ⊢;have HCl:=aw hcl;clear hcl;refine az hCC 41 10 (.slice a7 cl.length c7) (fun n hn=>?_) CW7 ?_
  ·go_simp
  simp only [pD,pB,pC];refine az hCC 42 11 (.int .i64 er) (fun n hn=>?_) CW7 ?_
  ·go_simp
  simp only [pD,pB,pC];refine az hCC 6 12 (.slice a7 cl.length c7) (fun n hn=>?_) CW7 ?_
  ·go_simp
  simp only [pD,pB,pC];refine az hCC 7 13 (.int .i64 er) (fun n hn=>?_) CW7 ?_
  ·go_simp
  simp only [pD,pB,pC];refine bo (by kernel_rfl) ?_;intro w8 hb8;have J8:=J7.low hb8 (by have:=CW7.2.2.2.2.1; omega);have D8:=chain D7 hb8;clear CW7 hCC hb8 D7 J7;go_wp2
  exact Me (v:=.tuple #[.slice a7 cl.length c7,.int .i64 er]) (by simp [results,Tryz.results41,go_sem]) rfl ⟨⟨a7,c7,by rw [HCl.out],by rw [← HCl.out]; exact J8⟩,D8⟩
end Go.Proofs.YtjebpkhkjkjphaaGreat
namespace Go.Proofs.YtjebpkhkjkjphaaGreat
open Go.RowKit
set_option maxRecDepth 100000
set_option maxHeartbeats 16000000
theorem dR {ts:List (List Int)} {k n:Int} {x:Ex} {xs:List Ex} {gs:List Ag} {ks:List Pl} {m d:Int} (h:(aV ts (.mk k n x xs gs ks) m d).1=0):dX k ks.length (m+1) d=0∧(aS ts ks (m+1) (d+1)).1=0∧eI ts k n x xs gs (aQ ts ks)=0∧(aV ts (.mk k n x xs gs ks) m d).2=(aS ts ks (m+1) (d+1)).2:=by
 rw [aV] at h ⊢;by_cases h1:dX k ks.length (m+1) d=0
 ·rw [if_neg (by simp [h1])] at h ⊢;by_cases h2:(aS ts ks (m+1) (d+1)).1=0
  ·rw [if_neg (by simp [h2])] at h ⊢;exact ⟨h1,h2,h,rfl⟩
  ·rw [if_pos h2] at h; exact absurd h h2
 ·rw [if_pos h1] at h; exact absurd h h1
theorem fJ {k:Int} {n:Nat} {m d:Int} (h:dX k n m d=0):n=dD k∧1≤k∧k≤13∧m≤60∧d≤15:=by
 unfold dX at h;by_cases g1:60<m∨15<d
 ·simp [g1] at h
 by_cases g2:k<1∨13<k
 ·simp [g1,g2] at h
 by_cases g3:n=dD k
 ·exact ⟨g3,by omega⟩
 ·simp [g1,g2,g3] at h
theorem oB {ts:List (List Int)} {p:Pl} {r:List Pl} {m d:Int} (h:(aS ts (p :: r) m d).1=0):(aV ts p m d).1=0∧(aS ts r (aV ts p m d).2 d).1=0∧(aS ts (p :: r) m d).2=(aS ts r (aV ts p m d).2 d).2:=by
 rw [aS] at h ⊢;by_cases h1:(aV ts p m d).1=0
 ·rw [if_neg (by simp [h1])] at h ⊢;exact ⟨h1,h,rfl⟩
 ·rw [if_pos h1] at h; exact absurd h h1
theorem fL {ts:List (List Int)}:∀ {ks:List Pl} {m d:Int},(aS ts ks m d).1=0→∀ p ∈ ks,∃ m',(aV ts p m' d).1=0
 | [],_,_,_,p,hp=>by cases hp
 | q :: r,m,d,h,p,hp=>by
  obtain ⟨h1,h2,_⟩:=oB h
  rcases List.mem_cons.1 hp with rfl | hp
  ·exact ⟨m,h1⟩
  ·exact fL h2 p hp
theorem AX (ts:List (List Int)):∀ (p:Pl) (m d:Int),(aV ts p m d).1=0→m<(aV ts p m d).2∧(aV ts p m d).2≤60 :=
 Pl.ind fun k n x xs gs ks ih m d h=>by
  obtain ⟨h1,h2,_,e⟩:=dR h
  have hq:=fJ h1
  have aux:∀ (l:List Pl),(∀ p ∈ l,∀ (m d:Int),(aV ts p m d).1=0→m<(aV ts p m d).2∧(aV ts p m d).2≤60)→∀ m d,m≤60→(aS ts l m d).1=0→m≤(aS ts l m d).2∧(aS ts l m d).2≤60:=by
   intro l
   induction l with
   | nil=>intro _ m d hm _; rw [aS]; exact ⟨Int.le_refl _,hm⟩
   | cons p r ihl =>
    intro hl m d hm h;obtain ⟨g1,g2,g3⟩:=oB h;have a1:=hl p (by simp) m d g1;have a2:=ihl (fun q hq=>hl q (by simp [hq])) _ d a1.2 g2;rw [g3];omega
  have:=aux ks ih (m+1) (d+1) (by omega) h2;rw [e];omega
theorem vB:∀ {l r:List Int},(fb l r).length≤l.length
 | [],_=>by simp [fb]
 | a :: l,[]=>by simp [fb]
 | a :: l,b :: r=>by
  have:=vB (l:=l) (r:=r)
  rw [fb,NG,NG]
  omega
theorem KV {ts:List (List Int)} (h:gf ts=0):∀ c ∈ ts,c.length≤8:=by
 have aux:∀ (l:List (List Int)),jO l=0→∀ c ∈ l,c.length≤8:=by
  intro l
  induction l with
  | nil=>intro _ c hc; cases hc
  | cons a r ih =>
   intro h c hc;rw [jO] at h;by_cases h0:ib a=0
   ·rw [if_neg (by simp [h0])] at h;rcases List.mem_cons.1 hc with rfl | hc
    ·unfold ib at h0;by_cases h8:8<c.length
     ·rw [if_pos h8] at h0; cases h0
     ·omega
    ·exact ih h c hc
   ·rw [if_pos h0] at h; exact absurd h h0
 unfold gf at h;by_cases h8:8<ts.length
 ·rw [if_pos h8] at h; cases h
 ·rw [if_neg h8] at h; exact aux ts h
theorem C0 {l r:List Int} {x:Ex} {w:Nat} {a b:List Zp} (h:cL w l r x a b=0):l.length+r.length≤8:=by
 unfold cL at h;by_cases h0:j2 l r x a b=0
 ·unfold j2 at h0;by_cases h8:8<l.length+r.length
  ·rw [if_pos h8] at h0; cases h0
  ·omega
 ·rw [if_pos h0] at h; exact absurd h h0
theorem node8 {ts:List (List Int)} (hts:∀ c ∈ ts,c.length≤8) {k n:Int} {x:Ex} {xs:List Ex} {gs:List Ag} {cs:List (List Int)} (h:eI ts k n x xs gs cs=0) (hc:∀ c ∈ cs,c.length≤8):(kC ts k n xs gs cs).length≤8:=by
 match cs,h,hc with
 | [],h,_ =>
  simp only [eI] at h;simp only [kC];by_cases h0:n<0∨(ts.length:Int)≤n
  ·rw [if_pos h0] at h; cases h
  ·have hn:n.toNat<ts.length:=by omega
   have e:ts.getD n.toNat []=ts[n.toNat]:=by simp [hn]
   rw [e];exact hts _ (Mk hn)
 | [c],h,hc =>
  simp only [eI] at h;simp only [kC,jY];have h8:=hc c (by simp);by_cases k3:k=3
  ·rw [if_pos k3,jD];unfold fZ at h;rw [if_neg (by omega),if_pos k3] at h;exact vJ h
  ·rw [if_neg k3];by_cases k12:k=12
   ·rw [if_pos k12,Mw,jD,MA];unfold fZ at h;rw [if_neg (by omega),if_neg k3,if_pos k12] at h;exact qC h
   ·rw [if_neg k12]; exact h8
 | l :: r :: _,h,hc =>
  simp only [eI] at h;simp only [kC,nX];have h8:=hc l (by simp);by_cases k8:k=8∨k=9
  ·rw [if_pos k8];exact Mr vB h8
  ·rw [if_neg k8];by_cases k5:k=5∨k=6
   ·rw [if_pos k5]; exact h8
   ·rw [if_neg k5,Mw];unfold pk at h;rw [if_neg k8] at h;exact C0 h
theorem qA {ts:List (List Int)} (hts:gf ts=0):∀ (p:Pl) (m d:Int),(aV ts p m d).1=0→(ag ts p).length≤8 :=
 Pl.ind fun k n x xs gs ks ih m d h=>by
  obtain ⟨_,h2,h3,_⟩:=dR h
  rw [ag]
  refine node8 (KV hts) h3 fun c hc=>?_
  rw [bB] at hc
  obtain ⟨p,hp,rfl⟩:=List.mem_map.1 hc
  obtain ⟨m',hm⟩:=fL h2 p hp
  exact ih p hp m' _ hm
end Go.Proofs.YtjebpkhkjkjphaaGreat
namespace Go.Proofs.YtjebpkhkjkjphaaGreat
open Go.RowKit Go.Lib Go.Shelf
set_option maxRecDepth 100000
set_option maxHeartbeats 16000000
def bQ (W:World) (g:Nat):Nat→List Value→World
 | _,[]=>W
 | o,v :: r=>bQ (W.setCell ⟨g,o,none⟩ v) g (o+1) r
theorem dv (g:Nat):∀ (vs:List Value) (W:World) (o b p:Nat),(b≠g∨p<o∨o+vs.length≤p)→(bQ W g o vs).cell? ⟨b,p,none⟩=W.cell? ⟨b,p,none⟩
 | [],_,_,_,_,_=>rfl
 | v :: r,W,o,b,p,h=>by
  rw [bQ,dv g r _ (o+1) b p (by simp at h; omega)]
  refine Mn _ _ _ _ (by intro e; injection e with e1 e2; simp at h; omega)
theorem jf (g:Nat):∀ (vs:List Value) (W:World) (o i:Nat) (h:i<vs.length),(∀ k,k<vs.length→∃ u,W.cell? ⟨g,o+k,none⟩=some u)→(bQ W g o vs).cell? ⟨g,o+i,none⟩=some vs[i]
 | v :: r,W,o,0,_,hr=>by
  obtain ⟨u,hu⟩:=hr 0 (by simp)
  rw [bQ,dv g r _ _ _ _ (by omega)]
  exact Nd _ _ _ hu
 | v :: r,W,o,i+1,h,hr=>by
  have:=jf g r (W.setCell ⟨g,o,none⟩ v) (o+1) i (by simpa using h) fun k hk=>by
   obtain ⟨u,hu⟩:=hr (k+1) (by simpa using hk)
   refine ⟨u,?_⟩
   rw [Mn _ _ _ _ (by intro e; injection e with e1 e2; omega)]
   rw [← hu]
   congr 2
   omega
  rw [bQ]
  rw [show o+(i+1)=o+1+i by omega,this]
  rfl
theorem jv (g:Nat):∀ (vs:List Value) (W:World) (o b p:Nat),(bQ W g o vs).frozen? ⟨b,p,none⟩=W.frozen? ⟨b,p,none⟩
 | [],_,_,_,_=>rfl
 | v :: r,W,o,b,p=>by rw [bQ,jv g r,MQ]
theorem gP (g:Nat):∀ (vs:List Value) (W:World) (o:Nat),(bQ W g o vs).heap.size=W.heap.size
 | [],_,_=>rfl
 | v :: r,W,o=>by rw [bQ,gP g r,MR]
theorem jd {B lo:Nat} {W0:World} (g:Nat) (hB:B≤g) (hg:g<lo):∀ (vs:List Value) (W:World) (o:Nat),Kept B lo W0 W→Kept B lo W0 (bQ W g o vs)
 | [],_,_,h=>h
 | v :: r,_,o,h=>jd g hB hg r _ _ (h.set g o v hB hg)
theorem jG {t:Nat} {W0:World} (g:Nat) (hg:W0.heap.size≤g) (ht:t≤W0.heap.size):∀ (vs:List Value) (W:World) (o:Nat),aP t W0 W→aP t W0 (bQ W g o vs)
 | [],_,_,h=>h
 | v :: r,_,o,h=>jG g hg ht r _ _ (h.Eb g o v hg ht)
def ph:List Value:=[.int .i64 0,.int .i64 0,.int .i64 0,.int .i64 0,.int .i64 0,.string ⟨#[]⟩,.int .i64 0,.slice none 0 0,.slice none 0 0,.slice none 0 0,.slice none 0 0,.slice none 0 0,.slice none 0 0]
def ia (n:Nat):Array Value:=((List.replicate n ph).flatten).toArray
theorem qP (n:Nat):(ia n).size=n*13:=by
 unfold ia;rw [List.size_toArray,List.length_flatten,List.map_replicate,List.sum_replicate_nat];rfl
theorem zK {n:Nat} (h:n≤2) (w:World):(Instr.makeSlice 54 (.int .i64 n) (.int .i64 n)).run Tryz.prog w = .ok (.slice (some ⟨w.heap.size,0,none⟩) n n) (w.alloc (.cells (ia n) 56)):=by
 obtain rfl | rfl | rfl:n=0∨n=1∨n=2:=by omega
 all_goals kernel_rfl
structure Bx (ts:List (List Int)) (B lo g:Nat) (W:World) (l:List Pl) (j:Nat):Prop where
 lt:g<W.heap.size
 gB:B≤g
 gl:g<lo
 room:∀ o,o<l.length*13→∃ u,W.cell? ⟨g,o,none⟩=some u
 fz:∀ o,W.frozen? ⟨g,o,none⟩=false
 laid:∀ (i:Nat) (h:i<l.length),i<j→∃ q ca cc na nc,iA W g (i*13) l[i] q∧W.cell? ⟨g,i*13+11,none⟩=some (.slice ca (ag ts l[i]).length cc)∧W.cell? ⟨g,i*13+12,none⟩=some (.slice na l[i].ks.length nc)∧Bm ts B lo W l[i] q ca na
theorem Bx.new (ts:List (List Int)) {B lo:Nat} (w:World) (l:List Pl) (hB:B≤w.heap.size) (hl:w.heap.size<lo) (T:TypeId):Bx ts B lo w.heap.size (w.alloc (.cells (ia l.length) T)) l 0:=by
 have q:=ak w (ia l.length) T;refine ⟨ae q,hB,hl,fun o ho=>?_,fun o=>Mg _ w.heap.size o _ _ q,fun i _ h=>absurd h (MP _)⟩;have hs:o<(ia l.length).size:=by rw [qP]; exact ho
 exact ⟨(ia l.length)[o],cell_of (i:=o) q (by rw [MX hs])⟩
theorem Bx.next {ts:List (List Int)} {B lo g t:Nat} {W w1:World} {l:List Pl} {j:Nat} (h:Bx ts B lo g W l j) (hb:aP t W w1) (hB:B≤t) (ht:t<g):Bx ts B lo g w1 l j:=by
 have hn:g≠t:=by omega
 have gl:=h.gl;refine ⟨Mh h.lt hb.size,h.gB,h.gl,fun o ho=>?_,fun o=>(hb.frozen (p:=⟨g,o,none⟩) h.lt hn).trans (h.fz o),fun i hi hj=>?_⟩
 ·obtain ⟨u,hu⟩:=h.room o ho;exact ⟨u,(hb.cell (p:=⟨g,o,none⟩) h.lt hn).trans hu⟩
 ·obtain ⟨q,ca,cc,na,nc,e,e1,e2,e3⟩:=h.laid i hi hj;exact ⟨q,ca,cc,na,nc,e.oE hb h.lt hn,(hb.cell (p:=⟨g,_,none⟩) h.lt hn).trans e1,(hb.cell (p:=⟨g,_,none⟩) h.lt hn).trans e2,e3.next (Kept.LY hb hB (by omega))⟩
def vO (p:Pl) (q:Pw) (ca:Option Addr) (n cc:Nat) (na:Option Addr) (nc:Nat):List Value:=[.int .i64 p.k,.int .i64 p.n,.int .i64 p.x.k,.int .i64 p.x.v.1,.int .i64 p.x.v.2.1,.string p.x.v.2.2,.int .i64 p.x.c,.slice q.xa p.x.ks.length q.xc,.slice q.sa p.xs.length q.sc,.slice q.ga p.gs.length q.gc,.slice q.ka p.ks.length q.kc,.slice ca n cc,.slice na p.ks.length nc]
theorem Bx.store {ts:List (List Int)} {B lo g:Nat} {W:World} {l:List Pl} {j:Nat} (h:Bx ts B lo g W l j) (hj:j<l.length) {q:Pw} {ca:Option Addr} {cc:Nat} {na:Option Addr} {nc:Nat} (hn:Bm ts B lo W l[j] q ca na) :
  Bx ts B lo g (bQ W g (j*13) (vO l[j] q ca (ag ts l[j]).length cc na nc)) l (j+1):=by
 have hK:=jd g h.gB h.gl (vO l[j] q ca (ag ts l[j]).length cc na nc) W (j*13) (Kept.refl B lo W);have hr:∀ k,k<(vO l[j] q ca (ag ts l[j]).length cc na nc).length→∃ u,W.cell? ⟨g,j*13+k,none⟩=some u:=fun k hk=>h.room _ (by
  have:k<13:=hk;have:(j+1)*13≤l.length*13:=M1 13 hj;omega)
 have hs:∀ (i:Nat) (hi:i<13),(bQ W g (j*13) (vO l[j] q ca (ag ts l[j]).length cc na nc)).cell? ⟨g,j*13+i,none⟩=some ((vO l[j] q ca (ag ts l[j]).length cc na nc)[i]'hi):=fun i hi=>jf g (vO l[j] q ca (ag ts l[j]).length cc na nc) W (j*13) i hi hr
 have ho:∀ o,(o<j*13∨j*13+13≤o)→(bQ W g (j*13) (vO l[j] q ca (ag ts l[j]).length cc na nc)).cell? ⟨g,o,none⟩=W.cell? ⟨g,o,none⟩:=fun o h=>dv g _ W _ _ _ (.inr h)
 refine ⟨by rw [gP]; exact h.lt,h.gB,h.gl,fun o hl=>?_,fun o=>by rw [jv]; exact h.fz o,fun i hi hij=>?_⟩
 ·by_cases c:o<j*13∨j*13+13≤o
  ·rw [ho o c]; exact h.room o hl
  ·have:=hs (o - j*13) (by omega);rw [show j*13+(o - j*13)=o by omega] at this;exact ⟨_,this⟩
 ·by_cases e:i=j
  ·subst e;refine ⟨q,ca,cc,na,nc,⟨hs 0 (by decide),hs 1 (by decide),⟨hs 2 (by decide),hs 3 (by decide),hs 4 (by decide),hs 5 (by decide),hs 6 (by decide),hs 7 (by decide)⟩,hs 8 (by decide),hs 9 (by decide),hs 10 (by decide)⟩,hs 11 (by decide),hs 12 (by decide),hn.next hK⟩
  ·obtain ⟨q',ca',cc',na',nc',e0,e1,e2,e3⟩:=h.laid i hi (by omega);have hlt:i*13+13≤j*13:=by
    have:(i+1)*13≤j*13:=M1 13 (by omega);omega
   exact ⟨q',ca',cc',na',nc',⟨(ho _ (by omega)).trans e0.c0,(ho _ (by omega)).trans e0.c1,⟨(ho _ (by omega)).trans e0.sg.c0,(ho _ (by omega)).trans e0.sg.c1,(ho _ (by omega)).trans e0.sg.c2,(ho _ (by omega)).trans e0.sg.c3,(ho _ (by omega)).trans e0.sg.c4,(ho _ (by omega)).trans e0.sg.c5⟩,(ho _ (by omega)).trans e0.c8,(ho _ (by omega)).trans e0.c9,(ho _ (by omega)).trans e0.eM⟩,(ho _ (by omega)).trans e1,(ho _ (by omega)).trans e2,e3.next hK⟩
theorem Bx.ns {ts:List (List Int)} {B lo lo' g:Nat} {W:World} {l:List Pl} (h:Bx ts B lo g W l l.length) (hl:lo'≤g):qL ts B lo' W (some ⟨g,0,none⟩) l:=by
 have gl:=h.gl;have ex:=fun (i:Nat) (hi:i<l.length)=>h.laid i hi hi
 refine .some g 0 l (fun i=>if hi:i<l.length then (ex i hi).choose else ⟨none,0,none,0,none,0,none,0⟩) (fun i=>if hi:i<l.length then (ex i hi).choose_spec.choose else none) (fun i=>if hi:i<l.length then (ex i hi).choose_spec.choose_spec.choose else 0) (fun i=>if hi:i<l.length then (ex i hi).choose_spec.choose_spec.choose_spec.choose else none) (fun i=>if hi:i<l.length then (ex i hi).choose_spec.choose_spec.choose_spec.choose_spec.choose else 0) h.lt hl ?_ ?_ ?_ ?_ ?_ ?_
 all_goals intro i hi
 all_goals simp only [hi,dite_true,Mq]
 all_goals have sp:=(ex i hi).choose_spec.choose_spec.choose_spec.choose_spec.choose_spec
 ·exact sp.1
 ·exact sp.2.1
 ·exact sp.2.2.1
 ·exact sp.2.2.2.pl
 ·exact sp.2.2.2.af.wide (by omega)
 ·exact qL.wide (by omega) sp.2.2.2.kids
end Go.Proofs.YtjebpkhkjkjphaaGreat
