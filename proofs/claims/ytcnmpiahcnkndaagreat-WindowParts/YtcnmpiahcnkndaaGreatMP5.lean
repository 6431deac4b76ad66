/- Together: J4, K7, ZF, Q2, K8, Ext2, J7, S6, ED. -/
import Derived.Shelf.Spec.SlicesGrow
import Derived.Ground.Names8Prog
import Derived.Laws.AppendOwnNone
import Derived.OrdersHeld
import Derived.RegionTactic
import Derived.Laws.EntriesVeiled
import Derived.Maps.AppendAt
import Derived.Shelf.Lay
import Derived.Test.YtcnmpiahcnkndaaGreatMP4
import Derived.Test.YtcnmpiahcnkndaaGreatMP0
import Derived.Test.YtcnmpiahcnkndaaGreatM0
/- Pairs: two sets, and whether rows of them hold with each other; all pairs are laid into one room. -/
namespace Go.Proofs.YtcnmpiahcnkndaaGreat
open Go.RowKit Go.Lib Go.Shelf

/-- What all that asks of pairs leaves as it was: all but the room R and the variable rv that leads to it. -/
structure PInv (wp:World) (R rv:Nat) (W:World):Prop where
 os:W.os=wp.os
 tape:W.tape=wp.tape
 output:W.output=wp.output
 size:wp.heap.size≤W.heap.size
 block:∀ k,k<wp.heap.size→k≠R→k≠rv→W.heap[k]? = wp.heap[k]?
 var:∃ n,W.cell? ⟨rv,0,none⟩=some (.slice (some ⟨R,0,none⟩) n 8)
 warm:W.frozen? ⟨rv,0,none⟩=false
 room:∃ cur,W.heap[R]? = some (.cells cur 38 (0,0))∧cur.size=24
/-- The room and its variable are the newest. -/
structure PNew (wp:World) (R rv:Nat):Prop where
 r:R<rv
 v:rv<wp.heap.size
theorem PInv.below {wp W:World} {R rv:Nat} (h:PInv wp R rv W) (hn:PNew wp R rv):Below R wp W :=
 ⟨h.os,h.tape,h.output,h.size,fun k hk=>h.block k (by have:=hn.r; have:=hn.v; omega) (by omega) (by have:=hn.r; omega)⟩
theorem PInv.later {wp W W':World} {R rv:Nat} (h:PInv wp R rv W) (hn:PNew wp R rv) {B:Nat} (hB:wp.heap.size≤B) (hb:Below B W W'):PInv wp R rv W':=by
 have hr:=hn.r
 have hv:=hn.v
 obtain ⟨n,hc⟩:=h.var
 obtain ⟨cur,hh,hs⟩:=h.room
 refine ⟨hb.os.trans h.os,hb.tape.trans h.tape,hb.output.trans h.output,Nat.le_trans h.size hb.size,fun k hk h1 h2=>(hb.block k (by omega)).trans (h.block k hk h1 h2),⟨n,(hb.cell (p:=⟨rv,0,none⟩) (by show rv<B; omega)).trans hc⟩,(hb.frozen (p:=⟨rv,0,none⟩) (by show rv<B; omega)).trans h.warm,cur,(hb.block R (by omega)).trans hh,hs⟩
theorem PInv.sz {wp W:World} {R rv:Nat} (h:PInv wp R rv W) (hn:PNew wp R rv):rv<W.heap.size:=Nat.lt_of_lt_of_le hn.v h.size

end Go.Proofs.YtcnmpiahcnkndaaGreat
/- The walk of ops.Filter. -/
namespace Go.Proofs.YtcnmpiahcnkndaaGreat
open Go.RowKit Go.Lib Go.Shelf

set_option maxHeartbeats 400000 in
theorem filter1_at (cols:List Int) (lo:Nat) (x:Ex) (u:Value) (b:Nat) (ra:Option Addr) (rc:Nat) (row:List Vl) (n:Int) (W:World) (hb:b<W.heap.size) (h0:W.cell? ⟨b,0,none⟩=some u) (hA:Conds cols lo u x W) (hf:FitP cols row) (hs:SlAt W ra row) :
  Calls Tryz.prog 33 #[.agg #[.slice ra row.length rc,.int .i64 n],.pointer (some ⟨b,0,none⟩)] W fun e w'=>e = .returned (.bool (holdsP x row))∧Below W.heap.size W w':=by
 obtain ⟨g,cb,rfl,eg,d⟩:=hA
 have hal:Below W.heap.size W (W.alloc (.cells #[.slice ra row.length rc,.int .i64 n] 33)):=(Below.refl _ _).alloc (Nat.le_refl _) _
 have d:=d row ra rc _ hf (hs.next hal) (Since.of hal)
 have c0:=(hal.cell (p:=⟨b,0,none⟩) hb).trans h0
 generalize holdsP x row=t at *
 go_enter Tryz.func33,Tryz.ntmps33
 go_wp2_with (go_at_fn g; refine d.mono ?_; rintro e w1 ⟨rfl,hb1⟩)
 go_ret
 exact ⟨rfl,chain hal hb1⟩

theorem row8 {cols:List Int} {z:List Zp} (h:InpOk cols z):∀ x ∈ z,x.1.length≤8:=fun x hx=>by
 have:=(h.fit x hx).len
 have:=h.cols8
 omega
theorem set_in {cols:List Int} {z:List Zp} (h:InpOk cols z):∀ x ∈ z,inW x.2=true:=fun x hx=>(((wrongZ_iff z).1 h.set).2.1 x hx).2.2
theorem set_len {cols:List Int} {z:List Zp} (h:InpOk cols z):z.length≤400:=((wrongZ_iff z).1 h.set).1

set_option maxRecDepth 100000 in
set_option maxHeartbeats 4000000 in
theorem filter_at (cols:List Int) (x:Ex) (ca:Option Addr) (ccap:Nat) (xa:Option Addr) (xcap:Nat) (a:Option Addr) (cap:Nat) (l:List Zp) (w:World) (hc:IsAt w.heap.size w ca cols) (hk:KsAt w.heap.size w xa x.ks) (h:ZsAt w a l) :
  Calls Tryz.prog 14 #[.slice ca cols.length ccap,exV x.k x.v x.c xa x.ks.length xcap,.slice a l.length cap] w fun e w'=>∃ v,e = .returned (.tuple #[v,.int .i64 (filtE cols x l)])∧OwnZ w.heap.size w' v (filtZ cols x l)∧Below w.heap.size w w':=by
 have hal:Below w.heap.size w (w.alloc (.cells #[.int .i64 x.k,.int .i64 x.v.1,.int .i64 x.v.2.1,.string x.v.2.2,.int .i64 x.c,.slice xa x.ks.length xcap] 40)):=(Below.refl _ _).alloc (Nat.le_refl _) _
 have hk':=(KsAt.next hal (Nat.le_refl _) hk).up hal.size
 have hc':=(hc.next hal (Nat.le_refl _)).up hal.size
 by_cases h1:condE cols x=0
 ·have con:=condOk_at cols x ca ccap xa xcap _ hk' hc' h1
  have H1:Hid (condE cols x=0):=h1
  clear h1
  have HE:Hid (filtE cols x l=if inpE cols l≠0 then inpE cols l else 0):=by
   show filtE cols x l=_
   unfold filtE
   rw [H1.out,if_neg (by simp)]
  generalize hfz:filtZ cols x l=fz
  generalize hfe:filtE cols x l=fe
  have HZ:Hid (filtZ cols x l=fz):=hfz
  have HF:Hid (filtE cols x l=fe):=hfe
  clear hfz hfe
  go_enter Tryz.func14,Tryz.ntmps14
  go_wp2_with fail
  generalize w.alloc (.cells #[.int .i64 x.k,.int .i64 x.v.1,.int .i64 x.v.2.1,.string x.v.2.2,.int .i64 x.c,.slice xa x.ks.length xcap] 40)=w1 at *
  refine con.mono ?_
  rintro e w2 ⟨u,rfl,hC2,hb2⟩
  clear con
  have hA:=chain hal hb2
  have hC2:=hC2.down hal.size
  obtain ⟨ug,ucb,rfl⟩:∃ g cb,u = .func (.func g) #[] cb:=by obtain ⟨g,cb,e,_⟩:=hC2; exact ⟨g,cb,e⟩
  have hal3:Below w2.heap.size w2 (w2.alloc (.cells #[.func (.func ug) #[] ucb] 71)):=(Below.refl _ _).alloc (Nat.le_refl _) _
  have hA3:=chain hA hal3
  have con:=wrongS_at cols ca ccap a cap l _ ((hc.next hA3 (Nat.le_refl _)).up hA3.size) (h.next hA3)
  have c3:(w2.alloc (.cells #[.func (.func ug) #[] ucb] 71)).cell? ⟨w2.heap.size,0,none⟩=some (.func (.func ug) #[] ucb):=by simp
  have hC3:=hC2.next (Since.of hal3)
  have z3:(w2.alloc (.cells #[.func (.func ug) #[] ucb] 71)).heap.size=w2.heap.size+1:=by simp
  clear hk' hc'
  by_cases h2:inpE cols l=0
  ·have hz:=(inpE_ok cols l).1 h2
   rw [h2] at con
   have H2:Hid (inpE cols l=0):=h2
   clear h2
   have e0:fe=0:=by rw [← HF.out,HE.out,H2.out]; rfl
   have e1:fz=canon (filtL x l):=by rw [← HZ.out]; unfold filtZ; rw [if_pos (by rw [HE.out,H2.out]; rfl)]
   have HN:Hid (fe=0):=e0
   have HV:Hid (fz=canon (filtL x l)):=e1
   clear e0 e1
   go_wp2_with fail
   generalize w2.alloc (.cells #[.func (.func ug) #[] ucb] 71)=w3 at *
   refine con.mono ?_
   rintro e w4 ⟨rfl,hb4⟩
   clear con
   have hA4:=chain hA3 hb4
   have c4:=(hb4.cell (p:=⟨w2.heap.size,0,none⟩) (by show w2.heap.size<_; omega)).trans c3
   have hC4:=hC3.next (Since.of hb4)
   have zs4:=h.next hA4
   have z4:=hb4.size
   have hl4:=set_len hz
   go_wp2_with fail
   refine (picked_at 33 #[.pointer (some ⟨w2.heap.size,0,none⟩)] (fun p=>holdsP x p.1) a cap l w4 w4 (fun W=>Below w4.heap.size w4 W) zs4 (by omega) (enters_of Tryz.func33 (by kernel_rfl) rfl) (Below.refl _ _) (fun _ h=>h) (fun _ _ h k=>h.trans k) ?_).mono ?_
   ·intro y hy ra rc W hW hs _
    refine (filter1_at cols w.heap.size x _ w2.heap.size ra rc y.1 y.2 W (by have:=hW.size; omega) ((hW.cell (p:=⟨w2.heap.size,0,none⟩) (by show w2.heap.size<_; omega)).trans c4) (hC4.next (Since.of hW)) (hz.fit y hy) (hs.next hW)).mono ?_
    rintro e w' ⟨rfl,hb⟩
    exact ⟨rfl,chain hW hb,Since.of hb⟩
   rintro e w5 ⟨v5,rfl,O5,hb5,_⟩
   obtain ⟨a5,c5,rfl,zs5,_⟩:=O5.zs hb5
   have hA5:=chain hA4 hb5
   have hfl:l.filter (fun p=>holdsP x p.1)=filtL x l:=rfl
   rw [hfl] at zs5
   have hsub:∀ y ∈ filtL x l,y ∈ l:=fun y hy=>(List.mem_filter.1 hy).1
   have hfn:(filtL x l).length≤400:=Nat.le_trans (List.length_filter_le _ _) hl4
   have hg0:gatherE (filtL x l)=0:=filt_gather hz.set _
   have con:=gathered_at a5 c5 (filtL x l) w5 zs5 (by omega) (fun y hy=>inW_big (set_in hz y (hsub y hy))) (fun y hy=>row8 hz y (hsub y hy))
   have hgz:gatherZ (filtL x l)=fz:=by rw [HV.out]; unfold gatherZ; rw [if_pos hg0]
   rw [hg0,hgz] at con
   clear hg0 hgz hC2 hC3 hC4 c3 c4 O5
   rw [hfl]
   go_wp2_with fail
   refine con.mono ?_
   rintro e w6 ⟨v6,rfl,O6,hb6⟩
   have O6':=O6.mono hA5.size
   obtain ⟨a6,c6,rfl,_⟩:=O6.zs
   go_wp2_with fail
   exact bodyPost_ret (v:=.tuple #[.slice a6 fz.length c6,.int .i64 0]) (by simp [results,Tryz.results14,go_sem]) rfl ⟨_,by rw [HN.out],O6',chain hA5 hb6⟩
  ·have e0:fe=inpE cols l:=by rw [← HF.out,HE.out,if_pos h2]
   have e1:fz = []:=by rw [← HZ.out]; unfold filtZ; rw [HE.out,if_pos h2,if_neg h2]
   have HN:Hid (fe=inpE cols l):=e0
   have HV:Hid (fz = []):=e1
   have hne:(inpE cols l != 0)=true:=by simpa using h2
   clear e0 e1
   generalize inpE cols l=t at *
   go_wp2_with fail
   generalize w2.alloc (.cells #[.func (.func ug) #[] ucb] 71)=w3 at *
   refine con.mono ?_
   rintro e w4 ⟨rfl,hb4⟩
   clear con
   go_wp2_with fail
   exact bodyPost_ret (v:=.tuple #[.slice none 0 0,.int .i64 t]) (by simp [results,Tryz.results14,go_sem]) rfl ⟨_,by rw [HN.out],by rw [HV.out]; exact own_nil _ _,chain hA3 hb4⟩
 ·have con:=condBad_at cols x ca ccap xa xcap _ hk' hc' h1
  have e0:filtE cols x l=condE cols x:=by unfold filtE; rw [if_pos h1]
  have e1:filtZ cols x l = []:=by unfold filtZ; rw [e0,if_neg h1]
  rw [e0,e1]
  have hne:(condE cols x != 0)=true:=by simpa using h1
  generalize condE cols x=t at *
  clear e0 e1
  go_enter Tryz.func14,Tryz.ntmps14
  go_wp2_with fail
  generalize w.alloc (.cells #[.int .i64 x.k,.int .i64 x.v.1,.int .i64 x.v.2.1,.string x.v.2.2,.int .i64 x.c,.slice xa x.ks.length xcap] 40)=w1 at *
  refine con.mono ?_
  rintro e w2 ⟨rfl,hb2⟩
  have hA:=chain hal hb2
  have hal3:Below w2.heap.size w2 (w2.alloc (.cells #[.nilFunc] 71)):=(Below.refl _ _).alloc (Nat.le_refl _) _
  clear con
  go_wp2_with fail
  exact bodyPost_ret (v:=.tuple #[.slice none 0 0,.int .i64 t]) (by simp [results,Tryz.results14,go_sem]) rfl ⟨_,rfl,own_nil _ _,chain hA hal3⟩
end Go.Proofs.YtcnmpiahcnkndaaGreat
/- The walk of slices.Concat at two slices of rows. -/
namespace Go.Proofs.YtcnmpiahcnkndaaGreat
open Go.RowKit Go.Lib Go.Shelf

/-- What has been laid behind each other so far. -/
def catTo (l l':List Zp):Nat→List Zp
 | 0=>[]
 | 1=>l
 | _=>l ++ l'
structure Pair (w:World) (B:Nat) (l l':List Zp):Prop where
 lt:B<w.heap.size
 at_:∀ k,k<2→∃ a cap ls,w.cell? ⟨B,k,none⟩=some (.slice a ls.length cap)∧ZsAt w a ls∧(a=none→cap=0)∧catTo l l' (k+1)=catTo l l' k ++ ls
theorem Pair.next {w w1:World} {B:Nat} {l l':List Zp} (h:Pair w B l l') (hb:Below w.heap.size w w1):Pair w1 B l l' :=
 ⟨Nat.lt_of_lt_of_le h.lt hb.size,fun k hk=>by
  obtain ⟨a,cap,ls,h1,h2,h3,h4⟩:=h.at_ k hk
  exact ⟨a,cap,ls,(hb.cell (p:=⟨B,k,none⟩) h.lt).trans h1,h2.next hb,h3,h4⟩⟩
end Go.Proofs.YtcnmpiahcnkndaaGreat
/- Sums of filters, maps and pairs, plainly. No program in sight. -/
namespace Go.Proofs.YtcnmpiahcnkndaaGreat

structure TwoOk (l r:List Int) (x:Ex) (a b:List Zp):Prop where
 len:l.length+r.length≤8
 cond:condE (l ++ r) x=0
 left:InpOk l a
 right:InpOk r b
theorem fit_right {cols:List Int} {row:List Vl} (h:FitP cols row):rightB row=true:=by
 unfold rightB
 rw [List.all_eq_true]
 intro v hv
 obtain ⟨i,hi,rfl⟩:=List.getElem_of_mem hv
 simpa [wrongP] using (h.one i hi).1
end Go.Proofs.YtcnmpiahcnkndaaGreat
/- The walk of ops.Map. -/
namespace Go.Proofs.YtcnmpiahcnkndaaGreat
open Go.RowKit Go.Lib Go.Shelf

/-- Rows with weights in a slice of one's own that was made at once: k of them are there. -/
def MTo (W:World) (B n:Nat) (f:Nat→Zp) (k:Nat):Prop:=∃ xs,W.ownsRow B 33 2 (.slice (some ⟨B,0,none⟩) n n) n xs∧∀ j:Nat,j<n→j<k→∃ a cap,xs[j*2]? = some (.slice a (f j).1.length cap)∧xs[j*2+1]? = some (.int .i64 (f j).2)∧SlAt W a (f j).1∧TyAt W a
theorem MTo.next {W w1:World} {B n:Nat} {f:Nat→Zp} {k:Nat} (h:MTo W B n f k) (hb:Below W.heap.size W w1):MTo w1 B n f k:=by
 obtain ⟨xs,h1,h2⟩:=h
 refine ⟨xs,own_next h1 hb,fun j hj hk=>?_⟩
 obtain ⟨a,cap,e0,e1,e2,e3⟩:=h2 j hj hk
 exact ⟨a,cap,e0,e1,e2.next hb,e3.next hb⟩
theorem MTo.step {W:World} {B n:Nat} {f:Nat→Zp} {k:Nat} (h:MTo W B n f k) (hk:k<n) {a:Option Addr} {cap:Nat} (hs:SlAt W a (f k).1) (ht:TyAt W a) :
  MTo ((W.setCell ⟨B,k*2,none⟩ (.slice a (f k).1.length cap)).setCell ⟨B,k*2+1,none⟩ (.int .i64 (f k).2)) B n f (k+1):=by
 obtain ⟨xs,h1,h2⟩:=h
 have lx:=h1.1
 obtain ⟨o1,g1⟩:=h1.stored (k*2) (.slice a (f k).1.length cap)
 obtain ⟨o2,g2⟩:=o1.stored (k*2+1) (.int .i64 (f k).2)
 have go:∀ {b:Option Addr} {r:List Vl},SlAt W b r→TyAt W b→SlAt ((W.setCell ⟨B,k*2,none⟩ (.slice a (f k).1.length cap)).setCell ⟨B,k*2+1,none⟩ (.int .i64 (f k).2)) b r∧TyAt ((W.setCell ⟨B,k*2,none⟩ (.slice a (f k).1.length cap)).setCell ⟨B,k*2+1,none⟩ (.int .i64 (f k).2)) b:=fun hs ht=>by
  obtain ⟨s1,t1⟩:=sl_grown hs ht h1 g1
  exact sl_grown s1 t1 o1 g2
 refine ⟨_,o2,?_⟩
 intro j hj hjk
 by_cases e:j=k
 ·subst e
  refine ⟨a,cap,?_,?_,(go hs ht).1,(go hs ht).2⟩
  ·rw [List.getElem?_set_ne (by omega)]; simp [List.getElem?_set,lx]; omega
  ·simp [List.getElem?_set,lx]; omega
 ·obtain ⟨b,c,e0,e1,e2,e3⟩:=h2 j hj (by omega)
  refine ⟨b,c,?_,?_,(go e2 e3).1,(go e2 e3).2⟩
  ·rw [List.getElem?_set_ne (by omega),List.getElem?_set_ne (by omega)]; exact e0
  ·rw [List.getElem?_set_ne (by omega),List.getElem?_set_ne (by omega)]; exact e1
theorem MTo.cells {W:World} {B n:Nat} {f:Nat→Zp} {k:Nat} (h:MTo W B n f k) (hk:k<n):(∃ u0 u1,W.cell? ⟨B,k*2,none⟩=some u0∧W.cell? ⟨B,k*2+1,none⟩=some u1)∧W.frozen? ⟨B,k*2,none⟩=false∧W.frozen? ⟨B,k*2+1,none⟩=false∧B<W.heap.size:=by
 obtain ⟨xs,h1,h2⟩:=h
 have lx:=h1.1
 refine ⟨⟨xs[k*2]'(by omega),xs[k*2+1]'(by omega),?_,?_⟩,h1.frozenAt _,h1.frozenAt _,(h1.lt B rfl).2⟩
 ·rw [h1.cellAt _ (by omega)]; exact List.getElem?_eq_getElem (by omega)
 ·rw [h1.cellAt _ (by omega)]; exact List.getElem?_eq_getElem (by omega)
theorem MTo.done {W:World} {B n:Nat} {f:Nat→Zp} (h:MTo W B n f n) (l:List Zp) (hn:n=l.length) (hv:∀ j (hj:j<l.length),f j=l[j]) (h8:l.length≤200000):ZsAt W (some ⟨B,0,none⟩) l:=by
 obtain ⟨xs,h1,h2⟩:=h
 subst hn
 refine ⟨by unfold maxLen; omega,.inr ⟨B,0,rfl,(h1.lt B rfl).2,?_⟩⟩
 intro i hi
 obtain ⟨a,cap,g0,g1,g2,_⟩:=h2 i hi hi
 rw [hv i hi] at g0 g1 g2
 refine ⟨?_,a,cap,?_,g2⟩
 ·rw [h1.cellAt _ (by omega),← g1]; congr 1; omega
 ·rw [h1.cellAt _ (by omega),← g0]; congr 1; omega

end Go.Proofs.YtcnmpiahcnkndaaGreat
/- As ..Ext, over whatever class of worlds that is kept as worlds grow: whatever only reads what was there, and calls that make memory alone, may be taken first, if what is left goes through in every world that has grown since. -/
namespace Go.Proofs.YtcnmpiahcnkndaaGreat
open Go.RowKit

section
variable {P:Program} {ops:Array Oper} {Q:Exit→Act→World→Prop} {md:Region.Mode} {C:World→Prop}

/-- In every world that has grown of the class the operation leaves v in its temporary, and a world that has grown out of that one. -/
def GrowsC (P:Program) (ops:Array Oper) (C:World→Prop) (o:Oper) (v:Value) (a:Act):Prop :=
 (Region.wanted o (yielded ops a.tmps)=true∧∀ n:World,C n→Oper.quietUpon P (fun w'=>Below n.heap.size n w') n v ((execOp a.eval o).run P n)) ∨
 (Region.wanted o (yielded ops a.tmps)=false∧v=undef)

theorem GrowsC.of_same {o:Oper} {v:Value} {a a':Act} (hy:GrowsC P ops C o v a) (he:execOp a'.eval o=execOp a.eval o)
  (hw:Region.wanted o (yielded ops a'.tmps)=Region.wanted o (yielded ops a.tmps)):GrowsC P ops C o v a':=by
 unfold GrowsC at *
 rw [he,hw]
 exact hy

theorem GrowsC.wpOp {i:Nat} {o:Oper} {v:Value} {a:Act} (hi:ops[i]? = some o) (hy:GrowsC P ops C o v a)
  {K:Act→World→Prop} {w:World} (hB:C w) (h:∀ w',Below w.heap.size w w'→K (a.put o.dst v) w'):wpOp P ops Q i K a w:=by
 unfold Go.wpOp
 simp only [hi]
 rcases hy with ⟨hw,hv⟩ | ⟨hw,rfl⟩
 ·simp only [hw,if_true]
  left
  have h3:=hv w hB
  unfold Oper.wp
  generalize (execOp a.eval o).run P w=r at *
  cases r with
  | ok n w' =>
   cases n <;> simp only [Oper.quietUpon] at h3 <;> simp only [Oper.upon]
   case value u =>
    obtain ⟨e1,e2⟩:=h3
    rw [e1,e2]
    exact h _ (Below.refl _ _)
   case skip =>
    obtain ⟨e1,e2⟩:=h3
    rw [e1,← e2]
    exact h _ (Below.refl _ _)
   case enter f args =>
    obtain ⟨e1,hc⟩:=h3
    rw [e1]
    exact hc.mono fun e w'' ⟨he,hw''⟩=>by subst he; exact h _ hw''
  | halt x w'=>simp only [Oper.quietUpon] at h3
 ·simp only [hw,Bool.false_eq_true,if_false]
  exact h _ (Below.refl _ _)

/-- One operation, apart from another one: whether that one's value is there already makes no difference to it. -/
theorem wpOp_putC {Φ:Act→Prop} {j:Nat} {oi oj:Oper} {v:Value} (hj:ops[j]? = some oj) (hap:oi.apart ops oj=true)
  (hsj:∀ cs b,oj.op ≠ .select cs b) (hQ:∀ c a w,Q (.panic c) (a.put oi.dst v) w→Q (.panic c) a w)
  (keep:∀ (a:Act),Φ a→∀ u,Φ (a.put oj.dst u)) (keepD:∀ (a:Act) (d:Deferred),Φ a→Φ { a with defers:=d :: a.defers })
  {K:Act→World→Prop} {a:Act} {w:World} (hy:Φ a) (h:wpOp P ops Q j K (a.put oi.dst v) w) :
  wpOp P ops Q j (fun a' w'=>Φ a'∧K (a'.put oi.dst v) w') a w:=by
 obtain ⟨h1,h2,_⟩:=Oper.apart_spec hap
 unfold wpOp at *
 simp only [hj] at *
 rw [wanted_put oj a oi.dst v h1] at h
 split
 ·rename_i hw
  simp only [hw,if_true] at h
  rcases h with h | ⟨hasks,hlets⟩
  case inr=>exact .inr ⟨by unfold Oper.asks at *; rw [execOp_put oj hsj a oi.dst v h1] at hasks; exact hasks,hlets⟩
  refine .inl ?_
  unfold Oper.wp at *
  rw [execOp_put oj hsj a oi.dst v h1] at h
  generalize (execOp a.eval oj).run P w=r at *
  cases r with
  | ok n w' =>
   cases n <;> simp only [Oper.upon] at h ⊢
   case value u=>exact ⟨keep a hy u,by rw [← Act.put_comm a v u h2]; exact h⟩
   case skip=>exact ⟨keep a hy _,by rw [← Act.put_comm a v undef h2]; exact h⟩
   case defer d =>
    refine ⟨keep _ (keepD a d hy) _,?_⟩
    rw [← Act.put_comm _ v undef h2,← Act.put_defers]
    exact h
   case enter f args =>
    refine Calls.mono h fun e w'' he=>?_
    cases e with
    | returned u=>exact ⟨keep a hy u,by rw [← Act.put_comm a v u h2]; exact he⟩
    | panicked c=>exact hQ _ _ _ he
    | outgrown=>exact he
   case row row args=>exact Rows.mono h fun u w'' he=>⟨keep a hy u,by rw [← Act.put_comm a v u h2]; exact he⟩
  | halt x w' =>
   cases x <;> simp only [Oper.upon] at h ⊢
   case panic u=>exact hQ _ _ _ h
 ·rename_i hw
  simp only [hw] at h
  exact ⟨keep a hy _,by rw [← Act.put_comm a v undef h2]; exact h⟩

/-- Whatever order is picked from here on, and however the world grows ahead of each operation. -/
def wpY (P:Program) (md:Region.Mode) (ops:Array Oper) (Q:Exit→Act→World→Prop) (C:World→Prop):Nat→Array Bool→Act→World→Prop
 | 0,listed,a,w=>Region.ready md ops listed = []∧∀ w',Below w.heap.size w w'→Q .normal a w'
 | fuel+1,listed,a,w=>∀ w',Below w.heap.size w w'→(Region.ready md ops listed = []→Q .normal a w') ∧
  ∀ i ∈ Region.ready md ops listed,wpOp P ops Q i (fun a' w''=>C w''∧wpY P md ops Q C fuel (listed.setIfInBounds i true) a' w'') a w'

theorem wpY.later:∀ (fuel:Nat) {listed:Array Bool} {a:Act} {w w1:World},wpY P md ops Q C fuel listed a w→Below w.heap.size w w1→wpY P md ops Q C fuel listed a w1
 | 0,_,_,_,_,h,hb=>⟨h.1,fun w' hw'=>h.2 w' (chain hb hw')⟩
 | _+1,_,_,_,_,h,hb=>fun w' hw'=>h w' (chain hb hw')

theorem wpAny_of_wpY:∀ (fuel:Nat) (listed:Array Bool) (a:Act) (w:World),wpY P md ops Q C fuel listed a w→wpAny P md ops Q fuel listed a w
 | 0,_,_,_,h=>⟨h.1,h.2 _ (Below.refl _ _)⟩
 | fuel+1,_,_,w,h=>⟨(h w (Below.refl _ _)).1,fun i hi=>wpOp_mono (fun a' w' h'=>wpAny_of_wpY fuel _ a' w' h'.2) ((h w (Below.refl _ _)).2 i hi)⟩

theorem wpY_first (hC:∀ w w',C w→Below w.heap.size w w'→C w') {i:Nat} {oi:Oper} {v:Value} (hi:ops[i]? = some oi) (hsel:∀ (j:Nat) (o:Oper) cs b,ops[j]? = some o→o.op ≠ .select cs b)
  (hQ:∀ c a w,Q (.panic c) (a.put oi.dst v) w→Q (.panic c) a w) :
  ∀ (fuel:Nat) (listed:Array Bool) (a:Act) (w:World),
   (∀ j oj,ops[j]? = some oj→j≠i→listed.getD j true=false→(∀ e ∈ oj.after,Region.binds md e=true→e.on≠i)→oi.apart ops oj=true) →
   i ∈ Region.ready md ops listed→GrowsC P ops C oi v a→C w →
   wpY P md ops Q C fuel (listed.setIfInBounds i true) (a.put oi.dst v) w→wpY P md ops Q C (fuel+1) listed a w:=by
 intro fuel
 induction fuel with
 | zero =>
  intro listed a w _ hr hy hB H w' hw'
  refine ⟨fun h=>(by rw [h] at hr; cases hr),fun j hj=>?_⟩
  by_cases hji:j=i
  ·subst hji
   exact hy.wpOp hi (hC _ _ hB hw') fun w'' hw''=>⟨hC _ _ (hC _ _ hB hw') hw'',H.later 0 (chain hw' hw'')⟩
  ·have:=ready_mono hj hji
   rw [H.1] at this
   cases this
 | succ fuel ih =>
  intro listed a w hfree hr hy hB H w' hw'
  refine ⟨fun h=>(by rw [h] at hr; cases hr),fun j hj=>?_⟩
  by_cases hji:j=i
  ·subst hji
   exact hy.wpOp hi (hC _ _ hB hw') fun w'' hw''=>⟨hC _ _ (hC _ _ hB hw') hw'',H.later (fuel+1) (chain hw' hw'')⟩
  ·have h1:=(H w' hw').2 j (ready_mono hj hji)
   obtain ⟨hjun,oj,hoj,hall⟩:=mem_ready.1 hj
   have hnot:∀ e ∈ oj.after,Region.binds md e=true→e.on≠i:=fun e he hb heq=>by
    have h1:=hall e he hb
    have h0:=(mem_ready.1 hr).1
    rw [heq] at h1
    rcases Nat.lt_or_ge i listed.size with h' | h'
    ·simp [h'] at h0 h1; rw [h0] at h1; cases h1
    ·simp [Array.getElem?_eq_none h'] at h1
   have hap:=hfree j oj hoj hji hjun hnot
   obtain ⟨_,_,h3⟩:=Oper.apart_spec hap
   have h2:=wpOp_putC (Φ:=GrowsC P ops C oi v) hoj hap (fun cs b=>hsel j oj cs b hoj) hQ
    (fun a hy u=>hy.of_same (execOp_put oi (fun cs b=>hsel i oi cs b hi) a oj.dst u h3) (wanted_put oi a oj.dst u h3)) (fun a d hy=>hy.of_same rfl rfl) hy h1
   have hfree':∀ k ok,ops[k]? = some ok→k≠i→(listed.setIfInBounds j true).getD k true=false →
     (∀ e ∈ ok.after,Region.binds md e=true→e.on≠i)→oi.apart ops ok=true:=fun k ok hk hki hun hno=>by
    refine hfree k ok hk hki ?_ hno
    by_cases hjk:j=k
    ·subst hjk; exact hjun
    ·rw [getD_set_ne true hjk] at hun; exact hun
   refine wpOp_mono (fun a' w'' h4=>⟨h4.2.1,ih (listed.setIfInBounds j true) a' w'' hfree' (ready_mono hr (Ne.symm hji)) h4.1 h4.2.1 ?_⟩) h2
   rw [Array.setIfInBounds_comm _ _ hji]
   exact h4.2.2

theorem wpY_take (hC:∀ w w',C w→Below w.heap.size w w'→C w') {i:Nat} {oi:Oper} {v:Value} {fuel:Nat} {listed:Array Bool} {a:Act} {w:World} (d:Option Tmp) (hi:ops[i]? = some oi) (hd:oi.dst=d)
  (hs:Region.noSelect ops=true) (hf:Region.free md ops listed i=true) (hr:(Region.ready md ops listed).contains i=true)
  (hQ:∀ c a w,Q (.panic c) (a.put oi.dst v) w→Q (.panic c) a w) (hy:GrowsC P ops C oi v a) (hB:C w)
  (h:wpY P md ops Q C fuel (listed.setIfInBounds i true) (a.put d v) w):wpY P md ops Q C (fuel+1) listed a w:=by
 subst hd
 exact wpY_first hC hi (Region.noSelect_spec hs) hQ fuel listed a w (Region.free_spec hi hf) (by simpa using hr) hy hB h

theorem wpY_step {rs:List Nat} {fuel:Nat} {listed:Array Bool} {a:Act} {w:World} (hr:Region.ready md ops listed=rs) (hne:rs ≠ [])
  (h:∀ w',Below w.heap.size w w'→∀ i ∈ rs,wpOp P ops Q i (fun a' w''=>C w''∧wpY P md ops Q C fuel (listed.setIfInBounds i true) a' w'') a w'):wpY P md ops Q C (fuel+1) listed a w :=
 fun w' hw'=>⟨fun h0=>absurd (hr ▸ h0) hne,hr ▸ h w' hw'⟩
theorem wpY_done {listed:Array Bool} {a:Act} {w:World} (hr:Region.ready md ops listed = []) (h:∀ w',Below w.heap.size w w'→Q .normal a w'):wpY P md ops Q C 0 listed a w:=⟨hr,h⟩

theorem wp_region_cls {id:Nat} {a:Act} {w:World} (C:World→Prop) (hm:P.follows .mixedOrders=true)
  (h:wpY P .any ops Q C ops.size (Array.replicate ops.size false) a w.drew):(Code.region id ops true).wp P Q a w :=
 wp_region_any hm (wpAny_of_wpY _ _ _ _ h)
end
end Go.Proofs.YtcnmpiahcnkndaaGreat
/- Rows that are gathered one by one beside others that are asked. -/
namespace Go.Proofs.YtcnmpiahcnkndaaGreat
open Go.RowKit Go.Lib Go.Shelf

/-- Rows in a slice of one's own, whose values lie in blocks of values, all from base on. -/
def OwnJ (base:Nat) (W:World) (v:Value) (l:List Zp):Prop:=∃ xs,W.ownsRow base 33 2 v l.length xs∧EncT W xs l∧∀ (i:Nat) (b o cap n:Nat),i<l.length→xs[i*2]? = some (.slice (some ⟨b,o,none⟩) n cap)→base≤b
theorem OwnJ.z {base:Nat} {W:World} {v:Value} {l:List Zp} (h:OwnJ base W v l):OwnZ base W v l:=by
 obtain ⟨xs,h1,h2,_⟩:=h
 exact ⟨xs,h1,h2⟩
theorem sl_since {lo:Nat} {W w1:World} {a:Option Addr} {r:List Vl} (h:SlAt W a r) (ht:TyAt W a) (hb:∀ b o,a=some ⟨b,o,none⟩→lo≤b) (hs:Since lo W w1):SlAt w1 a r∧TyAt w1 a:=by
 have key:∀ b off,a=some ⟨b,off,none⟩→w1.heap[b]? = W.heap[b]?:=by
  intro b off e
  obtain ⟨c,z,h1⟩:=ht b off e
  have hlt:b<W.heap.size:=by
   rcases Nat.lt_or_ge b W.heap.size with h | h
   ·exact h
   ·rw [Array.getElem?_eq_none h] at h1; cases h1
  exact hs.2 b (hb b off e) hlt
 refine ⟨⟨h.1,?_⟩,?_⟩
 ·rcases h.2 with h | ⟨b,off,e,hr,hlt⟩
  ·exact .inl h
  ·refine .inr ⟨b,off,e,fun i hi=>?_,Nat.lt_of_lt_of_le hlt hs.1⟩
   have k:=key b off e
   obtain ⟨c0,c1,c2⟩:=hr i hi
   exact ⟨(World.cell?_of_block (a:=⟨b,_,none⟩) k).trans c0,(World.cell?_of_block (a:=⟨b,_,none⟩) k).trans c1,(World.cell?_of_block (a:=⟨b,_,none⟩) k).trans c2⟩
 ·intro b off e
  obtain ⟨c,z,h1⟩:=ht b off e
  exact ⟨c,z,(key b off e).trans h1⟩
theorem OwnJ.since {base lo:Nat} {W w1:World} {v:Value} {l:List Zp} (h:OwnJ base W v l) (hl:lo≤base) (hs:Since lo W w1):OwnJ base w1 v l:=by
 obtain ⟨xs,h1,h2,h3⟩:=h
 refine ⟨xs,own_since h1 hl hs,⟨h2.1,fun i hi=>?_⟩,h3⟩
 obtain ⟨a,cap,e0,e1,e2,e3,e4⟩:=h2.2 i hi
 obtain ⟨g0,g1⟩:=sl_since e2 e3 (fun b o e=>by subst e; exact Nat.le_trans hl (h3 i b o cap _ hi e0)) hs
 exact ⟨a,cap,e0,e1,g0,g1,e4⟩
theorem OwnJ.nil (base:Nat) (W:World):OwnJ base W (.slice none 0 0) []:=⟨[],by simpa using World.ownsRow_nil _ _ _ _,⟨rfl,fun i hi=>by simp at hi⟩,fun i b o cap n hi=>by simp at hi⟩
theorem OwnJ.slice {base:Nat} {W:World} {v:Value} {l:List Zp} (h:OwnJ base W v l):∃ a cap,v = .slice a l.length cap:=by
 obtain ⟨a,cap,e,_⟩:=h.z.zs
 exact ⟨a,cap,e⟩
theorem OwnJ.push {W w1:World} {base:Nat} {v v':Value} {xs:List Value} {l:List Zp} {a:Option Addr} {cap:Nat} {r:List Vl} {x:Int}
  (ho:W.ownsRow base 33 2 v l.length xs) (he:EncT W xs l) (hb:∀ (i:Nat) (b o cap n:Nat),i<l.length→xs[i*2]? = some (.slice (some ⟨b,o,none⟩) n cap)→base≤b) (hs:SlAt W a r) (ht:TyAt W a) (hcp:r.length≤cap) (ha:∀ b o,a=some ⟨b,o,none⟩→base≤b)
  (ho':w1.ownsRow base 33 2 v' (l.length+1) (xs ++ [.slice a r.length cap,.int .i64 x])) (hg:W.grownBy w1 v.ownBlock):OwnJ base w1 v' (l ++ [(r,x)]):=by
 have lx:=he.1
 refine ⟨_,by simpa using ho',⟨by simp [he.1]; omega,?_⟩,?_⟩
 ·intro i hi
  by_cases hi':i<l.length
  ·obtain ⟨a',c',h1,h2,h3,h4,h5⟩:=he.2 i hi'
   have g:=sl_grown h3 h4 ho hg
   refine ⟨a',c',?_,?_,?_,g.2,?_⟩
   ·rw [List.getElem?_append_left (by omega),h1,List.getElem_append_left hi']
   ·rw [List.getElem?_append_left (by omega),h2,List.getElem_append_left hi']
   ·rw [List.getElem_append_left hi']; exact g.1
   ·rw [List.getElem_append_left hi']; exact h5
  ·have:i=l.length:=by simp at hi; omega
   subst this
   have g:=sl_grown hs ht ho hg
   refine ⟨a,cap,?_,?_,?_,g.2,?_⟩
   ·rw [List.getElem?_append_right (by omega)]; simp [lx]
   ·rw [List.getElem?_append_right (by omega)]; simp [lx]
   ·simpa using g.1
   ·simpa using hcp
 ·intro i b o c n hi h
  by_cases hi':i<l.length
  ·rw [List.getElem?_append_left (by omega)] at h
   exact hb i b o c n hi' h
  ·have:i=l.length:=by simp at hi; omega
   subst this
   rw [List.getElem?_append_right (by omega)] at h
   simp [lx] at h
   exact ha b o h.1
theorem OwnJ.lt {base:Nat} {W:World} {v:Value} {l:List Zp} (h:OwnJ base W v l) {g:Nat} (hg:v.ownBlock=some g):base≤g∧g<W.heap.size:=by
 obtain ⟨xs,h1,_⟩:=h
 exact h1.lt g hg
theorem wp_append_at {P:Program} {w:World} {o:Oper} {a:Act} {K:Act→World→Prop} {Q:Exit→Act→World→Prop} (d:Option Tmp) (hd:o.dst=d) (s x:Operand) (t:TypeId)
  (ho:o.op = .call { callee:=.builtin .append,args:=#[s,x],argTypes:=#[t,t] })
  (base:Nat) (e:TypeId) (i:TypeInfo) (z:Value) (size bytes:Nat) (ht:P.underlying t=some (.slice e)) (hi:P.info? e=some i) (hz:i.zero=some z)
  (hsize:i.size=size) (hby:i.bytes=bytes) (hzs:z.cells.size=size) (hsz:0<size)
  (v:Value) (n:Nat) (xs:List Value) (hs:a.eval s=v) (hown:w.ownsRow base e size v n xs)
  (ad:Addr) (m c:Nat) (news:List Value) (hx:a.eval x = .slice (some ad) m c) (hl:news.length=m*size) (hnews:∀ j u,news[j]? = some u→w.cell? (ad.add j)=some u) (h1:∀ u ∈ news,u.oneCell'=true)
  (h63:n+m≤maxLen) (hbytes:(n+m)*bytes≤140737488355328) (hbase:base≤w.heap.size)
  (h:∀ v' w',w'.ownsRow base e size v' (n+m) (xs ++ news)→w.grownBy w' v.ownBlock→(v'.ownBlock=v.ownBlock∨v'.ownBlock=some w.heap.size)→K (a.put d v') w'):o.wp P a w K Q:=by
 subst hd
 obtain ⟨v',w',hr,h2,h3,_,h5⟩:=run_append_own_at (P:=P) w base t o.type e i z size bytes ht hi hz hsize hby hzs hsz v n xs hown ad m c news hl hnews h1 h63 hbytes hbase
 unfold Oper.wp execOp
 simp only [ho,resolve,invoke,builtin,Sem.run_bind,Sem.run_pure,Result.andThen_ok,List.map_toArray,List.map_cons,List.map_nil,hs,hx,hr]
 exact h v' w' h2 h3 h5
theorem lt_of_heap {W:World} {b:Nat} {o:Obj} (h:W.heap[b]? = some o):b<W.heap.size:=by
 rcases Nat.lt_or_ge b W.heap.size with h' | h'
 ·exact h'
 ·rw [Array.getElem?_eq_none h'] at h; cases h
end Go.Proofs.YtcnmpiahcnkndaaGreat
/- Rows with keys, in the order of their keys, plainly; and in memory. -/
namespace Go.Proofs.YtcnmpiahcnkndaaGreat
open Go.RowKit Go.Lib Go.Shelf

/-- Keys, and a row with its weight. -/
abbrev Kp:Type:=List Vl × Zp
/-- x stands ahead of y: its keys do, or they are the same, and its row does. -/
def StK (x y:Kp):Prop:=cmpL x.1 y.1<0∨(cmpL x.1 y.1=0∧cmpL x.2.1 y.2.1<0)
instance (x y:Kp):Decidable (StK x y):=by unfold StK; exact inferInstance
theorem StK.trans {x y z:Kp} (h1:StK x y) (h2:StK y z):StK x z:=by
 rcases h1 with h1 | ⟨h1,g1⟩
 ·rcases h2 with h2 | ⟨h2,_⟩
  ·exact .inl (cmpL_lt_le h1 (by omega))
  ·exact .inl (cmpL_lt_le h1 (by omega))
 ·rcases h2 with h2 | ⟨h2,g2⟩
  ·exact .inl (cmpL_le_lt (by omega) h2)
  ·refine .inr ⟨?_,cmpL_lt_le g1 (by omega)⟩
   have a1:=cmpL_trans x.1 y.1 z.1 (by omega) (by omega)
   have n1:=cmpL_neg x.1 y.1
   have n2:=cmpL_neg y.1 z.1
   have n3:=cmpL_neg x.1 z.1
   have a2:=cmpL_trans z.1 y.1 x.1 (by omega) (by omega)
   omega
theorem StK.not {x y:Kp} (h1:StK x y) (h2:StK y x):False:=by
 have n1:=cmpL_neg x.1 y.1
 have n2:=cmpL_neg x.2.1 y.2.1
 rcases h1 with h1 | ⟨h1,g1⟩ <;> rcases h2 with h2 | ⟨h2,g2⟩ <;> omega
def insK (x:Kp):List Kp→List Kp
 | []=>[x]
 | y :: r=>if StK x y then x :: y :: r else y :: insK x r
structure ElK (W:World) (b o:Nat) (x:Kp):Prop where
 w:W.cell? ⟨b,o+2,none⟩=some (.int .i64 x.2.2)
 r:∃ ra rc,W.cell? ⟨b,o+1,none⟩=some (.slice ra x.2.1.length rc)∧SlAt W ra x.2.1
 k:∃ ka kc,W.cell? ⟨b,o,none⟩=some (.slice ka x.1.length kc)∧SlAt W ka x.1
def KdAt (W:World) (a:Option Addr) (l:List Kp):Prop:=l = []∨∃ b off,a=some ⟨b,off,none⟩∧b<W.heap.size∧∀ i (hi:i<l.length),ElK W b (off+i*3) l[i]
theorem ElK.next {W w1:World} {b o:Nat} {x:Kp} (h:ElK W b o x) (hlt:b<W.heap.size) (hb:Below W.heap.size W w1):ElK w1 b o x:=by
 obtain ⟨h1,⟨ra,rc,h2,h3⟩,ka,kc,h4,h5⟩:=h
 exact ⟨(hb.cell (p:=⟨b,_,none⟩) hlt).trans h1,⟨ra,rc,(hb.cell (p:=⟨b,_,none⟩) hlt).trans h2,h3.next hb⟩,ka,kc,(hb.cell (p:=⟨b,_,none⟩) hlt).trans h4,h5.next hb⟩
theorem KdAt.next {W w1:World} {a:Option Addr} {l:List Kp} (h:KdAt W a l) (hb:Below W.heap.size W w1):KdAt w1 a l:=by
 rcases h with h | ⟨b,off,e,hlt,hr⟩
 ·exact .inl h
 ·exact .inr ⟨b,off,e,Nat.lt_of_lt_of_le hlt hb.size,fun i hi=>(hr i hi).next hlt hb⟩
theorem KdAt.elem {W:World} {a:Option Addr} {l:List Kp} (h:KdAt W a l) {k:Nat} (hk:k<l.length):∃ b off,a=some ⟨b,off,none⟩∧b<W.heap.size∧ElK W b (off+k*3) l[k]:=by
 rcases h with h | ⟨b,off,e,hlt,hr⟩
 ·subst h; simp at hk
 ·exact ⟨b,off,e,hlt,hr k hk⟩

/-- Keys and a row, and where they lie. -/
structure Kr where
 ka:Option Addr
 kc:Nat
 keys:List Vl
 ra:Option Addr
 rc:Nat
 row:List Vl
 w:Int
/-- A slice that lies in another block than g. -/
def Off (g:Nat) (a:Option Addr) (l:List Vl):Prop:=l = []∨∀ b off,a=some ⟨b,off,none⟩→b≠g
abbrev Kg (w:World) (g:Nat):Type:={ x:Kr // (SlAt w x.ka x.keys∧Off g x.ka x.keys)∧SlAt w x.ra x.row∧Off g x.ra x.row }
instance (w:World) (g:Nat):Inhabited (Kg w g):=⟨⟨⟨none,0,[],none,0,[],0⟩,⟨⟨by simp,.inl rfl⟩,.inl rfl⟩,⟨by simp,.inl rfl⟩,.inl rfl⟩⟩
section
variable (w:World) (g:Nat)
def encK (x:Kg w g):List Value:=[.slice x.1.ka x.1.keys.length x.1.kc,.slice x.1.ra x.1.row.length x.1.rc,.int .i64 x.1.w]
def plK (x:Kg w g):Kp:=(x.1.keys,x.1.row,x.1.w)
theorem sort_block {α:Type} [Inhabited α] (enc:α→List Value) (k:Nat) (w:World) (blk off m:Nat) (dk:Array α) (os:Array Obj) {j:Nat} (hj:j<w.heap.size) (hne:j≠blk):(sortWorldK enc k w blk off m dk os).heap[j]? = w.heap[j]?:=by
 show ((Go.Sort.mapBlock _ _ _).heap ++ os)[j]? = _
 rw [Array.getElem?_append_left (by simp [Go.Sort.mapBlock,Go.Sort.ahead]; omega)]
 simp only [Go.Sort.mapBlock,Go.Sort.ahead,Array.getElem?_modify]
 rw [if_neg (by omega)]
theorem sl_sort {α:Type} [Inhabited α] {enc:α→List Value} {k:Nat} {w w':World} {blk off:Nat} {dk:Array α} {a:Option Addr} {l:List Vl} (h:SlAt w a l) (ho:Off blk a l) (hS:SWK enc k w blk off dk w'):SlAt w' a l:=by
 have hle:=hS.le
 obtain ⟨m,os,rfl⟩:=hS
 refine ⟨h.1,?_⟩
 rcases ho with ho | ho
 ·exact .inl ho
 rcases h.2 with h | ⟨b,o,e,hr,hlt⟩
 ·exact .inl h
 ·refine .inr ⟨b,o,e,fun i hi=>?_,Nat.lt_of_lt_of_le hlt hle⟩
  have k:=sort_block enc k w blk off m dk os hlt (ho b o e)
  obtain ⟨c0,c1,c2⟩:=hr i hi
  exact ⟨(World.cell?_of_block (a:=⟨b,_,none⟩) k).trans c0,(World.cell?_of_block (a:=⟨b,_,none⟩) k).trans c1,(World.cell?_of_block (a:=⟨b,_,none⟩) k).trans c2⟩
theorem below_sort {α:Type} [Inhabited α] {enc:α→List Value} {k:Nat} {w0 w w':World} {blk off:Nat} {dk:Array α} (hb:Below w0.heap.size w0 w) (hk:w0.heap.size≤blk) (hS:SWK enc k w blk off dk w'):Below w0.heap.size w0 w':=by
 obtain ⟨m,os,rfl⟩:=hS
 exact below_sortWorld hb hk

end
end Go.Proofs.YtcnmpiahcnkndaaGreat
namespace Go.Proofs
open Go.Shelf Go.RowKit Go.Lib
shelf_lay_g SlLaysF0.n20 Slsf 20 at Tryz 156 as Tryz.insK
end Go.Proofs
namespace Go.Proofs.YtcnmpiahcnkndaaGreat
open Go.RowKit Go.Lib Go.Shelf Go.Sort

end Go.Proofs.YtcnmpiahcnkndaaGreat
/- As ..Ext2, with draws counted: as ..Ext, over whatever class of worlds that is kept as worlds grow: whatever only reads what was there, and calls that make memory alone, may be taken first, if what is left goes through in every world that has grown since. -/
namespace Go.Proofs.YtcnmpiahcnkndaaGreat
open Go.RowKit
/-- A world that has grown, and has drawn no less. -/
structure BwD (w w':World):Prop where
 b:Below w.heap.size w w'
 d:w.drawn≤w'.drawn
theorem BwD.refl (w:World):BwD w w:=⟨Below.refl _ _,Nat.le_refl _⟩
theorem BwD.trans {a b c:World} (h:BwD a b) (k:BwD b c):BwD a c:=⟨chain h.b k.b,Nat.le_trans h.d k.d⟩
end Go.Proofs.YtcnmpiahcnkndaaGreat
namespace Go.Proofs.YtcnmpiahcnkndaaGreat.D

open Go.RowKit
section
variable {P:Program} {ops:Array Oper} {Q:Exit→Act→World→Prop} {md:Region.Mode} {C:World→Prop}

/-- In every world that has grown of the class the operation leaves v in its temporary, and a world that has grown out of that one. -/
def GrowsC (P:Program) (ops:Array Oper) (C:World→Prop) (o:Oper) (v:Value) (a:Act):Prop :=
 (Region.wanted o (yielded ops a.tmps)=true∧∀ n:World,C n→Oper.quietUpon P (fun w'=>BwD n w') n v ((execOp a.eval o).run P n)) ∨
 (Region.wanted o (yielded ops a.tmps)=false∧v=undef)

theorem GrowsC.of_same {o:Oper} {v:Value} {a a':Act} (hy:GrowsC P ops C o v a) (he:execOp a'.eval o=execOp a.eval o)
  (hw:Region.wanted o (yielded ops a'.tmps)=Region.wanted o (yielded ops a.tmps)):GrowsC P ops C o v a':=by
 unfold GrowsC at *
 rw [he,hw]
 exact hy

theorem GrowsC.wpOp {i:Nat} {o:Oper} {v:Value} {a:Act} (hi:ops[i]? = some o) (hy:GrowsC P ops C o v a)
  {K:Act→World→Prop} {w:World} (hB:C w) (h:∀ w',BwD w w'→K (a.put o.dst v) w'):wpOp P ops Q i K a w:=by
 unfold Go.wpOp
 simp only [hi]
 rcases hy with ⟨hw,hv⟩ | ⟨hw,rfl⟩
 ·simp only [hw,if_true]
  left
  have h3:=hv w hB
  unfold Oper.wp
  generalize (execOp a.eval o).run P w=r at *
  cases r with
  | ok n w' =>
   cases n <;> simp only [Oper.quietUpon] at h3 <;> simp only [Oper.upon]
   case value u =>
    obtain ⟨e1,e2⟩:=h3
    rw [e1,e2]
    exact h _ (BwD.refl _)
   case skip =>
    obtain ⟨e1,e2⟩:=h3
    rw [e1,← e2]
    exact h _ (BwD.refl _)
   case enter f args =>
    obtain ⟨e1,hc⟩:=h3
    rw [e1]
    exact hc.mono fun e w'' ⟨he,hw''⟩=>by subst he; exact h _ hw''
  | halt x w'=>simp only [Oper.quietUpon] at h3
 ·simp only [hw,Bool.false_eq_true,if_false]
  exact h _ (BwD.refl _)

/-- One operation, apart from another one: whether that one's value is there already makes no difference to it. -/
theorem wpOp_putC {Φ:Act→Prop} {j:Nat} {oi oj:Oper} {v:Value} (hj:ops[j]? = some oj) (hap:oi.apart ops oj=true)
  (hsj:∀ cs b,oj.op ≠ .select cs b) (hQ:∀ c a w,Q (.panic c) (a.put oi.dst v) w→Q (.panic c) a w)
  (keep:∀ (a:Act),Φ a→∀ u,Φ (a.put oj.dst u)) (keepD:∀ (a:Act) (d:Deferred),Φ a→Φ { a with defers:=d :: a.defers })
  {K:Act→World→Prop} {a:Act} {w:World} (hy:Φ a) (h:wpOp P ops Q j K (a.put oi.dst v) w) :
  wpOp P ops Q j (fun a' w'=>Φ a'∧K (a'.put oi.dst v) w') a w:=by
 obtain ⟨h1,h2,_⟩:=Oper.apart_spec hap
 unfold wpOp at *
 simp only [hj] at *
 rw [wanted_put oj a oi.dst v h1] at h
 split
 ·rename_i hw
  simp only [hw,if_true] at h
  rcases h with h | ⟨hasks,hlets⟩
  case inr=>exact .inr ⟨by unfold Oper.asks at *; rw [execOp_put oj hsj a oi.dst v h1] at hasks; exact hasks,hlets⟩
  refine .inl ?_
  unfold Oper.wp at *
  rw [execOp_put oj hsj a oi.dst v h1] at h
  generalize (execOp a.eval oj).run P w=r at *
  cases r with
  | ok n w' =>
   cases n <;> simp only [Oper.upon] at h ⊢
   case value u=>exact ⟨keep a hy u,by rw [← Act.put_comm a v u h2]; exact h⟩
   case skip=>exact ⟨keep a hy _,by rw [← Act.put_comm a v undef h2]; exact h⟩
   case defer d =>
    refine ⟨keep _ (keepD a d hy) _,?_⟩
    rw [← Act.put_comm _ v undef h2,← Act.put_defers]
    exact h
   case enter f args =>
    refine Calls.mono h fun e w'' he=>?_
    cases e with
    | returned u=>exact ⟨keep a hy u,by rw [← Act.put_comm a v u h2]; exact he⟩
    | panicked c=>exact hQ _ _ _ he
    | outgrown=>exact he
   case row row args=>exact Rows.mono h fun u w'' he=>⟨keep a hy u,by rw [← Act.put_comm a v u h2]; exact he⟩
  | halt x w' =>
   cases x <;> simp only [Oper.upon] at h ⊢
   case panic u=>exact hQ _ _ _ h
 ·rename_i hw
  simp only [hw] at h
  exact ⟨keep a hy _,by rw [← Act.put_comm a v undef h2]; exact h⟩

/-- Whatever order is picked from here on, and however the world grows ahead of each operation. -/
def wpY (P:Program) (md:Region.Mode) (ops:Array Oper) (Q:Exit→Act→World→Prop) (C:World→Prop):Nat→Array Bool→Act→World→Prop
 | 0,listed,a,w=>Region.ready md ops listed = []∧∀ w',BwD w w'→Q .normal a w'
 | fuel+1,listed,a,w=>∀ w',BwD w w'→(Region.ready md ops listed = []→Q .normal a w') ∧
  ∀ i ∈ Region.ready md ops listed,wpOp P ops Q i (fun a' w''=>C w''∧wpY P md ops Q C fuel (listed.setIfInBounds i true) a' w'') a w'

theorem wpY.later:∀ (fuel:Nat) {listed:Array Bool} {a:Act} {w w1:World},wpY P md ops Q C fuel listed a w→BwD w w1→wpY P md ops Q C fuel listed a w1
 | 0,_,_,_,_,h,hb=>⟨h.1,fun w' hw'=>h.2 w' (hb.trans hw')⟩
 | _+1,_,_,_,_,h,hb=>fun w' hw'=>h w' (hb.trans hw')

theorem wpAny_of_wpY:∀ (fuel:Nat) (listed:Array Bool) (a:Act) (w:World),wpY P md ops Q C fuel listed a w→wpAny P md ops Q fuel listed a w
 | 0,_,_,_,h=>⟨h.1,h.2 _ (BwD.refl _)⟩
 | fuel+1,_,_,w,h=>⟨(h w (BwD.refl _)).1,fun i hi=>wpOp_mono (fun a' w' h'=>wpAny_of_wpY fuel _ a' w' h'.2) ((h w (BwD.refl _)).2 i hi)⟩

theorem wpY_first (hC:∀ w w',C w→BwD w w'→C w') {i:Nat} {oi:Oper} {v:Value} (hi:ops[i]? = some oi) (hsel:∀ (j:Nat) (o:Oper) cs b,ops[j]? = some o→o.op ≠ .select cs b)
  (hQ:∀ c a w,Q (.panic c) (a.put oi.dst v) w→Q (.panic c) a w) :
  ∀ (fuel:Nat) (listed:Array Bool) (a:Act) (w:World),
   (∀ j oj,ops[j]? = some oj→j≠i→listed.getD j true=false→(∀ e ∈ oj.after,Region.binds md e=true→e.on≠i)→oi.apart ops oj=true) →
   i ∈ Region.ready md ops listed→GrowsC P ops C oi v a→C w →
   wpY P md ops Q C fuel (listed.setIfInBounds i true) (a.put oi.dst v) w→wpY P md ops Q C (fuel+1) listed a w:=by
 intro fuel
 induction fuel with
 | zero =>
  intro listed a w _ hr hy hB H w' hw'
  refine ⟨fun h=>(by rw [h] at hr; cases hr),fun j hj=>?_⟩
  by_cases hji:j=i
  ·subst hji
   exact hy.wpOp hi (hC _ _ hB hw') fun w'' hw''=>⟨hC _ _ (hC _ _ hB hw') hw'',H.later 0 (BwD.trans hw' hw'')⟩
  ·have:=ready_mono hj hji
   rw [H.1] at this
   cases this
 | succ fuel ih =>
  intro listed a w hfree hr hy hB H w' hw'
  refine ⟨fun h=>(by rw [h] at hr; cases hr),fun j hj=>?_⟩
  by_cases hji:j=i
  ·subst hji
   exact hy.wpOp hi (hC _ _ hB hw') fun w'' hw''=>⟨hC _ _ (hC _ _ hB hw') hw'',H.later (fuel+1) (BwD.trans hw' hw'')⟩
  ·have h1:=(H w' hw').2 j (ready_mono hj hji)
   obtain ⟨hjun,oj,hoj,hall⟩:=mem_ready.1 hj
   have hnot:∀ e ∈ oj.after,Region.binds md e=true→e.on≠i:=fun e he hb heq=>by
    have h1:=hall e he hb
    have h0:=(mem_ready.1 hr).1
    rw [heq] at h1
    rcases Nat.lt_or_ge i listed.size with h' | h'
    ·simp [h'] at h0 h1; rw [h0] at h1; cases h1
    ·simp [Array.getElem?_eq_none h'] at h1
   have hap:=hfree j oj hoj hji hjun hnot
   obtain ⟨_,_,h3⟩:=Oper.apart_spec hap
   have h2:=wpOp_putC (Φ:=GrowsC P ops C oi v) hoj hap (fun cs b=>hsel j oj cs b hoj) hQ
    (fun a hy u=>hy.of_same (execOp_put oi (fun cs b=>hsel i oi cs b hi) a oj.dst u h3) (wanted_put oi a oj.dst u h3)) (fun a d hy=>hy.of_same rfl rfl) hy h1
   have hfree':∀ k ok,ops[k]? = some ok→k≠i→(listed.setIfInBounds j true).getD k true=false →
     (∀ e ∈ ok.after,Region.binds md e=true→e.on≠i)→oi.apart ops ok=true:=fun k ok hk hki hun hno=>by
    refine hfree k ok hk hki ?_ hno
    by_cases hjk:j=k
    ·subst hjk; exact hjun
    ·rw [getD_set_ne true hjk] at hun; exact hun
   refine wpOp_mono (fun a' w'' h4=>⟨h4.2.1,ih (listed.setIfInBounds j true) a' w'' hfree' (ready_mono hr (Ne.symm hji)) h4.1 h4.2.1 ?_⟩) h2
   rw [Array.setIfInBounds_comm _ _ hji]
   exact h4.2.2

theorem wpY_take (hC:∀ w w',C w→BwD w w'→C w') {i:Nat} {oi:Oper} {v:Value} {fuel:Nat} {listed:Array Bool} {a:Act} {w:World} (d:Option Tmp) (hi:ops[i]? = some oi) (hd:oi.dst=d)
  (hs:Region.noSelect ops=true) (hf:Region.free md ops listed i=true) (hr:(Region.ready md ops listed).contains i=true)
  (hQ:∀ c a w,Q (.panic c) (a.put oi.dst v) w→Q (.panic c) a w) (hy:GrowsC P ops C oi v a) (hB:C w)
  (h:wpY P md ops Q C fuel (listed.setIfInBounds i true) (a.put d v) w):wpY P md ops Q C (fuel+1) listed a w:=by
 subst hd
 exact wpY_first hC hi (Region.noSelect_spec hs) hQ fuel listed a w (Region.free_spec hi hf) (by simpa using hr) hy hB h

theorem wpY_step {rs:List Nat} {fuel:Nat} {listed:Array Bool} {a:Act} {w:World} (hr:Region.ready md ops listed=rs) (hne:rs ≠ [])
  (h:∀ w',BwD w w'→∀ i ∈ rs,wpOp P ops Q i (fun a' w''=>C w''∧wpY P md ops Q C fuel (listed.setIfInBounds i true) a' w'') a w'):wpY P md ops Q C (fuel+1) listed a w :=
 fun w' hw'=>⟨fun h0=>absurd (hr ▸ h0) hne,hr ▸ h w' hw'⟩
theorem wpY_done {listed:Array Bool} {a:Act} {w:World} (hr:Region.ready md ops listed = []) (h:∀ w',BwD w w'→Q .normal a w'):wpY P md ops Q C 0 listed a w:=⟨hr,h⟩

theorem wp_region_cls {id:Nat} {a:Act} {w:World} (C:World→Prop) (hm:P.follows .mixedOrders=true)
  (h:wpY P .any ops Q C ops.size (Array.replicate ops.size false) a w.drew):(Code.region id ops true).wp P Q a w :=
 wp_region_any hm (wpAny_of_wpY _ _ _ _ h)
end
end Go.Proofs.YtcnmpiahcnkndaaGreat.D
