/- Together: ZE, J2, J3, E1, S1, S2, S3, S4, S5. -/
import Derived.Shelf.Spec.SlicesGrow
import Derived.Ground.Names8Prog
import Derived.Laws.AppendOwnNone
import Derived.Sort.LotA
import Derived.Sort.WalkA
import Derived.Shelf.SlSortCmp.Insertion
import Derived.Test.YtohjlfhmnmcndaaGreatProg
import Derived.Shelf.SlSortCmp.KitK
import Derived.Sort.WalkB2
import Derived.Sort.WalkB12
import Derived.Deep.LoopGhost
import Derived.Deep.Cut
import Derived.Test.YtohjlfhmnmcndaaGreatB2
/- The walks of slices.Grow and slices.Concat at rows. -/
namespace Go.Proofs
open Go.Shelf Go.RowKit Go.Lib
shelf_lay_g Lays8.n4 Nm8 4 at Tryz 107 as Tryz.growZ
end Go.Proofs
namespace Go.Proofs.YtohjlfhmnmcndaaGreat
open Go.RowKit Go.Lib Go.Shelf

theorem grow_at (n:Nat) (hn:n≤200000) (w:World) :
  Calls Tryz.prog 107 #[.slice none 0 0,.int .i64 n] w fun e w'=>∃ v,e = .returned v∧w'.ownsRow w.heap.size 58 2 v 0 []∧Below w.heap.size w w':=by
 obtain ⟨i0,hi,hj0,hj1,hj2⟩:=info_parts Tryz.info42
 by_cases h0:n=0
 ·subst h0
  refine (Any8.slices_Grow_room Tryz.growZ none 0 0 0 w (by omega) (by omega) (by omega) (by omega)).mono ?_
  rintro e w' ⟨rfl,rfl⟩
  exact ⟨_,rfl,World.ownsRow_nil _ _ _ _,Below.refl _ _⟩
 ·refine (Any8.slices_Grow_grow Tryz.growZ i0 _ hi hj0 (by rw [hj1]; omega) none 0 0 n [] w (by omega) (by omega) (by rw [hj2]; omega) (by omega) (by simp) (by simp) (by intro a e; cases e)).mono ?_
  rintro e w' ⟨rfl,rfl⟩
  refine ⟨_,rfl,?_,((Below.refl _ _).drew).alloc (Nat.le_refl _) _⟩
  rw [Nat.zero_add]
  have hc:=grownCap_ge w n 0 58
  have hm:=grownCap_le_maxLen w n 0 58 (by unfold maxLen; omega)
  have:=World.ownsRow_made (w:=w.drew) (base:=w.heap.size) (e:=58) (size:=2) (cur:=[].toArray ++ Builtin.zeroCells (Value.agg #[Value.slice none 0 0,Value.int IntKind.i64 0]).cells (n - 0) ++ Builtin.zeroCells (Value.agg #[Value.slice none 0 0,Value.int IntKind.i64 0]).cells (grownCap w n 0 58 - n)) (cap:=grownCap w n 0 58) (Nat.le_refl _) hm (by simp [size_zeroCells,Value.cells]; omega)
  exact this

theorem encB_append {W:World} {xs ys:List Value} {l t:List Zp} (h:EncB W xs l) (k:EncB W ys t):EncB W (xs ++ ys) (l ++ t):=by
 have lx:=h.1
 have ly:=k.1
 refine ⟨by simp [lx,ly]; omega,fun i hi=>?_⟩
 by_cases hi':i<l.length
 ·obtain ⟨a',c',h1,h2,h3⟩:=h.2 i hi'
  rw [List.getElem_append_left hi']
  refine ⟨a',c',?_,?_,h3⟩
  ·rw [List.getElem?_append_left (by omega),h1]
  ·rw [List.getElem?_append_left (by omega),h2]
 ·have hi2:i - l.length<t.length:=by simp at hi; omega
  obtain ⟨a',c',h1,h2,h3⟩:=k.2 (i - l.length) hi2
  rw [List.getElem_append_right (by omega)]
  refine ⟨a',c',?_,?_,h3⟩
  ·rw [List.getElem?_append_right (by omega),← h1]; congr 1; omega
  ·rw [List.getElem?_append_right (by omega),← h2]; congr 1; omega
theorem src_of {w:World} {a:Option Addr} {l:List Zp} (h:ZsAt w a l):∃ news,EncB w news l∧(∀ u ∈ news,u.oneCell'=true)∧(a=none→l = [])∧∀ ad,a=some ad→∀ j u,news[j]? = some u→w.cell? (ad.add j)=some u:=by
 obtain ⟨d,hd,hdl,hc⟩:=h.arr
 refine ⟨(Go.Sort.flatK (encG w) 2 d).toList,⟨by simp [hd],fun i hi=>?_⟩,?_,?_,?_⟩
 ·have hi':i<d.size:=by omega
  have e:d[i]! = d[i]:=getElem!_pos d i hi'
  have el:plG w d[i]=l[i]:=by
   have:l[i]=(d.toList.map (plG w))[i]'(by simpa using hi'):=by simp [hdl]
   rw [this]; simp
  refine ⟨d[i].1.a,d[i].1.cap,?_,?_,?_⟩
  ·rw [Array.getElem?_toList,Array.getElem?_eq_getElem (by simp; omega),← getElem!_pos,flat_even d i hi',e,← el]; rfl
  ·rw [Array.getElem?_toList,Array.getElem?_eq_getElem (by simp; omega),← getElem!_pos,flat_odd d i hi',e,← el]; rfl
  ·rw [← el]; exact d[i].2
 ·intro u hu
  obtain ⟨j,hj,rfl⟩:=List.getElem_of_mem hu
  have hj':j<d.size*2:=by simpa using hj
  have e:(Go.Sort.flatK (encG w) 2 d).toList[j]=(Go.Sort.flatK (encG w) 2 d)[j]!:=by
   rw [Array.getElem_toList,getElem!_pos]
  rw [e,Go.Sort.get_flatK _ _ _ _ hj']
  rcases Nat.mod_two_eq_zero_or_one j with h0 | h1
  ·rw [h0]; rfl
  ·rw [h1]; rfl
 ·intro e
  rcases hc with h | ⟨b,off,e',_⟩
  ·exact h
  ·rw [e] at e'; cases e'
 ·intro ad e j u hj
  have hj':j<d.size*2:=by
   rcases Nat.lt_or_ge j (d.size*2) with h | h
   ·exact h
   ·rw [List.getElem?_eq_none (by simpa using h)] at hj; cases hj
  rcases hc with h | ⟨b,off,e',hlt,hc⟩
  ·subst h; simp at hd; subst hd; simp at hj'
  ·rw [e] at e'
   injection e' with e'
   subst e'
   rw [addr_add']
   rw [Array.getElem?_toList,Array.getElem?_eq_getElem (by simpa using hj')] at hj
   injection hj with hj
   have:=hc j (by omega)
   rwa [getElem!_pos _ _ (by simpa using hj'),hj] at this
end Go.Proofs.YtohjlfhmnmcndaaGreat
/- slices.Concat at values and at numbers, as cells. -/
namespace Go.Proofs.YtohjlfhmnmcndaaGreat
open Go.RowKit Go.Lib

def catC (xs ys:List Value):Nat→List Value
 | 0=>[]
 | 1=>xs
 | _=>xs ++ ys
def catN (n m:Nat):Nat→Nat
 | 0=>0
 | 1=>n
 | _=>n+m
theorem catN_le (n m k:Nat):catN n m k≤n+m:=by
 match k with
 | 0=>simp [catN]
 | 1=>simp [catN]
 | j+2=>simp [catN]
/-- Two slices lie beside each other. -/
structure PairC (w:World) (B size n m:Nat) (xs ys:List Value):Prop where
 lt:B<w.heap.size
 at_:∀ k,k<2→∃ a cap q cs,w.cell? ⟨B,k,none⟩=some (.slice a q cap)∧Raw w a q size cs∧catC xs ys (k+1)=catC xs ys k ++ cs∧catN n m (k+1)=catN n m k+q
theorem PairC.new {w:World} {size n m:Nat} {xs ys:List Value} {a b:Option Addr} (ca cb:Nat) (h:Raw w a n size xs) (k:Raw w b m size ys) (T:TypeId) :
  PairC (w.alloc (.cells #[.slice a n ca,.slice b m cb] T)) w.heap.size size n m xs ys :=
 ⟨by simp,fun j hj=>by
  match j,hj with
  | 0,_=>exact ⟨a,ca,n,xs,by simp,h.alloc _,by simp [catC],by simp [catN]⟩
  | 1,_=>exact ⟨b,cb,m,ys,by simp,k.alloc _,by simp [catC],by simp [catN]⟩⟩
theorem PairC.next {w w1:World} {B size n m:Nat} {xs ys:List Value} (h:PairC w B size n m xs ys) (hb:Below w.heap.size w w1):PairC w1 B size n m xs ys :=
 ⟨Nat.lt_of_lt_of_le h.lt hb.size,fun k hk=>by
  obtain ⟨a,cap,q,cs,h1,h2,h3,h4⟩:=h.at_ k hk
  exact ⟨a,cap,q,cs,(hb.cell (p:=⟨B,k,none⟩) h.lt).trans h1,h2.next hb,h3,h4⟩⟩
end Go.Proofs.YtohjlfhmnmcndaaGreat
namespace Go.Proofs
open Go.Shelf Go.RowKit Go.Lib
shelf_lay_g Lays8.n4 Nm8 4 at Tryz 160 as Tryz.growV
end Go.Proofs
namespace Go.Proofs.YtohjlfhmnmcndaaGreat
open Go.RowKit Go.Lib Go.Shelf
theorem infoV:(Tryz.prog.info? 24).map (fun i=>(i.zero,i.size,i.bytes))=some (some (.agg #[.int .i64 0,.int .i64 0,.string ⟨#[]⟩]),3,32):=by kernel_rfl
theorem growV_at (n:Nat) (hn:n≤1000) (w:World) :
  Calls Tryz.prog 160 #[.slice none 0 0,.int .i64 n] w fun e w'=>∃ v,e = .returned v∧w'.ownsRow w.heap.size 24 3 v 0 []∧Below w.heap.size w w':=by
 obtain ⟨i0,hi,hj0,hj1,hj2⟩:=info_parts infoV
 by_cases h0:n=0
 ·subst h0
  refine (Any8.slices_Grow_room Tryz.growV none 0 0 0 w (by omega) (by omega) (by omega) (by omega)).mono ?_
  rintro e w' ⟨rfl,rfl⟩
  exact ⟨_,rfl,World.ownsRow_nil _ _ _ _,Below.refl _ _⟩
 ·refine (Any8.slices_Grow_grow Tryz.growV i0 _ hi hj0 (by rw [hj1]; omega) none 0 0 n [] w (by omega) (by omega) (by rw [hj2]; omega) (by omega) (by simp) (by simp) (by intro a e; cases e)).mono ?_
  rintro e w' ⟨rfl,rfl⟩
  refine ⟨_,rfl,?_,((Below.refl _ _).drew).alloc (Nat.le_refl _) _⟩
  rw [Nat.zero_add]
  have hc:=grownCap_ge w n 0 24
  have hm:=grownCap_le_maxLen w n 0 24 (by unfold maxLen; omega)
  have:=World.ownsRow_made (w:=w.drew) (base:=w.heap.size) (e:=24) (size:=3) (cur:=[].toArray ++ Builtin.zeroCells (Value.agg #[.int .i64 0,.int .i64 0,.string ⟨#[]⟩]).cells (n - 0) ++ Builtin.zeroCells (Value.agg #[.int .i64 0,.int .i64 0,.string ⟨#[]⟩]).cells (grownCap w n 0 24 - n)) (cap:=grownCap w n 0 24) (Nat.le_refl _) hm (by simp [size_zeroCells,Value.cells]; omega)
  exact this

set_option maxRecDepth 100000 in
set_option maxHeartbeats 4000000 in
theorem concatV_at (B:Nat) (n m:Nat) (xs ys:List Value) (w:World) (h:PairC w B 3 n m xs ys) (hl:n+m≤1000) :
  Calls Tryz.prog 126 #[.slice (some ⟨B,0,none⟩) 2 2] w fun e w'=>∃ v,e = .returned v∧w'.ownsRow w.heap.size 24 3 v (n+m) (xs ++ ys)∧Below w.heap.size w w':=by
 obtain ⟨i0,hi,hj0,hj1,hj2⟩:=info_parts infoV
 go_enter Tryz.func126,Tryz.ntmps126
 go_wp2_with fail
 go_loopw [3,11] (fun sz i wr=>∃ k:Nat,k≤2∧i = .int .i64 k∧sz = .int .i64 (catN n m k:Int)∧wr=w) (fun _ i _=>2 - (intOf i).toNat)
 case atStart=>exact ⟨0,by omega,rfl,rfl,rfl⟩
 case round =>
  obtain ⟨k,hk,rfl,rfl,rfl⟩:=hrel
  have hcl:=catN_le n m k
  by_cases hlt:k<2
  ·obtain ⟨a,cap,q,cs,c0,zs,hcat,hcn⟩:=h.at_ k hlt
   have hcl2:=catN_le n m (k+1)
   rw [hcn] at hcl2
   have HCat:Hid (catN n m (k+1)=catN n m k+q):=hcn
   clear hcat hcn
   generalize hq:catN n m k=r at *
   have HQ:Hid (catN n m k=r):=hq
   clear hq
   go_wp2_with fail
   go_roundw
   case rel=>exact ⟨k+1,by omega,by go_num,by rw [HCat.out]; go_num,by first | rfl | trivial⟩
   case measure=>simp [intOf]; omega
  ·have e:k=2:=by omega
   subst e
   have el:(catN n m 2:Int)=((n+m:Nat):Int):=rfl
   have gc:=growV_at (n+m) (by omega) wr
   rw [Int.natCast_add] at gc
   rw [Int.natCast_add] at el
   go_wp2_with fail
   refine gc.mono ?_
   clear gc el
   rintro e w1 ⟨v,rfl,ho,hb1⟩
   have hsh:∃ a c,v = .slice a 0 c:=by
    obtain ⟨_,⟨rfl,h0⟩ | ⟨g,c1,cur,rfl,_⟩⟩:=ho
    ·exact ⟨none,0,rfl⟩
    ·exact ⟨_,c1,rfl⟩
   obtain ⟨a1,c1,rfl⟩:=hsh
   go_wp2_with fail
   generalize hw0:wr=w0 at *
   have HW0:Hid (wr=w0):=hw0
   clear hw0
   go_loopw [6,27] (fun v i ws=>∃ k:Nat,k≤2∧i = .int .i64 k∧ws.ownsRow w0.heap.size 24 3 v (catN n m k) (catC xs ys k)∧Below w0.heap.size w0 ws) (fun _ i _=>2 - (intOf i).toNat)
   case atStart=>exact ⟨0,by omega,rfl,ho,hb1⟩
   case round =>
    clear ho
    obtain ⟨k,hk,rfl,ho,hb⟩:=hrel
    have hz:=hb.size
    by_cases hlt:k<2
    ·obtain ⟨a,cap,q,cs,c0,zs,hcat,hcn⟩:=h.at_ k hlt
     have hcl2:=catN_le n m (k+1)
     rw [hcn] at hcl2
     have HCat:Hid (catC xs ys (k+1)=catC xs ys k ++ cs):=hcat
     have HCn:Hid (catN n m (k+1)=catN n m k+q):=hcn
     clear hcat hcn
     have c0':=(hb.cell (p:=⟨B,k,none⟩) h.lt).trans c0
     have zs':Raw wr a q 3 cs:=⟨zs.len,zs.one,zs.nil,fun ad e j u hj=>(hb.cell (World.block_lt_of_cell? _ _ (zs.at_ ad e j u hj))).trans (zs.at_ ad e j u hj)⟩
     clear c0 zs
     generalize catC xs ys k=xk at *
     generalize catN n m k=nk at *
     go_wp2_with (at_builtin; refine wpList_append_raw rfl _ _ 56 rfl w0.heap.size 24 i0 _ 3 32 Tryz.underlying56 hi hj0 hj1 hj2 rfl (by decide) _ _ _ rfl ho a q cap cs rfl zs' (by unfold maxLen; omega) (by omega) (by omega) ?_)
     intro v' w5 ho5 hg5
     have hb5:Below w0.heap.size w0 w5:=hb.grown hg5 hz (fun q hq=>(ho.lt q hq).1)
     clear hg5 ho
     go_wp2_with fail
     go_roundw
     case rel=>exact ⟨k+1,by omega,by go_num,by rw [HCat.out,HCn.out]; exact ho5,hb5⟩
     case measure=>simp [intOf]; omega
    ·have e:k=2:=by omega
     subst e
     have hsh:∃ a c,u6 = .slice a (n+m) c:=by
      obtain ⟨_,⟨e,h0⟩ | ⟨g,c1,cur,e,_⟩⟩:=ho
      ·have h0:n+m=0:=h0
       exact ⟨none,0,by rw [e,h0]⟩
      ·exact ⟨_,c1,e⟩
     obtain ⟨a6,c6,rfl⟩:=hsh
     go_wp2_with fail
     go_ret
     exact ⟨_,rfl,by rw [HW0.out]; exact ho,by rw [HW0.out]; exact hb⟩
end Go.Proofs.YtohjlfhmnmcndaaGreat
/- slices.Concat at numbers. -/
namespace Go.Proofs
open Go.Shelf Go.RowKit Go.Lib
shelf_lay_g Lays8.n4 Nm8 4 at Tryz 172 as Tryz.growI
end Go.Proofs
namespace Go.Proofs.YtohjlfhmnmcndaaGreat
open Go.RowKit Go.Lib Go.Shelf
theorem infoI:(Tryz.prog.info? 3).map (fun i=>(i.zero,i.size,i.bytes))=some (some (.int .i64 0),1,8):=by kernel_rfl
theorem growI_at (n:Nat) (hn:n≤1000) (w:World) :
  Calls Tryz.prog 172 #[.slice none 0 0,.int .i64 n] w fun e w'=>∃ v,e = .returned v∧w'.ownsRow w.heap.size 3 1 v 0 []∧Below w.heap.size w w':=by
 obtain ⟨i0,hi,hj0,hj1,hj2⟩:=info_parts infoI
 by_cases h0:n=0
 ·subst h0
  refine (Any8.slices_Grow_room Tryz.growI none 0 0 0 w (by omega) (by omega) (by omega) (by omega)).mono ?_
  rintro e w' ⟨rfl,rfl⟩
  exact ⟨_,rfl,World.ownsRow_nil _ _ _ _,Below.refl _ _⟩
 ·refine (Any8.slices_Grow_grow Tryz.growI i0 _ hi hj0 (by rw [hj1]; omega) none 0 0 n [] w (by omega) (by omega) (by rw [hj2]; omega) (by omega) (by simp) (by simp) (by intro a e; cases e)).mono ?_
  rintro e w' ⟨rfl,rfl⟩
  refine ⟨_,rfl,?_,((Below.refl _ _).drew).alloc (Nat.le_refl _) _⟩
  rw [Nat.zero_add]
  have hc:=grownCap_ge w n 0 3
  have hm:=grownCap_le_maxLen w n 0 3 (by unfold maxLen; omega)
  have:=World.ownsRow_made (w:=w.drew) (base:=w.heap.size) (e:=3) (size:=1) (cur:=[].toArray ++ Builtin.zeroCells (Value.int .i64 0).cells (n - 0) ++ Builtin.zeroCells (Value.int .i64 0).cells (grownCap w n 0 3 - n)) (cap:=grownCap w n 0 3) (Nat.le_refl _) hm (by simp [size_zeroCells,Value.cells]; omega)
  exact this

set_option maxRecDepth 100000 in
set_option maxHeartbeats 4000000 in
theorem concatI_at (B:Nat) (n m:Nat) (xs ys:List Value) (w:World) (h:PairC w B 1 n m xs ys) (hl:n+m≤1000) :
  Calls Tryz.prog 142 #[.slice (some ⟨B,0,none⟩) 2 2] w fun e w'=>∃ v,e = .returned v∧w'.ownsRow w.heap.size 3 1 v (n+m) (xs ++ ys)∧Below w.heap.size w w':=by
 obtain ⟨i0,hi,hj0,hj1,hj2⟩:=info_parts infoI
 go_enter Tryz.func142,Tryz.ntmps142
 go_wp2_with fail
 go_loopw [3,11] (fun sz i wr=>∃ k:Nat,k≤2∧i = .int .i64 k∧sz = .int .i64 (catN n m k:Int)∧wr=w) (fun _ i _=>2 - (intOf i).toNat)
 case atStart=>exact ⟨0,by omega,rfl,rfl,rfl⟩
 case round =>
  obtain ⟨k,hk,rfl,rfl,rfl⟩:=hrel
  have hcl:=catN_le n m k
  by_cases hlt:k<2
  ·obtain ⟨a,cap,q,cs,c0,zs,hcat,hcn⟩:=h.at_ k hlt
   have hcl2:=catN_le n m (k+1)
   rw [hcn] at hcl2
   have HCat:Hid (catN n m (k+1)=catN n m k+q):=hcn
   clear hcat hcn
   generalize hq:catN n m k=r at *
   have HQ:Hid (catN n m k=r):=hq
   clear hq
   go_wp2_with fail
   go_roundw
   case rel=>exact ⟨k+1,by omega,by go_num,by rw [HCat.out]; go_num,by first | rfl | trivial⟩
   case measure=>simp [intOf]; omega
  ·have e:k=2:=by omega
   subst e
   have el:(catN n m 2:Int)=((n+m:Nat):Int):=rfl
   have gc:=growI_at (n+m) (by omega) wr
   rw [Int.natCast_add] at gc
   rw [Int.natCast_add] at el
   go_wp2_with fail
   refine gc.mono ?_
   clear gc el
   rintro e w1 ⟨v,rfl,ho,hb1⟩
   have hsh:∃ a c,v = .slice a 0 c:=by
    obtain ⟨_,⟨rfl,h0⟩ | ⟨g,c1,cur,rfl,_⟩⟩:=ho
    ·exact ⟨none,0,rfl⟩
    ·exact ⟨_,c1,rfl⟩
   obtain ⟨a1,c1,rfl⟩:=hsh
   go_wp2_with fail
   generalize hw0:wr=w0 at *
   have HW0:Hid (wr=w0):=hw0
   clear hw0
   go_loopw [6,27] (fun v i ws=>∃ k:Nat,k≤2∧i = .int .i64 k∧ws.ownsRow w0.heap.size 3 1 v (catN n m k) (catC xs ys k)∧Below w0.heap.size w0 ws) (fun _ i _=>2 - (intOf i).toNat)
   case atStart=>exact ⟨0,by omega,rfl,ho,hb1⟩
   case round =>
    clear ho
    obtain ⟨k,hk,rfl,ho,hb⟩:=hrel
    have hz:=hb.size
    by_cases hlt:k<2
    ·obtain ⟨a,cap,q,cs,c0,zs,hcat,hcn⟩:=h.at_ k hlt
     have hcl2:=catN_le n m (k+1)
     rw [hcn] at hcl2
     have HCat:Hid (catC xs ys (k+1)=catC xs ys k ++ cs):=hcat
     have HCn:Hid (catN n m (k+1)=catN n m k+q):=hcn
     clear hcat hcn
     have c0':=(hb.cell (p:=⟨B,k,none⟩) h.lt).trans c0
     have zs':Raw wr a q 1 cs:=⟨zs.len,zs.one,zs.nil,fun ad e j u hj=>(hb.cell (World.block_lt_of_cell? _ _ (zs.at_ ad e j u hj))).trans (zs.at_ ad e j u hj)⟩
     clear c0 zs
     generalize catC xs ys k=xk at *
     generalize catN n m k=nk at *
     go_wp2_with (at_builtin; refine wpList_append_raw rfl _ _ 45 rfl w0.heap.size 3 i0 _ 1 8 Tryz.underlying45 hi hj0 hj1 hj2 rfl (by decide) _ _ _ rfl ho a q cap cs rfl zs' (by unfold maxLen; omega) (by omega) (by omega) ?_)
     intro v' w5 ho5 hg5
     have hb5:Below w0.heap.size w0 w5:=hb.grown hg5 hz (fun q hq=>(ho.lt q hq).1)
     clear hg5 ho
     go_wp2_with fail
     go_roundw
     case rel=>exact ⟨k+1,by omega,by go_num,by rw [HCat.out,HCn.out]; exact ho5,hb5⟩
     case measure=>simp [intOf]; omega
    ·have e:k=2:=by omega
     subst e
     have hsh:∃ a c,u6 = .slice a (n+m) c:=by
      obtain ⟨_,⟨e,h0⟩ | ⟨g,c1,cur,e,_⟩⟩:=ho
      ·have h0:n+m=0:=h0
       exact ⟨none,0,by rw [e,h0]⟩
      ·exact ⟨_,c1,e⟩
     obtain ⟨a6,c6,rfl⟩:=hsh
     go_wp2_with fail
     go_ret
     exact ⟨_,rfl,by rw [HW0.out]; exact ho,by rw [HW0.out]; exact hb⟩
end Go.Proofs.YtohjlfhmnmcndaaGreat
/- slices.Concat at lists of columns, and at lists of sets. -/
namespace Go.Proofs
open Go.Shelf Go.RowKit Go.Lib
shelf_lay_g Lays8.n4 Nm8 4 at Tryz 79 as Tryz.growT
shelf_lay_g Lays8.n4 Nm8 4 at Tryz 80 as Tryz.growD
end Go.Proofs
namespace Go.Proofs.YtohjlfhmnmcndaaGreat
open Go.RowKit Go.Lib Go.Shelf
theorem infoT:(Tryz.prog.info? 45).map (fun i=>(i.zero,i.size,i.bytes))=some (some (.slice none 0 0),1,24):=by kernel_rfl
theorem growT_at (n:Nat) (hn:n≤1000) (w:World) :
  Calls Tryz.prog 79 #[.slice none 0 0,.int .i64 n] w fun e w'=>∃ v,e = .returned v∧w'.ownsRow w.heap.size 45 1 v 0 []∧Below w.heap.size w w':=by
 obtain ⟨i0,hi,hj0,hj1,hj2⟩:=info_parts infoT
 by_cases h0:n=0
 ·subst h0
  refine (Any8.slices_Grow_room Tryz.growT none 0 0 0 w (by omega) (by omega) (by omega) (by omega)).mono ?_
  rintro e w' ⟨rfl,rfl⟩
  exact ⟨_,rfl,World.ownsRow_nil _ _ _ _,Below.refl _ _⟩
 ·refine (Any8.slices_Grow_grow Tryz.growT i0 _ hi hj0 (by rw [hj1]; omega) none 0 0 n [] w (by omega) (by omega) (by rw [hj2]; omega) (by omega) (by simp) (by simp) (by intro a e; cases e)).mono ?_
  rintro e w' ⟨rfl,rfl⟩
  refine ⟨_,rfl,?_,((Below.refl _ _).drew).alloc (Nat.le_refl _) _⟩
  rw [Nat.zero_add]
  have hc:=grownCap_ge w n 0 45
  have hm:=grownCap_le_maxLen w n 0 45 (by unfold maxLen; omega)
  have:=World.ownsRow_made (w:=w.drew) (base:=w.heap.size) (e:=45) (size:=1) (cur:=[].toArray ++ Builtin.zeroCells (Value.slice none 0 0).cells (n - 0) ++ Builtin.zeroCells (Value.slice none 0 0).cells (grownCap w n 0 45 - n)) (cap:=grownCap w n 0 45) (Nat.le_refl _) hm (by simp [size_zeroCells,Value.cells]; omega)
  exact this

set_option maxRecDepth 100000 in
set_option maxHeartbeats 4000000 in
theorem concatT_at (B:Nat) (n m:Nat) (xs ys:List Value) (w:World) (h:PairC w B 1 n m xs ys) (hl:n+m≤1000) :
  Calls Tryz.prog 51 #[.slice (some ⟨B,0,none⟩) 2 2] w fun e w'=>∃ v,e = .returned v∧w'.ownsRow w.heap.size 45 1 v (n+m) (xs ++ ys)∧Below w.heap.size w w':=by
 obtain ⟨i0,hi,hj0,hj1,hj2⟩:=info_parts infoT
 go_enter Tryz.func51,Tryz.ntmps51
 go_wp2_with fail
 go_loopw [3,11] (fun sz i wr=>∃ k:Nat,k≤2∧i = .int .i64 k∧sz = .int .i64 (catN n m k:Int)∧wr=w) (fun _ i _=>2 - (intOf i).toNat)
 case atStart=>exact ⟨0,by omega,rfl,rfl,rfl⟩
 case round =>
  obtain ⟨k,hk,rfl,rfl,rfl⟩:=hrel
  have hcl:=catN_le n m k
  by_cases hlt:k<2
  ·obtain ⟨a,cap,q,cs,c0,zs,hcat,hcn⟩:=h.at_ k hlt
   have hcl2:=catN_le n m (k+1)
   rw [hcn] at hcl2
   have HCat:Hid (catN n m (k+1)=catN n m k+q):=hcn
   clear hcat hcn
   generalize hq:catN n m k=r at *
   have HQ:Hid (catN n m k=r):=hq
   clear hq
   go_wp2_with fail
   go_roundw
   case rel=>exact ⟨k+1,by omega,by go_num,by rw [HCat.out]; go_num,by first | rfl | trivial⟩
   case measure=>simp [intOf]; omega
  ·have e:k=2:=by omega
   subst e
   have el:(catN n m 2:Int)=((n+m:Nat):Int):=rfl
   have gc:=growT_at (n+m) (by omega) wr
   rw [Int.natCast_add] at gc
   rw [Int.natCast_add] at el
   go_wp2_with fail
   refine gc.mono ?_
   clear gc el
   rintro e w1 ⟨v,rfl,ho,hb1⟩
   have hsh:∃ a c,v = .slice a 0 c:=by
    obtain ⟨_,⟨rfl,h0⟩ | ⟨g,c1,cur,rfl,_⟩⟩:=ho
    ·exact ⟨none,0,rfl⟩
    ·exact ⟨_,c1,rfl⟩
   obtain ⟨a1,c1,rfl⟩:=hsh
   go_wp2_with fail
   generalize hw0:wr=w0 at *
   have HW0:Hid (wr=w0):=hw0
   clear hw0
   go_loopw [6,27] (fun v i ws=>∃ k:Nat,k≤2∧i = .int .i64 k∧ws.ownsRow w0.heap.size 45 1 v (catN n m k) (catC xs ys k)∧Below w0.heap.size w0 ws) (fun _ i _=>2 - (intOf i).toNat)
   case atStart=>exact ⟨0,by omega,rfl,ho,hb1⟩
   case round =>
    clear ho
    obtain ⟨k,hk,rfl,ho,hb⟩:=hrel
    have hz:=hb.size
    by_cases hlt:k<2
    ·obtain ⟨a,cap,q,cs,c0,zs,hcat,hcn⟩:=h.at_ k hlt
     have hcl2:=catN_le n m (k+1)
     rw [hcn] at hcl2
     have HCat:Hid (catC xs ys (k+1)=catC xs ys k ++ cs):=hcat
     have HCn:Hid (catN n m (k+1)=catN n m k+q):=hcn
     clear hcat hcn
     have c0':=(hb.cell (p:=⟨B,k,none⟩) h.lt).trans c0
     have zs':Raw wr a q 1 cs:=⟨zs.len,zs.one,zs.nil,fun ad e j u hj=>(hb.cell (World.block_lt_of_cell? _ _ (zs.at_ ad e j u hj))).trans (zs.at_ ad e j u hj)⟩
     clear c0 zs
     generalize catC xs ys k=xk at *
     generalize catN n m k=nk at *
     go_wp2_with (at_builtin; refine wpList_append_raw rfl _ _ 22 rfl w0.heap.size 45 i0 _ 1 24 Tryz.underlying22 hi hj0 hj1 hj2 rfl (by decide) _ _ _ rfl ho a q cap cs rfl zs' (by unfold maxLen; omega) (by omega) (by omega) ?_)
     intro v' w5 ho5 hg5
     have hb5:Below w0.heap.size w0 w5:=hb.grown hg5 hz (fun q hq=>(ho.lt q hq).1)
     clear hg5 ho
     go_wp2_with fail
     go_roundw
     case rel=>exact ⟨k+1,by omega,by go_num,by rw [HCat.out,HCn.out]; exact ho5,hb5⟩
     case measure=>simp [intOf]; omega
    ·have e:k=2:=by omega
     subst e
     have hsh:∃ a c,u6 = .slice a (n+m) c:=by
      obtain ⟨_,⟨e,h0⟩ | ⟨g,c1,cur,e,_⟩⟩:=ho
      ·have h0:n+m=0:=h0
       exact ⟨none,0,by rw [e,h0]⟩
      ·exact ⟨_,c1,e⟩
     obtain ⟨a6,c6,rfl⟩:=hsh
     go_wp2_with fail
     go_ret
     exact ⟨_,rfl,by rw [HW0.out]; exact ho,by rw [HW0.out]; exact hb⟩
theorem infoSD:(Tryz.prog.info? 34).map (fun i=>(i.zero,i.size,i.bytes))=some (some (.slice none 0 0),1,24):=by kernel_rfl
theorem growD_at (n:Nat) (hn:n≤1000) (w:World) :
  Calls Tryz.prog 80 #[.slice none 0 0,.int .i64 n] w fun e w'=>∃ v,e = .returned v∧w'.ownsRow w.heap.size 34 1 v 0 []∧Below w.heap.size w w':=by
 obtain ⟨i0,hi,hj0,hj1,hj2⟩:=info_parts infoSD
 by_cases h0:n=0
 ·subst h0
  refine (Any8.slices_Grow_room Tryz.growD none 0 0 0 w (by omega) (by omega) (by omega) (by omega)).mono ?_
  rintro e w' ⟨rfl,rfl⟩
  exact ⟨_,rfl,World.ownsRow_nil _ _ _ _,Below.refl _ _⟩
 ·refine (Any8.slices_Grow_grow Tryz.growD i0 _ hi hj0 (by rw [hj1]; omega) none 0 0 n [] w (by omega) (by omega) (by rw [hj2]; omega) (by omega) (by simp) (by simp) (by intro a e; cases e)).mono ?_
  rintro e w' ⟨rfl,rfl⟩
  refine ⟨_,rfl,?_,((Below.refl _ _).drew).alloc (Nat.le_refl _) _⟩
  rw [Nat.zero_add]
  have hc:=grownCap_ge w n 0 34
  have hm:=grownCap_le_maxLen w n 0 34 (by unfold maxLen; omega)
  have:=World.ownsRow_made (w:=w.drew) (base:=w.heap.size) (e:=34) (size:=1) (cur:=[].toArray ++ Builtin.zeroCells (Value.slice none 0 0).cells (n - 0) ++ Builtin.zeroCells (Value.slice none 0 0).cells (grownCap w n 0 34 - n)) (cap:=grownCap w n 0 34) (Nat.le_refl _) hm (by simp [size_zeroCells,Value.cells]; omega)
  exact this

set_option maxRecDepth 100000 in
set_option maxHeartbeats 4000000 in
theorem concatD_at (B:Nat) (n m:Nat) (xs ys:List Value) (w:World) (h:PairC w B 1 n m xs ys) (hl:n+m≤1000) :
  Calls Tryz.prog 54 #[.slice (some ⟨B,0,none⟩) 2 2] w fun e w'=>∃ v,e = .returned v∧w'.ownsRow w.heap.size 34 1 v (n+m) (xs ++ ys)∧Below w.heap.size w w':=by
 obtain ⟨i0,hi,hj0,hj1,hj2⟩:=info_parts infoSD
 go_enter Tryz.func54,Tryz.ntmps54
 go_wp2_with fail
 go_loopw [3,11] (fun sz i wr=>∃ k:Nat,k≤2∧i = .int .i64 k∧sz = .int .i64 (catN n m k:Int)∧wr=w) (fun _ i _=>2 - (intOf i).toNat)
 case atStart=>exact ⟨0,by omega,rfl,rfl,rfl⟩
 case round =>
  obtain ⟨k,hk,rfl,rfl,rfl⟩:=hrel
  have hcl:=catN_le n m k
  by_cases hlt:k<2
  ·obtain ⟨a,cap,q,cs,c0,zs,hcat,hcn⟩:=h.at_ k hlt
   have hcl2:=catN_le n m (k+1)
   rw [hcn] at hcl2
   have HCat:Hid (catN n m (k+1)=catN n m k+q):=hcn
   clear hcat hcn
   generalize hq:catN n m k=r at *
   have HQ:Hid (catN n m k=r):=hq
   clear hq
   go_wp2_with fail
   go_roundw
   case rel=>exact ⟨k+1,by omega,by go_num,by rw [HCat.out]; go_num,by first | rfl | trivial⟩
   case measure=>simp [intOf]; omega
  ·have e:k=2:=by omega
   subst e
   have el:(catN n m 2:Int)=((n+m:Nat):Int):=rfl
   have gc:=growD_at (n+m) (by omega) wr
   rw [Int.natCast_add] at gc
   rw [Int.natCast_add] at el
   go_wp2_with fail
   refine gc.mono ?_
   clear gc el
   rintro e w1 ⟨v,rfl,ho,hb1⟩
   have hsh:∃ a c,v = .slice a 0 c:=by
    obtain ⟨_,⟨rfl,h0⟩ | ⟨g,c1,cur,rfl,_⟩⟩:=ho
    ·exact ⟨none,0,rfl⟩
    ·exact ⟨_,c1,rfl⟩
   obtain ⟨a1,c1,rfl⟩:=hsh
   go_wp2_with fail
   generalize hw0:wr=w0 at *
   have HW0:Hid (wr=w0):=hw0
   clear hw0
   go_loopw [6,27] (fun v i ws=>∃ k:Nat,k≤2∧i = .int .i64 k∧ws.ownsRow w0.heap.size 34 1 v (catN n m k) (catC xs ys k)∧Below w0.heap.size w0 ws) (fun _ i _=>2 - (intOf i).toNat)
   case atStart=>exact ⟨0,by omega,rfl,ho,hb1⟩
   case round =>
    clear ho
    obtain ⟨k,hk,rfl,ho,hb⟩:=hrel
    have hz:=hb.size
    by_cases hlt:k<2
    ·obtain ⟨a,cap,q,cs,c0,zs,hcat,hcn⟩:=h.at_ k hlt
     have hcl2:=catN_le n m (k+1)
     rw [hcn] at hcl2
     have HCat:Hid (catC xs ys (k+1)=catC xs ys k ++ cs):=hcat
     have HCn:Hid (catN n m (k+1)=catN n m k+q):=hcn
     clear hcat hcn
     have c0':=(hb.cell (p:=⟨B,k,none⟩) h.lt).trans c0
     have zs':Raw wr a q 1 cs:=⟨zs.len,zs.one,zs.nil,fun ad e j u hj=>(hb.cell (World.block_lt_of_cell? _ _ (zs.at_ ad e j u hj))).trans (zs.at_ ad e j u hj)⟩
     clear c0 zs
     generalize catC xs ys k=xk at *
     generalize catN n m k=nk at *
     go_wp2_with (at_builtin; refine wpList_append_raw rfl _ _ 32 rfl w0.heap.size 34 i0 _ 1 24 Tryz.underlying32 hi hj0 hj1 hj2 rfl (by decide) _ _ _ rfl ho a q cap cs rfl zs' (by unfold maxLen; omega) (by omega) (by omega) ?_)
     intro v' w5 ho5 hg5
     have hb5:Below w0.heap.size w0 w5:=hb.grown hg5 hz (fun q hq=>(ho.lt q hq).1)
     clear hg5 ho
     go_wp2_with fail
     go_roundw
     case rel=>exact ⟨k+1,by omega,by go_num,by rw [HCat.out,HCn.out]; exact ho5,hb5⟩
     case measure=>simp [intOf]; omega
    ·have e:k=2:=by omega
     subst e
     have hsh:∃ a c,u6 = .slice a (n+m) c:=by
      obtain ⟨_,⟨e,h0⟩ | ⟨g,c1,cur,e,_⟩⟩:=ho
      ·have h0:n+m=0:=h0
       exact ⟨none,0,by rw [e,h0]⟩
      ·exact ⟨_,c1,e⟩
     obtain ⟨a6,c6,rfl⟩:=hsh
     go_wp2_with fail
     go_ret
     exact ⟨_,rfl,by rw [HW0.out]; exact ho,by rw [HW0.out]; exact hb⟩
end Go.Proofs.YtohjlfhmnmcndaaGreat
/- Stable sorting, plain: what a stable sort by insertion and by merging in place makes of a row. No program in sight. -/
namespace Go.Proofs.YtohjlfhmnmcndaaGreat
open Go.Sort
variable {α:Type} [Inhabited α]

/-- What is asked of an order, and of what came first. -/
structure Ordr (cf:α→α→Int) (pre:α→α→Prop):Prop where
 neg:∀ x y,cf x y = - cf y x
 trans:∀ x y z,cf x y≤0→cf y z≤0→cf x z≤0
 ptrans:∀ x y z,pre x y→pre y z→pre x z
/-- x stands ahead of y: it is less, or neither is, and it came first. -/
def St (cf:α→α→Int) (pre:α→α→Prop) (x y:α):Prop:=cf x y<0∨(cf x y=0∧pre x y)
variable {cf:α→α→Int} {pre:α→α→Prop}
omit [Inhabited α] in
theorem Ordr.lt_le (h:Ordr cf pre) {x y z:α} (h1:cf x y<0) (h2:cf y z≤0):cf x z<0:=by
 have h3:=h.trans x y z (by omega) h2
 by_cases e:cf x z=0
 ·have h4:=h.trans y z x h2 (by have:=h.neg x z; omega)
  have:=h.neg x y
  omega
 ·omega
omit [Inhabited α] in
theorem Ordr.le_lt (h:Ordr cf pre) {x y z:α} (h1:cf x y≤0) (h2:cf y z<0):cf x z<0:=by
 have h3:=h.trans x y z h1 (by omega)
 by_cases e:cf x z=0
 ·have h4:=h.trans z x y (by have:=h.neg x z; omega) h1
  have:=h.neg y z
  omega
 ·omega
omit [Inhabited α] in
theorem St.le {x y:α} (h:St cf pre x y):cf x y≤0:=by rcases h with h | ⟨h,_⟩ <;> omega
omit [Inhabited α] in
theorem St.trans (h:Ordr cf pre) {x y z:α} (h1:St cf pre x y) (h2:St cf pre y z):St cf pre x z:=by
 rcases h1 with h1 | ⟨h1,p1⟩
 ·exact .inl (h.lt_le h1 h2.le)
 ·rcases h2 with h2 | ⟨h2,p2⟩
  ·exact .inl (h.le_lt (by omega) h2)
  ·have a:=h.trans x y z (by omega) (by omega)
   have b:=h.trans z y x (by have:=h.neg y z; omega) (by have:=h.neg x y; omega)
   have:=h.neg x z
   exact .inr ⟨by omega,h.ptrans _ _ _ p1 p2⟩
omit [Inhabited α] in
theorem St.of (h:Ordr cf pre) {x y:α} (h1:¬ cf y x<0) (h2:pre x y):St cf pre x y:=by
 have:=h.neg x y
 by_cases e:cf x y=0
 ·exact .inr ⟨e,h2⟩
 ·exact .inl (by omega)

def SortS (cf:α→α→Int) (pre:α→α→Prop) (a b:Nat) (d:Array α):Prop:=∀ i j,a≤i→i<j→j<b→St cf pre d[i]! d[j]!
def PreIn (pre:α→α→Prop) (a m b:Nat) (d:Array α):Prop:=∀ i j,a≤i→i<m→m≤j→j<b→pre d[i]! d[j]!
def PreS (pre:α→α→Prop) (a b:Nat) (d:Array α):Prop:=∀ i j,a≤i→i<j→j<b→pre d[i]! d[j]!

/-! ### By insertion -/
structure InsS (cf:α→α→Int) (pre:α→α→Prop) (a j i:Nat) (d:Array α):Prop where
 rest:∀ p q,a≤p→p<q→q≤i→p≠j→q≠j→St cf pre d[p]! d[q]!
 right:∀ q,j<q→q≤i→cf d[j]! d[q]! < 0
 left:∀ p,a≤p→p<j→pre d[p]! d[j]!
theorem InsS.stop (h:Ordr cf pre) {a j i:Nat} {d:Array α} (hI:InsS cf pre a j i d) (hs:j≤a∨ltOf cf d[j]! d[j - 1]! = false):SortS cf pre a (i+1) d:=by
 intro p q hap hpq hqi
 by_cases hq:q=j
 ·subst hq
  rcases hs with hs | hs
  ·omega
  ·have hs':¬ cf d[q]! d[q - 1]! < 0:=by simpa [ltOf] using hs
   have s1:St cf pre d[q - 1]! d[q]!:=St.of h hs' (hI.left (q - 1) (by omega) (by omega))
   by_cases hp:p=q - 1
   ·subst hp; exact s1
   ·exact (hI.rest p (q - 1) hap (by omega) (by omega) (by omega) (by omega)).trans h s1
 ·by_cases hp:p=j
  ·subst hp; exact .inl (hI.right q hpq (by omega))
  ·exact hI.rest p q hap hpq (by omega) hp hq
theorem InsS.step {a j i:Nat} {d:Array α} (h:InsS cf pre a (j+1) i d) (hl:ltOf cf d[j+1]! d[j]! = true) (haj:a≤j) (hsz:j+1<d.size):InsS cf pre a j i (swp d (j+1) j):=by
 have g:=swp_get d hsz (show j<d.size by omega)
 have hl':cf d[j+1]! d[j]! < 0:=by simpa [ltOf] using hl
 refine ⟨?_,?_,?_⟩
 ·intro p q hap hpq hqi hp hq
  rw [g,g]
  by_cases hq1:q=j+1
  ·subst hq1
   simp only [hq,hp,if_false,if_true,show p≠j+1 by omega]
   exact h.rest p j hap (by omega) (by omega) (by omega) (by omega)
  ·by_cases hp1:p=j+1
   ·subst hp1
    simp only [hq,hp,hq1,if_false,if_true]
    exact h.rest j q haj (by omega) hqi (by omega) hq1
   ·simp only [hq,hp,hq1,hp1,if_false]
    exact h.rest p q hap hpq hqi hp1 hq1
 ·intro q hjq hqi
  rw [g,g]
  by_cases hq1:q=j+1
  ·subst hq1
   simpa [show j+1≠j by omega] using hl'
  ·simp only [if_true,show q≠j by omega,hq1,if_false]
   exact h.right q (by omega) hqi
 ·intro p hap hpj
  rw [g,g]
  simp only [show p≠j by omega,show p≠j+1 by omega,if_false,if_true]
  exact h.left p hap (by omega)
theorem insInnerS (h:Ordr cf pre) (a b i:Nat) (hib:i<b) :
  ∀ (j:Nat) (d:Array α),a≤j→j≤i→b≤d.size→InsS cf pre a j i d→PermIn a (i+1) d (insInner (ltOf cf) a j d)∧SortS cf pre a (i+1) (insInner (ltOf cf) a j d)
 | 0,d,_,_,_,hI=>by
  unfold insInner
  exact ⟨permIn_refl d a _,hI.stop h (Or.inl (Nat.zero_le _))⟩
 | j+1,d,haj,hji,hb,hI=>by
  unfold insInner
  split
  ·rename_i hc
   simp only [Bool.and_eq_true,decide_eq_true_eq] at hc
   have ih:=insInnerS h a b i hib j (swp d (j+1) j) (by omega) (by omega) (by rw [swp_size]; exact hb) (hI.step hc.2 (by omega) (by omega))
   exact ⟨permIn_trans _ _ _ a (i+1) (swp_permIn d a (i+1) (j+1) j haj (by omega) (by omega) (by omega) (by omega)) ih.1,ih.2⟩
  ·rename_i hc
   simp only [Bool.and_eq_true,decide_eq_true_eq,not_and,Bool.not_eq_true] at hc
   refine ⟨permIn_refl d a _,hI.stop h ?_⟩
   by_cases h:j+1 > a
   ·exact Or.inr (by simpa using hc h)
   ·exact Or.inl (by omega)
theorem insOuterS (h:Ordr cf pre) (a b:Nat) :
  ∀ (n i:Nat) (d:Array α),b - i=n→a<i→i≤b→b≤d.size→SortS cf pre a i d→PreIn pre a i b d→PreS pre i b d→PermIn a b d (insOuter (ltOf cf) a b i d)∧SortS cf pre a b (insOuter (ltOf cf) a b i d)
 | 0,i,d,hn,_,hib,_,hs,_,_=>by
  obtain rfl:i=b:=by omega
  rw [insOuter,if_neg (by omega)]
  exact ⟨permIn_refl d a i,hs⟩
 | n+1,i,d,hn,hai,hib,hb,hs,hp,hq=>by
  have hlt:i<b:=by omega
  rw [insOuter,if_pos hlt]
  have h1:=insInnerS h a b i hlt i d (by omega) (Nat.le_refl _) hb ⟨fun p q hap hpq hqi _ hq=>hs p q hap hpq (by omega),fun q h1 h2=>by omega,fun p h1 h2=>hp p i h1 h2 (Nat.le_refl _) hlt⟩
  have out:∀ q,i+1≤q→(insInner (ltOf cf) a i d)[q]! = d[q]!:=fun q hq'=>h1.1.2.1 q (Or.inr hq')
  have p1:PreIn pre a (i+1) b (insInner (ltOf cf) a i d):=by
   intro p q hap hpi hiq hqb
   rw [out q hiq]
   refine permIn_all d _ a (i+1) (fun x=>pre x d[q]!) (by omega) h1.1 ?_ p hap hpi
   intro p hap hpi
   by_cases e:p=i
   ·subst e; exact hq p q (Nat.le_refl _) hiq hqb
   ·exact hp p q hap (by omega) (by omega) hqb
  have q1:PreS pre (i+1) b (insInner (ltOf cf) a i d):=by
   intro p q hap hpq hqb
   rw [out p hap,out q (by omega)]
   exact hq p q (by omega) hpq hqb
  have h2:=insOuterS h a b n (i+1) (insInner (ltOf cf) a i d) (by omega) (by omega) (by omega) (by rw [h1.1.1]; exact hb) h1.2 p1 q1
  exact ⟨permIn_trans _ _ _ a b (permIn_mono _ _ a (i+1) a b (Nat.le_refl _) (by omega) hb h1.1) h2.1,h2.2⟩
theorem insertionS (h:Ordr cf pre) (a b:Nat) (d:Array α) (hab:a≤b) (hb:b≤d.size) (hp:PreS pre a b d):PermIn a b d (insertionSort (ltOf cf) d a b)∧SortS cf pre a b (insertionSort (ltOf cf) d a b):=by
 unfold insertionSort
 by_cases e:a=b
 ·subst e
  rw [insOuter,if_neg (by omega)]
  exact ⟨permIn_refl d a a,fun i j h1 h2 h3=>by omega⟩
 ·exact insOuterS h a b (b - (a+1)) (a+1) d rfl (by omega) (by omega) hb (fun i j h1 h2 h3=>by omega) (fun i j h1 h2 h3 h4=>hp i j h1 (by omega) h4) (fun i j h1 h2 h3=>hp i j (by omega) h2 h3)

/-! ### Rows exchanged, and turned -/
/-- n places from a on are exchanged with those from b on. -/
def Swpd (a b n:Nat) (d d':Array α):Prop:=d'.size=d.size∧∀ i,d'[i]! = if a≤i∧i<a+n then d[b+(i - a)]! else if b≤i∧i<b+n then d[a+(i - b)]! else d[i]!
/-- [a, m) and [m, b) change places. -/
def Rot (a m b:Nat) (d d':Array α):Prop:=d'.size=d.size∧∀ i,d'[i]! = if a≤i∧i<a+(b - m) then d[m+(i - a)]! else if a+(b - m)≤i∧i<b then d[a+(i - (a+(b - m)))]! else d[i]!
theorem Swpd.zero (a b:Nat) (d:Array α):Swpd a b 0 d d:=⟨rfl,fun i=>by rw [if_neg (by omega),if_neg (by omega)]⟩
theorem Swpd.step {a b n:Nat} {d d':Array α} (h:Swpd a b n d d') (hab:a+n<b) (hb:b+n<d.size):Swpd a b (n+1) d (swp d' (a+n) (b+n)):=by
 have sz:=h.1
 refine ⟨by rw [swp_size]; exact sz,fun i=>?_⟩
 rw [swp_get d' (show a+n<d'.size by omega) (show b+n<d'.size by omega),h.2,h.2,h.2]
 by_cases e1:i=b+n
 ·subst e1
  rw [if_pos rfl,if_neg (by omega),if_neg (by omega),if_neg (by omega),if_pos (by omega)]
  congr 1; omega
 ·rw [if_neg e1]
  by_cases e2:i=a+n
  ·subst e2
   rw [if_pos rfl,if_neg (by omega),if_neg (by omega),if_pos (by omega)]
   congr 1; omega
  ·rw [if_neg e2]
   by_cases c1:a≤i∧i<a+n
   ·rw [if_pos c1,if_pos (by omega)]
   ·rw [if_neg c1,if_neg (show ¬ (a≤i∧i<a+(n+1)) by omega)]
    by_cases c2:b≤i∧i<b+n
    ·rw [if_pos c2,if_pos (by omega)]
    ·rw [if_neg c2,if_neg (by omega)]
/-- Blocks of the same length: turned by one exchange. -/
theorem Rot.same {m i:Nat} {d d':Array α} (h:Swpd (m - i) m i d d') (hi:i≤m):Rot (m - i) m (m+i) d d':=by
 refine ⟨h.1,fun q=>?_⟩
 rw [h.2]
 by_cases c1:m - i≤q∧q<m - i+i
 ·rw [if_pos c1,if_pos (by omega)]
 ·rw [if_neg c1,if_neg (show ¬ (m - i≤q∧q<m - i+(m+i - m)) by omega)]
  by_cases c2:m≤q∧q<m+i
  ·rw [if_pos c2,if_pos (by omega)]
   congr 1; omega
  ·rw [if_neg c2,if_neg (by omega)]
theorem Rot.left {m i j:Nat} {d d1 d':Array α} (hs:Swpd (m - i) m j d d1) (hi:i≤m) (hj:j<i) (h:Rot (m - (i - j)) m (m+j) d1 d'):Rot (m - i) m (m+j) d d':=by
 refine ⟨h.1.trans hs.1,fun q=>?_⟩
 rw [h.2]
 by_cases c1:m - i≤q∧q<m - i+j
 ·rw [if_neg (by omega),if_neg (by omega),hs.2,if_pos c1,if_pos (by omega)]
 ·rw [if_neg (show ¬ (m - i≤q∧q<m - i+(m+j - m)) by omega)]
  by_cases c2:m - (i - j)≤q∧q<m - (i - j)+(m+j - m)
  ·rw [if_pos c2,hs.2,if_neg (by omega),if_pos (by omega),if_pos (by omega)]
   congr 1; omega
  ·rw [if_neg c2]
   by_cases c3:m - (i - j)+(m+j - m)≤q∧q<m+j
   ·rw [if_pos c3,hs.2,if_neg (by omega),if_neg (by omega),if_pos (by omega)]
    congr 1; omega
   ·rw [if_neg c3,hs.2,if_neg (by omega),if_neg (by omega),if_neg (by omega)]
theorem Rot.right {m i j:Nat} {d d1 d':Array α} (hs:Swpd (m - i) (m+j - i) i d d1) (hi:i≤m) (hj:i<j) (h:Rot (m - i) m (m+(j - i)) d1 d'):Rot (m - i) m (m+j) d d':=by
 refine ⟨h.1.trans hs.1,fun q=>?_⟩
 rw [h.2]
 by_cases c1:m - i≤q∧q<m - i+(m+(j - i) - m)
 ·rw [if_pos c1,if_pos (by omega),hs.2]
  by_cases e:m+(q - (m - i))<m+j - i
  ·rw [if_neg (by omega),if_neg (by omega)]
  ·rw [if_neg (by omega),if_pos (by omega)]
   omega
 ·rw [if_neg c1]
  by_cases c2:m - i+(m+(j - i) - m)≤q∧q<m+(j - i)
  ·rw [if_pos c2,hs.2,if_pos (by omega),if_pos (by omega)]
   congr 1; omega
  ·rw [if_neg c2,hs.2]
   by_cases c3:m+j - i≤q∧q<m+j
   ·rw [if_neg (by omega),if_pos (by omega),if_neg (by omega),if_pos (by omega)]
    congr 1; omega
   ·rw [if_neg (by omega),if_neg (by omega),if_neg (by omega),if_neg (by omega)]
theorem Rot.none (a:Nat) (m:Nat) (d:Array α):Rot a m m d d:=⟨rfl,fun i=>by
 rw [if_neg (by omega)]
 by_cases c:a+(m - m)≤i∧i<m
 ·rw [if_pos c]; congr 1; omega
 ·rw [if_neg c]⟩
theorem Rot.nothing (m b:Nat) (d:Array α) (h:m≤b):Rot m m b d d:=⟨rfl,fun i=>by
 by_cases c:m≤i∧i<m+(b - m)
 ·rw [if_pos c]; congr 1; omega
 ·rw [if_neg c,if_neg (by omega)]⟩
/-- The first one goes on by one place. -/
theorem Rot.up {a k:Nat} {d d':Array α} (h:Rot a (a+1) (k+1) d d') (hk:a≤k) (hs:k+1<d.size):Rot a (a+1) (k+2) d (swp d' k (k+1)):=by
 have sz:=h.1
 refine ⟨by rw [swp_size]; exact sz,fun i=>?_⟩
 rw [swp_get d' (show k<d'.size by omega) (show k+1<d'.size by omega),h.2,h.2,h.2]
 by_cases e1:i=k+1
 ·subst e1
  rw [if_pos rfl,if_neg (by omega),if_pos (by omega),if_neg (by omega),if_pos (by omega)]
  congr 1; omega
 ·rw [if_neg e1]
  by_cases e2:i=k
  ·subst e2
   rw [if_pos rfl,if_neg (by omega),if_neg (by omega),if_pos (by omega)]
   congr 1; omega
  ·rw [if_neg e2]
   by_cases c1:a≤i∧i<a+(k+1 - (a+1))
   ·rw [if_pos c1,if_pos (by omega)]
   ·rw [if_neg c1,if_neg (by omega),if_neg (by omega),if_neg (by omega)]
/-- The last one goes back by one place. -/
theorem Rot.down {m k:Nat} {d d':Array α} (h:Rot (k+1) m (m+1) d d') (hk:k+1≤m) (hs:m<d.size):Rot k m (m+1) d (swp d' (k+1) k):=by
 have sz:=h.1
 refine ⟨by rw [swp_size]; exact sz,fun i=>?_⟩
 rw [swp_get d' (show k+1<d'.size by omega) (show k<d'.size by omega),h.2,h.2,h.2]
 by_cases e1:i=k
 ·subst e1
  rw [if_pos rfl,if_pos (by omega),if_pos (by omega)]
  congr 1; omega
 ·rw [if_neg e1]
  by_cases e2:i=k+1
  ·subst e2
   rw [if_pos rfl,if_neg (by omega),if_neg (by omega),if_neg (by omega),if_pos (by omega)]
   congr 1; omega
  ·rw [if_neg e2]
   by_cases c2:k+1+(m+1 - m)≤i∧i<m+1
   ·rw [if_neg (by omega),if_pos c2,if_neg (by omega),if_pos (by omega)]
    congr 1; omega
   ·rw [if_neg (by omega),if_neg c2,if_neg (by omega),if_neg (by omega)]

/-! ### Merging -/
theorem Rot.l1 {a m b:Nat} {d d':Array α} (h:Rot a m b d d') {i:Nat} (h1:a≤i) (h2:i<a+(b - m)):d'[i]! = d[m+(i - a)]!:=by rw [h.2,if_pos ⟨h1,h2⟩]
theorem Rot.l2 {a m b:Nat} {d d':Array α} (h:Rot a m b d d') {i:Nat} (h1:a+(b - m)≤i) (h2:i<b):d'[i]! = d[a+(i - (a+(b - m)))]!:=by rw [h.2,if_neg (by omega),if_pos ⟨h1,h2⟩]
theorem Rot.l0 {a m b:Nat} {d d':Array α} (h:Rot a m b d d') {i:Nat} (h1:i<a∨b≤i) (hm:a≤m) (hb:m≤b):d'[i]! = d[i]!:=by rw [h.2,if_neg (by omega),if_neg (by omega)]

structure Split (cf:α→α→Int) (pre:α→α→Prop) (a s mid e b:Nat) (d:Array α):Prop where
 s1:SortS cf pre a s d
 s2:SortS cf pre s mid d
 p1:PreIn pre a s mid d
 s3:SortS cf pre mid e d
 s4:SortS cf pre e b d
 p2:PreIn pre mid e b d
 lr:∀ i j,a≤i→i<mid→mid≤j→j<b→St cf pre d[i]! d[j]!
theorem split_ok (h:Ordr cf pre) {a s m e b mid:Nat} {d d':Array α} (h1:SortS cf pre a m d) (h2:SortS cf pre m b d) (hp:PreIn pre a m b d) (has:a≤s) (hsm:s≤m) (hme:m≤e) (heb:e≤b) (hmid:mid=s+(e - m))
  (c1:s=a∨e=b∨¬ cf d[e]! d[s - 1]! < 0) (c2:s=m∨e=m∨cf d[e - 1]! d[s]! < 0) (hr:Rot s m e d d'):Split cf pre a s mid e b d':=by
 subst hmid
 have L0:=fun i (hi:i<s∨e≤i)=>hr.l0 hi hsm hme
 have L1:=fun i h1 h2=>hr.l1 (i:=i) h1 h2
 have L2:=fun i h1 h2=>hr.l2 (i:=i) h1 h2
 refine ⟨?_,?_,?_,?_,?_,?_,?_⟩
 ·intro i j hi hij hj
  rw [L0 i (by omega),L0 j (by omega)]
  exact h1 i j hi hij (by omega)
 ·intro i j hi hij hj
  rw [L1 i hi (by omega),L1 j (by omega) hj]
  exact h2 _ _ (by omega) (by omega) (by omega)
 ·intro i j hi his hsj hj
  rw [L0 i (by omega),L1 j hsj hj]
  exact hp _ _ hi (by omega) (by omega) (by omega)
 ·intro i j hi hij hj
  rw [L2 i hi (by omega),L2 j (by omega) hj]
  exact h1 _ _ (by omega) (by omega) (by omega)
 ·intro i j hi hij hj
  rw [L0 i (by omega),L0 j (by omega)]
  exact h2 i j (by omega) hij (by omega)
 ·intro i j hi his hsj hj
  rw [L2 i hi his,L0 j (by omega)]
  exact hp _ _ (by omega) (by omega) (by omega) hj
 ·intro i j hi his hsj hj
  by_cases ci:i<s
  ·rw [L0 i (by omega)]
   by_cases cj:j<e
   ·rw [L2 j hsj cj]
    exact h1 _ _ hi (by omega) (by omega)
   ·rw [L0 j (by omega)]
    rcases c1 with c1 | c1 | c1
    ·omega
    ·omega
    ·have q0:St cf pre d[s - 1]! d[e]!:=St.of h c1 (hp _ _ (by omega) (by omega) hme (by omega))
     have q1:St cf pre d[i]! d[e]!:=by
      by_cases e1:i=s - 1
      ·subst e1; exact q0
      ·exact (h1 i (s - 1) hi (by omega) (by omega)).trans h q0
     by_cases e1:j=e
     ·subst e1; exact q1
     ·exact q1.trans h (h2 e j hme (by omega) hj)
  ·rw [L1 i (by omega) his]
   by_cases cj:j<e
   ·rw [L2 j hsj cj]
    rcases c2 with c2 | c2 | c2
    ·omega
    ·omega
    ·have q0:St cf pre d[e - 1]! d[s]!:=.inl c2
     have q1:St cf pre d[m+(i - s)]! d[s]!:=by
      by_cases e1:m+(i - s)=e - 1
      ·rw [e1]; exact q0
      ·exact (h2 _ (e - 1) (by omega) (by omega) (by omega)).trans h q0
     by_cases e1:s+(j - (s+(e - m)))=s
     ·rw [e1]; exact q1
     ·exact q1.trans h (h1 s _ has (by omega) (by omega))
   ·rw [L0 j (by omega)]
    exact h2 _ _ (by omega) (by omega) hj
/-- Both parts sorted: all is. -/
theorem sjoin_ok {a mid b:Nat} {d d1 d2:Array α} (hb:b≤d.size) (hmb:mid≤b) (lr:∀ i j,a≤i→i<mid→mid≤j→j<b→St cf pre d[i]! d[j]!)
  (p1:PermIn a mid d d1) (s1:SortS cf pre a mid d1) (p2:PermIn mid b d1 d2) (s2:SortS cf pre mid b d2):SortS cf pre a b d2:=by
 have lr1:∀ i j,a≤i→i<mid→mid≤j→j<b→St cf pre d1[i]! d1[j]!:=by
  intro i j hi him hj hjb
  rw [p1.2.1 j (Or.inr hj)]
  exact permIn_all d d1 a mid (fun x=>St cf pre x d[j]!) (by omega) p1 (fun i h1 h2=>lr i j h1 h2 hj hjb) i hi him
 intro i j hi hij hj
 by_cases ci:i<mid
 ·rw [p2.2.1 i (Or.inl ci)]
  by_cases cj:j<mid
  ·rw [p2.2.1 j (Or.inl cj)]
   exact s1 i j hi hij cj
  ·exact permIn_all d1 d2 mid b (fun x=>St cf pre d1[i]! x) (by rw [p1.1]; exact hb) p2 (fun j h1 h2=>lr1 i j hi ci h1 h2) j (by omega) hj
 ·exact s2 i j (by omega) hij hj
/-- The first row is one element: it goes to its place. -/
theorem insLeft (h:Ordr cf pre) {a i b:Nat} {d d':Array α} (h2:SortS cf pre (a+1) b d) (hp:PreIn pre a (a+1) b d) (hi:a+1≤i) (hib:i≤b) (lo:∀ q,a+1≤q→q<i→cf d[q]! d[a]! < 0) (hi':∀ q,i≤q→q<b→¬ cf d[q]! d[a]! < 0) (hr:Rot a (a+1) i d d'):SortS cf pre a b d':=by
 intro p q hap hpq hqb
 by_cases c1:q<i - 1
 ·rw [hr.l1 hap (by omega),hr.l1 (i:=q) (by omega) (by omega)]
  exact h2 _ _ (by omega) (by omega) (by omega)
 ·by_cases c2:q=i - 1
  ·rw [hr.l1 hap (by omega),hr.l2 (i:=q) (by omega) (by omega)]
   have e:a+(q - (a+(i - (a+1))))=a:=by omega
   rw [e]
   exact .inl (lo _ (by omega) (by omega))
  ·rw [hr.l0 (i:=q) (by omega) (by omega) (by omega)]
   by_cases c3:p<i - 1
   ·rw [hr.l1 hap (by omega)]
    exact h2 _ _ (by omega) (by omega) hqb
   ·by_cases c4:p=i - 1
    ·rw [hr.l2 (i:=p) (by omega) (by omega)]
     have e:a+(p - (a+(i - (a+1))))=a:=by omega
     rw [e]
     exact St.of h (hi' q (by omega) hqb) (hp a q (Nat.le_refl _) (by omega) (by omega) hqb)
    ·rw [hr.l0 (i:=p) (by omega) (by omega) (by omega)]
     exact h2 _ _ (by omega) hpq hqb
theorem insRight (h:Ordr cf pre) {a i m:Nat} {d d':Array α} (h1:SortS cf pre a m d) (hp:PreIn pre a m (m+1) d) (hi:a≤i) (him:i≤m) (lo:∀ q,a≤q→q<i→¬ cf d[m]! d[q]! < 0) (hi':∀ q,i≤q→q<m→cf d[m]! d[q]! < 0) (hr:Rot i m (m+1) d d'):SortS cf pre a (m+1) d':=by
 intro p q hap hpq hqb
 by_cases c1:q<i
 ·rw [hr.l0 (i:=p) (by omega) (by omega) (by omega),hr.l0 (i:=q) (by omega) (by omega) (by omega)]
  exact h1 _ _ hap hpq (by omega)
 ·by_cases c2:q=i
  ·subst c2
   rw [hr.l0 (i:=p) (by omega) (by omega) (by omega),hr.l1 (i:=q) (by omega) (by omega)]
   have e:m+(q - q)=m:=by omega
   rw [e]
   exact St.of h (lo p hap hpq) (hp p m hap (by omega) (Nat.le_refl _) (by omega))
  ·rw [hr.l2 (i:=q) (by omega) (by omega)]
   by_cases c3:p<i
   ·rw [hr.l0 (i:=p) (by omega) (by omega) (by omega)]
    exact h1 _ _ hap (by omega) (by omega)
   ·by_cases c4:p=i
    ·rw [hr.l1 (i:=p) (by omega) (by omega)]
     have e:m+(p - i)=m:=by omega
     rw [e]
     exact .inl (hi' _ (by omega) (by omega))
    ·rw [hr.l2 (i:=p) (by omega) (by omega)]
     exact h1 _ _ (by omega) (by omega) (by omega)
theorem SortS.sub {a b a' b':Nat} {d:Array α} (h:SortS cf pre a b d) (ha:a≤a') (hb:b'≤b):SortS cf pre a' b' d:=fun i j h1 h2 h3=>h i j (by omega) h2 (by omega)
theorem SortS.congr {a b:Nat} {d d':Array α} (h:SortS cf pre a b d) (e:∀ i,a≤i→i<b→d'[i]! = d[i]!):SortS cf pre a b d':=fun i j h1 h2 h3=>by
 rw [e i h1 (by omega),e j (by omega) h3]; exact h i j h1 h2 h3
theorem SortS.one {a b:Nat} {d:Array α} (h:b≤a+1):SortS cf pre a b d:=fun i j h1 h2 h3=>by omega
theorem PreIn.perm {a m b:Nat} {d d':Array α} (hb:b≤d.size) (hmb:m≤b) (h:PreIn pre a m b d) (p1:PermIn a m d d'):PreIn pre a m b d':=fun i j h1 h2 h3 h4=>by
 rw [p1.2.1 j (Or.inr h3)]
 exact permIn_all d d' a m (fun x=>pre x d[j]!) (by omega) p1 (fun i g1 g2=>h i j g1 g2 h3 h4) i h1 h2
end Go.Proofs.YtohjlfhmnmcndaaGreat
/- The sort by merging in place, over rows of k cells: slices.swapRangeCmpFunc and slices.rotateCmpFunc at ops.keyed. Walked over any program that bears the bodies, as the shelf does: the size of an element stays a letter. -/
namespace Go.Proofs.YtohjlfhmnmcndaaGreat
open Go.Shelf Go.RowKit Go.Lib Go.Sort
variable {P:Program} {α:Type} [Inhabited α]

/-- What the walks ask of the program: the bodies, the types. -/
structure KLay (P:Program) (k:Nat):Prop where
 mixed:P.follows .mixedOrders=true
 fSw:P.funcs[249]? = some Tryz.f249
 fRo:P.funcs[241]? = some Tryz.f241
 fSy:P.funcs[218]? = some Tryz.f218
 fSt:P.funcs[192]? = some Tryz.f192
 fSo:P.funcs[158]? = some Tryz.f158
 t0:P.underlying 0=some (TypeDesc.tuple #[])
 a0:∀ w,(isAgg 0).run P w = .ok false w
 z0:∀ w,(Go.sizeOf 0).run P w = .ok 1 w
 t3:P.underlying 3=some (TypeDesc.int IntKind.i64)
 a3:∀ w,(isAgg 3).run P w = .ok false w
 z3:∀ w,(Go.sizeOf 3).run P w = .ok 1 w
 v3:∀ w,(zeroValue 3).run P w = .ok (Value.int IntKind.i64 0) w
 t4:P.underlying 4=some (TypeDesc.bool)
 a4:∀ w,(isAgg 4).run P w = .ok false w
 z4:∀ w,(Go.sizeOf 4).run P w = .ok 1 w
 t22:P.underlying 151=some (TypeDesc.slice 157)
 a22:∀ w,(isAgg 151).run P w = .ok false w
 z22:∀ w,(Go.sizeOf 151).run P w = .ok 1 w
 t25:P.underlying 194=some (TypeDesc.func #[157,157] #[3] false)
 a25:∀ w,(isAgg 194).run P w = .ok false w
 z25:∀ w,(Go.sizeOf 194).run P w = .ok 1 w
 t39:P.underlying 127=some (TypeDesc.int IntKind.u64)
 a39:∀ w,(isAgg 127).run P w = .ok false w
 z39:∀ w,(Go.sizeOf 127).run P w = .ok 1 w
 aE:∀ w,(isAgg 157).run P w = .ok true w
 zE:∀ w,(Go.sizeOf 157).run P w = .ok k w

theorem Tryz.klay:KLay Tryz.prog 3 where
 mixed:=by kernel_rfl
 fSw:=Tryz.func249
 fRo:=Tryz.func241
 fSy:=Tryz.func218
 fSt:=Tryz.func192
 fSo:=Tryz.func158
 t0:=Tryz.underlying0
 a0:=Tryz.isAgg0
 z0:=Tryz.sizeOf0
 t3:=Tryz.underlying3
 a3:=Tryz.isAgg3
 z3:=Tryz.sizeOf3
 v3:=Tryz.zeroValue3
 t4:=Tryz.underlying4
 a4:=Tryz.isAgg4
 z4:=Tryz.sizeOf4
 t22:=Tryz.underlying151
 a22:=Tryz.isAgg151
 z22:=Tryz.sizeOf151
 t25:=Tryz.underlying194
 a25:=Tryz.isAgg194
 z25:=Tryz.sizeOf194
 t39:=Tryz.underlying127
 a39:=Tryz.isAgg127
 z39:=Tryz.sizeOf127
 aE:=Tryz.isAgg157
 zE:=Tryz.sizeOf157

set_option maxHeartbeats 4000000 in
set_option maxRecDepth 1000000 in
theorem swapRange_at (k:Nat) (L:KLay P k) (enc:α→List Value) (g:Nat) (cb:Array Value) (blk off cap a b n:Nat) (d0 d:Array α) (w0 w:World)
  (R:RowK enc k w0 blk off d0) (hs:d0.size=d.size) (S:SWK enc k w0 blk off d w) (hab:a+n≤b) (hb:b+n≤d.size) (hsz:d.size<4611686018427387904) :
  Calls P 249 #[.slice (some ⟨blk,off,none⟩) d.size cap,.int .i64 a,.int .i64 b,.int .i64 n,.func (.func g) #[] cb] w fun e w'=>e = .returned (.tuple #[])∧∃ d',Swpd a b n d d'∧SWK enc k w0 blk off d' w':=by
 have mixed:=L.mixed; have t0:=L.t0; have a0:=L.a0; have z0:=L.z0; have t3:=L.t3; have a3:=L.a3; have z3:=L.z3; have v3:=L.v3; have t4:=L.t4; have a4:=L.a4; have z4:=L.z4; have t22:=L.t22; have a22:=L.a22; have z22:=L.z22; have t25:=L.t25; have a25:=L.a25; have z25:=L.z25; have aE:=L.aE; have zE:=L.zE
 have FG:=L.fSw
 have S0:Aside (SWK enc k w0 blk off d w):=S
 clear S L
 go_enter FG,Tryz.ntmps249
 go_wp2
 go_loopg [10] n (fun kx s10 wr=>∃ (i:Nat) (dk:Array α),s10 = .int .i64 i∧i≤n∧n - i≤kx∧dk.size=d.size∧Hid (Swpd a b i d dk)∧Aside (SWK enc k w0 blk off dk wr))
 case atStart=>exact ⟨0,d,rfl,Nat.zero_le _,Nat.le_refl _,rfl,Swpd.zero a b d,S0⟩
 case round =>
  clear S0
  obtain ⟨i,dk,rfl,hin,hkx,hds,HS,S1⟩:=hrel
  by_cases hlt:i<n
  ·have hltz:(i:Int)<(n:Int):=by omega
   go_wp2_with fail
   have ea44:((a:Int)+(i:Int)).toNat=a+i:=by omega
   have pa44:(0:Int)≤(a:Int)+(i:Int):=by omega
   have ba44:(a:Int)+(i:Int)<(d.size:Int):=by omega
   have ra44:IntKind.i64.wrap ((a:Int)+(i:Int))=(a:Int)+(i:Int):=by rw [IntKind.wrap_i64]; omega
   have ec44:((b:Int)+(i:Int)).toNat=b+i:=by omega
   have pc44:(0:Int)≤(b:Int)+(i:Int):=by omega
   have bc44:(b:Int)+(i:Int)<(d.size:Int):=by omega
   have rc44:IntKind.i64.wrap ((b:Int)+(i:Int))=(b:Int)+(i:Int):=by rw [IntKind.wrap_i64]; omega
   have S2:Aside (SWK enc k w0 blk off (swp dk (a+i) (b+i)) ((wr.drew.setCells blk (off+(a+i)*k) (enc dk[b+i]!)).setCells blk (off+(b+i)*k) (enc dk[a+i]!))):=S1.out.swapped R (a+i) (b+i) (by omega) (by omega)
   have l44a:=S1.out.ld1 R (by omega) P (a+i) (by omega)
   have l44b:=S1.out.ld1 R (by omega) P (b+i) (by omega)
   have s44a:=S1.out.st1 R (by omega) P (a+i) (by omega) dk[b+i]!
   have s44b:=S1.out.st2 R (by omega) P (a+i) (b+i) (by omega) (by omega) dk[b+i]! dk[a+i]!
   have n44a:(enc dk[a+i]!).length=k:=R.hk _
   have n44b:(enc dk[b+i]!).length=k:=R.hk _
   generalize enc dk[a+i]! = cI44 at S2 l44a s44b n44a
   generalize enc dk[b+i]! = cJ44 at S2 l44b s44a s44b n44b
   clear S1
   go_wp2_with fail
   go_big_region_o
   clear l44a l44b s44a s44b
   generalize (wr.drew.setCells blk (off+(a+i)*k) cJ44).setCells blk (off+(b+i)*k) cI44=w2 at S2 ⊢
   go_wp2
   go_roundg (n - (i+1))
   case measure=>omega
   case rel=>exact ⟨i+1,swp dk (a+i) (b+i),by simp,by omega,Nat.le_refl _,by rw [size_swp]; exact hds,HS.out.step (by omega) (by omega),S2⟩
  ·have hltz:¬ (i:Int)<(n:Int):=by omega
   have e:i=n:=by omega
   subst e
   go_wp2
   go_end0
   exact ⟨rfl,dk,HS.out,S1.out⟩

set_option maxHeartbeats 4000000 in
set_option maxRecDepth 1000000 in
theorem rotate_at (k:Nat) (L:KLay P k) (enc:α→List Value) (g:Nat) (cb:Array Value) (blk off cap a m b:Nat) (d0 d:Array α) (w0 w:World)
  (R:RowK enc k w0 blk off d0) (hs:d0.size=d.size) (S:SWK enc k w0 blk off d w) (ham:a<m) (hmb:m<b) (hb:b≤d.size) (hsz:d.size<4611686018427387904)
  (eg:∀ args w,(callFunc 249 args).run P w = .ok (.enter 249 args) w) :
  Calls P 241 #[.slice (some ⟨blk,off,none⟩) d.size cap,.int .i64 a,.int .i64 m,.int .i64 b,.func (.func g) #[] cb] w fun e w'=>e = .returned (.tuple #[])∧∃ d',Rot a m b d d'∧SWK enc k w0 blk off d' w':=by
 have mixed:=L.mixed; have t0:=L.t0; have a0:=L.a0; have z0:=L.z0; have t3:=L.t3; have a3:=L.a3; have z3:=L.z3; have v3:=L.v3; have t4:=L.t4; have a4:=L.a4; have z4:=L.z4; have t22:=L.t22; have a22:=L.a22; have z22:=L.z22; have t25:=L.t25; have a25:=L.a25; have z25:=L.z25
 have FG:=L.fRo
 have HL:Hid (KLay P k):=L
 have S0:Aside (SWK enc k w0 blk off d w):=S
 have HR:Aside (RowK enc k w0 blk off d0):=R
 clear S L R
 go_enter FG,Tryz.ntmps241
 go_wp2
 go_loopg [10,11] (b - a) (fun kx s10 s11 wr=>∃ (i j:Nat) (dk:Array α),s10 = .int .i64 i∧s11 = .int .i64 j∧0<i∧0<j∧i≤m - a∧j≤b - m∧i+j≤kx∧dk.size=d.size∧Hid (∀ d',Rot (m - i) m (m+j) dk d'→Rot a m b d d')∧Aside (SWK enc k w0 blk off dk wr))
 case atStart=>exact ⟨m - a,b - m,d,by go_num,by go_num,by omega,by omega,Nat.le_refl _,Nat.le_refl _,by omega,rfl,fun d' h=>by
  rw [show m - (m - a)=a by omega,show m+(b - m)=b by omega] at h; exact h,S0⟩
 case round =>
  clear S0
  obtain ⟨i,j,dk,rfl,rfl,hi0,hj0,hi,hj,hkx,hds,HS,S1⟩:=hrel
  have hmi:IntKind.i64.wrap ((m:Int) - (i:Int))=((m - i:Nat):Int):=by rw [IntKind.wrap_i64]; omega
  have hmj:IntKind.i64.wrap ((m:Int)+(j:Int))=(m:Int)+(j:Int):=by rw [IntKind.wrap_i64]; omega
  by_cases hij:i=j
  ·subst hij
   have hne:((i:Int) != (i:Int))=false:=by simp
   have con:=swapRange_at k HL.out enc g cb blk off cap (m - i) m i d0 dk w0 wr HR.out (by omega) S1.out (by omega) (by omega) (by omega)
   rw [hds] at con
   clear S1
   go_wp2_with (go_at_fn 249; refine con.mono ?_; rintro e w1 ⟨rfl,d1,hs1,S2⟩)
   go_end0
   exact ⟨rfl,d1,HS.out d1 (Rot.same hs1 (by omega)),S2⟩
  ·have hne:((i:Int) != (j:Int))=true:=by simp; omega
   by_cases hlt:j<i
   ·have hltz:(j:Int)<(i:Int):=by omega
    have con:=swapRange_at k HL.out enc g cb blk off cap (m - i) m j d0 dk w0 wr HR.out (by omega) S1.out (by omega) (by omega) (by omega)
    rw [hds] at con
    clear S1
    go_wp2_with (go_at_fn 249; refine con.mono ?_; rintro e w1 ⟨rfl,d1,hs1,S2⟩)
    have z1:=hs1.1
    go_roundg (i - j+j)
    case measure=>omega
    case rel=>exact ⟨i - j,j,d1,by go_num,rfl,by omega,hj0,by omega,hj,Nat.le_refl _,by omega,fun d' h=>HS.out d' (Rot.left hs1 (by omega) hlt h),S2⟩
   ·have hltz:¬ (j:Int)<(i:Int):=by omega
    have hmji:IntKind.i64.wrap ((m:Int)+(j:Int) - (i:Int))=((m+j - i:Nat):Int):=by rw [IntKind.wrap_i64]; omega
    have con:=swapRange_at k HL.out enc g cb blk off cap (m - i) (m+j - i) i d0 dk w0 wr HR.out (by omega) S1.out (by omega) (by omega) (by omega)
    rw [hds] at con
    clear S1
    go_wp2_with (go_at_fn 249; refine con.mono ?_; rintro e w1 ⟨rfl,d1,hs1,S2⟩)
    have z1:=hs1.1
    go_roundg (i+(j - i))
    case measure=>omega
    case rel=>exact ⟨i,j - i,d1,rfl,by go_num,hi0,by omega,hi,by omega,Nat.le_refl _,by omega,fun d' h=>HS.out d' (Rot.right hs1 (by omega) (by omega) h),S2⟩
end Go.Proofs.YtohjlfhmnmcndaaGreat
/- slices.symMergeCmpFunc at ops.keyed: two sorted rows become one, in place, by rank. -/
namespace Go.Proofs.YtohjlfhmnmcndaaGreat
open Go.Shelf Go.RowKit Go.Lib Go.Sort
variable {P:Program} {α:Type} [Inhabited α]

theorem Rot.perm {a m b:Nat} {d d':Array α} (h:Rot a m b d d') (ham:a≤m) (hmb:m≤b) (hb:b≤d.size):PermIn a b d d':=by
 refine ⟨h.1,fun i hi=>h.l0 hi ham hmb,?_⟩
 have hz:=h.1
 have g:∀ (x:Array α) (i:Nat) (hi:i<x.size),x[i]=x[i]!:=fun x i hi=>(getElem!_pos x i hi).symm
 have e1:(d.extract a b).toList=(d.extract a m).toList ++ (d.extract m b).toList:=by
  apply List.ext_getElem
  ·simp; omega
  ·intro i h1 h2
   simp only [Array.length_toList,Array.size_extract] at h1
   by_cases c:i<m - a
   ·rw [List.getElem_append_left (by simp; omega)]
    simp
   ·rw [List.getElem_append_right (by simp; omega)]
    simp only [Array.getElem_toList,Array.getElem_extract,Array.length_toList,Array.size_extract]
    congr 1; omega
 have e2:(d'.extract a b).toList=(d.extract m b).toList ++ (d.extract a m).toList:=by
  apply List.ext_getElem
  ·simp; omega
  ·intro i h1 h2
   simp only [Array.length_toList,Array.size_extract] at h1
   by_cases c:i<b - m
   ·rw [List.getElem_append_left (by simp; omega)]
    simp only [Array.getElem_toList,Array.getElem_extract]
    rw [g d' _ (by omega),g d _ (by omega),h.l1 (by omega) (by omega)]
    congr 1; omega
   ·rw [List.getElem_append_right (by simp; omega)]
    simp only [Array.getElem_toList,Array.getElem_extract,Array.length_toList,Array.size_extract]
    rw [g d' _ (by omega),g d _ (by omega),h.l2 (by omega) (by omega)]
    congr 1; omega
 rw [e1,e2]
 exact List.perm_append_comm

set_option maxHeartbeats 8000000 in
set_option maxRecDepth 1000000 in
/-- One element and a row. -/
theorem symA_at (k:Nat) (L:KLay P k) (enc:α→List Value) (cf:α→α→Int) (pre:α→α→Prop) (hO:Ordr cf pre) (g:Nat) (cb:Array Value) (blk off cap a m b:Nat) (d0 d:Array α) (w0 w:World)
  (eg:∀ args w,(callFunc g args).run P w = .ok (.enter g args) w) (hcmp:CmpLays P g cb enc k cf blk off d0.size w0) (R:RowK enc k w0 blk off d0) (hs:d0.size=d.size) (S:SWK enc k w0 blk off d w) (hma:m=a+1) (hmb:m<b) (hb:b≤d.size) (hsz:d.size<4611686018427387904) (h2:SortS cf pre m b d) (hp:PreIn pre a m b d) :
  Calls P 218 #[.slice (some ⟨blk,off,none⟩) d.size cap,.int .i64 a,.int .i64 m,.int .i64 b,.func (.func g) #[] cb] w fun e w'=>e = .returned (.tuple #[])∧∃ d',PermIn a b d d'∧SortS cf pre a b d'∧SWK enc k w0 blk off d' w':=by
 have mixed:=L.mixed; have t0:=L.t0; have a0:=L.a0; have z0:=L.z0; have t3:=L.t3; have a3:=L.a3; have z3:=L.z3; have v3:=L.v3; have t4:=L.t4; have a4:=L.a4; have z4:=L.z4; have t22:=L.t22; have a22:=L.a22; have z22:=L.z22; have t25:=L.t25; have a25:=L.a25; have z25:=L.z25; have t39:=L.t39; have a39:=L.a39; have z39:=L.z39; have aE:=L.aE; have zE:=L.zE
 have FG:=L.fSy
 have HC:Aside _:=hcmp
 have S0:Aside (SWK enc k w0 blk off d w):=S
 have HR:Aside (RowK enc k w0 blk off d0):=R
 have HO:Hid (Ordr cf pre):=hO
 have H2:Hid (SortS cf pre m b d):=h2
 have HP:Hid (PreIn pre a m b d):=hp
 have hmz:((m:Int) - (a:Int) == 1)=true:=by simp; omega
 have hmw:IntKind.i64.wrap ((m:Int) - (a:Int))=(m:Int) - (a:Int):=by rw [IntKind.wrap_i64]; omega
 have HM:Hid (m=a+1):=hma
 have hm1:a<m:=by omega
 have hm2:m<a+2:=by omega
 clear S L R hcmp h2 hp hma hO
 go_enter FG,Tryz.ntmps218
 go_wp2
 go_loopg [10,11] (b - m) (fun kx s10 s11 wr=>∃ (i j:Nat),s10 = .int .i64 i∧s11 = .int .i64 j∧m≤i∧i≤j∧j≤b∧j - i≤kx∧Hid ((∀ q,m≤q→q<i→cf d[q]! d[a]! < 0)∧∀ q,j≤q→q<b→¬ cf d[q]! d[a]! < 0)∧Aside (SWK enc k w0 blk off d wr))
 case atStart=>exact ⟨m,b,rfl,rfl,Nat.le_refl _,by omega,Nat.le_refl _,Nat.le_refl _,⟨fun q h1 h2=>by omega,fun q h1 h2=>by omega⟩,S0⟩
 case round =>
  clear S0
  obtain ⟨i,j,rfl,rfl,hmi,hij,hjb,hkx,HI,S1⟩:=hrel
  by_cases hlt:i<j
  ·have hltz:(i:Int)<(j:Int):=by omega
   by_cases hless:cf d[(i+j) / 2]! d[a]! < 0
   ·have hgo:∀ q,m≤q→q<(i+j) / 2+1→cf d[q]! d[a]! < 0:=fun q h1 h2=>by
     by_cases e:q=(i+j) / 2
     ·rw [e]; exact hless
     ·have h3:=(H2.out q ((i+j) / 2) h1 (by omega) (by omega)).le
      have h4:=HO.out.le_lt h3 hless
      exact h4
    have HG:Hid _:=hgo
    clear hgo
    have ea24:(((i:Int)+(j:Int)) / 2).toNat=(i+j) / 2:=by omega
    have pa24:(0:Int)≤((i:Int)+(j:Int)) / 2:=by omega
    have ba24:((i:Int)+(j:Int)) / 2<(d.size:Int):=by omega
    have ra24:IntKind.i64.wrap (((i:Int)+(j:Int)) / 2)=((i:Int)+(j:Int)) / 2:=by rw [IntKind.wrap_i64]; omega
    have ec24:((a:Int)).toNat=a:=by omega
    have pc24:(0:Int)≤(a:Int):=by omega
    have bc24:(a:Int)<(d.size:Int):=by omega
    have rc24:IntKind.i64.wrap ((a:Int))=(a:Int):=by rw [IntKind.wrap_i64]; omega
    obtain ⟨x24,hx24⟩:∃ x,x=d[(i+j) / 2]!:=⟨_,rfl⟩
    obtain ⟨y24,hy24⟩:∃ x,x=d[a]!:=⟨_,rfl⟩
    have l24a:=S1.out.ld HR.out (by omega) P ((i+j) / 2) (by omega)
    have l24b:=S1.out.ld HR.out (by omega) P (a) (by omega)
    rw [← hx24] at l24a
    rw [← hy24] at l24b
    have hc24:=S1.out.cmp HC.out (by omega) x24 y24
    have hv24:cf x24 y24<0:=by rw [hx24,hy24]; exact hless
    have hd24:decide (cf x24 y24<0)=true:=decide_eq_true hv24
    have HL24:Hid _:=hless
    clear hless
    clear hx24 hy24
    go_wp2_with fail
    go_quiet_grown (first | (go_at_fn g; refine Calls.grown_of (hc24 _ _)))
    have S2:Aside (SWK enc k w0 blk off d (grow (wr.drewN nq) osq)):=S1.out.grown nq osq
    clear l24a l24b hc24 S1
    generalize grow (wr.drewN nq) osq=w2 at S2 ⊢
    clear nq osq
    go_wp2_with fail
    go_roundg (j - ((i+j) / 2+1))
    case measure=>omega
    case rel=>exact ⟨(i+j) / 2+1,j,by rw [show ((i:Int)+(j:Int)) / 2+1=(((i+j) / 2+1:Nat):Int) by omega],rfl,by omega,by omega,hjb,Nat.le_refl _,⟨HG.out,HI.out.2⟩,S2⟩
   ·have hgo:∀ q,(i+j) / 2≤q→q<b→¬ cf d[q]! d[a]! < 0:=fun q h1 h2 h5=>by
     by_cases e:q=(i+j) / 2
     ·rw [e] at h5; exact hless h5
     ·have h3:=(H2.out ((i+j) / 2) q (by omega) (by omega) h2).le
      exact hless (HO.out.le_lt h3 h5)
    have HG:Hid _:=hgo
    clear hgo
    have ea24:(((i:Int)+(j:Int)) / 2).toNat=(i+j) / 2:=by omega
    have pa24:(0:Int)≤((i:Int)+(j:Int)) / 2:=by omega
    have ba24:((i:Int)+(j:Int)) / 2<(d.size:Int):=by omega
    have ra24:IntKind.i64.wrap (((i:Int)+(j:Int)) / 2)=((i:Int)+(j:Int)) / 2:=by rw [IntKind.wrap_i64]; omega
    have ec24:((a:Int)).toNat=a:=by omega
    have pc24:(0:Int)≤(a:Int):=by omega
    have bc24:(a:Int)<(d.size:Int):=by omega
    have rc24:IntKind.i64.wrap ((a:Int))=(a:Int):=by rw [IntKind.wrap_i64]; omega
    obtain ⟨x24,hx24⟩:∃ x,x=d[(i+j) / 2]!:=⟨_,rfl⟩
    obtain ⟨y24,hy24⟩:∃ x,x=d[a]!:=⟨_,rfl⟩
    have l24a:=S1.out.ld HR.out (by omega) P ((i+j) / 2) (by omega)
    have l24b:=S1.out.ld HR.out (by omega) P (a) (by omega)
    rw [← hx24] at l24a
    rw [← hy24] at l24b
    have hc24:=S1.out.cmp HC.out (by omega) x24 y24
    have hv24:¬ cf x24 y24<0:=by rw [hx24,hy24]; exact hless
    have hd24:decide (cf x24 y24<0)=false:=decide_eq_false hv24
    have HL24:Hid _:=hless
    clear hless
    clear hx24 hy24
    go_wp2_with fail
    go_quiet_grown (first | (go_at_fn g; refine Calls.grown_of (hc24 _ _)))
    have S2:Aside (SWK enc k w0 blk off d (grow (wr.drewN nq) osq)):=S1.out.grown nq osq
    clear l24a l24b hc24 S1
    generalize grow (wr.drewN nq) osq=w2 at S2 ⊢
    clear nq osq
    go_wp2_with fail
    go_roundg ((i+j) / 2 - i)
    case measure=>omega
    case rel=>exact ⟨i,(i+j) / 2,rfl,by rw [show ((i:Int)+(j:Int)) / 2=(((i+j) / 2:Nat):Int) by omega],hmi,by omega,by omega,Nat.le_refl _,⟨HI.out.1,HG.out⟩,S2⟩
  ·obtain rfl:i=j:=by omega
   have hltz:¬ (i:Int)<(i:Int):=by omega
   have hiw:IntKind.i64.wrap ((i:Int) - 1)=(i:Int) - 1:=by rw [IntKind.wrap_i64]; omega
   go_wp2
   go_loopg [13] (i - 1 - a) (fun kx s13 wr2=>∃ (q:Nat) (dk:Array α),s13 = .int .i64 q∧a≤q∧q≤i - 1∧i - 1 - q≤kx∧dk.size=d.size∧Hid (Rot a (a+1) (q+1) d dk)∧Aside (SWK enc k w0 blk off dk wr2))
   case atStart=>exact ⟨a,d,rfl,Nat.le_refl _,by omega,Nat.le_refl _,rfl,Rot.none a (a+1) d,S1⟩
   case round =>
    clear S1
    obtain ⟨q,dk,rfl,haq,hqi,hkq,hds,HQ,S1⟩:=hrel
    by_cases hq:q<i - 1
    ·have hqz:(q:Int)<(i:Int) - 1:=by omega
     have ea44:((q:Int)).toNat=q:=by omega
     have pa44:(0:Int)≤(q:Int):=by omega
     have ba44:(q:Int)<(d.size:Int):=by omega
     have ra44:IntKind.i64.wrap ((q:Int))=(q:Int):=by rw [IntKind.wrap_i64]; omega
     have ec44:((q:Int)+1).toNat=q+1:=by omega
     have pc44:(0:Int)≤(q:Int)+1:=by omega
     have bc44:(q:Int)+1<(d.size:Int):=by omega
     have rc44:IntKind.i64.wrap ((q:Int)+1)=(q:Int)+1:=by rw [IntKind.wrap_i64]; omega
     have S2:Aside (SWK enc k w0 blk off (swp dk (q) (q+1)) ((wr.drew.setCells blk (off+(q)*k) (enc dk[q+1]!)).setCells blk (off+(q+1)*k) (enc dk[q]!))):=S1.out.swapped HR.out (q) (q+1) (by omega) (by omega)
     have l44a:=S1.out.ld1 HR.out (by omega) P (q) (by omega)
     have l44b:=S1.out.ld1 HR.out (by omega) P (q+1) (by omega)
     have s44a:=S1.out.st1 HR.out (by omega) P (q) (by omega) dk[q+1]!
     have s44b:=S1.out.st2 HR.out (by omega) P (q) (q+1) (by omega) (by omega) dk[q+1]! dk[q]!
     have n44a:(enc dk[q]!).length=k:=HR.out.hk _
     have n44b:(enc dk[q+1]!).length=k:=HR.out.hk _
     generalize enc dk[q]! = cI44 at S2 l44a s44b n44a
     generalize enc dk[q+1]! = cJ44 at S2 l44b s44a s44b n44b
     clear S1
     go_wp2_with fail
     go_big_region_o
     clear l44a l44b s44a s44b
     generalize (wr.drew.setCells blk (off+(q)*k) cJ44).setCells blk (off+(q+1)*k) cI44=w2 at S2 ⊢
     go_wp2
     go_roundg (i - 1 - (q+1))
     case measure=>omega
     case rel=>exact ⟨q+1,swp dk q (q+1),by simp,by omega,by omega,Nat.le_refl _,by rw [size_swp]; exact hds,HQ.out.up haq (by omega),S2⟩
    ·have hqz:¬ (q:Int)<(i:Int) - 1:=by omega
     obtain rfl:q=i - 1:=by omega
     go_wp2
     (try simp only [Exit.inBlock,Exit.then]); refine bodyPost_ret (results_none rfl _ _ _) rfl ?_
     have hr:=HQ.out
     rw [show i - 1+1=i by omega] at hr
     refine ⟨rfl,dk,?_,?_,S1.out⟩
     ·obtain ⟨q1,q2,q3⟩:=hr.perm (by omega) (by omega) (by omega)
      exact permIn_mono d dk a i a b (Nat.le_refl _) hjb hb ⟨q1,q2,q3⟩
     ·have hma:=HM.out
      subst hma
      exact insLeft HO.out H2.out HP.out (by omega) (by omega) HI.out.1 (fun q g1 g2=>by have:=HI.out.2 q g1 g2; omega) hr

set_option maxHeartbeats 8000000 in
set_option maxRecDepth 1000000 in
/-- A row and one element. -/
theorem symB_at (k:Nat) (L:KLay P k) (enc:α→List Value) (cf:α→α→Int) (pre:α→α→Prop) (hO:Ordr cf pre) (g:Nat) (cb:Array Value) (blk off cap a m b:Nat) (d0 d:Array α) (w0 w:World)
  (eg:∀ args w,(callFunc g args).run P w = .ok (.enter g args) w) (hcmp:CmpLays P g cb enc k cf blk off d0.size w0) (R:RowK enc k w0 blk off d0) (hs:d0.size=d.size) (S:SWK enc k w0 blk off d w) (hma:a+1<m) (hmb:b=m+1) (hb:b≤d.size) (hsz:d.size<4611686018427387904) (h1:SortS cf pre a m d) (hp:PreIn pre a m b d) :
  Calls P 218 #[.slice (some ⟨blk,off,none⟩) d.size cap,.int .i64 a,.int .i64 m,.int .i64 b,.func (.func g) #[] cb] w fun e w'=>e = .returned (.tuple #[])∧∃ d',PermIn a b d d'∧SortS cf pre a b d'∧SWK enc k w0 blk off d' w':=by
 have mixed:=L.mixed; have t0:=L.t0; have a0:=L.a0; have z0:=L.z0; have t3:=L.t3; have a3:=L.a3; have z3:=L.z3; have v3:=L.v3; have t4:=L.t4; have a4:=L.a4; have z4:=L.z4; have t22:=L.t22; have a22:=L.a22; have z22:=L.z22; have t25:=L.t25; have a25:=L.a25; have z25:=L.z25; have t39:=L.t39; have a39:=L.a39; have z39:=L.z39; have aE:=L.aE; have zE:=L.zE
 have FG:=L.fSy
 have HC:Aside _:=hcmp
 have S0:Aside (SWK enc k w0 blk off d w):=S
 have HR:Aside (RowK enc k w0 blk off d0):=R
 have HO:Hid (Ordr cf pre):=hO
 have H1:Hid (SortS cf pre a m d):=h1
 have HP:Hid (PreIn pre a m b d):=hp
 have hmz:((m:Int) - (a:Int) == 1)=false:=by simp; omega
 have hmw:IntKind.i64.wrap ((m:Int) - (a:Int))=(m:Int) - (a:Int):=by rw [IntKind.wrap_i64]; omega
 have hbz:((b:Int) - (m:Int) == 1)=true:=by simp; omega
 have hbw:IntKind.i64.wrap ((b:Int) - (m:Int))=(b:Int) - (m:Int):=by rw [IntKind.wrap_i64]; omega
 have HM:Hid (b=m+1):=hmb
 have hm1:m<b:=by omega
 have hm2:b<m+2:=by omega
 clear S L R hcmp h1 hp hmb hO
 go_enter FG,Tryz.ntmps218
 go_wp2
 go_loopg [14,15] (m - a) (fun kx s14 s15 wr=>∃ (i j:Nat),s14 = .int .i64 i∧s15 = .int .i64 j∧a≤i∧i≤j∧j≤m∧j - i≤kx∧Hid ((∀ q,a≤q→q<i→¬ cf d[m]! d[q]! < 0)∧∀ q,j≤q→q<m→cf d[m]! d[q]! < 0)∧Aside (SWK enc k w0 blk off d wr))
 case atStart=>exact ⟨a,m,rfl,rfl,Nat.le_refl _,by omega,Nat.le_refl _,Nat.le_refl _,⟨fun q h1 h2=>by omega,fun q h1 h2=>by omega⟩,S0⟩
 case round =>
  clear S0
  obtain ⟨i,j,rfl,rfl,hmi,hij,hjb,hkx,HI,S1⟩:=hrel
  by_cases hlt:i<j
  ·have hltz:(i:Int)<(j:Int):=by omega
   by_cases hless:cf d[m]! d[(i+j) / 2]! < 0
   ·have hgo:∀ q,(i+j) / 2≤q→q<m→cf d[m]! d[q]! < 0:=fun q h1 h2=>by
     by_cases e:q=(i+j) / 2
     ·rw [e]; exact hless
     ·have h3:=(H1.out ((i+j) / 2) q (by omega) (by omega) h2).le
      exact HO.out.lt_le hless h3
    have HG:Hid _:=hgo
    clear hgo
    have ea24:((m:Int)).toNat=m:=by omega
    have pa24:(0:Int)≤(m:Int):=by omega
    have ba24:(m:Int)<(d.size:Int):=by omega
    have ra24:IntKind.i64.wrap ((m:Int))=(m:Int):=by rw [IntKind.wrap_i64]; omega
    have ec24:(((i:Int)+(j:Int)) / 2).toNat=(i+j) / 2:=by omega
    have pc24:(0:Int)≤((i:Int)+(j:Int)) / 2:=by omega
    have bc24:((i:Int)+(j:Int)) / 2<(d.size:Int):=by omega
    have rc24:IntKind.i64.wrap (((i:Int)+(j:Int)) / 2)=((i:Int)+(j:Int)) / 2:=by rw [IntKind.wrap_i64]; omega
    obtain ⟨x24,hx24⟩:∃ x,x=d[m]!:=⟨_,rfl⟩
    obtain ⟨y24,hy24⟩:∃ x,x=d[(i+j) / 2]!:=⟨_,rfl⟩
    have l24a:=S1.out.ld HR.out (by omega) P (m) (by omega)
    have l24b:=S1.out.ld HR.out (by omega) P ((i+j) / 2) (by omega)
    rw [← hx24] at l24a
    rw [← hy24] at l24b
    have hc24:=S1.out.cmp HC.out (by omega) x24 y24
    have hv24:cf x24 y24<0:=by rw [hx24,hy24]; exact hless
    have hd24:decide (cf x24 y24<0)=true:=decide_eq_true hv24
    have HL24:Hid _:=hless
    clear hless
    clear hx24 hy24
    go_wp2_with fail
    go_quiet_grown (first | (go_at_fn g; refine Calls.grown_of (hc24 _ _)))
    have S2:Aside (SWK enc k w0 blk off d (grow (wr.drewN nq) osq)):=S1.out.grown nq osq
    clear l24a l24b hc24 S1
    generalize grow (wr.drewN nq) osq=w2 at S2 ⊢
    clear nq osq
    go_wp2_with fail
    go_roundg ((i+j) / 2 - i)
    case measure=>omega
    case rel=>exact ⟨i,(i+j) / 2,rfl,by rw [show ((i:Int)+(j:Int)) / 2=(((i+j) / 2:Nat):Int) by omega],hmi,by omega,by omega,Nat.le_refl _,⟨HI.out.1,HG.out⟩,S2⟩
   ·have hgo:∀ q,a≤q→q<(i+j) / 2+1→¬ cf d[m]! d[q]! < 0:=fun q h1 h2 h5=>by
     by_cases e:q=(i+j) / 2
     ·rw [e] at h5; exact hless h5
     ·have h3:=(H1.out q ((i+j) / 2) h1 (by omega) (by omega)).le
      exact hless (HO.out.lt_le h5 h3)
    have HG:Hid _:=hgo
    clear hgo
    have ea24:((m:Int)).toNat=m:=by omega
    have pa24:(0:Int)≤(m:Int):=by omega
    have ba24:(m:Int)<(d.size:Int):=by omega
    have ra24:IntKind.i64.wrap ((m:Int))=(m:Int):=by rw [IntKind.wrap_i64]; omega
    have ec24:(((i:Int)+(j:Int)) / 2).toNat=(i+j) / 2:=by omega
    have pc24:(0:Int)≤((i:Int)+(j:Int)) / 2:=by omega
    have bc24:((i:Int)+(j:Int)) / 2<(d.size:Int):=by omega
    have rc24:IntKind.i64.wrap (((i:Int)+(j:Int)) / 2)=((i:Int)+(j:Int)) / 2:=by rw [IntKind.wrap_i64]; omega
    obtain ⟨x24,hx24⟩:∃ x,x=d[m]!:=⟨_,rfl⟩
    obtain ⟨y24,hy24⟩:∃ x,x=d[(i+j) / 2]!:=⟨_,rfl⟩
    have l24a:=S1.out.ld HR.out (by omega) P (m) (by omega)
    have l24b:=S1.out.ld HR.out (by omega) P ((i+j) / 2) (by omega)
    rw [← hx24] at l24a
    rw [← hy24] at l24b
    have hc24:=S1.out.cmp HC.out (by omega) x24 y24
    have hv24:¬ cf x24 y24<0:=by rw [hx24,hy24]; exact hless
    have hd24:decide (cf x24 y24<0)=false:=decide_eq_false hv24
    have HL24:Hid _:=hless
    clear hless
    clear hx24 hy24
    go_wp2_with fail
    go_quiet_grown (first | (go_at_fn g; refine Calls.grown_of (hc24 _ _)))
    have S2:Aside (SWK enc k w0 blk off d (grow (wr.drewN nq) osq)):=S1.out.grown nq osq
    clear l24a l24b hc24 S1
    generalize grow (wr.drewN nq) osq=w2 at S2 ⊢
    clear nq osq
    go_wp2_with fail
    go_roundg (j - ((i+j) / 2+1))
    case measure=>omega
    case rel=>exact ⟨(i+j) / 2+1,j,by rw [show ((i:Int)+(j:Int)) / 2+1=(((i+j) / 2+1:Nat):Int) by omega],rfl,by omega,by omega,hjb,Nat.le_refl _,⟨HG.out,HI.out.2⟩,S2⟩
  ·obtain rfl:i=j:=by omega
   have hltz:¬ (i:Int)<(i:Int):=by omega
   go_wp2
   go_loopg [17] (m - i) (fun kx s17 wr2=>∃ (q:Nat) (dk:Array α),s17 = .int .i64 q∧i≤q∧q≤m∧q - i≤kx∧dk.size=d.size∧Hid (Rot q m (m+1) d dk)∧Aside (SWK enc k w0 blk off dk wr2))
   case atStart=>exact ⟨m,d,rfl,by omega,Nat.le_refl _,Nat.le_refl _,rfl,Rot.nothing m (m+1) d (by omega),S1⟩
   case round =>
    clear S1
    obtain ⟨q,dk,rfl,haq,hqi,hkq,hds,HQ,S1⟩:=hrel
    by_cases hq:i<q
    ·have hqz:(i:Int)<(q:Int):=by omega
     obtain ⟨p,rfl⟩:∃ p,q=p+1:=⟨q - 1,by omega⟩
     have hqz':(i:Int)<(p:Int)+1:=by omega
     have ea44:((p:Int)+1).toNat=p+1:=by omega
     have pa44:(0:Int)≤(p:Int)+1:=by omega
     have ba44:(p:Int)+1<(d.size:Int):=by omega
     have ra44:IntKind.i64.wrap ((p:Int)+1)=(p:Int)+1:=by rw [IntKind.wrap_i64]; omega
     have ec44:((p:Int)).toNat=p:=by omega
     have pc44:(0:Int)≤(p:Int):=by omega
     have bc44:(p:Int)<(d.size:Int):=by omega
     have rc44:IntKind.i64.wrap ((p:Int))=(p:Int):=by rw [IntKind.wrap_i64]; omega
     have S2:Aside (SWK enc k w0 blk off (swp dk (p+1) (p)) ((wr.drew.setCells blk (off+(p+1)*k) (enc dk[p]!)).setCells blk (off+(p)*k) (enc dk[p+1]!))):=S1.out.swapped HR.out (p+1) (p) (by omega) (by omega)
     have l44a:=S1.out.ld1 HR.out (by omega) P (p+1) (by omega)
     have l44b:=S1.out.ld1 HR.out (by omega) P (p) (by omega)
     have s44a:=S1.out.st1 HR.out (by omega) P (p+1) (by omega) dk[p]!
     have s44b:=S1.out.st2 HR.out (by omega) P (p+1) (p) (by omega) (by omega) dk[p]! dk[p+1]!
     have n44a:(enc dk[p+1]!).length=k:=HR.out.hk _
     have n44b:(enc dk[p]!).length=k:=HR.out.hk _
     generalize enc dk[p+1]! = cI44 at S2 l44a s44b n44a
     generalize enc dk[p]! = cJ44 at S2 l44b s44a s44b n44b
     clear S1
     go_wp2_with fail
     go_big_region_o
     clear l44a l44b s44a s44b
     generalize (wr.drew.setCells blk (off+(p+1)*k) cJ44).setCells blk (off+(p)*k) cI44=w2 at S2 ⊢
     go_wp2
     go_roundg (p - i)
     case measure=>omega
     case rel=>exact ⟨p,swp dk (p+1) p,by first | rfl | go_num | (congr 1; omega),by omega,by omega,Nat.le_refl _,by rw [size_swp]; exact hds,HQ.out.down (by omega) (by omega),S2⟩
    ·have hqz:¬ (i:Int)<(q:Int):=by omega
     obtain rfl:q=i:=by omega
     go_wp2
     (try simp only [Exit.inBlock,Exit.then]); refine bodyPost_ret (results_none rfl _ _ _) rfl ?_
     have hr:=HQ.out
     refine ⟨rfl,dk,?_,?_,S1.out⟩
     ·have hmb:=HM.out
      subst hmb
      exact permIn_mono d dk q (m+1) a (m+1) (by omega) (Nat.le_refl _) hb (hr.perm (by omega) (by omega) (by omega))
     ·have hmb:=HM.out
      subst hmb
      exact insRight HO.out H1.out HP.out (by omega) (by omega) (fun q g1 g2=>by have:=HI.out.1 q g1 g2; omega) HI.out.2 hr
end Go.Proofs.YtohjlfhmnmcndaaGreat
/- slices.symMergeCmpFunc, slices.stableCmpFunc and slices.SortStableFunc at ops.keyed. -/
namespace Go.Proofs.YtohjlfhmnmcndaaGreat
open Go.Shelf Go.RowKit Go.Lib Go.Sort
variable {P:Program} {α:Type} [Inhabited α]

def SymAt (P:Program) (k:Nat) (enc:α→List Value) (cf:α→α→Int) (pre:α→α→Prop) (g:Nat) (cb:Array Value) (blk off cap:Nat) (d0:Array α) (w0:World) (n:Nat):Prop :=
 ∀ (a m b:Nat) (d:Array α) (w:World),b - a≤n→d0.size=d.size→SWK enc k w0 blk off d w→a<m→m<b→b≤d.size→SortS cf pre a m d→SortS cf pre m b d→PreIn pre a m b d →
  Calls P 218 #[.slice (some ⟨blk,off,none⟩) d.size cap,.int .i64 a,.int .i64 m,.int .i64 b,.func (.func g) #[] cb] w fun e w'=>e = .returned (.tuple #[])∧∃ d',PermIn a b d d'∧SortS cf pre a b d'∧SWK enc k w0 blk off d' w'

theorem Split.left {cf:α→α→Int} {pre:α→α→Prop} {a s mid e b:Nat} {d:Array α} (h:Split cf pre a s mid e b d) (hc:s=a∨s=mid):SortS cf pre a mid d:=by
 rcases hc with rfl | rfl
 ·exact h.s2
 ·exact h.s1
theorem Split.right {cf:α→α→Int} {pre:α→α→Prop} {a s mid e b:Nat} {d d2:Array α} (h:Split cf pre a s mid e b d) (p:PermIn a mid d d2) (hme:mid≤e):SortS cf pre mid e d2∧SortS cf pre e b d2∧PreIn pre mid e b d2:=by
 have q:∀ i,mid≤i→d2[i]! = d[i]!:=fun i hi=>p.2.1 i (.inr hi)
 refine ⟨h.s3.congr fun i h1 _=>q i h1,h.s4.congr fun i h1 _=>q i (by omega),fun i j h1 h2 h3 h4=>?_⟩
 rw [q i h1,q j (by omega)]
 exact h.p2 i j h1 h2 h3 h4
theorem Split.rightT {cf:α→α→Int} {pre:α→α→Prop} {a s mid e b:Nat} {d d2:Array α} (h:Split cf pre a s mid e b d) (p:PermIn a mid d d2) (hme:mid≤e) (hc:e=mid∨e=b):SortS cf pre mid b d2:=by
 obtain ⟨r1,r2,_⟩:=h.right p hme
 rcases hc with rfl | rfl
 ·exact r2
 ·exact r1
theorem sym_perm {a s m mid e b:Nat} {d d1 d2 d3:Array α} (hr:Rot s m e d d1) (p:PermIn a mid d1 d2) (q:PermIn mid b d2 d3) (h1:a≤s) (h2:s≤m) (h3:m≤e) (h4:e≤b) (h5:a≤mid∧mid≤b) (hb:b≤d.size):PermIn a b d d3:=by
 have z1:=hr.1
 have z2:=p.1
 exact permIn_trans d d1 d3 a b (permIn_mono d d1 s e a b h1 h4 hb (hr.perm h2 h3 (by omega))) (permIn_trans d1 d2 d3 a b (permIn_mono d1 d2 a mid a b (Nat.le_refl _) h5.2 (by omega) p) (permIn_mono d2 d3 mid b a b h5.1 (Nat.le_refl _) (by omega) q))

set_option maxHeartbeats 8000000 in
set_option maxRecDepth 1000000 in
theorem symTail_at (n:Nat) (k:Nat) (L:KLay P k) (enc:α→List Value) (cf:α→α→Int) (pre:α→α→Prop) (hO:Ordr cf pre) (g:Nat) (cb:Array Value) (blk off cap a m b:Nat) (d0 d:Array α) (w0 w:World)
  (eg:∀ args w,(callFunc g args).run P w = .ok (.enter g args) w) (hcmp:CmpLays P g cb enc k cf blk off d0.size w0) (R:RowK enc k w0 blk off d0) (hs:d0.size=d.size) (S:SWK enc k w0 blk off d w) (eSw:∀ args w,(callFunc 249 args).run P w = .ok (.enter 249 args) w) (eRo:∀ args w,(callFunc 241 args).run P w = .ok (.enter 241 args) w) (eSy:∀ args w,(callFunc 218 args).run P w = .ok (.enter 218 args) w) (hma:a+1<m) (hmb:m+1<b) (hb:b≤d.size) (hsz:d.size<4611686018427387904) (h1:SortS cf pre a m d) (h2:SortS cf pre m b d) (hp:PreIn pre a m b d) (hn:b - a≤n+1) (IH:SymAt P k enc cf pre g cb blk off cap d0 w0 n) :
  Calls P 218 #[.slice (some ⟨blk,off,none⟩) d.size cap,.int .i64 a,.int .i64 m,.int .i64 b,.func (.func g) #[] cb] w fun e w'=>e = .returned (.tuple #[])∧∃ d',PermIn a b d d'∧SortS cf pre a b d'∧SWK enc k w0 blk off d' w':=by
 have mixed:=L.mixed; have t0:=L.t0; have a0:=L.a0; have z0:=L.z0; have t3:=L.t3; have a3:=L.a3; have z3:=L.z3; have v3:=L.v3; have t4:=L.t4; have a4:=L.a4; have z4:=L.z4; have t22:=L.t22; have a22:=L.a22; have z22:=L.z22; have t25:=L.t25; have a25:=L.a25; have z25:=L.z25; have t39:=L.t39; have a39:=L.a39; have z39:=L.z39; have aE:=L.aE; have zE:=L.zE
 have FG:=L.fSy
 have HLay:Aside (KLay P k):=L
 have HC:Aside _:=hcmp
 have S0:Aside (SWK enc k w0 blk off d w):=S
 have HR:Aside (RowK enc k w0 blk off d0):=R
 have HO:Hid (Ordr cf pre):=hO
 have H1:Hid (SortS cf pre a m d):=h1
 have H2:Hid (SortS cf pre m b d):=h2
 have HP:Hid (PreIn pre a m b d):=hp
 have HI:Hid (SymAt P k enc cf pre g cb blk off cap d0 w0 n):=IH
 have hmz:((m:Int) - (a:Int) == 1)=false:=by simp; omega
 have hmw:IntKind.i64.wrap ((m:Int) - (a:Int))=(m:Int) - (a:Int):=by rw [IntKind.wrap_i64]; omega
 have hbz:((b:Int) - (m:Int) == 1)=false:=by simp; omega
 have hbw:IntKind.i64.wrap ((b:Int) - (m:Int))=(b:Int) - (m:Int):=by rw [IntKind.wrap_i64]; omega
 obtain ⟨mid,hmid⟩:∃ mid,mid=(a+b) / 2:=⟨_,rfl⟩
 have hmidz:((a:Int)+(b:Int)) / 2=(mid:Int):=by omega
 have hm1:a<mid:=by omega
 have hm2:mid<b:=by omega
 have hm3:2*mid≤a+b:=by omega
 have hm4:a+b<2*mid+2:=by omega
 have hmm:IntKind.i64.wrap ((mid:Int)+(m:Int))=(mid:Int)+(m:Int):=by rw [IntKind.wrap_i64]; omega
 have hp1:IntKind.i64.wrap ((mid:Int)+(m:Int) - 1)=(mid:Int)+(m:Int) - 1:=by rw [IntKind.wrap_i64]; omega
 have hsb:IntKind.i64.wrap ((mid:Int)+(m:Int) - (b:Int))=(mid:Int)+(m:Int) - (b:Int):=by rw [IntKind.wrap_i64]; omega
 clear S L R hcmp h1 h2 hp hO IH hmid
 -- the rest,once the search has begun: 's0' the first place,'r0' the last
 have REST:∀ s0 r0:Nat,(s0=a∧r0=m∧m≤mid)∨(s0+b=mid+m∧r0=mid∧mid<m)→Aside (∀ s,s0≤s→s≤r0→(s0<s→¬ cf d[mid+m - s]! d[s - 1]! < 0)→(s<r0→cf d[mid+m - 1 - s]! d[s]! < 0)→∀ d',Rot s m (mid+m - s) d d'→Split cf pre a s mid (mid+m - s) b d'∧a≤s∧s≤mid∧s≤m∧mid≤mid+m - s∧m≤mid+m - s∧mid+m - s≤b):=fun s0 r0 hc s hs1 hs2 c1 c2 d' hr=>by
  have q1:a≤s∧s≤mid∧s≤m∧mid≤mid+m - s∧m≤mid+m - s∧mid+m - s≤b:=by omega
  refine ⟨split_ok HO.out H1.out H2.out HP.out q1.1 q1.2.2.1 q1.2.2.2.2.1 q1.2.2.2.2.2 (by omega) ?_ ?_ hr,q1⟩
  ·by_cases e:s0<s
   ·exact .inr (.inr (c1 e))
   ·rcases hc with hc | hc
    ·exact .inl (by omega)
    ·exact .inr (.inl (by omega))
  ·by_cases e:s<r0
   ·rw [show mid+m - s - 1=mid+m - 1 - s by omega]; exact .inr (.inr (c2 e))
   ·rcases hc with hc | hc
    ·exact .inl (by omega)
    ·exact .inr (.inl (by omega))
 have RESTH:Hid (∀ s0 r0:Nat,(s0=a∧r0=m∧m≤mid)∨(s0+b=mid+m∧r0=mid∧mid<m)→Aside (∀ s,s0≤s→s≤r0→(s0<s→¬ cf d[mid+m - s]! d[s - 1]! < 0)→(s<r0→cf d[mid+m - 1 - s]! d[s]! < 0)→∀ d',Rot s m (mid+m - s) d d'→Split cf pre a s mid (mid+m - s) b d'∧a≤s∧s≤mid∧s≤m∧mid≤mid+m - s∧m≤mid+m - s∧mid+m - s≤b)):=REST
 clear REST
 go_enter FG,Tryz.ntmps218
 go_upto_if 140 with fail
 go_cut [20,21] from 25 (fun s20 s21 wc=>∃ s0 r0:Nat,s20 = .int .i64 s0∧s21 = .int .i64 r0∧((s0=a∧r0=m∧m≤mid)∨(s0+b=mid+m∧r0=mid∧mid<m))∧wc=w)
 case first =>
  clear HC S0 HR HO H1 H2 HP HI RESTH HLay
  by_cases hgt:mid<m
  ·have hgz:(mid:Int)<(m:Int):=by omega
   go_wp2_with fail
   go_meet
   case rel=>exact ⟨mid+m - b,mid,by go_num,rfl,.inr ⟨by omega,rfl,hgt⟩,rfl⟩
  ·have hgz:¬ (mid:Int)<(m:Int):=by omega
   go_wp2_with fail
   go_meet
   case rel=>exact ⟨a,m,rfl,rfl,.inl ⟨rfl,rfl,by omega⟩,rfl⟩
 case rest =>
 obtain ⟨s0,r0,rfl,rfl,hc0,rfl⟩:=hcut
 have REST:=RESTH.out s0 r0 hc0
 have hb1:s0≤r0:=by omega
 have hb2:r0≤mid:=by omega
 have hb3:a≤s0:=by omega
 have hb4:r0≤m:=by omega
 have hb5:mid+m≤s0+b:=by omega
 clear RESTH hc0
 go_wp2_with fail
 go_loopg [20,21] (r0 - s0) (fun kx s20 s21 wr=>∃ (s r:Nat),s20 = .int .i64 s∧s21 = .int .i64 r∧s0≤s∧s≤r∧r≤r0∧r - s≤kx∧Hid ((s0<s→0≤cf d[mid+m - s]! d[s - 1]!)∧(r<r0→cf d[mid+m - 1 - r]! d[r]! < 0))∧Aside (SWK enc k w0 blk off d wr))
 case atStart=>exact ⟨s0,r0,rfl,rfl,Nat.le_refl _,hb1,Nat.le_refl _,Nat.le_refl _,⟨fun h=>absurd h (Nat.lt_irrefl _),fun h=>absurd h (Nat.lt_irrefl _)⟩,S0⟩
 case round =>
  clear S0
  obtain ⟨s,r,rfl,rfl,hss,hsr,hrr,hkx,HS,S1⟩:=hrel
  by_cases hlt:s<r
  ·have hltz:(s:Int)<(r:Int):=by omega
   obtain ⟨c,hc⟩:∃ c,c=(s+r) / 2:=⟨_,rfl⟩
   have hcz:((s:Int)+(r:Int)) / 2=(c:Int):=by omega
   have hc1:s≤c:=by omega
   have hc2:c<r:=by omega
   obtain ⟨q,hq⟩:∃ q,q=mid+m - 1 - c:=⟨_,rfl⟩
   have hqz:IntKind.i64.wrap ((mid:Int)+(m:Int) - 1 - (c:Int))=(q:Int):=by rw [IntKind.wrap_i64]; omega
   have hq1:q+c<mid+m:=by omega
   have hq2:mid+m≤q+c+1:=by omega
   have HQ:Hid (q=mid+m - 1 - c):=hq
   clear hc hq
   by_cases hless:cf d[q]! d[c]! < 0
   ·have HG:Hid (cf d[q]! d[c]! < 0):=hless
    have ea24:((q:Int)).toNat=q:=by omega
    have pa24:(0:Int)≤(q:Int):=by omega
    have ba24:(q:Int)<(d.size:Int):=by omega
    have ra24:IntKind.i64.wrap ((q:Int))=(q:Int):=by rw [IntKind.wrap_i64]; omega
    have ec24:((c:Int)).toNat=c:=by omega
    have pc24:(0:Int)≤(c:Int):=by omega
    have bc24:(c:Int)<(d.size:Int):=by omega
    have rc24:IntKind.i64.wrap ((c:Int))=(c:Int):=by rw [IntKind.wrap_i64]; omega
    obtain ⟨x24,hx24⟩:∃ x,x=d[q]!:=⟨_,rfl⟩
    obtain ⟨y24,hy24⟩:∃ x,x=d[c]!:=⟨_,rfl⟩
    have l24a:=S1.out.ld HR.out (by omega) P (q) (by omega)
    have l24b:=S1.out.ld HR.out (by omega) P (c) (by omega)
    rw [← hx24] at l24a
    rw [← hy24] at l24b
    have hc24:=S1.out.cmp HC.out (by omega) x24 y24
    have hv24:cf x24 y24<0:=by rw [hx24,hy24]; exact hless
    have hd24:decide (cf x24 y24<0)=true:=decide_eq_true hv24
    have HL24:Hid _:=hless
    clear hless
    clear hx24 hy24
    go_wp2_with fail
    go_quiet_grown (first | (go_at_fn g; refine Calls.grown_of (hc24 _ _)))
    have S2:Aside (SWK enc k w0 blk off d (grow (wr.drewN nq) osq)):=S1.out.grown nq osq
    clear l24a l24b hc24 S1
    generalize grow (wr.drewN nq) osq=w2 at S2 ⊢
    clear nq osq
    go_wp2_with fail
    go_roundg (c - s)
    case measure=>omega
    case rel=>exact ⟨s,c,rfl,rfl,hss,by omega,by omega,Nat.le_refl _,⟨HS.out.1,fun _=>by rw [← HQ.out]; exact HG.out⟩,S2⟩
   ·have HG:Hid (¬ cf d[q]! d[c]! < 0):=hless
    have ea24:((q:Int)).toNat=q:=by omega
    have pa24:(0:Int)≤(q:Int):=by omega
    have ba24:(q:Int)<(d.size:Int):=by omega
    have ra24:IntKind.i64.wrap ((q:Int))=(q:Int):=by rw [IntKind.wrap_i64]; omega
    have ec24:((c:Int)).toNat=c:=by omega
    have pc24:(0:Int)≤(c:Int):=by omega
    have bc24:(c:Int)<(d.size:Int):=by omega
    have rc24:IntKind.i64.wrap ((c:Int))=(c:Int):=by rw [IntKind.wrap_i64]; omega
    obtain ⟨x24,hx24⟩:∃ x,x=d[q]!:=⟨_,rfl⟩
    obtain ⟨y24,hy24⟩:∃ x,x=d[c]!:=⟨_,rfl⟩
    have l24a:=S1.out.ld HR.out (by omega) P (q) (by omega)
    have l24b:=S1.out.ld HR.out (by omega) P (c) (by omega)
    rw [← hx24] at l24a
    rw [← hy24] at l24b
    have hc24:=S1.out.cmp HC.out (by omega) x24 y24
    have hv24:¬ cf x24 y24<0:=by rw [hx24,hy24]; exact hless
    have hd24:decide (cf x24 y24<0)=false:=decide_eq_false hv24
    have HL24:Hid _:=hless
    clear hless
    clear hx24 hy24
    go_wp2_with fail
    go_quiet_grown (first | (go_at_fn g; refine Calls.grown_of (hc24 _ _)))
    have S2:Aside (SWK enc k w0 blk off d (grow (wr.drewN nq) osq)):=S1.out.grown nq osq
    clear l24a l24b hc24 S1
    generalize grow (wr.drewN nq) osq=w2 at S2 ⊢
    clear nq osq
    go_wp2_with fail
    go_roundg (r - (c+1))
    case measure=>omega
    case rel=>exact ⟨c+1,r,by go_num,rfl,by omega,by omega,hrr,Nat.le_refl _,⟨fun _=>by
     rw [show mid+m - (c+1)=mid+m - 1 - c by omega,show c+1 - 1=c by omega,← HQ.out]
     have:=HG.out; omega,HS.out.2⟩,S2⟩
  ·obtain rfl:s=r:=by omega
   have hltz:¬ (s:Int)<(s:Int):=by omega
   obtain ⟨e,he⟩:∃ e,e=mid+m - s:=⟨_,rfl⟩
   have HT:Hid (∀ d',Rot s m e d d'→Split cf pre a s mid e b d'∧a≤s∧s≤mid∧s≤m∧mid≤e∧m≤e∧e≤b):=by
    show _
    rw [he]
    exact REST.out s hss hrr HS.out.1 HS.out.2
   have he1:e+s≤mid+m:=by omega
   have he2:mid+m≤e+s:=by omega
   have hew:IntKind.i64.wrap ((mid:Int)+(m:Int) - (s:Int))=(e:Int):=by rw [IntKind.wrap_i64]; omega
   clear he REST HS
   by_cases c1:s<m
   ·by_cases c2:s<mid
    ·by_cases c3:a<s
     ·by_cases c4:e<b
      ·have z1:(s:Int)<(m:Int):=by omega
       have z2:(m:Int)<(e:Int):=by omega
       have z3:(a:Int)<(s:Int):=by omega
       have z4:(s:Int)<(mid:Int):=by omega
       have z5:(mid:Int)<(e:Int):=by omega
       have z6:(e:Int)<(b:Int):=by omega
       have con:=rotate_at k HLay.out enc g cb blk off cap s m e d0 d w0 wr HR.out (by omega) S1.out (by omega) (by omega) (by omega) (by omega) eSw
       clear S1
       go_wp2_with fail
       refine con.mono ?_
       rintro _ w1 ⟨rfl,d1,hr,S2⟩
       have S2:Aside _:=S2
       clear con
       dsimp only
       have hz1:=hr.1
       have SP:=HT.out d1 hr
       have HRt:Hid (Rot s m e d d1):=hr
       have HSP:Hid (Split cf pre a s mid e b d1):=SP.1
       clear SP hr
       have con:=HI.out a s mid d1 w1 (by omega) (by omega) S2.out (by omega) (by omega) (by omega) HSP.out.s1 HSP.out.s2 HSP.out.p1
       rw [hz1] at con
       clear S2
       go_wp2_with fail
       refine con.mono ?_
       rintro _ w2 ⟨rfl,d2,q1,q2,S3⟩
       have S3:Aside _:=S3
       have Q1:Hid (PermIn a mid d1 d2):=q1
       have Q2:Hid (SortS cf pre a mid d2):=q2
       have hz2:d2.size=d1.size:=q1.1
       clear con q1 q2
       dsimp only
       have RR:=HSP.out.right Q1.out (by omega)
       have con:=HI.out mid e b d2 w2 (by omega) (by omega) S3.out (by omega) (by omega) (by omega) RR.1 RR.2.1 RR.2.2
       rw [hz2,hz1] at con
       clear S3 RR
       go_wp2_with fail
       refine con.mono ?_
       rintro _ w3 ⟨rfl,d3,q3,q4,S4⟩
       have S4:Aside _:=S4
       have Q3:Hid (PermIn mid b d2 d3):=q3
       have Q4:Hid (SortS cf pre mid b d3):=q4
       clear con q3 q4
       dsimp only
       go_wp2
       go_end0
       exact ⟨rfl,d3,sym_perm HRt.out Q1.out Q3.out (by omega) (by omega) (by omega) (by omega) (by omega) hb,sjoin_ok (d:=d1) (by omega) (by omega) HSP.out.lr Q1.out Q2.out Q3.out Q4.out,S4.out⟩
      ·have z1:(s:Int)<(m:Int):=by omega
       have z2:(m:Int)<(e:Int):=by omega
       have z3:(a:Int)<(s:Int):=by omega
       have z4:(s:Int)<(mid:Int):=by omega
       have z5:(mid:Int)<(e:Int):=by omega
       have z6:¬ (e:Int)<(b:Int):=by omega
       have con:=rotate_at k HLay.out enc g cb blk off cap s m e d0 d w0 wr HR.out (by omega) S1.out (by omega) (by omega) (by omega) (by omega) eSw
       clear S1
       go_wp2_with fail
       refine con.mono ?_
       rintro _ w1 ⟨rfl,d1,hr,S2⟩
       have S2:Aside _:=S2
       clear con
       dsimp only
       have hz1:=hr.1
       have SP:=HT.out d1 hr
       have HRt:Hid (Rot s m e d d1):=hr
       have HSP:Hid (Split cf pre a s mid e b d1):=SP.1
       clear SP hr
       have con:=HI.out a s mid d1 w1 (by omega) (by omega) S2.out (by omega) (by omega) (by omega) HSP.out.s1 HSP.out.s2 HSP.out.p1
       rw [hz1] at con
       clear S2
       go_wp2_with fail
       refine con.mono ?_
       rintro _ w2 ⟨rfl,d2,q1,q2,S3⟩
       have S3:Aside _:=S3
       have Q1:Hid (PermIn a mid d1 d2):=q1
       have Q2:Hid (SortS cf pre a mid d2):=q2
       have hz2:d2.size=d1.size:=q1.1
       clear con q1 q2
       dsimp only
       have Q3:Hid (PermIn mid b d2 d2):=permIn_refl d2 mid b
       have Q4:Hid (SortS cf pre mid b d2):=HSP.out.rightT Q1.out (by omega) (by omega)
       go_wp2
       go_end0
       exact ⟨rfl,d2,sym_perm HRt.out Q1.out Q3.out (by omega) (by omega) (by omega) (by omega) (by omega) hb,sjoin_ok (d:=d1) (by omega) (by omega) HSP.out.lr Q1.out Q2.out Q3.out Q4.out,S3.out⟩
     ·by_cases c4:e<b
      ·have z1:(s:Int)<(m:Int):=by omega
       have z2:(m:Int)<(e:Int):=by omega
       have z3:¬ (a:Int)<(s:Int):=by omega
       have z4:(s:Int)<(mid:Int):=by omega
       have z5:(mid:Int)<(e:Int):=by omega
       have z6:(e:Int)<(b:Int):=by omega
       have con:=rotate_at k HLay.out enc g cb blk off cap s m e d0 d w0 wr HR.out (by omega) S1.out (by omega) (by omega) (by omega) (by omega) eSw
       clear S1
       go_wp2_with fail
       refine con.mono ?_
       rintro _ w1 ⟨rfl,d1,hr,S2⟩
       have S2:Aside _:=S2
       clear con
       dsimp only
       have hz1:=hr.1
       have SP:=HT.out d1 hr
       have HRt:Hid (Rot s m e d d1):=hr
       have HSP:Hid (Split cf pre a s mid e b d1):=SP.1
       clear SP hr
       obtain ⟨d2,hd2⟩:∃ d2,d2=d1:=⟨_,rfl⟩
       have hz2:d2.size=d1.size:=by rw [hd2]
       have Q1:Hid (PermIn a mid d1 d2):=by show PermIn a mid d1 d2; rw [hd2]; exact permIn_refl d1 a mid
       have Q2:Hid (SortS cf pre a mid d2):=by show SortS cf pre a mid d2; rw [hd2]; exact HSP.out.left (by omega)
       rw [← hd2] at S2
       have S3:Aside _:=S2
       clear S2 hd2
       have RR:=HSP.out.right Q1.out (by omega)
       have con:=HI.out mid e b d2 w1 (by omega) (by omega) S3.out (by omega) (by omega) (by omega) RR.1 RR.2.1 RR.2.2
       rw [hz2,hz1] at con
       clear S3 RR
       go_wp2_with fail
       refine con.mono ?_
       rintro _ w3 ⟨rfl,d3,q3,q4,S4⟩
       have S4:Aside _:=S4
       have Q3:Hid (PermIn mid b d2 d3):=q3
       have Q4:Hid (SortS cf pre mid b d3):=q4
       clear con q3 q4
       dsimp only
       go_wp2
       go_end0
       exact ⟨rfl,d3,sym_perm HRt.out Q1.out Q3.out (by omega) (by omega) (by omega) (by omega) (by omega) hb,sjoin_ok (d:=d1) (by omega) (by omega) HSP.out.lr Q1.out Q2.out Q3.out Q4.out,S4.out⟩
      ·have z1:(s:Int)<(m:Int):=by omega
       have z2:(m:Int)<(e:Int):=by omega
       have z3:¬ (a:Int)<(s:Int):=by omega
       have z4:(s:Int)<(mid:Int):=by omega
       have z5:(mid:Int)<(e:Int):=by omega
       have z6:¬ (e:Int)<(b:Int):=by omega
       have con:=rotate_at k HLay.out enc g cb blk off cap s m e d0 d w0 wr HR.out (by omega) S1.out (by omega) (by omega) (by omega) (by omega) eSw
       clear S1
       go_wp2_with fail
       refine con.mono ?_
       rintro _ w1 ⟨rfl,d1,hr,S2⟩
       have S2:Aside _:=S2
       clear con
       dsimp only
       have hz1:=hr.1
       have SP:=HT.out d1 hr
       have HRt:Hid (Rot s m e d d1):=hr
       have HSP:Hid (Split cf pre a s mid e b d1):=SP.1
       clear SP hr
       obtain ⟨d2,hd2⟩:∃ d2,d2=d1:=⟨_,rfl⟩
       have hz2:d2.size=d1.size:=by rw [hd2]
       have Q1:Hid (PermIn a mid d1 d2):=by show PermIn a mid d1 d2; rw [hd2]; exact permIn_refl d1 a mid
       have Q2:Hid (SortS cf pre a mid d2):=by show SortS cf pre a mid d2; rw [hd2]; exact HSP.out.left (by omega)
       rw [← hd2] at S2
       have S3:Aside _:=S2
       clear S2 hd2
       have Q3:Hid (PermIn mid b d2 d2):=permIn_refl d2 mid b
       have Q4:Hid (SortS cf pre mid b d2):=HSP.out.rightT Q1.out (by omega) (by omega)
       go_wp2
       go_end0
       exact ⟨rfl,d2,sym_perm HRt.out Q1.out Q3.out (by omega) (by omega) (by omega) (by omega) (by omega) hb,sjoin_ok (d:=d1) (by omega) (by omega) HSP.out.lr Q1.out Q2.out Q3.out Q4.out,S3.out⟩
    ·have z1:(s:Int)<(m:Int):=by omega
     have z2:¬ (m:Int)<(e:Int):=by omega
     have z3:(a:Int)<(s:Int):=by omega
     have z4:¬ (s:Int)<(mid:Int):=by omega
     have z5:(mid:Int)<(e:Int):=by omega
     have z6:(e:Int)<(b:Int):=by omega
     obtain ⟨d1,hd1⟩:∃ d1,d1=d:=⟨_,rfl⟩
     have hz1:d1.size=d.size:=by rw [hd1]
     have hr:Rot s m e d d1:=by
      rw [hd1]
      obtain rfl:e=m:=by omega
      exact Rot.none s e d
     rw [← hd1] at S1
     have S2:Aside _:=S1
     clear S1
     have SP:=HT.out d1 hr
     have HRt:Hid (Rot s m e d d1):=hr
     have HSP:Hid (Split cf pre a s mid e b d1):=SP.1
     clear SP hr hd1
     obtain ⟨d2,hd2⟩:∃ d2,d2=d1:=⟨_,rfl⟩
     have hz2:d2.size=d1.size:=by rw [hd2]
     have Q1:Hid (PermIn a mid d1 d2):=by show PermIn a mid d1 d2; rw [hd2]; exact permIn_refl d1 a mid
     have Q2:Hid (SortS cf pre a mid d2):=by show SortS cf pre a mid d2; rw [hd2]; exact HSP.out.left (by omega)
     rw [← hd2] at S2
     have S3:Aside _:=S2
     clear S2 hd2
     have RR:=HSP.out.right Q1.out (by omega)
     have con:=HI.out mid e b d2 wr (by omega) (by omega) S3.out (by omega) (by omega) (by omega) RR.1 RR.2.1 RR.2.2
     rw [hz2,hz1] at con
     clear S3 RR
     go_wp2_with fail
     refine con.mono ?_
     rintro _ w3 ⟨rfl,d3,q3,q4,S4⟩
     have S4:Aside _:=S4
     have Q3:Hid (PermIn mid b d2 d3):=q3
     have Q4:Hid (SortS cf pre mid b d3):=q4
     clear con q3 q4
     dsimp only
     go_wp2
     go_end0
     exact ⟨rfl,d3,sym_perm HRt.out Q1.out Q3.out (by omega) (by omega) (by omega) (by omega) (by omega) hb,sjoin_ok (d:=d1) (by omega) (by omega) HSP.out.lr Q1.out Q2.out Q3.out Q4.out,S4.out⟩
   ·by_cases c2:s<mid
    ·have z1:¬ (s:Int)<(m:Int):=by omega
     have z2:(m:Int)<(e:Int):=by omega
     have z3:(a:Int)<(s:Int):=by omega
     have z4:(s:Int)<(mid:Int):=by omega
     have z5:¬ (mid:Int)<(e:Int):=by omega
     have z6:(e:Int)<(b:Int):=by omega
     obtain ⟨d1,hd1⟩:∃ d1,d1=d:=⟨_,rfl⟩
     have hz1:d1.size=d.size:=by rw [hd1]
     have hr:Rot s m e d d1:=by
      rw [hd1]
      obtain rfl:s=m:=by omega
      exact Rot.nothing s e d (by omega)
     rw [← hd1] at S1
     have S2:Aside _:=S1
     clear S1
     have SP:=HT.out d1 hr
     have HRt:Hid (Rot s m e d d1):=hr
     have HSP:Hid (Split cf pre a s mid e b d1):=SP.1
     clear SP hr hd1
     have con:=HI.out a s mid d1 wr (by omega) (by omega) S2.out (by omega) (by omega) (by omega) HSP.out.s1 HSP.out.s2 HSP.out.p1
     rw [hz1] at con
     clear S2
     go_wp2_with fail
     refine con.mono ?_
     rintro _ w2 ⟨rfl,d2,q1,q2,S3⟩
     have S3:Aside _:=S3
     have Q1:Hid (PermIn a mid d1 d2):=q1
     have Q2:Hid (SortS cf pre a mid d2):=q2
     have hz2:d2.size=d1.size:=q1.1
     clear con q1 q2
     dsimp only
     have Q3:Hid (PermIn mid b d2 d2):=permIn_refl d2 mid b
     have Q4:Hid (SortS cf pre mid b d2):=HSP.out.rightT Q1.out (by omega) (by omega)
     go_wp2
     go_end0
     exact ⟨rfl,d2,sym_perm HRt.out Q1.out Q3.out (by omega) (by omega) (by omega) (by omega) (by omega) hb,sjoin_ok (d:=d1) (by omega) (by omega) HSP.out.lr Q1.out Q2.out Q3.out Q4.out,S3.out⟩
    ·have z1:¬ (s:Int)<(m:Int):=by omega
     have z2:¬ (m:Int)<(e:Int):=by omega
     have z3:(a:Int)<(s:Int):=by omega
     have z4:¬ (s:Int)<(mid:Int):=by omega
     have z5:¬ (mid:Int)<(e:Int):=by omega
     have z6:(e:Int)<(b:Int):=by omega
     obtain ⟨d1,hd1⟩:∃ d1,d1=d:=⟨_,rfl⟩
     have hz1:d1.size=d.size:=by rw [hd1]
     have hr:Rot s m e d d1:=by
      rw [hd1]
      obtain rfl:s=m:=by omega
      exact Rot.nothing s e d (by omega)
     rw [← hd1] at S1
     have S2:Aside _:=S1
     clear S1
     have SP:=HT.out d1 hr
     have HRt:Hid (Rot s m e d d1):=hr
     have HSP:Hid (Split cf pre a s mid e b d1):=SP.1
     clear SP hr hd1
     obtain ⟨d2,hd2⟩:∃ d2,d2=d1:=⟨_,rfl⟩
     have hz2:d2.size=d1.size:=by rw [hd2]
     have Q1:Hid (PermIn a mid d1 d2):=by show PermIn a mid d1 d2; rw [hd2]; exact permIn_refl d1 a mid
     have Q2:Hid (SortS cf pre a mid d2):=by show SortS cf pre a mid d2; rw [hd2]; exact HSP.out.left (by omega)
     rw [← hd2] at S2
     have S3:Aside _:=S2
     clear S2 hd2
     have Q3:Hid (PermIn mid b d2 d2):=permIn_refl d2 mid b
     have Q4:Hid (SortS cf pre mid b d2):=HSP.out.rightT Q1.out (by omega) (by omega)
     go_wp2
     go_end0
     exact ⟨rfl,d2,sym_perm HRt.out Q1.out Q3.out (by omega) (by omega) (by omega) (by omega) (by omega) hb,sjoin_ok (d:=d1) (by omega) (by omega) HSP.out.lr Q1.out Q2.out Q3.out Q4.out,S3.out⟩
end Go.Proofs.YtohjlfhmnmcndaaGreat
/- slices.symMergeCmpFunc whole, slices.stableCmpFunc, slices.SortStableFunc at ops.keyed. -/
namespace Go.Proofs.YtohjlfhmnmcndaaGreat
open Go.Shelf Go.RowKit Go.Lib Go.Sort
variable {P:Program} {α:Type} [Inhabited α]

theorem sym_at (k:Nat) (L:KLay P k) (enc:α→List Value) (cf:α→α→Int) (pre:α→α→Prop) (hO:Ordr cf pre) (g:Nat) (cb:Array Value) (blk off cap:Nat) (d0:Array α) (w0:World) (hsz:d0.size<4611686018427387904)
  (eg:∀ args w,(callFunc g args).run P w = .ok (.enter g args) w) (hcmp:CmpLays P g cb enc k cf blk off d0.size w0) (R:RowK enc k w0 blk off d0)
  (eSw:∀ args w,(callFunc 249 args).run P w = .ok (.enter 249 args) w) (eRo:∀ args w,(callFunc 241 args).run P w = .ok (.enter 241 args) w) (eSy:∀ args w,(callFunc 218 args).run P w = .ok (.enter 218 args) w) :
  ∀ n,SymAt P k enc cf pre g cb blk off cap d0 w0 n
 | 0=>fun a m b d w hn _ _ h1 h2 _ _ _ _=>absurd hn (by omega)
 | n+1=>fun a m b d w hn hs S h1 h2 hb s1 s2 p=>by
  have IH:=sym_at k L enc cf pre hO g cb blk off cap d0 w0 hsz eg hcmp R eSw eRo eSy n
  by_cases c1:m=a+1
  ·exact symA_at k L enc cf pre hO g cb blk off cap a m b d0 d w0 w eg hcmp R hs S c1 h2 hb (by omega) s2 p
  ·by_cases c2:b=m+1
   ·exact symB_at k L enc cf pre hO g cb blk off cap a m b d0 d w0 w eg hcmp R hs S (by omega) c2 hb (by omega) s1 p
   ·exact symTail_at n k L enc cf pre hO g cb blk off cap a m b d0 d w0 w eg hcmp R hs S eSw eRo eSy (by omega) (by omega) hb (by omega) s1 s2 p hn IH

/-! ### Blocks -/
section
variable (cf:α→α→Int) (pre:α→α→Prop)
def GoodB (bs n lo:Nat) (d:Array α):Prop:=∀ c,bs ∣ c→lo≤c→c<n→SortS cf pre c (min (c+bs) n) d
def DoneB (B a:Nat) (d:Array α):Prop:=∀ c,B ∣ c→c+B≤a→SortS cf pre c (c+B) d
def CutsB (bs n lo:Nat) (d:Array α):Prop:=∀ c,bs ∣ c→lo≤c→c≤n→PreIn pre 0 c n d
end
theorem dvd_gap {k a c:Nat} (ha:k ∣ a) (hc:k ∣ c) (h:a<c):a+k≤c:=by
 obtain ⟨x,rfl⟩:=ha
 obtain ⟨y,rfl⟩:=hc
 have hxy:x<y:=Nat.lt_of_mul_lt_mul_left h
 calc k*x+k=k*(x+1):=by rw [Nat.mul_add,Nat.mul_one]
  _≤k*y:=Nat.mul_le_mul_left k hxy
variable {cf:α→α→Int} {pre:α→α→Prop}
theorem PreIn.permR {a m b:Nat} {d d':Array α} (hb:b≤d.size) (_hm:a≤m) (h:PreIn pre a m b d) (p1:PermIn m b d d'):PreIn pre a m b d':=fun i j h1 h2 h3 h4=>by
 rw [p1.2.1 i (Or.inl h2)]
 exact permIn_all d d' m b (fun x=>pre d[i]! x) hb p1 (fun j g1 g2=>h i j h1 h2 g1 g2) j h3 h4
theorem DoneB.step {B a:Nat} {d d':Array α} (h:DoneB cf pre B a d) (ha:B ∣ a) (p:PermIn a (a+B) d d') (s:SortS cf pre a (a+B) d'):DoneB cf pre B (a+B) d':=fun c hc hl=>by
 rcases Nat.lt_or_ge c a with h1 | h1
 ·have h2:=dvd_gap hc ha h1
  exact (h c hc h2).congr fun i _ g2=>p.2.1 i (.inl (by omega))
 ·obtain rfl:c=a:=by omega
  exact s
theorem CutsB.step {B n a b:Nat} {d d':Array α} (hn:n≤d.size) (h:CutsB pre B n 0 d) (hb:b≤n) (p:PermIn a b d d') (hc:∀ c,B ∣ c→c≤a∨b≤c):CutsB pre B n 0 d':=fun c hB _ hcn=>by
 have hP:=h c hB (Nat.zero_le _) hcn
 rcases hc c hB with h1 | h1
 ·exact hP.permR hn (Nat.zero_le _) (permIn_mono d d' a b c n h1 hb hn p)
 ·exact hP.perm hn hcn (permIn_mono d d' a b 0 c (Nat.zero_le _) h1 (by omega) p)
theorem CutsB.after {bs n a b:Nat} {d d':Array α} (hn:n≤d.size) (h:CutsB pre bs n a d) (hab:a≤b) (p:PermIn a b d d'):CutsB pre bs n b d':=fun c hB hbc hcn=>(h c hB (by omega) hcn).perm hn hcn (permIn_mono d d' a b 0 c (Nat.zero_le _) hbc (by omega) p)
theorem GoodB.after {bs n a b:Nat} {d d':Array α} (h:GoodB cf pre bs n a d) (hab:a≤b) (p:PermIn a b d d'):GoodB cf pre bs n b d':=fun c hB hbc hcn=>(h c hB (by omega) hcn).congr fun i g1 _=>p.2.1 i (.inr (by omega))
/-- The last block. -/
theorem GoodB.whole {B n a:Nat} {d:Array α} (h:DoneB cf pre B a d) (ha:B ∣ a) (_hB:0<B) (hn:n<a+B) (s:SortS cf pre a n d):GoodB cf pre B n 0 d:=fun c hc _ hcn=>by
 rcases Nat.lt_or_ge c a with h1 | h1
 ·have h2:=dvd_gap hc ha h1
  exact (h c hc h2).sub (Nat.le_refl _) (Nat.min_le_left _ _)
 ·rcases Nat.lt_or_ge a c with h2 | h2
  ·have:=dvd_gap ha hc h2
   omega
  ·obtain rfl:c=a:=by omega
   rw [Nat.min_eq_right (by omega)]; exact s
theorem CutsB.of {n:Nat} {d:Array α} (h:PreS pre 0 n d) (bs:Nat):CutsB pre bs n 0 d:=fun c _ _ _ i j _ h1 h2 h3=>h i j (Nat.zero_le _) (by omega) h3

def InsAt (P:Program) (k:Nat) (enc:α→List Value) (cf:α→α→Int) (g:Nat) (cb:Array Value) (blk off cap:Nat) (d0:Array α) (w0:World):Prop :=
 ∀ (a b:Nat) (d:Array α) (w:World),d0.size=d.size→SWK enc k w0 blk off d w→a≤b→b≤d.size →
  Calls P 217 #[.slice (some ⟨blk,off,none⟩) d.size cap,.int .i64 a,.int .i64 b,.func (.func g) #[] cb] w fun e w'=>e = .returned (.tuple #[])∧SWK enc k w0 blk off (insertionSort (ltOf cf) d a b) w'

set_option maxHeartbeats 8000000 in
set_option maxRecDepth 1000000 in
theorem stable_at (k:Nat) (L:KLay P k) (enc:α→List Value) (hO:Ordr cf pre) (g:Nat) (cb:Array Value) (blk off cap:Nat) (d:Array α) (w0:World) (hsz:d.size≤1000000)
  (hS:SWK enc k w0 blk off d w0) (hP:PreS pre 0 d.size d)
  (eIn:∀ args w,(callFunc 217 args).run P w = .ok (.enter 217 args) w) (eSy:∀ args w,(callFunc 218 args).run P w = .ok (.enter 218 args) w)
  (hIns:InsAt P k enc cf g cb blk off cap d w0) (hSym:∀ n,SymAt P k enc cf pre g cb blk off cap d w0 n) :
  Calls P 192 #[.slice (some ⟨blk,off,none⟩) d.size cap,.int .i64 d.size,.func (.func g) #[] cb] w0 fun e w'=>e = .returned (.tuple #[])∧∃ d',PermIn 0 d.size d d'∧SortS cf pre 0 d.size d'∧SWK enc k w0 blk off d' w':=by
 have mixed:=L.mixed; have t0:=L.t0; have a0:=L.a0; have z0:=L.z0; have t3:=L.t3; have a3:=L.a3; have z3:=L.z3; have v3:=L.v3; have t4:=L.t4; have a4:=L.a4; have z4:=L.z4; have t22:=L.t22; have a22:=L.a22; have z22:=L.z22; have t25:=L.t25; have a25:=L.a25; have z25:=L.z25
 have FG:=L.fSt
 have S0:Aside (SWK enc k w0 blk off d w0):=hS
 have HP:Hid (PreS pre 0 d.size d):=hP
 have HI:Hid (InsAt P k enc cf g cb blk off cap d w0):=hIns
 have HY:Hid (∀ n,SymAt P k enc cf pre g cb blk off cap d w0 n):=hSym
 have HO:Hid (Ordr cf pre):=hO
 clear hS hP hIns hSym hO L
 go_enter FG,Tryz.ntmps192
 go_wp2
 go_loopg [7,8] d.size (fun kx s7 s8 wr=>∃ (a:Nat) (dk:Array α),s7 = .int .i64 a∧s8 = .int .i64 ((a+20:Nat):Int)∧a≤d.size∧d.size - a≤kx∧dk.size=d.size∧Hid (20 ∣ a∧PermIn 0 d.size d dk∧DoneB cf pre 20 a dk∧(∀ i,a≤i→dk[i]! = d[i]!)∧CutsB pre 20 d.size 0 dk)∧Aside (SWK enc k w0 blk off dk wr))
 case atStart=>exact ⟨0,d,rfl,rfl,Nat.zero_le _,Nat.le_refl _,rfl,⟨Nat.dvd_zero _,permIn_refl _ _ _,fun c _ h=>by omega,fun _ _=>rfl,CutsB.of HP.out 20⟩,S0⟩
 case round =>
  clear S0
  obtain ⟨a,dk,rfl,rfl,hal,hkx,hds,HV,S1⟩:=hrel
  have e20:((a+20:Nat):Int)=(a:Int)+20:=by omega
  by_cases hlt:a+20≤d.size
  ·have hltz:(a:Int)+20≤(d.size:Int):=by omega
   have con:=HI.out a (a+20) dk wr (by omega) S1.out (by omega) (by omega)
   rw [hds] at con
   obtain ⟨v1,v2,v3',v4,v5⟩:=HV.out
   have ins:=insertionS HO.out a (a+20) dk (by omega) (by omega) (fun i j h1 h2 h3=>by rw [v4 i h1,v4 j (by omega)]; exact HP.out i j (Nat.zero_le _) h2 (by omega))
   have hnew:20 ∣ a+20∧PermIn 0 d.size d (insertionSort (ltOf cf) dk a (a+20))∧DoneB cf pre 20 (a+20) (insertionSort (ltOf cf) dk a (a+20))∧(∀ i,a+20≤i→(insertionSort (ltOf cf) dk a (a+20))[i]! = d[i]!)∧CutsB pre 20 d.size 0 (insertionSort (ltOf cf) dk a (a+20)) :=
    ⟨Nat.dvd_add v1 (Nat.dvd_refl _),permIn_trans d dk _ 0 d.size v2 (permIn_mono dk _ a (a+20) 0 d.size (Nat.zero_le _) hlt (by omega) ins.1),v3'.step v1 ins.1 ins.2,fun i hi=>by rw [ins.1.2.1 i (.inr hi),v4 i (by omega)],v5.step (by omega) hlt ins.1 fun c hc=>by
     rcases Nat.lt_or_ge a c with h | h
     ·exact .inr (dvd_gap v1 hc h)
     ·exact .inl h⟩
   have hzn:=ins.1.1
   have HN:Hid _:=hnew
   clear S1 v1 v2 v3' v4 v5 ins hnew HV
   generalize insertionSort (ltOf cf) dk a (a+20)=dn at *
   rw [e20] at con
   go_wp2_with fail
   refine con.mono ?_
   rintro _ w1 ⟨rfl,S2⟩
   have S2:Aside _:=S2
   clear con
   dsimp only
   go_wp2
   go_roundg (d.size - (a+20))
   case measure=>omega
   case rel=>exact ⟨a+20,dn,by go_num,by go_num,hlt,Nat.le_refl _,by omega,HN,S2⟩
  ·have hltz:¬ (a:Int)+20≤(d.size:Int):=by omega
   have con:=HI.out a d.size dk wr (by omega) S1.out (by omega) (by omega)
   rw [hds] at con
   obtain ⟨v1,v2,v3',v4,v5⟩:=HV.out
   have ins:=insertionS HO.out a d.size dk (by omega) (by omega) (fun i j h1 h2 h3=>by rw [v4 i h1,v4 j (by omega)]; exact HP.out i j (Nat.zero_le _) h2 (by omega))
   have hnew:PermIn 0 d.size d (insertionSort (ltOf cf) dk a d.size)∧GoodB cf pre 20 d.size 0 (insertionSort (ltOf cf) dk a d.size)∧CutsB pre 20 d.size 0 (insertionSort (ltOf cf) dk a d.size) :=
    ⟨permIn_trans d dk _ 0 d.size v2 (permIn_mono dk _ a d.size 0 d.size (Nat.zero_le _) (Nat.le_refl _) (by omega) ins.1),GoodB.whole (a:=a) (fun c hc hl=>(v3' c hc hl).congr fun i _ g2=>ins.1.2.1 i (.inl (by omega))) v1 (by omega) (by omega) ins.2,fun c hc h1 h2=>by
     rcases Nat.lt_or_ge a c with h | h
     ·have:=dvd_gap v1 hc h; omega
     ·exact (v5 c hc h1 h2).permR (by omega) (Nat.zero_le _) (permIn_mono dk _ a d.size c d.size h (Nat.le_refl _) (by omega) ins.1)⟩
   have hzn:=ins.1.1
   have HN:Hid _:=hnew
   clear S1 v1 v2 v3' v4 v5 ins hnew HV
   generalize insertionSort (ltOf cf) dk a d.size=dn at *
   go_wp2_with fail
   refine con.mono ?_
   rintro _ w1 ⟨rfl,S2⟩
   have S2:Aside _:=S2
   clear con
   dsimp only
   go_wp2
   go_loopg [6,7,8] (d.size) (fun kx s6 s7 s8 wr=>∃ (bs:Nat) (dk:Array α),s6 = .int .i64 bs∧0<bs∧bs≤2000000∧d.size - bs≤kx∧dk.size=d.size∧Hid (PermIn 0 d.size d dk∧GoodB cf pre bs d.size 0 dk∧CutsB pre bs d.size 0 dk)∧Aside (SWK enc k w0 blk off dk wr))
   case atStart=>exact ⟨20,dn,rfl,by omega,by omega,by omega,by omega,HN,S2⟩
   case round =>
    clear S2 HN hzn
    obtain ⟨bs,dk,rfl,hb0,hb1,hkx,hds,HV,S1⟩:=hrel
    have hw2:IntKind.i64.wrap (2*(bs:Int))=((2*bs:Nat):Int):=by rw [IntKind.wrap_i64]; omega
    by_cases hlt:bs<d.size
    ·have hltz:(bs:Int)<(d.size:Int):=by omega
     obtain ⟨B,hB⟩:∃ B,B=2*bs:=⟨_,rfl⟩
     have hB1:B≤2*bs:=by omega
     have hB2:2*bs≤B:=by omega
     rw [← hB] at hw2
     have hdv:bs ∣ B:=⟨2,by omega⟩
     have HDV:Hid (bs ∣ B):=hdv
     have hw3:IntKind.i64.wrap ((bs:Int)*2)=(B:Int):=by rw [IntKind.wrap_i64]; omega
     clear hdv hB
     go_wp2_with fail
     go_loopg [7,8] (d.size) (fun kx s7 s8 wr=>∃ (a:Nat) (dk:Array α),s7 = .int .i64 a∧s8 = .int .i64 ((a+B:Nat):Int)∧a≤d.size∧d.size - a≤kx∧dk.size=d.size∧Hid (B ∣ a∧PermIn 0 d.size d dk∧DoneB cf pre B a dk∧GoodB cf pre bs d.size a dk∧CutsB pre bs d.size a dk∧CutsB pre B d.size 0 dk)∧Aside (SWK enc k w0 blk off dk wr))
     case atStart=>exact ⟨0,dk,rfl,by simp,Nat.zero_le _,Nat.le_refl _,hds,⟨Nat.dvd_zero _,HV.out.1,fun c _ h=>by omega,HV.out.2.1,HV.out.2.2,fun c hc h1 h2=>HV.out.2.2 c (Nat.dvd_trans HDV.out hc) h1 h2⟩,S1⟩
     case round =>
      clear S1 HV hds
      obtain ⟨a,dm,rfl,rfl,hal,hkx2,hds,HV,S1⟩:=hrel
      have eB:((a+B:Nat):Int)=(a:Int)+(B:Int):=by omega
      have wab:IntKind.i64.wrap ((a:Int)+(bs:Int))=((a+bs:Nat):Int):=by rw [IntKind.wrap_i64]; omega
      obtain ⟨v1,v2,v3',v4,v5,v6⟩:=HV.out
      have hda:bs ∣ a:=Nat.dvd_trans HDV.out v1
      have hdm:bs ∣ a+bs:=Nat.dvd_add hda (Nat.dvd_refl _)
      have cut:∀ c,B ∣ c→c≤a∨a+B≤c:=fun c hc=>by
       rcases Nat.lt_or_ge a c with h | h
       ·exact .inr (dvd_gap v1 hc h)
       ·exact .inl h
      by_cases hle:a+B≤d.size
      ·have hlez:(a:Int)+(B:Int)≤(d.size:Int):=by omega
       have s1:SortS cf pre a (a+bs) dm:=by have:=v4 a hda (Nat.le_refl _) (by omega); rwa [Nat.min_eq_left (by omega)] at this
       have s2:SortS cf pre (a+bs) (a+B) dm:=by have:=v4 (a+bs) hdm (by omega) (by omega); rwa [Nat.min_eq_left (by omega),show a+bs+bs=a+B by omega] at this
       have p1:PreIn pre a (a+bs) (a+B) dm:=fun i j h1 h2 h3 h4=>v5 (a+bs) hdm (by omega) (by omega) i j (Nat.zero_le _) h2 h3 (by omega)
       have con:=HY.out B a (a+bs) (a+B) dm wr (by omega) (by omega) S1.out (by omega) (by omega) (by omega) s1 s2 p1
       rw [hds] at con
       have HNX:Hid (∀ d',PermIn a (a+B) dm d'→SortS cf pre a (a+B) d'→B ∣ a+B∧PermIn 0 d.size d d'∧DoneB cf pre B (a+B) d'∧GoodB cf pre bs d.size (a+B) d'∧CutsB pre bs d.size (a+B) d'∧CutsB pre B d.size 0 d'):=fun d' q1 q2 =>
        ⟨Nat.dvd_add v1 (Nat.dvd_refl _),permIn_trans d dm d' 0 d.size v2 (permIn_mono dm d' a (a+B) 0 d.size (Nat.zero_le _) hle (by omega) q1),v3'.step v1 q1 q2,v4.after (by omega) q1,v5.after (by omega) (by omega) q1,v6.step (by omega) hle q1 cut⟩
       clear S1 HV v1 v2 v3' v4 v5 v6 s1 s2 p1 cut hda hdm
       rw [eB] at con
       go_wp2_with fail
       refine con.mono ?_
       rintro _ w2 ⟨rfl,dn2,q1,q2,S2⟩
       have S2:Aside _:=S2
       have HN:=HNX.out dn2 q1 q2
       have HN2:Hid _:=HN
       have hzn:=q1.1
       clear con q1 q2 HN HNX
       dsimp only
       go_wp2
       go_roundg (d.size - (a+B))
       case measure=>omega
       case rel=>exact ⟨a+B,dn2,by go_num,by go_num,hle,Nat.le_refl _,by omega,HN2,S2⟩
      ·have hlez:¬ (a:Int)+(B:Int)≤(d.size:Int):=by omega
       have wab':IntKind.i64.wrap ((a:Int)+(bs:Int))=(a:Int)+(bs:Int):=by rw [IntKind.wrap_i64]; omega
       clear wab
       by_cases hm:a+bs<d.size
       ·have hmz:(a:Int)+(bs:Int)<(d.size:Int):=by omega
        have s1:SortS cf pre a (a+bs) dm:=by have:=v4 a hda (Nat.le_refl _) (by omega); rwa [Nat.min_eq_left (by omega)] at this
        have s2:SortS cf pre (a+bs) d.size dm:=by have:=v4 (a+bs) hdm (by omega) (by omega); rwa [Nat.min_eq_right (by omega)] at this
        have p1:PreIn pre a (a+bs) d.size dm:=fun i j h1 h2 h3 h4=>v5 (a+bs) hdm (by omega) (by omega) i j (Nat.zero_le _) h2 h3 (by omega)
        have con:=HY.out d.size a (a+bs) d.size dm wr (by omega) (by omega) S1.out (by omega) (by omega) (by omega) s1 s2 p1
        rw [hds] at con
        have HNX:Hid (∀ d',PermIn a d.size dm d'→SortS cf pre a d.size d'→PermIn 0 d.size d d'∧GoodB cf pre B d.size 0 d'∧CutsB pre B d.size 0 d'):=fun d' q1 q2 =>
         ⟨permIn_trans d dm d' 0 d.size v2 (permIn_mono dm d' a d.size 0 d.size (Nat.zero_le _) (Nat.le_refl _) (by omega) q1),GoodB.whole (a:=a) (fun c hc hl=>(v3' c hc hl).congr fun i _ g2=>q1.2.1 i (.inl (by omega))) v1 (by omega) (by omega) q2,fun c hc h1 h2=>by
          rcases cut c hc with h | h
          ·exact (v6 c hc h1 h2).permR (by omega) (Nat.zero_le _) (permIn_mono dm d' a d.size c d.size h (Nat.le_refl _) (by omega) q1)
          ·omega⟩
        clear S1 HV v1 v2 v3' v4 v5 v6 s1 s2 p1 cut hda hdm
        have emz:((a+bs:Nat):Int)=(a:Int)+(bs:Int):=by omega
        rw [emz] at con
        go_wp2_with fail
        refine con.mono ?_
        rintro _ w2 ⟨rfl,dn2,q1,q2,S2⟩
        have S2:Aside _:=S2
        have HN:=HNX.out dn2 q1 q2
        have HN2:Hid _:=HN
        have hzn:=q1.1
        clear con q1 q2 HN HNX
        dsimp only
        go_wp2
        go_roundg (d.size - B)
        case measure=>omega
        case rel=>exact ⟨B,dn2,rfl,by omega,by omega,Nat.le_refl _,by omega,HN2,S2⟩
       ·have hmz:¬ (a:Int)+(bs:Int)<(d.size:Int):=by omega
        have s1:SortS cf pre a d.size dm:=by
         rcases Nat.lt_or_ge a d.size with h | h
         ·have:=v4 a hda (Nat.le_refl _) h; rwa [Nat.min_eq_right (by omega)] at this
         ·exact SortS.one (by omega)
        have HN2:Hid (PermIn 0 d.size d dm∧GoodB cf pre B d.size 0 dm∧CutsB pre B d.size 0 dm):=⟨v2,GoodB.whole v3' v1 (by omega) (by omega) s1,v6⟩
        clear HV v1 v2 v3' v4 v5 v6 s1 cut hda hdm
        go_wp2
        go_roundg (d.size - B)
        case measure=>omega
        case rel=>exact ⟨B,dm,rfl,by omega,by omega,Nat.le_refl _,by omega,HN2,S1⟩
    ·have hltz:¬ (bs:Int)<(d.size:Int):=by omega
     go_wp2
     go_end0
     refine ⟨rfl,dk,HV.out.1,?_,S1.out⟩
     rcases Nat.eq_zero_or_pos d.size with h | h
     ·exact SortS.one (by omega)
     ·have:=HV.out.2.1 0 (Nat.dvd_zero _) (Nat.le_refl _) h
      rwa [Nat.zero_add,Nat.min_eq_right (by omega)] at this

set_option maxHeartbeats 2000000 in
set_option maxRecDepth 1000000 in
theorem sortStable_at (k:Nat) (L:KLay P k) (enc:α→List Value) (hO:Ordr cf pre) (g:Nat) (cb:Array Value) (blk off cap:Nat) (d:Array α) (w0:World) (hsz:d.size≤1000000)
  (hS:SWK enc k w0 blk off d w0) (hP:PreS pre 0 d.size d)
  (eIn:∀ args w,(callFunc 217 args).run P w = .ok (.enter 217 args) w) (eSy:∀ args w,(callFunc 218 args).run P w = .ok (.enter 218 args) w) (eSt:∀ args w,(callFunc 192 args).run P w = .ok (.enter 192 args) w)
  (hIns:InsAt P k enc cf g cb blk off cap d w0) (hSym:∀ n,SymAt P k enc cf pre g cb blk off cap d w0 n) :
  Calls P 158 #[.slice (some ⟨blk,off,none⟩) d.size cap,.func (.func g) #[] cb] w0 fun e w'=>e = .returned (.tuple #[])∧∃ d',PermIn 0 d.size d d'∧SortS cf pre 0 d.size d'∧SWK enc k w0 blk off d' w':=by
 have con:=stable_at k L enc hO g cb blk off cap d w0 hsz hS hP eIn eSy hIns hSym
 have mixed:=L.mixed; have t0:=L.t0; have a0:=L.a0; have z0:=L.z0; have t3:=L.t3; have a3:=L.a3; have z3:=L.z3; have v3:=L.v3; have t4:=L.t4; have a4:=L.a4; have z4:=L.z4; have t22:=L.t22; have a22:=L.a22; have z22:=L.z22; have t25:=L.t25; have a25:=L.a25; have z25:=L.z25
 have FG:=L.fSo
 clear hS hP hIns hSym hO L
 go_enter FG,Tryz.ntmps158
 go_wp2_with fail
 refine con.mono ?_
 rintro _ w2 ⟨rfl,hd⟩
 clear con
 dsimp only
 have HD:Hid _:=hd
 clear hd
 go_wp2
 go_end0
 exact ⟨rfl,HD.out⟩
end Go.Proofs.YtohjlfhmnmcndaaGreat
