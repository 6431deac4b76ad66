/- Together: Z6, Z7, Z8, Z9, ZA, ZB, ZC, Form, Q1. -/
import Derived.Deep.Slices
import Derived.Shelf.SlSortCmp.NoneTotal
import Derived.Test.YtoefpglknaiaeaaGreatB4
import Derived.Test.YtoefpglknaiaeaaGreatB3
/- Rows in memory as an array for the sort; the walk of slices.Clone at rows. -/
namespace Go.Proofs.YtoefpglknaiaeaaGreat
open Go.RowKit Go.Lib Go.Shelf

theorem addr_add' (b off i:Nat):(⟨b,off,none⟩:Addr).add i=⟨b,off+i,none⟩:=by
 unfold Addr.add
 by_cases h:i=0 <;> simp [h]
theorem flat_even {w:World} (d:Array (Zg w)) (i:Nat) (h:i<d.size):(Go.Sort.flatK (encG w) 2 d)[i*2]! = .slice d[i]!.1.a d[i]!.1.row.length d[i]!.1.cap:=by
 rw [Go.Sort.get_flatK _ _ _ _ (by omega),show i*2 / 2=i by omega,show i*2 % 2=0 by omega]; rfl
theorem flat_odd {w:World} (d:Array (Zg w)) (i:Nat) (h:i<d.size):(Go.Sort.flatK (encG w) 2 d)[i*2+1]! = .int .i64 d[i]!.1.w:=by
 rw [Go.Sort.get_flatK _ _ _ _ (by omega),show (i*2+1) / 2=i by omega,show (i*2+1) % 2=1 by omega]; rfl

theorem ZsAt.arr {w:World} {a:Option Addr} {l:List Zp} (h:ZsAt w a l):∃ d:Array (Zg w),d.size=l.length∧d.toList.map (plG w)=l ∧
  (l = []∨∃ b off,a=some ⟨b,off,none⟩∧b<w.heap.size∧∀ j,j<l.length*2→w.cell? ⟨b,off+j,none⟩=some (Go.Sort.flatK (encG w) 2 d)[j]!):=by
 obtain ⟨_,rfl | ⟨b,off,e,hlt,hr⟩⟩:=h
 ·exact ⟨#[],rfl,rfl,.inl rfl⟩
 ·obtain ⟨f,hf⟩:=Go.Deep.choose_lt (α:=Zg w) (n:=l.length) (p:=fun i x=>∀ hi:i<l.length,plG w x=l[i]∧w.cell? ⟨b,off+i*2,none⟩=some (.slice x.1.a x.1.row.length x.1.cap)∧w.cell? ⟨b,off+i*2+1,none⟩=some (.int .i64 x.1.w)) (fun i hi=>by
   obtain ⟨c1,ai,ci,c0,si⟩:=hr i hi
   exact ⟨⟨⟨ai,ci,l[i].1,l[i].2⟩,si⟩,fun _=>⟨rfl,c0,c1⟩⟩)
  have hd:∀ i,i<l.length→((Array.range l.length).map f)[i]! = f i:=fun i hi=>by simp [hi]
  refine ⟨(Array.range l.length).map f,by simp,?_,.inr ⟨b,off,e,hlt,?_⟩⟩
  ·apply List.ext_getElem
   ·simp
   ·intro i h1 h2
    have:=(hf i h2 h2).1
    simpa using this
  ·intro j hj
   have hi:j / 2<l.length:=by omega
   obtain ⟨_,g0,g1⟩:=hf (j / 2) hi hi
   rcases Nat.mod_two_eq_zero_or_one j with h0 | h1
   ·have ej:j=j / 2*2:=by omega
    rw [ej,flat_even _ _ (by simpa using hi),hd _ hi]
    exact g0
   ·have ej:j=j / 2*2+1:=by omega
    rw [ej,flat_odd _ _ (by simpa using hi),hd _ hi,← Nat.add_assoc]
    exact g1

theorem holdsK_zs {w W:World} {blk off:Nat} {d:Array (Zg w)} (hb:Below w.heap.size w W) (hH:Go.Sort.HoldsK (encG w) 2 W blk off d) (hlt:blk<W.heap.size) (hl:d.size≤200000):ZsAt W (some ⟨blk,off,none⟩) (d.toList.map (plG w)):=by
 refine ⟨by simp [maxLen]; omega,.inr ⟨blk,off,rfl,hlt,fun i hi=>?_⟩⟩
 have hi':i<d.size:=by simpa using hi
 have e:d[i]! = d[i]:=getElem!_pos d i hi'
 have h0:=(hH (i*2) (by simp; omega)).1
 have h1:=(hH (i*2+1) (by simp; omega)).1
 rw [flat_even d i hi',e] at h0
 rw [flat_odd d i hi',e] at h1
 simp only [List.getElem_map,Array.getElem_toList]
 refine ⟨?_,d[i].1.a,d[i].1.cap,?_,d[i].2.next hb⟩
 ·rw [← Nat.add_assoc] at h1; exact h1
 ·exact h0

theorem own_holdsK {w W:World} {base g n cap:Nat} {d:Array (Zg w)} (hn:n=d.size) (h:W.ownsRow base 47 2 (.slice (some ⟨g,0,none⟩) n cap) n (Go.Sort.flatK (encG w) 2 d).toList):Go.Sort.HoldsK (encG w) 2 W g 0 d:=by
 intro j hj
 have hj':j<n*2:=by rw [hn]; simpa using hj
 refine ⟨?_,?_⟩
 ·rw [Nat.zero_add,h.cellAt j hj']
  show _=some (Go.Sort.flatK (encG w) 2 d)[j]!
  rw [Array.getElem?_toList,getElem!_pos (Go.Sort.flatK (encG w) 2 d) j hj]
  exact Array.getElem?_eq_getElem hj
 ·rw [Nat.zero_add]; exact h.frozenAt j

set_option maxHeartbeats 1000000 in
theorem clone_at (a:Option Addr) (cap:Nat) (l:List Zp) (w:World) (d:Array (Zg w)) (hd:d.size=l.length) (hl:l.length≤200000)
  (h:l = []∨∃ b off,a=some ⟨b,off,none⟩∧b<w.heap.size∧∀ j,j<l.length*2→w.cell? ⟨b,off+j,none⟩=some (Go.Sort.flatK (encG w) 2 d)[j]!) :
  Calls Tryz.prog 125 #[.slice a l.length cap] w fun e w'=>∃ v,e = .returned v∧w'.ownsRow w.heap.size 47 2 v l.length (Go.Sort.flatK (encG w) 2 d).toList∧Below w.heap.size w w':=by
 obtain ⟨i0,hi,hj0,hj1,hj2⟩:=info_parts Tryz.info42
 have hone:∀ u ∈ (Go.Sort.flatK (encG w) 2 d).toList,u.oneCell'=true:=by
  intro u hu
  obtain ⟨j,hj,rfl⟩:=List.getElem_of_mem hu
  have hj':j<d.size*2:=by simpa using hj
  have e:(Go.Sort.flatK (encG w) 2 d).toList[j]=(Go.Sort.flatK (encG w) 2 d)[j]!:=by
   rw [Array.getElem_toList,getElem!_pos]
  rw [e,Go.Sort.get_flatK _ _ _ _ hj']
  rcases Nat.mod_two_eq_zero_or_one j with h0 | h1
  ·rw [h0]; rfl
  ·rw [h1]; rfl
 rcases a with _ | ad
 ·have e:l = []:=by
   rcases h with h | ⟨b,off,e,_⟩
   ·exact h
   ·cases e
  subst e
  have d0:(Go.Sort.flatK (encG w) 2 d).toList = []:=by
   apply List.eq_nil_of_length_eq_zero
   simp [hd]
  rw [d0]
  rw [List.length_nil]
  have q22:∀ (w:World) (a:Option Addr) (n c n' c':Nat),(binOp .eql 38 (.slice a n c) (.slice none n' c')).run Tryz.prog w = .ok (.bool a.isNone) w:=fun w a n c n' c'=>Lib.run_eql_slice_nil w _ _ a n c n' c' Tryz.underlying38
  go_enter Tryz.func125,Tryz.ntmps125
  go_wp2_with fail
  go_ret
  exact ⟨_,rfl,World.ownsRow_nil _ _ _ _,Below.refl _ _⟩
 ·have q22:∀ (w:World) (a:Option Addr) (n c n' c':Nat),(binOp .eql 38 (.slice a n c) (.slice none n' c')).run Tryz.prog w = .ok (.bool a.isNone) w:=fun w a n c n' c'=>Lib.run_eql_slice_nil w _ _ a n c n' c' Tryz.underlying38
  go_enter Tryz.func125,Tryz.ntmps125
  go_wp2_with (at_builtin; refine wpList_append_own _ rfl _ _ 38 rfl w.heap.size 47 i0 _ 2 32 Tryz.underlying38 hi hj0 hj1 hj2 rfl (by decide) _ _ _ rfl (World.ownsRow_made w #[] 0 (Nat.le_refl _) (Nat.zero_le _) (by simp)) ad l.length cap (Go.Sort.flatK (encG w) 2 d).toList rfl ?qc1 ?qc2 hone ?qc4 ?qc5 ?qc6 ?_)
  case qc1=>simp [hd]
  case qc2 =>
   intro j u hj
   have hj':j<d.size*2:=by
    rcases Nat.lt_or_ge j (d.size*2) with h | h
    ·exact h
    ·rw [List.getElem?_eq_none (by simpa using h)] at hj; cases hj
   rcases h with h | ⟨b,off,e,hlt,hc⟩
   ·subst h; simp at hd; subst hd; simp at hj'
   ·have e:=Option.some.inj e
    subst e
    rw [addr_add']
    rw [Array.getElem?_toList,Array.getElem?_eq_getElem (by simpa using hj')] at hj
    have hj:=Option.some.inj hj
    have:=hc j (by omega)
    rw [getElem!_pos _ _ (by simpa using hj'),hj] at this
    exact Lib.cell?_alloc_some _ this
  case qc4=>rw [Nat.zero_add]; unfold maxLen; omega
  case qc5=>rw [Nat.zero_add]; omega
  case qc6=>simp
  intro v' w1 hown hgrow _
  have hb1:Below w.heap.size w w1:=((Below.refl _ _).alloc (Nat.le_refl _) _).grown hgrow (by simp) (by simp [Value.ownBlock])
  have hv:∃ a1 c1,v' = .slice a1 l.length c1:=by
   obtain ⟨_,⟨rfl,h0⟩ | ⟨g,c1,cur,rfl,_⟩⟩:=hown
   ·exact ⟨none,0,by rw [h0]⟩
   ·exact ⟨_,c1,rfl⟩
  obtain ⟨a1,c1,rfl⟩:=hv
  clear hgrow
  go_wp2_with fail
  go_ret
  exact ⟨_,rfl,hown,hb1⟩
end Go.Proofs.YtoefpglknaiaeaaGreat
/- The walk of zsets.summed. -/
namespace Go.Proofs.YtoefpglknaiaeaaGreat
open Go.RowKit Go.Lib Go.Shelf

theorem mergedL_bd (m:Int) (hm:0≤m):∀ l:List Zp,(∀ x ∈ l,-m≤x.2∧x.2≤m)→∀ y ∈ mergedL l,-(m*l.length)≤y.2∧y.2≤m*l.length:=by
 refine snoc_rec (by simp [mergedL]) ?_
 intro l x ih h y hy
 have hx:=h x (by simp)
 have ih:=ih (fun u hu=>h u (by simp [hu]))
 rw [mergedL_snoc] at hy
 have e:m*((l ++ [x]).length:Int)=m*l.length+m:=by
  simp only [List.length_append,List.length_singleton]
  rw [Int.natCast_add,Int.mul_add]; simp
 rw [e]
 have hp:0≤m*(l.length:Int):=Int.mul_nonneg hm (by omega)
 rcases List.eq_nil_or_concat (mergedL l) with e' | ⟨a,u,e'⟩
 ·rw [e',mergeTo_nil] at hy
  simp at hy; subst hy; omega
 ·rw [e',List.concat_eq_append,mergeTo_snoc] at hy
  have hu:=ih u (by rw [e']; simp)
  split at hy
  ·simp at hy
   rcases hy with hy | rfl
   ·have:=ih y (by rw [e']; simp [hy]); omega
   ·simp only; omega
  ·rcases List.mem_append.1 hy with hy | hy
   ·have:=ih y (by rw [e',List.concat_eq_append]; exact hy); omega
   ·simp at hy; subst hy; omega

theorem sorted_list {w:World} {d d':Array (Zg w)} {n:Nat} (hn:d.size=n) (hp:Go.Sort.PermIn 0 n d d') (hs:Go.Sort.SortedIn (ltOf (cfG w)) 0 n d') :
  d'.size=n∧(d'.toList.map (plG w)).Perm (d.toList.map (plG w))∧(d'.toList.map (plG w)).Pairwise fun x y=>cmpL x.1 y.1≤0:=by
 obtain ⟨h1,_,h3⟩:=hp
 have e1:d'.size=n:=h1.trans hn
 have x1:d'.extract 0 n=d':=by rw [← e1]; exact Array.extract_size
 have x2:d.extract 0 n=d:=by rw [← hn]; exact Array.extract_size
 rw [x1,x2] at h3
 refine ⟨e1,h3.map _,?_⟩
 rw [List.pairwise_map,List.pairwise_iff_getElem]
 intro i j hi hj hij
 have hi':i<d'.size:=by simpa using hi
 have hj':j<d'.size:=by simpa using hj
 have:=of_decide_eq_false (hs i j (Nat.zero_le _) hij (by omega))
 rw [getElem!_pos d' i hi',getElem!_pos d' j hj'] at this
 simp only [Array.getElem_toList,plG]
 simp only [cfG] at this
 have n1:=cmpL_neg d'[i].1.row d'[j].1.row
 omega

/-- Cells that hold rows with weights, whose values lie in a world. -/
def EncB (W:World) (xs:List Value) (l:List Zp):Prop :=
 xs.length=l.length*2∧∀ (i:Nat) (h:i<l.length),∃ a cap,xs[i*2]? = some (.slice a l[i].1.length cap)∧xs[i*2+1]? = some (.int .i64 l[i].2)∧SlAt W a l[i].1
theorem EncB.push {W:World} {xs:List Value} {l:List Zp} (h:EncB W xs l) {a:Option Addr} {cap:Nat} {x:Zp} (hs:SlAt W a x.1):EncB W (xs ++ [.slice a x.1.length cap,.int .i64 x.2]) (l ++ [x]):=by
 have lx:=h.1
 refine ⟨by simp [lx]; omega,fun i hi=>?_⟩
 by_cases hi':i<l.length
 ·obtain ⟨a',c',h1,h2,h3⟩:=h.2 i hi'
  refine ⟨a',c',?_,?_,?_⟩
  ·rw [List.getElem?_append_left (by omega),h1,List.getElem_append_left hi']
  ·rw [List.getElem?_append_left (by omega),h2,List.getElem_append_left hi']
  ·rw [List.getElem_append_left hi']; exact h3
 ·have:i=l.length:=by simp at hi; omega
  subst this
  refine ⟨a,cap,?_,?_,?_⟩
  ·rw [List.getElem?_append_right (by omega)]; simp [lx]
  ·rw [List.getElem?_append_right (by omega)]; simp [lx]
  ·simpa using hs
theorem EncB.last {W:World} {xs:List Value} {l:List Zp} {y:Zp} (h:EncB W xs (l ++ [y])) (z:Int):EncB W (xs.set (l.length*2+1) (.int .i64 z)) (l ++ [(y.1,z)]):=by
 have lx:=h.1
 refine ⟨by simpa using lx,fun i hi=>?_⟩
 have hi0:i<(l ++ [y]).length:=by simpa using hi
 obtain ⟨a',c',h1,h2,h3⟩:=h.2 i hi0
 by_cases hi':i<l.length
 ·rw [List.getElem_append_left hi'] at h1 h2 h3 ⊢
  refine ⟨a',c',?_,?_,h3⟩
  ·rw [List.getElem?_set_ne (by omega)]; exact h1
  ·rw [List.getElem?_set_ne (by omega)]; exact h2
 ·have:i=l.length:=by simp at hi; omega
  subst this
  simp only [List.getElem_concat_length] at h1 h2 h3 ⊢
  refine ⟨a',c',?_,?_,h3⟩
  ·rw [List.getElem?_set_ne (by omega)]; exact h1
  ·rw [List.getElem?_set_self (by rw [lx]; simp; omega)]
theorem own_shape {W:World} {base n:Nat} {v:Value} {xs:List Value} (h:W.ownsRow base 47 2 v n xs):∃ a c,v = .slice a n c:=by
 obtain ⟨_,⟨rfl,h0⟩ | ⟨g,c1,cur,rfl,_⟩⟩:=h
 ·exact ⟨none,0,by rw [h0]⟩
 ·exact ⟨_,c1,rfl⟩
theorem own_some {W:World} {base n:Nat} {v:Value} {xs:List Value} (h:W.ownsRow base 47 2 v n xs) (hn:0<n):∃ g c,v = .slice (some ⟨g,0,none⟩) n c∧base≤g∧g<W.heap.size:=by
 have h':=h
 obtain ⟨_,⟨rfl,h0⟩ | ⟨g,c1,cur,rfl,hg,_⟩⟩:=h
 ·omega
 ·exact ⟨g,c1,rfl,hg,(h'.lt g rfl).2⟩
theorem own_zsB {W w2:World} {base n:Nat} {v:Value} {xs:List Value} {l:List Zp} (h:W.ownsRow base 47 2 v n xs) (hn:n=l.length) (he:EncB w2 xs l) (hb:Below w2.heap.size w2 W):∃ a cap,v = .slice a l.length cap∧ZsAt W a l:=by
 subst hn
 have h1':=h
 obtain ⟨hx,h1 | ⟨g,cap,cur,e,hg,hh,hn,hc,hs,ht⟩⟩:=h
 ·obtain ⟨rfl,h0⟩:=h1
  have:l = []:=List.eq_nil_of_length_eq_zero h0
  subst this
  exact ⟨none,0,rfl,Nat.zero_le _,.inl rfl⟩
 ·subst e
  refine ⟨_,cap,rfl,Nat.le_trans hn hc,.inr ⟨g,0,rfl,(h1'.lt g rfl).2,?_⟩⟩
  intro i hi
  obtain ⟨a,cp,e0,e1,e2⟩:=he.2 i hi
  refine ⟨?_,a,cp,?_,e2.next hb⟩
  ·rw [h1'.cellAt _ (by omega),← e1]; congr 1; omega
  ·rw [h1'.cellAt _ (by omega),← e0]; congr 1; omega

/-- What the loop has come to. -/
def SumTo (w2 wr:World) (v:Value) (acc:List Zp):Prop:=∃ xs,wr.ownsRow w2.heap.size 47 2 v acc.length xs∧EncB w2 xs acc
theorem SumTo.next {w2 wr w3:World} {v:Value} {acc:List Zp} (h:SumTo w2 wr v acc) (hb:Below wr.heap.size wr w3):SumTo w2 w3 v acc:=by
 obtain ⟨xs,h1,h2⟩:=h
 exact ⟨xs,own_next h1 hb,h2⟩
theorem SumTo.last {w2 wr:World} {g c:Nat} {a:List Zp} {y:Zp} (h:SumTo w2 wr (.slice (some ⟨g,0,none⟩) (a.length+1) c) (a ++ [y])) (z:Int) :
  SumTo w2 (wr.setCell ⟨g,a.length*2+1,none⟩ (.int .i64 z)) (.slice (some ⟨g,0,none⟩) (a.length+1) c) (a ++ [(y.1,z)]):=by
 obtain ⟨xs,h1,h2⟩:=h
 have e:(a ++ [y]).length=a.length+1:=by simp
 rw [e] at h1
 refine ⟨_,?_,h2.last z⟩
 have:=(h1.stored (a.length*2+1) (.int .i64 z)).1
 simpa using this

end Go.Proofs.YtoefpglknaiaeaaGreat
/- The walk of zsets.summed: rows that are there. -/
namespace Go.Proofs.YtoefpglknaiaeaaGreat
open Go.RowKit Go.Lib Go.Shelf

def bigW (w:Int):Bool:=decide (-1000000000000≤w) && decide (w≤1000000000000)
theorem bigW_iff (x:Int):bigW x=true ↔ -1000000000000≤x∧x≤1000000000000:=by simp [bigW]
theorem inW_iff (x:Int):inW x=true ↔ -1000000≤x∧x≤1000000:=by simp [inW]

theorem inW_big {x:Int} (h:inW x=true):bigW x=true:=by
 rw [inW_iff] at h
 rw [bigW_iff]
 omega

set_option maxRecDepth 100000 in
set_option maxHeartbeats 4000000 in
theorem summed_some (a:Option Addr) (cap:Nat) (l:List Zp) (w:World) (h:ZsAt w a l) (hl:l.length≤200000) (hn:0<l.length) (hw:∀ x ∈ l,bigW x.2=true) :
  Calls Tryz.prog 90 #[.slice a l.length cap] w fun e w'=>∃ s a' c',e = .returned (.slice a' (mergedL s).length c')∧s.Perm l∧(s.Pairwise fun x y=>cmpL x.1 y.1≤0)∧ZsAt w' a' (mergedL s)∧Below w.heap.size w w':=by
 obtain ⟨i0,hi,hj0,hj1,hj2⟩:=info_parts Tryz.info42
 obtain ⟨d,hd,hdl,hc⟩:=h.arr
 go_enter Tryz.func90,Tryz.ntmps90
 go_wp2_with fail
 refine (clone_at a cap l w d hd (by omega) hc).mono ?_
 rintro e w1 ⟨v,rfl,hown,hb1⟩
 obtain ⟨g,c,rfl,hg,hgl⟩:=own_some hown hn
 have hH:=own_holdsK hd.symm hown
 have hH:=own_holdsK hd.symm hown
 have hH:=own_holdsK hd.symm hown
 have hH:=own_holdsK hd.symm hown
 have hH:=own_holdsK hd.symm hown
 have con:=sort_at w w1 hb1 g 0 c hg d hH hgl (by omega)
 rw [hd] at con
 have HN:Hid (0<l.length):=hn
 clear hn hown hc
 go_wp2_with fail
 refine con.mono ?_
 clear con
 rintro e w2 ⟨rfl,d',n,os,hp,hs,hw2⟩
 obtain ⟨hd',hperm,hsort⟩:=sorted_list hd hp hs
 rw [hdl] at hperm
 have hb2:Below w.heap.size w w2:=by rw [hw2]; exact below_sortWorld hb1 hg
 have hgl2:g<w2.heap.size:=by
  rw [hw2]
  exact Nat.lt_of_lt_of_le hgl (size_sortWorldK_c (encG w) 2 w1 g 0 n d' os)
 have zs:ZsAt w2 (some ⟨g,0,none⟩) (d'.toList.map (plG w)):=by
  refine holdsK_zs hb2 ?_ hgl2 (by omega)
  rw [hw2]
  exact holdsK_sortWorldK_c (encG w) 2 w1 g 0 d d' n os hH hgl (by omega)
 generalize hs0:d'.toList.map (plG w)=s at hperm hsort zs
 have hsl:s.length=l.length:=by rw [← hs0]; simp [hd']
 have hws:∀ x ∈ s,bigW x.2=true:=fun x hx=>hw x (hperm.mem_iff.1 hx)
 have HP:Hid (s.Perm l):=hperm
 have HSo:Hid (s.Pairwise fun x y=>cmpL x.1 y.1≤0):=hsort
 clear hperm hsort hw2 hs0 hd' hp hs hH hdl hd hgl h hw
 rw [← hsl]
 rw [← hsl] at hl
 clear HN
 go_wp2_with fail
 go_loopw [3,13] (fun v i wr=>∃ k:Nat,k≤s.length∧i = .int .i64 k∧SumTo w2 wr v (mergedL (s.take k))∧Below w2.heap.size w2 wr) (fun _ i _=>s.length - (intOf i).toNat)
 case atStart=>exact ⟨0,Nat.zero_le _,rfl,⟨[],World.ownsRow_nil _ _ _ _,rfl,fun i hi=>by simp [mergedL] at hi⟩,Below.refl _ _⟩
 case round =>
  obtain ⟨k,hk,rfl,HS,hb⟩:=hrel
  have hz:=hb.size
  by_cases hlt:k<s.length
  ·obtain ⟨b,off,hh,hbl,c1,ar,cr,c0,sr⟩:=(zs.next hb).elem hlt
   obtain ⟨b',off',hh',hbl',c1',ar',cr',c0',sr'⟩:=zs.elem hlt
   simp only [Option.some.injEq,Addr.mk.injEq,and_true] at hh hh'
   obtain ⟨rfl,rfl⟩:=hh
   obtain ⟨rfl,rfl⟩:=hh'
   have ee:=(hb.cell (p:=⟨g,_,none⟩) hgl2).trans c0'
   rw [c0] at ee
   simp only [Option.some.injEq,Value.slice.injEq,true_and] at ee
   obtain ⟨rfl,rfl⟩:=ee
   clear c0' c1' hbl'
   simp only [Nat.zero_add] at c0 c1
   have step:Hid (mergedL (s.take (k+1))=mergeTo (mergedL (s.take k)) s[k]):=by
    show mergedL (s.take (k+1))=_
    rw [List.take_succ_eq_append_getElem hlt,mergedL_snoc]
   have hlen:=mergedL_len (s.take k)
   simp only [List.length_take] at hlen
   have hbd:=mergedL_bd 1000000000000 (by omega) (s.take k) (fun x hx=>(bigW_iff _).1 (hws x (List.mem_of_mem_take hx)))
   have hx:=(bigW_iff _).1 (hws s[k] (List.getElem_mem hlt))
   generalize hacc:mergedL (s.take k)=acc at HS step hlen hbd
   clear hacc
   rcases List.eq_nil_or_concat acc with e | ⟨a',y,e⟩
   ·subst e
    obtain ⟨xs,ho,he⟩:=HS
    obtain ⟨a3,c3,rfl⟩:=own_shape ho
    simp only [List.length_nil] at ho
    have hbA:Below wr.heap.size wr (wr.alloc (.cells #[.slice ar s[k].1.length cr,.int .i64 s[k].2] 47)):=(Below.refl _ _).alloc (Nat.le_refl _) _
    have q0:(wr.alloc (.cells #[.slice ar s[k].1.length cr,.int .i64 s[k].2] 47)).cell? ⟨wr.heap.size,0,none⟩=some (.slice ar s[k].1.length cr):=by simp
    have q1:(wr.alloc (.cells #[.slice ar s[k].1.length cr,.int .i64 s[k].2] 47)).cell? ⟨wr.heap.size,1,none⟩=some (.int .i64 s[k].2):=by simp
    haveI:Nonempty (Past (wr.alloc (.cells #[.slice ar s[k].1.length cr,.int .i64 s[k].2] 47))):=⟨⟨_,Below.refl _ _⟩⟩
    simp only [List.length_nil]
    go_wp2_with fail
    generalize wr.alloc (.cells #[.slice ar s[k].1.length cr,.int .i64 s[k].2] 47)=wA at *
    refine wp_region_past (by kernel_rfl) (by kernel_rfl) ?_
    repeat (go_big_quiet_step (fail))
    refine wpQuiet_nil ?_
    rintro w4 ⟨⟨v4,hb4⟩,h4⟩
    obtain rfl:w4=v4:=h4
    have ho4:=own_next (own_next ho hbA) hb4
    have r0:=(hb4.cell (p:=⟨wr.heap.size,0,none⟩) (World.block_lt_of_cell? _ _ q0)).trans q0
    have r1:=(hb4.cell (p:=⟨wr.heap.size,1,none⟩) (World.block_lt_of_cell? _ _ q1)).trans q1
    have hzA:=hbA.size
    have hz4:=hb4.size
    clear ho
    go_wp2_with (at_builtin; refine wpList_append_own _ rfl _ _ 38 rfl w2.heap.size 47 i0 _ 2 32 Tryz.underlying38 hi hj0 hj1 hj2 rfl (by decide) _ _ _ rfl (ho4.alloc _) ⟨w4.heap.size,0,none⟩ 1 1 [.slice ar s[k].1.length cr,.int .i64 s[k].2] rfl rfl ?Ac1 ?Ac2 ?Ac3 ?Ac4 ?Ac5 ?_)
    case Ac1 =>
     intro j u hj
     match j,hj with
     | 0,hj=>simp at hj; subst hj; simp [Addr.add]
     | 1,hj=>simp at hj; subst hj; simp [Addr.add]
    case Ac2=>intro u hu; simp at hu; rcases hu with rfl | rfl <;> rfl
    case Ac3=>unfold maxLen; first | omega | (simp; done) | (simp; omega)
    case Ac4=>first | omega | (simp; done) | (simp; omega)
    case Ac5=>simp; omega
    intro v' w5 ho5 hg5 _
    have hb5:Below w2.heap.size w2 w5:=((chain1 hb (chain1 hbA hb4)).alloc (by omega) _).grown hg5 (by simp; omega) (fun q hq=>((ho4.alloc (.cells #[.slice ar s[k].1.length cr,.int .i64 s[k].2] 47)).lt q hq).1)
    clear hg5 ho4 q0 q1
    go_wp2_with fail
    go_roundw
    case rel=>exact ⟨k+1,by omega,by go_num,by rw [step.out,mergeTo_nil]; exact ⟨_,ho5,he.push sr'⟩,hb5⟩
    case measure=>simp [intOf]; omega
   ·rw [List.concat_eq_append] at e
    subst e
    by_cases hc:cmpL y.1 s[k].1=0
    ·have HS0:=HS
     obtain ⟨xs,ho,he⟩:=HS
     obtain ⟨g3,c3,rfl,hg3,hg3l⟩:=own_some ho (by simp)
     obtain ⟨ay,cy,x0,x1,sy⟩:=he.2 a'.length (by simp)
     simp only [List.getElem_concat_length] at x0 x1 sy
     have y0:wr.cell? ⟨g3,a'.length*2,none⟩=some (.slice ay y.1.length cy):=by rw [ho.cellAt _ (by simp <;> omega)]; exact x0
     have y1:wr.cell? ⟨g3,a'.length*2+1,none⟩=some (.int .i64 y.2):=by rw [ho.cellAt _ (by simp <;> omega)]; exact x1
     have f1:wr.frozen? ⟨g3,a'.length*2+1,none⟩=false:=ho.frozenAt _
     have el:(a' ++ [y]).length=a'.length+1:=by simp
     rw [el] at ho HS0 ⊢
     have hy:=hbd y (by simp)
     rw [el] at hlen
     have hkk:((s.take k).length:Int)≤200000:=by rw [List.length_take]; omega
     have hbA:Below wr.heap.size wr (wr.alloc (.cells #[.slice ar s[k].1.length cr,.int .i64 s[k].2] 47)):=(Below.refl _ _).alloc (Nat.le_refl _) _
     have q0:(wr.alloc (.cells #[.slice ar s[k].1.length cr,.int .i64 s[k].2] 47)).cell? ⟨wr.heap.size,0,none⟩=some (.slice ar s[k].1.length cr):=by simp
     have q1:(wr.alloc (.cells #[.slice ar s[k].1.length cr,.int .i64 s[k].2] 47)).cell? ⟨wr.heap.size,1,none⟩=some (.int .i64 s[k].2):=by simp
     have y0A:=(hbA.cell (p:=⟨g3,_,none⟩) hg3l).trans y0
     have y1A:=(hbA.cell (p:=⟨g3,_,none⟩) hg3l).trans y1
     have f1A:=(hbA.frozen (p:=⟨g3,_,none⟩) hg3l).trans f1
     have hgA:g3<(wr.alloc (.cells #[.slice ar s[k].1.length cr,.int .i64 s[k].2] 47)).heap.size:=Nat.lt_of_lt_of_le hg3l hbA.size
     haveI:Nonempty (Past (wr.alloc (.cells #[.slice ar s[k].1.length cr,.int .i64 s[k].2] 47))):=⟨⟨_,Below.refl _ _⟩⟩
     have sA:=sr.next hbA
     have tA:=(sy.next hb).next hbA
     have e1:((a'.length+1:Nat):Int) - 1=(a'.length:Int):=by omega
     have i1:(0:Int)≤(a'.length:Int):=by omega
     have i2:(a'.length:Int)<((a'.length+1:Nat):Int):=by omega
     have i3:a'.length<a'.length+1:=by omega
     clear y0 y1 f1 x0 x1
     have HC:Hid (cmpL y.1 s[k].1=0):=hc
     go_wp2_with fail
     generalize wr.alloc (.cells #[.slice ar s[k].1.length cr,.int .i64 s[k].2] 47)=wA at *
     have p0:=past_cell y0A
     have p1:=past_cell q0
     refine wp_region_past (by kernel_rfl) (by kernel_rfl) ?_
     repeat (go_big_quiet_step (first | (go_at_call 53; exact in_past (rows_at _ _ _ _ _ _ _ (tA.next (Past.ok _)) (sA.next (Past.ok _))))))
     refine wpQuiet_nil ?_
     rintro w4 ⟨⟨v4,hb4⟩,h4⟩
     obtain rfl:w4=v4:=h4
     clear p0 p1
     have r0:=(hb4.cell (p:=⟨wr.heap.size,0,none⟩) (World.block_lt_of_cell? _ _ q0)).trans q0
     have r1:=(hb4.cell (p:=⟨wr.heap.size,1,none⟩) (World.block_lt_of_cell? _ _ q1)).trans q1
     have z0:=(hb4.cell (p:=⟨g3,_,none⟩) hgA).trans y0A
     have z1:=(hb4.cell (p:=⟨g3,_,none⟩) hgA).trans y1A
     have zf:=(hb4.frozen (p:=⟨g3,_,none⟩) hgA).trans f1A
     have hzA:=hbA.size
     have hz4:=hb4.size
     have HS4:=(HS0.next hbA).next hb4
     clear ho y0A y1A f1A q0 q1
     have hv1:-9223372036854775808≤y.2+s[k].2:=by omega
     have hv2:y.2+s[k].2≤9223372036854775807:=by omega
     go_wp2_with fail
     go_region
     have hb5:Below w2.heap.size w2 (w4.setCell ⟨g3,a'.length*2+1,none⟩ (.int .i64 (y.2+s[k].2))).drew:=((chain1 hb (chain1 hbA hb4)).setCell (p:=⟨g3,a'.length*2+1,none⟩) hg3 _).drew
     have HS5:SumTo w2 (w4.setCell ⟨g3,a'.length*2+1,none⟩ (.int .i64 (y.2+s[k].2))).drew (.slice (some ⟨g3,0,none⟩) (a'.length+1) c3) (a' ++ [(y.1,y.2+s[k].2)]):=(HS4.last _).next ((Below.refl _ _).drew)
     clear HS4 HS0 z0 z1 zf r0 r1
     go_wp2_with fail
     go_roundw
     case rel=>exact ⟨k+1,by omega,by go_num,by rw [step.out,mergeTo_snoc,if_pos HC.out]; exact HS5,hb5⟩
     case measure=>simp [intOf]; omega
    ·have HS0:=HS
     obtain ⟨xs,ho,he⟩:=HS
     obtain ⟨g3,c3,rfl,hg3,hg3l⟩:=own_some ho (by simp)
     obtain ⟨ay,cy,x0,x1,sy⟩:=he.2 a'.length (by simp)
     simp only [List.getElem_concat_length] at x0 x1 sy
     have y0:wr.cell? ⟨g3,a'.length*2,none⟩=some (.slice ay y.1.length cy):=by rw [ho.cellAt _ (by simp <;> omega)]; exact x0
     have y1:wr.cell? ⟨g3,a'.length*2+1,none⟩=some (.int .i64 y.2):=by rw [ho.cellAt _ (by simp <;> omega)]; exact x1
     have f1:wr.frozen? ⟨g3,a'.length*2+1,none⟩=false:=ho.frozenAt _
     have el:(a' ++ [y]).length=a'.length+1:=by simp
     rw [el] at ho HS0 ⊢
     have hy:=hbd y (by simp)
     rw [el] at hlen
     have hkk:((s.take k).length:Int)≤200000:=by rw [List.length_take]; omega
     have hbA:Below wr.heap.size wr (wr.alloc (.cells #[.slice ar s[k].1.length cr,.int .i64 s[k].2] 47)):=(Below.refl _ _).alloc (Nat.le_refl _) _
     have q0:(wr.alloc (.cells #[.slice ar s[k].1.length cr,.int .i64 s[k].2] 47)).cell? ⟨wr.heap.size,0,none⟩=some (.slice ar s[k].1.length cr):=by simp
     have q1:(wr.alloc (.cells #[.slice ar s[k].1.length cr,.int .i64 s[k].2] 47)).cell? ⟨wr.heap.size,1,none⟩=some (.int .i64 s[k].2):=by simp
     have y0A:=(hbA.cell (p:=⟨g3,_,none⟩) hg3l).trans y0
     have y1A:=(hbA.cell (p:=⟨g3,_,none⟩) hg3l).trans y1
     have f1A:=(hbA.frozen (p:=⟨g3,_,none⟩) hg3l).trans f1
     have hgA:g3<(wr.alloc (.cells #[.slice ar s[k].1.length cr,.int .i64 s[k].2] 47)).heap.size:=Nat.lt_of_lt_of_le hg3l hbA.size
     haveI:Nonempty (Past (wr.alloc (.cells #[.slice ar s[k].1.length cr,.int .i64 s[k].2] 47))):=⟨⟨_,Below.refl _ _⟩⟩
     have sA:=sr.next hbA
     have tA:=(sy.next hb).next hbA
     have e1:((a'.length+1:Nat):Int) - 1=(a'.length:Int):=by omega
     have i1:(0:Int)≤(a'.length:Int):=by omega
     have i2:(a'.length:Int)<((a'.length+1:Nat):Int):=by omega
     have i3:a'.length<a'.length+1:=by omega
     clear y0 y1 f1 x0 x1
     have HC:Hid (¬ cmpL y.1 s[k].1=0):=hc
     have b0:(cmpL y.1 s[k].1 == 0)=false:=by simpa using hc
     go_wp2_with fail
     generalize wr.alloc (.cells #[.slice ar s[k].1.length cr,.int .i64 s[k].2] 47)=wA at *
     have p0:=past_cell y0A
     have p1:=past_cell q0
     refine wp_region_past (by kernel_rfl) (by kernel_rfl) ?_
     repeat (go_big_quiet_step (first | (go_at_call 53; exact in_past (rows_at _ _ _ _ _ _ _ (tA.next (Past.ok _)) (sA.next (Past.ok _))))))
     refine wpQuiet_nil ?_
     rintro w4 ⟨⟨v4,hb4⟩,h4⟩
     obtain rfl:w4=v4:=h4
     clear p0 p1
     have r0:=(hb4.cell (p:=⟨wr.heap.size,0,none⟩) (World.block_lt_of_cell? _ _ q0)).trans q0
     have r1:=(hb4.cell (p:=⟨wr.heap.size,1,none⟩) (World.block_lt_of_cell? _ _ q1)).trans q1
     have z0:=(hb4.cell (p:=⟨g3,_,none⟩) hgA).trans y0A
     have z1:=(hb4.cell (p:=⟨g3,_,none⟩) hgA).trans y1A
     have zf:=(hb4.frozen (p:=⟨g3,_,none⟩) hgA).trans f1A
     have hzA:=hbA.size
     have hz4:=hb4.size
     have ho4:=own_next (own_next ho hbA) hb4
     clear ho y0A y1A f1A
     go_wp2_with (at_builtin; refine wpList_append_own _ rfl _ _ 38 rfl w2.heap.size 47 i0 _ 2 32 Tryz.underlying38 hi hj0 hj1 hj2 rfl (by decide) _ _ _ rfl (ho4.alloc _) ⟨w4.heap.size,0,none⟩ 1 1 [.slice ar s[k].1.length cr,.int .i64 s[k].2] rfl rfl ?Bc1 ?Bc2 ?Bc3 ?Bc4 ?Bc5 ?_)
     case Bc1 =>
      intro j u hj
      match j,hj with
      | 0,hj=>simp at hj; subst hj; simp [Addr.add]
      | 1,hj=>simp at hj; subst hj; simp [Addr.add]
     case Bc2=>intro u hu; simp at hu; rcases hu with rfl | rfl <;> rfl
     case Bc3=>unfold maxLen; first | omega | (simp; done) | (simp; omega)
     case Bc4=>first | omega | (simp; done) | (simp; omega)
     case Bc5=>simp; omega
     intro v' w5 ho5 hg5 _
     have hb5:Below w2.heap.size w2 w5:=((chain1 hb (chain1 hbA hb4)).alloc (by omega) _).grown hg5 (by simp; omega) (fun q hq=>((ho4.alloc (.cells #[.slice ar s[k].1.length cr,.int .i64 s[k].2] 47)).lt q hq).1)
     clear hg5 ho4 q0 q1
     go_wp2_with fail
     go_roundw
     case rel=>exact ⟨k+1,by omega,by go_num,by rw [step.out,mergeTo_snoc,if_neg HC.out]; exact ⟨_,by simpa using ho5,he.push sr'⟩,hb5⟩
     case measure=>simp [intOf]; omega
  ·have e:k=s.length:=by omega
   subst e
   rw [List.take_length] at HS
   obtain ⟨xs,ho,he⟩:=HS
   obtain ⟨a3,c3,rfl,z3⟩:=own_zsB ho rfl he hb
   go_wp2_with fail
   go_ret
   exact ⟨s,a3,c3,rfl,HP.out,HSo.out,z3,hb2.trans (hb.mono hb2.size)⟩
end Go.Proofs.YtoefpglknaiaeaaGreat
/- The walks of zsets.gathered, zsets.Of, zsets.weighedSet and what is built on them. -/
namespace Go.Proofs.YtoefpglknaiaeaaGreat
open Go.RowKit Go.Lib Go.Shelf

def outW (z:List Zp):Bool:=z.any fun x=>!inW x.2
def gatherE (l:List Zp):Int:=if outW (canon l)=true then 3 else if 400<(canon l).length then 5 else 0
def gatherZ (l:List Zp):List Zp:=if gatherE l=0 then canon l else []
theorem outW_weigh (z:List Zp):outW (weighL (fun w=>w) z)=outW z:=by
 induction z with
 | nil=>rfl
 | cons x r ih =>
  unfold outW at ih ⊢
  rw [weighL]
  split
  ·rename_i h0
   rw [ih,List.any_cons,h0]
   simp [inW]
  ·rw [List.any_cons,ih,List.any_cons]
theorem outW_no {z:List Zp} {k:Nat} (hk:k<z.length) (h:inW z[k].2=false):outW z=true:=by
 unfold outW
 rw [List.any_eq_true]
 exact ⟨z[k],List.getElem_mem hk,by simp [h]⟩
theorem outW_ok {z:List Zp} (h:∀ j (hj:j<z.length),inW z[j].2=true):outW z=false:=by
 unfold outW
 rw [List.any_eq_false]
 intro x hx
 obtain ⟨j,hj,rfl⟩:=List.getElem_of_mem hx
 simp [h j hj]
theorem own_nil (base:Nat) (W:World):OwnZ base W (.slice none 0 0) []:=⟨[],World.ownsRow_nil _ _ _ _,rfl,fun i hi=>by simp at hi⟩

theorem eg58:∀ args w,(callFunc 91 args).run Tryz.prog w = .ok (.enter 91 args) w:=enters_of Tryz.func91 (by kernel_rfl) rfl
theorem makes58 (w:World):Makes 91 #[] (fun w=>w) w:=by
 intro x W _ _
 show Calls Tryz.prog 91 #[.int .i64 x] W _
 go_enter Tryz.func91,Tryz.ntmps91
 go_wp2
 go_ret
 exact ⟨rfl,Below.refl _ _⟩

/-- What zsets.summed leaves. -/
def Summed (l:List Zp) (w:World) (e:Ending) (w':World):Prop :=
 ∃ s a' c',e = .returned (.slice a' (mergedL s).length c')∧s.Perm l∧(s.Pairwise fun x y=>cmpL x.1 y.1≤0)∧ZsAt w' a' (mergedL s)∧Below w.heap.size w w'

set_option maxHeartbeats 2000000 in
theorem gathered_of (a:Option Addr) (cap:Nat) (l:List Zp) (w:World) (hsum:Calls Tryz.prog 90 #[.slice a l.length cap] w (Summed l w)) (hl:l.length≤200000) (h8:∀ x ∈ l,x.1.length≤8) :
  Calls Tryz.prog 72 #[.slice a l.length cap] w fun e w'=>∃ v,e = .returned (.tuple #[v,.int .i64 (gatherE l)])∧OwnZ w.heap.size w' v (gatherZ l)∧Below w.heap.size w w':=by
 go_enter Tryz.func72,Tryz.ntmps72
 go_wp2_with fail
 refine hsum.mono ?_
 clear hsum
 rintro e w1 ⟨s,a1,c1,rfl,hp,hs,z1,hb1⟩
 have hcan:=gather_canon hp hs
 have hm:=merged_ok s hs
 have hlen:=mergedL_len s
 rw [hp.length_eq] at hlen
 have h81:∀ y ∈ mergedL s,y.1.length≤8:=by
  intro y hy
  obtain ⟨x,hx,e⟩:=hm.row y hy
  rw [e]
  exact h8 x (hp.mem_iff.1 hx)
 have HCan:Hid (weighL (fun w=>w) (mergedL s)=canon l):=hcan
 clear hcan hm hp hs h8
 generalize mergedL s=m at *
 go_wp2_with fail
 go_loopw [12] (fun i wr=>∃ k:Nat,k≤m.length∧i = .int .i64 k∧Hid (∀ j (hj:j<m.length),j<k→inW m[j].2=true)∧Below w1.heap.size w1 wr) (fun i _=>m.length - (intOf i).toNat)
 case atStart=>exact ⟨0,Nat.zero_le _,rfl,fun j _ hj=>absurd hj (Nat.not_lt_zero _),Below.refl _ _⟩
 case round =>
  obtain ⟨k,hk,rfl,HI,hb⟩:=hrel
  have hz:=hb.size
  by_cases hlt:k<m.length
  ·obtain ⟨b,off,rfl,hbl,d1,ar,cr,d0,sr⟩:=(z1.next hb).elem hlt
   cases hin:inW m[k].2
   ·have HO:Hid (inW m[k].2=false):=hin
    have he:Hid (gatherE l=3):=by
     show gatherE l=3
     unfold gatherE
     rw [← HCan.out,outW_weigh,if_pos (outW_no hlt hin)]
    clear hin
    go_wp2_with fail
    refine (zInRange_any _ _).mono ?_
    rintro e w2 ⟨rfl,rfl⟩
    rw [HO.out]
    go_wp2_with fail
    refine bodyPost_ret (v:=.tuple #[.slice none 0 0,.int .i64 3]) (by simp [results,Tryz.results72,go_sem]) rfl ⟨_,by rw [he.out],?_,(chain1 hb1 hb).alloc (by have:=hb1.size; omega) _⟩
    have hgz:gatherZ l = []:=by unfold gatherZ; rw [he.out]; rfl
    rw [hgz]
    exact own_nil _ _
   ·have HO:Hid (inW m[k].2=true):=hin
    clear hin
    go_wp2_with fail
    refine (zInRange_any _ _).mono ?_
    rintro e w2 ⟨rfl,rfl⟩
    rw [HO.out]
    go_wp2_with fail
    go_roundw
    case rel=>exact ⟨k+1,by omega,by go_num,fun j hj hjk=>by
     by_cases e:j=k
     ·subst e; exact HO.out
     ·exact HI.out j hj (by omega),hb.alloc hz _⟩
    case measure=>simp [intOf]; omega
  ·have e:k=m.length:=by omega
   subst e
   have hall:∀ x ∈ m,inW x.2=true:=by
    intro x hx
    obtain ⟨j,hj,rfl⟩:=List.getElem_of_mem hx
    exact HI.out j hj hj
   have ho:outW (canon l)=false:=by
    rw [← HCan.out,outW_weigh]
    exact outW_ok fun j hj=>HI.out j hj hj
   go_wp2_with fail
   refine (weighed_at 91 #[] (fun w=>w) a1 c1 m wr (z1.next hb) eg58 (makes58 _) (by omega) h81 hall).mono ?_
   rintro e w3 ⟨v,rfl,O3,hb3⟩
   rw [HCan.out] at O3
   have hb3':=chain1 (chain1 hb1 hb) hb3
   have O3':=O3.mono (Nat.le_trans hb1.size hb.size)
   obtain ⟨a3,c3,rfl,z3⟩:=O3.zs
   by_cases h4:400<(canon l).length
   ·have he:Hid (gatherE l=5):=by
     show gatherE l=5
     unfold gatherE
     rw [ho,if_neg (by decide),if_pos h4]
    go_wp2_with fail
    refine bodyPost_ret (v:=.tuple #[.slice none 0 0,.int .i64 5]) (by simp [results,Tryz.results72,go_sem]) rfl ⟨_,by rw [he.out],?_,hb3'⟩
    have hgz:gatherZ l = []:=by unfold gatherZ; rw [he.out]; rfl
    rw [hgz]
    exact own_nil _ _
   ·have he:Hid (gatherE l=0):=by
     show gatherE l=0
     unfold gatherE
     rw [ho,if_neg (by decide),if_neg h4]
    go_wp2_with fail
    refine bodyPost_ret (v:=.tuple #[.slice a3 (canon l).length c3,.int .i64 0]) (by simp [results,Tryz.results72,go_sem]) rfl ⟨_,by rw [he.out],?_,hb3'⟩
    have hgz:gatherZ l=canon l:=by unfold gatherZ; rw [he.out]; rfl
    rw [hgz]
    exact O3'
end Go.Proofs.YtoefpglknaiaeaaGreat
/- The walks of zsets.Of, zsets.weighedSet and what is built on it. -/
namespace Go.Proofs.YtoefpglknaiaeaaGreat
open Go.RowKit Go.Lib Go.Shelf

theorem sort_none (p:Option Addr) (cap:Nat) (fv:Value) (w:World):Calls Tryz.prog 126 #[.slice p 0 cap,fv] w fun e w'=>e = .returned (.tuple #[])∧w'=w :=
 AnyF.slices_SortFunc_none Tryz.sortZ p cap fv w

set_option maxHeartbeats 1000000 in
theorem summed_none (a:Option Addr) (cap:Nat) (w:World):Calls Tryz.prog 90 #[.slice a 0 cap] w (Summed [] w):=by
 unfold Summed
 go_enter Tryz.func90,Tryz.ntmps90
 go_wp2_with fail
 refine (clone_at a cap [] w #[] rfl (by simp) (.inl rfl)).mono ?_
 rintro e w1 ⟨v,rfl,hown,hb1⟩
 obtain ⟨a1,c1,rfl⟩:=own_shape hown
 simp only [List.length_nil]
 go_wp2_with fail
 refine (sort_none _ _ _ _).mono ?_
 rintro e w2 ⟨rfl,rfl⟩
 go_wp2_with fail
 refine wp_loop_rounds 1 ?_
 rw [rounds_succ]
 go_wp2_with fail
 go_ret
 exact ⟨[],none,0,rfl,List.Perm.refl _,List.Pairwise.nil,⟨by simp [mergedL],.inl rfl⟩,hb1⟩
theorem summed_at (a:Option Addr) (cap:Nat) (l:List Zp) (w:World) (h:ZsAt w a l) (hl:l.length≤200000) (hw:∀ x ∈ l,bigW x.2=true) :
  Calls Tryz.prog 90 #[.slice a l.length cap] w (Summed l w):=by
 by_cases hn:0<l.length
 ·exact summed_some a cap l w h hl hn hw
 ·have e:l = []:=List.eq_nil_of_length_eq_zero (by omega)
  subst e
  exact summed_none a cap w
theorem gathered_at (a:Option Addr) (cap:Nat) (l:List Zp) (w:World) (h:ZsAt w a l) (hl:l.length≤200000) (hw:∀ x ∈ l,bigW x.2=true) (h8:∀ x ∈ l,x.1.length≤8) :
  Calls Tryz.prog 72 #[.slice a l.length cap] w fun e w'=>∃ v,e = .returned (.tuple #[v,.int .i64 (gatherE l)])∧OwnZ w.heap.size w' v (gatherZ l)∧Below w.heap.size w w' :=
 gathered_of a cap l w (summed_at a cap l w h hl hw) hl h8

theorem goW_iff:∀ (l:List Zp) (p:Option (List Vl)),goW p l=0↔(∀ x ∈ l,wrongRowF x.1=0∧x.2≠0∧inW x.2=true)∧Rise l∧∀ q,p=some q→∀ x ∈ l,cmpL q x.1<0
 | [],p=>by simp [goW,Rise]
 | x :: r,p=>by
  have ih:=goW_iff r (some x.1)
  rw [goW]
  by_cases hw:wrongRowF x.1=0
  ·rw [if_pos hw]
   by_cases h0:x.2=0∨inW x.2=false
   ·rw [if_pos h0]
    constructor
    ·intro h; omega
    ·rintro ⟨h,_⟩
     have:=h x (by simp)
     rcases h0 with h0 | h0
     ·exact absurd h0 this.2.1
     ·rw [h0] at this; exact absurd this.2.2 (by decide)
   ·rw [if_neg h0]
    have n0:x.2≠0:=fun h=>h0 (.inl h)
    have n1:inW x.2=true:=by
     cases h:inW x.2
     ·exact absurd (.inr h) h0
     ·rfl
    by_cases hc:∃ q,p=some q∧0≤cmpL q x.1
    ·rw [if_pos hc]
     constructor
     ·intro h; omega
     ·rintro ⟨_,_,h⟩
      obtain ⟨q,e,hq⟩:=hc
      have:=h q e x (by simp)
      omega
    ·rw [if_neg hc,ih]
     have hc':∀ q,p=some q→cmpL q x.1<0:=fun q e=>by
      by_cases h:0≤cmpL q x.1
      ·exact absurd ⟨q,e,h⟩ hc
      ·omega
     constructor
     ·rintro ⟨h1,h2,h3⟩
      have h3:=h3 x.1 rfl
      refine ⟨?_,List.pairwise_cons.2 ⟨h3,h2⟩,?_⟩
      ·intro y hy
       rcases List.mem_cons.1 hy with rfl | hy
       ·exact ⟨hw,n0,n1⟩
       ·exact h1 y hy
      ·intro q e y hy
       rcases List.mem_cons.1 hy with rfl | hy
       ·exact hc' q e
       ·exact cmpL_lt_le (hc' q e) (by have:=h3 y hy; omega)
     ·rintro ⟨h1,h2,h3⟩
      have p:=List.pairwise_cons.1 h2
      exact ⟨fun y hy=>h1 y (by simp [hy]),p.2,fun q e y hy=>by injection e with e; subst e; exact p.1 y hy⟩
  ·rw [if_neg hw]
   constructor
   ·intro h; exact absurd h hw
   ·rintro ⟨h,_⟩; exact (h x (by simp)).1
theorem wrongZ_iff (l:List Zp):wrongZ l=0↔l.length≤400∧(∀ x ∈ l,wrongRowF x.1=0∧x.2≠0∧inW x.2=true)∧Rise l:=by
 unfold wrongZ
 by_cases h:400<l.length
 ·rw [if_pos h]
  constructor
  ·intro h; omega
  ·rintro ⟨h',_⟩; omega
 ·rw [if_neg h,goW_iff]
  constructor
  ·rintro ⟨h1,h2,_⟩; exact ⟨by omega,h1,h2⟩
  ·rintro ⟨_,h1,h2⟩; exact ⟨h1,h2,fun q e=>by cases e⟩

def setZ (f:Int→Int) (l:List Zp):List Zp:=if wrongZ l=0 then weighL f l else []

set_option maxHeartbeats 1000000 in
theorem weighedSet_at (g:Nat) (cb:Array Value) (f:Int→Int) (a:Option Addr) (cap:Nat) (l:List Zp) (w:World) (h:ZsAt w a l)
  (eg:∀ args w,(callFunc g args).run Tryz.prog w = .ok (.enter g args) w) (hm:∀ W,Makes g cb f W) :
  Calls Tryz.prog 62 #[.slice a l.length cap,.func (.func g) #[] cb] w fun e w'=>∃ v,e = .returned (.tuple #[v,.int .i64 (wrongZ l)])∧OwnZ w.heap.size w' v (setZ f l)∧Below w.heap.size w w':=by
 by_cases hw:wrongZ l=0
 ·have hok:=(wrongZ_iff l).1 hw
  have e:setZ f l=weighL f l:=by simp [setZ,hw]
  rw [e]
  have Hw:Hid (wrongZ l=0):=hw
  clear hw e
  go_enter Tryz.func62,Tryz.ntmps62
  go_wp2_with fail
  refine (zWrong_at _ _ _ _ h).mono ?_
  rintro e w1 ⟨rfl,hb1⟩
  rw [Hw.out]
  go_wp2_with fail
  refine (weighed_at g cb f a cap l w1 (h.next hb1) eg (hm _) (by omega) (fun x hx=>((wrongRowF_zero _).1 (hok.2.1 x hx).1).1) (fun x hx=>(hok.2.1 x hx).2.2)).mono ?_
  rintro e w2 ⟨v,rfl,O2,hb2⟩
  have O2':=O2.mono hb1.size
  obtain ⟨a1,c1,rfl,z1⟩:=O2.zs
  go_wp2_with fail
  exact bodyPost_ret (v:=.tuple #[.slice a1 (weighL f l).length c1,.int .i64 0]) (by simp [results,Tryz.results62,go_sem]) rfl ⟨_,by rw [Hw.out],O2',chain1 hb1 hb2⟩
 ·have e:setZ f l = []:=by simp [setZ,hw]
  rw [e]
  have hne:(wrongZ l != 0)=true:=by simpa using hw
  go_enter Tryz.func62,Tryz.ntmps62
  go_wp2_with fail
  refine (zWrong_at _ _ _ _ h).mono ?_
  rintro e w1 ⟨rfl,hb1⟩
  go_wp2_with fail
  exact bodyPost_ret (v:=.tuple #[.slice none 0 0,.int .i64 (wrongZ l)]) (by simp [results,Tryz.results62,go_sem]) rfl ⟨_,rfl,own_nil _ _,hb1⟩

theorem eg46:∀ args w,(callFunc 63 args).run Tryz.prog w = .ok (.enter 63 args) w:=enters_of Tryz.func63 (by kernel_rfl) rfl
theorem eg47:∀ args w,(callFunc 132 args).run Tryz.prog w = .ok (.enter 132 args) w:=enters_of Tryz.func132 (by kernel_rfl) rfl
theorem eg49:∀ args w,(callFunc 133 args).run Tryz.prog w = .ok (.enter 133 args) w:=enters_of Tryz.func133 (by kernel_rfl) rfl
def posF (w:Int):Int:=if w<0 then 0 else w
def oneF (w:Int):Int:=if 0<w then 1 else 0
theorem makes46 (w:World):Makes 63 #[] (fun w=>-w) w:=by
 intro x W hx _
 have hx:=(inW_iff _).1 hx
 show Calls Tryz.prog 63 #[.int .i64 x] W _
 go_enter Tryz.func63,Tryz.ntmps63
 go_wp2
 go_ret
 exact ⟨rfl,Below.refl _ _⟩
theorem makes47 (w:World):Makes 132 #[] posF w:=by
 intro x W hx _
 have hx:=(inW_iff _).1 hx
 show Calls Tryz.prog 132 #[.int .i64 x] W _
 by_cases h:x<0
 ·have e:posF x=0:=by simp [posF,h]
  rw [e]
  go_enter Tryz.func132,Tryz.ntmps132
  go_wp2
  go_ret
  exact ⟨ret_int (by omega),Below.refl _ _⟩
 ·have e:posF x=x:=by simp [posF,h]
  rw [e]
  go_enter Tryz.func132,Tryz.ntmps132
  go_wp2
  go_ret
  exact ⟨ret_int (by omega),Below.refl _ _⟩
theorem makes49 (w:World):Makes 133 #[] oneF w:=by
 intro x W hx _
 have hx:=(inW_iff _).1 hx
 show Calls Tryz.prog 133 #[.int .i64 x] W _
 by_cases h:0<x
 ·have e:oneF x=1:=by simp [oneF,h]
  rw [e]
  go_enter Tryz.func133,Tryz.ntmps133
  go_wp2
  go_ret
  exact ⟨ret_int (by omega),Below.refl _ _⟩
 ·have e:oneF x=0:=by simp [oneF,h]
  rw [e]
  go_enter Tryz.func133,Tryz.ntmps133
  go_wp2
  go_ret
  exact ⟨ret_int (by omega),Below.refl _ _⟩
end Go.Proofs.YtoefpglknaiaeaaGreat
/- The walks of zsets.Neg, Positive, Distinct and Weight, and of the document's Same at sets that are the same. -/
namespace Go.Proofs.YtoefpglknaiaeaaGreat
open Go.RowKit Go.Lib Go.Shelf

set_option maxHeartbeats 400000 in
theorem neg_at (a:Option Addr) (cap:Nat) (l:List Zp) (w:World) (h:ZsAt w a l) :
  Calls Tryz.prog 43 #[.slice a l.length cap] w fun e w'=>∃ v,e = .returned (.tuple #[v,.int .i64 (wrongZ l)])∧OwnZ w.heap.size w' v (setZ (fun w=>-w) l)∧Below w.heap.size w w':=by
 go_enter Tryz.func43,Tryz.ntmps43
 go_wp2_with fail
 refine (weighedSet_at 63 #[] (fun w=>-w) a cap l w h eg46 makes46).mono ?_
 rintro e w1 ⟨v,rfl,O1,hb1⟩
 obtain ⟨a1,c1,rfl,z1⟩:=O1.zs
 go_wp2_with fail
 exact bodyPost_ret (v:=.tuple #[.slice a1 (setZ (fun w=>-w) l).length c1,.int .i64 (wrongZ l)]) (by simp [results,Tryz.results43,go_sem]) rfl ⟨_,rfl,O1,hb1⟩
set_option maxHeartbeats 400000 in
theorem positive_at (a:Option Addr) (cap:Nat) (l:List Zp) (w:World) (h:ZsAt w a l) :
  Calls Tryz.prog 94 #[.slice a l.length cap] w fun e w'=>∃ v,e = .returned (.tuple #[v,.int .i64 (wrongZ l)])∧OwnZ w.heap.size w' v (setZ posF l)∧Below w.heap.size w w':=by
 go_enter Tryz.func94,Tryz.ntmps94
 go_wp2_with fail
 refine (weighedSet_at 132 #[] posF a cap l w h eg47 makes47).mono ?_
 rintro e w1 ⟨v,rfl,O1,hb1⟩
 obtain ⟨a1,c1,rfl,z1⟩:=O1.zs
 go_wp2_with fail
 exact bodyPost_ret (v:=.tuple #[.slice a1 (setZ posF l).length c1,.int .i64 (wrongZ l)]) (by simp [results,Tryz.results94,go_sem]) rfl ⟨_,rfl,O1,hb1⟩
set_option maxHeartbeats 400000 in
theorem distinct_at (a:Option Addr) (cap:Nat) (l:List Zp) (w:World) (h:ZsAt w a l) :
  Calls Tryz.prog 95 #[.slice a l.length cap] w fun e w'=>∃ v,e = .returned (.tuple #[v,.int .i64 (wrongZ l)])∧OwnZ w.heap.size w' v (setZ oneF l)∧Below w.heap.size w w':=by
 go_enter Tryz.func95,Tryz.ntmps95
 go_wp2_with fail
 refine (weighedSet_at 133 #[] oneF a cap l w h eg49 makes49).mono ?_
 rintro e w1 ⟨v,rfl,O1,hb1⟩
 obtain ⟨a1,c1,rfl,z1⟩:=O1.zs
 go_wp2_with fail
 exact bodyPost_ret (v:=.tuple #[.slice a1 (setZ oneF l).length c1,.int .i64 (wrongZ l)]) (by simp [results,Tryz.results95,go_sem]) rfl ⟨_,rfl,O1,hb1⟩

end Go.Proofs.YtoefpglknaiaeaaGreat
/- The walks of the document's Same at sets that are the same, and of tidelaw2.alive. -/
namespace Go.Proofs.YtoefpglknaiaeaaGreat
open Go.RowKit Go.Lib Go.Shelf

theorem eql_val (w:World) (k n:Int) (s:ByteArray) :
  (binOp .neq 24 (.agg #[.int .i64 k,.int .i64 n,.string s]) (.agg #[.int .i64 k,.int .i64 n,.string s])).run Tryz.prog w = .ok (.bool false) w:=by
 rw [run_neq_struct,run_equalIn_struct w 9999 24 _ _ (by kernel_rfl) (by kernel_rfl)]
 simp [Program.fieldsOf,Tryz.underlying24,go_sem]

set_option maxHeartbeats 2000000 in
theorem same_eq (a a':Option Addr) (cap cap':Nat) (z:List Zp) (w:World) (h:ZsAt w a z) (h':ZsAt w a' z) :
  Calls Tryz.prog 21 #[.slice a z.length cap,.slice a' z.length cap'] w fun e w'=>e = .returned (.bool true)∧Below w.heap.size w w':=by
 have hl:=h.1
 unfold maxLen at hl
 go_enter Tryz.func21,Tryz.ntmps21
 go_wp2_with fail
 go_loopw [14] (fun i wr=>∃ k:Nat,k≤z.length∧i = .int .i64 k∧Below w.heap.size w wr) (fun i _=>z.length - (intOf i).toNat)
 case atStart=>exact ⟨0,Nat.zero_le _,rfl,Below.refl _ _⟩
 case round =>
  obtain ⟨k,hk,rfl,hb⟩:=hrel
  by_cases hlt:k<z.length
  ·obtain ⟨b,off,rfl,hbl,c1,ar,cr,c0,sr⟩:=(h.next hb).elem hlt
   obtain ⟨b',off',rfl,hbl',d1,br,dr,d0,tr⟩:=(h'.next hb).elem hlt
   have i0:(0:Int)≤(k:Int):=by omega
   have i1:(k:Int)<(z.length:Int):=by omega
   have p0:=past_cell c0
   have p1:=past_cell c1
   have p2:=past_cell d0
   have p3:=past_cell d1
   haveI:Nonempty (Past wr):=⟨⟨wr,Below.refl _ _⟩⟩
   go_wp2_with fail
   refine wp_region_past (by kernel_rfl) (by kernel_rfl) ?_
   repeat (go_big_quiet_step (fail))
   refine wpQuiet_nil ?_
   rintro w2 ⟨⟨v2,hb2⟩,h2⟩
   obtain rfl:w2=v2:=h2
   have q0:=(hb2.cell (p:=⟨b,_,none⟩) hbl).trans c0
   have q2:=(hb2.cell (p:=⟨b',_,none⟩) hbl').trans d0
   have sr2:=sr.next hb2
   have tr2:=tr.next hb2
   have hb2':=chain1 hb hb2
   have hbl2:=Nat.lt_of_lt_of_le hbl hb2.size
   have hbl2':=Nat.lt_of_lt_of_le hbl' hb2.size
   have hrl:=sr.1
   unfold maxLen at hrl
   clear p0 p1 p2 p3 c0 c1 d0 d1 sr tr
   go_wp2_with fail
   go_loopw [49] (fun i ws=>∃ j:Nat,j≤z[k].1.length∧i = .int .i64 j∧Below w2.heap.size w2 ws) (fun i _=>z[k].1.length - (intOf i).toNat)
   case atStart=>exact ⟨0,Nat.zero_le _,rfl,Below.refl _ _⟩
   case round =>
    obtain ⟨j,hj,rfl,hs⟩:=hrel
    by_cases hjl:j<z[k].1.length
    ·obtain ⟨x,xo,rfl,xl,x0,x1,x2⟩:=(sr2.next hs).elem hjl
     obtain ⟨y,yo,rfl,yl,y0,y1,y2⟩:=(tr2.next hs).elem hjl
     have r0:=past_cell ((hs.cell (p:=⟨b,_,none⟩) hbl2).trans q0)
     have r2:=past_cell ((hs.cell (p:=⟨b',_,none⟩) hbl2').trans q2)
     have j0:(0:Int)≤(j:Int):=by omega
     have j1:(j:Int)<(z[k].1.length:Int):=by omega
     have s0:=past_cell x0
     have s1:=past_cell x1
     have s2:=past_cell x2
     have s3:=past_cell y0
     have s4:=past_cell y1
     have s5:=past_cell y2
     have ev:=fun w'=>eql_val w' z[k].1[j].1 z[k].1[j].2.1 z[k].1[j].2.2
     haveI:Nonempty (Past wr):=⟨⟨wr,Below.refl _ _⟩⟩
     go_wp2_with fail
     refine wp_region_past (by kernel_rfl) (by kernel_rfl) ?_
     repeat (go_big_quiet_step (fail))
     refine wpQuiet_nil ?_
     rintro w3 ⟨⟨v3,hb3⟩,h3⟩
     obtain rfl:w3=v3:=h3
     go_wp2_with fail
     go_roundw
     case rel=>exact ⟨j+1,by omega,by go_num,chain1 hs hb3⟩
     case measure=>simp [intOf]; omega
    ·go_wp2_with fail
     go_roundw
     case rel=>exact ⟨k+1,by omega,by go_num,chain1 hb2' hs⟩
     case measure=>simp [intOf]; omega
  ·go_wp2_with fail
   go_ret
   exact ⟨rfl,hb⟩
end Go.Proofs.YtoefpglknaiaeaaGreat
/- The walk of tidelaw2.ZsetsForm. -/
namespace Go.Proofs.YtoefpglknaiaeaaGreat
open Go.RowKit Go.Lib Go.Shelf

theorem putL_mem (r:List Vl) (w:Int):∀ z:List Zp,∀ y ∈ putL z r w,y ∈ z∨y.1=bareL r
 | []=>by
  unfold putL
  split
  ·simp
  ·intro y hy; simp at hy; subst hy; exact .inr rfl
 | x :: t=>by
  have ih:=putL_mem r w t
  unfold putL
  split
  ·intro y hy
   rcases List.mem_cons.1 hy with rfl | hy
   ·exact .inl (by simp)
   ·rcases ih y hy with h | h
    ·exact .inl (by simp [h])
    ·exact .inr h
  ·split
   ·split
    ·intro y hy; exact .inl (by simp [hy])
    ·intro y hy
     rcases List.mem_cons.1 hy with rfl | hy
     ·exact .inr rfl
     ·exact .inl (by simp [hy])
   ·split
    ·intro y hy; exact .inl hy
    ·intro y hy
     rcases List.mem_cons.1 hy with rfl | hy
     ·exact .inr rfl
     ·exact .inl hy
theorem canonF_row (l:List Zp):∀ z:List Zp,∀ y ∈ l.foldl (fun z x=>putL z x.1 x.2) z,y ∈ z∨∃ x ∈ l,y.1=bareL x.1:=by
 induction l with
 | nil=>intro z y hy; exact .inl hy
 | cons x r ih =>
  intro z y hy
  rcases ih _ y hy with h | ⟨u,hu,e⟩
  ·rcases putL_mem _ _ _ y h with h | h
   ·exact .inl h
   ·exact .inr ⟨x,by simp,h⟩
  ·exact .inr ⟨u,by simp [hu],e⟩
theorem canon_row (l:List Zp):∀ y ∈ canon l,∃ x ∈ l,y.1=bareL x.1:=fun y hy=>by
 rcases canonF_row l [] y hy with h | h
 ·cases h
 ·exact h
theorem canon_congr {l t:List Zp} (h:∀ q,wt l q=wt t q):canon l=canon t :=
 set_unique _ _ (canon_set l) (canon_set t) fun q=>by rw [canon_wt,canon_wt,h]
theorem canon_self {z:List Zp} (h:IsSet z):canon z=z:=(canon_of h fun _=>rfl).symm
theorem gather_ok {l:List Zp} (h:gatherE l=0):outW (canon l)=false∧(canon l).length≤400:=by
 unfold gatherE at h
 by_cases h1:outW (canon l)=true
 ·rw [if_pos h1] at h; omega
 ·rw [if_neg h1] at h
  by_cases h2:400<(canon l).length
  ·rw [if_pos h2] at h; omega
  ·exact ⟨by simpa using h1,by omega⟩
theorem outW_in {z:List Zp} (h:outW z=false):∀ x ∈ z,inW x.2=true:=by
 unfold outW at h
 rw [List.any_eq_false] at h
 intro x hx
 simpa using h x hx
theorem wrong_canon {l:List Zp} (hr:∀ x ∈ l,wrongRowF x.1=0) (h:gatherE l=0):wrongZ (canon l)=0:=by
 obtain ⟨h1,h2⟩:=gather_ok h
 refine (wrongZ_iff _).2 ⟨h2,fun y hy=>?_,(canon_set l).rise⟩
 obtain ⟨x,hx,e⟩:=canon_row l y hy
 refine ⟨?_,(canon_set l).ne y hy,outW_in h1 y hy⟩
 rw [e,wrongRow_bare]
 exact hr x hx
end Go.Proofs.YtoefpglknaiaeaaGreat
/- What is done with sets, plainly: conditions, filters, lists, pairs; sums over sets. No program in sight. -/
namespace Go.Proofs.YtoefpglknaiaeaaGreat

/-! ### What is wrong -/
def condE (cols:List Int) (x:Ex):Int:=if (typeTop cols x).2≠0 then (typeTop cols x).2 else if (typeTop cols x).1≠2∧(typeTop cols x).1≠1 then 9 else 0
def fitsZ (cols:List Int):List Zp→Int
 | []=>0
 | x :: r=>if fitsL cols x.1=0 then fitsZ cols r else fitsL cols x.1
def inpE (cols:List Int) (z:List Zp):Int:=if 8<cols.length then 5 else if wrongZ z≠0 then wrongZ z else fitsZ cols z
def typesE (cols:List Int):List Ex→Int
 | []=>0
 | x :: r=>if (typeTop cols x).2=0 then typesE cols r else (typeTop cols x).2
def listE (cols:List Int) (xs:List Ex):Int:=if 8<xs.length then 5 else typesE cols xs
theorem fitsZ_end (cols:List Int) (z:List Zp) (k:Nat) (h:z.length≤k):fitsZ cols (z.drop k)=0:=by rw [List.drop_eq_nil_of_le h]; rfl
theorem fitsZ_bad (cols:List Int) (z:List Zp) (k:Nat) (h:k<z.length) (e:¬ fitsL cols z[k].1=0):fitsZ cols (z.drop k)=fitsL cols z[k].1:=by
 rw [List.drop_eq_getElem_cons h,fitsZ,if_neg e]
theorem fitsZ_next (cols:List Int) (z:List Zp) (k:Nat) (h:k<z.length) (e:fitsL cols z[k].1=0):fitsZ cols (z.drop k)=fitsZ cols (z.drop (k+1)):=by
 rw [List.drop_eq_getElem_cons h,fitsZ,if_pos e]
theorem typesE_end (cols:List Int) (z:List Ex) (k:Nat) (h:z.length≤k):typesE cols (z.drop k)=0:=by rw [List.drop_eq_nil_of_le h]; rfl
theorem typesE_bad (cols:List Int) (z:List Ex) (k:Nat) (h:k<z.length) (e:¬ (typeTop cols z[k]).2=0):typesE cols (z.drop k)=(typeTop cols z[k]).2:=by
 rw [List.drop_eq_getElem_cons h,typesE,if_neg e]
theorem typesE_next (cols:List Int) (z:List Ex) (k:Nat) (h:k<z.length) (e:(typeTop cols z[k]).2=0):typesE cols (z.drop k)=typesE cols (z.drop (k+1)):=by
 rw [List.drop_eq_getElem_cons h,typesE,if_pos e]
theorem fitsZ_ok (cols:List Int):∀ z:List Zp,fitsZ cols z=0↔∀ x ∈ z,FitP cols x.1
 | []=>by simp [fitsZ]
 | x :: r=>by
  have ih:=fitsZ_ok cols r
  rw [fitsZ]
  by_cases h:fitsL cols x.1=0
  ·rw [if_pos h,ih]
   simp [(fitsL_ok cols x.1).1 h]
  ·rw [if_neg h]
   constructor
   ·intro e; exact absurd e h
   ·intro e; exact absurd ((fitsL_ok cols x.1).2 (e x (by simp))) h
theorem typesE_ok (cols:List Int):∀ z:List Ex,typesE cols z=0↔∀ x ∈ z,(typeTop cols x).2=0
 | []=>by simp [typesE]
 | x :: r=>by
  have ih:=typesE_ok cols r
  rw [typesE]
  by_cases h:(typeTop cols x).2=0
  ·rw [if_pos h,ih]
   simp [h]
  ·rw [if_neg h]
   simp [h]
structure InpOk (cols:List Int) (z:List Zp):Prop where
 cols8:cols.length≤8
 set:wrongZ z=0
 fit:∀ x ∈ z,FitP cols x.1
theorem inpE_ok (cols:List Int) (z:List Zp):inpE cols z=0↔InpOk cols z:=by
 unfold inpE
 by_cases h8:8<cols.length
 ·rw [if_pos h8]
  constructor
  ·intro h; omega
  ·rintro ⟨h,_,_⟩; omega
 ·rw [if_neg h8]
  by_cases hw:wrongZ z=0
  ·rw [if_neg (by simpa using hw),fitsZ_ok]
   exact ⟨fun h=>⟨by omega,hw,h⟩,fun h=>h.fit⟩
  ·rw [if_pos (by simpa using hw)]
   exact ⟨fun h=>absurd h hw,fun h=>h.set⟩
theorem condE_ok {cols:List Int} {x:Ex} (h:condE cols x=0):(typeTop cols x).2=0∧((typeTop cols x).1=1∨(typeTop cols x).1=2):=by
 unfold condE at h
 by_cases h1:(typeTop cols x).2=0
 ·rw [if_neg (by simpa using h1)] at h
  by_cases h2:(typeTop cols x).1≠2∧(typeTop cols x).1≠1
  ·rw [if_pos h2] at h; omega
  ·exact ⟨h1,by omega⟩
 ·rw [if_pos h1] at h
  exact absurd h h1
theorem typ_of {cols:List Int} {x:Ex} (h:(typeTop cols x).2=0):typP cols x=some (typeTop cols x).1:=((typeTop_ok cols x).1 h).ty

/-! ### What expressions come to hangs on bare rows alone -/
def holdsP (x:Ex) (row:List Vl):Bool:=clsP (valX row x) == some true
def rowX (xs:List Ex) (row:List Vl):List Vl:=xs.map (valX row)
def tot (g:List Vl→Int):List Zp→Int
 | []=>0
 | x :: r=>g x.1*x.2+tot g r
def filtL (x:Ex) (z:List Zp):List Zp:=z.filter fun p=>holdsP x p.1
def mapL (xs:List Ex) (z:List Zp):List Zp:=z.map fun p=>(rowX xs p.1,p.2)
theorem canon_rise {l:List Zp} (h:Rise l):canon l=weighL (fun w=>w) l :=
 (canon_of (weighL_set _ _ h) fun q=>weighL_wt (fun w=>w) rfl q l h).symm
/-- Some rows of a right set make a set. -/
theorem gather_sub {z l:List Zp} (hz:wrongZ z=0) (hl:l.Sublist z):gatherE l=0:=by
 obtain ⟨h1,h2,h3⟩:=(wrongZ_iff z).1 hz
 have hr:Rise l:=h3.sublist hl
 have e:=canon_rise hr
 have o:outW (canon l)=false:=by
  rw [e,outW_weigh]
  exact outW_ok fun j hj=>(h2 _ (hl.subset (List.getElem_mem hj))).2.2
 have n:(canon l).length≤400:=by
  rw [e]
  have:=weighL_len (fun w=>w) l
  have:=hl.length_le
  omega
 unfold gatherE
 rw [o,if_neg (by decide),if_neg (by omega)]
theorem filt_gather {z:List Zp} (hz:wrongZ z=0) (p:Zp→Bool):gatherE (z.filter p)=0:=gather_sub hz List.filter_sublist
def filtE (cols:List Int) (x:Ex) (z:List Zp):Int:=if condE cols x≠0 then condE cols x else if inpE cols z≠0 then inpE cols z else 0
def filtZ (cols:List Int) (x:Ex) (z:List Zp):List Zp:=if filtE cols x z=0 then canon (filtL x z) else []
def mapE (cols:List Int) (xs:List Ex) (z:List Zp):Int:=if listE cols xs≠0 then listE cols xs else if inpE cols z≠0 then inpE cols z else gatherE (mapL xs z)
def mapZ (cols:List Int) (xs:List Ex) (z:List Zp):List Zp:=if mapE cols xs z=0 then canon (mapL xs z) else []
theorem listE_ok {cols:List Int} {xs:List Ex} (h:listE cols xs=0):xs.length≤8∧∀ x ∈ xs,(typeTop cols x).2=0:=by
 unfold listE at h
 by_cases h8:8<xs.length
 ·rw [if_pos h8] at h; omega
 ·rw [if_neg h8,typesE_ok] at h
  exact ⟨by omega,h⟩
end Go.Proofs.YtoefpglknaiaeaaGreat
