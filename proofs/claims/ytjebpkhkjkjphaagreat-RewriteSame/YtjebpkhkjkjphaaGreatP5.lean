/- Together: Z7, Z8, Z9, ZA, ZB, ZC, Form, Q1, K4. -/
import Derived.Shelf.SlSortCmp.NoneTotal
import Derived.Test.YtjebpkhkjkjphaaGreatP4
import Derived.Test.YtjebpkhkjkjphaaGreatP3
namespace Go.Proofs.YtjebpkhkjkjphaaGreat
open Go.RowKit Go.Lib Go.Shelf
set_option maxRecDepth 100000
set_option maxHeartbeats 16000000
theorem yM (m:Int) (hm:0≤m):∀ l:List Zp,(∀ x ∈ l,-m≤x.2∧x.2≤m)→∀ y ∈ bS l,-(m*l.length)≤y.2∧y.2≤m*l.length:=by
 refine qK (by simp [bS]) ?_;intro l x ih h y hy;have hx:=h x (by simp);have ih:=ih (fun u hu=>h u (by simp [hu]));rw [ig] at hy;have e:m*((l ++ [x]).length:Int)=m*l.length+m:=by
  simp only [Mw,List.length_singleton];rw [Int.natCast_add,Int.mul_add]; simp
 rw [e];have hp:0≤m*(l.length:Int):=Int.mul_nonneg hm (by omega);rcases List.eq_nil_or_concat (bS l) with e' | ⟨a,u,e'⟩
 ·rw [e',kP] at hy;simp at hy; subst hy; omega
 ·rw [e',NK,il] at hy;have hu:=ih u (by rw [e']; simp)
  split at hy
  ·simp at hy;rcases hy with hy | rfl
   ·have:=ih y (by rw [e']; simp [hy]); omega
   ·simp only; omega
  ·rcases List.mem_append.1 hy with hy | hy
   ·have:=ih y (by rw [e',NK]; exact hy); omega
   ·simp at hy; subst hy; omega
theorem uV {w:World} {d d':Array (Zg w)} {n:Nat} (hn:d.size=n) (hp:Go.Sort.PermIn 0 n d d') (hs:Go.Sort.SortedIn (ltOf (JG w)) 0 n d') :
  d'.size=n∧(d'.toList.map (Fo w)).Perm (d.toList.map (Fo w))∧(d'.toList.map (Fo w)).Pairwise fun x y=>aK x.1 y.1≤0:=by
 obtain ⟨h1,_,h3⟩:=hp;have e1:d'.size=n:=h1.trans hn;have x1:d'.extract 0 n=d':=by rw [← e1]; exact Array.extract_size
 have x2:d.extract 0 n=d:=by rw [← hn]; exact Array.extract_size
 rw [x1,x2] at h3;refine ⟨e1,h3.map _,?_⟩;rw [List.pairwise_map,List.pairwise_iff_getElem];intro i j hi hj hij;have hi':i<d'.size:=by simpa using hi
 have hj':j<d'.size:=by simpa using hj
 have:=of_decide_eq_false (hs i j (Mj _) hij (by omega));rw [getElem!_pos d' i hi',getElem!_pos d' j hj'] at this;simp only [Ni,Fo];simp only [JG] at this;have n1:=bd d'[i].1.row d'[j].1.row;omega
def ku (W:World) (xs:List Value) (l:List Zp):Prop :=
 xs.length=l.length*2∧∀ (i:Nat) (h:i<l.length),∃ a cap,xs[i*2]? = some (.slice a l[i].1.length cap)∧xs[i*2+1]? = some (.int .i64 l[i].2)∧bg W a l[i].1
theorem ku.push {W:World} {xs:List Value} {l:List Zp} (h:ku W xs l) {a:Option Addr} {cap:Nat} {x:Zp} (hs:bg W a x.1):ku W (xs ++ [.slice a x.1.length cap,.int .i64 x.2]) (l ++ [x]):=by
 have lx:=h.1;refine ⟨by simp [lx]; omega,fun i hi=>?_⟩;by_cases hi':i<l.length
 ·obtain ⟨a',c',h1,h2,h3⟩:=h.2 i hi';refine ⟨a',c',?_,?_,?_⟩
  ·rw [Mx (by omega),h1,Mz hi']
  ·rw [Mx (by omega),h2,Mz hi']
  ·rw [Mz hi']; exact h3
 ·have:i=l.length:=by simp at hi; omega
  subst this;refine ⟨a,cap,?_,?_,?_⟩
  ·rw [My (by omega)]; simp [lx]
  ·rw [My (by omega)]; simp [lx]
  ·simpa using hs
theorem ku.last {W:World} {xs:List Value} {l:List Zp} {y:Zp} (h:ku W xs (l ++ [y])) (z:Int):ku W (xs.set (l.length*2+1) (.int .i64 z)) (l ++ [(y.1,z)]):=by
 have lx:=h.1;refine ⟨by simpa using lx,fun i hi=>?_⟩;have hi0:i<(l ++ [y]).length:=by simpa using hi
 obtain ⟨a',c',h1,h2,h3⟩:=h.2 i hi0;by_cases hi':i<l.length
 ·rw [Mz hi'] at h1 h2 h3 ⊢;refine ⟨a',c',?_,?_,h3⟩
  ·rw [Mt (by omega)]; exact h1
  ·rw [Mt (by omega)]; exact h2
 ·have:i=l.length:=by simp at hi; omega
  subst this;simp only [List.getElem_concat_length] at h1 h2 h3 ⊢;refine ⟨a',c',?_,?_,h3⟩
  ·rw [Mt (by omega)]; exact h1
  ·rw [List.getElem?_set_self (by rw [lx]; simp; omega)]
theorem lQ {W:World} {base n:Nat} {v:Value} {xs:List Value} (h:W.ownsRow base 63 2 v n xs):∃ a c,v = .slice a n c:=by
 obtain ⟨_,⟨rfl,h0⟩ | ⟨g,c1,cur,rfl,_⟩⟩:=h
 ·exact ⟨none,0,by rw [h0]⟩
 ·exact ⟨_,c1,rfl⟩
theorem qg {W:World} {base n:Nat} {v:Value} {xs:List Value} (h:W.ownsRow base 63 2 v n xs) (hn:0<n):∃ g c,v = .slice (some ⟨g,0,none⟩) n c∧base≤g∧g<W.heap.size:=by
 have h':=h;obtain ⟨_,⟨rfl,h0⟩ | ⟨g,c1,cur,rfl,hg,_⟩⟩:=h
 ·omega
 ·exact ⟨g,c1,rfl,hg,(h'.lt g rfl).2⟩
theorem tW {W w2:World} {base n:Nat} {v:Value} {xs:List Value} {l:List Zp} (h:W.ownsRow base 63 2 v n xs) (hn:n=l.length) (he:ku w2 xs l) (hb:Below w2.heap.size w2 W):∃ a cap,v = .slice a l.length cap∧bc W a l:=by
 subst hn;have h1':=h;obtain ⟨hx,h1 | ⟨g,cap,cur,e,hg,hh,hn,hc,hs,ht⟩⟩:=h
 ·obtain ⟨rfl,h0⟩:=h1;have:l = []:=Mo h0;subst this;exact ⟨none,0,rfl,Mj _,.inl rfl⟩
 ·subst e;refine ⟨_,cap,rfl,Mr hn hc,.inr ⟨g,0,rfl,(h1'.lt g rfl).2,?_⟩⟩;intro i hi;obtain ⟨a,cp,e0,e1,e2⟩:=he.2 i hi;refine ⟨?_,a,cp,?_,e2.next hb⟩
  ·rw [h1'.cellAt _ (by omega),← e1]; congr 1; omega
  ·rw [h1'.cellAt _ (by omega),← e0]; congr 1; omega
def lU (w2 wr:World) (v:Value) (acc:List Zp):Prop:=∃ xs,wr.ownsRow w2.heap.size 63 2 v acc.length xs∧ku w2 xs acc
theorem lU.next {w2 wr w3:World} {v:Value} {acc:List Zp} (h:lU w2 wr v acc) (hb:Below wr.heap.size wr w3):lU w2 w3 v acc:=by
 obtain ⟨xs,h1,h2⟩:=h;exact ⟨xs,bp h1 hb,h2⟩
theorem lU.last {w2 wr:World} {g c:Nat} {a:List Zp} {y:Zp} (h:lU w2 wr (.slice (some ⟨g,0,none⟩) (a.length+1) c) (a ++ [y])) (z:Int) :
  lU w2 (wr.setCell ⟨g,a.length*2+1,none⟩ (.int .i64 z)) (.slice (some ⟨g,0,none⟩) (a.length+1) c) (a ++ [(y.1,z)]):=by
 obtain ⟨xs,h1,h2⟩:=h;have e:(a ++ [y]).length=a.length+1:=by simp
 rw [e] at h1;refine ⟨_,?_,h2.last z⟩;have:=(h1.stored (a.length*2+1) (.int .i64 z)).1
 simpa using this
def rJ (w:Int):Bool:=decide (-1000000000000≤w) && decide (w≤1000000000000)
theorem kD (x:Int):rJ x=true ↔ -1000000000000≤x∧x≤1000000000000:=by simp [rJ]
theorem jb (x:Int):lZ x=true ↔ -1000000≤x∧x≤1000000:=by simp [lZ]
theorem mW {x:Int} (h:lZ x=true):rJ x=true:=by
 rw [jb] at h;rw [kD];omega
theorem uH (a:Option Addr) (cap:Nat) (l:List Zp) (w:World) (h:bc w a l) (hl:l.length≤200000) (hn:0<l.length) (hw:∀ x ∈ l,rJ x.2=true) :
  Calls Tryz.prog 44 #[.slice a l.length cap] w fun e w'=>∃ s a' c',e = .returned (.slice a' (bS s).length c')∧s.Perm l∧(s.Pairwise fun x y=>aK x.1 y.1≤0)∧bc w' a' (bS s)∧Below w.heap.size w w':=by
 obtain ⟨i0,hi,hj0,hj1,hj2⟩:=info_parts Tryz.gH;obtain ⟨d,hd,hdl,hc⟩:=h.arr;go_enter Tryz.func44,Tryz.ntmps44;go_wp2_with fail
 refine (xd a cap l w d hd (by omega) hc).mono ?_;rintro e w1 ⟨v,rfl,hown,hb1⟩;obtain ⟨g,c,rfl,hg,hgl⟩:=qg hown hn;have hH:=iD hd.symm hown;have hH:=iD hd.symm hown;have hH:=iD hd.symm hown;have hH:=iD hd.symm hown;have hH:=iD hd.symm hown;have con:=G7 w w1 hb1 g 0 c hg d hH hgl (by omega);rw [hd] at con;have HN:=aw hn;clear hn hown hc;go_wp2_with fail
 refine con.mono ?_;clear con;rintro e w2 ⟨rfl,d',n,os,hp,hs,hw2⟩;obtain ⟨hd',hperm,hsort⟩:=uV hd hp hs;rw [hdl] at hperm;have hb2:Below w.heap.size w w2:=by rw [hw2]; exact fE hb1 hg
 have hgl2:g<w2.heap.size:=by
  rw [hw2];exact Mh hgl (size_sortWorldK_c (gU w) 2 w1 g 0 n d' os)
 have zs:bc w2 (some ⟨g,0,none⟩) (d'.toList.map (Fo w)):=by
  refine BI hb2 ?_ hgl2 (by omega);rw [hw2];exact holdsK_sortWorldK_c (gU w) 2 w1 g 0 d d' n os hH hgl (by omega)
 generalize hs0:d'.toList.map (Fo w)=s at hperm hsort zs;have hsl:s.length=l.length:=by rw [← hs0]; simp [hd']
 have hws:∀ x ∈ s,rJ x.2=true:=fun x hx=>hw x (hperm.mem_iff.1 hx)
 have HP:=aw hperm;have HSo:=aw hsort;clear hperm hsort hw2 hs0 hd' hp hs hH hdl hd hgl h hw;rw [← hsl];rw [← hsl] at hl;clear HN;go_wp2_with fail
 go_loopw [3,13] (fun v i wr=>∃ k:Nat,k≤s.length∧i = .int .i64 k∧lU w2 wr v (bS (s.take k))∧Below w2.heap.size w2 wr) (fun _ i _=>s.length - (intOf i).toNat)
 case atStart=>exact ⟨0,Mj _,rfl,⟨[],MM _ _ _ _,rfl,fun i hi=>by simp [bS] at hi⟩,Md _ _⟩
 case round =>
  obtain ⟨k,hk,rfl,HS,hb⟩:=hrel;have hz:=hb.size;by_cases hlt:k<s.length
  ·obtain ⟨b,off,hh,hbl,c1,ar,cr,c0,sr⟩:=(zs.next hb).elem hlt;obtain ⟨b',off',hh',hbl',c1',ar',cr',c0',sr'⟩:=zs.elem hlt;simp only [NC,Addr.mk.injEq,and_true] at hh hh';obtain ⟨rfl,rfl⟩:=hh;obtain ⟨rfl,rfl⟩:=hh';have ee:=(hb.cell (p:=⟨g,_,none⟩) hgl2).trans c0';rw [c0] at ee;simp only [NC,Value.slice.injEq,true_and] at ee;obtain ⟨rfl,rfl⟩:=ee;clear c0' c1' hbl';simp only [Mq] at c0 c1;have step:Hid (bS (s.take (k+1))=i5 (bS (s.take k)) s[k]):=by
    show bS (s.take (k+1))=_;rw [Mp hlt,ig]
   have hlen:=pd (s.take k);simp only [MH] at hlen;have hbd:=yM 1000000000000 (by omega) (s.take k) (fun x hx=>(kD _).1 (hws x (List.mem_of_mem_take hx)));have hx:=(kD _).1 (hws s[k] (Mk hlt));generalize hacc:bS (s.take k)=acc at HS step hlen hbd;clear hacc;rcases List.eq_nil_or_concat acc with e | ⟨a',y,e⟩
   ·subst e;obtain ⟨xs,ho,he⟩:=HS;obtain ⟨a3,c3,rfl⟩:=lQ ho;simp only [List.length_nil] at ho;have hbA:=aa wr (.cells #[.slice ar s[k].1.length cr,.int .i64 s[k].2] 63);have q0:(wr.alloc (.cells #[.slice ar s[k].1.length cr,.int .i64 s[k].2] 63)).cell? ⟨wr.heap.size,0,none⟩=some (.slice ar s[k].1.length cr):=by simp
    have q1:(wr.alloc (.cells #[.slice ar s[k].1.length cr,.int .i64 s[k].2] 63)).cell? ⟨wr.heap.size,1,none⟩=some (.int .i64 s[k].2):=by simp
    haveI:Nonempty (dG (wr.alloc (.cells #[.slice ar s[k].1.length cr,.int .i64 s[k].2] 63))):=⟨⟨_,Md _ _⟩⟩
    simp only [List.length_nil];go_wp2_with fail
    generalize wr.alloc (.cells #[.slice ar s[k].1.length cr,.int .i64 s[k].2] 63)=wA at *;refine aI (by kernel_rfl) (by kernel_rfl) ?_
    repeat (go_big_quiet_step (fail))
    refine wpQuiet_nil ?_;rintro w4 ⟨⟨v4,hb4⟩,h4⟩;obtain rfl:w4=v4:=h4;have ho4:=bp (bp ho hbA) hb4;have r0:=(hb4.cell (p:=⟨wr.heap.size,0,none⟩) (Mm _ _ q0)).trans q0;have r1:=(hb4.cell (p:=⟨wr.heap.size,1,none⟩) (Mm _ _ q1)).trans q1;have hzA:=hbA.size;have hz4:=hb4.size;clear ho
    go_wp2_with (at_builtin; refine M9 _ rfl _ _ 37 rfl w2.heap.size 63 i0 _ 2 32 Tryz.underlying37 hi hj0 hj1 hj2 rfl (by decide) _ _ _ rfl (ho4.alloc _) ⟨w4.heap.size,0,none⟩ 1 1 [.slice ar s[k].1.length cr,.int .i64 s[k].2] rfl rfl ?Ac1 ?Ac2 ?Ac3 ?Ac4 ?Ac5 ?_)
    case Ac1 =>
     intro j u hj
     match j,hj with
     | 0,hj=>simp at hj; subst hj; simp [Addr.add]
     | 1,hj=>simp at hj; subst hj; simp [Addr.add]
    case Ac2=>intro u hu; simp at hu; rcases hu with rfl | rfl <;> rfl
    case Ac3=>unfold maxLen; first | omega | (simp; done) | (simp; omega)
    case Ac4=>first | omega | (simp; done) | (simp; omega)
    case Ac5=>simp; omega
    intro v' w5 ho5 hg5 _;have hb5:Below w2.heap.size w2 w5:=((cB hb (cB hbA hb4)).alloc (by omega) _).grown hg5 (by simp; omega) (fun q hq=>((ho4.alloc (.cells #[.slice ar s[k].1.length cr,.int .i64 s[k].2] 63)).lt q hq).1);clear hg5 ho4 q0 q1;go_wp2
    go_roundw
    case rel=>exact ⟨k+1,by omega,by go_num,by rw [step.out,kP]; exact ⟨_,ho5,he.push sr'⟩,hb5⟩
    case measure=>simp [intOf]; omega
   ·rw [NK] at e;subst e;by_cases hc:aK y.1 s[k].1=0
    ·have HS0:=HS;obtain ⟨xs,ho,he⟩:=HS;obtain ⟨g3,c3,rfl,hg3,hg3l⟩:=qg ho (by simp);obtain ⟨ay,cy,x0,x1,sy⟩:=he.2 a'.length (by simp);simp only [List.getElem_concat_length] at x0 x1 sy;have y0:wr.cell? ⟨g3,a'.length*2,none⟩=some (.slice ay y.1.length cy):=by rw [ho.cellAt _ (by simp <;> omega)]; exact x0
     have y1:wr.cell? ⟨g3,a'.length*2+1,none⟩=some (.int .i64 y.2):=by rw [ho.cellAt _ (by simp <;> omega)]; exact x1
     have f1:wr.frozen? ⟨g3,a'.length*2+1,none⟩=false:=ho.frozenAt _;have el:(a' ++ [y]).length=a'.length+1:=by simp
     rw [el] at ho HS0 ⊢;have hy:=hbd y (by simp);rw [el] at hlen;have hkk:((s.take k).length:Int)≤200000:=by rw [MH]; omega
     have hbA:=aa wr (.cells #[.slice ar s[k].1.length cr,.int .i64 s[k].2] 63);have q0:(wr.alloc (.cells #[.slice ar s[k].1.length cr,.int .i64 s[k].2] 63)).cell? ⟨wr.heap.size,0,none⟩=some (.slice ar s[k].1.length cr):=by simp
     have q1:(wr.alloc (.cells #[.slice ar s[k].1.length cr,.int .i64 s[k].2] 63)).cell? ⟨wr.heap.size,1,none⟩=some (.int .i64 s[k].2):=by simp
     have y0A:=(hbA.cell (p:=⟨g3,_,none⟩) hg3l).trans y0;have y1A:=(hbA.cell (p:=⟨g3,_,none⟩) hg3l).trans y1;have f1A:=(hbA.frozen (p:=⟨g3,_,none⟩) hg3l).trans f1;have hgA:g3<(wr.alloc (.cells #[.slice ar s[k].1.length cr,.int .i64 s[k].2] 63)).heap.size:=Mh hg3l hbA.size;haveI:Nonempty (dG (wr.alloc (.cells #[.slice ar s[k].1.length cr,.int .i64 s[k].2] 63))):=⟨⟨_,Md _ _⟩⟩
     have sA:=sr.next hbA;have tA:=(sy.next hb).next hbA;have e1:((a'.length+1:Nat):Int) - 1=(a'.length:Int):=by omega
     have i1:(0:Int)≤(a'.length:Int):=by omega
     have i2:(a'.length:Int)<((a'.length+1:Nat):Int):=by omega
     have i3:a'.length<a'.length+1:=by omega
     clear y0 y1 f1 x0 x1;have HC:=aw hc;go_wp2_with fail
     generalize wr.alloc (.cells #[.slice ar s[k].1.length cr,.int .i64 s[k].2] 63)=wA at *;have p0:=aq y0A;have p1:=aq q0;refine aI (by kernel_rfl) (by kernel_rfl) ?_
     repeat (go_big_quiet_step (first | (go_at_call 70; exact du (mK _ _ _ _ _ _ _ (tA.next (dG.ok _)) (sA.next (dG.ok _))))))
     refine wpQuiet_nil ?_;rintro w4 ⟨⟨v4,hb4⟩,h4⟩;obtain rfl:w4=v4:=h4;clear p0 p1;have r0:=(hb4.cell (p:=⟨wr.heap.size,0,none⟩) (Mm _ _ q0)).trans q0;have r1:=(hb4.cell (p:=⟨wr.heap.size,1,none⟩) (Mm _ _ q1)).trans q1;have z0:=(hb4.cell (p:=⟨g3,_,none⟩) hgA).trans y0A;have z1:=(hb4.cell (p:=⟨g3,_,none⟩) hgA).trans y1A;have zf:=(hb4.frozen (p:=⟨g3,_,none⟩) hgA).trans f1A;have hzA:=hbA.size;have hz4:=hb4.size;have HS4:=(HS0.next hbA).next hb4;clear ho y0A y1A f1A q0 q1;have hv1:-9223372036854775808≤y.2+s[k].2:=by omega
     have hv2:y.2+s[k].2≤9223372036854775807:=by omega
     go_wp2_with fail
     go_region
     have hb5:Below w2.heap.size w2 (w4.setCell ⟨g3,a'.length*2+1,none⟩ (.int .i64 (y.2+s[k].2))).drew:=((cB hb (cB hbA hb4)).setCell (p:=⟨g3,a'.length*2+1,none⟩) hg3 _).drew;have HS5:lU w2 (w4.setCell ⟨g3,a'.length*2+1,none⟩ (.int .i64 (y.2+s[k].2))).drew (.slice (some ⟨g3,0,none⟩) (a'.length+1) c3) (a' ++ [(y.1,y.2+s[k].2)]):=(HS4.last _).next ((Md _ _).drew);clear HS4 HS0 z0 z1 zf r0 r1;go_wp2
     go_roundw
     case rel=>exact ⟨k+1,by omega,by go_num,by rw [step.out,il,if_pos HC.out]; exact HS5,hb5⟩
     case measure=>simp [intOf]; omega
    ·have HS0:=HS;obtain ⟨xs,ho,he⟩:=HS;obtain ⟨g3,c3,rfl,hg3,hg3l⟩:=qg ho (by simp);obtain ⟨ay,cy,x0,x1,sy⟩:=he.2 a'.length (by simp);simp only [List.getElem_concat_length] at x0 x1 sy;have y0:wr.cell? ⟨g3,a'.length*2,none⟩=some (.slice ay y.1.length cy):=by rw [ho.cellAt _ (by simp <;> omega)]; exact x0
     have y1:wr.cell? ⟨g3,a'.length*2+1,none⟩=some (.int .i64 y.2):=by rw [ho.cellAt _ (by simp <;> omega)]; exact x1
     have f1:wr.frozen? ⟨g3,a'.length*2+1,none⟩=false:=ho.frozenAt _;have el:(a' ++ [y]).length=a'.length+1:=by simp
     rw [el] at ho HS0 ⊢;have hy:=hbd y (by simp);rw [el] at hlen;have hkk:((s.take k).length:Int)≤200000:=by rw [MH]; omega
     have hbA:=aa wr (.cells #[.slice ar s[k].1.length cr,.int .i64 s[k].2] 63);have q0:(wr.alloc (.cells #[.slice ar s[k].1.length cr,.int .i64 s[k].2] 63)).cell? ⟨wr.heap.size,0,none⟩=some (.slice ar s[k].1.length cr):=by simp
     have q1:(wr.alloc (.cells #[.slice ar s[k].1.length cr,.int .i64 s[k].2] 63)).cell? ⟨wr.heap.size,1,none⟩=some (.int .i64 s[k].2):=by simp
     have y0A:=(hbA.cell (p:=⟨g3,_,none⟩) hg3l).trans y0;have y1A:=(hbA.cell (p:=⟨g3,_,none⟩) hg3l).trans y1;have f1A:=(hbA.frozen (p:=⟨g3,_,none⟩) hg3l).trans f1;have hgA:g3<(wr.alloc (.cells #[.slice ar s[k].1.length cr,.int .i64 s[k].2] 63)).heap.size:=Mh hg3l hbA.size;haveI:Nonempty (dG (wr.alloc (.cells #[.slice ar s[k].1.length cr,.int .i64 s[k].2] 63))):=⟨⟨_,Md _ _⟩⟩
     have sA:=sr.next hbA;have tA:=(sy.next hb).next hbA;have e1:((a'.length+1:Nat):Int) - 1=(a'.length:Int):=by omega
     have i1:(0:Int)≤(a'.length:Int):=by omega
     have i2:(a'.length:Int)<((a'.length+1:Nat):Int):=by omega
     have i3:a'.length<a'.length+1:=by omega
     clear y0 y1 f1 x0 x1;have HC:=aw hc;have b0:(aK y.1 s[k].1 == 0)=false:=by simpa using hc
     go_wp2_with fail
     generalize wr.alloc (.cells #[.slice ar s[k].1.length cr,.int .i64 s[k].2] 63)=wA at *;have p0:=aq y0A;have p1:=aq q0;refine aI (by kernel_rfl) (by kernel_rfl) ?_
     repeat (go_big_quiet_step (first | (go_at_call 70; exact du (mK _ _ _ _ _ _ _ (tA.next (dG.ok _)) (sA.next (dG.ok _))))))
     refine wpQuiet_nil ?_;rintro w4 ⟨⟨v4,hb4⟩,h4⟩;obtain rfl:w4=v4:=h4;clear p0 p1;have r0:=(hb4.cell (p:=⟨wr.heap.size,0,none⟩) (Mm _ _ q0)).trans q0;have r1:=(hb4.cell (p:=⟨wr.heap.size,1,none⟩) (Mm _ _ q1)).trans q1;have z0:=(hb4.cell (p:=⟨g3,_,none⟩) hgA).trans y0A;have z1:=(hb4.cell (p:=⟨g3,_,none⟩) hgA).trans y1A;have zf:=(hb4.frozen (p:=⟨g3,_,none⟩) hgA).trans f1A;have hzA:=hbA.size;have hz4:=hb4.size;have ho4:=bp (bp ho hbA) hb4;clear ho y0A y1A f1A
     go_wp2_with (at_builtin; refine M9 _ rfl _ _ 37 rfl w2.heap.size 63 i0 _ 2 32 Tryz.underlying37 hi hj0 hj1 hj2 rfl (by decide) _ _ _ rfl (ho4.alloc _) ⟨w4.heap.size,0,none⟩ 1 1 [.slice ar s[k].1.length cr,.int .i64 s[k].2] rfl rfl ?Bc1 ?Bc2 ?Bc3 ?Bc4 ?Bc5 ?_)
     case Bc1 =>
      intro j u hj
      match j,hj with
      | 0,hj=>simp at hj; subst hj; simp [Addr.add]
      | 1,hj=>simp at hj; subst hj; simp [Addr.add]
     case Bc2=>intro u hu; simp at hu; rcases hu with rfl | rfl <;> rfl
     case Bc3=>unfold maxLen; first | omega | (simp; done) | (simp; omega)
     case Bc4=>first | omega | (simp; done) | (simp; omega)
     case Bc5=>simp; omega
     intro v' w5 ho5 hg5 _;have hb5:Below w2.heap.size w2 w5:=((cB hb (cB hbA hb4)).alloc (by omega) _).grown hg5 (by simp; omega) (fun q hq=>((ho4.alloc (.cells #[.slice ar s[k].1.length cr,.int .i64 s[k].2] 63)).lt q hq).1);clear hg5 ho4 q0 q1;go_wp2
     go_roundw
     case rel=>exact ⟨k+1,by omega,by go_num,by rw [step.out,il,if_neg HC.out]; exact ⟨_,by simpa using ho5,he.push sr'⟩,hb5⟩
     case measure=>simp [intOf]; omega
  ·have e:k=s.length:=by omega
   subst e;rw [MB] at HS;obtain ⟨xs,ho,he⟩:=HS;obtain ⟨a3,c3,rfl,z3⟩:=tW ho rfl he hb;go_wp2
   go_ret;exact ⟨s,a3,c3,rfl,HP.out,HSo.out,z3,hb2.trans (hb.mono hb2.size)⟩
def mN (z:List Zp):Bool:=z.any fun x=>!lZ x.2
def bh (l:List Zp):Int:=if mN (canon l)=true then 3 else if 400<(canon l).length then 5 else 0
def bT (l:List Zp):List Zp:=if bh l=0 then canon l else []
theorem mu (z:List Zp):mN (aM (fun w=>w) z)=mN z:=by
 induction z with
 | nil=>rfl
 | cons x r ih =>
  unfold mN at ih ⊢;rw [aM]
  split
  ·rename_i h0
   rw [ih,List.any_cons,h0];simp [lZ]
  ·rw [List.any_cons,ih,List.any_cons]
theorem Ja {z:List Zp} {k:Nat} (hk:k<z.length) (h:lZ z[k].2=false):mN z=true:=by
 unfold mN;rw [List.any_eq_true];exact ⟨z[k],Mk hk,by simp [h]⟩
theorem Bd {z:List Zp} (h:∀ j (hj:j<z.length),lZ z[j].2=true):mN z=false:=by
 unfold mN;rw [List.any_eq_false];intro x hx;obtain ⟨j,hj,rfl⟩:=Nk hx;simp [h j hj]
theorem cY (base:Nat) (W:World):dH base W (.slice none 0 0) []:=⟨[],MM _ _ _ _,rfl,fun i hi=>by simp at hi⟩
theorem Lt:∀ args w,(callFunc 47 args).run Tryz.prog w = .ok (.enter 47 args) w:=enters_of Tryz.func47 (by kernel_rfl) rfl
theorem Iv (w:World):sm 47 #[] (fun w=>w) w:=by
 intro x W _ _;show Calls Tryz.prog 47 #[.int .i64 x] W _;go_enter Tryz.func47,Tryz.ntmps47;go_wp2
 go_ret;exact ⟨rfl,Md _ _⟩
def tH (l:List Zp) (w:World) (e:Ending) (w':World):Prop :=
 ∃ s a' c',e = .returned (.slice a' (bS s).length c')∧s.Perm l∧(s.Pairwise fun x y=>aK x.1 y.1≤0)∧bc w' a' (bS s)∧Below w.heap.size w w'
theorem vZ (a:Option Addr) (cap:Nat) (l:List Zp) (w:World) (hsum:Calls Tryz.prog 44 #[.slice a l.length cap] w (tH l w)) (hl:l.length≤200000) (h8:∀ x ∈ l,x.1.length≤8) :
  Calls Tryz.prog 30 #[.slice a l.length cap] w fun e w'=>∃ v,e = .returned (.tuple #[v,.int .i64 (bh l)])∧dH w.heap.size w' v (bT l)∧Below w.heap.size w w':=by
 go_enter Tryz.func30,Tryz.ntmps30;go_wp2_with fail
 refine hsum.mono ?_;clear hsum;rintro e w1 ⟨s,a1,c1,rfl,hp,hs,z1,hb1⟩;have hcan:=tz hp hs;have hm:=tj s hs;have hlen:=pd s;rw [hp.length_eq] at hlen;have h81:∀ y ∈ bS s,y.1.length≤8:=by
  intro y hy;obtain ⟨x,hx,e⟩:=hm.row y hy;rw [e];exact h8 x (hp.mem_iff.1 hx)
 have HCan:=aw hcan;clear hcan hm hp hs h8;generalize bS s=m at *;go_wp2_with fail
 go_loopw [12] (fun i wr=>∃ k:Nat,k≤m.length∧i = .int .i64 k∧Hid (∀ j (hj:j<m.length),j<k→lZ m[j].2=true)∧Below w1.heap.size w1 wr) (fun i _=>m.length - (intOf i).toNat)
 case atStart=>exact ⟨0,Mj _,rfl,fun j _ hj=>absurd hj (MP _),Md _ _⟩
 case round =>
  obtain ⟨k,hk,rfl,HI,hb⟩:=hrel;have hz:=hb.size;by_cases hlt:k<m.length
  ·obtain ⟨b,off,rfl,hbl,d1,ar,cr,d0,sr⟩:=(z1.next hb).elem hlt;cases hin:lZ m[k].2
   ·have HO:=aw hin;have he:Hid (bh l=3):=by
     show bh l=3;unfold bh;rw [← HCan.out,mu,if_pos (Ja hlt hin)]
    clear hin;go_wp2_with fail
    refine (eQ _ _).mono ?_;rintro e w2 ⟨rfl,rfl⟩;rw [HO.out];go_wp2_with fail
    refine Me (v:=.tuple #[.slice none 0 0,.int .i64 3]) (by simp [results,Tryz.results30,go_sem]) rfl ⟨_,by rw [he.out],?_,(cB hb1 hb).alloc (by have:=hb1.size; omega) _⟩;have hgz:bT l = []:=by unfold bT; rw [he.out]; rfl
    rw [hgz];exact cY _ _
   ·have HO:=aw hin;clear hin;go_wp2_with fail
    refine (eQ _ _).mono ?_;rintro e w2 ⟨rfl,rfl⟩;rw [HO.out];go_wp2
    go_roundw
    case rel=>exact ⟨k+1,by omega,by go_num,fun j hj hjk=>by
     by_cases e:j=k
     ·subst e; exact HO.out
     ·exact HI.out j hj (by omega),hb.alloc hz _⟩
    case measure=>simp [intOf]; omega
  ·have e:k=m.length:=by omega
   subst e;have hall:∀ x ∈ m,lZ x.2=true:=by
    intro x hx;obtain ⟨j,hj,rfl⟩:=Nk hx;exact HI.out j hj hj
   have ho:mN (canon l)=false:=by
    rw [← HCan.out,mu];exact Bd fun j hj=>HI.out j hj hj
   go_wp2_with fail
   refine (mx 47 #[] (fun w=>w) a1 c1 m wr (z1.next hb) Lt (Iv _) (by omega) h81 hall).mono ?_;rintro e w3 ⟨v,rfl,O3,hb3⟩;rw [HCan.out] at O3;have hb3':=cB (cB hb1 hb) hb3;have O3':=O3.mono (Mr hb1.size hb.size);obtain ⟨a3,c3,rfl,z3⟩:=O3.zs;by_cases h4:400<(canon l).length
   ·have he:Hid (bh l=5):=by
     show bh l=5;unfold bh;rw [ho,if_neg (by decide),if_pos h4]
    go_wp2_with fail
    refine Me (v:=.tuple #[.slice none 0 0,.int .i64 5]) (by simp [results,Tryz.results30,go_sem]) rfl ⟨_,by rw [he.out],?_,hb3'⟩;have hgz:bT l = []:=by unfold bT; rw [he.out]; rfl
    rw [hgz];exact cY _ _
   ·have he:Hid (bh l=0):=by
     show bh l=0;unfold bh;rw [ho,if_neg (by decide),if_neg h4]
    go_wp2_with fail
    refine Me (v:=.tuple #[.slice a3 (canon l).length c3,.int .i64 0]) (by simp [results,Tryz.results30,go_sem]) rfl ⟨_,by rw [he.out],?_,hb3'⟩;have hgz:bT l=canon l:=by unfold bT; rw [he.out]; rfl
    rw [hgz];exact O3'
theorem Dc (p:Option Addr) (cap:Nat) (fv:Value) (w:World):Calls Tryz.prog 73 #[.slice p 0 cap,fv] w fun e w'=>e = .returned (.tuple #[])∧w'=w :=
 AnyF.slices_SortFunc_none Tryz.sortZ p cap fv w
theorem uQ (a:Option Addr) (cap:Nat) (w:World):Calls Tryz.prog 44 #[.slice a 0 cap] w (tH [] w):=by
 unfold tH;go_enter Tryz.func44,Tryz.ntmps44;go_wp2_with fail
 refine (xd a cap [] w #[] rfl (by simp) (.inl rfl)).mono ?_;rintro e w1 ⟨v,rfl,hown,hb1⟩;obtain ⟨a1,c1,rfl⟩:=lQ hown;simp only [List.length_nil];go_wp2_with fail
 refine (Dc _ _ _ _).mono ?_;rintro e w2 ⟨rfl,rfl⟩;go_wp2_with fail
 refine wp_loop_rounds 1 ?_;rw [NH];go_wp2
 go_ret;exact ⟨[],none,0,rfl,List.Perm.refl _,List.Pairwise.nil,⟨by simp [bS],.inl rfl⟩,hb1⟩
theorem Dx (a:Option Addr) (cap:Nat) (l:List Zp) (w:World) (h:bc w a l) (hl:l.length≤200000) (hw:∀ x ∈ l,rJ x.2=true) :
  Calls Tryz.prog 44 #[.slice a l.length cap] w (tH l w):=by
 by_cases hn:0<l.length
 ·exact uH a cap l w h hl hn hw
 ·have e:l = []:=Mo (by omega);subst e;exact uQ a cap w
theorem dP (a:Option Addr) (cap:Nat) (l:List Zp) (w:World) (h:bc w a l) (hl:l.length≤200000) (hw:∀ x ∈ l,rJ x.2=true) (h8:∀ x ∈ l,x.1.length≤8) :
  Calls Tryz.prog 30 #[.slice a l.length cap] w fun e w'=>∃ v,e = .returned (.tuple #[v,.int .i64 (bh l)])∧dH w.heap.size w' v (bT l)∧Below w.heap.size w w' :=
 vZ a cap l w (Dx a cap l w h hl hw) hl h8
theorem Au:∀ (l:List Zp) (p:Option (List Vl)),oF p l=0↔(∀ x ∈ l,ba x.1=0∧x.2≠0∧lZ x.2=true)∧iH l∧∀ q,p=some q→∀ x ∈ l,aK q x.1<0
 | [],p=>by simp [oF,iH]
 | x :: r,p=>by
  have ih:=Au r (some x.1)
  rw [oF]
  by_cases hw:ba x.1=0
  ·rw [if_pos hw]
   by_cases h0:x.2=0∨lZ x.2=false
   ·rw [if_pos h0]
    constructor
    ·intro h; omega
    ·rintro ⟨h,_⟩
     have:=h x (by simp)
     rcases h0 with h0 | h0
     ·exact absurd h0 this.2.1
     ·rw [h0] at this; exact absurd this.2.2 (by decide)
   ·rw [if_neg h0]
    have n0:x.2≠0:=fun h=>h0 (.inl h)
    have n1:lZ x.2=true:=by
     cases h:lZ x.2
     ·exact absurd (.inr h) h0
     ·rfl
    by_cases hc:∃ q,p=some q∧0≤aK q x.1
    ·rw [if_pos hc]
     constructor
     ·intro h; omega
     ·rintro ⟨_,_,h⟩
      obtain ⟨q,e,hq⟩:=hc
      have:=h q e x (by simp)
      omega
    ·rw [if_neg hc,ih]
     have hc':∀ q,p=some q→aK q x.1<0:=fun q e=>by
      by_cases h:0≤aK q x.1
      ·exact absurd ⟨q,e,h⟩ hc
      ·omega
     constructor
     ·rintro ⟨h1,h2,h3⟩
      have h3:=h3 x.1 rfl
      refine ⟨?_,List.pairwise_cons.2 ⟨h3,h2⟩,?_⟩
      ·intro y hy
       rcases List.mem_cons.1 hy with rfl | hy
       ·exact ⟨hw,n0,n1⟩
       ·exact h1 y hy
      ·intro q e y hy
       rcases List.mem_cons.1 hy with rfl | hy
       ·exact hc' q e
       ·exact dz (hc' q e) (by have:=h3 y hy; omega)
     ·rintro ⟨h1,h2,h3⟩
      have p:=List.pairwise_cons.1 h2
      exact ⟨fun y hy=>h1 y (by simp [hy]),p.2,fun q e y hy=>by injection e with e; subst e; exact p.1 y hy⟩
  ·rw [if_neg hw]
   constructor
   ·intro h; exact absurd h hw
   ·rintro ⟨h,_⟩; exact (h x (by simp)).1
theorem cF (l:List Zp):aR l=0↔l.length≤400∧(∀ x ∈ l,ba x.1=0∧x.2≠0∧lZ x.2=true)∧iH l:=by
 unfold aR;by_cases h:400<l.length
 ·rw [if_pos h];constructor
  ·intro h; omega
  ·rintro ⟨h',_⟩; omega
 ·rw [if_neg h,Au];constructor
  ·rintro ⟨h1,h2,_⟩; exact ⟨by omega,h1,h2⟩
  ·rintro ⟨_,h1,h2⟩; exact ⟨h1,h2,fun q e=>by cases e⟩
def mn (f:Int→Int) (l:List Zp):List Zp:=if aR l=0 then aM f l else []
theorem lX (g:Nat) (cb:Array Value) (f:Int→Int) (a:Option Addr) (cap:Nat) (l:List Zp) (w:World) (h:bc w a l)
  (eg:∀ args w,(callFunc g args).run Tryz.prog w = .ok (.enter g args) w) (hm:∀ W,sm g cb f W) :
  Calls Tryz.prog 80 #[.slice a l.length cap,.func (.func g) #[] cb] w fun e w'=>∃ v,e = .returned (.tuple #[v,.int .i64 (aR l)])∧dH w.heap.size w' v (mn f l)∧Below w.heap.size w w':=by
 by_cases hw:aR l=0
 ·have hok:=(cF l).1 hw;have e:mn f l=aM f l:=by simp [mn,hw]
  rw [e];have Hw:=aw hw;clear hw e;go_enter Tryz.func80,Tryz.ntmps80;go_wp2_with fail
  refine (eN _ _ _ _ h).mono ?_;rintro e w1 ⟨rfl,hb1⟩;rw [Hw.out];go_wp2_with fail
  refine (mx g cb f a cap l w1 (h.next hb1) eg (hm _) (by omega) (fun x hx=>((dL _).1 (hok.2.1 x hx).1).1) (fun x hx=>(hok.2.1 x hx).2.2)).mono ?_;rintro e w2 ⟨v,rfl,O2,hb2⟩;have O2':=O2.mono hb1.size;obtain ⟨a1,c1,rfl,z1⟩:=O2.zs;go_wp2
  exact Me (v:=.tuple #[.slice a1 (aM f l).length c1,.int .i64 0]) (by simp [results,Tryz.results80,go_sem]) rfl ⟨_,by rw [Hw.out],O2',cB hb1 hb2⟩
 ·have e:mn f l = []:=by simp [mn,hw]
  rw [e];have hne:(aR l != 0)=true:=by simpa using hw
  go_enter Tryz.func80,Tryz.ntmps80;go_wp2_with fail
  refine (eN _ _ _ _ h).mono ?_;rintro e w1 ⟨rfl,hb1⟩;go_wp2
  exact Me (v:=.tuple #[.slice none 0 0,.int .i64 (aR l)]) (by simp [results,Tryz.results80,go_sem]) rfl ⟨_,rfl,cY _ _,hb1⟩
theorem Ly:∀ args w,(callFunc 81 args).run Tryz.prog w = .ok (.enter 81 args) w:=enters_of Tryz.func81 (by kernel_rfl) rfl
theorem Lu:∀ args w,(callFunc 82 args).run Tryz.prog w = .ok (.enter 82 args) w:=enters_of Tryz.func82 (by kernel_rfl) rfl
def iV (w:Int):Int:=if w<0 then 0 else w
def iv (w:Int):Int:=if 0<w then 1 else 0
theorem Hq (w:World):sm 81 #[] iV w:=by
 intro x W hx _;have hx:=(jb _).1 hx;show Calls Tryz.prog 81 #[.int .i64 x] W _;by_cases h:x<0
 ·have e:iV x=0:=by simp [iV,h]
  rw [e];go_enter Tryz.func81,Tryz.ntmps81;go_wp2
  go_ret;exact ⟨aN (by omega),Md _ _⟩
 ·have e:iV x=x:=by simp [iV,h]
  rw [e];go_enter Tryz.func81,Tryz.ntmps81;go_wp2
  go_ret;exact ⟨aN (by omega),Md _ _⟩
theorem Jb (w:World):sm 82 #[] iv w:=by
 intro x W hx _;have hx:=(jb _).1 hx;show Calls Tryz.prog 82 #[.int .i64 x] W _;by_cases h:0<x
 ·have e:iv x=1:=by simp [iv,h]
  rw [e];go_enter Tryz.func82,Tryz.ntmps82;go_wp2
  go_ret;exact ⟨aN (by omega),Md _ _⟩
 ·have e:iv x=0:=by simp [iv,h]
  rw [e];go_enter Tryz.func82,Tryz.ntmps82;go_wp2
  go_ret;exact ⟨aN (by omega),Md _ _⟩
theorem wK (a:Option Addr) (cap:Nat) (l:List Zp) (w:World) (h:bc w a l) :
  Calls Tryz.prog 50 #[.slice a l.length cap] w fun e w'=>∃ v,e = .returned (.tuple #[v,.int .i64 (aR l)])∧dH w.heap.size w' v (mn iV l)∧Below w.heap.size w w':=by
 go_enter Tryz.func50,Tryz.ntmps50;go_wp2_with fail
 refine (lX 81 #[] iV a cap l w h Ly Hq).mono ?_;rintro e w1 ⟨v,rfl,O1,hb1⟩;obtain ⟨a1,c1,rfl,z1⟩:=O1.zs;go_wp2
 exact Me (v:=.tuple #[.slice a1 (mn iV l).length c1,.int .i64 (aR l)]) (by simp [results,Tryz.results50,go_sem]) rfl ⟨_,rfl,O1,hb1⟩
theorem uY (a:Option Addr) (cap:Nat) (l:List Zp) (w:World) (h:bc w a l) :
  Calls Tryz.prog 51 #[.slice a l.length cap] w fun e w'=>∃ v,e = .returned (.tuple #[v,.int .i64 (aR l)])∧dH w.heap.size w' v (mn iv l)∧Below w.heap.size w w':=by
 go_enter Tryz.func51,Tryz.ntmps51;go_wp2_with fail
 refine (lX 82 #[] iv a cap l w h Lu Jb).mono ?_;rintro e w1 ⟨v,rfl,O1,hb1⟩;obtain ⟨a1,c1,rfl,z1⟩:=O1.zs;go_wp2
 exact Me (v:=.tuple #[.slice a1 (mn iv l).length c1,.int .i64 (aR l)]) (by simp [results,Tryz.results51,go_sem]) rfl ⟨_,rfl,O1,hb1⟩
theorem G3 (w:World) (k n:Int) (s:ByteArray) :
  (binOp .neq 24 (.agg #[.int .i64 k,.int .i64 n,.string s]) (.agg #[.int .i64 k,.int .i64 n,.string s])).run Tryz.prog w = .ok (.bool false) w:=by
 rw [run_neq_struct,run_equalIn_struct w 9999 24 _ _ (by kernel_rfl) (by kernel_rfl)];simp [Program.fieldsOf,Tryz.underlying24,go_sem]
theorem G2 (a a':Option Addr) (cap cap':Nat) (z:List Zp) (w:World) (h:bc w a z) (h':bc w a' z) :
  Calls Tryz.prog 8 #[.slice a z.length cap,.slice a' z.length cap'] w fun e w'=>e = .returned (.bool true)∧Below w.heap.size w w':=by
 have hl:=h.1;unfold maxLen at hl;go_enter Tryz.func8,Tryz.ntmps8;go_wp2_with fail
 go_loopw [14] (fun i wr=>∃ k:Nat,k≤z.length∧i = .int .i64 k∧Below w.heap.size w wr) (fun i _=>z.length - (intOf i).toNat)
 case atStart=>exact ⟨0,Mj _,rfl,Md _ _⟩
 case round =>
  obtain ⟨k,hk,rfl,hb⟩:=hrel;by_cases hlt:k<z.length
  ·obtain ⟨b,off,rfl,hbl,c1,ar,cr,c0,sr⟩:=(h.next hb).elem hlt;obtain ⟨b',off',rfl,hbl',d1,br,dr,d0,tr⟩:=(h'.next hb).elem hlt;have i0:(0:Int)≤(k:Int):=by omega
   have i1:(k:Int)<(z.length:Int):=by omega
   have p0:=aq c0;have p1:=aq c1;have p2:=aq d0;have p3:=aq d1;haveI:Nonempty (dG wr):=⟨⟨wr,Md _ _⟩⟩
   go_wp2_with fail
   refine aI (by kernel_rfl) (by kernel_rfl) ?_
   repeat (go_big_quiet_step (fail))
   refine wpQuiet_nil ?_;rintro w2 ⟨⟨v2,hb2⟩,h2⟩;obtain rfl:w2=v2:=h2;have q0:=(hb2.cell (p:=⟨b,_,none⟩) hbl).trans c0;have q2:=(hb2.cell (p:=⟨b',_,none⟩) hbl').trans d0;have sr2:=sr.next hb2;have tr2:=tr.next hb2;have hb2':=cB hb hb2;have hbl2:=Mh hbl hb2.size;have hbl2':=Mh hbl' hb2.size;have hrl:=sr.1;unfold maxLen at hrl;clear p0 p1 p2 p3 c0 c1 d0 d1 sr tr;go_wp2_with fail
   go_loopw [49] (fun i ws=>∃ j:Nat,j≤z[k].1.length∧i = .int .i64 j∧Below w2.heap.size w2 ws) (fun i _=>z[k].1.length - (intOf i).toNat)
   case atStart=>exact ⟨0,Mj _,rfl,Md _ _⟩
   case round =>
    obtain ⟨j,hj,rfl,hs⟩:=hrel;by_cases hjl:j<z[k].1.length
    ·obtain ⟨x,xo,rfl,xl,x0,x1,x2⟩:=(sr2.next hs).elem hjl;obtain ⟨y,yo,rfl,yl,y0,y1,y2⟩:=(tr2.next hs).elem hjl;have r0:=aq ((hs.cell (p:=⟨b,_,none⟩) hbl2).trans q0);have r2:=aq ((hs.cell (p:=⟨b',_,none⟩) hbl2').trans q2);have j0:(0:Int)≤(j:Int):=by omega
     have j1:(j:Int)<(z[k].1.length:Int):=by omega
     have s0:=aq x0;have s1:=aq x1;have s2:=aq x2;have s3:=aq y0;have s4:=aq y1;have s5:=aq y2;have ev:=fun w'=>G3 w' z[k].1[j].1 z[k].1[j].2.1 z[k].1[j].2.2
     haveI:Nonempty (dG wr):=⟨⟨wr,Md _ _⟩⟩
     go_wp2_with fail
     refine aI (by kernel_rfl) (by kernel_rfl) ?_
     repeat (go_big_quiet_step (fail))
     refine wpQuiet_nil ?_;rintro w3 ⟨⟨v3,hb3⟩,h3⟩;obtain rfl:w3=v3:=h3;go_wp2
     go_roundw
     case rel=>exact ⟨j+1,by omega,by go_num,cB hs hb3⟩
     case measure=>simp [intOf]; omega
    ·go_wp2
     go_roundw
     case rel=>exact ⟨k+1,by omega,by go_num,cB hb2' hs⟩
     case measure=>simp [intOf]; omega
  ·go_wp2
   go_ret;exact ⟨rfl,hb⟩
theorem xu (r:List Vl) (w:Int):∀ z:List Zp,∀ y ∈ gO z r w,y ∈ z∨y.1=bz r
 | []=>by
  unfold gO
  split
  ·simp
  ·intro y hy; simp at hy; subst hy; exact .inr rfl
 | x :: t=>by
  have ih:=xu r w t
  unfold gO
  split
  ·intro y hy
   rcases List.mem_cons.1 hy with rfl | hy
   ·exact .inl (by simp)
   ·rcases ih y hy with h | h
    ·exact .inl (by simp [h])
    ·exact .inr h
  ·split
   ·split
    ·intro y hy; exact .inl (by simp [hy])
    ·intro y hy
     rcases List.mem_cons.1 hy with rfl | hy
     ·exact .inr rfl
     ·exact .inl (by simp [hy])
   ·split
    ·intro y hy; exact .inl hy
    ·intro y hy
     rcases List.mem_cons.1 hy with rfl | hy
     ·exact .inr rfl
     ·exact .inl hy
theorem xY (l:List Zp):∀ z:List Zp,∀ y ∈ l.foldl (fun z x=>gO z x.1 x.2) z,y ∈ z∨∃ x ∈ l,y.1=bz x.1:=by
 induction l with
 | nil=>intro z y hy; exact .inl hy
 | cons x r ih =>
  intro z y hy;rcases ih _ y hy with h | ⟨u,hu,e⟩
  ·rcases xu _ _ _ y h with h | h
   ·exact .inl h
   ·exact .inr ⟨x,by simp,h⟩
  ·exact .inr ⟨u,by simp [hu],e⟩
theorem sW (l:List Zp):∀ y ∈ canon l,∃ x ∈ l,y.1=bz x.1:=fun y hy=>by
 rcases xY l [] y hy with h | h
 ·cases h
 ·exact h
theorem wO {l t:List Zp} (h:∀ q,wt l q=wt t q):canon l=canon t :=
 gL _ _ (dO l) (dO t) fun q=>by rw [cP,cP,h]
theorem Cq {l:List Zp} (h:bh l=0):mN (canon l)=false∧(canon l).length≤400:=by
 unfold bh at h;by_cases h1:mN (canon l)=true
 ·rw [if_pos h1] at h; omega
 ·rw [if_neg h1] at h;by_cases h2:400<(canon l).length
  ·rw [if_pos h2] at h; omega
  ·exact ⟨by simpa using h1,by omega⟩
theorem II {z:List Zp} (h:mN z=false):∀ x ∈ z,lZ x.2=true:=by
 unfold mN at h;rw [List.any_eq_false] at h;intro x hx
 simpa using h x hx
theorem wU {l:List Zp} (hr:∀ x ∈ l,ba x.1=0) (h:bh l=0):aR (canon l)=0:=by
 obtain ⟨h1,h2⟩:=Cq h;refine (cF _).2 ⟨h2,fun y hy=>?_,(dO l).gZ⟩;obtain ⟨x,hx,e⟩:=sW l y hy;refine ⟨?_,(dO l).ne y hy,II h1 y hy⟩;rw [e,lT];exact hr x hx
end Go.Proofs.YtjebpkhkjkjphaaGreat
namespace Go.Proofs.YtjebpkhkjkjphaaGreat
set_option maxRecDepth 100000
set_option maxHeartbeats 16000000
def cH (af:List Int) (x:Ex):Int:=if (an af x).2≠0 then (an af x).2 else if (an af x).1≠2∧(an af x).1≠1 then 9 else 0
def ic (af:List Int):List Zp→Int
 | []=>0
 | x :: r=>if fP af x.1=0 then ic af r else fP af x.1
def cz (af:List Int) (z:List Zp):Int:=if 8<af.length then 5 else if aR z≠0 then aR z else ic af z
def dJ (af:List Int):List Ex→Int
 | []=>0
 | x :: r=>if (an af x).2=0 then dJ af r else (an af x).2
def bU (af:List Int) (xs:List Ex):Int:=if 8<xs.length then 5 else dJ af xs
theorem BJ (af:List Int) (z:List Zp) (k:Nat) (h:z.length≤k):ic af (z.drop k)=0:=by rw [MG h]; rfl
theorem Cy (af:List Int) (z:List Zp) (k:Nat) (h:k<z.length) (e:¬ fP af z[k].1=0):ic af (z.drop k)=fP af z[k].1:=by
 rw [Mi h,ic,if_neg e]
theorem zG (af:List Int) (z:List Zp) (k:Nat) (h:k<z.length) (e:fP af z[k].1=0):ic af (z.drop k)=ic af (z.drop (k+1)):=by
 rw [Mi h,ic,if_pos e]
theorem zI (af:List Int) (z:List Ex) (k:Nat) (h:z.length≤k):dJ af (z.drop k)=0:=by rw [MG h]; rfl
theorem yz (af:List Int) (z:List Ex) (k:Nat) (h:k<z.length) (e:¬ (an af z[k]).2=0):dJ af (z.drop k)=(an af z[k]).2:=by
 rw [Mi h,dJ,if_neg e]
theorem vK (af:List Int) (z:List Ex) (k:Nat) (h:k<z.length) (e:(an af z[k]).2=0):dJ af (z.drop k)=dJ af (z.drop (k+1)):=by
 rw [Mi h,dJ,if_pos e]
theorem uJ (af:List Int):∀ z:List Zp,ic af z=0↔∀ x ∈ z,fM af x.1
 | []=>by simp [ic]
 | x :: r=>by
  have ih:=uJ af r
  rw [ic]
  by_cases h:fP af x.1=0
  ·rw [if_pos h,ih]
   simp [(vh af x.1).1 h]
  ·rw [if_neg h]
   constructor
   ·intro e; exact absurd e h
   ·intro e; exact absurd ((vh af x.1).2 (e x (by simp))) h
theorem sf (af:List Int):∀ z:List Ex,dJ af z=0↔∀ x ∈ z,(an af x).2=0
 | []=>by simp [dJ]
 | x :: r=>by
  have ih:=sf af r
  rw [dJ]
  by_cases h:(an af x).2=0
  ·rw [if_pos h,ih]
   simp [h]
  ·rw [if_neg h]
   simp [h]
structure kj (af:List Int) (z:List Zp):Prop where
 qA:af.length≤8
 set:aR z=0
 fit:∀ x ∈ z,fM af x.1
theorem gN (af:List Int) (z:List Zp):cz af z=0↔kj af z:=by
 unfold cz;by_cases h8:8<af.length
 ·rw [if_pos h8];constructor
  ·intro h; omega
  ·rintro ⟨h,_,_⟩; omega
 ·rw [if_neg h8];by_cases hw:aR z=0
  ·rw [if_neg (by simpa using hw),uJ];exact ⟨fun h=>⟨by omega,hw,h⟩,fun h=>h.fit⟩
  ·rw [if_pos (by simpa using hw)];exact ⟨fun h=>absurd h hw,fun h=>h.set⟩
theorem EE {af:List Int} {x:Ex} (h:cH af x=0):(an af x).2=0∧((an af x).1=1∨(an af x).1=2):=by
 unfold cH at h;by_cases h1:(an af x).2=0
 ·rw [if_neg (by simpa using h1)] at h;by_cases h2:(an af x).1≠2∧(an af x).1≠1
  ·rw [if_pos h2] at h; omega
  ·exact ⟨h1,by omega⟩
 ·rw [if_pos h1] at h;exact absurd h h1
theorem FA {af:List Int} {x:Ex} (h:(an af x).2=0):kt af x=some (an af x).1:=((qS af x).1 h).ty
theorem sO (row:List Vl) (i:Nat):bF (row.getD i eD)=(bz row).getD i eD:=by
 simp only [bz,List.getD,List.getElem?_map];cases row[i]? <;> rfl
theorem Bu (row row':List Vl) (h:bz row=bz row'):∀ x,aW row x=aW row' x:=by
 refine Ex.ind fun k v c ks ih=>?_
 have e:jB row ks=jB row' ks:=by
  rw [cV,cV];exact MN ih
 rw [aW,aW,e];unfold gh;rw [sO,sO,h]
theorem Cr {row row':List Vl} (h:aK row row'=0) (x:Ex):aW row x=aW row' x:=Bu row row' (kS h) x
def ax (x:Ex) (row:List Vl):Bool:=kH (aW row x) == some true
def fj (xs:List Ex) (row:List Vl):List Vl:=xs.map (aW row)
theorem fK {row row':List Vl} (h:aK row row'=0) (x:Ex):ax x row=ax x row':=by unfold ax; rw [Cr h]
theorem lp {a a' b b':List Vl} (h:aK a a'=0) (k:aK b b'=0):aK (a ++ b) (a' ++ b')=0:=by
 have e:bz (a ++ b)=bz (a' ++ b'):=by
  have h1:=kS h;have h2:=kS k;unfold bz at *;rw [M7,M7,h1,h2]
 rw [← cI,← iJ,e];exact fO _
def gS (g:List Vl→Int):List Zp→Int
 | []=>0
 | x :: r=>g x.1*x.2+gS g r
def uz {β:Type} (g:List Vl→β):Prop:=∀ a b,aK a b=0→g a=g b
theorem AD {g:List Vl→Int} (hg:uz g) (r:List Vl) (w:Int):∀ z:List Zp,gS g (gO z r w)=gS g z+g r*w
 | []=>by
  have e:g (bz r)=g r:=hg _ _ (by rw [cI]; exact fO r)
  unfold gO
  split
  ·rename_i h; subst h; simp [gS]
  ·simp [gS,e]
 | x :: t=>by
  have ih:=AD hg r w t
  have e:g (bz r)=g r:=hg _ _ (by rw [cI]; exact fO r)
  unfold gO
  split
  ·rw [gS,ih,gS]; omega
  ·split
   ·rename_i c
    have e2:g x.1=g r:=hg _ _ c
    split
    ·rename_i h0
     rw [gS,e2]
     have:g r*(w+x.2)=0:=by rw [h0,Int.mul_zero]
     rw [Int.mul_add] at this
     omega
    ·rw [gS,gS,e,e2,Int.mul_add]
     omega
   ·split
    ·rename_i h0; subst h0; simp
    ·simp only [gS,e]; omega
theorem xP {g:List Vl→Int} (hg:uz g) (l:List Zp):∀ z:List Zp,gS g (l.foldl (fun z x=>gO z x.1 x.2) z)=gS g z+gS g l:=by
 induction l with
 | nil=>intro z; simp [gS]
 | cons x r ih=>intro z; rw [Nl,ih,AD hg,gS]; omega
theorem rZ {g:List Vl→Int} (hg:uz g) (l:List Zp):gS g (canon l)=gS g l:=by
 unfold canon;rw [xP hg];simp [gS]
theorem ju {g g':List Vl→Int} {l:List Zp} (h:∀ x ∈ l,g x.1=g' x.1):gS g l=gS g' l:=by
 induction l with
 | nil=>rfl
 | cons x r ih=>rw [gS,gS,h x (by simp),ih (fun y hy=>h y (by simp [hy]))]
theorem jt (l:List Zp):gS (fun _=>0) l=0:=by
 induction l with
 | nil=>rfl
 | cons x r ih=>rw [gS,ih]; simp
theorem Ib {a b:List Zp} (h:∀ q,wt a q=wt b q) {g:List Vl→Int} (hg:uz g):gS g a=gS g b:=by
 rw [← rZ hg a,← rZ hg b,wO h]
def kZ (x:Ex) (z:List Zp):List Zp:=z.filter fun p=>ax x p.1
def nd (xs:List Ex) (z:List Zp):List Zp:=z.map fun p=>(fj xs p.1,p.2)
theorem gM (p:List Vl→Bool) (hp:uz p) (q:List Vl) (l:List Zp):wt (l.filter fun x=>p x.1) q=if p q then wt l q else 0:=by
 induction l with
 | nil=>simp [wt]
 | cons x r ih =>
  rw [List.filter_cons];by_cases c:aK x.1 q=0
  ·have e:=hp _ _ c;by_cases h:p x.1=true
   ·rw [if_pos h,wt,wt,ih];rw [e] at h;rw [if_pos h,if_pos h]
   ·rw [if_neg h,ih];rw [e] at h;rw [if_neg h,if_neg h]
  ·by_cases h:p x.1=true
   ·rw [if_pos h,wt,if_neg c,ih,wt,if_neg c]; simp
   ·rw [if_neg h,ih,wt,if_neg c]; simp
theorem iR (x:Ex):uz (ax x):=fun _ _ h=>fK h x
theorem xH {l:List Zp} (h:iH l):canon l=aM (fun w=>w) l :=
 (wu (jR _ _ h) fun q=>ei (fun w=>w) rfl q l h).symm
theorem zJ {z l:List Zp} (hz:aR z=0) (hl:l.Sublist z):bh l=0:=by
 obtain ⟨h1,h2,h3⟩:=(cF z).1 hz;have hr:iH l:=h3.sublist hl;have e:=xH hr;have o:mN (canon l)=false:=by
  rw [e,mu];exact Bd fun j hj=>(h2 _ (hl.subset (Mk hj))).2.2
 have n:(canon l).length≤400:=by
  rw [e];have:=my (fun w=>w) l;have:=hl.length_le;omega
 unfold bh;rw [o,if_neg (by decide),if_neg (by omega)]
theorem wH {z:List Zp} (hz:aR z=0) (p:Zp→Bool):bh (z.filter p)=0:=zJ hz List.filter_sublist
def gz (af:List Int) (x:Ex) (z:List Zp):Int:=if cH af x≠0 then cH af x else if cz af z≠0 then cz af z else 0
def lY (af:List Int) (x:Ex) (z:List Zp):List Zp:=if gz af x z=0 then canon (kZ x z) else []
def lq (af:List Int) (xs:List Ex) (z:List Zp):Int:=if bU af xs≠0 then bU af xs else if cz af z≠0 then cz af z else bh (nd xs z)
def ui (af:List Int) (xs:List Ex) (z:List Zp):List Zp:=if lq af xs z=0 then canon (nd xs z) else []
theorem vf {af:List Int} {x:Ex} {z:List Zp} (h:gz af x z=0):cH af x=0∧kj af z:=by
 unfold gz at h;by_cases h1:cH af x=0
 ·rw [if_neg (by simpa using h1)] at h;by_cases h2:cz af z=0
  ·exact ⟨h1,(gN _ _).1 h2⟩
  ·rw [if_pos h2] at h; exact absurd h h2
 ·rw [if_pos h1] at h; exact absurd h h1
theorem wR {af:List Int} {xs:List Ex} (h:bU af xs=0):xs.length≤8∧∀ x ∈ xs,(an af x).2=0:=by
 unfold bU at h;by_cases h8:8<xs.length
 ·rw [if_pos h8] at h; omega
 ·rw [if_neg h8,sf] at h;exact ⟨by omega,h⟩
theorem sZ (x y:Ex) (row:List Vl):ax (tV 4 x y) row=(ax x row && ax y row):=by
 unfold ax;rw [Iz row (by omega) (by omega)];show (kH (om (Je _ _)) == some true)=_;rcases h1:kH (aW row x) with _ | _ | _ <;> rcases h2:kH (aW row y) with _ | _ | _ <;> rfl
end Go.Proofs.YtjebpkhkjkjphaaGreat
namespace Go.Proofs.YtjebpkhkjkjphaaGreat
open Go.RowKit
set_option maxRecDepth 100000
set_option maxHeartbeats 16000000
theorem iG (af:List Int) (x:Ex) (ca:Option Addr) (ccap:Nat) (a:Option Addr) (cap:Nat) (w:World) (hk:aX w.heap.size w a x.ks) (hc:bG w.heap.size w ca af) (h0:(an af x).2=0) :
  Calls Tryz.prog 108 #[.slice ca af.length ccap,iU x.k x.v x.c a x.ks.length cap] w fun e w'=>∃ u,e = .returned (.tuple #[.int .i64 (an af x).1,u,.int .i64 0])∧gr af w.heap.size u (fun row=>aW row x) w'∧Below w.heap.size w w':=by
 have S0:=jP.new w x.k x.v x.c a x.ks.length cap 27;have hal:=aa w (.cells (fS x a cap) 27);have z1:(w.alloc (.cells (fS x a cap) 27)).heap.size=w.heap.size+1:=by simp
 have con:=mF af x ca ccap a cap _ ((aX.next hal (Mc _) hk).up hal.size) ((hc.next hal (Mc _)).up hal.size);have ra:=Dw af x _ (FA h0);rw [h0] at con;generalize (an af x).1=t at *;go_enter Tryz.func108,Tryz.ntmps108;go_wp2_with fail
 generalize w.alloc (.cells (fS x a cap) 27)=w1 at *;refine con.mono ?_;rintro e w2 ⟨rfl,hb2⟩;have hA:=chain hal hb2;obtain ⟨s0,s1,s2,s3,s4,s5⟩:=S0.next hb2 (by omega);simp only [Mq] at s1 s2 s3 s4 s5;have con2:=ra w.heap.size a cap w2 (aX.next hA (Mc _) hk) hA.size;clear con ra S0;go_wp2_with fail
 refine con2.mono ?_;rintro e w3 ⟨u,rfl,hA3,hb3⟩;clear s0 s1 s2 s3 s4 s5 con2;obtain ⟨g,cb,rfl⟩:∃ g cb,u = .func (.func g) #[] cb:=by obtain ⟨g,cb,e,_⟩:=hA3; exact ⟨g,cb,e⟩
 go_wp2
 exact Me (v:=.tuple #[.int .i64 t,.func (.func g) #[] cb,.int .i64 0]) (by simp [results,Tryz.results108,go_sem]) rfl ⟨_,rfl,hA3.down hA.size,chain hA hb3⟩
theorem kI (af:List Int) (x:Ex) (ca:Option Addr) (ccap:Nat) (a:Option Addr) (cap:Nat) (w:World) (hk:aX w.heap.size w a x.ks) (hc:bG w.heap.size w ca af) (h0:¬ (an af x).2=0) :
  Calls Tryz.prog 108 #[.slice ca af.length ccap,iU x.k x.v x.c a x.ks.length cap] w fun e w'=>e = .returned (.tuple #[.int .i64 0,.nilFunc,.int .i64 (an af x).2])∧Below w.heap.size w w':=by
 have hal:=aa w (.cells (fS x a cap) 27);have con:=mF af x ca ccap a cap _ ((aX.next hal (Mc _) hk).up hal.size) ((hc.next hal (Mc _)).up hal.size);have q:((an af x).2 != 0)=true:=by simpa using h0
 generalize (an af x).1=t at *;generalize (an af x).2=t2 at *;go_enter Tryz.func108,Tryz.ntmps108;go_wp2_with fail
 generalize w.alloc (.cells (fS x a cap) 27)=w1 at *;refine con.mono ?_;rintro e w2 ⟨rfl,hb2⟩;have hA:=chain hal hb2;clear con;go_wp2
 exact Me (v:=.tuple #[.int .i64 0,.nilFunc,.int .i64 t2]) (by simp [results,Tryz.results108,go_sem]) rfl ⟨rfl,hA⟩
def ki (af:List Int) (lo:Nat) (u:Value) (x:Ex) (w:World):Prop :=
 ∃ g cb,u = .func (.func g) #[] cb∧(∀ args w,(callFunc g args).run Tryz.prog w = .ok (.enter g args) w) ∧
  ∀ (row:List Vl) (a:Option Addr) (cap:Nat) (W:World),fM af row→bg W a row→Since lo w W →
   Calls Tryz.prog g (#[.slice a row.length cap] ++ cb) W fun e w'=>e = .returned (.bool (ax x row))∧Below W.heap.size W w'
theorem ki.next {af:List Int} {lo:Nat} {u:Value} {x:Ex} {w w1:World} (h:ki af lo u x w) (hb:Since lo w w1):ki af lo u x w1:=by
 obtain ⟨g,cb,e,eg,hd⟩:=h;exact ⟨g,cb,e,eg,fun row a cap W hf hs hW=>hd row a cap W hf hs (hb.trans hW)⟩
theorem ki.down {af:List Int} {lo lo':Nat} {u:Value} {x:Ex} {w:World} (h:ki af lo u x w) (hl:lo'≤lo):ki af lo' u x w:=by
 obtain ⟨g,cb,e,eg,hd⟩:=h;exact ⟨g,cb,e,eg,fun row a cap W hf hs hW=>hd row a cap W hf hs (hW.up hl)⟩
theorem Ep (af:List Int) (lo:Nat) (x:Ex) (u:Value) (b:Nat) (a:Option Addr) (row:List Vl) (cap:Nat) (W:World) (h0:W.cell? ⟨b,0,none⟩=some u) (hA:gr af lo u (fun row=>aW row x) W) (hf:fM af row) (hs:bg W a row) :
  Calls Tryz.prog 109 #[.slice a row.length cap,.pointer (some ⟨b,0,none⟩)] W fun e w'=>e = .returned (.bool (ax x row))∧Below W.heap.size W w':=by
 obtain ⟨g,cb,rfl,eg,d⟩:=hA;have d:=d row a cap W hf hs (Since.refl _ _);dsimp only at d;unfold ax;generalize aW row x=v at *;show Calls _ _ _ _ fun e w'=>e = .returned (.bool (cls v.1 v.2.1 == some true))∧_
 go_enter Tryz.func109,Tryz.ntmps109;go_wp2_with (go_at_fn g; refine d.mono ?_; rintro e w1 ⟨rfl,hb1⟩)
 refine (dW _ _ _ _).mono ?_;rintro e w2 ⟨rfl,hb2⟩;go_wp2
 go_ret;exact ⟨rfl,chain hb1 hb2⟩
theorem rX (af:List Int) (x:Ex) (ca:Option Addr) (ccap:Nat) (a:Option Addr) (cap:Nat) (w:World) (hk:aX w.heap.size w a x.ks) (hc:bG w.heap.size w ca af) (h:cH af x=0) :
  Calls Tryz.prog 76 #[.slice ca af.length ccap,iU x.k x.v x.c a x.ks.length cap] w fun e w'=>∃ u,e = .returned (.tuple #[u,.int .i64 0])∧ki af w.heap.size u x w'∧Below w.heap.size w w':=by
 obtain ⟨h0,ht⟩:=EE h;have S0:=jP.new w x.k x.v x.c a x.ks.length cap 27;have hal:=aa w (.cells (fS x a cap) 27);have con:=iG af x ca ccap a cap _ ((aX.next hal (Mc _) hk).up hal.size) ((hc.next hal (Mc _)).up hal.size) h0;clear h h0;generalize (an af x).1=t at *;go_enter Tryz.func76,Tryz.ntmps76;go_wp2_with fail
 generalize w.alloc (.cells (fS x a cap) 27)=w1 at *;refine con.mono ?_;rintro e w2 ⟨u,rfl,hA2,hb2⟩;have hA:=chain hal hb2;clear con S0;have hA2:=hA2.down hal.size;obtain ⟨g,cb,rfl⟩:∃ g cb,u = .func (.func g) #[] cb:=by obtain ⟨g,cb,e,_⟩:=hA2; exact ⟨g,cb,e⟩
 have hal3:=aa w2 (.cells #[.func (.func g) #[] cb] 156);have fin:∀ W,Since w.heap.size (w2.alloc (.cells #[.func (.func g) #[] cb] 156)) W→∀ (row:List Vl) (a:Option Addr) (cap:Nat),fM af row→bg W a row→Calls Tryz.prog 109 #[.slice a row.length cap,.pointer (some ⟨w2.heap.size,0,none⟩)] W fun e w'=>e = .returned (.bool (ax x row))∧Below W.heap.size W w':=fun W hW row a cap hf hs =>
  Ep af w.heap.size x _ w2.heap.size a row cap W ((hW.cell (p:=⟨w2.heap.size,0,none⟩) hA.size (by simp)).trans (by simp)) ((hA2.next (Since.of hal3)).next hW) hf hs
 have HF:Hid _:=fin;clear fin hA2;rcases ht with rfl | rfl
 rotate_left
 all_goals
  go_wp2_with fail
  exact Me (v:=.tuple #[.func (.func 109) #[] #[.pointer (some ⟨w2.heap.size,0,none⟩)],.int .i64 0]) (by simp [results,Tryz.results76,go_sem]) rfl ⟨_,rfl,⟨109,_,rfl,enters_of Tryz.func109 (by kernel_rfl) rfl,fun row a cap W hf hs hW=>HF.out W hW row a cap hf hs⟩,chain hA hal3⟩
theorem qm (af:List Int) (x:Ex) (ca:Option Addr) (ccap:Nat) (a:Option Addr) (cap:Nat) (w:World) (hk:aX w.heap.size w a x.ks) (hc:bG w.heap.size w ca af) (h:¬ cH af x=0) :
  Calls Tryz.prog 76 #[.slice ca af.length ccap,iU x.k x.v x.c a x.ks.length cap] w fun e w'=>e = .returned (.tuple #[.nilFunc,.int .i64 (cH af x)])∧Below w.heap.size w w':=by
 have hal:=aa w (.cells (fS x a cap) 27);have hk':=(aX.next hal (Mc _) hk).up hal.size;have hc':=(hc.next hal (Mc _)).up hal.size;by_cases h0:(an af x).2=0
 ·have e:cH af x=9:=by
   unfold cH at h ⊢;rw [if_neg (by simpa using h0)] at h ⊢;by_cases q:(an af x).1≠2∧(an af x).1≠1
   ·rw [if_pos q]
   ·rw [if_neg q] at h; exact absurd rfl h
  have ht:¬ (an af x).1=2∧¬ (an af x).1=1:=by
   unfold cH at h;rw [if_neg (by simpa using h0)] at h;by_cases q:(an af x).1≠2∧(an af x).1≠1
   ·exact q
   ·rw [if_neg q] at h; exact absurd rfl h
  rw [e];have con:=iG af x ca ccap a cap _ hk' hc' h0;clear h h0 e;generalize (an af x).1=t at *;have t2:(t != 2)=true:=by simpa using ht.1
  have t1:(t != 1)=true:=by simpa using ht.2
  go_enter Tryz.func76,Tryz.ntmps76;go_wp2_with fail
  generalize w.alloc (.cells (fS x a cap) 27)=w1 at *;refine con.mono ?_;rintro e w2 ⟨u,rfl,hA2,hb2⟩;have hA:=chain hal hb2;clear con;obtain ⟨g,cb,rfl⟩:∃ g cb,u = .func (.func g) #[] cb:=by obtain ⟨g,cb,e,_⟩:=hA2; exact ⟨g,cb,e⟩
  have hal3:=aa w2 (.cells #[.func (.func g) #[] cb] 156);clear hA2;go_wp2
  exact Me (v:=.tuple #[.nilFunc,.int .i64 9]) (by simp [results,Tryz.results76,go_sem]) rfl ⟨rfl,chain hA hal3⟩
 ·have e:cH af x=(an af x).2:=by unfold cH; rw [if_pos h0]
  rw [e];have con:=kI af x ca ccap a cap _ hk' hc' h0;have q:((an af x).2 != 0)=true:=by simpa using h0
  clear h e h0;generalize (an af x).2=t2 at *;go_enter Tryz.func76,Tryz.ntmps76;go_wp2_with fail
  generalize w.alloc (.cells (fS x a cap) 27)=w1 at *;refine con.mono ?_;rintro e w2 ⟨rfl,hb2⟩;have hA:=chain hal hb2;have hal3:=aa w2 (.cells #[.nilFunc] 156);clear con;go_wp2
  exact Me (v:=.tuple #[.nilFunc,.int .i64 t2]) (by simp [results,Tryz.results76,go_sem]) rfl ⟨rfl,chain hA hal3⟩
end Go.Proofs.YtjebpkhkjkjphaaGreat
