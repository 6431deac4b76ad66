/- Together: Z7, Z8, Z9, ZA, Q1, K4, K5, Y7, K6. -/
import Derived.Shelf.SlSortCmp.NoneTotal
import Derived.Test.YtjebpkhkjkjphaaGreatM4
import Derived.Test.YtjebpkhkjkjphaaGreatM3
import Derived.Test.YtjebpkhkjkjphaaGreatM2
namespace Go.Proofs.YtjebpkhkjkjphaaGreat
open Go.RowKit Go.Lib Go.Shelf
set_option maxRecDepth 100000
set_option maxHeartbeats 16000000
theorem uM (m:Int) (hm:0≤m):∀ l:List Zp,(∀ x ∈ l,-m≤x.2∧x.2≤m)→∀ y ∈ bG l,-(m*l.length)≤y.2∧y.2≤m*l.length:=by
 refine oR (by simp [bG]) ?_;intro l x ih h y hy;have hx:=h x (by simp);have ih:=ih (fun u hu=>h u (by simp [hu]));rw [gp] at hy;have e:m*((l ++ [x]).length:Int)=m*l.length+m:=by
  simp only [Ii,List.length_singleton];rw [Int.natCast_add,Int.mul_add]; simp
 rw [e];have hp:0≤m*(l.length:Int):=Int.mul_nonneg hm (by omega);rcases List.eq_nil_or_concat (bG l) with e' | ⟨a,u,e'⟩
 ·rw [e',jQ] at hy;simp at hy; subst hy; omega
 ·rw [e',Jj,gm] at hy;have hu:=ih u (by rw [e']; simp)
  split at hy
  ·simp at hy;rcases hy with hy | rfl
   ·have:=ih y (by rw [e']; simp [hy]); omega
   ·simp only; omega
  ·rcases List.mem_append.1 hy with hy | hy
   ·have:=ih y (by rw [e',Jj]; exact hy); omega
   ·simp at hy; subst hy; omega
theorem sL {w:World} {d d':Array (Zg w)} {n:Nat} (hn:d.size=n) (hp:Go.Sort.PermIn 0 n d d') (hs:Go.Sort.SortedIn (ltOf (Fa w)) 0 n d') :
  d'.size=n∧(d'.toList.map (CS w)).Perm (d.toList.map (CS w))∧(d'.toList.map (CS w)).Pairwise fun x y=>aL x.1 y.1≤0:=by
 obtain ⟨h1,_,h3⟩:=hp;have e1:d'.size=n:=h1.trans hn;have x1:d'.extract 0 n=d':=by rw [← e1]; exact Array.extract_size
 have x2:d.extract 0 n=d:=by rw [← hn]; exact Array.extract_size
 rw [x1,x2] at h3;refine ⟨e1,h3.map _,?_⟩;rw [List.pairwise_map,List.pairwise_iff_getElem];intro i j hi hj hij;have hi':i<d'.size:=by simpa using hi
 have hj':j<d'.size:=by simpa using hj
 have:=of_decide_eq_false (hs i j (Hl _) hij (by omega));rw [getElem!_pos d' i hi',getElem!_pos d' j hj'] at this;simp only [IU,CS];simp only [Fa] at this;have n1:=aX d'[i].1.row d'[j].1.row;omega
def ku (W:World) (xs:List Value) (l:List Zp):Prop :=
 xs.length=l.length*2∧∀ (i:Nat) (h:i<l.length),∃ a cap,xs[i*2]? = some (.slice a l[i].1.length cap)∧xs[i*2+1]? = some (.int .i64 l[i].2)∧aY W a l[i].1
theorem ku.push {W:World} {xs:List Value} {l:List Zp} (h:ku W xs l) {a:Option Addr} {cap:Nat} {x:Zp} (hs:aY W a x.1):ku W (xs ++ [.slice a x.1.length cap,.int .i64 x.2]) (l ++ [x]):=by
 have lx:=h.1;refine ⟨by simp [lx]; omega,fun i hi=>?_⟩;by_cases hi':i<l.length
 ·obtain ⟨a',c',h1,h2,h3⟩:=h.2 i hi';refine ⟨a',c',?_,?_,?_⟩
  ·rw [Ia (by omega),h1,H7 hi']
  ·rw [Ia (by omega),h2,H7 hi']
  ·rw [H7 hi']; exact h3
 ·have:i=l.length:=by simp at hi; omega
  subst this;refine ⟨a,cap,?_,?_,?_⟩
  ·rw [H9 (by omega)]; simp [lx]
  ·rw [H9 (by omega)]; simp [lx]
  ·simpa using hs
theorem ku.last {W:World} {xs:List Value} {l:List Zp} {y:Zp} (h:ku W xs (l ++ [y])) (z:Int):ku W (xs.set (l.length*2+1) (.int .i64 z)) (l ++ [(y.1,z)]):=by
 have lx:=h.1;refine ⟨by simpa using lx,fun i hi=>?_⟩;have hi0:i<(l ++ [y]).length:=by simpa using hi
 obtain ⟨a',c',h1,h2,h3⟩:=h.2 i hi0;by_cases hi':i<l.length
 ·rw [H7 hi'] at h1 h2 h3 ⊢;refine ⟨a',c',?_,?_,h3⟩
  ·rw [Hv (by omega)]; exact h1
  ·rw [Hv (by omega)]; exact h2
 ·have:i=l.length:=by simp at hi; omega
  subst this;simp only [List.getElem_concat_length] at h1 h2 h3 ⊢;refine ⟨a',c',?_,?_,h3⟩
  ·rw [Hv (by omega)]; exact h1
  ·rw [List.getElem?_set_self (by rw [lx]; simp; omega)]
theorem pJ {W:World} {base n:Nat} {v:Value} {xs:List Value} (h:W.ownsRow base 63 2 v n xs):∃ a c,v = .slice a n c:=by
 obtain ⟨_,⟨rfl,h0⟩ | ⟨g,c1,cur,rfl,_⟩⟩:=h
 ·exact ⟨none,0,by rw [h0]⟩
 ·exact ⟨_,c1,rfl⟩
theorem nT {W:World} {base n:Nat} {v:Value} {xs:List Value} (h:W.ownsRow base 63 2 v n xs) (hn:0<n):∃ g c,v = .slice (some ⟨g,0,none⟩) n c∧base≤g∧g<W.heap.size:=by
 have h':=h;obtain ⟨_,⟨rfl,h0⟩ | ⟨g,c1,cur,rfl,hg,_⟩⟩:=h
 ·omega
 ·exact ⟨g,c1,rfl,hg,(h'.lt g rfl).2⟩
theorem wI {W w2:World} {base n:Nat} {v:Value} {xs:List Value} {l:List Zp} (h:W.ownsRow base 63 2 v n xs) (hn:n=l.length) (he:ku w2 xs l) (hb:Below w2.heap.size w2 W):∃ a cap,v = .slice a l.length cap∧bP W a l:=by
 subst hn;have h1':=h;obtain ⟨hx,h1 | ⟨g,cap,cur,e,hg,hh,hn,hc,hs,ht⟩⟩:=h
 ·obtain ⟨rfl,h0⟩:=h1;have:l = []:=Hs h0;subst this;exact ⟨none,0,rfl,Hl _,.inl rfl⟩
 ·subst e;refine ⟨_,cap,rfl,HJ hn hc,.inr ⟨g,0,rfl,(h1'.lt g rfl).2,?_⟩⟩;intro i hi;obtain ⟨a,cp,e0,e1,e2⟩:=he.2 i hi;refine ⟨?_,a,cp,?_,e2.next hb⟩
  ·rw [h1'.cellAt _ (by omega),← e1]; congr 1; omega
  ·rw [h1'.cellAt _ (by omega),← e0]; congr 1; omega
def mV (w2 wr:World) (v:Value) (acc:List Zp):Prop:=∃ xs,wr.ownsRow w2.heap.size 63 2 v acc.length xs∧ku w2 xs acc
theorem mV.next {w2 wr w3:World} {v:Value} {acc:List Zp} (h:mV w2 wr v acc) (hb:Below wr.heap.size wr w3):mV w2 w3 v acc:=by
 obtain ⟨xs,h1,h2⟩:=h;exact ⟨xs,bg h1 hb,h2⟩
theorem mV.last {w2 wr:World} {g c:Nat} {a:List Zp} {y:Zp} (h:mV w2 wr (.slice (some ⟨g,0,none⟩) (a.length+1) c) (a ++ [y])) (z:Int) :
  mV w2 (wr.setCell ⟨g,a.length*2+1,none⟩ (.int .i64 z)) (.slice (some ⟨g,0,none⟩) (a.length+1) c) (a ++ [(y.1,z)]):=by
 obtain ⟨xs,h1,h2⟩:=h;have e:(a ++ [y]).length=a.length+1:=by simp
 rw [e] at h1;refine ⟨_,?_,h2.last z⟩;have:=(h1.stored (a.length*2+1) (.int .i64 z)).1
 simpa using this
def pk (w:Int):Bool:=decide (-1000000000000≤w) && decide (w≤1000000000000)
theorem jE (x:Int):pk x=true ↔ -1000000000000≤x∧x≤1000000000000:=by simp [pk]
theorem nB (x:Int):ke x=true ↔ -1000000≤x∧x≤1000000:=by simp [ke]
theorem qH {x:Int} (h:ke x=true):pk x=true:=by
 rw [nB] at h;rw [jE];omega
theorem rV (a:Option Addr) (cap:Nat) (l:List Zp) (w:World) (h:bP w a l) (hl:l.length≤200000) (hn:0<l.length) (hw:∀ x ∈ l,pk x.2=true) :
  Calls Tryz.prog 44 #[.slice a l.length cap] w fun e w'=>∃ s a' c',e = .returned (.slice a' (bG s).length c')∧s.Perm l∧(s.Pairwise fun x y=>aL x.1 y.1≤0)∧bP w' a' (bG s)∧Below w.heap.size w w':=by
 obtain ⟨i0,hi,hj0,hj1,hj2⟩:=info_parts Tryz.i5;obtain ⟨d,hd,hdl,hc⟩:=h.arr;go_enter Tryz.func44,Tryz.ntmps44;go_wp2_with fail
 refine (sW a cap l w d hd (by omega) hc).mono ?_;rintro e w1 ⟨v,rfl,hown,hb1⟩;obtain ⟨g,c,rfl,hg,hgl⟩:=nT hown hn;have hH:=gI hd.symm hown;have hH:=gI hd.symm hown;have hH:=gI hd.symm hown;have hH:=gI hd.symm hown;have hH:=gI hd.symm hown;have con:=DF w w1 hb1 g 0 c hg d hH hgl (by omega);rw [hd] at con;have HN:Hid (0<l.length):=hn;clear hn hown hc;go_wp2_with fail
 refine con.mono ?_;clear con;rintro e w2 ⟨rfl,d',n,os,hp,hs,hw2⟩;obtain ⟨hd',hperm,hsort⟩:=sL hd hp hs;rw [hdl] at hperm;have hb2:Below w.heap.size w w2:=by rw [hw2]; exact eO hb1 hg
 have hgl2:g<w2.heap.size:=by
  rw [hw2];exact Hi hgl (size_sortWorldK_c (gT w) 2 w1 g 0 n d' os)
 have zs:bP w2 (some ⟨g,0,none⟩) (d'.toList.map (CS w)):=by
  refine yY hb2 ?_ hgl2 (by omega);rw [hw2];exact holdsK_sortWorldK_c (gT w) 2 w1 g 0 d d' n os hH hgl (by omega)
 generalize hs0:d'.toList.map (CS w)=s at hperm hsort zs;have hsl:s.length=l.length:=by rw [← hs0]; simp [hd']
 have hws:∀ x ∈ s,pk x.2=true:=fun x hx=>hw x (hperm.mem_iff.1 hx)
 have HP:Hid (s.Perm l):=hperm;have HSo:Hid (s.Pairwise fun x y=>aL x.1 y.1≤0):=hsort;clear hperm hsort hw2 hs0 hd' hp hs hH hdl hd hgl h hw;rw [← hsl];rw [← hsl] at hl;clear HN;go_wp2_with fail
 go_loopw [3,13] (fun v i wr=>∃ k:Nat,k≤s.length∧i = .int .i64 k∧mV w2 wr v (bG (s.take k))∧Below w2.heap.size w2 wr) (fun _ i _=>s.length - (intOf i).toNat)
 case atStart=>exact ⟨0,Hl _,rfl,⟨[],Iq _ _ _ _,rfl,fun i hi=>by simp [bG] at hi⟩,He _ _⟩
 case round =>
  obtain ⟨k,hk,rfl,HS,hb⟩:=hrel;have hz:=hb.size;by_cases hlt:k<s.length
  ·obtain ⟨b,off,hh,hbl,c1,ar,cr,c0,sr⟩:=(zs.next hb).elem hlt;obtain ⟨b',off',hh',hbl',c1',ar',cr',c0',sr'⟩:=zs.elem hlt;simp only [Jd,Addr.mk.injEq,and_true] at hh hh';obtain ⟨rfl,rfl⟩:=hh;obtain ⟨rfl,rfl⟩:=hh';have ee:=(hb.cell (p:=⟨g,_,none⟩) hgl2).trans c0';rw [c0] at ee;simp only [Jd,Value.slice.injEq,true_and] at ee;obtain ⟨rfl,rfl⟩:=ee;clear c0' c1' hbl';simp only [Hu] at c0 c1;have step:Hid (bG (s.take (k+1))=hD (bG (s.take k)) s[k]):=by
    show bG (s.take (k+1))=_;rw [Ht hlt,gp]
   have hlen:=mF (s.take k);simp only [Ij] at hlen;have hbd:=uM 1000000000000 (by omega) (s.take k) (fun x hx=>(jE _).1 (hws x (List.mem_of_mem_take hx)));have hx:=(jE _).1 (hws s[k] (Hm hlt));generalize hacc:bG (s.take k)=acc at HS step hlen hbd;clear hacc;rcases List.eq_nil_or_concat acc with e | ⟨a',y,e⟩
   ·subst e;obtain ⟨xs,ho,he⟩:=HS;obtain ⟨a3,c3,rfl⟩:=pJ ho;simp only [List.length_nil] at ho;have hbA:=aa wr (.cells #[.slice ar s[k].1.length cr,.int .i64 s[k].2] 63);have q0:(wr.alloc (.cells #[.slice ar s[k].1.length cr,.int .i64 s[k].2] 63)).cell? ⟨wr.heap.size,0,none⟩=some (.slice ar s[k].1.length cr):=by simp
    have q1:(wr.alloc (.cells #[.slice ar s[k].1.length cr,.int .i64 s[k].2] 63)).cell? ⟨wr.heap.size,1,none⟩=some (.int .i64 s[k].2):=by simp
    haveI:Nonempty (du (wr.alloc (.cells #[.slice ar s[k].1.length cr,.int .i64 s[k].2] 63))):=⟨⟨_,He _ _⟩⟩
    simp only [List.length_nil];go_wp2_with fail
    generalize wr.alloc (.cells #[.slice ar s[k].1.length cr,.int .i64 s[k].2] 63)=wA at *;refine aI (by kernel_rfl) (by kernel_rfl) ?_
    repeat (go_big_quiet_step (fail))
    refine wpQuiet_nil ?_;rintro w4 ⟨⟨v4,hb4⟩,h4⟩;obtain rfl:w4=v4:=h4;have ho4:=bg (bg ho hbA) hb4;have r0:=(hb4.cell (p:=⟨wr.heap.size,0,none⟩) (Hy _ _ q0)).trans q0;have r1:=(hb4.cell (p:=⟨wr.heap.size,1,none⟩) (Hy _ _ q1)).trans q1;have hzA:=hbA.size;have hz4:=hb4.size;clear ho
    go_wp2_with (at_builtin; refine IK _ rfl _ _ 37 rfl w2.heap.size 63 i0 _ 2 32 Tryz.underlying37 hi hj0 hj1 hj2 rfl (by decide) _ _ _ rfl (ho4.alloc _) ⟨w4.heap.size,0,none⟩ 1 1 [.slice ar s[k].1.length cr,.int .i64 s[k].2] rfl rfl ?Ac1 ?Ac2 ?Ac3 ?Ac4 ?Ac5 ?_)
    case Ac1 =>
     intro j u hj
     match j,hj with
     | 0,hj=>simp at hj; subst hj; simp [Addr.add]
     | 1,hj=>simp at hj; subst hj; simp [Addr.add]
    case Ac2=>intro u hu; simp at hu; rcases hu with rfl | rfl <;> rfl
    case Ac3=>unfold maxLen; first | omega | (simp; done) | (simp; omega)
    case Ac4=>first | omega | (simp; done) | (simp; omega)
    case Ac5=>simp; omega
    intro v' w5 ho5 hg5 _;have hb5:Below w2.heap.size w2 w5:=((fL hb (fL hbA hb4)).alloc (by omega) _).grown hg5 (by simp; omega) (fun q hq=>((ho4.alloc (.cells #[.slice ar s[k].1.length cr,.int .i64 s[k].2] 63)).lt q hq).1);clear hg5 ho4 q0 q1;go_wp2
    go_roundw
    case rel=>exact ⟨k+1,by omega,by go_num,by rw [step.out,jQ]; exact ⟨_,ho5,he.push sr'⟩,hb5⟩
    case measure=>simp [intOf]; omega
   ·rw [Jj] at e;subst e;by_cases hc:aL y.1 s[k].1=0
    ·have HS0:=HS;obtain ⟨xs,ho,he⟩:=HS;obtain ⟨g3,c3,rfl,hg3,hg3l⟩:=nT ho (by simp);obtain ⟨ay,cy,x0,x1,sy⟩:=he.2 a'.length (by simp);simp only [List.getElem_concat_length] at x0 x1 sy;have y0:wr.cell? ⟨g3,a'.length*2,none⟩=some (.slice ay y.1.length cy):=by rw [ho.cellAt _ (by simp <;> omega)]; exact x0
     have y1:wr.cell? ⟨g3,a'.length*2+1,none⟩=some (.int .i64 y.2):=by rw [ho.cellAt _ (by simp <;> omega)]; exact x1
     have f1:wr.frozen? ⟨g3,a'.length*2+1,none⟩=false:=ho.frozenAt _;have el:(a' ++ [y]).length=a'.length+1:=by simp
     rw [el] at ho HS0 ⊢;have hy:=hbd y (by simp);rw [el] at hlen;have hkk:((s.take k).length:Int)≤200000:=by rw [Ij]; omega
     have hbA:=aa wr (.cells #[.slice ar s[k].1.length cr,.int .i64 s[k].2] 63);have q0:(wr.alloc (.cells #[.slice ar s[k].1.length cr,.int .i64 s[k].2] 63)).cell? ⟨wr.heap.size,0,none⟩=some (.slice ar s[k].1.length cr):=by simp
     have q1:(wr.alloc (.cells #[.slice ar s[k].1.length cr,.int .i64 s[k].2] 63)).cell? ⟨wr.heap.size,1,none⟩=some (.int .i64 s[k].2):=by simp
     have y0A:=(hbA.cell (p:=⟨g3,_,none⟩) hg3l).trans y0;have y1A:=(hbA.cell (p:=⟨g3,_,none⟩) hg3l).trans y1;have f1A:=(hbA.frozen (p:=⟨g3,_,none⟩) hg3l).trans f1;have hgA:g3<(wr.alloc (.cells #[.slice ar s[k].1.length cr,.int .i64 s[k].2] 63)).heap.size:=Hi hg3l hbA.size;haveI:Nonempty (du (wr.alloc (.cells #[.slice ar s[k].1.length cr,.int .i64 s[k].2] 63))):=⟨⟨_,He _ _⟩⟩
     have sA:=sr.next hbA;have tA:=(sy.next hb).next hbA;have e1:((a'.length+1:Nat):Int) - 1=(a'.length:Int):=by omega
     have i1:(0:Int)≤(a'.length:Int):=by omega
     have i2:(a'.length:Int)<((a'.length+1:Nat):Int):=by omega
     have i3:a'.length<a'.length+1:=by omega
     clear y0 y1 f1 x0 x1;have HC:Hid (aL y.1 s[k].1=0):=hc;go_wp2_with fail
     generalize wr.alloc (.cells #[.slice ar s[k].1.length cr,.int .i64 s[k].2] 63)=wA at *;have p0:=ax y0A;have p1:=ax q0;refine aI (by kernel_rfl) (by kernel_rfl) ?_
     repeat (go_big_quiet_step (first | (go_at_call 70; exact cS (kP _ _ _ _ _ _ _ (tA.next (du.ok _)) (sA.next (du.ok _))))))
     refine wpQuiet_nil ?_;rintro w4 ⟨⟨v4,hb4⟩,h4⟩;obtain rfl:w4=v4:=h4;clear p0 p1;have r0:=(hb4.cell (p:=⟨wr.heap.size,0,none⟩) (Hy _ _ q0)).trans q0;have r1:=(hb4.cell (p:=⟨wr.heap.size,1,none⟩) (Hy _ _ q1)).trans q1;have z0:=(hb4.cell (p:=⟨g3,_,none⟩) hgA).trans y0A;have z1:=(hb4.cell (p:=⟨g3,_,none⟩) hgA).trans y1A;have zf:=(hb4.frozen (p:=⟨g3,_,none⟩) hgA).trans f1A;have hzA:=hbA.size;have hz4:=hb4.size;have HS4:=(HS0.next hbA).next hb4;clear ho y0A y1A f1A q0 q1;have hv1:-9223372036854775808≤y.2+s[k].2:=by omega
     have hv2:y.2+s[k].2≤9223372036854775807:=by omega
     go_wp2_with fail
     go_region
     have hb5:Below w2.heap.size w2 (w4.setCell ⟨g3,a'.length*2+1,none⟩ (.int .i64 (y.2+s[k].2))).drew:=((fL hb (fL hbA hb4)).setCell (p:=⟨g3,a'.length*2+1,none⟩) hg3 _).drew;have HS5:mV w2 (w4.setCell ⟨g3,a'.length*2+1,none⟩ (.int .i64 (y.2+s[k].2))).drew (.slice (some ⟨g3,0,none⟩) (a'.length+1) c3) (a' ++ [(y.1,y.2+s[k].2)]):=(HS4.last _).next ((He _ _).drew);clear HS4 HS0 z0 z1 zf r0 r1;go_wp2
     go_roundw
     case rel=>exact ⟨k+1,by omega,by go_num,by rw [step.out,gm,if_pos HC.out]; exact HS5,hb5⟩
     case measure=>simp [intOf]; omega
    ·have HS0:=HS;obtain ⟨xs,ho,he⟩:=HS;obtain ⟨g3,c3,rfl,hg3,hg3l⟩:=nT ho (by simp);obtain ⟨ay,cy,x0,x1,sy⟩:=he.2 a'.length (by simp);simp only [List.getElem_concat_length] at x0 x1 sy;have y0:wr.cell? ⟨g3,a'.length*2,none⟩=some (.slice ay y.1.length cy):=by rw [ho.cellAt _ (by simp <;> omega)]; exact x0
     have y1:wr.cell? ⟨g3,a'.length*2+1,none⟩=some (.int .i64 y.2):=by rw [ho.cellAt _ (by simp <;> omega)]; exact x1
     have f1:wr.frozen? ⟨g3,a'.length*2+1,none⟩=false:=ho.frozenAt _;have el:(a' ++ [y]).length=a'.length+1:=by simp
     rw [el] at ho HS0 ⊢;have hy:=hbd y (by simp);rw [el] at hlen;have hkk:((s.take k).length:Int)≤200000:=by rw [Ij]; omega
     have hbA:=aa wr (.cells #[.slice ar s[k].1.length cr,.int .i64 s[k].2] 63);have q0:(wr.alloc (.cells #[.slice ar s[k].1.length cr,.int .i64 s[k].2] 63)).cell? ⟨wr.heap.size,0,none⟩=some (.slice ar s[k].1.length cr):=by simp
     have q1:(wr.alloc (.cells #[.slice ar s[k].1.length cr,.int .i64 s[k].2] 63)).cell? ⟨wr.heap.size,1,none⟩=some (.int .i64 s[k].2):=by simp
     have y0A:=(hbA.cell (p:=⟨g3,_,none⟩) hg3l).trans y0;have y1A:=(hbA.cell (p:=⟨g3,_,none⟩) hg3l).trans y1;have f1A:=(hbA.frozen (p:=⟨g3,_,none⟩) hg3l).trans f1;have hgA:g3<(wr.alloc (.cells #[.slice ar s[k].1.length cr,.int .i64 s[k].2] 63)).heap.size:=Hi hg3l hbA.size;haveI:Nonempty (du (wr.alloc (.cells #[.slice ar s[k].1.length cr,.int .i64 s[k].2] 63))):=⟨⟨_,He _ _⟩⟩
     have sA:=sr.next hbA;have tA:=(sy.next hb).next hbA;have e1:((a'.length+1:Nat):Int) - 1=(a'.length:Int):=by omega
     have i1:(0:Int)≤(a'.length:Int):=by omega
     have i2:(a'.length:Int)<((a'.length+1:Nat):Int):=by omega
     have i3:a'.length<a'.length+1:=by omega
     clear y0 y1 f1 x0 x1;have HC:Hid (¬ aL y.1 s[k].1=0):=hc;have b0:(aL y.1 s[k].1 == 0)=false:=by simpa using hc
     go_wp2_with fail
     generalize wr.alloc (.cells #[.slice ar s[k].1.length cr,.int .i64 s[k].2] 63)=wA at *;have p0:=ax y0A;have p1:=ax q0;refine aI (by kernel_rfl) (by kernel_rfl) ?_
     repeat (go_big_quiet_step (first | (go_at_call 70; exact cS (kP _ _ _ _ _ _ _ (tA.next (du.ok _)) (sA.next (du.ok _))))))
     refine wpQuiet_nil ?_;rintro w4 ⟨⟨v4,hb4⟩,h4⟩;obtain rfl:w4=v4:=h4;clear p0 p1;have r0:=(hb4.cell (p:=⟨wr.heap.size,0,none⟩) (Hy _ _ q0)).trans q0;have r1:=(hb4.cell (p:=⟨wr.heap.size,1,none⟩) (Hy _ _ q1)).trans q1;have z0:=(hb4.cell (p:=⟨g3,_,none⟩) hgA).trans y0A;have z1:=(hb4.cell (p:=⟨g3,_,none⟩) hgA).trans y1A;have zf:=(hb4.frozen (p:=⟨g3,_,none⟩) hgA).trans f1A;have hzA:=hbA.size;have hz4:=hb4.size;have ho4:=bg (bg ho hbA) hb4;clear ho y0A y1A f1A
     go_wp2_with (at_builtin; refine IK _ rfl _ _ 37 rfl w2.heap.size 63 i0 _ 2 32 Tryz.underlying37 hi hj0 hj1 hj2 rfl (by decide) _ _ _ rfl (ho4.alloc _) ⟨w4.heap.size,0,none⟩ 1 1 [.slice ar s[k].1.length cr,.int .i64 s[k].2] rfl rfl ?Bc1 ?Bc2 ?Bc3 ?Bc4 ?Bc5 ?_)
     case Bc1 =>
      intro j u hj
      match j,hj with
      | 0,hj=>simp at hj; subst hj; simp [Addr.add]
      | 1,hj=>simp at hj; subst hj; simp [Addr.add]
     case Bc2=>intro u hu; simp at hu; rcases hu with rfl | rfl <;> rfl
     case Bc3=>unfold maxLen; first | omega | (simp; done) | (simp; omega)
     case Bc4=>first | omega | (simp; done) | (simp; omega)
     case Bc5=>simp; omega
     intro v' w5 ho5 hg5 _;have hb5:Below w2.heap.size w2 w5:=((fL hb (fL hbA hb4)).alloc (by omega) _).grown hg5 (by simp; omega) (fun q hq=>((ho4.alloc (.cells #[.slice ar s[k].1.length cr,.int .i64 s[k].2] 63)).lt q hq).1);clear hg5 ho4 q0 q1;go_wp2
     go_roundw
     case rel=>exact ⟨k+1,by omega,by go_num,by rw [step.out,gm,if_neg HC.out]; exact ⟨_,by simpa using ho5,he.push sr'⟩,hb5⟩
     case measure=>simp [intOf]; omega
  ·have e:k=s.length:=by omega
   subst e;rw [Ib] at HS;obtain ⟨xs,ho,he⟩:=HS;obtain ⟨a3,c3,rfl,z3⟩:=wI ho rfl he hb;go_wp2
   go_ret;exact ⟨s,a3,c3,rfl,HP.out,HSo.out,z3,hb2.trans (hb.mono hb2.size)⟩
def pf (z:List Zp):Bool:=z.any fun x=>!ke x.2
def bF (l:List Zp):Int:=if pf (canon l)=true then 3 else if 400<(canon l).length then 5 else 0
def cB (l:List Zp):List Zp:=if bF l=0 then canon l else []
theorem kA (z:List Zp):pf (bI (fun w=>w) z)=pf z:=by
 induction z with
 | nil=>rfl
 | cons x r ih =>
  unfold pf at ih ⊢;rw [bI]
  split
  ·rename_i h0
   rw [ih,List.any_cons,h0];simp [ke]
  ·rw [List.any_cons,ih,List.any_cons]
theorem CO {z:List Zp} {k:Nat} (hk:k<z.length) (h:ke z[k].2=false):pf z=true:=by
 unfold pf;rw [List.any_eq_true];exact ⟨z[k],Hm hk,by simp [h]⟩
theorem wJ {z:List Zp} (h:∀ j (hj:j<z.length),ke z[j].2=true):pf z=false:=by
 unfold pf;rw [List.any_eq_false];intro x hx;obtain ⟨j,hj,rfl⟩:=List.getElem_of_mem hx;simp [h j hj]
theorem dN (base:Nat) (W:World):fN base W (.slice none 0 0) []:=⟨[],Iq _ _ _ _,rfl,fun i hi=>by simp at hi⟩
theorem GS:∀ args w,(callFunc 47 args).run Tryz.prog w = .ok (.enter 47 args) w:=enters_of Tryz.func47 (by kernel_rfl) rfl
theorem Dd (w:World):ET 47 #[] (fun w=>w) w:=by
 intro x W _ _;show Calls Tryz.prog 47 #[.int .i64 x] W _;go_enter Tryz.func47,Tryz.ntmps47;go_wp2
 go_ret;exact ⟨rfl,He _ _⟩
def qL (l:List Zp) (w:World) (e:Ending) (w':World):Prop :=
 ∃ s a' c',e = .returned (.slice a' (bG s).length c')∧s.Perm l∧(s.Pairwise fun x y=>aL x.1 y.1≤0)∧bP w' a' (bG s)∧Below w.heap.size w w'
theorem rW (a:Option Addr) (cap:Nat) (l:List Zp) (w:World) (hsum:Calls Tryz.prog 44 #[.slice a l.length cap] w (qL l w)) (hl:l.length≤200000) (h8:∀ x ∈ l,x.1.length≤8) :
  Calls Tryz.prog 30 #[.slice a l.length cap] w fun e w'=>∃ v,e = .returned (.tuple #[v,.int .i64 (bF l)])∧fN w.heap.size w' v (cB l)∧Below w.heap.size w w':=by
 go_enter Tryz.func30,Tryz.ntmps30;go_wp2_with fail
 refine hsum.mono ?_;clear hsum;rintro e w1 ⟨s,a1,c1,rfl,hp,hs,z1,hb1⟩;have hcan:=rE hp hs;have hm:=qv s hs;have hlen:=mF s;rw [hp.length_eq] at hlen;have h81:∀ y ∈ bG s,y.1.length≤8:=by
  intro y hy;obtain ⟨x,hx,e⟩:=hm.row y hy;rw [e];exact h8 x (hp.mem_iff.1 hx)
 have HCan:Hid (bI (fun w=>w) (bG s)=canon l):=hcan;clear hcan hm hp hs h8;generalize bG s=m at *;go_wp2_with fail
 go_loopw [12] (fun i wr=>∃ k:Nat,k≤m.length∧i = .int .i64 k∧Hid (∀ j (hj:j<m.length),j<k→ke m[j].2=true)∧Below w1.heap.size w1 wr) (fun i _=>m.length - (intOf i).toNat)
 case atStart=>exact ⟨0,Hl _,rfl,fun j _ hj=>absurd hj (Iu _),He _ _⟩
 case round =>
  obtain ⟨k,hk,rfl,HI,hb⟩:=hrel;have hz:=hb.size;by_cases hlt:k<m.length
  ·obtain ⟨b,off,rfl,hbl,d1,ar,cr,d0,sr⟩:=(z1.next hb).elem hlt;cases hin:ke m[k].2
   ·have HO:Hid (ke m[k].2=false):=hin;have he:Hid (bF l=3):=by
     show bF l=3;unfold bF;rw [← HCan.out,kA,if_pos (CO hlt hin)]
    clear hin;go_wp2_with fail
    refine (ec _ _).mono ?_;rintro e w2 ⟨rfl,rfl⟩;rw [HO.out];go_wp2_with fail
    refine Hf (v:=.tuple #[.slice none 0 0,.int .i64 3]) (by simp [results,Tryz.results30,go_sem]) rfl ⟨_,by rw [he.out],?_,(fL hb1 hb).alloc (by have:=hb1.size; omega) _⟩;have hgz:cB l = []:=by unfold cB; rw [he.out]; rfl
    rw [hgz];exact dN _ _
   ·have HO:Hid (ke m[k].2=true):=hin;clear hin;go_wp2_with fail
    refine (ec _ _).mono ?_;rintro e w2 ⟨rfl,rfl⟩;rw [HO.out];go_wp2
    go_roundw
    case rel=>exact ⟨k+1,by omega,by go_num,fun j hj hjk=>by
     by_cases e:j=k
     ·subst e; exact HO.out
     ·exact HI.out j hj (by omega),hb.alloc hz _⟩
    case measure=>simp [intOf]; omega
  ·have e:k=m.length:=by omega
   subst e;have hall:∀ x ∈ m,ke x.2=true:=by
    intro x hx;obtain ⟨j,hj,rfl⟩:=List.getElem_of_mem hx;exact HI.out j hj hj
   have ho:pf (canon l)=false:=by
    rw [← HCan.out,kA];exact wJ fun j hj=>HI.out j hj hj
   go_wp2_with fail
   refine (tT 47 #[] (fun w=>w) a1 c1 m wr (z1.next hb) GS (Dd _) (by omega) h81 hall).mono ?_;rintro e w3 ⟨v,rfl,O3,hb3⟩;rw [HCan.out] at O3;have hb3':=fL (fL hb1 hb) hb3;have O3':=O3.mono (HJ hb1.size hb.size);obtain ⟨a3,c3,rfl,z3⟩:=O3.zs;by_cases h4:400<(canon l).length
   ·have he:Hid (bF l=5):=by
     show bF l=5;unfold bF;rw [ho,if_neg (by decide),if_pos h4]
    go_wp2_with fail
    refine Hf (v:=.tuple #[.slice none 0 0,.int .i64 5]) (by simp [results,Tryz.results30,go_sem]) rfl ⟨_,by rw [he.out],?_,hb3'⟩;have hgz:cB l = []:=by unfold cB; rw [he.out]; rfl
    rw [hgz];exact dN _ _
   ·have he:Hid (bF l=0):=by
     show bF l=0;unfold bF;rw [ho,if_neg (by decide),if_neg h4]
    go_wp2_with fail
    refine Hf (v:=.tuple #[.slice a3 (canon l).length c3,.int .i64 0]) (by simp [results,Tryz.results30,go_sem]) rfl ⟨_,by rw [he.out],?_,hb3'⟩;have hgz:cB l=canon l:=by unfold cB; rw [he.out]; rfl
    rw [hgz];exact O3'
theorem yp (p:Option Addr) (cap:Nat) (fv:Value) (w:World):Calls Tryz.prog 73 #[.slice p 0 cap,fv] w fun e w'=>e = .returned (.tuple #[])∧w'=w :=
 AnyF.slices_SortFunc_none Tryz.sortZ p cap fv w
theorem rY (a:Option Addr) (cap:Nat) (w:World):Calls Tryz.prog 44 #[.slice a 0 cap] w (qL [] w):=by
 unfold qL;go_enter Tryz.func44,Tryz.ntmps44;go_wp2_with fail
 refine (sW a cap [] w #[] rfl (by simp) (.inl rfl)).mono ?_;rintro e w1 ⟨v,rfl,hown,hb1⟩;obtain ⟨a1,c1,rfl⟩:=pJ hown;simp only [List.length_nil];go_wp2_with fail
 refine (yp _ _ _ _).mono ?_;rintro e w2 ⟨rfl,rfl⟩;go_wp2_with fail
 refine wp_loop_rounds 1 ?_;rw [rounds_succ];go_wp2
 go_ret;exact ⟨[],none,0,rfl,List.Perm.refl _,List.Pairwise.nil,⟨by simp [bG],.inl rfl⟩,hb1⟩
theorem zM (a:Option Addr) (cap:Nat) (l:List Zp) (w:World) (h:bP w a l) (hl:l.length≤200000) (hw:∀ x ∈ l,pk x.2=true) :
  Calls Tryz.prog 44 #[.slice a l.length cap] w (qL l w):=by
 by_cases hn:0<l.length
 ·exact rV a cap l w h hl hn hw
 ·have e:l = []:=Hs (by omega);subst e;exact rY a cap w
theorem eX (a:Option Addr) (cap:Nat) (l:List Zp) (w:World) (h:bP w a l) (hl:l.length≤200000) (hw:∀ x ∈ l,pk x.2=true) (h8:∀ x ∈ l,x.1.length≤8) :
  Calls Tryz.prog 30 #[.slice a l.length cap] w fun e w'=>∃ v,e = .returned (.tuple #[v,.int .i64 (bF l)])∧fN w.heap.size w' v (cB l)∧Below w.heap.size w w' :=
 rW a cap l w (zM a cap l w h hl hw) hl h8
theorem xA:∀ (l:List Zp) (p:Option (List Vl)),mC p l=0↔(∀ x ∈ l,bt x.1=0∧x.2≠0∧ke x.2=true)∧gd l∧∀ q,p=some q→∀ x ∈ l,aL q x.1<0
 | [],p=>by simp [mC,gd]
 | x :: r,p=>by
  have ih:=xA r (some x.1)
  rw [mC]
  by_cases hw:bt x.1=0
  ·rw [if_pos hw]
   by_cases h0:x.2=0∨ke x.2=false
   ·rw [if_pos h0]
    constructor
    ·intro h; omega
    ·rintro ⟨h,_⟩
     have:=h x (by simp)
     rcases h0 with h0 | h0
     ·exact absurd h0 this.2.1
     ·rw [h0] at this; exact absurd this.2.2 (by decide)
   ·rw [if_neg h0]
    have n0:x.2≠0:=fun h=>h0 (.inl h)
    have n1:ke x.2=true:=by
     cases h:ke x.2
     ·exact absurd (.inr h) h0
     ·rfl
    by_cases hc:∃ q,p=some q∧0≤aL q x.1
    ·rw [if_pos hc]
     constructor
     ·intro h; omega
     ·rintro ⟨_,_,h⟩
      obtain ⟨q,e,hq⟩:=hc
      have:=h q e x (by simp)
      omega
    ·rw [if_neg hc,ih]
     have hc':∀ q,p=some q→aL q x.1<0:=fun q e=>by
      by_cases h:0≤aL q x.1
      ·exact absurd ⟨q,e,h⟩ hc
      ·omega
     constructor
     ·rintro ⟨h1,h2,h3⟩
      have h3:=h3 x.1 rfl
      refine ⟨?_,List.pairwise_cons.2 ⟨h3,h2⟩,?_⟩
      ·intro y hy
       rcases List.mem_cons.1 hy with rfl | hy
       ·exact ⟨hw,n0,n1⟩
       ·exact h1 y hy
      ·intro q e y hy
       rcases List.mem_cons.1 hy with rfl | hy
       ·exact hc' q e
       ·exact cW (hc' q e) (by have:=h3 y hy; omega)
     ·rintro ⟨h1,h2,h3⟩
      have p:=List.pairwise_cons.1 h2
      exact ⟨fun y hy=>h1 y (by simp [hy]),p.2,fun q e y hy=>by injection e with e; subst e; exact p.1 y hy⟩
  ·rw [if_neg hw]
   constructor
   ·intro h; exact absurd h hw
   ·rintro ⟨h,_⟩; exact (h x (by simp)).1
theorem i9 (l:List Zp):dL l=0↔l.length≤400∧(∀ x ∈ l,bt x.1=0∧x.2≠0∧ke x.2=true)∧gd l:=by
 unfold dL;by_cases h:400<l.length
 ·rw [if_pos h];constructor
  ·intro h; omega
  ·rintro ⟨h',_⟩; omega
 ·rw [if_neg h,xA];constructor
  ·rintro ⟨h1,h2,_⟩; exact ⟨by omega,h1,h2⟩
  ·rintro ⟨_,h1,h2⟩; exact ⟨h1,h2,fun q e=>by cases e⟩
end Go.Proofs.YtjebpkhkjkjphaaGreat
namespace Go.Proofs.YtjebpkhkjkjphaaGreat
set_option maxRecDepth 100000
set_option maxHeartbeats 16000000
def cz (af:List Int) (x:Ex):Int:=if (ak af x).2≠0 then (ak af x).2 else if (ak af x).1≠2∧(ak af x).1≠1 then 9 else 0
def fY (af:List Int):List Zp→Int
 | []=>0
 | x :: r=>if ei af x.1=0 then fY af r else ei af x.1
def cG (af:List Int) (z:List Zp):Int:=if 8<af.length then 5 else if dL z≠0 then dL z else fY af z
def cV (af:List Int):List Ex→Int
 | []=>0
 | x :: r=>if (ak af x).2=0 then cV af r else (ak af x).2
def bj (af:List Int) (xs:List Ex):Int:=if 8<xs.length then 5 else cV af xs
theorem yO (af:List Int) (z:List Zp) (k:Nat) (h:z.length≤k):fY af (z.drop k)=0:=by rw [Ig h]; rfl
theorem zK (af:List Int) (z:List Zp) (k:Nat) (h:k<z.length) (e:¬ ei af z[k].1=0):fY af (z.drop k)=ei af z[k].1:=by
 rw [Hk h,fY,if_neg e]
theorem uC (af:List Int) (z:List Zp) (k:Nat) (h:k<z.length) (e:ei af z[k].1=0):fY af (z.drop k)=fY af (z.drop (k+1)):=by
 rw [Hk h,fY,if_pos e]
theorem vP (af:List Int) (z:List Ex) (k:Nat) (h:z.length≤k):cV af (z.drop k)=0:=by rw [Ig h]; rfl
theorem tS (af:List Int) (z:List Ex) (k:Nat) (h:k<z.length) (e:¬ (ak af z[k]).2=0):cV af (z.drop k)=(ak af z[k]).2:=by
 rw [Hk h,cV,if_neg e]
theorem tm (af:List Int) (z:List Ex) (k:Nat) (h:k<z.length) (e:(ak af z[k]).2=0):cV af (z.drop k)=cV af (z.drop (k+1)):=by
 rw [Hk h,cV,if_pos e]
theorem sd (af:List Int):∀ z:List Zp,fY af z=0↔∀ x ∈ z,et af x.1
 | []=>by simp [fY]
 | x :: r=>by
  have ih:=sd af r
  rw [fY]
  by_cases h:ei af x.1=0
  ·rw [if_pos h,ih]
   simp [(su af x.1).1 h]
  ·rw [if_neg h]
   constructor
   ·intro e; exact absurd e h
   ·intro e; exact absurd ((su af x.1).2 (e x (by simp))) h
theorem pW (af:List Int):∀ z:List Ex,cV af z=0↔∀ x ∈ z,(ak af x).2=0
 | []=>by simp [cV]
 | x :: r=>by
  have ih:=pW af r
  rw [cV]
  by_cases h:(ak af x).2=0
  ·rw [if_pos h,ih]
   simp [h]
  ·rw [if_neg h]
   simp [h]
structure iv (af:List Int) (z:List Zp):Prop where
 qm:af.length≤8
 set:dL z=0
 fit:∀ x ∈ z,et af x.1
theorem hJ (af:List Int) (z:List Zp):cG af z=0↔iv af z:=by
 unfold cG;by_cases h8:8<af.length
 ·rw [if_pos h8];constructor
  ·intro h; omega
  ·rintro ⟨h,_,_⟩; omega
 ·rw [if_neg h8];by_cases hw:dL z=0
  ·rw [if_neg (by simpa using hw),sd];exact ⟨fun h=>⟨by omega,hw,h⟩,fun h=>h.fit⟩
  ·rw [if_pos (by simpa using hw)];exact ⟨fun h=>absurd h hw,fun h=>h.set⟩
theorem Ba {af:List Int} {x:Ex} (h:cz af x=0):(ak af x).2=0∧((ak af x).1=1∨(ak af x).1=2):=by
 unfold cz at h;by_cases h1:(ak af x).2=0
 ·rw [if_neg (by simpa using h1)] at h;by_cases h2:(ak af x).1≠2∧(ak af x).1≠1
  ·rw [if_pos h2] at h; omega
  ·exact ⟨h1,by omega⟩
 ·rw [if_pos h1] at h;exact absurd h h1
theorem Cl {af:List Int} {x:Ex} (h:(ak af x).2=0):fI af x=some (ak af x).1:=((ow af x).1 h).ty
def bW (x:Ex) (row:List Vl):Bool:=kT (bq row x) == some true
def dU (xs:List Ex) (row:List Vl):List Vl:=xs.map (bq row)
def kO (x:Ex) (z:List Zp):List Zp:=z.filter fun p=>bW x p.1
def lG (xs:List Ex) (z:List Zp):List Zp:=z.map fun p=>(dU xs p.1,p.2)
theorem vw {l:List Zp} (h:gd l):canon l=bI (fun w=>w) l :=
 (sC (nI _ _ h) fun q=>mj (fun w=>w) rfl q l h).symm
theorem uU {z l:List Zp} (hz:dL z=0) (hl:l.Sublist z):bF l=0:=by
 obtain ⟨h1,h2,h3⟩:=(i9 z).1 hz;have hr:gd l:=h3.sublist hl;have e:=vw hr;have o:pf (canon l)=false:=by
  rw [e,kA];exact wJ fun j hj=>(h2 _ (hl.subset (Hm hj))).2.2
 have n:(canon l).length≤400:=by
  rw [e];have:=nG (fun w=>w) l;have:=hl.length_le;omega
 unfold bF;rw [o,if_neg (by decide),if_neg (by omega)]
theorem sD {z:List Zp} (hz:dL z=0) (p:Zp→Bool):bF (z.filter p)=0:=uU hz List.filter_sublist
def fR (af:List Int) (x:Ex) (z:List Zp):Int:=if cz af x≠0 then cz af x else if cG af z≠0 then cG af z else 0
def mB (af:List Int) (x:Ex) (z:List Zp):List Zp:=if fR af x z=0 then canon (kO x z) else []
def j6 (af:List Int) (xs:List Ex) (z:List Zp):Int:=if bj af xs≠0 then bj af xs else if cG af z≠0 then cG af z else bF (lG xs z)
def vF (af:List Int) (xs:List Ex) (z:List Zp):List Zp:=if j6 af xs z=0 then canon (lG xs z) else []
theorem Cj {af:List Int} {x:Ex} {z:List Zp} (h:fR af x z=0):cz af x=0∧iv af z:=by
 unfold fR at h;by_cases h1:cz af x=0
 ·rw [if_neg (by simpa using h1)] at h;by_cases h2:cG af z=0
  ·exact ⟨h1,(hJ _ _).1 h2⟩
  ·rw [if_pos h2] at h; exact absurd h h2
 ·rw [if_pos h1] at h; exact absurd h h1
theorem sw {af:List Int} {xs:List Ex} (h:bj af xs=0):xs.length≤8∧∀ x ∈ xs,(ak af x).2=0:=by
 unfold bj at h;by_cases h8:8<xs.length
 ·rw [if_pos h8] at h; omega
 ·rw [if_neg h8,pW] at h;exact ⟨by omega,h⟩
end Go.Proofs.YtjebpkhkjkjphaaGreat
namespace Go.Proofs.YtjebpkhkjkjphaaGreat
open Go.RowKit
set_option maxRecDepth 100000
set_option maxHeartbeats 16000000
theorem gN (af:List Int) (x:Ex) (ca:Option Addr) (ccap:Nat) (a:Option Addr) (cap:Nat) (w:World) (hk:aO w.heap.size w a x.ks) (hc:bo w.heap.size w ca af) (h0:(ak af x).2=0) :
  Calls Tryz.prog 108 #[.slice ca af.length ccap,iY x.k x.v x.c a x.ks.length cap] w fun e w'=>∃ u,e = .returned (.tuple #[.int .i64 (ak af x).1,u,.int .i64 0])∧fc af w.heap.size u (fun row=>bq row x) w'∧Below w.heap.size w w':=by
 have S0:=ik.new w x.k x.v x.c a x.ks.length cap 27;have hal:=aa w (.cells (ji x a cap) 27);have z1:(w.alloc (.cells (ji x a cap) 27)).heap.size=w.heap.size+1:=by simp
 have con:=ln af x ca ccap a cap _ ((aO.next hal (Hd _) hk).up hal.size) ((hc.next hal (Hd _)).up hal.size);have ra:=zm af x _ (Cl h0);rw [h0] at con;generalize (ak af x).1=t at *;go_enter Tryz.func108,Tryz.ntmps108;go_wp2_with fail
 generalize w.alloc (.cells (ji x a cap) 27)=w1 at *;refine con.mono ?_;rintro e w2 ⟨rfl,hb2⟩;have hA:=chain hal hb2;obtain ⟨s0,s1,s2,s3,s4,s5⟩:=S0.next hb2 (by omega);simp only [Hu] at s1 s2 s3 s4 s5;have con2:=ra w.heap.size a cap w2 (aO.next hA (Hd _) hk) hA.size;clear con ra S0;go_wp2_with fail
 refine con2.mono ?_;rintro e w3 ⟨u,rfl,hA3,hb3⟩;clear s0 s1 s2 s3 s4 s5 con2;obtain ⟨g,cb,rfl⟩:∃ g cb,u = .func (.func g) #[] cb:=by obtain ⟨g,cb,e,_⟩:=hA3; exact ⟨g,cb,e⟩
 go_wp2
 exact Hf (v:=.tuple #[.int .i64 t,.func (.func g) #[] cb,.int .i64 0]) (by simp [results,Tryz.results108,go_sem]) rfl ⟨_,rfl,hA3.down hA.size,chain hA hb3⟩
theorem jM (af:List Int) (x:Ex) (ca:Option Addr) (ccap:Nat) (a:Option Addr) (cap:Nat) (w:World) (hk:aO w.heap.size w a x.ks) (hc:bo w.heap.size w ca af) (h0:¬ (ak af x).2=0) :
  Calls Tryz.prog 108 #[.slice ca af.length ccap,iY x.k x.v x.c a x.ks.length cap] w fun e w'=>e = .returned (.tuple #[.int .i64 0,.nilFunc,.int .i64 (ak af x).2])∧Below w.heap.size w w':=by
 have hal:=aa w (.cells (ji x a cap) 27);have con:=ln af x ca ccap a cap _ ((aO.next hal (Hd _) hk).up hal.size) ((hc.next hal (Hd _)).up hal.size);have q:((ak af x).2 != 0)=true:=by simpa using h0
 generalize (ak af x).1=t at *;generalize (ak af x).2=t2 at *;go_enter Tryz.func108,Tryz.ntmps108;go_wp2_with fail
 generalize w.alloc (.cells (ji x a cap) 27)=w1 at *;refine con.mono ?_;rintro e w2 ⟨rfl,hb2⟩;have hA:=chain hal hb2;clear con;go_wp2
 exact Hf (v:=.tuple #[.int .i64 0,.nilFunc,.int .i64 t2]) (by simp [results,Tryz.results108,go_sem]) rfl ⟨rfl,hA⟩
def jm (af:List Int) (lo:Nat) (u:Value) (x:Ex) (w:World):Prop :=
 ∃ g cb,u = .func (.func g) #[] cb∧(∀ args w,(callFunc g args).run Tryz.prog w = .ok (.enter g args) w) ∧
  ∀ (row:List Vl) (a:Option Addr) (cap:Nat) (W:World),et af row→aY W a row→Since lo w W →
   Calls Tryz.prog g (#[.slice a row.length cap] ++ cb) W fun e w'=>e = .returned (.bool (bW x row))∧Below W.heap.size W w'
theorem jm.next {af:List Int} {lo:Nat} {u:Value} {x:Ex} {w w1:World} (h:jm af lo u x w) (hb:Since lo w w1):jm af lo u x w1:=by
 obtain ⟨g,cb,e,eg,hd⟩:=h;exact ⟨g,cb,e,eg,fun row a cap W hf hs hW=>hd row a cap W hf hs (hb.trans hW)⟩
theorem jm.down {af:List Int} {lo lo':Nat} {u:Value} {x:Ex} {w:World} (h:jm af lo u x w) (hl:lo'≤lo):jm af lo' u x w:=by
 obtain ⟨g,cb,e,eg,hd⟩:=h;exact ⟨g,cb,e,eg,fun row a cap W hf hs hW=>hd row a cap W hf hs (hW.up hl)⟩
theorem BJ (af:List Int) (lo:Nat) (x:Ex) (u:Value) (b:Nat) (a:Option Addr) (row:List Vl) (cap:Nat) (W:World) (h0:W.cell? ⟨b,0,none⟩=some u) (hA:fc af lo u (fun row=>bq row x) W) (hf:et af row) (hs:aY W a row) :
  Calls Tryz.prog 109 #[.slice a row.length cap,.pointer (some ⟨b,0,none⟩)] W fun e w'=>e = .returned (.bool (bW x row))∧Below W.heap.size W w':=by
 obtain ⟨g,cb,rfl,eg,d⟩:=hA;have d:=d row a cap W hf hs (Since.refl _ _);dsimp only at d;unfold bW;generalize bq row x=v at *;show Calls _ _ _ _ fun e w'=>e = .returned (.bool (cls v.1 v.2.1 == some true))∧_
 go_enter Tryz.func109,Tryz.ntmps109;go_wp2_with (go_at_fn g; refine d.mono ?_; rintro e w1 ⟨rfl,hb1⟩)
 refine (dB _ _ _ _).mono ?_;rintro e w2 ⟨rfl,hb2⟩;go_wp2
 go_ret;exact ⟨rfl,chain hb1 hb2⟩
theorem pG (af:List Int) (x:Ex) (ca:Option Addr) (ccap:Nat) (a:Option Addr) (cap:Nat) (w:World) (hk:aO w.heap.size w a x.ks) (hc:bo w.heap.size w ca af) (h:cz af x=0) :
  Calls Tryz.prog 76 #[.slice ca af.length ccap,iY x.k x.v x.c a x.ks.length cap] w fun e w'=>∃ u,e = .returned (.tuple #[u,.int .i64 0])∧jm af w.heap.size u x w'∧Below w.heap.size w w':=by
 obtain ⟨h0,ht⟩:=Ba h;have S0:=ik.new w x.k x.v x.c a x.ks.length cap 27;have hal:=aa w (.cells (ji x a cap) 27);have con:=gN af x ca ccap a cap _ ((aO.next hal (Hd _) hk).up hal.size) ((hc.next hal (Hd _)).up hal.size) h0;clear h h0;generalize (ak af x).1=t at *;go_enter Tryz.func76,Tryz.ntmps76;go_wp2_with fail
 generalize w.alloc (.cells (ji x a cap) 27)=w1 at *;refine con.mono ?_;rintro e w2 ⟨u,rfl,hA2,hb2⟩;have hA:=chain hal hb2;clear con S0;have hA2:=hA2.down hal.size;obtain ⟨g,cb,rfl⟩:∃ g cb,u = .func (.func g) #[] cb:=by obtain ⟨g,cb,e,_⟩:=hA2; exact ⟨g,cb,e⟩
 have hal3:=aa w2 (.cells #[.func (.func g) #[] cb] 156);have fin:∀ W,Since w.heap.size (w2.alloc (.cells #[.func (.func g) #[] cb] 156)) W→∀ (row:List Vl) (a:Option Addr) (cap:Nat),et af row→aY W a row→Calls Tryz.prog 109 #[.slice a row.length cap,.pointer (some ⟨w2.heap.size,0,none⟩)] W fun e w'=>e = .returned (.bool (bW x row))∧Below W.heap.size W w':=fun W hW row a cap hf hs =>
  BJ af w.heap.size x _ w2.heap.size a row cap W ((hW.cell (p:=⟨w2.heap.size,0,none⟩) hA.size (by simp)).trans (by simp)) ((hA2.next (Since.of hal3)).next hW) hf hs
 have HF:Hid _:=fin;clear fin hA2;rcases ht with rfl | rfl
 rotate_left
 all_goals
  go_wp2_with fail
  exact Hf (v:=.tuple #[.func (.func 109) #[] #[.pointer (some ⟨w2.heap.size,0,none⟩)],.int .i64 0]) (by simp [results,Tryz.results76,go_sem]) rfl ⟨_,rfl,⟨109,_,rfl,enters_of Tryz.func109 (by kernel_rfl) rfl,fun row a cap W hf hs hW=>HF.out W hW row a cap hf hs⟩,chain hA hal3⟩
theorem oV (af:List Int) (x:Ex) (ca:Option Addr) (ccap:Nat) (a:Option Addr) (cap:Nat) (w:World) (hk:aO w.heap.size w a x.ks) (hc:bo w.heap.size w ca af) (h:¬ cz af x=0) :
  Calls Tryz.prog 76 #[.slice ca af.length ccap,iY x.k x.v x.c a x.ks.length cap] w fun e w'=>e = .returned (.tuple #[.nilFunc,.int .i64 (cz af x)])∧Below w.heap.size w w':=by
 have hal:=aa w (.cells (ji x a cap) 27);have hk':=(aO.next hal (Hd _) hk).up hal.size;have hc':=(hc.next hal (Hd _)).up hal.size;by_cases h0:(ak af x).2=0
 ·have e:cz af x=9:=by
   unfold cz at h ⊢;rw [if_neg (by simpa using h0)] at h ⊢;by_cases q:(ak af x).1≠2∧(ak af x).1≠1
   ·rw [if_pos q]
   ·rw [if_neg q] at h; exact absurd rfl h
  have ht:¬ (ak af x).1=2∧¬ (ak af x).1=1:=by
   unfold cz at h;rw [if_neg (by simpa using h0)] at h;by_cases q:(ak af x).1≠2∧(ak af x).1≠1
   ·exact q
   ·rw [if_neg q] at h; exact absurd rfl h
  rw [e];have con:=gN af x ca ccap a cap _ hk' hc' h0;clear h h0 e;generalize (ak af x).1=t at *;have t2:(t != 2)=true:=by simpa using ht.1
  have t1:(t != 1)=true:=by simpa using ht.2
  go_enter Tryz.func76,Tryz.ntmps76;go_wp2_with fail
  generalize w.alloc (.cells (ji x a cap) 27)=w1 at *;refine con.mono ?_;rintro e w2 ⟨u,rfl,hA2,hb2⟩;have hA:=chain hal hb2;clear con;obtain ⟨g,cb,rfl⟩:∃ g cb,u = .func (.func g) #[] cb:=by obtain ⟨g,cb,e,_⟩:=hA2; exact ⟨g,cb,e⟩
  have hal3:=aa w2 (.cells #[.func (.func g) #[] cb] 156);clear hA2;go_wp2
  exact Hf (v:=.tuple #[.nilFunc,.int .i64 9]) (by simp [results,Tryz.results76,go_sem]) rfl ⟨rfl,chain hA hal3⟩
 ·have e:cz af x=(ak af x).2:=by unfold cz; rw [if_pos h0]
  rw [e];have con:=jM af x ca ccap a cap _ hk' hc' h0;have q:((ak af x).2 != 0)=true:=by simpa using h0
  clear h e h0;generalize (ak af x).2=t2 at *;go_enter Tryz.func76,Tryz.ntmps76;go_wp2_with fail
  generalize w.alloc (.cells (ji x a cap) 27)=w1 at *;refine con.mono ?_;rintro e w2 ⟨rfl,hb2⟩;have hA:=chain hal hb2;have hal3:=aa w2 (.cells #[.nilFunc] 156);clear con;go_wp2
  exact Hf (v:=.tuple #[.nilFunc,.int .i64 t2]) (by simp [results,Tryz.results76,go_sem]) rfl ⟨rfl,chain hA hal3⟩
def wG (W:World) (B n:Nat) (f:Nat→Vl) (k:Nat):Prop:=∃ xs,W.ownsRow B 24 3 (.slice (some ⟨B,0,none⟩) n n) n xs∧∀ j:Nat,j<n→j<k→xs[j*3]? = some (.int .i64 (f j).1)∧xs[j*3+1]? = some (.int .i64 (f j).2.1)∧xs[j*3+2]? = some (.string (f j).2.2)
theorem wG.step {W:World} {B n:Nat} {f:Nat→Vl} {k:Nat} (h:wG W B n f k) (hk:k<n) :
  wG (((W.setCell ⟨B,k*3,none⟩ (.int .i64 (f k).1)).setCell ⟨B,k*3+1,none⟩ (.int .i64 (f k).2.1)).setCell ⟨B,k*3+2,none⟩ (.string (f k).2.2)) B n f (k+1):=by
 obtain ⟨xs,h1,h2⟩:=h;have lx:=h1.1;refine ⟨_,((((h1.stored (k*3) _).1.stored (k*3+1) _).1).stored (k*3+2) _).1,?_⟩;intro j hj hjk;by_cases e:j=k
 ·subst e;refine ⟨?_,?_,?_⟩ <;> simp [List.getElem?_set,lx] <;> omega
 ·obtain ⟨g0,g1,g2⟩:=h2 j hj (by omega);refine ⟨?_,?_,?_⟩
  ·rw [Hv (by omega),Hv (by omega),Hv (by omega)]; exact g0
  ·rw [Hv (by omega),Hv (by omega),Hv (by omega)]; exact g1
  ·rw [Hv (by omega),Hv (by omega),Hv (by omega)]; exact g2
theorem wG.next {W w1:World} {B n:Nat} {f:Nat→Vl} {k:Nat} (h:wG W B n f k) (hb:Below W.heap.size W w1):wG w1 B n f k:=by
 obtain ⟨xs,h1,h2⟩:=h;exact ⟨xs,bg h1 hb,h2⟩
theorem wG.cells {W:World} {B n:Nat} {f:Nat→Vl} {k:Nat} (h:wG W B n f k) (hk:k<n):(∃ u0 u1 u2,W.cell? ⟨B,k*3,none⟩=some u0∧W.cell? ⟨B,k*3+1,none⟩=some u1∧W.cell? ⟨B,k*3+2,none⟩=some u2)∧W.frozen? ⟨B,k*3,none⟩=false∧W.frozen? ⟨B,k*3+1,none⟩=false∧W.frozen? ⟨B,k*3+2,none⟩=false∧B<W.heap.size:=by
 obtain ⟨xs,h1,h2⟩:=h;have lx:=h1.1;refine ⟨⟨xs[k*3]'(by omega),xs[k*3+1]'(by omega),xs[k*3+2]'(by omega),?_,?_,?_⟩,h1.frozenAt _,h1.frozenAt _,h1.frozenAt _,(h1.lt B rfl).2⟩
 ·rw [h1.cellAt _ (by omega)]; exact H4 (by omega)
 ·rw [h1.cellAt _ (by omega)]; exact H4 (by omega)
 ·rw [h1.cellAt _ (by omega)]; exact H4 (by omega)
theorem wG.done {W:World} {B n:Nat} {f:Nat→Vl} (h:wG W B n f n) (vs:List Vl) (hn:n=vs.length) (hv:∀ j (hj:j<vs.length),f j=vs[j]) (h8:vs.length≤100):aY W (some ⟨B,0,none⟩) vs∧fQ W (some ⟨B,0,none⟩):=by
 obtain ⟨xs,h1,h2⟩:=h;subst hn;refine ⟨⟨by unfold maxLen; omega,.inr ⟨B,0,rfl,?_,(h1.lt B rfl).2⟩⟩,?_⟩
 ·intro i hi;obtain ⟨g0,g1,g2⟩:=h2 i hi hi;rw [hv i hi] at g0 g1 g2;refine ⟨?_,?_,?_⟩
  ·rw [h1.cellAt _ (by omega),← g0]; congr 1; omega
  ·rw [h1.cellAt _ (by omega),← g1]; congr 1; omega
  ·rw [h1.cellAt _ (by omega),← g2]; congr 1; omega
 ·intro b off e;obtain ⟨_,⟨e',_⟩ | ⟨g,cap,cur,e',_,hh,_⟩⟩:=h1
  ·cases e'
  ·simp only [Value.slice.injEq,Jd,Addr.mk.injEq] at e e';obtain ⟨rfl,_⟩:=e;rw [← e'.1.1] at hh;exact ⟨_,_,hh⟩
def kt (B:Nat) (W:World) (l:List Vl):Prop:=aY W (some ⟨B,0,none⟩) l∧fQ W (some ⟨B,0,none⟩)
def iB (af:List Int) (lo:Nat) (u:Value) (xs:List Ex) (w:World):Prop :=
 ∃ g cb,u = .func (.func g) #[] cb∧(∀ args w,(callFunc g args).run Tryz.prog w = .ok (.enter g args) w) ∧
  ∀ (row:List Vl) (a:Option Addr) (cap:Nat) (W:World),et af row→aY W a row→Since lo w W →
   Calls Tryz.prog g (#[.slice a row.length cap] ++ cb) W fun e w'=>e = .returned (.slice (some ⟨W.heap.size,0,none⟩) xs.length xs.length)∧kt W.heap.size w' (dU xs row)∧Below W.heap.size W w'
theorem iB.next {af:List Int} {lo:Nat} {u:Value} {xs:List Ex} {w w1:World} (h:iB af lo u xs w) (hb:Since lo w w1):iB af lo u xs w1:=by
 obtain ⟨g,cb,e,eg,hd⟩:=h;exact ⟨g,cb,e,eg,fun row a cap W hf hs hW=>hd row a cap W hf hs (hb.trans hW)⟩
theorem iB.down {af:List Int} {lo lo':Nat} {u:Value} {xs:List Ex} {w:World} (h:iB af lo u xs w) (hl:lo'≤lo):iB af lo' u xs w:=by
 obtain ⟨g,cb,e,eg,hd⟩:=h;exact ⟨g,cb,e,eg,fun row a cap W hf hs hW=>hd row a cap W hf hs (hW.up hl)⟩
theorem Bt (af:List Int) (lo:Nat) (vb:Nat) (xs:List Ex) (a:Option Addr) (row:List Vl) (cap:Nat) (W:World) (hK:iF af lo W vb xs) (h8:xs.length≤8) (hf:et af row) (hs:aY W a row) :
  Calls Tryz.prog 110 #[.slice a row.length cap,.pointer (some ⟨vb,0,none⟩)] W fun e w'=>e = .returned (.slice (some ⟨W.heap.size,0,none⟩) xs.length xs.length)∧kt W.heap.size w' (dU xs row)∧Below W.heap.size W w':=by
 obtain ⟨i0,hi,hz0,hz1,hz2⟩:=info_parts Tryz.oU;obtain ⟨K,k1,k2,k3,k4,k5,k6⟩:=hK;have HK:Hid (∀ (i:Nat) (h:i<xs.length),∃ u,W.cell? ⟨K,i,none⟩=some u∧fc af lo u (fun row=>bq row xs[i]) W):=k6;go_enter Tryz.func110,Tryz.ntmps110;go_wp2_with (first | (at_make; refine wpList_make_full _ rfl _ _ 61 rfl W.heap.size 24 i0 _ 3 Tryz.underlying61 hi hz0 hz1 .i64 .i64 xs.length xs.length xs.length rfl rfl rfl rfl (by rw [hz2]; omega) (by unfold maxLen; omega) (Hd _) ?_))
 intro w1 hown hgrow;have hb0:Below W.heap.size W w1:=(He _ _).grown hgrow (Hd _) (by simp);have hB0:wG w1 W.heap.size xs.length (fun j=>bq row (xs.getD j (.mk 0 fV 0 []))) 0:=⟨_,hown,fun j _ hj=>absurd hj (Iu _)⟩
 have c1:=(hb0.cell (p:=⟨vb,0,none⟩) k2).trans k5;clear hown hgrow k5 k6;go_wp2_with fail
 clear c1;go_loopw [12] (fun i wr=>∃ k:Nat,k≤xs.length∧i = .int .i64 k∧wG wr W.heap.size xs.length (fun j=>bq row (xs.getD j (.mk 0 fV 0 []))) k∧Below W.heap.size W wr) (fun i _=>xs.length - (intOf i).toNat)
 case atStart=>exact ⟨0,Hl _,rfl,hB0,hb0⟩
 case round =>
  obtain ⟨k,hk,rfl,HB,hb⟩:=hrel;have hz:=hb.size;by_cases hlt:k<xs.length
  ·obtain ⟨u,cu,A⟩:=HK.out k hlt;have cu:=(hb.cell (p:=⟨K,k,none⟩) k4).trans cu;obtain ⟨g,cb,rfl,eg,d⟩:=A;have d:=d row a cap wr hf (hs.next hb) (Since.of hb);dsimp only at d;have ev:bq row xs[k]=(fun j=>bq row (xs.getD j (.mk 0 fV 0 []))) k:=by simp [List.getD,hlt]
   rw [ev] at d;generalize (fun j=>bq row (xs.getD j (.mk 0 fV 0 [])))=f at *;have i0:(0:Int)≤(k:Int):=by omega
   have i1:(k:Int)<(xs.length:Int):=by omega
   go_wp2_with (go_at_fn g; refine d.mono ?_; rintro e w2 ⟨rfl,hb2⟩; have HB2:=HB.next hb2; obtain ⟨⟨u0,u1,u2,d0,d1,d2⟩,f0,f1,f2,hlb⟩:=HB2.cells hlt; have zz:=hb2.size)
   go_roundw
   case rel =>
    refine ⟨k+1,by omega,by go_num,?_,?_⟩
    ·exact HB2.step hlt
    ·exact (((chain hb hb2).setCell (p:=⟨W.heap.size,k*3,none⟩) (Hd _) _).setCell (p:=⟨W.heap.size,k*3+1,none⟩) (Hd _) _).setCell (p:=⟨W.heap.size,k*3+2,none⟩) (Hd _) _
   case measure=>simp [intOf]; omega
  ·have e:k=xs.length:=by omega
   subst e;go_wp2
   go_ret;exact ⟨rfl,HB.done (dU xs row) (by simp [dU]) (fun j hj=>by simp [dU] at hj; simp [dU,List.getD,hj]) (by simp [dU]; omega),hb⟩
theorem rM.Gi {af:List Int} {w:World} {n:Nat} (ks:List Ex) (hn:n=ks.length) (T T':TypeId) :
  rM af w.heap.size (w.heap.size+1) (w.heap.size+2) ((w.alloc (.cells (Array.replicate n Value.nilFunc) T)).alloc (.cells #[.slice (some ⟨w.heap.size,0,none⟩) n n] T')) ks 0:=by
 subst hn;refine ⟨⟨by omega,by omega,by omega,by simp⟩,?_,fun i hi=>⟨⟨Value.nilFunc,?_⟩,?_⟩,fun i _ h=>absurd h (Iu _)⟩
 ·rw [Iv _ _ _ _ (by simp)]; rfl
 ·rw [World.cell?_alloc_past _ _ _ (by simp),Iv _ _ _ _ rfl];simp [hi]
 ·rw [World.frozen?_alloc_past _ _ _ (by simp)];exact IX _ _ _ _ rfl
theorem qF (af:List Int) (xs:List Ex) (ca:Option Addr) (ccap:Nat) (xa:Option Addr) (xcap:Nat) (w:World) (hk:aO w.heap.size w xa xs) (hc:bo w.heap.size w ca af) :
  Calls Tryz.prog 79 #[.slice ca af.length ccap,.slice xa xs.length xcap] w fun e w'=>∃ u,e = .returned (.tuple #[u,.int .i64 (bj af xs)])∧((bj af xs=0∧iB af w.heap.size u xs w')∨(¬ bj af xs=0∧u = .nilFunc))∧Below w.heap.size w w':=by
 by_cases h8:8<xs.length
 ·have e:bj af xs=5:=by simp [bj,h8]
  rw [e];have hz:(8:Int)<(xs.length:Int):=by omega
  go_enter Tryz.func79,Tryz.ntmps79;go_wp2
  exact Hf (v:=.tuple #[.nilFunc,.int .i64 5]) (by simp [results,Tryz.results79,go_sem]) rfl ⟨_,rfl,.inr ⟨by decide,rfl⟩,He _ _⟩
 ·have e:bj af xs=cV af xs:=by simp [bj,h8]
  have HE:Hid (bj af xs=cV af xs):=e;generalize bj af xs=le at *;clear e;have hmk:=nK (show xs.length≤8 by omega);have F0:rM af w.heap.size (w.heap.size+1) (w.heap.size+2) ((w.alloc (.cells (Array.replicate xs.length Value.nilFunc) 156)).alloc (.cells #[.slice (some ⟨w.heap.size,0,none⟩) xs.length xs.length] 159)) xs 0:=rM.Gi xs rfl _ _
  have hA:Below w.heap.size w ((w.alloc (.cells (Array.replicate xs.length Value.nilFunc) 156)).alloc (.cells #[.slice (some ⟨w.heap.size,0,none⟩) xs.length xs.length] 159)):=((He _ _).alloc (Hd _) _).alloc (by simp) _;have hz:¬ (8:Int)<(xs.length:Int):=by omega
  go_enter Tryz.func79,Tryz.ntmps79;go_wp2_with fail
  generalize (w.alloc (.cells (Array.replicate xs.length Value.nilFunc) 156)).alloc (.cells #[.slice (some ⟨w.heap.size,0,none⟩) xs.length xs.length] 159)=w2 at *;clear hmk;go_loopw [20] (fun i wr=>∃ j:Nat,j≤xs.length∧i = .int .i64 j∧rM af w.heap.size (w.heap.size+1) (w.heap.size+2) wr xs j∧Hid (cV af xs=cV af (xs.drop j))∧Below w.heap.size w wr) (fun i _=>xs.length - (intOf i).toNat)
  case atStart=>exact ⟨0,Hl _,rfl,F0,rfl,hA⟩
  case round =>
   clear F0 hA;obtain ⟨j,hj,rfl,F,HT,hb⟩:=hrel;have hz:=hb.size;have hzF:=F.lt.2.2.2;by_cases hlt:j<xs.length
   ·obtain ⟨b,off,ai,ci,rfl,hbl,sx,kx⟩:=(aO.next hb (Hd _) hk).elem hlt;obtain ⟨x0,x1,x2,x3,x4,x5⟩:=sx;have hal:=aa wr (.cells #[.int .i64 xs[j].k,.int .i64 xs[j].v.1,.int .i64 xs[j].v.2.1,.string xs[j].v.2.2,.int .i64 xs[j].c,.slice ai xs[j].ks.length ci] 27);have Fk:=F.next hal;have Sk:=ik.new wr xs[j].k xs[j].v xs[j].c ai xs[j].ks.length ci 27
    have zk:(wr.alloc (.cells #[.int .i64 xs[j].k,.int .i64 xs[j].v.1,.int .i64 xs[j].v.2.1,.string xs[j].v.2.2,.int .i64 xs[j].c,.slice ai xs[j].ks.length ci] 27)).heap.size=wr.heap.size+1:=by simp
    have kk:=(aO.next hal hz kx).up (show w.heap.size≤(wr.alloc (.cells #[.int .i64 xs[j].k,.int .i64 xs[j].v.1,.int .i64 xs[j].v.2.1,.string xs[j].v.2.2,.int .i64 xs[j].c,.slice ai xs[j].ks.length ci] 27)).heap.size by omega);have cc:=((hc.next hb (Hd _)).next hal hz).up (show w.heap.size≤(wr.alloc (.cells #[.int .i64 xs[j].k,.int .i64 xs[j].v.1,.int .i64 xs[j].v.2.1,.string xs[j].v.2.2,.int .i64 xs[j].c,.slice ai xs[j].ks.length ci] 27)).heap.size by omega);obtain ⟨k0,k1,k2,k3,k4,k5⟩:=Sk;simp only [Hu] at k1 k2 k3 k4 k5;have hjz:(j:Int)<xs.length:=by omega
    by_cases h0:(ak af xs[j]).2=0
    ·have con:=gN af xs[j] ca ccap ai ci _ kk cc h0;have H0:Hid ((ak af xs[j]).2=0):=h0;clear h0;generalize (ak af xs[j]).1=t at *;go_wp2_with fail
     clear x0 x1 x2 x3 x4 x5 kx k0 k1 k2 k3 k4 k5 kk cc;generalize wr.alloc (.cells #[.int .i64 xs[j].k,.int .i64 xs[j].v.1,.int .i64 xs[j].v.2.1,.string xs[j].v.2.2,.int .i64 xs[j].c,.slice ai xs[j].ks.length ci] 27)=wk at *;refine con.mono ?_;rintro e w3 ⟨u,rfl,hA3,hb3⟩;clear con;have F3:=Fk.next hb3;have q1:=F3.box;obtain ⟨⟨un,q2⟩,q3⟩:=F3.room j hlt;obtain ⟨ug,ucb,rfl⟩:∃ g cb,u = .func (.func g) #[] cb:=by obtain ⟨g,cb,e,_⟩:=hA3; exact ⟨g,cb,e⟩
     go_wp2
     go_roundw
     case rel=>exact ⟨j+1,by omega,by go_num,F3.store hlt (hA3.down (by omega)),HT.out.trans (tm af xs j hlt H0.out),(chain (chain hb hal) hb3).setCell (p:=⟨w.heap.size,j,none⟩) (Hd _) _⟩
     case measure=>simp [intOf]; omega
    ·have con:=jM af xs[j] ca ccap ai ci _ kk cc h0;have HN:Hid (le=(ak af xs[j]).2):=HE.out.trans (HT.out.trans (tS af xs j hlt h0));have q:((ak af xs[j]).2 != 0)=true:=by simpa using h0
     generalize (ak af xs[j]).2=t2 at *;go_wp2_with fail
     clear x0 x1 x2 x3 x4 x5 kx k0 k1 k2 k3 k4 k5 kk cc;generalize wr.alloc (.cells #[.int .i64 xs[j].k,.int .i64 xs[j].v.1,.int .i64 xs[j].v.2.1,.string xs[j].v.2.2,.int .i64 xs[j].c,.slice ai xs[j].ks.length ci] 27)=wk at *;refine con.mono ?_;rintro e w3 ⟨rfl,hb3⟩;clear con;go_wp2
     exact Hf (v:=.tuple #[.nilFunc,.int .i64 t2]) (by simp [results,Tryz.results79,go_sem]) rfl ⟨_,by rw [HN.out],.inr ⟨by rw [HN.out]; exact h0,rfl⟩,chain (chain hb hal) hb3⟩
   ·have e:j=xs.length:=by omega
    subst e;have HN:Hid (le=0):=HE.out.trans (HT.out.trans (vP af xs _ (Hd _)));have KF:Hid (iF af w.heap.size wr (w.heap.size+1) xs):=F.kids (Hd _) (by omega);go_wp2_with fail
    refine Hf (v:=.tuple #[.func (.func 110) #[] #[.pointer (some ⟨w.heap.size+1,0,none⟩)],.int .i64 0]) (by simp [results,Tryz.results79,go_sem]) rfl ⟨_,by rw [HN.out],.inl ⟨HN.out,110,_,rfl,enters_of Tryz.func110 (by kernel_rfl) rfl,fun row a cap W hf hs hW=>?_⟩,hb⟩;exact Bt af w.heap.size (w.heap.size+1) xs a row cap W (KF.out.next hW) (by omega) hf hs
theorem yJ (af:List Int) (row:List Vl) (k:Nat) (h:row.length≤k):eL (af.drop k) (row.drop k)=0:=by
 rw [Ig h]; cases af.drop k <;> rfl
theorem rS (af:List Int) (row:List Vl) (k:Nat) (h:k<row.length) (h':k<af.length) (e:¬ bh row[k]=0):eL (af.drop k) (row.drop k)=bh row[k]:=by
 rw [Hk h,Hk h',eL,if_pos e]
theorem vk (af:List Int) (row:List Vl) (k:Nat) (h:k<row.length) (h':k<af.length) (e:bh row[k]=0) (e1:¬ row[k].1=1) (e2:¬ row[k].1=af[k]):eL (af.drop k) (row.drop k)=9:=by
 rw [Hk h,Hk h',eL,if_neg (by simp [e]),if_pos ⟨e1,e2⟩]
theorem oA (af:List Int) (row:List Vl) (k:Nat) (h:k<row.length) (h':k<af.length) (e:bh row[k]=0) (e1:row[k].1=1∨row[k].1=af[k]):eL (af.drop k) (row.drop k)=eL (af.drop (k+1)) (row.drop (k+1)):=by
 rw [Hk h,Hk h',eL,if_neg (by simp [e]),if_neg (by omega)]
theorem CV (af:List Int) (row:List Vl) (ca:Option Addr) (ccap:Nat) (ra:Option Addr) (rcap:Nat) (w:World) (hc:bo w.heap.size w ca af) (hs:aY w ra row) :
  Calls Tryz.prog 43 #[.slice ca af.length ccap,.slice ra row.length rcap] w fun e w'=>e = .returned (.int .i64 (ei af row))∧Below w.heap.size w w':=by
 have hl:=hs.1;unfold maxLen at hl;generalize hr:ei af row=r;have HR:Hid (ei af row=r):=hr;clear hr;by_cases hlen:row.length=af.length
 ·have HG:Hid (eL af row=r):=by show eL af row=r; rw [← HR.out,ei,if_neg (by simp [hlen])]
  have HL:Hid (row.length=af.length):=hlen;have q:((row.length:Int) != (af.length:Int))=false:=by simp; omega
  clear HR hlen;go_enter Tryz.func43,Tryz.ntmps43;go_wp2_with fail
  go_loopw [15] (fun i wr=>∃ j:Nat,j≤row.length∧i = .int .i64 j∧Hid (eL af row=eL (af.drop j) (row.drop j))∧Below w.heap.size w wr) (fun i _=>row.length - (intOf i).toNat)
  case atStart=>exact ⟨0,Hl _,rfl,rfl,He _ _⟩
  case round =>
   obtain ⟨j,hj,rfl,HE,hb⟩:=hrel;have hz:=hb.size;by_cases hlt:j<row.length
   ·have hlt':j<af.length:=by have:=HL.out; omega
    obtain ⟨b,off,rfl,hbl,r0,r1,r2⟩:=(hs.next hb).elem hlt;obtain ⟨b',off',rfl,hbl',c0⟩:=(hc.next hb (Hd _)).elem hlt';generalize hv:row[j]=v at *;generalize hcj:af[j]=cj at *;have HV:Hid (row[j]=v):=hv;have HC:Hid (af[j]=cj):=hcj;clear hv hcj;obtain ⟨k,n,s⟩:=v;have A0:=fy.new wr (.int .i64 k) (.int .i64 n) (.string s) 24;have d0:(wr.alloc (.cells #[.int .i64 k,.int .i64 n,.string s] 24)).cell? ⟨b',off'+j,none⟩=some (.int .i64 cj):=by
     rw [World.cell?_alloc_lt _ _ _ (by show b'<wr.heap.size; omega)]; exact c0
    go_wp2_with fail
    refine (gr _ _ _ _).mono ?_;rintro e w1 ⟨rfl,hb1⟩;have hb1':=hb.trans (jH hb1 |>.mono hz);have A1:=A0.next hb1;have c1:=(hb1.cell (p:=⟨b',off'+j,none⟩) (by simp; omega)).trans d0;clear r0 r1 r2 c0 A0 d0;by_cases hw:aR k n s=0
    ·rw [hw];have HW:Hid (bh row[j]=0):=by show bh row[j]=0; rw [HV.out]; exact hw
     clear hw;have p0:=ax A1.c0;have p1:=ax c1;haveI:Nonempty (du w1):=⟨⟨_,He _ _⟩⟩
     by_cases k1:k=1;subst k1;have HN:Hid (eL (af.drop j) (row.drop j)=eL (af.drop (j+1)) (row.drop (j+1))):=oA af row j hlt hlt' HW.out (.inl (by rw [HV.out]));rotate_left;have q1:(k != 1)=true:=by simpa using k1
     by_cases kc:k=cj;subst kc;have HN:Hid (eL (af.drop j) (row.drop j)=eL (af.drop (j+1)) (row.drop (j+1))):=oA af row j hlt hlt' HW.out (.inr (by rw [HV.out,HC.out]));rotate_left;have q2:(k != cj)=true:=by simpa using kc
     have er:r=9:=by rw [← HG.out,HE.out,vk af row j hlt hlt' HW.out (by rw [HV.out]; exact k1) (by rw [HV.out,HC.out]; exact kc)]
     subst er;clear HG HE;go_wp2_with fail
     refine aI (by kernel_rfl) (by kernel_rfl) ?_
     repeat (go_big_quiet_step (fail))
     refine wpQuiet_nil ?_;rintro w2 ⟨⟨v2,hb2⟩,h2⟩;obtain rfl:w2=v2:=h2;clear p0 p1 A1 c1;go_wp2_with fail
     go_ret;exact ⟨rfl,chain hb1' hb2⟩
     all_goals
      go_wp2_with fail
      refine aI (by kernel_rfl) (by kernel_rfl) ?_
      repeat (go_big_quiet_step (fail))
      refine wpQuiet_nil ?_;rintro w2 ⟨⟨v2,hb2⟩,h2⟩;obtain rfl:w2=v2:=h2;clear p0 p1 A1 c1;go_wp2_with fail
      go_roundw
      case rel=>exact ⟨j+1,by omega,by go_num,HE.out.trans HN.out,chain hb1' hb2⟩
      case measure=>simp [intOf]; omega
    ·have er:r=aR k n s:=by rw [← HG.out,HE.out,rS af row j hlt hlt' (by rw [HV.out]; exact hw),HV.out]; rfl
     subst er;clear HG HE;have q3:(aR k n s != 0)=true:=by simpa using hw
     go_wp2_with fail
     go_ret;exact ⟨rfl,hb1'⟩
   ·have er:r=0:=by rw [← HG.out,HE.out,yJ af row j (by omega)]
    subst er;clear HG HE;go_wp2_with fail
    go_ret;exact ⟨rfl,hb⟩
 ·have er:r=8:=by rw [← HR.out,ei,if_pos hlen]
  subst er;have q:((row.length:Int) != (af.length:Int))=true:=by simp; omega
  clear HR;go_enter Tryz.func43,Tryz.ntmps43;go_wp2_with fail
  go_ret;exact ⟨rfl,He _ _⟩
end Go.Proofs.YtjebpkhkjkjphaaGreat
namespace Go.Proofs.YtjebpkhkjkjphaaGreat
open Go.RowKit Go.Lib Go.Shelf
set_option maxRecDepth 100000
set_option maxHeartbeats 16000000
theorem gu (af:List Int) (ca:Option Addr) (ccap:Nat) (a:Option Addr) (cap:Nat) (l:List Zp) (w:World) (hc:bo w.heap.size w ca af) (h:bP w a l) :
  Calls Tryz.prog 29 #[.slice ca af.length ccap,.slice a l.length cap] w fun e w'=>e = .returned (.int .i64 (cG af l))∧Below w.heap.size w w':=by
 have hl:=h.1;unfold maxLen at hl;have hcl:=hc.1;unfold maxLen at hcl;by_cases h8:8<af.length
 ·have e:cG af l=5:=by simp [cG,h8]
  rw [e];have hz:(8:Int)<(af.length:Int):=by omega
  go_enter Tryz.func29,Tryz.ntmps29;go_wp2
  go_ret;exact ⟨rfl,He _ _⟩
 have hz:¬ (8:Int)<(af.length:Int):=by omega
 by_cases hw:dL l=0
 ·have e:cG af l=fY af l:=by simp [cG,h8,hw]
  rw [e];clear e;have Hw:Hid (dL l=0):=hw;clear hw;go_enter Tryz.func29,Tryz.ntmps29;go_wp2_with fail
  refine (pK _ _ _ _ h).mono ?_;rintro e w1 ⟨rfl,hb1⟩;rw [Hw.out];go_wp2_with fail
  go_loopw [19] (fun i wr=>∃ k:Nat,k≤l.length∧i = .int .i64 k∧Hid (fY af l=fY af (l.drop k))∧Below w.heap.size w wr) (fun i _=>l.length - (intOf i).toNat)
  case atStart=>exact ⟨0,Hl _,rfl,rfl,hb1⟩
  case round =>
   obtain ⟨k,hk,rfl,HC,hb⟩:=hrel;have hz:=hb.size;by_cases hlt:k<l.length
   ·obtain ⟨b,off,rfl,hbl,c1,ar,cr,c0,sr⟩:=(h.next hb).elem hlt;have hA:=hb.alloc hz (.cells #[.slice ar l[k].1.length cr,.int .i64 l[k].2] 63);have hal:=aa wr (.cells #[.slice ar l[k].1.length cr,.int .i64 l[k].2] 63);have con:=CV af l[k].1 ca ccap ar cr _ ((hc.next hA (Hd _)).up hA.size) (sr.next hal);by_cases hw:ei af l[k].1=0
    ·have Hw:Hid (ei af l[k].1=0):=hw;rw [hw] at con;clear hw;go_wp2_with fail
     refine con.mono ?_;rintro e w2 ⟨rfl,hb2⟩;go_wp2
     go_roundw
     case rel=>exact ⟨k+1,by omega,by go_num,HC.out.trans (uC af l k hlt Hw.out),kz hb hb2⟩
     case measure=>simp [intOf]; omega
    ·have HN:Hid (fY af l=ei af l[k].1):=HC.out.trans (zK af l k hlt hw);have hne:(ei af l[k].1 != 0)=true:=by simpa using hw
     generalize ei af l[k].1=t at *;go_wp2_with fail
     refine con.mono ?_;rintro e w2 ⟨rfl,hb2⟩;go_wp2
     go_ret;exact ⟨aQ HN.out.symm,kz hb hb2⟩
   ·have HN:Hid (fY af l=0):=HC.out.trans (yO af l k (by omega));go_wp2
    go_ret;exact ⟨aQ HN.out.symm,hb⟩
 ·have e:cG af l=dL l:=by simp [cG,h8,hw]
  rw [e];have hne:(dL l != 0)=true:=by simpa using hw
  go_enter Tryz.func29,Tryz.ntmps29;go_wp2_with fail
  refine (pK _ _ _ _ h).mono ?_;rintro e w1 ⟨rfl,hb1⟩;go_wp2
  go_ret;exact ⟨rfl,hb1⟩
def sX (w0:World) (base:Nat) (W:World) (v:Value) (l:List Zp):Prop:=∃ xs,W.ownsRow base 63 2 v l.length xs∧ku w0 xs l
theorem sX.next {w0 W w1:World} {base:Nat} {v:Value} {l:List Zp} (h:sX w0 base W v l) (hb:Below W.heap.size W w1):sX w0 base w1 v l:=by
 obtain ⟨xs,h1,h2⟩:=h;exact ⟨xs,bg h1 hb,h2⟩
theorem sX.zs {w0 W:World} {base:Nat} {v:Value} {l:List Zp} (h:sX w0 base W v l) (hb:Below w0.heap.size w0 W):∃ a cap,v = .slice a l.length cap∧bP W a l∧(a=none→cap=0):=by
 obtain ⟨xs,h1,h2⟩:=h;have h1':=h1;obtain ⟨hx,⟨rfl,h0⟩ | ⟨g,cap,cur,rfl,hg,hh,hn,hc,hs,ht⟩⟩:=h1
 ·have:l = []:=Hs h0;subst this;exact ⟨none,0,rfl,⟨by simp,.inl rfl⟩,fun _=>rfl⟩
 ·refine ⟨_,cap,rfl,⟨by omega,.inr ⟨g,0,rfl,(h1'.lt g rfl).2,fun i hi=>?_⟩⟩,fun e=>by cases e⟩;obtain ⟨a,cp,e0,e1,e2⟩:=h2.2 i hi;refine ⟨?_,a,cp,?_,e2.next hb⟩
  ·rw [h1'.cellAt _ (by omega),← e1]; congr 1; omega
  ·rw [h1'.cellAt _ (by omega),← e0]; congr 1; omega
theorem ma {lo base e size n:Nat} {W w1:World} {v:Value} {xs:List Value} (h:W.ownsRow base e size v n xs) (hl:lo≤base) (hs:Since lo W w1):w1.ownsRow base e size v n xs:=by
 have h':=h;obtain ⟨hx,h1 | ⟨g,cap,cur,rfl,hg,hh,rest⟩⟩:=h
 ·exact ⟨hx,.inl h1⟩
 ·exact ⟨hx,.inr ⟨g,cap,cur,rfl,hg,by rw [hs.2 g (by omega) (h'.lt g rfl).2]; exact hh,rest⟩⟩
theorem mQ {l:List Zp} (p:Zp→Bool) {k:Nat} (h:k<l.length):(l.take (k+1)).filter p=(l.take k).filter p ++ (if p l[k]=true then [l[k]] else []):=by
 rw [Ht h,List.filter_append]
 congr 1
 rw [List.filter_cons];rfl
theorem qn (g:Nat) (cb:Array Value) (p:Zp→Bool) (a:Option Addr) (cap:Nat) (l:List Zp) (w0 w:World) (Inv:World→Prop) (h:bP w0 a l) (hl:l.length≤100000)
  (eg:∀ args w,(callFunc g args).run Tryz.prog w = .ok (.enter g args) w) (hI0:Inv w) (hI1:∀ W,Inv W→Below w0.heap.size w0 W) (hI2:∀ W W',Inv W→Below w.heap.size W W'→Inv W')
  (hcall:∀ x ∈ l,∀ (ra:Option Addr) (rc:Nat) (W:World),Inv W→aY w0 ra x.1→w.heap.size≤W.heap.size→Calls Tryz.prog g (#[.agg #[.slice ra x.1.length rc,.int .i64 x.2]] ++ cb) W fun e w'=>e = .returned (.bool (p x))∧Inv w'∧Since w.heap.size W w') :
  Calls Tryz.prog 77 #[.slice a l.length cap,.func (.func g) #[] cb] w fun e w'=>∃ v,e = .returned v∧sX w0 w.heap.size w' v (l.filter p)∧Inv w'∧w.heap.size≤w'.heap.size:=by
 obtain ⟨i0,hi,hj0,hj1,hj2⟩:=info_parts Tryz.i5;have HC:Hid (∀ x ∈ l,∀ (ra:Option Addr) (rc:Nat) (W:World),Inv W→aY w0 ra x.1→w.heap.size≤W.heap.size→Calls Tryz.prog g (#[.agg #[.slice ra x.1.length rc,.int .i64 x.2]] ++ cb) W fun e w'=>e = .returned (.bool (p x))∧Inv w'∧Since w.heap.size W w'):=hcall;have H1:Hid (∀ W,Inv W→Below w0.heap.size w0 W):=hI1;have H2:Hid (∀ W W',Inv W→Below w.heap.size W W'→Inv W'):=hI2;clear hcall hI1 hI2;go_enter Tryz.func77,Tryz.ntmps77;go_wp2_with fail
 go_loopw [5,10] (fun v i wr=>∃ k:Nat,k≤l.length∧i = .int .i64 k∧sX w0 w.heap.size wr v ((l.take k).filter p)∧Hid (Inv wr)∧w.heap.size≤wr.heap.size) (fun _ i _=>l.length - (intOf i).toNat)
 case atStart=>exact ⟨0,Hl _,rfl,⟨[],by simpa using Iq _ _ _ _,by simp [ku]⟩,hI0,Hd _⟩
 case round =>
  clear hI0;obtain ⟨k,hk,rfl,HO,HI,hz⟩:=hrel;by_cases hlt:k<l.length
  ·obtain ⟨b,off,rfl,hbl,d1,ar,cr,d0,sr⟩:=h.elem hlt;have hB:=H1.out _ HI.out;have c1:=(hB.cell (p:=⟨b,_,none⟩) hbl).trans d1;have c0:=(hB.cell (p:=⟨b,_,none⟩) hbl).trans d0;have hbl':b<wr.heap.size:=Hi hbl hB.size;have hlen:((l.take k).filter p).length≤k:=by have:=IL p (l.take k); simp only [Ij] at this; omega
   have hal:=aa wr (.cells #[.slice ar l[k].1.length cr,.int .i64 l[k].2] 63);have IA:Inv (wr.alloc (.cells #[.slice ar l[k].1.length cr,.int .i64 l[k].2] 63)):=H2.out _ _ HI.out (hal.mono hz);have con:=HC.out l[k] (Hm hlt) ar cr _ IA sr (HJ hz hal.size);have q0:(wr.alloc (.cells #[.slice ar l[k].1.length cr,.int .i64 l[k].2] 63)).cell? ⟨wr.heap.size,0,none⟩=some (.slice ar l[k].1.length cr):=by simp
   have q1:(wr.alloc (.cells #[.slice ar l[k].1.length cr,.int .i64 l[k].2] 63)).cell? ⟨wr.heap.size,1,none⟩=some (.int .i64 l[k].2):=by simp
   have za:(wr.alloc (.cells #[.slice ar l[k].1.length cr,.int .i64 l[k].2] 63)).heap.size=wr.heap.size+1:=by simp
   have HS:Hid (aY w0 ar l[k].1):=sr;obtain ⟨xs,ho,he⟩:=HO;have HE:Hid (ku w0 xs ((l.take k).filter p)):=he;have ho1:=bg ho hal;clear d0 d1 sr he ho IA;by_cases hp:p l[k]=true
   ·rw [hp] at con;have HP:Hid (p l[k]=true):=hp;clear hp
    go_wp2_with (first | (go_at_fn g; refine con.mono ?_; rintro e w1 ⟨rfl,I1,s1⟩; have r0:=(s1.cell (p:=⟨wr.heap.size,0,none⟩) hz (by show wr.heap.size<_; omega)).trans q0; have r1:=(s1.cell (p:=⟨wr.heap.size,1,none⟩) hz (by show wr.heap.size<_; omega)).trans q1; have z1:=s1.1; have o1:=ma ho1 (Hd _) s1) | (at_builtin; refine IK _ rfl _ _ 37 rfl w.heap.size 63 i0 _ 2 32 Tryz.underlying37 hi hj0 hj1 hj2 rfl (by decide) _ _ _ rfl (o1.alloc _) ⟨w1.heap.size,0,none⟩ 1 1 [.slice ar l[k].1.length cr,.int .i64 l[k].2] rfl rfl ?Ac1 ?Ac2 ?Ac3 ?Ac4 ?Ac5 ?_))
    case Ac1 =>
     intro j u hj
     match j,hj with
     | 0,hj=>simp at hj; subst hj; simp [Addr.add]
     | 1,hj=>simp at hj; subst hj; simp [Addr.add]
    case Ac2=>intro u hu; simp at hu; rcases hu with rfl | rfl <;> rfl
    case Ac3=>unfold maxLen; omega
    case Ac4=>omega
    case Ac5=>simp; omega
    intro v' w5 ho5 hg5 _;have hb5:Below w.heap.size w1 w5:=((He w.heap.size w1).alloc (by omega) _).grown hg5 (by simp; omega) (fun q hq=>((o1.alloc (.cells #[.slice ar l[k].1.length cr,.int .i64 l[k].2] 63)).lt q hq).1);have HI1:Hid (Inv w5):=H2.out _ _ I1 hb5;have z5:=hb5.size;clear hg5 o1 I1 con q0 q1 ho1;go_wp2
    go_roundw
    case rel=>exact ⟨k+1,by omega,by go_num,by rw [mQ p hlt,if_pos HP.out]; exact ⟨_,by simpa using ho5,HE.out.push HS.out⟩,HI1,by omega⟩
    case measure=>simp [intOf]; omega
   ·have hp:p l[k]=false:=by simpa using hp
    rw [hp] at con;have HP:Hid (p l[k]=false):=hp;clear hp;go_wp2_with (go_at_fn g; refine con.mono ?_; rintro e w1 ⟨rfl,I1,s1⟩)
    have o1:=ma ho1 (Hd _) s1;have z1:=s1.1;have HI1:Hid (Inv w1):=I1;clear con q0 q1 ho1 I1;go_roundw
    case rel=>exact ⟨k+1,by omega,by go_num,by rw [mQ p hlt,HP.out,if_neg (by decide),Jc]; exact ⟨_,o1,HE.out⟩,HI1,by omega⟩
    case measure=>simp [intOf]; omega
  ·have e:k=l.length:=by omega
   subst e;rw [Ib] at HO;obtain ⟨av,cv,rfl,_⟩:=HO.zs (H1.out _ HI.out);go_wp2
   go_ret;exact ⟨_,rfl,HO,HI.out,hz⟩
end Go.Proofs.YtjebpkhkjkjphaaGreat
