/- Together: SA, G7, N2, N3, N4, N5, G9, GA, GB. -/
import Derived.Laws.EntriesVeiled
import Derived.Test.YtjebpkhkjkjphaaGreatM8
import Derived.Test.YtjebpkhkjkjphaaGreatM6
namespace Go.Proofs.YtjebpkhkjkjphaaGreat
open Go.RowKit Go.Lib Go.Shelf
set_option maxRecDepth 100000
set_option maxHeartbeats 16000000
def ju:Int→List Kp→List Zp
 | _,[]=>[]
 | n,x :: r=>(x.2.1,min x.2.2 n) :: ju (n - min x.2.2 n) r
theorem tq:∀ (n:Int) (l:List Kp),0≤n→(∀ x ∈ l,0<x.2.2)→∀ y ∈ ju n l,(∃ x ∈ l,y.1=x.2.1)∧0≤y.2∧y.2≤n
 | _,[],_,_,y,hy=>by simp [ju] at hy
 | n,x :: r,hn,hl,y,hy=>by
  rw [ju] at hy
  have hx:=hl x (by simp)
  rcases List.mem_cons.1 hy with rfl | hy
  ·exact ⟨⟨x,by simp,rfl⟩,by simp only; omega,by simp only; omega⟩
  ·obtain ⟨⟨q,hq,e⟩,h1,h2⟩:=tq _ r (by omega) (fun q hq=>hl q (by simp [hq])) y hy
   exact ⟨⟨q,by simp [hq],e⟩,h1,by omega⟩
theorem gz {xs:List Ex} {z:List Zp} {x:Kp}:x ∈ bc xs z↔(x.2 ∈ z∧0<x.2.2)∧x.1=dU xs x.2.1:=by
 rw [(jb xs z).mem_iff];unfold gX;rw [IS];constructor
 ·rintro ⟨p,hp,rfl⟩;have:=List.mem_filter.1 hp;exact ⟨⟨this.1,by simpa using this.2⟩,rfl⟩
 ·rintro ⟨⟨h1,h2⟩,h3⟩;exact ⟨x.2,List.mem_filter.2 ⟨h1,by simpa using h2⟩,by rw [← h3]⟩
def j9 (af:List Int) (xs:List Ex) (k:Int) (z:List Zp):Int:=if bj af xs≠0 then bj af xs else if k<0∨50<k then 3 else if cG af z≠0 then cG af z else bF (ju k (bc xs z))
def tJ (af:List Int) (xs:List Ex) (k:Int) (z:List Zp):List Zp:=if j9 af xs k z=0 then canon (ju k (bc xs z)) else []
theorem zQ {n:Int} {l:List Kp} {j:Nat} (h:j<l.length):ju n (l.drop j)=(l[j].2.1,min l[j].2.2 n) :: ju (n - min l[j].2.2 n) (l.drop (j+1)):=by
 rw [Hk h,ju]
theorem FL (af:List Int) (xs:List Ex) (n:Int) (hn64:-9223372036854775808≤n∧n≤9223372036854775807) (ca:Option Addr) (ccap:Nat) (xa:Option Addr) (xcap:Nat) (a:Option Addr) (cap:Nat) (l:List Zp) (w:World) (hc:bo w.heap.size w ca af) (hk:aO w.heap.size w xa xs) (h:bP w a l) :
  Calls Tryz.prog 53 #[.slice ca af.length ccap,.slice xa xs.length xcap,.int .i64 n,.slice a l.length cap] w fun e w'=>∃ v,e = .returned (.tuple #[v,.int .i64 (j9 af xs n l)])∧fN w.heap.size w' v (tJ af xs n l)∧Below w.heap.size w w':=by
 obtain ⟨i0,hi,hj0,hj1,hj2⟩:=info_parts Tryz.i5;have con:=qF af xs ca ccap xa xcap w hk hc;generalize hfz:tJ af xs n l=fz;generalize hfe:j9 af xs n l=fe;have HZ:Hid (tJ af xs n l=fz):=hfz;have HF:Hid (j9 af xs n l=fe):=hfe;clear hfz hfe;by_cases h1:bj af xs=0
 ·have H1:Hid (bj af xs=0):=h1;rw [h1] at con;clear h1;by_cases hr:n<0∨50<n
  ·have e0:fe=3:=by rw [← HF.out]; unfold j9; rw [H1.out,if_neg (by simp),if_pos hr]
   have e1:fz = []:=by rw [← HZ.out]; unfold tJ; rw [HF.out,e0,if_neg (by decide)]
   subst e0;have HV:Hid (fz = []):=e1;clear e1;go_enter Tryz.func53,Tryz.ntmps53;go_wp2_with fail
   refine con.mono ?_;rintro e w1 ⟨u,rfl,hL,hb1⟩;clear con hL;dsimp only;by_cases hr1:n<0
   ·go_wp2
    exact Hf (v:=.tuple #[.slice none 0 0,.int .i64 3]) (by simp [results,Tryz.results53,go_sem]) rfl ⟨_,rfl,by rw [HV.out]; exact dN _ _,hb1⟩
   ·have hr2:50<n:=by omega
    go_wp2
    exact Hf (v:=.tuple #[.slice none 0 0,.int .i64 3]) (by simp [results,Tryz.results53,go_sem]) rfl ⟨_,rfl,by rw [HV.out]; exact dN _ _,hb1⟩
  have hr1:¬ n<0:=fun h=>hr (.inl h)
  have hr2:¬ 50<n:=fun h=>hr (.inr h)
  have HRg:Hid (¬ (n<0∨50<n)):=hr;clear hr;go_enter Tryz.func53,Tryz.ntmps53;go_wp2_with fail
  refine con.mono ?_;rintro e w1 ⟨u,rfl,hL,hb1⟩;clear con;have hL:iB af w.heap.size u xs w1:=by
   rcases hL with ⟨_,hL⟩ | ⟨hL,_⟩
   ·exact hL
   ·exact absurd (by trivial) hL
  obtain ⟨g,cb,rfl,eg,d⟩:=hL;have HL:Hid (iB af w.heap.size (.func (.func g) #[] cb) xs w1):=⟨g,cb,rfl,eg,d⟩
  clear d;have con:=gu af ca ccap a cap l w1 ((hc.next hb1 (Hd _)).up hb1.size) (h.next hb1);by_cases h2:cG af l=0
  ·have hz:=(hJ af l).1 h2;rw [h2] at con;have H2:Hid (cG af l=0):=h2;clear h2;have HE:Hid (fe=bF (ju n (bc xs l))):=by
    show fe=_;rw [← HF.out]; unfold j9; rw [H1.out,H2.out,if_neg (by simp),if_neg HRg.out,if_neg (by simp)]
   have HV:Hid (fz=cB (ju n (bc xs l))):=by
    show fz=_;rw [← HZ.out]; unfold tJ cB; rw [HF.out,HE.out]
   have hl4:=gf hz;have HO:Hid (iv af l):=hz;dsimp only;go_wp2_with fail
   refine con.mono ?_;rintro e w2 ⟨rfl,hb2⟩;clear con;have hA:=chain hb1 hb2;have con:=nZ af xs (.func (.func g) #[] cb) w.heap.size a cap l w2 (HL.out.next (Since.of hb2)) HO.out (h.next hA);have hil:=mh xs l;generalize hio:bc xs l=L at *;have HI:Hid (bc xs l=L):=hio;clear hio;dsimp only;go_wp2_with fail
   refine con.mono ?_;rintro e w3 ⟨a3,c3,rfl,kd,hb3⟩;clear con;have hA3:=chain hA hb3;dsimp only;have HP:Hid (∀ x ∈ L,0<x.2.2):=fun x hx=>by rw [← HI.out] at hx; exact (gz.1 hx).1.2
   have HW:Hid (∀ x ∈ L,x.2.2≤1000000):=fun x hx=>by
    rw [← HI.out] at hx;have:=kB HO.out x.2 (gz.1 hx).1.1;rw [nB] at this;exact this.2
   clear hz;go_wp2_with fail
   go_loopw [13,14,44] (fun v s14 i wr=>∃ (k:Nat) (lf:Int) (acc:List Zp),k≤L.length∧i = .int .i64 k∧s14 = .int .i64 lf∧0≤lf∧lf≤50∧acc.length≤k∧sX w3 w3.heap.size wr v acc∧Hid (ju n L=acc ++ ju lf (L.drop k))∧Below w3.heap.size w3 wr) (fun _ _ i _=>L.length - (intOf i).toNat)
   case atStart=>exact ⟨0,n,[],Hl _,rfl,rfl,by omega,by omega,Hd _,⟨[],by simpa using Iq _ _ _ _,by simp [ku]⟩,rfl,He _ _⟩
   case round =>
    obtain ⟨k,lf,acc,hk',rfl,rfl,hf0,hf1,hacc,HOB,HT,hb⟩:=hrel;have hzr:=hb.size;by_cases hlt:k<L.length
    ·obtain ⟨b,off,rfl,hbl,e2,⟨ra,rc,e1,sr⟩,ka,kc,e0,_⟩:=kd.elem hlt;have p2:=(hb.cell (p:=⟨b,_,none⟩) hbl).trans e2;have p1:=(hb.cell (p:=⟨b,_,none⟩) hbl).trans e1;have p0:=(hb.cell (p:=⟨b,_,none⟩) hbl).trans e0;have hbl':b<wr.heap.size:=Hi hbl hzr;have HS:Hid (aY w3 ra L[k].2.1):=sr;have hw0:=HP.out L[k] (Hm hlt);have hw1:=HW.out L[k] (Hm hlt);have HD:Hid (ju lf (L.drop k)=(L[k].2.1,min L[k].2.2 lf) :: ju (lf - min L[k].2.2 lf) (L.drop (k+1))):=zQ hlt;obtain ⟨xs',ho,he⟩:=HOB;have HEn:Hid (ku w3 xs' acc):=he
     have hal:=aa wr (.cells #[.slice ka L[k].1.length kc,.slice ra L[k].2.1.length rc,.int .i64 L[k].2.2] 132);have ho1:=bg ho hal;have za:(wr.alloc (.cells #[.slice ka L[k].1.length kc,.slice ra L[k].2.1.length rc,.int .i64 L[k].2.2] 132)).heap.size=wr.heap.size+1:=by simp
     clear e0 e1 e2 sr he ho;go_wp2_with (at_builtin; refine IK _ rfl _ _ 37 rfl w3.heap.size 63 i0 _ 2 32 Tryz.underlying37 hi hj0 hj1 hj2 rfl (by decide) _ _ _ rfl (ho1.alloc _) ⟨wr.heap.size+1,0,none⟩ 1 1 [.slice ra L[k].2.1.length rc,.int .i64 (min L[k].2.2 lf)] rfl rfl ?Ac1 ?Ac2 ?Ac3 ?Ac4 ?Ac5 ?_)
     case Ac1 =>
      intro j u hj
      match j,hj with
      | 0,hj=>simp at hj; subst hj; simp [Addr.add]
      | 1,hj=>simp at hj; subst hj; simp [Addr.add]
     case Ac2=>intro u hu; simp at hu; rcases hu with rfl | rfl <;> rfl
     case Ac3=>unfold maxLen; omega
     case Ac4=>omega
     case Ac5=>simp; omega
     intro v' w5 ho5 hg5 _;have hb5:Below w3.heap.size wr w5:=(((He w3.heap.size wr).alloc (by omega) _).alloc (by simp; omega) _).grown hg5 (by simp; omega) (fun q hq=>((ho1.alloc (.cells #[.slice ra L[k].2.1.length rc,.int .i64 (min L[k].2.2 lf)] 63)).lt q hq).1);have hb6:=hb.trans hb5;clear hg5 ho1 hal hb5;go_wp2
     go_roundw
     case rel=>exact ⟨k+1,lf - min L[k].2.2 lf,acc ++ [(L[k].2.1,min L[k].2.2 lf)],by omega,by go_num,rfl,by omega,by omega,by simp; omega,⟨_,by simpa using ho5,HEn.out.push HS.out⟩,by show ju n L=_; rw [HT.out,HD.out]; simp,hb6⟩
     case measure=>simp [intOf]; omega
    ·have e:k=L.length:=by omega
     subst e;have ea:ju n L=acc:=by have:=HT.out; rw [List.drop_length] at this; simpa [ju] using this
     obtain ⟨a4,c4,rfl,zs4,_⟩:=HOB.zs hb;have hmem:=tq n L (by omega) HP.out;have con:=eX a4 c4 acc wr zs4 (by omega) (fun y hy=>by rw [← ea] at hy; have:=hmem y hy; rw [jE]; omega) (fun y hy=>by
      rw [← ea] at hy;obtain ⟨⟨x,hx,e⟩,_⟩:=hmem y hy;rw [e];rw [← HI.out] at hx;exact Fj HO.out x.2 (gz.1 hx).1.1)
     have HV':=HV.out;have HE':=HE.out;rw [ea] at HV' HE';rw [← HE',← HV'] at con;clear HV' HE' zs4 HOB ea hmem;go_wp2_with fail
     refine con.mono ?_;rintro e w6 ⟨v6,rfl,O6,hb6⟩;have hA6:=chain hA3 hb;have O6':=O6.mono hA6.size;obtain ⟨a6,c6,rfl,_⟩:=O6.zs;clear con O6;dsimp only;go_wp2
     exact Hf (v:=.tuple #[.slice a6 fz.length c6,.int .i64 fe]) (by simp [results,Tryz.results53,go_sem]) rfl ⟨_,rfl,O6',chain hA6 hb6⟩
  ·have e0:fe=cG af l:=by rw [← HF.out]; unfold j9; rw [H1.out,if_neg (by simp),if_neg HRg.out,if_pos h2]
   have e1:fz = []:=by rw [← HZ.out]; unfold tJ; rw [HF.out,e0,if_neg h2]
   have hne:(cG af l != 0)=true:=by simpa using h2
   rw [← e0] at con hne;have HV:Hid (fz = []):=e1;clear e0 e1 h2;dsimp only;go_wp2_with fail
   refine con.mono ?_;rintro e w2 ⟨rfl,hb2⟩;clear con;dsimp only;go_wp2
   exact Hf (v:=.tuple #[.slice none 0 0,.int .i64 fe]) (by simp [results,Tryz.results53,go_sem]) rfl ⟨_,rfl,by rw [HV.out]; exact dN _ _,chain hb1 hb2⟩
 ·have e0:fe=bj af xs:=by rw [← HF.out]; unfold j9; rw [if_pos h1]
  have e1:fz = []:=by rw [← HZ.out]; unfold tJ; rw [HF.out,e0,if_neg h1]
  have hne:(bj af xs != 0)=true:=by simpa using h1
  have HL:Hid (¬ bj af xs=0):=h1;rw [← e0] at hne;have HV:Hid (fz = []):=e1;have HN:Hid (fe=bj af xs):=e0;clear e0 e1 h1;go_enter Tryz.func53,Tryz.ntmps53;go_wp2_with fail
  refine con.mono ?_;rintro e w1 ⟨u,rfl,hL,hb1⟩;obtain ⟨_,rfl⟩:¬ bj af xs=0∧u = .nilFunc:=by
   rcases hL with ⟨hL,_⟩ | hL
   ·exact absurd hL HL.out
   ·exact hL
  rw [← HN.out];clear con;go_wp2
  exact Hf (v:=.tuple #[.slice none 0 0,.int .i64 fe]) (by simp [results,Tryz.results53,go_sem]) rfl ⟨_,rfl,by rw [HV.out]; exact dN _ _,hb1⟩
theorem yV (L:List Kp):∀ p ∈ cI L,(∀ r ∈ p.2,∃ x ∈ L,x.2=r)∧∃ x ∈ L,p.1=x.1:=by
 have aux:∀ (L:List Kp) (ps:List Pt) (P:Zp→Prop) (Q:List Vl→Prop),(∀ x ∈ L,P x.2∧Q x.1)→(∀ p ∈ ps,(∀ r ∈ p.2,P r)∧Q p.1)→∀ p ∈ L.foldl (fun ps x=>jC (cQ ps x) x.2) ps,(∀ r ∈ p.2,P r)∧Q p.1:=by
  intro L
  induction L with
  | nil=>intro ps P Q _ h; exact h
  | cons x r ih =>
   intro ps P Q hL h;rw [IV];refine ih _ P Q (fun y hy=>hL y (by simp [hy])) ?_;have hx:=hL x (by simp);have ho:∀ p ∈ cQ ps x,(∀ r ∈ p.2,P r)∧Q p.1:=fun p hp=>by
    have hnew:∀ p ∈ ps ++ [((x.1,[]):Pt)],(∀ r ∈ p.2,P r)∧Q p.1:=fun p hp=>by
     rcases List.mem_append.1 hp with hp | hp
     ·exact h p hp
     ·rw [List.mem_singleton.1 hp]; exact ⟨fun r hr=>by simp at hr,hx.2⟩
    unfold cQ at hp
    split at hp
    ·exact hnew p hp
    ·split at hp
     ·exact h p hp
     ·exact hnew p hp
   intro p hp;unfold jC at hp
   split at hp
   ·exact ho p hp
   ·rename_i hne
    rcases List.mem_or_eq_of_mem_set hp with hp | rfl
    ·exact ho p hp
    ·have hl:=ho _ (Hm (l:=cQ ps x) (n:=(cQ ps x).length - 1) (by omega));refine ⟨fun r hr=>?_,hl.2⟩;rcases List.mem_append.1 hr with hr | hr
     ·exact hl.1 r hr
     ·rw [List.mem_singleton.1 hr]; exact hx.1
 intro p hp;exact aux L [] (fun r=>∃ x ∈ L,x.2=r) (fun k=>∃ x ∈ L,k=x.1) (fun x hx=>⟨⟨x,hx,rfl⟩,⟨x,hx,rfl⟩⟩) (fun p hp=>by simp at hp) p hp
def dR (xs:List Ex) (L:List Kp):List Pt:=if xs.length=0∧(cI L).length=0 then [([],[])] else cI L
def cJ (xs:List Ex) (gs:List Ag) (L:List Kp):List Zp:=(dR xs L).map fun p=>(p.1 ++ gs.map fun g=>gU g p.2,1)
def dx (af:List Int) (xs:List Ex) (gs:List Ag) (z:List Zp):Int:=if 8<xs.length+gs.length then 5 else if bj af xs≠0 then bj af xs else if cN af gs≠0 then cN af gs else if cG af z≠0 then cG af z else bF (cJ xs gs (bc xs z))
def iZ (af:List Int) (xs:List Ex) (gs:List Ag) (z:List Zp):List Zp:=if dx af xs gs z=0 then canon (cJ xs gs (bc xs z)) else []
theorem Av {af:List Int} {xs:List Ex} {z:List Zp} (h:iv af z):(dR xs (bc xs z)).length≤401∧∀ p ∈ dR xs (bc xs z),yC af p.2∧p.1.length=xs.length:=by
 have hs:=mL (bc xs z);have hl:=mh xs z;have h4:=gf h;have hp:∀ p ∈ cI (bc xs z),yC af p.2∧p.1.length=xs.length:=fun p hp=>by
  obtain ⟨h1,x,hx,e⟩:=yV (bc xs z) p hp;refine ⟨⟨by have:=hs.2 p hp; omega,fun r hr=>?_,fun r hr=>?_⟩,?_⟩
  ·obtain ⟨y,hy,rfl⟩:=h1 r hr;exact h.fit _ (gz.1 hy).1.1
  ·obtain ⟨y,hy,rfl⟩:=h1 r hr;have hm:=gz.1 hy;have:=kB h y.2 hm.1.1;rw [nB] at this;have:=hm.1.2;omega
  ·rw [e,(gz.1 hx).2]; simp [dU]
 unfold dR
 split
 ·rename_i hc
  refine ⟨by simp,fun p hp'=>?_⟩;rw [List.mem_singleton.1 hp'];exact ⟨⟨Hl _,fun r hr=>by simp at hr,fun r hr=>by simp at hr⟩,hc.1.symm⟩
 ·exact ⟨by have:=hs.1; omega,hp⟩
def Gj (W:World) (b o:Nat) (p:Pt):Prop:=(∃ ka kc,W.cell? ⟨b,o,none⟩=some (.slice ka p.1.length kc)∧aY W ka p.1)∧∃ ra rc,W.cell? ⟨b,o+1,none⟩=some (.slice ra p.2.length rc)∧bP W ra p.2
theorem Gj.next {W w1:World} {b o:Nat} {p:Pt} (h:Gj W b o p) (hlt:b<W.heap.size) (hb:Below W.heap.size W w1):Gj w1 b o p:=by
 obtain ⟨⟨ka,kc,h1,h2⟩,ra,rc,h3,h4⟩:=h;exact ⟨⟨ka,kc,(hb.cell (p:=⟨b,_,none⟩) hlt).trans h1,h2.next hb⟩,ra,rc,(hb.cell (p:=⟨b,_,none⟩) hlt).trans h3,h4.next hb⟩
def vK (W:World) (a:Option Addr) (ps:List Pt):Prop:=ps = []∨∃ b off,a=some ⟨b,off,none⟩∧b<W.heap.size∧∀ i (hi:i<ps.length),Gj W b (off+i*2) ps[i]
theorem vK.next {W w1:World} {a:Option Addr} {ps:List Pt} (h:vK W a ps) (hb:Below W.heap.size W w1):vK w1 a ps:=by
 rcases h with h | ⟨b,off,e,hlt,h⟩
 ·exact .inl h
 ·exact .inr ⟨b,off,e,Hi hlt hb.size,fun i hi=>(h i hi).next hlt hb⟩
theorem vK.elem {W:World} {a:Option Addr} {ps:List Pt} (h:vK W a ps) {i:Nat} (hi:i<ps.length):∃ b off,a=some ⟨b,off,none⟩∧b<W.heap.size∧Gj W b (off+i*2) ps[i]:=by
 rcases h with h | ⟨b,off,e,hlt,h⟩
 ·subst h; simp at hi
 ·exact ⟨b,off,e,hlt,h i hi⟩
theorem jq.pt {w0:World} {B:Nat} {W:World} {v:Value} {ps:List Pt} (h:jq w0 B W v ps) (hb:Below w0.heap.size w0 W):∃ a c,v = .slice a ps.length c∧vK W a ps:=by
 obtain ⟨xs,Bl,rv,zs,I⟩:=h;have o:=I.own;rcases o.2 with ⟨rfl,h0⟩ | ⟨g,cap,cur,rfl,_⟩
 ·exact ⟨none,0,by rw [h0],.inl (Hs h0)⟩
 ·refine ⟨_,cap,rfl,.inr ⟨g,0,rfl,(o.lt g rfl).2,fun i hi=>?_⟩⟩;obtain ⟨ka,kc,e0,s0⟩:=I.key i hi;obtain ⟨ra,rc,er,zr⟩:=wI (I.AM hi) rfl (I.row i hi).2 hb;refine ⟨⟨ka,kc,?_,s0.next hb⟩,ra,rc,?_,zr⟩
  ·rw [Hu,o.cellAt _ (by omega)]; exact e0
  ·rw [Hu,o.cellAt _ (by omega),I.cell i hi,er]
theorem Bn (af:List Int) (xs:List Ex) (gs:List Ag) (hT:∀ g ∈ gs,bT af g=0→dY g.1) (hsum:xs.length+gs.length≤9223372036854775807) (ca:Option Addr) (ccap:Nat) (xa:Option Addr) (xcap:Nat) (ga:Option Addr) (gcap:Nat) (a:Option Addr) (cap:Nat) (l:List Zp) (w:World) (hc:bo w.heap.size w ca af) (hk:aO w.heap.size w xa xs) (hg:fJ w.heap.size w ga gs) (h:bP w a l) :
  Calls Tryz.prog 52 #[.slice ca af.length ccap,.slice xa xs.length xcap,.slice ga gs.length gcap,.slice a l.length cap] w fun e w'=>∃ v,e = .returned (.tuple #[v,.int .i64 (dx af xs gs l)])∧fN w.heap.size w' v (iZ af xs gs l)∧Below w.heap.size w w':=by
 obtain ⟨i0,hi,hz0,hz1,hz2⟩:=info_parts Tryz.i5;have con:=qF af xs ca ccap xa xcap w hk hc;generalize hfz:iZ af xs gs l=fz;generalize hfe:dx af xs gs l=fe;have HZ:Hid (iZ af xs gs l=fz):=hfz;have HF:Hid (dx af xs gs l=fe):=hfe;have HTo:Hid (∀ g ∈ gs,bT af g=0→dY g.1):=hT;clear hfz hfe hT;have hW:IntKind.i64.wrap ((xs.length:Int)+(gs.length:Int))=(xs.length:Int)+(gs.length:Int):=IntWalk.i64_in _ ⟨by omega,by omega⟩;by_cases h8:8<xs.length+gs.length
 ·have e0:fe=5:=by rw [← HF.out]; unfold dx; rw [if_pos h8]
  have e1:fz = []:=by rw [← HZ.out]; unfold iZ; rw [HF.out,e0,if_neg (by decide)]
  subst e0 e1;have hz:(8:Int)<(xs.length:Int)+(gs.length:Int):=by omega
  clear con;go_enter Tryz.func52,Tryz.ntmps52;go_wp2_with fail
  exact Hf (v:=.tuple #[.slice none 0 0,.int .i64 5]) (by simp [results,Tryz.results52,go_sem]) rfl ⟨_,rfl,dN _ _,He _ _⟩
 have hz:¬ (8:Int)<(xs.length:Int)+(gs.length:Int):=by omega
 have HN8:Hid (¬ 8<xs.length+gs.length):=h8;by_cases h1:bj af xs=0
 ·have H1:Hid (bj af xs=0):=h1;rw [h1] at con;clear h1;go_enter Tryz.func52,Tryz.ntmps52;go_wp2_with fail
  refine con.mono ?_;rintro e w1 ⟨u,rfl,hL,hb1⟩;clear con;have hL:iB af w.heap.size u xs w1:=by
   rcases hL with ⟨_,hL⟩ | ⟨hL,_⟩
   ·exact hL
   ·exact absurd (by trivial) hL
  have HL:Hid (iB af w.heap.size u xs w1):=hL;obtain ⟨ug,ucb,rfl⟩:∃ g cb,u = .func (.func g) #[] cb:=by obtain ⟨g,cb,e,_⟩:=hL; exact ⟨g,cb,e⟩
  clear hL;have con:=px af gs HTo.out ca ccap ga gcap w1 ((fJ.next hb1 (Hd _) hg).up hb1.size) ((hc.next hb1 (Hd _)).up hb1.size) (by omega);by_cases h2:cN af gs=0
  ·have H2:Hid (cN af gs=0):=h2;rw [h2] at con;clear h2;dsimp only;go_wp2_with fail
   refine con.mono ?_;rintro e w2 ⟨u2,rfl,hG,hb2⟩;clear con;have hG:zI af w1.heap.size u2 gs w2:=by
    rcases hG with ⟨_,hG⟩ | ⟨hG,_⟩
    ·exact hG
    ·exact absurd (by trivial) hG
   obtain ⟨tg,tcb,rfl,egt,dt⟩:=hG;have HD:Hid (∀ (rows:List Zp) (a:Option Addr) (cap:Nat) (W:World),yC af rows→bP W a rows→Since w1.heap.size w2 W→Calls Tryz.prog tg (#[.slice a rows.length cap] ++ tcb) W fun e w'=>e = .returned (.slice (some ⟨W.heap.size,0,none⟩) gs.length gs.length)∧kt W.heap.size w' (gs.map fun g=>gU g rows)∧Below W.heap.size W w'):=dt;clear dt;have hA2:=chain hb1 hb2;have con:=gu af ca ccap a cap l w2 ((hc.next hA2 (Hd _)).up hA2.size) (h.next hA2);by_cases h3:cG af l=0
   ·have HO:Hid (iv af l):=(hJ af l).1 h3;rw [h3] at con;have H3:Hid (cG af l=0):=h3;clear h3;have HE:Hid (fe=bF (cJ xs gs (bc xs l))):=by
     show fe=_;rw [← HF.out]; unfold dx; rw [if_neg HN8.out,H1.out,H2.out,H3.out,if_neg (by simp),if_neg (by simp),if_neg (by simp)]
    have HV:Hid (fz=cB (cJ xs gs (bc xs l))):=by
     show fz=_;rw [← HZ.out]; unfold iZ cB; rw [HF.out,HE.out]
    have hl4:=gf HO.out;dsimp only;go_wp2_with fail
    refine con.mono ?_;rintro e w3 ⟨rfl,hb3⟩;clear con;have hA3:=chain hA2 hb3;have con:=nZ af xs (.func (.func ug) #[] ucb) w.heap.size a cap l w3 (HL.out.next (Since.of (chain hb2 hb3))) HO.out (h.next hA3);have hil:=mh xs l;dsimp only;go_wp2_with fail
    refine con.mono ?_;rintro e w4 ⟨a4,c4,rfl,kd,hb4⟩;clear con;have con:=yx a4 c4 (bc xs l) w4 kd (by omega);have hpk:=Av (xs:=xs) HO.out;have HPk:Hid (∀ p ∈ dR xs (bc xs l),yC af p.2∧p.1.length=xs.length):=hpk.2;have hpl:=hpk.1;clear hpk;dsimp only;go_wp2_with fail
    refine con.mono ?_;rintro e w5 ⟨v5,rfl,PS,hb5⟩;clear con kd;obtain ⟨a5,c5,rfl,PT⟩:=PS.pt hb5;clear PS;have hA5:=chain (chain hA3 hb4) hb5;have hS5:=chain (chain hb3 hb4) hb5;have HG:Hid (cJ xs gs (bc xs l)=(dR xs (bc xs l)).map fun p=>(p.1 ++ gs.map fun g=>gU g p.2,1)):=rfl;dsimp only;by_cases hcx:xs.length=0∧(cI (bc xs l)).length=0
    ·obtain ⟨hx0,hp0⟩:=hcx;have eG:dR xs (bc xs l) = [([],[])]:=by unfold dR; rw [if_pos ⟨hx0,hp0⟩]
     have hx0b:((xs.length:Int) == 0)=true:=by simp [hx0]
     have hp0b:(((cI (bc xs l)).length:Int) == 0)=true:=by simp [hp0]
     obtain ⟨ps,eps⟩:∃ ps,ps=dR xs (bc xs l):=⟨_,rfl⟩
     have HPs:Hid (dR xs (bc xs l)=ps):=eps.symm;have hpsl:ps.length=1:=by rw [eps,eG]; rfl
     have hplx:ps.length≤401:=by omega
     generalize hpn:(cI (bc xs l)).length=pn at *;have hal5:=aa w5 (.cells #[.slice none 0 0,.slice none 0 0] 129);have q5:=an w5 #[.slice none 0 0,.slice none 0 0] 129;have PT:vK (w5.alloc (.cells #[.slice none 0 0,.slice none 0 0] 129)) (some ⟨w5.heap.size,0,none⟩) ps:=by
      rw [eps,eG];refine .inr ⟨w5.heap.size,0,rfl,ae q5,fun i hi=>?_⟩;have e0:i=0:=by simpa using hi
      subst e0;exact ⟨⟨none,0,cell_of (i:=0) q5 rfl,Hl _,.inl rfl⟩,none,0,cell_of (i:=1) q5 rfl,Hl _,.inl rfl⟩
     clear eps hpn eG hp0;go_upto_region 15 with fail
     have hbx:=chain hA5 hal5;have hSx:=chain hS5 hal5;generalize w5.alloc (.cells #[.slice none 0 0,.slice none 0 0] 129)=wx at *;obtain ⟨pa,epa⟩:∃ pa,pa=some (⟨w5.heap.size,0,none⟩:Addr):=⟨_,rfl⟩
     rw [← epa] at PT ⊢;clear epa;rw [show (1:Nat)=ps.length from hpsl.symm];clear hpsl hx0b hp0b hx0;have hgl:(cJ xs gs (bc xs l)).length=ps.length:=by rw [HG.out,HPs.out]; simp
     go_wp2_with (first | (at_make; refine wpList_make_full _ rfl _ _ 37 rfl wx.heap.size 63 i0 _ 2 Tryz.underlying37 hi hz0 hz1 .i64 .i64 ps.length ps.length ps.length rfl rfl rfl rfl (by rw [hz2]; omega) (by unfold maxLen; omega) (Hd _) ?_))
     intro w6 hown hgrow;have hb6:Below wx.heap.size wx w6:=(He _ _).grown hgrow (Hd _) (by simp);obtain ⟨f,hf⟩:∃ f:Nat→Zp,f=(fun j=>(cJ xs gs (bc xs l)).getD j ([],0)):=⟨_,rfl⟩
     have HFn:Hid (f=(fun j=>(cJ xs gs (bc xs l)).getD j ([],0))):=hf;have HGl:Hid ((cJ xs gs (bc xs l)).length=ps.length):=hgl;clear hf hgl;have hB0:tR w6 wx.heap.size ps.length f 0:=⟨_,hown,fun j _ hj=>absurd hj (Iu _)⟩
     clear hown hgrow;go_wp2_with fail
     go_loopw [67] (fun i wr=>∃ k:Nat,k≤ps.length∧i = .int .i64 k∧tR wr wx.heap.size ps.length f k∧wx.heap.size<wr.heap.size∧Below wx.heap.size wx wr) (fun i _=>ps.length - (intOf i).toNat)
     case atStart=>exact ⟨0,Hl _,rfl,hB0,(by obtain ⟨xs0,o0,_⟩:=hB0; exact (o0.lt wx.heap.size rfl).2),hb6⟩
     case round =>
      clear hB0 hb6;obtain ⟨k,hk',rfl,HB,hwx,hb⟩:=hrel;have hzz:=hb.size;by_cases hlt:k<ps.length
      ·obtain ⟨b,off,rfl,hbl,⟨ka,kc,c0,sk⟩,ra,rc,c1,zr⟩:=(PT.next hb).elem hlt;have hal:=aa wr (.cells #[.slice ka ps[k].1.length kc,.slice ra ps[k].2.length rc] 129);have q0:=an wr #[.slice ka ps[k].1.length kc,.slice ra ps[k].2.length rc] 129;have hpo:=HPk.out ps[k] (by rw [HPs.out]; exact Hm hlt);have HRo:Hid (yC af ps[k].2):=hpo.1;have hkl:=hpo.2;have HSk:Hid (aY wr ka ps[k].1):=sk;have HZr:Hid (bP wr ra ps[k].2):=zr;have ef:f k=(ps[k].1 ++ gs.map fun g=>gU g ps[k].2,1):=by
        rw [HFn.out];simp only [HG.out,HPs.out];simp [List.getD,hlt]
       have EF:Hid (f k=(ps[k].1 ++ gs.map fun g=>gU g ps[k].2,1)):=ef;have i0':(0:Int)≤(k:Int):=by omega
       have i1:(k:Int)<(ps.length:Int):=by omega
       have hkl8:ps[k].1.length+gs.length≤8:=by omega
       clear ef sk zr hpo hkl;go_wp2_with fail
       clear c0 c1;generalize wr.alloc (.cells #[.slice ka ps[k].1.length kc,.slice ra ps[k].2.length rc] 129)=wk at *;have hCC:∀ W W':World,(W.heap[wr.heap.size]? = some (.cells #[.slice ka ps[k].1.length kc,.slice ra ps[k].2.length rc] 129 (0,0)))→Below W.heap.size W W'→(W'.heap[wr.heap.size]? = some (.cells #[.slice ka ps[k].1.length kc,.slice ra ps[k].2.length rc] 129 (0,0))):=fun W W' h hb=>(hb.block _ (ae h)).trans h
       have hd:Below wk.heap.size wk wk.drew:=(He _ _).drew;have CW:(wk.drew.heap[wr.heap.size]? = some (.cells #[.slice ka ps[k].1.length kc,.slice ra ps[k].2.length rc] 129 (0,0))):=hCC _ _ q0 hd;refine aG (fun W=>(W.heap[wr.heap.size]? = some (.cells #[.slice ka ps[k].1.length kc,.slice ra ps[k].2.length rc] 129 (0,0)))) (by kernel_rfl) ?_;refine ab hCC 72 (i:=0) (v:=.slice (some ⟨wx.heap.size,0,none⟩) ps.length ps.length) (fun n hn=>?_) CW ?_
       ·go_simp
       simp only [Act.put,pA,pB,pC];refine ab hCC 73 (i:=1) (v:=.int .i64 (k:Int)) (fun n hn=>?_) CW ?_
       ·go_simp
       simp only [Act.put,pA,pB,pC];refine ab hCC 74 (i:=2) (v:=.pointer (some ⟨wr.heap.size,0,none⟩)) (fun n hn=>?_) CW ?_
       ·go_simp
       simp only [Act.put,pA,pB,pC];refine ab hCC 75 (i:=3) (v:=.slice ka ps[k].1.length kc) (fun n hn=>?_) CW ?_
       ·have hc:n.cell? ⟨wr.heap.size,0,none⟩=some (.slice ka ps[k].1.length kc):=cell_of (i:=0) hn rfl;go_simp
       simp only [Act.put,pA,pB,pC];refine ab hCC 76 (i:=4) (v:=.func (.func tg) #[] tcb) (fun n hn=>?_) CW ?_
       ·go_simp
       simp only [Act.put,pA,pB,pC];refine ab hCC 77 (i:=5) (v:=.pointer (some ⟨wr.heap.size,1,none⟩)) (fun n hn=>?_) CW ?_
       ·go_simp
       simp only [Act.put,pA,pB,pC];refine ab hCC 78 (i:=6) (v:=.slice ra ps[k].2.length rc) (fun n hn=>?_) CW ?_
       ·have hc:n.cell? ⟨wr.heap.size,1,none⟩=some (.slice ra ps[k].2.length rc):=cell_of (i:=1) hn rfl;go_simp
       simp only [Act.put,pA,pB,pC];refine au (rs:=[7]) (by kernel_rfl) (by simp) ?_;intro w7 hb7 jj hj;obtain rfl:jj=7:=by simpa using hj
       clear hj;have CW7:=hCC _ _ CW hb7;have D7:=chain hal (chain hd hb7);have con:=HD.out ps[k].2 ra rc w7 HRo.out (HZr.out.next D7) (Since.of (chain hSx (chain hb D7)));refine wpOp_step rfl (fun K hK=>?_);go_simp
       first | (refine con.mono ?_) | (go_at_fn tg; refine con.mono ?_)
       rintro e w8 ⟨rfl,hRN,hb8⟩;clear con;have CW8:=hCC _ _ CW7 hb8;have D8:=chain D7 hb8;refine hK _ _ ⟨CW8,?_⟩;clear hK K;refine au (rs:=[8]) (by kernel_rfl) (by simp) ?_;intro w9 hb9 jj hj;obtain rfl:jj=8:=by simpa using hj
       clear hj;refine wpOp_step rfl (fun K hK=>?_);go_simp;have CW9:=hCC _ _ CW8 hb9;have D9:=chain D8 hb9;have R2:=fP (hRN.1.next hb9);have hgm:(gs.map fun g=>gU g ps[k].2).length=gs.length:=by simp
       rw [hgm] at R2;have PC:=hM.new kc gs.length (fP (HSk.out.next D9)) R2 61;have halA:=aa w9 (.cells #[.slice ka ps[k].1.length kc,.slice (some ⟨w7.heap.size,0,none⟩) gs.length gs.length] 61);have CWA:=hCC _ _ CW9 halA;have DA:=chain D9 halA;refine hK _ _ ⟨CWA,?_⟩;clear hK K R2 hgm hRN;generalize w9.alloc (.cells #[.slice ka ps[k].1.length kc,.slice (some ⟨w7.heap.size,0,none⟩) gs.length gs.length] 61)=wA at *;refine au (rs:=[9]) (by kernel_rfl) (by simp) ?_;intro wB hbB jj hj
       obtain rfl:jj=9:=by simpa using hj
       clear hj;refine wpOp_step rfl (fun K hK=>?_);go_simp;have CWB:=hCC _ _ CWA hbB;have DB:=chain DA hbB;refine (kv _ _ _ _ _ wB (PC.next hbB) (by omega)).mono ?_;rintro e wC ⟨vC,rfl,OC,hbC⟩;rw [← dX] at OC;obtain ⟨aC,cC,rfl,SC,TC,_⟩:=kJ OC (by simp);have CWC:=hCC _ _ CWB hbC;have DC:=chain DB hbC;refine hK _ _ ⟨CWC,?_⟩;clear hK K OC PC CW7 CW8 CW9 CWA CWB CW;obtain ⟨rr,err⟩:∃ rr,rr=ps[k].1 ++ gs.map fun g=>gU g ps[k].2:=⟨_,rfl⟩
       rw [← err] at SC ⊢;have EFr:Hid (f k=(rr,1)):=by show _=_; rw [err]; exact EF.out
       clear err EF;refine ab hCC 82 (i:=10) (v:=.agg #[.slice aC rr.length cC,.int .i64 1]) (fun n hn=>?_) CWC ?_
       ·go_simp
       simp only [Act.put,pA,pB,pC];refine ab hCC 83 (i:=11) (v:=.pointer (some ⟨wx.heap.size,k*2,none⟩)) (fun n hn=>?_) CWC ?_
       ·go_simp
       simp only [Act.put,pA,pB,pC];refine au (rs:=[12]) (by kernel_rfl) (by simp) ?_;intro wD hbD jj hj;obtain rfl:jj=12:=by simpa using hj
       clear hj;have CWD:=hCC _ _ CWC hbD;have DD:=chain DC hbD;have HBD:=(HB.next DD)
       obtain ⟨⟨u0,u1,d0,d1⟩,f0,f1,hlb⟩:=HBD.cells hlt;have MS:=HBD.step hlt (a:=aC) (cap:=cC) (by rw [EFr.out]; exact SC.next hbD) (TC.next hbD);rw [EFr.out] at MS;have hne:wr.heap.size≠wx.heap.size:=by omega
       have CWE:(((wD.setCell ⟨wx.heap.size,k*2,none⟩ (.slice aC rr.length cC)).setCell ⟨wx.heap.size,k*2+1,none⟩ (.int .i64 1)).heap[wr.heap.size]? = some (.cells #[.slice ka ps[k].1.length kc,.slice ra ps[k].2.length rc] 129 (0,0))):=(Im _ _ _ _ hne).trans ((Im _ _ _ _ hne).trans CWD);have BE:Below wx.heap.size wx ((wD.setCell ⟨wx.heap.size,k*2,none⟩ (.slice aC rr.length cC)).setCell ⟨wx.heap.size,k*2+1,none⟩ (.int .i64 1)):=((chain hb DD).setCell (p:=⟨wx.heap.size,k*2,none⟩) (Hd _) _).setCell (p:=⟨wx.heap.size,k*2+1,none⟩) (Hd _) _
       have zE:wx.heap.size<((wD.setCell ⟨wx.heap.size,k*2,none⟩ (.slice aC rr.length cC)).setCell ⟨wx.heap.size,k*2+1,none⟩ (.int .i64 1)).heap.size:=by simpa [World.setCell] using hlb
       refine wpOp_step rfl (fun K hK=>?_);go_simp;refine hK _ _ ⟨CWE,?_⟩;clear hK K CWD CWC d0 d1 f0 f1 HBD SC TC;generalize (wD.setCell ⟨wx.heap.size,k*2,none⟩ (.slice aC rr.length cC)).setCell ⟨wx.heap.size,k*2+1,none⟩ (.int .i64 1)=wE at *;refine bd (by kernel_rfl) ?_;intro wF hbF;have MF:=MS.next hbF;have BF:=chain BE hbF;have zF:=hbF.size;clear MS BE CWE hCC;go_wp2_with fail
       go_roundw
       case rel=>exact ⟨k+1,by omega,by go_num,MF,by omega,BF⟩
       case measure=>simp [intOf]; omega
      ·have e:k=ps.length:=by omega
       subst e;have zsm:=HB.done (cJ xs gs (bc xs l)) HGl.out.symm (fun j hj=>by rw [HFn.out]; simp [List.getD,hj]) (by rw [HGl.out]; omega);have hmem:∀ y ∈ cJ xs gs (bc xs l),y.2=1∧y.1.length≤8:=fun y hy=>by
        rw [HG.out] at hy;obtain ⟨p,hp,rfl⟩:=List.mem_map.1 hy;have:=(HPk.out p hp).2;exact ⟨rfl,by simp; omega⟩
       have con:=eX (some ⟨wx.heap.size,0,none⟩) ps.length (cJ xs gs (bc xs l)) wr zsm (by rw [HGl.out]; omega) (fun y hy=>by rw [(hmem y hy).1]; rfl) (fun y hy=>(hmem y hy).2);rw [HGl.out,← HE.out,← HV.out] at con;clear zsm HB hmem;have hAr:=chain hbx hb;go_wp2_with fail
       refine con.mono ?_;rintro e w9 ⟨v9,rfl,O9,hb9⟩;have O9':=O9.mono hAr.size;obtain ⟨a9,c9,rfl,_⟩:=O9.zs;clear con O9;dsimp only;go_wp2_with fail
       exact Hf (v:=.tuple #[.slice a9 fz.length c9,.int .i64 fe]) (by simp [results,Tryz.results52,go_sem]) rfl ⟨_,rfl,O9',chain hAr hb9⟩
    ·have eG:dR xs (bc xs l)=cI (bc xs l):=by unfold dR; rw [if_neg hcx]
     obtain ⟨ps,eps⟩:∃ ps,ps=dR xs (bc xs l):=⟨_,rfl⟩
     have HPs:Hid (dR xs (bc xs l)=ps):=eps.symm;have eP:cI (bc xs l)=ps:=by rw [eps,eG]
     rw [eP] at hcx PT ⊢;have hplx:ps.length≤401:=by rw [eps]; exact hpl
     clear eps eG eP;obtain ⟨wx,hwx5⟩:∃ z,z=w5:=⟨_,rfl⟩
     subst hwx5;have hbx:=hA5;have hSx:=hS5;by_cases e1:xs.length=0;have e2n:¬ (ps.length:Int)=0:=fun e2=>hcx ⟨e1,by omega⟩
     have e2:((ps.length:Int) == 0)=false:=by rw [beq_eq_false_iff_ne]; exact e2n
     have e1b:((xs.length:Int) == 0)=true:=by simp [e1]
     clear hcx e1;go_upto_region 15 with fail
     clear e1b e2 e2n;rotate_left;have e1n:¬ (xs.length:Int)=0:=by omega
     have e1b:((xs.length:Int) == 0)=false:=by rw [beq_eq_false_iff_ne]; exact e1n
     clear hcx e1;go_upto_region 15 with fail
     clear e1b e1n
     all_goals
      have hgl:(cJ xs gs (bc xs l)).length=ps.length:=by rw [HG.out,HPs.out]; simp
      go_wp2_with (first | (at_make; refine wpList_make_full _ rfl _ _ 37 rfl wx.heap.size 63 i0 _ 2 Tryz.underlying37 hi hz0 hz1 .i64 .i64 ps.length ps.length ps.length rfl rfl rfl rfl (by rw [hz2]; omega) (by unfold maxLen; omega) (Hd _) ?_))
      intro w6 hown hgrow;have hb6:Below wx.heap.size wx w6:=(He _ _).grown hgrow (Hd _) (by simp);obtain ⟨f,hf⟩:∃ f:Nat→Zp,f=(fun j=>(cJ xs gs (bc xs l)).getD j ([],0)):=⟨_,rfl⟩
      have HFn:Hid (f=(fun j=>(cJ xs gs (bc xs l)).getD j ([],0))):=hf;have HGl:Hid ((cJ xs gs (bc xs l)).length=ps.length):=hgl;clear hf hgl;have hB0:tR w6 wx.heap.size ps.length f 0:=⟨_,hown,fun j _ hj=>absurd hj (Iu _)⟩
      clear hown hgrow;go_wp2_with fail
      go_loopw [67] (fun i wr=>∃ k:Nat,k≤ps.length∧i = .int .i64 k∧tR wr wx.heap.size ps.length f k∧wx.heap.size<wr.heap.size∧Below wx.heap.size wx wr) (fun i _=>ps.length - (intOf i).toNat)
      case atStart=>exact ⟨0,Hl _,rfl,hB0,(by obtain ⟨xs0,o0,_⟩:=hB0; exact (o0.lt wx.heap.size rfl).2),hb6⟩
      case round =>
       clear hB0 hb6;obtain ⟨k,hk',rfl,HB,hwx,hb⟩:=hrel;have hzz:=hb.size;by_cases hlt:k<ps.length
       ·obtain ⟨b,off,rfl,hbl,⟨ka,kc,c0,sk⟩,ra,rc,c1,zr⟩:=(PT.next hb).elem hlt;have hal:=aa wr (.cells #[.slice ka ps[k].1.length kc,.slice ra ps[k].2.length rc] 129);have q0:=an wr #[.slice ka ps[k].1.length kc,.slice ra ps[k].2.length rc] 129;have hpo:=HPk.out ps[k] (by rw [HPs.out]; exact Hm hlt);have HRo:Hid (yC af ps[k].2):=hpo.1;have hkl:=hpo.2;have HSk:Hid (aY wr ka ps[k].1):=sk;have HZr:Hid (bP wr ra ps[k].2):=zr;have ef:f k=(ps[k].1 ++ gs.map fun g=>gU g ps[k].2,1):=by
         rw [HFn.out];simp only [HG.out,HPs.out];simp [List.getD,hlt]
        have EF:Hid (f k=(ps[k].1 ++ gs.map fun g=>gU g ps[k].2,1)):=ef;have i0':(0:Int)≤(k:Int):=by omega
        have i1:(k:Int)<(ps.length:Int):=by omega
        have hkl8:ps[k].1.length+gs.length≤8:=by omega
        clear ef sk zr hpo hkl;go_wp2_with fail
        clear c0 c1;generalize wr.alloc (.cells #[.slice ka ps[k].1.length kc,.slice ra ps[k].2.length rc] 129)=wk at *;have hCC:∀ W W':World,(W.heap[wr.heap.size]? = some (.cells #[.slice ka ps[k].1.length kc,.slice ra ps[k].2.length rc] 129 (0,0)))→Below W.heap.size W W'→(W'.heap[wr.heap.size]? = some (.cells #[.slice ka ps[k].1.length kc,.slice ra ps[k].2.length rc] 129 (0,0))):=fun W W' h hb=>(hb.block _ (ae h)).trans h
        have hd:Below wk.heap.size wk wk.drew:=(He _ _).drew;have CW:(wk.drew.heap[wr.heap.size]? = some (.cells #[.slice ka ps[k].1.length kc,.slice ra ps[k].2.length rc] 129 (0,0))):=hCC _ _ q0 hd;refine aG (fun W=>(W.heap[wr.heap.size]? = some (.cells #[.slice ka ps[k].1.length kc,.slice ra ps[k].2.length rc] 129 (0,0)))) (by kernel_rfl) ?_;refine ab hCC 72 (i:=0) (v:=.slice (some ⟨wx.heap.size,0,none⟩) ps.length ps.length) (fun n hn=>?_) CW ?_
        ·go_simp
        simp only [Act.put,pA,pB,pC];refine ab hCC 73 (i:=1) (v:=.int .i64 (k:Int)) (fun n hn=>?_) CW ?_
        ·go_simp
        simp only [Act.put,pA,pB,pC];refine ab hCC 74 (i:=2) (v:=.pointer (some ⟨wr.heap.size,0,none⟩)) (fun n hn=>?_) CW ?_
        ·go_simp
        simp only [Act.put,pA,pB,pC];refine ab hCC 75 (i:=3) (v:=.slice ka ps[k].1.length kc) (fun n hn=>?_) CW ?_
        ·have hc:n.cell? ⟨wr.heap.size,0,none⟩=some (.slice ka ps[k].1.length kc):=cell_of (i:=0) hn rfl;go_simp
        simp only [Act.put,pA,pB,pC];refine ab hCC 76 (i:=4) (v:=.func (.func tg) #[] tcb) (fun n hn=>?_) CW ?_
        ·go_simp
        simp only [Act.put,pA,pB,pC];refine ab hCC 77 (i:=5) (v:=.pointer (some ⟨wr.heap.size,1,none⟩)) (fun n hn=>?_) CW ?_
        ·go_simp
        simp only [Act.put,pA,pB,pC];refine ab hCC 78 (i:=6) (v:=.slice ra ps[k].2.length rc) (fun n hn=>?_) CW ?_
        ·have hc:n.cell? ⟨wr.heap.size,1,none⟩=some (.slice ra ps[k].2.length rc):=cell_of (i:=1) hn rfl;go_simp
        simp only [Act.put,pA,pB,pC];refine au (rs:=[7]) (by kernel_rfl) (by simp) ?_;intro w7 hb7 jj hj;obtain rfl:jj=7:=by simpa using hj
        clear hj;have CW7:=hCC _ _ CW hb7;have D7:=chain hal (chain hd hb7);have con:=HD.out ps[k].2 ra rc w7 HRo.out (HZr.out.next D7) (Since.of (chain hSx (chain hb D7)));refine wpOp_step rfl (fun K hK=>?_);go_simp
        first | (refine con.mono ?_) | (go_at_fn tg; refine con.mono ?_)
        rintro e w8 ⟨rfl,hRN,hb8⟩;clear con;have CW8:=hCC _ _ CW7 hb8;have D8:=chain D7 hb8;refine hK _ _ ⟨CW8,?_⟩;clear hK K;refine au (rs:=[8]) (by kernel_rfl) (by simp) ?_;intro w9 hb9 jj hj;obtain rfl:jj=8:=by simpa using hj
        clear hj;refine wpOp_step rfl (fun K hK=>?_);go_simp;have CW9:=hCC _ _ CW8 hb9;have D9:=chain D8 hb9;have R2:=fP (hRN.1.next hb9);have hgm:(gs.map fun g=>gU g ps[k].2).length=gs.length:=by simp
        rw [hgm] at R2;have PC:=hM.new kc gs.length (fP (HSk.out.next D9)) R2 61;have halA:=aa w9 (.cells #[.slice ka ps[k].1.length kc,.slice (some ⟨w7.heap.size,0,none⟩) gs.length gs.length] 61);have CWA:=hCC _ _ CW9 halA;have DA:=chain D9 halA;refine hK _ _ ⟨CWA,?_⟩;clear hK K R2 hgm hRN;generalize w9.alloc (.cells #[.slice ka ps[k].1.length kc,.slice (some ⟨w7.heap.size,0,none⟩) gs.length gs.length] 61)=wA at *;refine au (rs:=[9]) (by kernel_rfl) (by simp) ?_;intro wB hbB jj hj
        obtain rfl:jj=9:=by simpa using hj
        clear hj;refine wpOp_step rfl (fun K hK=>?_);go_simp;have CWB:=hCC _ _ CWA hbB;have DB:=chain DA hbB;refine (kv _ _ _ _ _ wB (PC.next hbB) (by omega)).mono ?_;rintro e wC ⟨vC,rfl,OC,hbC⟩;rw [← dX] at OC;obtain ⟨aC,cC,rfl,SC,TC,_⟩:=kJ OC (by simp);have CWC:=hCC _ _ CWB hbC;have DC:=chain DB hbC;refine hK _ _ ⟨CWC,?_⟩;clear hK K OC PC CW7 CW8 CW9 CWA CWB CW;obtain ⟨rr,err⟩:∃ rr,rr=ps[k].1 ++ gs.map fun g=>gU g ps[k].2:=⟨_,rfl⟩
        rw [← err] at SC ⊢;have EFr:Hid (f k=(rr,1)):=by show _=_; rw [err]; exact EF.out
        clear err EF;refine ab hCC 82 (i:=10) (v:=.agg #[.slice aC rr.length cC,.int .i64 1]) (fun n hn=>?_) CWC ?_
        ·go_simp
        simp only [Act.put,pA,pB,pC];refine ab hCC 83 (i:=11) (v:=.pointer (some ⟨wx.heap.size,k*2,none⟩)) (fun n hn=>?_) CWC ?_
        ·go_simp
        simp only [Act.put,pA,pB,pC];refine au (rs:=[12]) (by kernel_rfl) (by simp) ?_;intro wD hbD jj hj;obtain rfl:jj=12:=by simpa using hj
        clear hj;have CWD:=hCC _ _ CWC hbD;have DD:=chain DC hbD;have HBD:=(HB.next DD)
        obtain ⟨⟨u0,u1,d0,d1⟩,f0,f1,hlb⟩:=HBD.cells hlt;have MS:=HBD.step hlt (a:=aC) (cap:=cC) (by rw [EFr.out]; exact SC.next hbD) (TC.next hbD);rw [EFr.out] at MS;have hne:wr.heap.size≠wx.heap.size:=by omega
        have CWE:(((wD.setCell ⟨wx.heap.size,k*2,none⟩ (.slice aC rr.length cC)).setCell ⟨wx.heap.size,k*2+1,none⟩ (.int .i64 1)).heap[wr.heap.size]? = some (.cells #[.slice ka ps[k].1.length kc,.slice ra ps[k].2.length rc] 129 (0,0))):=(Im _ _ _ _ hne).trans ((Im _ _ _ _ hne).trans CWD);have BE:Below wx.heap.size wx ((wD.setCell ⟨wx.heap.size,k*2,none⟩ (.slice aC rr.length cC)).setCell ⟨wx.heap.size,k*2+1,none⟩ (.int .i64 1)):=((chain hb DD).setCell (p:=⟨wx.heap.size,k*2,none⟩) (Hd _) _).setCell (p:=⟨wx.heap.size,k*2+1,none⟩) (Hd _) _
        have zE:wx.heap.size<((wD.setCell ⟨wx.heap.size,k*2,none⟩ (.slice aC rr.length cC)).setCell ⟨wx.heap.size,k*2+1,none⟩ (.int .i64 1)).heap.size:=by simpa [World.setCell] using hlb
        refine wpOp_step rfl (fun K hK=>?_);go_simp;refine hK _ _ ⟨CWE,?_⟩;clear hK K CWD CWC d0 d1 f0 f1 HBD SC TC;generalize (wD.setCell ⟨wx.heap.size,k*2,none⟩ (.slice aC rr.length cC)).setCell ⟨wx.heap.size,k*2+1,none⟩ (.int .i64 1)=wE at *;refine bd (by kernel_rfl) ?_;intro wF hbF;have MF:=MS.next hbF;have BF:=chain BE hbF;have zF:=hbF.size;clear MS BE CWE hCC;go_wp2_with fail
        go_roundw
        case rel=>exact ⟨k+1,by omega,by go_num,MF,by omega,BF⟩
        case measure=>simp [intOf]; omega
       ·have e:k=ps.length:=by omega
        subst e;have zsm:=HB.done (cJ xs gs (bc xs l)) HGl.out.symm (fun j hj=>by rw [HFn.out]; simp [List.getD,hj]) (by rw [HGl.out]; omega);have hmem:∀ y ∈ cJ xs gs (bc xs l),y.2=1∧y.1.length≤8:=fun y hy=>by
         rw [HG.out] at hy;obtain ⟨p,hp,rfl⟩:=List.mem_map.1 hy;have:=(HPk.out p hp).2;exact ⟨rfl,by simp; omega⟩
        have con:=eX (some ⟨wx.heap.size,0,none⟩) ps.length (cJ xs gs (bc xs l)) wr zsm (by rw [HGl.out]; omega) (fun y hy=>by rw [(hmem y hy).1]; rfl) (fun y hy=>(hmem y hy).2);rw [HGl.out,← HE.out,← HV.out] at con;clear zsm HB hmem;have hAr:=chain hbx hb;go_wp2_with fail
        refine con.mono ?_;rintro e w9 ⟨v9,rfl,O9,hb9⟩;have O9':=O9.mono hAr.size;obtain ⟨a9,c9,rfl,_⟩:=O9.zs;clear con O9;dsimp only;go_wp2_with fail
        exact Hf (v:=.tuple #[.slice a9 fz.length c9,.int .i64 fe]) (by simp [results,Tryz.results52,go_sem]) rfl ⟨_,rfl,O9',chain hAr hb9⟩
   ·have e0:fe=cG af l:=by rw [← HF.out]; unfold dx; rw [if_neg HN8.out,H1.out,H2.out,if_neg (by simp),if_neg (by simp),if_pos h3]
    have e1:fz = []:=by rw [← HZ.out]; unfold iZ; rw [HF.out,e0,if_neg h3]
    have hne:(cG af l != 0)=true:=by simpa using h3
    rw [← e0] at con hne;have HV:Hid (fz = []):=e1;clear e0 e1 h3;dsimp only;go_wp2_with fail
    refine con.mono ?_;rintro e w3 ⟨rfl,hb3⟩;clear con;dsimp only;go_wp2_with fail
    exact Hf (v:=.tuple #[.slice none 0 0,.int .i64 fe]) (by simp [results,Tryz.results52,go_sem]) rfl ⟨_,rfl,by rw [HV.out]; exact dN _ _,chain hA2 hb3⟩
  ·have e0:fe=cN af gs:=by rw [← HF.out]; unfold dx; rw [if_neg HN8.out,H1.out,if_neg (by simp),if_pos h2]
   have e1:fz = []:=by rw [← HZ.out]; unfold iZ; rw [HF.out,e0,if_neg h2]
   have hne:(cN af gs != 0)=true:=by simpa using h2
   have HL2:Hid (¬ cN af gs=0):=h2;rw [← e0] at hne;have HV:Hid (fz = []):=e1;have HN:Hid (fe=cN af gs):=e0;clear e0 e1 h2;dsimp only;go_wp2_with fail
   refine con.mono ?_;rintro e w2 ⟨u2,rfl,hG,hb2⟩;obtain ⟨_,rfl⟩:¬ cN af gs=0∧u2 = .nilFunc:=by
    rcases hG with ⟨hG,_⟩ | hG
    ·exact absurd hG HL2.out
    ·exact hG
   rw [← HN.out];clear con;dsimp only;go_wp2_with fail
   exact Hf (v:=.tuple #[.slice none 0 0,.int .i64 fe]) (by simp [results,Tryz.results52,go_sem]) rfl ⟨_,rfl,by rw [HV.out]; exact dN _ _,chain hb1 hb2⟩
 ·have e0:fe=bj af xs:=by rw [← HF.out]; unfold dx; rw [if_neg HN8.out,if_pos h1]
  have e1:fz = []:=by rw [← HZ.out]; unfold iZ; rw [HF.out,e0,if_neg h1]
  have hne:(bj af xs != 0)=true:=by simpa using h1
  have HL:Hid (¬ bj af xs=0):=h1;rw [← e0] at hne;have HV:Hid (fz = []):=e1;have HN:Hid (fe=bj af xs):=e0;clear e0 e1 h1;go_enter Tryz.func52,Tryz.ntmps52;go_wp2_with fail
  refine con.mono ?_;rintro e w1 ⟨u,rfl,hL,hb1⟩;obtain ⟨_,rfl⟩:¬ bj af xs=0∧u = .nilFunc:=by
   rcases hL with ⟨hL,_⟩ | hL
   ·exact absurd hL HL.out
   ·exact hL
  rw [← HN.out];clear con;go_wp2_with fail
  exact Hf (v:=.tuple #[.slice none 0 0,.int .i64 fe]) (by simp [results,Tryz.results52,go_sem]) rfl ⟨_,rfl,by rw [HV.out]; exact dN _ _,hb1⟩
end Go.Proofs.YtjebpkhkjkjphaaGreat
namespace Go.Proofs.YtjebpkhkjkjphaaGreat
open Go.RowKit
set_option maxRecDepth 100000
set_option maxHeartbeats 16000000
def dI (k:Int):Nat:=if k=1 then 0 else if 4≤k∧k≤9 then 2 else 1
theorem kU (k:Int):dI k≤2:=by
 unfold dI
 split
 ·decide
 ·split <;> decide
def dH (k:Int) (len:Nat) (n d:Int):Int:=if 60<n∨15<d then 4 else if k<1∨13<k then 1 else if len≠dI k then 5 else 0
def gH (af:List Int) (xs:List Ex):List Int:=xs.map fun x=>(ak af x).1
def rk (af:List Int) (g:Ag):Int:=if g.1=4∨g.1=5 then (ak af g.2).1 else 3
def iM:List Int→List Int→Int
 | a :: l,b :: r=>if (bJ a b).2≠0 then (bJ a b).2 else iM l r
 | _,_=>0
def dQ:List Int→List Int→List Int
 | a :: l,b :: r=>(bJ a b).1 :: dQ l r
 | _,_=>[]
def oT (l r:List Int):Int:=if l.length≠r.length then 8 else iM l r
def fm (k n:Int) (x:Ex) (xs:List Ex) (gs:List Ag) (af:List Int):Int:=if k=2 then fR af x [] else if k=3 then j6 af xs [] else if k=12 then dx af xs gs [] else if k=13 then j9 af xs n [] else 0
def jS (k:Int) (xs:List Ex) (gs:List Ag) (af:List Int):List Int:=if k=3 then gH af xs else if k=12 then gH af xs ++ gs.map (rk af) else af
def ni (k:Int) (x:Ex) (l r:List Int):Int:=if k=8∨k=9 then oT l r else fC 0 l r x [] []
def nu (k:Int) (l r:List Int):List Int:=if k=8∨k=9 then dQ l r else if k=5∨k=6 then l else l ++ r
def ep (ts:List (List Int)) (k n:Int) (x:Ex) (xs:List Ex) (gs:List Ag) (cs:List (List Int)):Int:=match cs with
 | []=>if n<0∨ts.length≤n then 7 else 0
 | [c]=>fm k n x xs gs c
 | l :: r :: _=>ni k x l r
def fx (ts:List (List Int)) (k n:Int) (xs:List Ex) (gs:List Ag) (cs:List (List Int)):List Int:=match cs with
 | []=>ts.getD n.toNat []
 | [c]=>jS k xs gs c
 | l :: r :: _=>nu k l r
mutual
def aj (ts:List (List Int)):Pl→List Int
 | .mk k n _ xs gs ks=>fx ts k n xs gs (aU ts ks)
def aU (ts:List (List Int)):List Pl→List (List Int)
 | []=>[]
 | p :: r=>aj ts p :: aU ts r
end
theorem cn (ts:List (List Int)):∀ l,aU ts l=l.map (aj ts)
 | []=>by simp [aU]
 | p :: r=>by rw [aU,cn ts r,I0]
mutual
def aS (ts:List (List Int)):Pl→Int→Int→Int × Int
 | .mk k n x xs gs ks,m,d =>
  if dH k ks.length (m+1) d≠0 then (dH k ks.length (m+1) d,m+1)
  else if (aP ts ks (m+1) (d+1)).1≠0 then aP ts ks (m+1) (d+1)
  else (ep ts k n x xs gs (aU ts ks),(aP ts ks (m+1) (d+1)).2)
def aP (ts:List (List Int)):List Pl→Int→Int→Int × Int
 | [],m,_=>(0,m)
 | p :: r,m,d=>if (aS ts p m d).1≠0 then aS ts p m d else aP ts r (aS ts p m d).2 d
end
theorem oW {ts:List (List Int)} {ks:List Pl} {m d:Int} {j:Nat} (h:j<ks.length) (he:¬ (aS ts ks[j] m d).1=0):aP ts (ks.drop j) m d=aS ts ks[j] m d:=by
 rw [Hk h,aP,if_pos he]
theorem rZ {ts:List (List Int)} {ks:List Pl} {m d:Int} {j:Nat} (h:j<ks.length) (he:(aS ts ks[j] m d).1=0):aP ts (ks.drop j) m d=aP ts (ks.drop (j+1)) (aS ts ks[j] m d).2 d:=by
 rw [Hk h,aP,if_neg (by simp [he])]
theorem tW {ts:List (List Int)} {ks:List Pl} {m d:Int} {j:Nat} (h:ks.length≤j):aP ts (ks.drop j) m d=(0,m):=by
 rw [Ig h,aP]
def gP (B:Nat) (W:World) (a:Option Addr) (l:List (List Int)):Prop:=l = []∨∃ (b off:Nat) (ai:Nat→Option Addr) (ci:Nat→Nat),a=some ⟨b,off,none⟩∧b<B∧∀ (i:Nat) (h:i<l.length),W.cell? ⟨b,off+i,none⟩=some (.slice (ai i) l[i].length (ci i))∧bo B W (ai i) l[i]
theorem gP.next {B B':Nat} {W w1:World} {a:Option Addr} {l:List (List Int)} (h:gP B W a l) (hb:Below B' W w1) (hB:B≤B'):gP B w1 a l:=by
 rcases h with h | ⟨b,off,ai,ci,e,hlt,h⟩
 ·exact .inl h
 ·exact .inr ⟨b,off,ai,ci,e,hlt,fun i hi=>⟨(hb.cell (p:=⟨b,_,none⟩) (Hi hlt hB)).trans (h i hi).1,(h i hi).2.next hb hB⟩⟩
theorem gP.up {B B':Nat} {W:World} {a:Option Addr} {l:List (List Int)} (h:gP B W a l) (hB:B≤B'):gP B' W a l:=by
 rcases h with h | ⟨b,off,ai,ci,e,hlt,h⟩
 ·exact .inl h
 ·exact .inr ⟨b,off,ai,ci,e,Hi hlt hB,fun i hi=>⟨(h i hi).1,(h i hi).2.up hB⟩⟩
theorem gP.elem {B:Nat} {W:World} {a:Option Addr} {l:List (List Int)} (h:gP B W a l) {i:Nat} (hi:i<l.length):∃ b off ai ci,a=some ⟨b,off,none⟩∧b<B∧W.cell? ⟨b,off+i,none⟩=some (.slice ai l[i].length ci)∧bo B W ai l[i]:=by
 rcases h with h | ⟨b,off,ai,ci,e,hlt,h⟩
 ·subst h; simp at hi
 ·exact ⟨b,off,ai i,ci i,e,hlt,h i hi⟩
def AA (W:World) (a:Option Addr) (l:List (List Zp)):Prop:=l = []∨∃ (b off:Nat) (ai:Nat→Option Addr) (ci:Nat→Nat),a=some ⟨b,off,none⟩∧b<W.heap.size∧∀ (i:Nat) (h:i<l.length),W.cell? ⟨b,off+i,none⟩=some (.slice (ai i) l[i].length (ci i))∧bP W (ai i) l[i]∧(ai i=none→ci i=0)
theorem AA.next {W w1:World} {a:Option Addr} {l:List (List Zp)} (h:AA W a l) (hb:Below W.heap.size W w1):AA w1 a l:=by
 rcases h with h | ⟨b,off,ai,ci,e,hlt,h⟩
 ·exact .inl h
 ·exact .inr ⟨b,off,ai,ci,e,Hi hlt hb.size,fun i hi=>⟨(hb.cell (p:=⟨b,_,none⟩) hlt).trans (h i hi).1,(h i hi).2.1.next hb,(h i hi).2.2⟩⟩
theorem AA.elem {W:World} {a:Option Addr} {l:List (List Zp)} (h:AA W a l) {i:Nat} (hi:i<l.length):∃ b off ai ci,a=some ⟨b,off,none⟩∧b<W.heap.size∧W.cell? ⟨b,off+i,none⟩=some (.slice ai l[i].length ci)∧bP W ai l[i]∧(ai=none→ci=0):=by
 rcases h with h | ⟨b,off,ai,ci,e,hlt,h⟩
 ·subst h; simp at hi
 ·exact ⟨b,off,ai i,ci i,e,hlt,h i hi⟩
structure Kept (B lo:Nat) (W w1:World):Prop where
 low:Below B W w1
 high:∀ k,k<W.heap.size→lo≤k→w1.heap[k]? = W.heap[k]?
theorem Kept.of {B lo:Nat} {W w1:World} (h:Below W.heap.size W w1) (hB:B≤W.heap.size):Kept B lo W w1:=⟨h.mono hB,fun k hk _=>h.block k hk⟩
theorem Kept.G1 {B lo t:Nat} {W w1:World} (h:aM t W w1) (hB:B≤t) (ht:t<lo):Kept B lo W w1:=⟨h.below hB,fun k hk hl=>h.2 k hk (by omega)⟩
theorem Kept.set {B lo:Nat} {W w1:World} (h:Kept B lo W w1) (g o:Nat) (u:Value) (hB:B≤g) (hg:g<lo):Kept B lo W (w1.setCell ⟨g,o,none⟩ u) :=
 ⟨h.low.setCell (p:=⟨g,o,none⟩) hB u,fun k hk hl=>by
  have h1:=((aM.refl g w1).set o u).2 k (Hi hk h.low.size) (by omega)
  rw [h1,h.high k hk hl]⟩
theorem Kept.refl (B lo:Nat) (W:World):Kept B lo W W:=⟨He _ _,fun _ _ _=>rfl⟩
theorem Kept.cell {B lo:Nat} {W w1:World} (h:Kept B lo W w1) {b o:Nat} (hb:b<W.heap.size) (hz:b<B∨lo≤b):w1.cell? ⟨b,o,none⟩=W.cell? ⟨b,o,none⟩:=by
 rcases hz with hz | hz
 ·exact h.low.cell (p:=⟨b,o,none⟩) hz
 ·exact Hz (w:=W) (a:=⟨b,o,none⟩) (h.high b hb hz)
def kX (B lo:Nat) (W:World) (a:Option Addr) (l:List Int):Prop:=l.length≤maxLen∧(l = []∨∃ b off,a=some ⟨b,off,none⟩∧b<W.heap.size∧(b<B∨lo≤b)∧∀ (i:Nat) (h:i<l.length),W.cell? ⟨b,off+i,none⟩=some (.int .i64 l[i]))
theorem kX.next {B lo:Nat} {W w1:World} {a:Option Addr} {l:List Int} (h:kX B lo W a l) (hb:Kept B lo W w1):kX B lo w1 a l:=by
 obtain ⟨h0,h | ⟨b,off,e,hlt,hn,h⟩⟩:=h
 ·exact ⟨h0,.inl h⟩
 ·exact ⟨h0,.inr ⟨b,off,e,Hi hlt hb.low.size,hn,fun i hi=>(hb.cell hlt hn).trans (h i hi)⟩⟩
theorem kX.wide {B lo lo':Nat} {W:World} {a:Option Addr} {l:List Int} (h:kX B lo W a l) (hl:lo'≤lo):kX B lo' W a l:=by
 obtain ⟨h0,h | ⟨b,off,e,hlt,hn,h⟩⟩:=h
 ·exact ⟨h0,.inl h⟩
 ·exact ⟨h0,.inr ⟨b,off,e,hlt,by omega,h⟩⟩
theorem kX.at {B lo:Nat} {W:World} {a:Option Addr} {l:List Int} (h:kX B lo W a l):bo W.heap.size W a l:=by
 obtain ⟨h0,h | ⟨b,off,e,hlt,hn,h⟩⟩:=h
 ·exact ⟨h0,.inl h⟩
 ·exact ⟨h0,.inr ⟨b,off,e,hlt,h⟩⟩
theorem bo.t {B lo:Nat} {W:World} {a:Option Addr} {l:List Int} (h:bo B W a l) (hB:B≤W.heap.size):kX B lo W a l:=by
 obtain ⟨h0,h | ⟨b,off,e,hlt,h⟩⟩:=h
 ·exact ⟨h0,.inl h⟩
 ·exact ⟨h0,.inr ⟨b,off,e,by omega,.inl hlt,h⟩⟩
inductive rJ (ts:List (List Int)) (B lo:Nat) (W:World):Option Addr→List Pl→Prop
 | nil (a:Option Addr):rJ ts B lo W a []
 | some (b off:Nat) (l:List Pl) (q:Nat→Pw) (ca:Nat→Option Addr) (cc:Nat→Nat) (na:Nat→Option Addr) (nc:Nat→Nat) (hb:b<W.heap.size) (hn:lo≤b)
   (hc:∀ (i:Nat) (h:i<l.length),gQ W b (off+i*13) l[i] (q i))
   (h11:∀ (i:Nat) (h:i<l.length),W.cell? ⟨b,off+i*13+11,none⟩=some (.slice (ca i) (aj ts l[i]).length (cc i)))
   (h12:∀ (i:Nat) (h:i<l.length),W.cell? ⟨b,off+i*13+12,none⟩=some (.slice (na i) l[i].ks.length (nc i)))
   (hp:∀ (i:Nat) (h:i<l.length),ki B W l[i] (q i))
   (hcol:∀ (i:Nat) (h:i<l.length),kX B lo W (ca i) (aj ts l[i]))
   (hk:∀ (i:Nat) (h:i<l.length),rJ ts B lo W (na i) l[i].ks):rJ ts B lo W (some ⟨b,off,none⟩) l
theorem gQ.kept {B lo:Nat} {W w1:World} {b off:Nat} {p:Pl} {q:Pw} (h:gQ W b off p q) (hb:Kept B lo W w1) (hB:b<W.heap.size) (hn:b<B∨lo≤b):gQ w1 b off p q :=
 ⟨(hb.cell hB hn).trans h.c0,(hb.cell hB hn).trans h.c1,⟨(hb.cell hB hn).trans h.qA.c0,(hb.cell hB hn).trans h.qA.c1,(hb.cell hB hn).trans h.qA.c2,(hb.cell hB hn).trans h.qA.c3,(hb.cell hB hn).trans h.qA.c4,(hb.cell hB hn).trans h.qA.c5⟩,(hb.cell hB hn).trans h.c8,(hb.cell hB hn).trans h.c9,(hb.cell hB hn).trans h.dW⟩
theorem rJ.next {ts:List (List Int)} {B lo:Nat} {W w1:World} (hb:Kept B lo W w1) {a:Option Addr} {l:List Pl} (h:rJ ts B lo W a l):rJ ts B lo w1 a l:=by
 induction h with
 | nil a=>exact .nil a
 | some b off l q ca cc na nc hlt hn hc h11 h12 hp hcol _ ih =>
  exact .some b off l q ca cc na nc (Hi hlt hb.low.size) hn (fun i hi=>(hc i hi).kept hb hlt (.inr hn)) (fun i hi=>(hb.cell hlt (.inr hn)).trans (h11 i hi)) (fun i hi=>(hb.cell hlt (.inr hn)).trans (h12 i hi)) (fun i hi=>(hp i hi).next hb.low (Hd _)) (fun i hi=>(hcol i hi).next hb) ih
theorem rJ.wide {ts:List (List Int)} {B lo lo':Nat} {W:World} (hl:lo'≤lo) {a:Option Addr} {l:List Pl} (h:rJ ts B lo W a l):rJ ts B lo' W a l:=by
 induction h with
 | nil a=>exact .nil a
 | some b off l q ca cc na nc hlt hn hc h11 h12 hp hcol _ ih=>exact .some b off l q ca cc na nc hlt (HJ hl hn) hc h11 h12 hp (fun i hi=>(hcol i hi).wide hl) ih
structure Ai (ts:List (List Int)) (B lo:Nat) (W:World) (p:Pl) (q:Pw) (ca na:Option Addr):Prop where
 pl:ki B W p q
 af:kX B lo W ca (aj ts p)
 kids:rJ ts B lo W na p.ks
theorem Ai.next {ts:List (List Int)} {B lo:Nat} {W w1:World} {p:Pl} {q:Pw} {ca na:Option Addr} (h:Ai ts B lo W p q ca na) (hb:Kept B lo W w1):Ai ts B lo w1 p q ca na:=⟨h.pl.next hb.low (Hd _),h.af.next hb,rJ.next hb h.kids⟩
theorem Ai.wide {ts:List (List Int)} {B lo lo':Nat} {W:World} {p:Pl} {q:Pw} {ca na:Option Addr} (h:Ai ts B lo W p q ca na) (hl:lo'≤lo):Ai ts B lo' W p q ca na:=⟨h.pl,h.af.wide hl,rJ.wide hl h.kids⟩
theorem rJ.elem {ts:List (List Int)} {B lo:Nat} {W:World} {a:Option Addr} {l:List Pl} (h:rJ ts B lo W a l) {i:Nat} (hi:i<l.length):∃ b off q ca cc na nc,a=Option.some ⟨b,off,none⟩∧b<W.heap.size∧lo≤b∧gQ W b (off+i*13) l[i] q∧W.cell? ⟨b,off+i*13+11,none⟩=Option.some (.slice ca (aj ts l[i]).length cc)∧W.cell? ⟨b,off+i*13+12,none⟩=Option.some (.slice na l[i].ks.length nc)∧Ai ts B lo W l[i] q ca na:=by
 cases h with
 | nil=>simp at hi
 | some b off l q ca cc na nc hlt hn hc h11 h12 hp hcol hk=>exact ⟨b,off,q i,ca i,cc i,na i,nc i,rfl,hlt,hn,hc i hi,h11 i hi,h12 i hi,⟨hp i hi,hcol i hi,hk i hi⟩⟩
def fp (p:Pl) (q:Pw):Value:=.agg (gq p q)
def rK (p:Pl) (q:Pw) (ca:Option Addr) (n cc:Nat) (na:Option Addr) (nc:Nat):Value:=.agg (GM p q ca n cc na p.ks.length nc)
def jx:Value:=.agg #[.int .i64 0,.int .i64 0,.int .i64 0,.int .i64 0,.int .i64 0,.string ⟨#[]⟩,.int .i64 0,.slice none 0 0,.slice none 0 0,.slice none 0 0,.slice none 0 0,.slice none 0 0,.slice none 0 0]
theorem gQ.new (w:World) (p:Pl) (q:Pw) (T:TypeId):gQ (w.alloc (.cells (gq p q) T)) w.heap.size 0 p q:=by
 have h:=an w (gq p q) T;exact ⟨cell_of (i:=0) h rfl,cell_of (i:=1) h rfl,⟨cell_of (i:=2) h rfl,cell_of (i:=3) h rfl,cell_of (i:=4) h rfl,cell_of (i:=5) h rfl,cell_of (i:=6) h rfl,cell_of (i:=7) h rfl⟩,cell_of (i:=8) h rfl,cell_of (i:=9) h rfl,cell_of (i:=10) h rfl⟩
end Go.Proofs.YtjebpkhkjkjphaaGreat
namespace Go.Proofs.YtjebpkhkjkjphaaGreat
open Go.RowKit Go.Lib Go.Shelf
set_option maxRecDepth 100000
set_option maxHeartbeats 16000000
theorem qK {n:Nat} (h:n≤8) (w:World):(Instr.makeSlice 42 (.int .i64 n) (.int .i64 n)).run Tryz.prog w = .ok (.slice (some ⟨w.heap.size,0,none⟩) n n) (w.alloc (.cells (Array.replicate n (.int .i64 0)) 3)):=by
 obtain rfl | rfl | rfl | rfl | rfl | rfl | rfl | rfl | rfl:n=0∨n=1∨n=2∨n=3∨n=4∨n=5∨n=6∨n=7∨n=8:=by omega
 all_goals kernel_rfl
theorem wi (k:Int) (w:World):Calls Tryz.prog 65 #[.int .i64 k] w fun e w'=>e = .returned (.int .i64 (dI k))∧Below w.heap.size w w':=by
 have hc:k=1∨k=4∨k=5∨k=6∨k=7∨k=8∨k=9∨(¬ k=1∧¬ (4≤k∧k≤9)):=by omega
 rcases hc with rfl | rfl | rfl | rfl | rfl | rfl | rfl | ⟨h1,h2⟩
 all_goals try (
  go_enter Tryz.func65,Tryz.ntmps65;go_wp2_with fail
  go_ret;exact ⟨rfl,He _ _⟩)
 have e:dI k=1:=by unfold dI; rw [if_neg h1,if_neg h2]
 rw [e];have b1:(k == 1)=false:=by rw [beq_eq_false_iff_ne]; exact h1
 have b4:(k == 4)=false:=by rw [beq_eq_false_iff_ne]; omega
 have b5:(k == 5)=false:=by rw [beq_eq_false_iff_ne]; omega
 have b6:(k == 6)=false:=by rw [beq_eq_false_iff_ne]; omega
 have b7:(k == 7)=false:=by rw [beq_eq_false_iff_ne]; omega
 have b8:(k == 8)=false:=by rw [beq_eq_false_iff_ne]; omega
 have b9:(k == 9)=false:=by rw [beq_eq_false_iff_ne]; omega
 clear h1 h2 e;go_enter Tryz.func65,Tryz.ntmps65;go_wp2_with fail
 go_ret;exact ⟨rfl,He _ _⟩
def Gu (B:Nat) (w':World) (e:Ending) (er:Int) (C:List Int):Prop:=∃ ca cc,e = .returned (.tuple #[.slice ca (if er=0 then C else []).length cc,.int .i64 er])∧bo B w' ca (if er=0 then C else [])
theorem qY (ts:List (List Int)) (n:Int) (B:Nat) (a:Option Addr) (cap:Nat) (w:World) (h:gP B w a ts) :
  Calls Tryz.prog 66 #[.slice a ts.length cap,.int .i64 n] w fun e w'=>Gu B w' e (if n<0∨ts.length≤n then 7 else 0) (ts.getD n.toNat [])∧Below w.heap.size w w':=by
 by_cases h0:n<0;rw [if_pos (.inl h0)];rotate_left;by_cases h1:(ts.length:Int)≤n;rw [if_pos (.inr h1)];rotate_left;rw [if_neg (by omega)];obtain ⟨j,rfl⟩:∃ j:Nat,n=j:=⟨n.toNat,by omega⟩
 have hj:j<ts.length:=by omega
 obtain ⟨b,off,ai,ci,rfl,hb,c0,hi⟩:=h.elem hj;have hj0:(0:Int)≤(j:Int):=by omega
 have hjl:(j:Int)<(ts.length:Int):=by omega
 have e:ts.getD (j:Int).toNat []=ts[j]:=by simp [hj]
 rw [e];clear e;go_enter Tryz.func66,Tryz.ntmps66;go_wp2_with fail
 exact Hf (v:=.tuple #[.slice ai ts[j].length ci,.int .i64 0]) (by simp [results,Tryz.results66,go_sem]) rfl ⟨⟨ai,ci,rfl,hi⟩,He _ _⟩
 all_goals
  go_enter Tryz.func66,Tryz.ntmps66;go_wp2_with fail
  exact Hf (v:=.tuple #[.slice none 0 0,.int .i64 7]) (by simp [results,Tryz.results66,go_sem]) rfl ⟨⟨none,0,rfl,⟨Hl _,.inl rfl⟩⟩,He _ _⟩
def fZ (af:List Int):Int:=if 8<af.length then 5 else if ∃ c ∈ af,c<1∨4<c then 1 else 0
def iQ:List (List Int)→Int
 | []=>0
 | c :: r=>if fZ c≠0 then fZ c else iQ r
def fE (ts:List (List Int)):Int:=if 8<ts.length then 5 else iQ ts
theorem yT {ts:List (List Int)} {j:Nat} (h:j<ts.length) (he:¬ fZ ts[j]=0):iQ (ts.drop j)=fZ ts[j]:=by
 rw [Hk h,iQ,if_pos he]
theorem ue {ts:List (List Int)} {j:Nat} (h:j<ts.length) (he:fZ ts[j]=0):iQ (ts.drop j)=iQ (ts.drop (j+1)):=by
 rw [Hk h,iQ,if_neg (by simp [he])]
theorem oZ (ts:List (List Int)) (a:Option Addr) (cap:Nat) (w:World) (h:gP w.heap.size w a ts) :
  Calls Tryz.prog 27 #[.slice a ts.length cap] w fun e w'=>e = .returned (.int .i64 (fE ts))∧Below w.heap.size w w':=by
 generalize hr:fE ts=r;have HR:Hid (fE ts=r):=hr;clear hr;go_enter Tryz.func27,Tryz.ntmps27;by_cases h8:8<ts.length
 ·have h8z:8<(ts.length:Int):=by omega
  have e:r=5:=by rw [← HR.out]; unfold fE; rw [if_pos h8]
  subst e;go_wp2_with fail
  go_ret;exact ⟨rfl,He _ _⟩
 have h8z:¬ 8<(ts.length:Int):=by omega
 have HR':Hid (r=iQ (ts.drop 0)):=by show _=_; rw [← HR.out]; unfold fE; rw [if_neg h8]; rfl
 clear HR;go_wp2_with fail
 go_loopw [12] (fun i wr=>∃ j:Nat,j≤ts.length∧i = .int .i64 j∧Hid (r=iQ (ts.drop j))∧Below w.heap.size w wr) (fun i _=>ts.length - (intOf i).toNat)
 case atStart=>exact ⟨0,Hl _,rfl,HR',He _ _⟩
 case round =>
  obtain ⟨j,hj,rfl,HT,hb⟩:=hrel;by_cases hlt:j<ts.length
  ·obtain ⟨b,off,ai,ci,rfl,hbl,c0,hi⟩:=(h.next hb (Hd _)).elem hlt;have hjz:(j:Int)<(ts.length:Int):=by omega
   have HBad:Hid (¬ fZ ts[j]=0→r=fZ ts[j]):=fun c=>HT.out.trans (yT hlt c)
   have HOk:Hid (fZ ts[j]=0→r=iQ (ts.drop (j+1))):=fun c=>HT.out.trans (ue hlt c)
   clear HT;generalize ts[j]=cs at *;by_cases hc8:8<cs.length
   ·have hcz:8<(cs.length:Int):=by omega
    have e1:fZ cs=5:=by unfold fZ; rw [if_pos hc8]
    have e:r=5:=by rw [HBad.out (by rw [e1]; decide),e1]
    subst e;clear HBad HOk e1;go_wp2_with fail
    go_ret;exact ⟨rfl,hb⟩
   ·have hcz:¬ 8<(cs.length:Int):=by omega
    have HC:Hid (fZ cs=if ∃ c ∈ cs,c<1∨4<c then 1 else 0):=by show _=_; unfold fZ; rw [if_neg hc8]
    obtain ⟨wo,hwo⟩:∃ z,z=wr:=⟨_,rfl⟩
    subst hwo;go_upto_region 8 with fail
    clear c0;go_wp2_with fail
    go_loopw [21] (fun i wr=>∃ k:Nat,k≤cs.length∧i = .int .i64 k∧Hid (∀ c ∈ cs.take k,¬ (c<1∨4<c))∧Below wo.heap.size wo wr) (fun i _=>cs.length - (intOf i).toNat)
    case atStart=>exact ⟨0,Hl _,rfl,(fun c hc=>by simp at hc),He _ _⟩
    case round =>
     obtain ⟨k,hk,rfl,HK,hbk⟩:=hrel;have hbw:=hb.trans (hbk.mono hb.size);by_cases hkl:k<cs.length
     ·obtain ⟨b1,o1,rfl,hb1,c1⟩:=(hi.next hbk hb.size).elem hkl;have hkz:(k:Int)<(cs.length:Int):=by omega
      have HT1:Hid (cs.take (k+1)=cs.take k ++ [cs[k]]):=Ht hkl;have HM:Hid (cs[k] ∈ cs):=Hm hkl;generalize cs[k]=c at *;by_cases hbad:c<1∨4<c
      ·have e1:fZ cs=1:=by rw [HC.out,if_pos ⟨c,HM.out,hbad⟩]
       have e:r=1:=by rw [HBad.out (by rw [e1]; decide),e1]
       subst e;clear HBad HOk e1 HC HK;have hb2:c<1∨(¬ c<1∧4<c):=by omega
       clear hbad;rcases hb2 with g1 | ⟨g1,g2⟩
       all_goals (
        go_wp2_with fail
        go_ret;exact ⟨rfl,hbw⟩)
      ·have g1:¬ c<1:=fun e=>hbad (.inl e)
       have g2:¬ 4<c:=fun e=>hbad (.inr e)
       have HK':Hid (∀ c ∈ cs.take (k+1),¬ (c<1∨4<c)):=by
        show ∀ c ∈ _,_
        rw [HT1.out];intro c' hc';rcases List.mem_append.1 hc' with hc' | hc'
        ·exact HK.out c' hc'
        ·rw [List.mem_singleton.1 hc']; exact hbad
       clear hbad HK;go_wp2_with fail
       go_roundw
       case rel=>exact ⟨k+1,by omega,by go_num,HK',hbk⟩
       case measure=>simp [intOf]; omega
     ·have e:k=cs.length:=by omega
      subst e;rw [Ib] at HK;have e1:fZ cs=0:=by rw [HC.out,if_neg fun ⟨c,hc,hh⟩=>HK.out c hc hh]
      have HT':Hid (r=iQ (ts.drop (j+1))):=HOk.out e1;clear HBad HOk e1 HC HK;go_wp2_with fail
      go_roundw
      case rel=>exact ⟨j+1,by omega,by go_num,HT',hbw⟩
      case measure=>simp [intOf]; omega
  ·have e:j=ts.length:=by omega
   have e1:r=0:=by rw [HT.out,Ig (by omega)]; rfl
   subst e1;have hjz:¬ (j:Int)<(ts.length:Int):=by omega
   clear HT;go_wp2_with fail
   go_ret;exact ⟨rfl,hb⟩
theorem Ae (af:List Int) {xs:List Ex} {j:Nat} (h:j<xs.length):gH af (xs.take (j+1))=gH af (xs.take j) ++ [(ak af xs[j]).1]:=by
 unfold gH;rw [Ht h,IM];rfl
theorem ir (af:List Int) (xs:List Ex):(gH af xs).length=xs.length:=by unfold gH; rw [Ik]
theorem ft.nx {W w1:World} {g:Nat} {l:List Int} (h:ft W g l) (hb:Below W.heap.size W w1):ft w1 g l :=
 ⟨Hi h.lt hb.size,fun i hi=>(hb.cell (p:=⟨g,i,none⟩) h.lt).trans (h.c i hi),fun i=>(hb.frozen (p:=⟨g,i,none⟩) h.lt).trans (h.f i)⟩
theorem nR {W:World} {g n j:Nat} {ts:List Int} (h:ft W g (ts ++ List.replicate (n - j) 0)) (hl:ts.length=j) (hj:j<n):W.cell? ⟨g,j,none⟩=some (.int .i64 0)∧W.frozen? ⟨g,j,none⟩=false∧∀ u,ft (W.setCell ⟨g,j,none⟩ (.int .i64 u)) g ((ts ++ [u]) ++ List.replicate (n - (j+1)) 0):=by
 have hlen:j<(ts ++ List.replicate (n - j) 0).length:=by simp; omega
 refine ⟨?_,h.f j,fun u=>?_⟩
 ·rw [h.c j hlen]
  congr 2
  rw [Ja (by omega)];simp
 ·have:=h.set j hlen u;rw [xi ts n j u hl hj] at this;exact this
theorem nV (af:List Int) (xs:List Ex) (ca:Option Addr) (ccap:Nat) (xa:Option Addr) (xcap:Nat) (w:World) (hc:bo w.heap.size w ca af) (hx:aO w.heap.size w xa xs) (h8:xs.length≤8) :
  Calls Tryz.prog 99 #[.slice ca af.length ccap,.slice xa xs.length xcap] w fun e w'=>e = .returned (.slice (some ⟨w.heap.size,0,none⟩) xs.length xs.length)∧ft w' w.heap.size (gH af xs)∧Below w.heap.size w w':=by
 have hmk:=qK h8;have O0:=ft.new w xs.length 3;have hal0:=aa w (.cells (Array.replicate xs.length (.int .i64 0)) 3);go_enter Tryz.func99,Tryz.ntmps99;go_wp2_with fail
 generalize w.alloc (.cells (Array.replicate xs.length (.int .i64 0)) 3)=w1 at *;clear hmk;go_loopw [13] (fun i wr=>∃ j:Nat,j≤xs.length∧i = .int .i64 j∧ft wr w.heap.size (gH af (xs.take j) ++ List.replicate (xs.length - j) 0)∧Below w.heap.size w wr) (fun i _=>xs.length - (intOf i).toNat)
 case atStart=>exact ⟨0,Hl _,rfl,by simpa [gH] using O0,hal0⟩
 case round =>
  obtain ⟨j,hj,rfl,hO,hb⟩:=hrel;have hz:=hb.size;by_cases hlt:j<xs.length
  ·obtain ⟨b,off,ai,ci,rfl,hbl,sx,kx⟩:=(aO.next hb (Hd _) hx).elem hlt;obtain ⟨x0,x1,x2,x3,x4,x5⟩:=sx;have hjz:(j:Int)<(xs.length:Int):=by omega
   have hal:=aa wr (.cells #[.int .i64 xs[j].k,.int .i64 xs[j].v.1,.int .i64 xs[j].v.2.1,.string xs[j].v.2.2,.int .i64 xs[j].c,.slice ai xs[j].ks.length ci] 27);have hA:=chain hb hal;have con:=ln af xs[j] ca ccap ai ci _ ((aO.next hal hz kx).up (HJ hz hal.size)) ((hc.next hA (Hd _)).up hA.size);have HT:Hid (gH af (xs.take (j+1))=gH af (xs.take j) ++ [(ak af xs[j]).1]):=Ae af hlt;have hlen:(gH af (xs.take j)).length=j:=by rw [ir,Ij]; omega
   unfold iY at con;go_wp2_with fail
   refine con.mono ?_;rintro e w5 ⟨rfl,hb5⟩;clear con x0 x1 x2 x3 x4 x5 kx;have hb5':=chain hal hb5;obtain ⟨cc,ff,hset⟩:=nR (hO.nx hb5') hlen hlt;have hA5:=chain hb hb5';have O6:=hset (ak af xs[j]).1;have hA6:=hA5.setCell (p:=⟨w.heap.size,j,none⟩) (Hd _) (.int .i64 (ak af xs[j]).1);rw [← HT.out] at O6;clear hset hO hlen;dsimp only;go_wp2
   go_roundw
   case rel=>exact ⟨j+1,by omega,by go_num,O6,hA6⟩
   case measure=>simp [intOf]; omega
  ·have e:j=xs.length:=by omega
   subst e;rw [Ib,Nat.sub_self,List.replicate_zero,Jc] at hO;go_wp2
   go_ret;exact ⟨rfl,hO,hb⟩
def dV (af:List Int) (gs:List Ag):List Int:=gs.map (rk af)
theorem uW (af:List Int) {gs:List Ag} {j:Nat} (h:j<gs.length):dV af (gs.take (j+1))=dV af (gs.take j) ++ [rk af gs[j]]:=by
 unfold dV;rw [Ht h,IM];rfl
theorem pI (af:List Int) (gs:List Ag):(dV af gs).length=gs.length:=by unfold dV; rw [Ik]
theorem sh (af:List Int) (gs:List Ag) (ca:Option Addr) (ccap:Nat) (xa:Option Addr) (xcap:Nat) (w:World) (hc:bo w.heap.size w ca af) (hx:fJ w.heap.size w xa gs) (h8:gs.length≤8) :
  Calls Tryz.prog 101 #[.slice ca af.length ccap,.slice xa gs.length xcap] w fun e w'=>e = .returned (.slice (some ⟨w.heap.size,0,none⟩) gs.length gs.length)∧ft w' w.heap.size (dV af gs)∧Below w.heap.size w w':=by
 have hmk:=qK h8;have O0:=ft.new w gs.length 3;have hal0:=aa w (.cells (Array.replicate gs.length (.int .i64 0)) 3);go_enter Tryz.func101,Tryz.ntmps101;go_wp2_with fail
 generalize w.alloc (.cells (Array.replicate gs.length (.int .i64 0)) 3)=w1 at *;clear hmk;go_loopw [13] (fun i wr=>∃ j:Nat,j≤gs.length∧i = .int .i64 j∧ft wr w.heap.size (dV af (gs.take j) ++ List.replicate (gs.length - j) 0)∧Below w.heap.size w wr) (fun i _=>gs.length - (intOf i).toNat)
 case atStart=>exact ⟨0,Hl _,rfl,by simpa [dV] using O0,hal0⟩
 case round =>
  obtain ⟨j,hj,rfl,hO,hb⟩:=hrel;have hz:=hb.size;by_cases hlt:j<gs.length
  ·obtain ⟨b,off,ai,ci,rfl,hbl,x0,sx,kx⟩:=(fJ.next hb (Hd _) hx).elem hlt;obtain ⟨x1,x2,x3,x4,x5,x6⟩:=sx;have hjz:(j:Int)<(gs.length:Int):=by omega
   have hal:=aa wr (.cells #[.int .i64 gs[j].1,.int .i64 gs[j].2.k,.int .i64 gs[j].2.v.1,.int .i64 gs[j].2.v.2.1,.string gs[j].2.v.2.2,.int .i64 gs[j].2.c,.slice ai gs[j].2.ks.length ci] 67);have q0:=an wr #[.int .i64 gs[j].1,.int .i64 gs[j].2.k,.int .i64 gs[j].2.v.1,.int .i64 gs[j].2.v.2.1,.string gs[j].2.v.2.2,.int .i64 gs[j].2.c,.slice ai gs[j].2.ks.length ci] 67;have HT:Hid (dV af (gs.take (j+1))=dV af (gs.take j) ++ [rk af gs[j]]):=uW af hlt
   have hlen:(dV af (gs.take j)).length=j:=by rw [pI,Ij]; omega
   have zn:w.heap.size≠wr.heap.size:=Nat.ne_of_lt hO.lt;obtain ⟨cc,ff,hset⟩:=nR (hO.nx hal) hlen hlt;have O1:=hset 3;have hS:Below w.heap.size wr ((wr.alloc (.cells #[.int .i64 gs[j].1,.int .i64 gs[j].2.k,.int .i64 gs[j].2.v.1,.int .i64 gs[j].2.v.2.1,.string gs[j].2.v.2.2,.int .i64 gs[j].2.c,.slice ai gs[j].2.ks.length ci] 67)).setCell ⟨w.heap.size,j,none⟩ (.int .i64 3)):=(hal.mono hz).setCell (p:=⟨w.heap.size,j,none⟩) (Hd _) _;have kk:=aO.next hS (Hd _) kx;clear hset hO kx;go_upto_region 6 with fail
   clear x0 x1 x2 x3 x4 x5 x6 cc ff;have p0:((wr.alloc (.cells #[.int .i64 gs[j].1,.int .i64 gs[j].2.k,.int .i64 gs[j].2.v.1,.int .i64 gs[j].2.v.2.1,.string gs[j].2.v.2.2,.int .i64 gs[j].2.c,.slice ai gs[j].2.ks.length ci] 67)).setCell ⟨w.heap.size,j,none⟩ (.int .i64 3)).cell? ⟨wr.heap.size,0,none⟩=some (.int .i64 gs[j].1):=(bX zn).trans (cell_of (i:=0) q0 rfl)
   have p1:((wr.alloc (.cells #[.int .i64 gs[j].1,.int .i64 gs[j].2.k,.int .i64 gs[j].2.v.1,.int .i64 gs[j].2.v.2.1,.string gs[j].2.v.2.2,.int .i64 gs[j].2.c,.slice ai gs[j].2.ks.length ci] 67)).setCell ⟨w.heap.size,j,none⟩ (.int .i64 3)).cell? ⟨wr.heap.size,1,none⟩=some (.int .i64 gs[j].2.k):=(bX zn).trans (cell_of (i:=1) q0 rfl)
   have p2:((wr.alloc (.cells #[.int .i64 gs[j].1,.int .i64 gs[j].2.k,.int .i64 gs[j].2.v.1,.int .i64 gs[j].2.v.2.1,.string gs[j].2.v.2.2,.int .i64 gs[j].2.c,.slice ai gs[j].2.ks.length ci] 67)).setCell ⟨w.heap.size,j,none⟩ (.int .i64 3)).cell? ⟨wr.heap.size,2,none⟩=some (.int .i64 gs[j].2.v.1):=(bX zn).trans (cell_of (i:=2) q0 rfl)
   have p3:((wr.alloc (.cells #[.int .i64 gs[j].1,.int .i64 gs[j].2.k,.int .i64 gs[j].2.v.1,.int .i64 gs[j].2.v.2.1,.string gs[j].2.v.2.2,.int .i64 gs[j].2.c,.slice ai gs[j].2.ks.length ci] 67)).setCell ⟨w.heap.size,j,none⟩ (.int .i64 3)).cell? ⟨wr.heap.size,3,none⟩=some (.int .i64 gs[j].2.v.2.1):=(bX zn).trans (cell_of (i:=3) q0 rfl)
   have p4:((wr.alloc (.cells #[.int .i64 gs[j].1,.int .i64 gs[j].2.k,.int .i64 gs[j].2.v.1,.int .i64 gs[j].2.v.2.1,.string gs[j].2.v.2.2,.int .i64 gs[j].2.c,.slice ai gs[j].2.ks.length ci] 67)).setCell ⟨w.heap.size,j,none⟩ (.int .i64 3)).cell? ⟨wr.heap.size,4,none⟩=some (.string gs[j].2.v.2.2):=(bX zn).trans (cell_of (i:=4) q0 rfl)
   have p5:((wr.alloc (.cells #[.int .i64 gs[j].1,.int .i64 gs[j].2.k,.int .i64 gs[j].2.v.1,.int .i64 gs[j].2.v.2.1,.string gs[j].2.v.2.2,.int .i64 gs[j].2.c,.slice ai gs[j].2.ks.length ci] 67)).setCell ⟨w.heap.size,j,none⟩ (.int .i64 3)).cell? ⟨wr.heap.size,5,none⟩=some (.int .i64 gs[j].2.c):=(bX zn).trans (cell_of (i:=5) q0 rfl)
   have p6:((wr.alloc (.cells #[.int .i64 gs[j].1,.int .i64 gs[j].2.k,.int .i64 gs[j].2.v.1,.int .i64 gs[j].2.v.2.1,.string gs[j].2.v.2.2,.int .i64 gs[j].2.c,.slice ai gs[j].2.ks.length ci] 67)).setCell ⟨w.heap.size,j,none⟩ (.int .i64 3)).cell? ⟨wr.heap.size,6,none⟩=some (.slice ai gs[j].2.ks.length ci):=(bX zn).trans (cell_of (i:=6) q0 rfl);generalize (wr.alloc (.cells #[.int .i64 gs[j].1,.int .i64 gs[j].2.k,.int .i64 gs[j].2.v.1,.int .i64 gs[j].2.v.2.1,.string gs[j].2.v.2.2,.int .i64 gs[j].2.c,.slice ai gs[j].2.ks.length ci] 67)).setCell ⟨w.heap.size,j,none⟩ (.int .i64 3)=wk at *
   clear q0 hal;have hA:=hb.trans hS;have hzk:=hS.size;by_cases hk:gs[j].1=4∨gs[j].1=5
   ·have HT':Hid (dV af (gs.take (j+1))=dV af (gs.take j) ++ [(ak af gs[j].2).1]):=by show _=_; rw [HT.out]; unfold rk; rw [if_pos hk]
    have con:=ln af gs[j].2 ca ccap ai ci wk (kk.up hA.size) ((hc.next hA (Hd _)).up hA.size);generalize (ak af gs[j].2).1=ty at *;unfold iY at con;generalize gs[j].1=kd at *;clear HT;have hk2:kd=4∨(¬ kd=4∧kd=5):=by omega
    clear hk;rcases hk2 with rfl | ⟨hk4,rfl⟩
    all_goals (
     go_wp2_with fail
     refine con.mono ?_;rintro e w5 ⟨rfl,hb5⟩;clear con p0 p1 p2 p3 p4 p5 p6 kk;have O5:=O1.nx hb5;have hlen2:j<((dV af (gs.take j) ++ [3]) ++ List.replicate (gs.length - (j+1)) 0).length:=by first | (simp [hlen]; done) | (simp [hlen]; omega)
     have cc:w5.cell? ⟨w.heap.size,j,none⟩=some (.int .i64 3):=by
      rw [O5.c j hlen2]
      congr 2
      rw [H7 (by simp [hlen])];rw [Ja (by omega)];simp [hlen]
     have ff:=O5.f j;have O6:=O5.set j hlen2 ty;have es:((dV af (gs.take j) ++ [3]) ++ List.replicate (gs.length - (j+1)) 0).set j ty=dV af (gs.take (j+1)) ++ List.replicate (gs.length - (j+1)) 0:=by
      rw [HT'.out,List.set_append_left _ _ (by simp [hlen]),List.set_append_right _ _ (by omega)];simp [hlen]
     rw [es] at O6;have hA6:=(chain hA hb5).setCell (p:=⟨w.heap.size,j,none⟩) (Hd _) (.int .i64 ty);clear O5 es hlen2 O1 hlen;dsimp only;go_wp2_with fail
     go_roundw
     case rel=>exact ⟨j+1,by omega,by go_num,O6,hA6⟩
     case measure=>simp [intOf]; omega)
   ·have HT':Hid (dV af (gs.take (j+1))=dV af (gs.take j) ++ [3]):=by show _=_; rw [HT.out]; unfold rk; rw [if_neg hk]
    have k4:(gs[j].1 == 4)=false:=by rw [beq_eq_false_iff_ne]; exact fun e=>hk (.inl e)
    have k5:(gs[j].1 == 5)=false:=by rw [beq_eq_false_iff_ne]; exact fun e=>hk (.inr e)
    rw [← HT'.out] at O1;clear hk HT hlen;go_wp2_with fail
    go_roundw
    case rel=>exact ⟨j+1,by omega,by go_num,O1,hA⟩
    case measure=>simp [intOf]; omega
  ·have e:j=gs.length:=by omega
   subst e;rw [Ib,Nat.sub_self,List.replicate_zero,Jc] at hO;go_wp2_with fail
   go_ret;exact ⟨rfl,hO,hb⟩
theorem xW {l r:List Int} {j:Nat} (h:j<l.length) (h':j<r.length) (he:¬ (bJ l[j] r[j]).2=0):iM (l.drop j) (r.drop j)=(bJ l[j] r[j]).2:=by
 rw [Hk h,Hk h',iM,if_pos he]
theorem vR {l r:List Int} {j:Nat} (h:j<l.length) (h':j<r.length) (he:(bJ l[j] r[j]).2=0):iM (l.drop j) (r.drop j)=iM (l.drop (j+1)) (r.drop (j+1)):=by
 rw [Hk h,Hk h',iM,if_neg (by simp [he])]
theorem yS {l r:List Int} {j:Nat} (h:l.length≤j):iM (l.drop j) (r.drop j)=0:=by
 rw [Ig h,iM];intro a l b r h; cases h
theorem nW:∀ {l r:List Int} {j:Nat} (h:j<l.length) (h':j<r.length),dQ (l.take (j+1)) (r.take (j+1))=dQ (l.take j) (r.take j) ++ [(bJ l[j] r[j]).1]
 | a :: l,b :: r,0,_,_=>by simp [dQ]
 | a :: l,b :: r,j+1,h,h'=>by
  have:=nW (l:=l) (r:=r) (j:=j) (by simpa using h) (by simpa using h')
  simp only [List.take_succ_cons,dQ,List.getElem_cons_succ,Iz] at this ⊢
  rw [this]
theorem l7:∀ {l r:List Int},l.length=r.length→(dQ l r).length=l.length
 | [],[],_=>rfl
 | a :: l,b :: r,h=>by rw [dQ,Je,l7 (by simpa using h),Je]
theorem qR (l r:List Int) (la:Option Addr) (lc:Nat) (ra:Option Addr) (rc:Nat) (w:World) (hl:bo w.heap.size w la l) (hr:bo w.heap.size w ra r) (h8:l.length≤8) :
  Calls Tryz.prog 102 #[.slice la l.length lc,.slice ra r.length rc] w fun e w'=>∃ v,e = .returned (.tuple #[v,.int .i64 (oT l r)])∧(oT l r=0→v = .slice (some ⟨w.heap.size,0,none⟩) l.length l.length∧ft w' w.heap.size (dQ l r))∧(¬ oT l r=0→v = .slice none 0 0)∧Below w.heap.size w w':=by
 have hmk:=qK h8;have O0:=ft.new w l.length 3;have hal0:=aa w (.cells (Array.replicate l.length (.int .i64 0)) 3);generalize he:oT l r=er;have HE:Hid (oT l r=er):=he;clear he;go_enter Tryz.func102,Tryz.ntmps102;by_cases hlr:l.length=r.length;rotate_left
 ·have hne:((l.length:Int) != (r.length:Int))=true:=by simp; omega
  have e:er=8:=by rw [← HE.out]; unfold oT; rw [if_pos hlr]
  subst e;clear hmk O0 hal0 HE;go_wp2_with fail
  exact Hf (v:=.tuple #[.slice none 0 0,.int .i64 8]) (by simp [results,Tryz.results102,go_sem]) rfl ⟨_,rfl,fun c=>by omega,fun _=>rfl,He _ _⟩
 have hne:((l.length:Int) != (r.length:Int))=false:=by simp; omega
 have HE':Hid (er=iM (l.drop 0) (r.drop 0)):=by show _=_; rw [← HE.out]; unfold oT; rw [if_neg (by simpa using hlr)]; rfl
 have HL:Hid (l.length=r.length):=hlr;have hl1:l.length≤r.length:=by omega
 have hl2:r.length≤l.length:=by omega
 clear HE hlr;go_wp2_with fail
 generalize w.alloc (.cells (Array.replicate l.length (.int .i64 0)) 3)=w1 at *;clear hmk hne;go_loopw [20] (fun i wr=>∃ j:Nat,j≤l.length∧i = .int .i64 j∧Hid (er=iM (l.drop j) (r.drop j))∧ft wr w.heap.size (dQ (l.take j) (r.take j) ++ List.replicate (l.length - j) 0)∧Below w.heap.size w wr) (fun i _=>l.length - (intOf i).toNat)
 case atStart=>exact ⟨0,Hl _,rfl,HE',by simpa [dQ] using O0,hal0⟩
 case round =>
  obtain ⟨j,hj,rfl,HT,hO,hb⟩:=hrel;by_cases hlt:j<l.length
  ·have hlr:j<r.length:=by omega
   obtain ⟨b1,o1,rfl,hb1,c1⟩:=(hl.next hb (Hd _)).elem hlt;obtain ⟨b2,o2,rfl,hb2,c2⟩:=(hr.next hb (Hd _)).elem hlr;have hjz:(j:Int)<(l.length:Int):=by omega
   have hjr:(j:Int)<(r.length:Int):=by omega
   have hj0:(0:Int)≤(j:Int):=by omega
   have HBad:Hid (¬ (bJ l[j] r[j]).2=0→er=(bJ l[j] r[j]).2):=fun c=>HT.out.trans (xW hlt hlr c)
   have HOk:Hid ((bJ l[j] r[j]).2=0→er=iM (l.drop (j+1)) (r.drop (j+1))):=fun c=>HT.out.trans (vR hlt hlr c)
   have HTl:Hid (dQ (l.take (j+1)) (r.take (j+1))=dQ (l.take j) (r.take j) ++ [(bJ l[j] r[j]).1]):=nW hlt hlr;have hlen:(dQ (l.take j) (r.take j)).length=j:=by rw [l7 (by rw [Ij,Ij]; omega),Ij]; omega
   clear HT;have con:=bO l[j] r[j];generalize bJ l[j] r[j]=tg at *;generalize l[j]=lj at *;generalize r[j]=rj at *;have p1:=ax c1;have p2:=ax c2;haveI:Nonempty (du wr):=⟨⟨_,He _ _⟩⟩
   go_wp2_with fail
   refine aI (by kernel_rfl) (by kernel_rfl) ?_
   repeat (go_big_quiet_step (first | (go_at_call 132; exact cS (con _))))
   refine wpQuiet_nil ?_;rintro w5 ⟨⟨v5,hb5⟩,h5⟩;obtain rfl:w5=v5:=h5;clear p1 p2 this c1 c2 con;by_cases h0:tg.2=0
   ·have HT':Hid (er=iM (l.drop (j+1)) (r.drop (j+1))):=HOk.out h0;have h0b:(tg.2 != 0)=false:=by simp [h0]
    obtain ⟨cc,ff,hset⟩:=nR (hO.nx hb5) hlen hlt;have O6:=hset tg.1;have hA6:=(chain hb hb5).setCell (p:=⟨w.heap.size,j,none⟩) (Hd _) (.int .i64 tg.1);rw [← HTl.out] at O6;clear HBad HOk h0 hset hO hlen HTl;go_wp2_with fail
    go_roundw
    case rel=>exact ⟨j+1,by omega,by go_num,HT',O6,hA6⟩
    case measure=>simp [intOf]; omega
   ·have e:er=tg.2:=HBad.out h0;have h0b:(tg.2 != 0)=true:=by simpa using h0
    clear HBad HOk HTl hO hlen;go_wp2_with fail
    exact Hf (v:=.tuple #[.slice none 0 0,.int .i64 tg.2]) (by simp [results,Tryz.results102,go_sem]) rfl ⟨_,by rw [e],fun c=>absurd (e ▸ c) h0,fun _=>rfl,chain hb hb5⟩
  ·have e:j=l.length:=by omega
   have er0:er=0:=by rw [HT.out,yS (by omega)]
   subst e;rw [Ib,Nat.sub_self,List.replicate_zero,Jc,HL.out,Ib] at hO;subst er0;clear HT;go_wp2_with fail
   first
    | exact Hf (v:=.tuple #[.slice (some ⟨w.heap.size,0,none⟩) l.length l.length,.int .i64 0]) (by simp [results,Tryz.results102,go_sem]) rfl ⟨_,rfl,⟨rfl,hO⟩,hb⟩
    | exact Hf (v:=.tuple #[.slice (some ⟨w.heap.size,0,none⟩) l.length l.length,.int .i64 0]) (by simp [results,Tryz.results102,go_sem]) rfl ⟨_,rfl,fun _=>⟨rfl,hO⟩,fun c=>absurd rfl c,hb⟩
def yt (lo:Nat) (u:Value) (T:List Wp→Vl) (w:World):Prop :=
 ∃ g cb,u = .func (.func g) #[] cb∧(∀ args w,(callFunc g args).run Tryz.prog w = .ok (.enter g args) w) ∧
  ∀ (l:List Wp) (a:Option Addr) (cap:Nat) (W:World),CN l→0<l.length→gV W a l→Since lo w W →
   Calls Tryz.prog g (#[.slice a l.length cap] ++ cb) W fun e w'=>e = .returned (fg (T l))∧Below W.heap.size W w'
theorem yt.next {lo:Nat} {u:Value} {T:List Wp→Vl} {w w1:World} (h:yt lo u T w) (hb:Since lo w w1):yt lo u T w1:=by
 obtain ⟨g,cb,e,eg,hd⟩:=h;exact ⟨g,cb,e,eg,fun l a cap W hk h0 hs hW=>hd l a cap W hk h0 hs (hb.trans hW)⟩
def iA (T:List Wp→Vl) (l:List Wp):Vl:=if l.length=0 then (1,0,⟨#[]⟩) else T l
theorem vN (lo:Nat) (ut:Value) (T:List Wp→Vl) (tb:Nat) (a:Option Addr) (cap:Nat) (l:List Wp) (W:World) (c0:W.cell? ⟨tb,0,none⟩=some ut) (hT:yt lo ut T W) (hk:CN l) (h:gV W a l) :
  Calls Tryz.prog 178 #[.slice a l.length cap,.pointer (some ⟨tb,0,none⟩)] W fun e w'=>e = .returned (fg (iA T l))∧Below W.heap.size W w':=by
 have hal:=aa W (.cells #[.int .i64 0,.int .i64 0,.string ⟨#[]⟩] 24);have q0:=an W #[.int .i64 0,.int .i64 0,.string ⟨#[]⟩] 24
 have ends:∀ w2:World,Below (W.alloc (.cells #[.int .i64 0,.int .i64 0,.string ⟨#[]⟩] 24)).heap.size (W.alloc (.cells #[.int .i64 0,.int .i64 0,.string ⟨#[]⟩] 24)) w2→(w2.cell? ⟨W.heap.size,0,none⟩=some (.int .i64 0)∧w2.cell? ⟨W.heap.size,1,none⟩=some (.int .i64 0)∧w2.cell? ⟨W.heap.size,2,none⟩=some (.string ⟨#[]⟩))∧w2.frozen? ⟨W.heap.size,0,none⟩=false∧w2.frozen? ⟨W.heap.size,1,none⟩=false∧w2.frozen? ⟨W.heap.size,2,none⟩=false:=fun w2 hb2=>by
  have q2:=(hb2.block _ (ae q0)).trans q0;exact ⟨⟨cell_of (i:=0) q2 rfl,cell_of (i:=1) q2 rfl,cell_of (i:=2) q2 rfl⟩,Hh w2 W.heap.size 0 _ _ q2,Hh w2 W.heap.size 1 _ _ q2,Hh w2 W.heap.size 2 _ _ q2⟩
 have HEn:Hid _:=ends;have d:=(hal.cell (p:=⟨tb,0,none⟩) (Hy _ _ c0)).trans c0;clear ends;by_cases h0:l.length=0
 ·have e:iA T l=(1,0,⟨#[]⟩):=by unfold iA; rw [if_pos h0]
  rw [e,h0];unfold fg;clear e d hT;go_enter Tryz.func178,Tryz.ntmps178;go_wp2_with fail
  generalize W.alloc (.cells #[.int .i64 0,.int .i64 0,.string ⟨#[]⟩] 24)=w0 at *;refine (dp w0).mono ?_;rintro e w2 ⟨rfl,hb2⟩;obtain ⟨⟨d0,d1,d2⟩,f0,f1,f2⟩:=HEn.out w2 hb2;have hA2:=chain hal hb2;dsimp only;go_wp2
  exact Hf (v:=.agg #[.int .i64 1,.int .i64 0,.string ⟨#[]⟩]) (by simp [results,Tryz.results178,go_sem,d0,d1,d2]) rfl ⟨rfl,((hA2.setCell (p:=⟨W.heap.size,0,none⟩) (Hd _) _).setCell (p:=⟨W.heap.size,1,none⟩) (Hd _) _).setCell (p:=⟨W.heap.size,2,none⟩) (Hd _) _⟩
 ·have e:iA T l=T l:=by unfold iA; rw [if_neg h0]
  rw [e];obtain ⟨gt,ct,rfl,egt,dt⟩:=hT;have con:=dt l a cap _ hk (by omega) (h.next hal) (Since.of hal);have hn:¬ (l.length:Int)=0:=by omega
  have hnb:((l.length:Int) == 0)=false:=by rw [beq_eq_false_iff_ne]; exact hn
  generalize T l=res at *;unfold fg at con ⊢;clear e dt h0;go_enter Tryz.func178,Tryz.ntmps178;go_wp2_with fail
  generalize W.alloc (.cells #[.int .i64 0,.int .i64 0,.string ⟨#[]⟩] 24)=w0 at *;go_wp2_with (go_at_fn gt; refine con.mono ?_; rintro e w2 ⟨rfl,hb2⟩; obtain ⟨⟨d0,d1,d2⟩,f0,f1,f2⟩:=HEn.out w2 hb2; have hA2:=chain hal hb2)
  exact Hf (v:=.agg #[.int .i64 res.1,.int .i64 res.2.1,.string res.2.2]) (by simp [results,Tryz.results178,go_sem,d0,d1,d2]) rfl ⟨rfl,((hA2.setCell (p:=⟨W.heap.size,0,none⟩) (Hd _) _).setCell (p:=⟨W.heap.size,1,none⟩) (Hd _) _).setCell (p:=⟨W.heap.size,2,none⟩) (Hd _) _⟩
theorem mb (u:Value) (T:List Wp→Vl) (w:World) (hT:yt w.heap.size u T w) :
  Calls Tryz.prog 149 #[u] w fun e w'=>∃ v,e = .returned v∧nj w.heap.size v (iA T) w'∧Below w.heap.size w w':=by
 have hT':=hT;obtain ⟨gt,ct,rfl,_,_⟩:=hT';have hal:=aa w (.cells #[.func (.func gt) #[] ct] 163);have q0:=an w #[.func (.func gt) #[] ct] 163;have fin:nj w.heap.size (.func (.func 178) #[] #[.pointer (some ⟨w.heap.size,0,none⟩)]) (iA T) (w.alloc (.cells #[.func (.func gt) #[] ct] 163)) :=
  ⟨178,_,rfl,enters_of Tryz.func178 (by kernel_rfl) rfl,fun l a cap W hk hs hW=>vN w.heap.size _ T w.heap.size a cap l W ((hW.cell (p:=⟨w.heap.size,0,none⟩) (Hd _) (ae q0)).trans (cell_of (i:=0) q0 rfl)) ((hT.next (Since.of hal)).next hW) hk hs⟩
 have HF:Hid _:=fin;clear fin hT;go_enter Tryz.func149,Tryz.ntmps149;go_wp2
 go_ret;exact ⟨_,rfl,HF.out,hal⟩
def mE (g:Nat) (T:List Wp→Vl):Prop:=∀ (l:List Wp) (a:Option Addr) (cap:Nat) (W:World),CN l→0<l.length→gV W a l→Calls Tryz.prog g #[.slice a l.length cap] W fun e w'=>e = .returned (fg (T l))∧Below W.heap.size W w'
theorem mE.fn {g:Nat} {T:List Wp→Vl} (h:mE g T) (eg:∀ args w,(callFunc g args).run Tryz.prog w = .ok (.enter g args) w) (lo:Nat) (w:World):yt lo (.func (.func g) #[] #[]) T w :=
 ⟨g,#[],rfl,eg,fun l a cap W hk h0 hs _=>by simpa using h l a cap W hk h0 hs⟩
theorem zD (h:mE 150 (eQ 3)):dY 3:=by
 intro w;have eT:iA (eQ 3)=eQ 3:=by
  funext l
  unfold iA
  split
  ·rename_i h0
   have:l = []:=Hs h0;subst this;simp [eQ,E8]
  ·rfl
 have con:=mb (.func (.func 150) #[] #[]) (eQ 3) w (h.fn (enters_of Tryz.func150 (by kernel_rfl) rfl) _ _);rw [eT] at con;go_enter Tryz.func112,Tryz.ntmps112;go_wp2_with fail
 refine con.mono ?_;rintro e w1 ⟨v,rfl,hv,hb⟩;clear con;obtain ⟨g,cb,rfl⟩:∃ g cb,v = .func (.func g) #[] cb:=by obtain ⟨g,cb,e,_⟩:=hv; exact ⟨g,cb,e⟩
 dsimp only;go_wp2
 go_ret;exact ⟨_,rfl,hv,hb⟩
theorem xU (h:mE 151 (eQ 4)):dY 4:=by
 intro w;have eT:iA (eQ 4)=eQ 4:=by
  funext l
  unfold iA
  split
  ·rename_i h0
   have:l = []:=Hs h0;subst this;simp [eQ,Dn]
  ·rfl
 have con:=mb (.func (.func 151) #[] #[]) (eQ 4) w (h.fn (enters_of Tryz.func151 (by kernel_rfl) rfl) _ _);rw [eT] at con;go_enter Tryz.func112,Tryz.ntmps112;go_wp2_with fail
 refine con.mono ?_;rintro e w1 ⟨v,rfl,hv,hb⟩;clear con;obtain ⟨g,cb,rfl⟩:∃ g cb,v = .func (.func g) #[] cb:=by obtain ⟨g,cb,e,_⟩:=hv; exact ⟨g,cb,e⟩
 dsimp only;go_wp2
 go_ret;exact ⟨_,rfl,hv,hb⟩
theorem yN (h:mE 152 (eQ 5)):dY 5:=by
 intro w;have eT:iA (eQ 5)=eQ 5:=by
  funext l
  unfold iA
  split
  ·rename_i h0
   have:l = []:=Hs h0;subst this;simp [eQ,DN]
  ·rfl
 have con:=mb (.func (.func 152) #[] #[]) (eQ 5) w (h.fn (enters_of Tryz.func152 (by kernel_rfl) rfl) _ _);rw [eT] at con;go_enter Tryz.func112,Tryz.ntmps112;go_wp2_with fail
 refine con.mono ?_;rintro e w1 ⟨v,rfl,hv,hb⟩;clear con;obtain ⟨g,cb,rfl⟩:∃ g cb,v = .func (.func g) #[] cb:=by obtain ⟨g,cb,e,_⟩:=hv; exact ⟨g,cb,e⟩
 dsimp only;go_wp2
 go_ret;exact ⟨_,rfl,hv,hb⟩
theorem oC (x y:Wp) (w:World):Calls Tryz.prog 181 #[.agg #[.int .i64 x.1.1,.int .i64 x.1.2.1,.string x.1.2.2,.int .i64 x.2],.agg #[.int .i64 y.1.1,.int .i64 y.1.2.1,.string y.1.2.2,.int .i64 y.2]] w fun e w'=>e = .returned (.int .i64 (dE x.1.1 x.1.2.1 x.1.2.2 y.1.1 y.1.2.1 y.1.2.2))∧Below w.heap.size w w':=by
 go_enter Tryz.func181,Tryz.ntmps181;go_wp2_with fail
 refine (jD _ _ _ _ _ _ _).mono ?_;rintro e w1 ⟨rfl,hb1⟩;dsimp only;go_wp2
 go_ret;exact ⟨rfl,chain (((He _ _).alloc (Hd _) _).alloc (by simp) _) hb1⟩
theorem wL (a b c d:Value) (w:World):(Instr.field 202 (.agg #[a,b,c,d]) 0).run Tryz.prog w = .ok (.agg #[a,b,c]) w:=by kernel_rfl
structure eS (W:World) (b:Nat) (p:Wp):Prop where
 c0:W.cell? ⟨b,0,none⟩=some (.int .i64 p.1.1)
 c1:W.cell? ⟨b,1,none⟩=some (.int .i64 p.1.2.1)
 c2:W.cell? ⟨b,2,none⟩=some (.string p.1.2.2)
 c3:W.cell? ⟨b,3,none⟩=some (.int .i64 p.2)
 f:∀ i,W.frozen? ⟨b,i,none⟩=false
 lt:b<W.heap.size
theorem eS.next {W w1:World} {b:Nat} {p:Wp} (h:eS W b p) (hb:Below W.heap.size W w1):eS w1 b p :=
 ⟨(hb.cell (p:=⟨b,0,none⟩) h.lt).trans h.c0,(hb.cell (p:=⟨b,1,none⟩) h.lt).trans h.c1,(hb.cell (p:=⟨b,2,none⟩) h.lt).trans h.c2,(hb.cell (p:=⟨b,3,none⟩) h.lt).trans h.c3,fun i=>(hb.frozen (p:=⟨b,i,none⟩) h.lt).trans (h.f i),Hi h.lt hb.size⟩
theorem eS.new (W:World) (p:Wp) (T:TypeId):eS (W.alloc (.cells #[.int .i64 p.1.1,.int .i64 p.1.2.1,.string p.1.2.2,.int .i64 p.2] T)) W.heap.size p:=by
 have q:=an W #[.int .i64 p.1.1,.int .i64 p.1.2.1,.string p.1.2.2,.int .i64 p.2] T;exact ⟨cell_of (i:=0) q rfl,cell_of (i:=1) q rfl,cell_of (i:=2) q rfl,cell_of (i:=3) q rfl,fun i=>Hh _ W.heap.size i _ _ q,ae q⟩
theorem eS.put {W:World} {b:Nat} {p:Wp} (h:eS W b p) (u:Wp):eS ((((W.setCell ⟨b,0,none⟩ (.int .i64 u.1.1)).setCell ⟨b,1,none⟩ (.int .i64 u.1.2.1)).setCell ⟨b,2,none⟩ (.string u.1.2.2)).setCell ⟨b,3,none⟩ (.int .i64 u.2)) b u:=by
 refine ⟨?_,?_,?_,?_,fun i=>by rw [Io,Io,Io,Io]; exact h.f i,by simpa using h.lt⟩
 ·simp [go_sem,h.c0]
 ·simp [go_sem,h.c1]
 ·simp [go_sem,h.c2]
 ·simp [go_sem,h.c3]
theorem eS.CL {W:World} {b:Nat} {p:Wp} (h:eS W b p) (g:Nat) (u:Wp) (hn:g≠b):eS ((((W.setCell ⟨g,0,none⟩ (.int .i64 u.1.1)).setCell ⟨g,1,none⟩ (.int .i64 u.1.2.1)).setCell ⟨g,2,none⟩ (.string u.1.2.2)).setCell ⟨g,3,none⟩ (.int .i64 u.2)) b p:=by
 have key:∀ (X:World) (o o':Nat) (v:Value),(X.setCell ⟨g,o',none⟩ v).cell? ⟨b,o,none⟩=X.cell? ⟨b,o,none⟩:=fun X o o' v=>Hq _ _ _ _ (by intro e; injection e with e; exact hn e)
 refine ⟨?_,?_,?_,?_,fun i=>by rw [Io,Io,Io,Io]; exact h.f i,by simpa using h.lt⟩
 ·rw [key,key,key,key]; exact h.c0
 ·rw [key,key,key,key]; exact h.c1
 ·rw [key,key,key,key]; exact h.c2
 ·rw [key,key,key,key]; exact h.c3
def ie:List Wp→Wp
 | []=>(fV,0)
 | p :: r=>r.foldl (fun m x=>if dg x.1 m.1<0 then x else m) p
theorem zt {l:List Wp} {i:Nat} (h0:0<i) (h:i<l.length):ie (l.take (i+1))=if dg l[i].1 (ie (l.take i)).1<0 then l[i] else ie (l.take i):=by
 rw [Ht h]
 match l,i,h0,h with
 | p :: r,i+1,_,h =>
  simp only [List.take_succ_cons,Iz,ie,List.foldl_append,IV,List.foldl_nil];rfl
theorem CF {l:List Wp} (h:0<l.length):ie (l.take 1)=l[0]:=by
 match l,h with
 | p :: r,_=>rfl
theorem Ap:∀ (l:List Wp),0<l.length→(ie l).1=Dn l
 | p :: r,_=>by
  unfold ie Dn
  have aux:∀ (r:List Wp) (p:Wp),(r.foldl (fun m x=>if dg x.1 m.1<0 then x else m) p).1=r.foldl (fun m x=>if dg x.1 m<0 then x.1 else m) p.1:=by
   intro r
   induction r with
   | nil=>intro p; rfl
   | cons x t ih =>
    intro p;rw [IV,IV,ih];by_cases c:dg x.1 p.1<0
    ·rw [if_pos c,if_pos c]
    ·rw [if_neg c,if_neg c]
  exact aux r p
theorem vT (g:Nat) (eg:∀ args w,(callFunc g args).run Tryz.prog w = .ok (.enter g args) w) (hd:∀ (x y:Wp) (W:World),Calls Tryz.prog g #[.agg #[.int .i64 x.1.1,.int .i64 x.1.2.1,.string x.1.2.2,.int .i64 x.2],.agg #[.int .i64 y.1.1,.int .i64 y.1.2.1,.string y.1.2.2,.int .i64 y.2]] W fun e w'=>e = .returned (.int .i64 (dE x.1.1 x.1.2.1 x.1.2.2 y.1.1 y.1.2.1 y.1.2.2))∧Below W.heap.size W w') (a:Option Addr) (cap:Nat) (l:List Wp) (w:World) (h:gV w a l) (h0:0<l.length) (hl:l.length≤400) :
  Calls Tryz.prog 180 #[.slice a l.length cap,.func (.func g) #[] #[]] w fun e w'=>e = .returned (.agg #[.int .i64 (ie l).1.1,.int .i64 (ie l).1.2.1,.string (ie l).1.2.2,.int .i64 (ie l).2])∧Below w.heap.size w w':=by
 have hal:=aa w (.cells #[.int .i64 0,.int .i64 0,.string ⟨#[]⟩,.int .i64 0] 202);have V0:eS (w.alloc (.cells #[.int .i64 0,.int .i64 0,.string ⟨#[]⟩,.int .i64 0] 202)) w.heap.size (fV,0):=eS.new w (fV,0) 202;obtain ⟨b,off,rfl,hbl,c0,c1,c2,c3⟩:=(h.next hal).elem h0;have z0:(w.alloc (.cells #[.int .i64 0,.int .i64 0,.string ⟨#[]⟩,.int .i64 0] 202)).heap.size > w.heap.size:=by simp
 generalize hres:ie l=res;have HRes:Hid (ie l=res):=hres;clear hres;simp only [Jg,IY] at c0 c1 c2 c3;have hn1:¬ (l.length:Int)<1:=by omega
 have hp:(0:Int)<(l.length:Int):=by omega
 go_enter Tryz.func180,Tryz.ntmps180;go_upto_region 3 with fail
 generalize w.alloc (.cells #[.int .i64 0,.int .i64 0,.string ⟨#[]⟩,.int .i64 0] 202)=w0 at *;have hal1:=aa w0 (.cells #[.int .i64 l[0].1.1,.int .i64 l[0].1.2.1,.string l[0].1.2.2,.int .i64 l[0].2] 202);have V1:eS (w0.alloc (.cells #[.int .i64 l[0].1.1,.int .i64 l[0].1.2.1,.string l[0].1.2.2,.int .i64 l[0].2] 202)) w0.heap.size l[0]:=eS.new w0 l[0] 202;have V0':=V0.next hal1;go_upto_region 4 with fail
 clear c0 c1 c2 c3 V0;have hA1:=chain hal hal1;generalize w0.alloc (.cells #[.int .i64 l[0].1.1,.int .i64 l[0].1.2.1,.string l[0].1.2.2,.int .i64 l[0].2] 202)=w1 at *;go_wp2_with fail
 go_loopw [6] (fun i wr=>∃ (k:Nat) (mv:Wp),0<k∧k≤l.length∧i = .int .i64 k∧eS wr w0.heap.size mv∧eS wr w.heap.size (fV,0)∧Hid (mv=ie (l.take k))∧Below w.heap.size w wr) (fun i _=>l.length - (intOf i).toNat)
 case atStart=>exact ⟨1,l[0],by omega,by omega,rfl,V1,V0',(CF h0).symm,hA1⟩
 case round =>
  clear V1 V0' hA1 hal1;obtain ⟨k,mv,hk0,hk,rfl,VM,VR,HM,hb⟩:=hrel;by_cases hlt:k<l.length
  ·obtain ⟨b',off',e',hbl',c0,c1,c2,c3⟩:=(h.next hb).elem hlt;have HT:Hid (ie (l.take (k+1))=if dg l[k].1 (ie (l.take k)).1<0 then l[k] else ie (l.take k)):=zt hk0 hlt;injection e' with e'
   injection e' with e1 e2 _
   subst e1 e2;have k0:(0:Int)≤(k:Int):=by omega
   have k1:(k:Int)<(l.length:Int):=by omega
   clear c0 c1 c2 c3;have hCC:∀ W W':World,(gV W (some ⟨b,off,none⟩) l∧eS W w0.heap.size mv)→Below W.heap.size W W'→(gV W' (some ⟨b,off,none⟩) l∧eS W' w0.heap.size mv):=fun W W' h hb=>⟨h.1.next hb,h.2.next hb⟩
   have hdr:Below wr.heap.size wr wr.drew:=(He _ _).drew;have CW:(gV wr.drew (some ⟨b,off,none⟩) l∧eS wr.drew w0.heap.size mv):=hCC _ _ ⟨h.next hb,VM⟩ hdr;go_upto_region 7 with fail
   refine aG (fun W=>(gV W (some ⟨b,off,none⟩) l∧eS W w0.heap.size mv)) (by kernel_rfl) ?_;refine ab hCC 20 (i:=0) (v:=.func (.func g) #[] #[]) (fun n hn=>?_) CW ?_
   ·go_simp
   simp only [Act.put,pA,pB,pC];refine ab hCC 21 (i:=1) (v:=.slice (some ⟨b,off,none⟩) l.length cap) (fun n hn=>?_) CW ?_
   ·go_simp
   simp only [Act.put,pA,pB,pC];refine ab hCC 22 (i:=2) (v:=.int .i64 (k:Int)) (fun n hn=>?_) CW ?_
   ·go_simp
   simp only [Act.put,pA,pB,pC];refine ab hCC 23 (i:=3) (v:=.pointer (some ⟨b,off+k*4,none⟩)) (fun n hn=>?_) CW ?_
   ·go_simp
   simp only [Act.put,pA,pB,pC];refine ab hCC 24 (i:=4) (v:=.agg #[.int .i64 l[k].1.1,.int .i64 l[k].1.2.1,.string l[k].1.2.2,.int .i64 l[k].2]) (fun n hn=>?_) CW ?_
   ·obtain ⟨b2,off2,e2,_,d0,d1,d2,d3⟩:=hn.1.elem hlt;injection e2 with e2
    injection e2 with e21 e22 _
    subst e21 e22;go_simp
   simp only [Act.put,pA,pB,pC];refine ab hCC 25 (i:=5) (v:=.agg #[.int .i64 mv.1.1,.int .i64 mv.1.2.1,.string mv.1.2.2,.int .i64 mv.2]) (fun n hn=>?_) CW ?_
   ·obtain ⟨n0,n1,n2,n3,_,_⟩:=hn.2;go_simp
   simp only [Act.put,pA,pB,pC];refine au (rs:=[6]) (by kernel_rfl) (by simp) ?_;intro w3 hb3 jj hj;obtain rfl:jj=6:=by simpa using hj
   clear hj;have CW3:=hCC _ _ CW hb3;have con:=hd l[k] mv w3;generalize hcm:dE l[k].1.1 l[k].1.2.1 l[k].1.2.2 mv.1.1 mv.1.2.1 mv.1.2.2=cm at con;have HCm:Hid (dg l[k].1 mv.1=cm):=hcm;clear hcm;refine wpOp_step rfl (fun K hK=>?_);go_simp
   first | (refine con.mono ?_) | (go_at_fn g; refine con.mono ?_)
   rintro e w4 ⟨rfl,hb4⟩;clear con;have CW4:=hCC _ _ CW3 hb4;refine hK _ _ ⟨CW4,?_⟩;clear hK K CW3;refine ab hCC 27 (i:=7) (v:=.bool (decide (cm<0))) (fun n hn=>?_) CW4 ?_
   ·go_simp
   simp only [Act.put,pA,pB,pC];refine bd (by kernel_rfl) ?_;intro w7 hb7;have D7:=chain hdr (chain hb3 (chain hb4 hb7));have hB7:=chain hb D7;obtain ⟨S7,VM7⟩:=hCC _ _ CW4 hb7;have VR7:=VR.next D7;clear CW CW4 hCC hb3 hb4 hb7 VM VR;by_cases hc:cm<0
   ·have hg:decide (cm<0)=true:=decide_eq_true hc;rw [hg];have HM':Hid (l[k]=ie (l.take (k+1))):=by show _=_; rw [HT.out,← HM.out,HCm.out,if_pos hc]
    obtain ⟨b2,off2,e2,_,d0,d1,d2,d3⟩:=S7.elem hlt;injection e2 with e2
    injection e2 with e21 e22 _
    subst e21 e22;have VS:=VM7.put l[k];have VRS:=VR7.CL w0.heap.size l[k] (by omega);obtain ⟨n0,n1,n2,n3,nf,nl⟩:=VM7;have nf0:=nf 0;have nf1:=nf 1;have nf2:=nf 2;have nf3:=nf 3;clear hc HM D7;go_wp2
    go_roundw
    case rel=>exact ⟨k+1,l[k],by omega,by omega,by go_num,VS,VRS,HM',(((hB7.setCell (p:=⟨w0.heap.size,0,none⟩) (by show _≤w0.heap.size; omega) _).setCell (p:=⟨w0.heap.size,1,none⟩) (by show _≤w0.heap.size; omega) _).setCell (p:=⟨w0.heap.size,2,none⟩) (by show _≤w0.heap.size; omega) _).setCell (p:=⟨w0.heap.size,3,none⟩) (by show _≤w0.heap.size; omega) _⟩
    case measure=>simp [intOf]; omega
   ·have hg:decide (cm<0)=false:=decide_eq_false hc;rw [hg];have HM':Hid (mv=ie (l.take (k+1))):=by show _=_; rw [HT.out,← HM.out,HCm.out,if_neg hc]
    clear hc HM D7 S7;go_wp2
    go_roundw
    case rel=>exact ⟨k+1,mv,by omega,by omega,by go_num,VM7,VR7,HM',hB7⟩
    case measure=>simp [intOf]; omega
  ·have e:k=l.length:=by omega
   subst e;have er:mv=res:=by rw [HM.out,Ib,HRes.out]
   subst er;obtain ⟨m0,m1,m2,m3,_,_⟩:=VM;have VS:=VR.put mv;obtain ⟨n0,n1,n2,n3,nf,nl⟩:=VR;have nf0:=nf 0;have nf1:=nf 1;have nf2:=nf 2;have nf3:=nf 3;obtain ⟨s0,s1,s2,s3,_,_⟩:=VS;clear HM;go_wp2
   exact Hf (v:=.agg #[.int .i64 mv.1.1,.int .i64 mv.1.2.1,.string mv.1.2.2,.int .i64 mv.2]) (by simp [results,Tryz.results180,go_sem,s0,s1,s2,s3]) rfl ⟨rfl,(((hb.setCell (p:=⟨w.heap.size,0,none⟩) (Hd _) _).setCell (p:=⟨w.heap.size,1,none⟩) (Hd _) _).setCell (p:=⟨w.heap.size,2,none⟩) (Hd _) _).setCell (p:=⟨w.heap.size,3,none⟩) (Hd _) _⟩
def ic:List Wp→Wp
 | []=>(fV,0)
 | p :: r=>r.foldl (fun m x=>if 0<dg x.1 m.1 then x else m) p
theorem yf {l:List Wp} {i:Nat} (h0:0<i) (h:i<l.length):ic (l.take (i+1))=if 0<dg l[i].1 (ic (l.take i)).1 then l[i] else ic (l.take i):=by
 rw [Ht h]
 match l,i,h0,h with
 | p :: r,i+1,_,h =>
  simp only [List.take_succ_cons,Iz,ic,List.foldl_append,IV,List.foldl_nil];rfl
theorem Bm {l:List Wp} (h:0<l.length):ic (l.take 1)=l[0]:=by
 match l,h with
 | p :: r,_=>rfl
theorem Bx:∀ (l:List Wp),0<l.length→(ic l).1=DN l
 | p :: r,_=>by
  unfold ic DN
  have aux:∀ (r:List Wp) (p:Wp),(r.foldl (fun m x=>if 0<dg x.1 m.1 then x else m) p).1=r.foldl (fun m x=>if 0<dg x.1 m then x.1 else m) p.1:=by
   intro r
   induction r with
   | nil=>intro p; rfl
   | cons x t ih =>
    intro p;rw [IV,IV,ih];by_cases c:0<dg x.1 p.1
    ·rw [if_pos c,if_pos c]
    ·rw [if_neg c,if_neg c]
  exact aux r p
theorem ux (g:Nat) (eg:∀ args w,(callFunc g args).run Tryz.prog w = .ok (.enter g args) w) (hd:∀ (x y:Wp) (W:World),Calls Tryz.prog g #[.agg #[.int .i64 x.1.1,.int .i64 x.1.2.1,.string x.1.2.2,.int .i64 x.2],.agg #[.int .i64 y.1.1,.int .i64 y.1.2.1,.string y.1.2.2,.int .i64 y.2]] W fun e w'=>e = .returned (.int .i64 (dE x.1.1 x.1.2.1 x.1.2.2 y.1.1 y.1.2.1 y.1.2.2))∧Below W.heap.size W w') (a:Option Addr) (cap:Nat) (l:List Wp) (w:World) (h:gV w a l) (h0:0<l.length) (hl:l.length≤400) :
  Calls Tryz.prog 182 #[.slice a l.length cap,.func (.func g) #[] #[]] w fun e w'=>e = .returned (.agg #[.int .i64 (ic l).1.1,.int .i64 (ic l).1.2.1,.string (ic l).1.2.2,.int .i64 (ic l).2])∧Below w.heap.size w w':=by
 have hal:=aa w (.cells #[.int .i64 0,.int .i64 0,.string ⟨#[]⟩,.int .i64 0] 202);have V0:eS (w.alloc (.cells #[.int .i64 0,.int .i64 0,.string ⟨#[]⟩,.int .i64 0] 202)) w.heap.size (fV,0):=eS.new w (fV,0) 202;obtain ⟨b,off,rfl,hbl,c0,c1,c2,c3⟩:=(h.next hal).elem h0;have z0:(w.alloc (.cells #[.int .i64 0,.int .i64 0,.string ⟨#[]⟩,.int .i64 0] 202)).heap.size > w.heap.size:=by simp
 generalize hres:ic l=res;have HRes:Hid (ic l=res):=hres;clear hres;simp only [Jg,IY] at c0 c1 c2 c3;have hn1:¬ (l.length:Int)<1:=by omega
 have hp:(0:Int)<(l.length:Int):=by omega
 go_enter Tryz.func182,Tryz.ntmps182;go_upto_region 3 with fail
 generalize w.alloc (.cells #[.int .i64 0,.int .i64 0,.string ⟨#[]⟩,.int .i64 0] 202)=w0 at *;have hal1:=aa w0 (.cells #[.int .i64 l[0].1.1,.int .i64 l[0].1.2.1,.string l[0].1.2.2,.int .i64 l[0].2] 202);have V1:eS (w0.alloc (.cells #[.int .i64 l[0].1.1,.int .i64 l[0].1.2.1,.string l[0].1.2.2,.int .i64 l[0].2] 202)) w0.heap.size l[0]:=eS.new w0 l[0] 202;have V0':=V0.next hal1;go_upto_region 4 with fail
 clear c0 c1 c2 c3 V0;have hA1:=chain hal hal1;generalize w0.alloc (.cells #[.int .i64 l[0].1.1,.int .i64 l[0].1.2.1,.string l[0].1.2.2,.int .i64 l[0].2] 202)=w1 at *;go_wp2_with fail
 go_loopw [6] (fun i wr=>∃ (k:Nat) (mv:Wp),0<k∧k≤l.length∧i = .int .i64 k∧eS wr w0.heap.size mv∧eS wr w.heap.size (fV,0)∧Hid (mv=ic (l.take k))∧Below w.heap.size w wr) (fun i _=>l.length - (intOf i).toNat)
 case atStart=>exact ⟨1,l[0],by omega,by omega,rfl,V1,V0',(Bm h0).symm,hA1⟩
 case round =>
  clear V1 V0' hA1 hal1;obtain ⟨k,mv,hk0,hk,rfl,VM,VR,HM,hb⟩:=hrel;by_cases hlt:k<l.length
  ·obtain ⟨b',off',e',hbl',c0,c1,c2,c3⟩:=(h.next hb).elem hlt;have HT:Hid (ic (l.take (k+1))=if 0<dg l[k].1 (ic (l.take k)).1 then l[k] else ic (l.take k)):=yf hk0 hlt;injection e' with e'
   injection e' with e1 e2 _
   subst e1 e2;have k0:(0:Int)≤(k:Int):=by omega
   have k1:(k:Int)<(l.length:Int):=by omega
   clear c0 c1 c2 c3;have hCC:∀ W W':World,(gV W (some ⟨b,off,none⟩) l∧eS W w0.heap.size mv)→Below W.heap.size W W'→(gV W' (some ⟨b,off,none⟩) l∧eS W' w0.heap.size mv):=fun W W' h hb=>⟨h.1.next hb,h.2.next hb⟩
   have hdr:Below wr.heap.size wr wr.drew:=(He _ _).drew;have CW:(gV wr.drew (some ⟨b,off,none⟩) l∧eS wr.drew w0.heap.size mv):=hCC _ _ ⟨h.next hb,VM⟩ hdr;go_upto_region 7 with fail
   refine aG (fun W=>(gV W (some ⟨b,off,none⟩) l∧eS W w0.heap.size mv)) (by kernel_rfl) ?_;refine ab hCC 20 (i:=0) (v:=.func (.func g) #[] #[]) (fun n hn=>?_) CW ?_
   ·go_simp
   simp only [Act.put,pA,pB,pC];refine ab hCC 21 (i:=1) (v:=.slice (some ⟨b,off,none⟩) l.length cap) (fun n hn=>?_) CW ?_
   ·go_simp
   simp only [Act.put,pA,pB,pC];refine ab hCC 22 (i:=2) (v:=.int .i64 (k:Int)) (fun n hn=>?_) CW ?_
   ·go_simp
   simp only [Act.put,pA,pB,pC];refine ab hCC 23 (i:=3) (v:=.pointer (some ⟨b,off+k*4,none⟩)) (fun n hn=>?_) CW ?_
   ·go_simp
   simp only [Act.put,pA,pB,pC];refine ab hCC 24 (i:=4) (v:=.agg #[.int .i64 l[k].1.1,.int .i64 l[k].1.2.1,.string l[k].1.2.2,.int .i64 l[k].2]) (fun n hn=>?_) CW ?_
   ·obtain ⟨b2,off2,e2,_,d0,d1,d2,d3⟩:=hn.1.elem hlt;injection e2 with e2
    injection e2 with e21 e22 _
    subst e21 e22;go_simp
   simp only [Act.put,pA,pB,pC];refine ab hCC 25 (i:=5) (v:=.agg #[.int .i64 mv.1.1,.int .i64 mv.1.2.1,.string mv.1.2.2,.int .i64 mv.2]) (fun n hn=>?_) CW ?_
   ·obtain ⟨n0,n1,n2,n3,_,_⟩:=hn.2;go_simp
   simp only [Act.put,pA,pB,pC];refine au (rs:=[6]) (by kernel_rfl) (by simp) ?_;intro w3 hb3 jj hj;obtain rfl:jj=6:=by simpa using hj
   clear hj;have CW3:=hCC _ _ CW hb3;have con:=hd l[k] mv w3;generalize hcm:dE l[k].1.1 l[k].1.2.1 l[k].1.2.2 mv.1.1 mv.1.2.1 mv.1.2.2=cm at con;have HCm:Hid (dg l[k].1 mv.1=cm):=hcm;clear hcm;refine wpOp_step rfl (fun K hK=>?_);go_simp
   first | (refine con.mono ?_) | (go_at_fn g; refine con.mono ?_)
   rintro e w4 ⟨rfl,hb4⟩;clear con;have CW4:=hCC _ _ CW3 hb4;refine hK _ _ ⟨CW4,?_⟩;clear hK K CW3;refine ab hCC 27 (i:=7) (v:=.bool (decide (0<cm))) (fun n hn=>?_) CW4 ?_
   ·go_simp
   simp only [Act.put,pA,pB,pC];refine bd (by kernel_rfl) ?_;intro w7 hb7;have D7:=chain hdr (chain hb3 (chain hb4 hb7));have hB7:=chain hb D7;obtain ⟨S7,VM7⟩:=hCC _ _ CW4 hb7;have VR7:=VR.next D7;clear CW CW4 hCC hb3 hb4 hb7 VM VR;by_cases hc:0<cm
   ·have hg:decide (0<cm)=true:=decide_eq_true hc;rw [hg];have HM':Hid (l[k]=ic (l.take (k+1))):=by show _=_; rw [HT.out,← HM.out,HCm.out,if_pos hc]
    obtain ⟨b2,off2,e2,_,d0,d1,d2,d3⟩:=S7.elem hlt;injection e2 with e2
    injection e2 with e21 e22 _
    subst e21 e22;have VS:=VM7.put l[k];have VRS:=VR7.CL w0.heap.size l[k] (by omega);obtain ⟨n0,n1,n2,n3,nf,nl⟩:=VM7;have nf0:=nf 0;have nf1:=nf 1;have nf2:=nf 2;have nf3:=nf 3;clear hc HM D7;go_wp2
    go_roundw
    case rel=>exact ⟨k+1,l[k],by omega,by omega,by go_num,VS,VRS,HM',(((hB7.setCell (p:=⟨w0.heap.size,0,none⟩) (by show _≤w0.heap.size; omega) _).setCell (p:=⟨w0.heap.size,1,none⟩) (by show _≤w0.heap.size; omega) _).setCell (p:=⟨w0.heap.size,2,none⟩) (by show _≤w0.heap.size; omega) _).setCell (p:=⟨w0.heap.size,3,none⟩) (by show _≤w0.heap.size; omega) _⟩
    case measure=>simp [intOf]; omega
   ·have hg:decide (0<cm)=false:=decide_eq_false hc;rw [hg];have HM':Hid (mv=ic (l.take (k+1))):=by show _=_; rw [HT.out,← HM.out,HCm.out,if_neg hc]
    clear hc HM D7 S7;go_wp2
    go_roundw
    case rel=>exact ⟨k+1,mv,by omega,by omega,by go_num,VM7,VR7,HM',hB7⟩
    case measure=>simp [intOf]; omega
  ·have e:k=l.length:=by omega
   subst e;have er:mv=res:=by rw [HM.out,Ib,HRes.out]
   subst er;obtain ⟨m0,m1,m2,m3,_,_⟩:=VM;have VS:=VR.put mv;obtain ⟨n0,n1,n2,n3,nf,nl⟩:=VR;have nf0:=nf 0;have nf1:=nf 1;have nf2:=nf 2;have nf3:=nf 3;obtain ⟨s0,s1,s2,s3,_,_⟩:=VS;clear HM;go_wp2
   exact Hf (v:=.agg #[.int .i64 mv.1.1,.int .i64 mv.1.2.1,.string mv.1.2.2,.int .i64 mv.2]) (by simp [results,Tryz.results182,go_sem,s0,s1,s2,s3]) rfl ⟨rfl,(((hb.setCell (p:=⟨w.heap.size,0,none⟩) (Hd _) _).setCell (p:=⟨w.heap.size,1,none⟩) (Hd _) _).setCell (p:=⟨w.heap.size,2,none⟩) (Hd _) _).setCell (p:=⟨w.heap.size,3,none⟩) (Hd _) _⟩
theorem BY:mE 151 (eQ 4):=by
 intro l a cap W hk h0 h;have eT:eQ 4 l=(ie l).1:=by rw [Ap l h0]; simp [eQ]
 rw [eT];have hal:=aa W (.cells #[.int .i64 0,.int .i64 0,.string ⟨#[]⟩] 24);have q0:=an W #[.int .i64 0,.int .i64 0,.string ⟨#[]⟩] 24;have con:=vT 181 (enters_of Tryz.func181 (by kernel_rfl) rfl) oC a cap l _ (h.next hal) h0 hk.len;generalize ie l=res at *;unfold fg;clear eT;go_enter Tryz.func151,Tryz.ntmps151;go_wp2_with fail
 generalize W.alloc (.cells #[.int .i64 0,.int .i64 0,.string ⟨#[]⟩] 24)=w0 at *;refine con.mono ?_;rintro e w2 ⟨rfl,hb2⟩;clear con;have q2:=(hb2.block _ (ae q0)).trans q0;have d0:w2.cell? ⟨W.heap.size,0,none⟩=some (.int .i64 0):=cell_of (i:=0) q2 rfl;have d1:w2.cell? ⟨W.heap.size,1,none⟩=some (.int .i64 0):=cell_of (i:=1) q2 rfl;have d2:w2.cell? ⟨W.heap.size,2,none⟩=some (.string ⟨#[]⟩):=cell_of (i:=2) q2 rfl;have f0:w2.frozen? ⟨W.heap.size,0,none⟩=false:=Hh w2 W.heap.size 0 _ _ q2;have f1:w2.frozen? ⟨W.heap.size,1,none⟩=false:=Hh w2 W.heap.size 1 _ _ q2
 have f2:w2.frozen? ⟨W.heap.size,2,none⟩=false:=Hh w2 W.heap.size 2 _ _ q2;have hA2:=chain hal hb2;have hfw:=wL (.int .i64 res.1.1) (.int .i64 res.1.2.1) (.string res.1.2.2) (.int .i64 res.2) w2;dsimp only;go_wp2
 exact Hf (v:=.agg #[.int .i64 res.1.1,.int .i64 res.1.2.1,.string res.1.2.2]) (by simp [results,Tryz.results151,go_sem,d0,d1,d2]) rfl ⟨rfl,((hA2.setCell (p:=⟨W.heap.size,0,none⟩) (Hd _) _).setCell (p:=⟨W.heap.size,1,none⟩) (Hd _) _).setCell (p:=⟨W.heap.size,2,none⟩) (Hd _) _⟩
theorem rN:mE 152 (eQ 5):=by
 intro l a cap W hk h0 h;have eT:eQ 5 l=(ic l).1:=by rw [Bx l h0]; simp [eQ]
 rw [eT];have hal:=aa W (.cells #[.int .i64 0,.int .i64 0,.string ⟨#[]⟩] 24);have q0:=an W #[.int .i64 0,.int .i64 0,.string ⟨#[]⟩] 24;have con:=ux 181 (enters_of Tryz.func181 (by kernel_rfl) rfl) oC a cap l _ (h.next hal) h0 hk.len;generalize ic l=res at *;unfold fg;clear eT;go_enter Tryz.func152,Tryz.ntmps152;go_wp2_with fail
 generalize W.alloc (.cells #[.int .i64 0,.int .i64 0,.string ⟨#[]⟩] 24)=w0 at *;refine con.mono ?_;rintro e w2 ⟨rfl,hb2⟩;clear con;have q2:=(hb2.block _ (ae q0)).trans q0;have d0:w2.cell? ⟨W.heap.size,0,none⟩=some (.int .i64 0):=cell_of (i:=0) q2 rfl;have d1:w2.cell? ⟨W.heap.size,1,none⟩=some (.int .i64 0):=cell_of (i:=1) q2 rfl;have d2:w2.cell? ⟨W.heap.size,2,none⟩=some (.string ⟨#[]⟩):=cell_of (i:=2) q2 rfl;have f0:w2.frozen? ⟨W.heap.size,0,none⟩=false:=Hh w2 W.heap.size 0 _ _ q2;have f1:w2.frozen? ⟨W.heap.size,1,none⟩=false:=Hh w2 W.heap.size 1 _ _ q2
 have f2:w2.frozen? ⟨W.heap.size,2,none⟩=false:=Hh w2 W.heap.size 2 _ _ q2;have hA2:=chain hal hb2;have hfw:=wL (.int .i64 res.1.1) (.int .i64 res.1.2.1) (.string res.1.2.2) (.int .i64 res.2) w2;dsimp only;go_wp2
 exact Hf (v:=.agg #[.int .i64 res.1.1,.int .i64 res.1.2.1,.string res.1.2.2]) (by simp [results,Tryz.results152,go_sem,d0,d1,d2]) rfl ⟨rfl,((hA2.setCell (p:=⟨W.heap.size,0,none⟩) (Hd _) _).setCell (p:=⟨W.heap.size,1,none⟩) (Hd _) _).setCell (p:=⟨W.heap.size,2,none⟩) (Hd _) _⟩
theorem Fv:dY 4:=xU BY
theorem Ga:dY 5:=yN rN
def nh:List Wp→Int
 | []=>0
 | p :: r=>p.2*(p.1.2.1.tdiv 100000000)+nh r
def nn:List Wp→Int
 | []=>0
 | p :: r=>p.2*(p.1.2.1.tmod 100000000)+nn r
theorem yZ {l:List Wp} {k:Nat} (h:k<l.length):nh (l.take (k+1))=nh (l.take k)+l[k].2*(l[k].1.2.1.tdiv 100000000):=by
 have aux:∀ (l:List Wp) (p:Wp),nh (l ++ [p])=nh l+p.2*(p.1.2.1.tdiv 100000000):=by
  intro l p
  induction l with
  | nil=>simp [nh]
  | cons q r ih=>rw [Iz,nh,nh,ih]; omega
 rw [Ht h,aux]
theorem zp {l:List Wp} {k:Nat} (h:k<l.length):nn (l.take (k+1))=nn (l.take k)+l[k].2*(l[k].1.2.1.tmod 100000000):=by
 have aux:∀ (l:List Wp) (p:Wp),nn (l ++ [p])=nn l+p.2*(p.1.2.1.tmod 100000000):=by
  intro l p
  induction l with
  | nil=>simp [nn]
  | cons q r ih=>rw [Iz,nn,nn,ih]; omega
 rw [Ht h,aux]
theorem Eo:∀ l:List Wp,nh l*100000000+nn l=nr l
 | []=>rfl
 | p :: r=>by
  have ih:=Eo r
  have e:=Int.mul_tdiv_add_tmod p.1.2.1 100000000
  rw [nh,nn,nr,← ih]
  conv=>rhs; rw [← e]
  rw [Int.mul_add,Int.add_mul,Int.mul_assoc p.2,Int.mul_comm (Int.tdiv _ _) 100000000]
  omega
theorem xu {n:Int} (h:-1000000000000000≤n∧n≤1000000000000000):-10000000≤n.tdiv 100000000∧n.tdiv 100000000≤10000000:=by
 by_cases h0:0≤n
 ·rw [Int.tdiv_eq_ediv_of_nonneg h0]; omega
 ·have e:=Int.neg_tdiv (-n) 100000000;rw [Int.neg_neg] at e;rw [e,Int.tdiv_eq_ediv_of_nonneg (by omega)];omega
theorem xb {n:Int}:-100000000≤n.tmod 100000000∧n.tmod 100000000≤100000000:=by
 by_cases h0:0≤n
 ·rw [Int.tmod_eq_emod_of_nonneg h0]; omega
 ·have e:=Int.neg_tmod (-n) 100000000;rw [Int.neg_neg] at e;rw [e,Int.tmod_eq_emod_of_nonneg (by omega)];omega
theorem BH {n:Int}:-100000000<n.tmod 100000000∧n.tmod 100000000<100000000:=by
 by_cases h0:0≤n
 ·rw [Int.tmod_eq_emod_of_nonneg h0]; omega
 ·have e:=Int.neg_tmod (-n) 100000000;rw [Int.neg_neg] at e;rw [e,Int.tmod_eq_emod_of_nonneg (by omega)];omega
theorem By {x w B:Int} (h:0≤w∧w≤1000000) (hx:-B≤x∧x≤B) (hB:0≤B):-(1000000*B)≤w*x∧w*x≤1000000*B:=by
 constructor
 ·have h1:w*(-B)≤w*x:=Int.mul_le_mul_of_nonneg_left hx.1 h.1;have h2:w*B≤1000000*B:=Int.mul_le_mul_of_nonneg_right h.2 hB;rw [Int.mul_neg] at h1;omega
 ·have h1:w*x≤w*B:=Int.mul_le_mul_of_nonneg_left hx.2 h.1;have h2:w*B≤1000000*B:=Int.mul_le_mul_of_nonneg_right h.2 hB;omega
theorem Fy:mE 150 (eQ 3):=by
 intro l a cap W hok hl0 h;have eT:eQ 3 l=if mf (nr l)=true then (3,nr l,⟨#[]⟩) else (1,0,⟨#[]⟩):=by
  have:¬ l = []:=by intro e; rw [e] at hl0; simp at hl0
  simp only [eQ,if_true,E8];rw [if_neg this]
 have hl:=hok.len;have HK:Hid (CN l):=hok;generalize hres:eQ 3 l=res;have HRes:Hid (res=if mf (nr l)=true then (3,nr l,⟨#[]⟩) else (1,0,⟨#[]⟩)):=by show _=_; rw [← hres]; exact eT
 clear hok eT hres hl0;have hal0:=aa W (.cells #[.int .i64 0,.int .i64 0,.string ⟨#[]⟩] 24);have q00:=an W #[.int .i64 0,.int .i64 0,.string ⟨#[]⟩] 24;unfold fg;go_enter Tryz.func150,Tryz.ntmps150;go_wp2_with fail
 generalize W.alloc (.cells #[.int .i64 0,.int .i64 0,.string ⟨#[]⟩] 24)=w0 at *;go_loopw [3,4,9] (fun vu vv i wr=>∃ (k:Nat) (u v:Int),k≤l.length∧i = .int .i64 k∧vu = .int .i64 u∧vv = .int .i64 v∧Hid (u=nh (l.take k)∧v=nn (l.take k)) ∧ -(10000000000000*(k:Int))≤u∧u≤10000000000000*(k:Int) ∧ -(100000000000000*(k:Int))≤v∧v≤100000000000000*(k:Int)∧Below w0.heap.size w0 wr) (fun _ _ i _=>l.length - (intOf i).toNat)
 case atStart=>exact ⟨0,0,0,Hl _,rfl,rfl,rfl,⟨rfl,rfl⟩,by omega,by omega,by omega,by omega,He _ _⟩
 case round =>
  obtain ⟨k,u,v,hk,rfl,rfl,rfl,HN,hu0,hu1,hv0,hv1,hb⟩:=hrel;have hA:=chain hal0 hb;by_cases hlt:k<l.length
  ·obtain ⟨b,off,rfl,hbl,c0,c1,c2,c3⟩:=(h.next hA).elem hlt;have hw:=HK.out.wt _ (Hm hlt);have hn:=FP (HK.out.right _ (Hm hlt)) (HK.out.num _ (Hm hlt));have hal:=aa wr (.cells #[.int .i64 l[k].1.1,.int .i64 l[k].1.2.1,.string l[k].1.2.2,.int .i64 l[k].2] 202);have b1:=By hw (xu hn) (by decide);have b2:=By hw (xb (n:=l[k].1.2.1)) (by decide)
   have HN':Hid (u+l[k].2*(l[k].1.2.1.tdiv 100000000)=nh (l.take (k+1))∧v+l[k].2*(l[k].1.2.1.tmod 100000000)=nn (l.take (k+1))):=⟨by rw [yZ hlt,HN.out.1],by rw [zp hlt,HN.out.2]⟩
   have t1:=xu hn;have t2:=xb (n:=l[k].1.2.1);have hW1:IntKind.i64.wrap (l[k].2*(l[k].1.2.1.tdiv 100000000))=l[k].2*(l[k].1.2.1.tdiv 100000000):=IntWalk.i64_in _ ⟨by omega,by omega⟩;have hW2:IntKind.i64.wrap (l[k].2*(l[k].1.2.1.tmod 100000000))=l[k].2*(l[k].1.2.1.tmod 100000000):=IntWalk.i64_in _ ⟨by omega,by omega⟩;have hW3:IntKind.i64.wrap (u+l[k].2*(l[k].1.2.1.tdiv 100000000))=u+l[k].2*(l[k].1.2.1.tdiv 100000000):=IntWalk.i64_in _ ⟨by omega,by omega⟩
   have hW4:IntKind.i64.wrap (v+l[k].2*(l[k].1.2.1.tmod 100000000))=v+l[k].2*(l[k].1.2.1.tmod 100000000):=IntWalk.i64_in _ ⟨by omega,by omega⟩;have hW5:IntKind.i64.wrap (l[k].1.2.1.tdiv 100000000)=l[k].1.2.1.tdiv 100000000:=IntWalk.i64_in _ ⟨by omega,by omega⟩;have hW6:IntKind.i64.wrap (l[k].1.2.1.tmod 100000000)=l[k].1.2.1.tmod 100000000:=IntWalk.i64_in _ ⟨by omega,by omega⟩;go_wp2_with fail
   go_roundw
   case rel=>exact ⟨k+1,u+l[k].2*(l[k].1.2.1.tdiv 100000000),v+l[k].2*(l[k].1.2.1.tmod 100000000),by omega,by go_num,rfl,rfl,HN',by omega,by omega,by omega,by omega,chain hb hal⟩
   case measure=>simp [intOf]; omega
  ·have e:k=l.length:=by omega
   subst e;have es:nr l=u*100000000+v:=by
    have:=HN.out;rw [Ib] at this;rw [this.1,this.2,Eo]
   have ev:=Int.mul_tdiv_add_tmod v 100000000;have vb:=BH (n:=v);have hn4:(l.length:Int)≤400:=by omega
   generalize hq:v.tdiv 100000000=vq at *;generalize hm:v.tmod 100000000=vm at *;have hs:nr l=(u+vq)*100000000+vm:=by omega
   have hW5:IntKind.i64.wrap vq=vq:=IntWalk.i64_in _ ⟨by omega,by omega⟩;have hW6:IntKind.i64.wrap vm=vm:=IntWalk.i64_in _ ⟨by omega,by omega⟩;have hW7:IntKind.i64.wrap (u+vq)=u+vq:=IntWalk.i64_in _ ⟨by omega,by omega⟩;generalize hu:u+vq=u2 at *;have HS:Hid (nr l=u2*100000000+vm):=hs;clear HN es hs ev;by_cases ho:u2 < -10000001∨10000001<u2
   ·have er:res=(1,0,⟨#[]⟩):=by
     rw [HRes.out,HS.out];have:mf (u2*100000000+vm)=false:=by simp [mf]; omega
     rw [this]; rfl
    subst er;clear HRes HS;by_cases ho1:u2 < -10000001;rotate_left;have ho2:10000001<u2:=by omega
    all_goals
     go_wp2_with fail
     refine (dp wr).mono ?_;rintro e w2 ⟨rfl,hb2⟩;have q2:=((chain hb hb2).block _ (ae q00)).trans q00;have d0:w2.cell? ⟨W.heap.size,0,none⟩=some (.int .i64 0):=cell_of (i:=0) q2 rfl;have d1:w2.cell? ⟨W.heap.size,1,none⟩=some (.int .i64 0):=cell_of (i:=1) q2 rfl;have d2:w2.cell? ⟨W.heap.size,2,none⟩=some (.string ⟨#[]⟩):=cell_of (i:=2) q2 rfl;have f0:w2.frozen? ⟨W.heap.size,0,none⟩=false:=Hh w2 W.heap.size 0 _ _ q2;have f1:w2.frozen? ⟨W.heap.size,1,none⟩=false:=Hh w2 W.heap.size 1 _ _ q2
     have f2:w2.frozen? ⟨W.heap.size,2,none⟩=false:=Hh w2 W.heap.size 2 _ _ q2;have hA2:=chain hA hb2;dsimp only;go_wp2_with fail
     exact Hf (v:=.agg #[.int .i64 1,.int .i64 0,.string ⟨#[]⟩]) (by simp [results,Tryz.results150,go_sem,d0,d1,d2]) rfl ⟨rfl,((hA2.setCell (p:=⟨W.heap.size,0,none⟩) (Hd _) _).setCell (p:=⟨W.heap.size,1,none⟩) (Hd _) _).setCell (p:=⟨W.heap.size,2,none⟩) (Hd _) _⟩
   ·have ho1:¬ u2 < -10000001:=fun h=>ho (.inl h)
    have ho2:¬ 10000001<u2:=fun h=>ho (.inr h)
    have hW8:IntKind.i64.wrap (u2*100000000)=u2*100000000:=IntWalk.i64_in _ ⟨by omega,by omega⟩;have hW9:IntKind.i64.wrap (u2*100000000+vm)=u2*100000000+vm:=IntWalk.i64_in _ ⟨by omega,by omega⟩;have con:Calls Tryz.prog 179 #[.int .i64 (u2*100000000+vm)] wr fun e w'=>e = .returned (.agg #[.int .i64 res.1,.int .i64 res.2.1,.string res.2.2])∧Below wr.heap.size wr w':=by
     rw [HRes.out,HS.out];cases hi:mf (u2*100000000+vm) with
     | true=>exact vW _ wr hi
     | false=>exact wQ _ wr hi
    clear HRes HS ho;generalize hS:u2*100000000+vm=s at *;go_wp2_with fail
    refine con.mono ?_;rintro e w2 ⟨rfl,hb2⟩;clear con;have q2:=((chain hb hb2).block _ (ae q00)).trans q00;have d0:w2.cell? ⟨W.heap.size,0,none⟩=some (.int .i64 0):=cell_of (i:=0) q2 rfl;have d1:w2.cell? ⟨W.heap.size,1,none⟩=some (.int .i64 0):=cell_of (i:=1) q2 rfl;have d2:w2.cell? ⟨W.heap.size,2,none⟩=some (.string ⟨#[]⟩):=cell_of (i:=2) q2 rfl;have f0:w2.frozen? ⟨W.heap.size,0,none⟩=false:=Hh w2 W.heap.size 0 _ _ q2;have f1:w2.frozen? ⟨W.heap.size,1,none⟩=false:=Hh w2 W.heap.size 1 _ _ q2
    have f2:w2.frozen? ⟨W.heap.size,2,none⟩=false:=Hh w2 W.heap.size 2 _ _ q2;have hA2:=chain hA hb2;dsimp only;go_wp2_with fail
    exact Hf (v:=.agg #[.int .i64 res.1,.int .i64 res.2.1,.string res.2.2]) (by simp [results,Tryz.results150,go_sem,d0,d1,d2]) rfl ⟨rfl,((hA2.setCell (p:=⟨W.heap.size,0,none⟩) (Hd _) _).setCell (p:=⟨W.heap.size,1,none⟩) (Hd _) _).setCell (p:=⟨W.heap.size,2,none⟩) (Hd _) _⟩
theorem FH:dY 3:=zD Fy
theorem yH (k:Int):dY k:=by
 by_cases h3:k=3
 ·subst h3; exact FH
 by_cases h4:k=4
 ·subst h4; exact Fv
 by_cases h5:k=5
 ·subst h5; exact Ga
 exact ym k h3 h4 h5
end Go.Proofs.YtjebpkhkjkjphaaGreat
