/- Together: UC, UD, V1c, UE, UF, QL, QM, EP, EQ. -/
import Derived.Deep.MidRow
import Derived.Test.YtohjlfhmnmcndaaGreatM17
import Derived.Test.YtohjlfhmnmcndaaGreatM7
import Derived.Test.YtohjlfhmnmcndaaGreatM3
import Derived.Test.YtohjlfhmnmcndaaGreatM11
import Derived.Test.YtohjlfhmnmcndaaGreatM16
import Derived.Test.YtohjlfhmnmcndaaGreatM14
namespace Go.Proofs.YtohjlfhmnmcndaaGreat
open Go.RowKit Go.Lib Go.Shelf
set_option maxRecDepth 100000
set_option maxHeartbeats 16000000
theorem JY {W:World} {base n g cap:Nat} {l:List Int} (h:W.ownsRow base 3 1 (.slice (some ⟨g,0,none⟩) n cap) n (ints l)) (hn:n=l.length):fr W g l∧base≤g:=by
 subst hn;have h':=h;obtain ⟨_,⟨e,_⟩ | ⟨g',cap',cur,e,hg,hh,_⟩⟩:=h
 ·cases e
 ·injection e with e1 _ e3
  injection e1 with e1
  injection e1 with e1
  subst e1 e3;refine ⟨⟨(h'.lt g rfl).2,fun i hi=>?_,fun i=>No W g i _ _ hh⟩,hg⟩;have:=h'.cellAt i (by omega);rw [this];simp [ints,hi]
theorem Im {l r:List Int} {j:Nat} (h:j<l.length) (h':j<r.length):(bC (l.take j) (r.take j) ++ l.drop j).set j (bI l[j] r[j]).1=bC (l.take (j+1)) (r.take (j+1)) ++ l.drop (j+1):=by
 have hl:(bC (l.take j) (r.take j)).length=j:=by rw [eK (by rw [NN,NN]; omega),NN]; omega
 rw [List.set_append_right _ _ (by omega),hl,Nat.sub_self,kF h h',Nq h,NX,Pf];rfl
theorem Ei {l r:List Int} {j:Nat} (h:j<l.length) (h':j<r.length) (e:(bI l[j] r[j]).1=l[j]):bC (l.take j) (r.take j) ++ l.drop j=bC (l.take (j+1)) (r.take (j+1)) ++ l.drop (j+1):=by
 rw [kF h h',Nq h,Pf,e];rfl
theorem C9 {l r:List Int} {j:Nat} (h:j<l.length) (h':j<r.length):∃ hj:j<(bC (l.take j) (r.take j) ++ l.drop j).length,(bC (l.take j) (r.take j) ++ l.drop j)[j]=l[j]:=by
 have hl:(bC (l.take j) (r.take j)).length=j:=by rw [eK (by rw [NN,NN]; omega),NN]; omega
 refine ⟨by rw [Nx,hl,List.length_drop]; omega,?_⟩;rw [Ob (by omega)];simp [hl]
theorem EM (a b:Int):(a=1∧bI a b=(b,0))∨(a≠1∧(b=1∨b=a)∧bI a b=(a,0))∨(a≠1∧b≠1∧b≠a∧bI a b=(0,9)):=by
 unfold bI gE;by_cases h1:a=1
 ·refine .inl ⟨h1,?_⟩;subst h1;by_cases h2:b=1
  ·subst h2; rfl
  ·rw [if_neg (by omega),if_pos rfl]; rfl
 ·by_cases h2:b=1∨b=a
  ·refine .inr (.inl ⟨h1,h2,?_⟩);rw [if_pos (by omega)]; rfl
  ·refine .inr (.inr ⟨h1,by omega,by omega,?_⟩);rw [if_neg (by omega),if_neg h1]; rfl
theorem Ce (l r:List Int) (la:Option Addr) (lc:Nat) (ra:Option Addr) (rc:Nat) (w:World) (hl:bc w.heap.size w la l) (hr:bc w.heap.size w ra r) (h8:l.length≤8) :
  Calls Tryz.prog 84 #[.slice la l.length lc,.slice ra r.length rc] w fun e w'=>∃ v,e = .returned (.tuple #[v,.int .i64 (hY l r)])∧(hY l r=0→∃ a c,v = .slice a l.length c∧kr 0 w.heap.size w' a (bC l r))∧(¬ hY l r=0→v = .slice none 0 0)∧Below w.heap.size w w':=by
 obtain ⟨ii,hii,hv0,hv1,hv2⟩:=info_parts sM;have R1:=dN hl;have hb0:=aa w (.cells #[] 3);have O0:(w.alloc (.cells #[] 3)).ownsRow w.heap.size 3 1 (.slice (some ⟨w.heap.size,0,none⟩) 0 0) 0 []:=Oq (e:=3) (size:=1) w #[] 0 (Nj _) (Nr _) (by simp);have m1:0+l.length≤maxLen:=by unfold maxLen; omega
 have m2:(0+l.length)*8≤140737488355328:=by omega
 generalize he:hY l r=er;have HE:Hid (hY l r=er):=he;clear he;go_enter Tryz.func84,Tryz.ntmps84;by_cases hlr:l.length=r.length;rotate_left
 ·have hne:((l.length:Int) != (r.length:Int))=true:=by simp; omega
  have e:er=8:=by rw [← HE.out]; unfold hY; rw [if_pos hlr]
  subst e;clear O0 hb0 HE;go_wp2_with fail
  exact Nl (v:=.tuple #[.slice none 0 0,.int .i64 8]) (by simp [results,Tryz.results84,go_sem]) rfl ⟨_,rfl,fun c=>by omega,fun _=>rfl,Nk _ _⟩
 have hne:((l.length:Int) != (r.length:Int))=false:=by simp; omega
 have HE':Hid (er=fw (l.drop 0) (r.drop 0)):=by show _=_; rw [← HE.out]; unfold hY; rw [if_neg (by simpa using hlr)]; rfl
 have HL:Hid (l.length=r.length):=hlr;have hl1:l.length≤r.length:=by omega
 have hl2:r.length≤l.length:=by omega
 clear HE hlr;go_wp2_with (first | (at_builtin; refine bo rfl (.tmp 13) (.tmp 14) 45 rfl w.heap.size 3 ii _ 1 8 Tryz.underlying45 hii hv0 hv1 hv2 rfl (by decide) _ 0 [] rfl O0 la l.length lc (l.map (Value.int .i64)) rfl (R1.alloc _) m1 m2 (by simp) ?_))
 intro v1 w1 o1 g1;have hb1:Below w.heap.size w w1:=hb0.grown g1 (by simp) (by simp [Value.ownBlock]);have o1:w1.ownsRow w.heap.size 3 1 v1 l.length (ints l):=by simpa [ints] using o1
 clear g1 O0 hb0 hne R1 m1 m2;have OH:Hid _:=o1;obtain ⟨a1,c1,rfl⟩:=nv o1;have HS:Hid (0<l.length→∃ g,a1=some ⟨g,0,none⟩∧w.heap.size≤g∧fr w1 g l):=fun hp=>by
  have h':=OH.out;obtain ⟨_,⟨_,e⟩ | ⟨g,cap,cur,e,_⟩⟩:=h'
  ·omega
  ·injection e with e1 _ e3
   subst e1;obtain ⟨h1,h2⟩:=JY OH.out rfl;exact ⟨g,rfl,h2,h1⟩
 clear o1 OH;go_wp2_with fail
 go_loopw [18] (fun i wr=>∃ j:Nat,j≤l.length∧i = .int .i64 j∧Hid (er=fw (l.drop j) (r.drop j))∧Hid (0<l.length→∃ g,a1=some ⟨g,0,none⟩∧w.heap.size≤g∧fr wr g (bC (l.take j) (r.take j) ++ l.drop j))∧Below w.heap.size w wr) (fun i _=>l.length - (intOf i).toNat)
 case atStart=>exact ⟨0,Nr _,rfl,HE',by simpa [bC,Hid] using HS,hb1⟩
 case round =>
  obtain ⟨j,hj,rfl,HT,HO,hb⟩:=hrel;clear HS hb1;by_cases hlt:j<l.length
  ·have hlr:j<r.length:=by omega
   obtain ⟨g,rfl,hg,hO⟩:=HO.out (by omega);obtain ⟨b1,o1,rfl,hlb1,c1⟩:=(hl.next hb (Nj _)).elem hlt;obtain ⟨b2,o2,rfl,hlb2,c2⟩:=(hr.next hb (Nj _)).elem hlr;have hjz:(j:Int)<(l.length:Int):=by omega
   have hjr:(j:Int)<(r.length:Int):=by omega
   have hj0:(0:Int)≤(j:Int):=by omega
   obtain ⟨hcj,ecj⟩:=C9 hlt hlr;rcases EM l[j] r[j] with ⟨h1,e⟩ | ⟨h1,h2,e⟩ | ⟨h1,h2,h3,e⟩
   ·have HT':Hid (er=fw (l.drop (j+1)) (r.drop (j+1))):=HT.out.trans (mU hlt hlr (by rw [e]));have cc:wr.cell? ⟨g,j,none⟩=some (.int .i64 l[j]):=by rw [hO.c j hcj,ecj]
    have ff:=hO.f j;have O6:=hO.set j hcj r[j];have es:=Im hlt hlr;rw [e] at es;simp only at es;rw [es] at O6;have hA6:=hb.setCell (p:=⟨g,j,none⟩) hg (.int .i64 r[j]);have HO6:Hid (0<l.length→∃ g',(some ⟨g,0,none⟩:Option Addr)=some ⟨g',0,none⟩∧w.heap.size≤g'∧fr (wr.setCell ⟨g,j,none⟩ (.int .i64 r[j])) g' (bC (l.take (j+1)) (r.take (j+1)) ++ l.drop (j+1))):=fun _=>⟨g,rfl,hg,O6⟩
    clear HT HO hO O6 es e hcj ecj;rw [h1] at c1;clear h1;generalize r[j]=rj at *;go_wp2_with fail
    go_roundw
    case rel=>exact ⟨j+1,by omega,by go_num,HT',HO6,hA6⟩
    case measure=>simp [intOf]; omega
   ·have HT':Hid (er=fw (l.drop (j+1)) (r.drop (j+1))):=HT.out.trans (mU hlt hlr (by rw [e]));have es:=Ei hlt hlr (by rw [e]);rw [es] at hO;have HO6:Hid (fr wr g (bC (l.take (j+1)) (r.take (j+1)) ++ l.drop (j+1))):=hO;clear HT HO hO es e hcj ecj;generalize r[j]=rj at *;generalize l[j]=lj at *;have b1:(lj == 1)=false:=by simpa using h1
    have p1:=ag c1;have p2:=ag c2;haveI:Nonempty (bW wr):=⟨⟨_,Nk _ _⟩⟩
    by_cases h3:rj=1;subst h3;clear h2 h1;rotate_left;have e2:rj=lj:=h2.resolve_left h3;subst e2;have b2:(rj != 1)=true:=by simpa using h3
    clear h2 h1 h3
    all_goals
     go_wp2_with fail
     refine aq (by kernel_rfl) (by kernel_rfl) ?_
     repeat (go_big_quiet_step (fail))
     refine wpQuiet_nil ?_;rintro w5 ⟨⟨v5,hb5⟩,h5⟩;obtain rfl:w5=v5:=h5;clear p1 p2 this c1 c2;go_wp2_with fail
     go_roundw
     case rel=>exact ⟨j+1,by omega,by go_num,HT',fun _=>⟨g,rfl,hg,HO6.out.nx hb5⟩,chain hb hb5⟩
     case measure=>simp [intOf]; omega
   ·have el:er=9:=HT.out.trans ((vD hlt hlr (by rw [e]; decide)).trans (by rw [e]));subst el;clear HT HO hO e hcj ecj;generalize r[j]=rj at *;generalize l[j]=lj at *;have b1:(lj == 1)=false:=by simpa using h1
    have b2:(rj != 1)=true:=by simpa using h2
    have b3:(rj != lj)=true:=by simpa using h3
    have p1:=ag c1;have p2:=ag c2;haveI:Nonempty (bW wr):=⟨⟨_,Nk _ _⟩⟩
    clear h1 h2 h3;go_wp2_with fail
    refine aq (by kernel_rfl) (by kernel_rfl) ?_
    repeat (go_big_quiet_step (fail))
    refine wpQuiet_nil ?_;rintro w5 ⟨⟨v5,hb5⟩,h5⟩;obtain rfl:w5=v5:=h5;clear p1 p2 this c1 c2;go_wp2_with fail
    first
     | exact Nl (v:=.tuple #[.slice none 0 0,.int .i64 9]) (by simp [results,Tryz.results84,go_sem]) rfl ⟨_,rfl,fun c=>absurd c (by decide),fun _=>rfl,chain hb hb5⟩
     | exact Nl (v:=.tuple #[.slice none 0 0,.int .i64 9]) (by simp [results,Tryz.results84,go_sem]) rfl ⟨_,rfl,rfl,chain hb hb5⟩
     | exact Nl (v:=.tuple #[.slice none 0 0,.int .i64 9]) (by simp [results,Tryz.results84,go_sem]) rfl ⟨rfl,chain hb hb5⟩
  ·have e:j=l.length:=by omega
   have er0:er=0:=by rw [HT.out,uZ (by omega)]
   subst e;subst er0;have HI:Hid (kr 0 w.heap.size wr a1 (bC l r)):=by
    by_cases hp:0<l.length
    ·obtain ⟨g,rfl,hg,hO⟩:=HO.out hp;rw [List.drop_length,OG,NL,HL.out,NL] at hO;exact hO.t (by rw [eK HL.out]; exact h8) hg
    ·have e1:l = []:=Nu (by omega);subst e1;exact ⟨Nr _,.inl rfl⟩
   clear HT HO;go_wp2_with fail
   first
    | exact Nl (v:=.tuple #[.slice a1 l.length c1,.int .i64 0]) (by simp [results,Tryz.results84,go_sem]) rfl ⟨_,rfl,fun _=>⟨_,_,rfl,HI.out⟩,fun c=>absurd rfl c,hb⟩
    | exact Nl (v:=.tuple #[.slice a1 l.length c1,.int .i64 0]) (by simp [results,Tryz.results84,go_sem]) rfl ⟨_,rfl,⟨_,⟨_,rfl⟩,HI.out⟩,hb⟩
theorem mz {cols:List Int} (h:cols.length≤8):bz cols []=0:=by unfold bz; rw [if_neg (by omega)]; rfl
theorem xe:aH []=0:=by decide
theorem G6 {cols:List Int} (h:cols.length≤8) (x:Ex):eV cols x []=bO cols x:=by
 unfold eV;by_cases c:bO cols x=0
 ·rw [if_neg (by simpa using c),mz h,c]; rfl
 ·rw [if_pos c]
theorem map_nil {cols:List Int} (h:cols.length≤8) (xs:List Ex):iv cols xs []=aP cols xs:=by
 unfold iv;by_cases c:aP cols xs=0
 ·rw [if_neg (by simpa using c),mz h,c]; exact xe
 ·rw [if_pos c]
theorem CD (xs:List Ex):ba xs [] = []:=Nu (Nat.le_zero.1 (mA xs []))
theorem IU {cols:List Int} (h:cols.length≤8) (xs:List Ex) (n:Int):kh cols xs n []=if aP cols xs≠0 then aP cols xs else if n<0∨50<n then 3 else 0:=by
 unfold kh;rw [mz h,CD];rfl
theorem tR {l r:List Int} (h:l.length≤8) (h':r.length≤8) (x:Ex):bY 0 l r x [] []=if 8<l.length+r.length then 5 else bO (l ++ r) x:=by
 unfold bY jH;rw [mz h,mz h'];by_cases c:8<l.length+r.length
 ·rw [if_pos c,if_pos c]; rfl
 rw [if_neg c,if_neg c];by_cases e:bO (l ++ r) x=0
 ·rw [e]; exact xe
 ·simp only [ne_eq,e,not_false_eq_true,if_true]
theorem IV (r:List Vl):aH [(r,1)]=0:=by
 have:canon [(r,(1:Int))] = [(bq r,1)]:=by simp [canon,gK]
 unfold aH;rw [this];have h:hJ 1=true:=by decide
 simp [mI,h]
theorem Fa {cols:List Int} (h:cols.length≤8) (xs:List Ex) (gs:List Ag):df cols xs gs []=if 8<xs.length+gs.length then 5 else if aP cols xs≠0 then aP cols xs else bV cols gs:=by
 unfold df;rw [mz h,CD];have:aH (cR xs gs [])=0:=by
  unfold cR fq;by_cases c:xs.length=0
  ·rw [if_pos ⟨c,rfl⟩]; exact IV _
  ·rw [if_neg (fun e=>c e.1)]; exact xe
 rw [this];by_cases c:bV cols gs=0
 ·rw [c]; simp
 ·simp [c]
def Cd (ts:List (List Int)) (p:Pl):Prop :=
 ∀ (B t:Nat) (ta:Option Addr) (tc:Nat) (q:Pw) (m d:Int) (w:World),ja B w p q→fy B w ta ts→B≤t→jr w t ta ts.length tc m→0≤m→m≤60→0≤d→d≤16→cz p →
  Calls Tryz.prog 61 #[.pointer (some ⟨t,0,none⟩),bP p q,.int .i64 d] w fun e w'=>(∃ v,e = .returned (.tuple #[v,.int .i64 (aQ ts p m d).1])∧((aQ ts p m d).1=0→∃ ca cc,v = .slice ca (ah ts p).length cc∧kr B w.heap.size w' ca (ah ts p)))∧au t w w'∧jr w' t ta ts.length tc (aQ ts p m d).2
def Cv (B lo:Nat) (W:World) (v:Value) (l:List Int):Prop:=∃ ca cc,v = .slice ca l.length cc∧kr B lo W ca l
theorem Cv.nil (B lo:Nat) (W:World):Cv B lo W (.slice none 0 0) []:=⟨none,0,rfl,kr.nil _ _ _⟩
theorem Cv.next {B lo:Nat} {W w1:World} {v:Value} {l:List Int} (h:Cv B lo W v l) (hb:Kept B lo W w1):Cv B lo w1 v l:=by
 obtain ⟨ca,cc,e,h⟩:=h;exact ⟨ca,cc,e,h.next hb⟩
theorem Fm {k:Int} {cs:List (List Int)} (h:cs.length=cJ k) (h1:1≤k) (h13:k≤13):(k=1∧cs = [])∨((k=2∨k=3∨k=10∨k=11∨k=12∨k=13)∧cs = [cs.getD 0 []]∧cs.getD 1 [] = [])∨((k=4∨k=5∨k=6∨k=7∨k=8∨k=9)∧cs = [cs.getD 0 [],cs.getD 1 []]):=by
 unfold cJ at h;by_cases e1:k=1
 ·rw [if_pos e1] at h;exact .inl ⟨e1,Nu h⟩
 rw [if_neg e1] at h;by_cases e2:4≤k∧k≤9
 ·rw [if_pos e2] at h
  match cs,h with
  | [a,b],_=>exact .inr (.inr ⟨by omega,rfl⟩)
 ·rw [if_neg e2] at h
  match cs,h with
  | [a],_=>exact .inr (.inl ⟨by omega,rfl,rfl⟩)
theorem xJ {ts:List (List Int)} {ks:List Pl} {j:Nat} (h:j<ks.length) {m d:Int} (h0:(aQ ts ks[j] m d).1=0):aW ts (ks.drop j) m d=aW ts (ks.drop (j+1)) (aQ ts ks[j] m d).2 d:=by
 rw [Nq h,aW,if_neg (by simpa using h0)]
theorem zN {ts:List (List Int)} {ks:List Pl} {j:Nat} (h:j<ks.length) {m d:Int} (h0:¬ (aQ ts ks[j] m d).1=0):aW ts (ks.drop j) m d=aQ ts ks[j] m d:=by
 rw [Nq h,aW,if_pos h0]
theorem JJ {ts:List (List Int)} {ks:List Pl} {j:Nat} (h:j<ks.length):(ks.take (j+1)).map (ah ts)=(ks.take j).map (ah ts) ++ [ah ts ks[j]]:=by
 rw [Nz h,Om]; rfl
theorem Ll {ts:List (List Int)} {ks:List Pl} {j:Nat} (h:j≤ks.length):((ks.take j).map (ah ts)).length=j:=by rw [Od,NN]; omega
theorem uV {cs:List (List Int)} (h:∀ c ∈ cs,c.length≤8) (i:Nat):(cs.getD i []).length≤8:=by
 rw [NT];cases e:cs[i]? with
 | none=>simp
 | some c=>exact h c (List.mem_of_getElem? e)
theorem kr.MZ {B lo lo':Nat} {W:World} {a:Option Addr} {l:List Int} (h:kr 0 lo W a l) (hl:lo'≤lo):kr B lo' W a l:=by
 obtain ⟨h0,h | ⟨b,off,e,hlt,hn,h⟩⟩:=h
 ·exact ⟨h0,.inl h⟩
 ·exact ⟨h0,.inr ⟨b,off,e,hlt,by omega,h⟩⟩
theorem xV (l r:List Int):ints (l ++ r)=ints l ++ ints r:=by unfold ints; rw [Om]
theorem CJ {l r:List Int} (h:hY l r=0):l.length=r.length:=by
 unfold hY at h;by_cases c:l.length=r.length
 ·exact c
 ·rw [if_pos c] at h; cases h
theorem zt {cols:List Int} {x:Ex} (h:(an cols x).2=0):1≤(an cols x).1∧(an cols x).1≤4:=by
 have G:=(sV cols x).1 h;exact xp (oa G.fit) x _ G.ty
theorem kL (cols:List Int) (x:Ex) (ca:Option Addr) (ccap:Nat) (xa:Option Addr) (xcap:Nat) (w:World) (hk:bd w.heap.size w xa x.ks) (hc:bc w.heap.size w ca cols) :
  Calls Tryz.prog 82 #[.slice ca cols.length ccap,lC x.k x.v x.c xa x.ks.length xcap] w fun e w'=>e = .returned (.int .i64 (bO cols x))∧Below w.heap.size w w':=by
 have h1:=aa w (.cells (ig x xa xcap) 27);have con:=mY cols x ca ccap xa xcap _ ((bd.next h1 (Nj _) hk).up h1.size) ((hc.next h1 (Nj _)).up h1.size);have hty:(an cols x).2=0→1≤(an cols x).1∧(an cols x).1≤4:=fun h=>by
  exact zt h
 generalize hfe:bO cols x=fe;have HF:Hid (bO cols x=fe):=hfe;clear hfe;by_cases h0:(an cols x).2=0
 ·have hb:=hty h0;by_cases h2:2<(an cols x).1;have e:fe=9:=by rw [← HF.out]; unfold bO; rw [if_neg (by simpa using h0),if_pos (by omega)]
  rotate_left;have e:fe=0:=by rw [← HF.out]; unfold bO; rw [if_neg (by simpa using h0),if_neg (by omega)]
  all_goals
   subst e;rw [h0] at con;generalize (an cols x).1=t at *;clear hty h0;go_enter Tryz.func82,Tryz.ntmps82;go_wp2_with fail
   generalize w.alloc (.cells (ig x xa xcap) 27)=w1 at *;refine con.mono ?_;rintro e w2 ⟨rfl,hb2⟩;clear con;dsimp only;go_wp2_with fail
   go_ret;exact ⟨rfl,chain h1 hb2⟩
 ·have e:fe=(an cols x).2:=by rw [← HF.out]; unfold bO; rw [if_pos h0]
  have hne:((an cols x).2 != 0)=true:=by simpa using h0
  rw [← e] at con hne;generalize (an cols x).1=t at *;clear hty h0 e;go_enter Tryz.func82,Tryz.ntmps82;go_wp2_with fail
  generalize w.alloc (.cells (ig x xa xcap) 27)=w1 at *;refine con.mono ?_;rintro e w2 ⟨rfl,hb2⟩;clear con;dsimp only;go_wp2_with fail
  go_ret;exact ⟨rfl,chain h1 hb2⟩
theorem Hv (ts:List (List Int)) (hts:dC ts=0) (p:Pl) (ih:∀ r ∈ p.ks,Cd ts r):Cd ts p:=by
 intro B t ta tc q m d w hp hT hBt ht hm0 hm hd0 hd hok;obtain ⟨ii,hii,hv0,hv1,hv2⟩:=info_parts sM;have htw:=ht.lt;have HT:Hid (dC ts=0):=hts;have HK:Hid (cz p):=hok;have IH:Hid (∀ r ∈ p.ks,Cd ts r):=ih;generalize hr:aQ ts p m d=r;have HR:Hid (aQ ts p m d=r):=hr;generalize hc:ah ts p=cp;have HCp:Hid (ah ts p=cp):=hc;clear hr hts hok ih hc;have zW:(w.setCell ⟨t,1,none⟩ (.int .i64 (m+1))).heap.size=w.heap.size:=Pa _ _ _;have TW:=ht.count (m+1);have XW:=(au.refl t w).set 1 (.int .i64 (m+1));have ES:=gY.new (w.setCell ⟨t,1,none⟩ (.int .i64 (m+1))) p q 31
 have zS:=ae (aw (w.setCell ⟨t,1,none⟩ (.int .i64 (m+1))) (eS p q) 31);have hal:Below (w.setCell ⟨t,1,none⟩ (.int .i64 (m+1))).heap.size (w.setCell ⟨t,1,none⟩ (.int .i64 (m+1))) ((w.setCell ⟨t,1,none⟩ (.int .i64 (m+1))).alloc (.cells (eS p q) 31)):=(Nk _ _).alloc (Nj _) _;have TS:=TW.next hal;have XS:=XW.trans (au.of hal (by rw [zW]; exact NV htw));have s0:=TW.c1;have H2:=ht.c1;have H3:=ht.f1;rw [zW] at ES zS;have hWm:IntKind.i64.wrap (m+1)=m+1:=IntWalk.i64_in _ ⟨by omega,by omega⟩;clear hal TW XW;unfold bP;go_enter Tryz.func61,Tryz.ntmps61
 by_cases h60:60<m+1
 ·have er:r=(4,m+1):=by rw [← HR.out,jO (by rw [gW (.inl h60)]; decide),gW (.inl h60)]
  subst er;clear HR;go_wp2_with fail
  first
   | exact Nl (v:=.tuple #[.slice none 0 0,.int .i64 4]) (by simp [results,Tryz.results61,go_sem]) rfl ⟨⟨_,rfl,fun c=>absurd c (by decide)⟩,XS,TS⟩
   | exact Nl (v:=.tuple #[.slice none 0 0,.int .i64 4]) (by simp [results,Tryz.results61,go_sem]) rfl ⟨⟨_,rfl⟩,XS,TS⟩
   | exact Nl (v:=.tuple #[.slice none 0 0,.int .i64 4]) (by simp [results,Tryz.results61,go_sem]) rfl ⟨XS,TS⟩
 by_cases h15:15<d
 ·have er:r=(4,m+1):=by rw [← HR.out,jO (by rw [gW (.inr h15)]; decide),gW (.inr h15)]
  subst er;clear HR;go_wp2_with fail
  first
   | exact Nl (v:=.tuple #[.slice none 0 0,.int .i64 4]) (by simp [results,Tryz.results61,go_sem]) rfl ⟨⟨_,rfl,fun c=>absurd c (by decide)⟩,XS,TS⟩
   | exact Nl (v:=.tuple #[.slice none 0 0,.int .i64 4]) (by simp [results,Tryz.results61,go_sem]) rfl ⟨⟨_,rfl⟩,XS,TS⟩
   | exact Nl (v:=.tuple #[.slice none 0 0,.int .i64 4]) (by simp [results,Tryz.results61,go_sem]) rfl ⟨XS,TS⟩
 have c0:=ES.c0;go_wp2_with fail
 refine (Hk p.k _).mono ?_;rintro e w3 ⟨rfl,hb3⟩;generalize ((w.setCell ⟨t,1,none⟩ (.int .i64 (m+1))).alloc (.cells (eS p q) 31))=wS at *;clear H2 H3 s0 c0 zW;have T3:=TS.next hb3;have E3:=ES.next hb3 zS;have X3:=XS.trans (au.of hb3 (NV TS.lt));have z3:w.heap.size<w3.heap.size:=Nn zS hb3.size;clear TS ES XS zS hb3;by_cases hk:p.k<1∨13<p.k
 ·have er:r=(1,m+1):=by rw [← HR.out,jO (by rw [kE (by omega) (by omega) hk]; decide),kE (by omega) (by omega) hk]
  subst er;have e5:tE p.k = -1:=by unfold tE; rw [if_pos hk]
  rw [e5];clear HR hk;go_wp2_with fail
  first
   | exact Nl (v:=.tuple #[.slice none 0 0,.int .i64 1]) (by simp [results,Tryz.results61,go_sem]) rfl ⟨⟨_,rfl,fun c=>absurd c (by decide)⟩,X3,T3⟩
   | exact Nl (v:=.tuple #[.slice none 0 0,.int .i64 1]) (by simp [results,Tryz.results61,go_sem]) rfl ⟨⟨_,rfl⟩,X3,T3⟩
   | exact Nl (v:=.tuple #[.slice none 0 0,.int .i64 1]) (by simp [results,Tryz.results61,go_sem]) rfl ⟨X3,T3⟩
 have e5:tE p.k=cJ p.k:=by unfold tE; rw [if_neg hk]
 rw [e5];have hk1:1≤p.k:=by omega
 have hk13:p.k≤13:=by omega
 have zY:=E3.zY;simp only [Np] at zY;by_cases hln:p.ks.length=cJ p.k;rotate_left
 ·have er:r=(5,m+1):=by rw [← HR.out,jO (by rw [mW (by omega) (by omega) (by omega) (by omega) hln]; decide),mW (by omega) (by omega) (by omega) (by omega) hln]
  subst er;have hne:((cJ p.k:Int) != (p.ks.length:Int))=true:=by simp; omega
  have hn0:¬ ((cJ p.k:Int)<0):=by omega
  clear HR hk e5;go_wp2_with fail
  first
   | exact Nl (v:=.tuple #[.slice none 0 0,.int .i64 5]) (by simp [results,Tryz.results61,go_sem]) rfl ⟨⟨_,rfl,fun c=>absurd c (by decide)⟩,X3,T3⟩
   | exact Nl (v:=.tuple #[.slice none 0 0,.int .i64 5]) (by simp [results,Tryz.results61,go_sem]) rfl ⟨⟨_,rfl⟩,X3,T3⟩
   | exact Nl (v:=.tuple #[.slice none 0 0,.int .i64 5]) (by simp [results,Tryz.results61,go_sem]) rfl ⟨X3,T3⟩
 have HW:Hid (eO p.k p.ks.length (m+1) d=0):=yS (by omega) (by omega) (by omega) (by omega) hln;have hl2:p.ks.length≤2:=by rw [hln]; exact gh _
 have HL:Hid (p.ks.length=cJ p.k):=hln;rw [← hln];have hne:((p.ks.length:Int) != (p.ks.length:Int))=false:=by simp
 have hn0:¬ ((p.ks.length:Int)<0):=by omega
 have hWd:IntKind.i64.wrap (d+1)=d+1:=IntWalk.i64_in _ ⟨by omega,by omega⟩;clear hln e5 hk;go_wp2_with fail
 go_loopw [9,10,51] (fun a b i wr=>∃ (j:Nat) (m':Int),j≤p.ks.length∧i = .int .i64 j∧Hid (Cv B w.heap.size wr a (((p.ks.take j).map (ah ts)).getD 0 []))∧Hid (Cv B w.heap.size wr b (((p.ks.take j).map (ah ts)).getD 1 []))∧Hid (aW ts p.ks (m+1) (d+1)=aW ts (p.ks.drop j) m' (d+1))∧Hid (∀ c ∈ (p.ks.take j).map (ah ts),c.length≤8)∧gY wr w.heap.size 0 p q∧w.heap.size<wr.heap.size∧jr wr t ta ts.length tc m'∧au t w wr∧0≤m'∧m'≤60) (fun _ _ i _=>p.ks.length - (intOf i).toNat)
 case atStart=>exact ⟨0,m+1,Nr _,rfl,Cv.nil _ _ _,Cv.nil _ _ _,rfl,fun c hc=>by simp at hc,E3,z3,T3,X3,by omega,by omega⟩
 case round =>
  obtain ⟨j,m',hj,rfl,HA,HB,HS,H8,EJ,zJ,TJ,XJ,hm0',hm'⟩:=hrel;clear E3 T3 X3 zY z3;have blw:=XJ.below hBt;by_cases hlt:j<p.ks.length
  ·obtain ⟨bj,oj,qj,eqj,hbj,ej,pj⟩:=(ft.next blw (Nj _) hp.ks).elem hlt;have hbj2:bj<wr.heap.size:=by have:=TJ.lt; omega
   have hal:=aa wr (.cells #[.int .i64 p.ks[j].k,.int .i64 p.ks[j].n,.int .i64 p.ks[j].x.k,.int .i64 p.ks[j].x.v.1,.int .i64 p.ks[j].x.v.2.1,.string p.ks[j].x.v.2.2,.int .i64 p.ks[j].x.c,.slice qj.xa p.ks[j].x.ks.length qj.xc,.slice qj.sa p.ks[j].xs.length qj.sc,.slice qj.ga p.ks[j].gs.length qj.gc,.slice qj.ka p.ks[j].ks.length qj.kc] 31);have TA:=TJ.next hal;have EA:=EJ.next hal zJ;have hbW:=(hal.mono (by have:=TJ.lt; omega):Below B wr _)
   have con:=IH.out p.ks[j] (Ns hlt) B t ta tc qj m' (d+1) _ (pj.next hbW (Nj _)) ((hT.next blw (Nj _)).next hbW (Nj _)) hBt TA hm0' hm' (by omega) (by omega) (HK.out.ks _ (Ns hlt));have XA:=XJ.trans (au.of hal (NV TJ.lt));have hzA:=hal.size;have hjz:(j:Int)<(p.ks.length:Int):=by omega
   have hj0:(0:Int)≤(j:Int):=by omega
   have HN:=@qS ts p.ks[j] m' (d+1);have HN:Hid _:=HN;have HC:=@iu ts HT.out p.ks[j] m' (d+1);have HC:Hid _:=HC;have HSt:=@xJ ts p.ks j hlt m' (d+1);have HSt:Hid _:=HSt;have HSp:=@zN ts p.ks j hlt m' (d+1);have HSp:Hid _:=HSp;have HCt:Hid ((p.ks.take (j+1)).map (ah ts)=(p.ks.take j).map (ah ts) ++ [ah ts p.ks[j]]):=JJ hlt;have HCl:Hid (((p.ks.take j).map (ah ts)).length=j):=Ll hj;obtain ⟨n0,n1,⟨n2,n3,n4,n5,n6,n7⟩,n8,n9,n10⟩:=ej;generalize aQ ts p.ks[j] m' (d+1)=lr at *;unfold bP at con;clear pj hbW blw;rw [eqj];go_wp2_with fail
   refine con.mono ?_;rintro e w5 ⟨⟨v5,rfl,g5⟩,X5,T5⟩;have XE:=XA.trans X5;have EE:=EA.mN X5 (by omega) (by omega);have KE:Kept B w.heap.size wr w5:=⟨(hal.mono (by have:=TJ.lt; omega)).trans (X5.below hBt),fun k hk hl=>(X5.2 k (by omega) (by omega)).trans (hal.block k hk)⟩
   have zE:w.heap.size<w5.heap.size:=by have:=X5.size; omega
   clear con n0 n1 n2 n3 n4 n5 n6 n7 n8 n9 n10 hal TA EA XA TJ EJ XJ X5;dsimp only;by_cases h0:lr.1=0
   ·obtain ⟨ca5,cc5,rfl,i5⟩:=g5 h0;obtain ⟨gn1,gn2⟩:=HN.out h0;have HC8:=HC.out h0;have HS':Hid (aW ts p.ks (m+1) (d+1)=aW ts (p.ks.drop (j+1)) lr.2 (d+1)):=HS.out.trans (HSt.out h0);have HI:Hid (kr B w.heap.size w5 ca5 (ah ts p.ks[j])):=i5.wide (by omega);have HA':=HA.out.next KE;have HA':Hid _:=HA';have HB':=HB.out.next KE;have HB':Hid _:=HB';have H8':Hid (∀ c ∈ (p.ks.take (j+1)).map (ah ts),c.length≤8):=by
     show ∀ _,_
     rw [HCt.out];intro c hc;rcases List.mem_append.1 hc with hc | hc
     ·exact H8.out c hc
     ·rw [List.mem_singleton.1 hc]; exact HC8
    have h0b:(lr.1 != 0)=false:=by simp [h0]
    clear HN HC HSt HSp HS h0 g5 i5 HA HB H8 KE;by_cases hj1:j=0
    ·have HA2:Hid (Cv B w.heap.size w5 (.slice ca5 (ah ts p.ks[j]).length cc5) (((p.ks.take (j+1)).map (ah ts)).getD 0 [])):=by
      show Cv _ _ _ _ _;rw [HCt.out,Nu (HCl.out.trans hj1)];exact ⟨_,_,rfl,HI.out⟩
     have HB2:Hid (∀ v,Cv B w.heap.size w5 v (((p.ks.take j).map (ah ts)).getD 1 [])→Cv B w.heap.size w5 v (((p.ks.take (j+1)).map (ah ts)).getD 1 [])):=by
      intro v this;rw [HCt.out];rw [Nu (HCl.out.trans hj1)] at this ⊢;exact this
     have HB2:=HB2.out _ HB'.out;have HB2:Hid _:=HB2;clear HA' HB' HCt HCl HI;subst hj1;go_wp2_with fail
     go_roundw
     case rel=>exact ⟨1,lr.2,by omega,by go_num,HA2,HB2,HS',H8',EE,zE,T5,XE,by omega,gn2⟩
     case measure=>simp [intOf]; omega
    ·have hj2:j=1:=by omega
     have HA2:Hid (∀ v,Cv B w.heap.size w5 v (((p.ks.take j).map (ah ts)).getD 0 [])→Cv B w.heap.size w5 v (((p.ks.take (j+1)).map (ah ts)).getD 0 [])):=by
      intro v this;rw [HCt.out];obtain ⟨c1,hc1⟩:=List.length_eq_one_iff.1 (HCl.out.trans hj2);rw [hc1] at this ⊢;exact this
     have HA2:=HA2.out _ HA'.out;have HA2:Hid _:=HA2;have HB2:Hid (Cv B w.heap.size w5 (.slice ca5 (ah ts p.ks[j]).length cc5) (((p.ks.take (j+1)).map (ah ts)).getD 1 [])):=by
      show Cv _ _ _ _ _;rw [HCt.out];obtain ⟨c1,hc1⟩:=List.length_eq_one_iff.1 (HCl.out.trans hj2);rw [hc1];exact ⟨_,_,rfl,HI.out⟩
     clear HA' HB' HCt HCl HI hj1;subst hj2;go_wp2_with fail
     go_roundw
     case rel=>exact ⟨2,lr.2,by omega,by go_num,HA2,HB2,HS',H8',EE,zE,T5,XE,by omega,gn2⟩
     case measure=>simp [intOf]; omega
   ·have er:r=lr:=by
     have e1:=HS.out.trans (HSp.out h0);rw [← HR.out,uI HW.out (by rw [e1]; exact h0),e1]
    subst er;have h0b:(r.1 != 0)=true:=by simpa using h0
    have H0:Hid (¬ r.1=0):=h0;clear HN HC HSt HSp HS HCt HCl g5 HA HB H8 HR h0;go_wp2_with fail
    first
     | exact Nl (v:=.tuple #[.slice none 0 0,.int .i64 r.1]) (by simp [results,Tryz.results61,go_sem]) rfl ⟨⟨_,rfl,fun c=>absurd c H0.out⟩,XE,T5⟩
     | exact Nl (v:=.tuple #[.slice none 0 0,.int .i64 r.1]) (by simp [results,Tryz.results61,go_sem]) rfl ⟨⟨_,rfl⟩,XE,T5⟩
     | exact Nl (v:=.tuple #[.slice none 0 0,.int .i64 r.1]) (by simp [results,Tryz.results61,go_sem]) rfl ⟨XE,T5⟩
  ·have ej:j=p.ks.length:=by omega
   subst ej;rw [NL] at HA HB H8;have er:r=(fC ts p.k p.n p.x p.xs p.gs (p.ks.map (ah ts)),m'):=by
    have e1:aW ts p.ks (m+1) (d+1)=(0,m'):=by rw [HS.out,List.drop_length,aW]
    rw [← HR.out,uW HW.out (by rw [e1]),e1]
   have ER:Hid (r=(fC ts p.k p.n p.x p.xs p.gs (p.ks.map (ah ts)),m')):=er;have EC:Hid (cp=iR ts p.k p.n p.xs p.gs (p.ks.map (ah ts))):=by show _=_; rw [← HCp.out]; exact xP ts p
   have hcl:(p.ks.map (ah ts)).length=cJ p.k:=by rw [Od]; exact HL.out
   have hsh:=Fm hcl hk1 hk13;have hsh:Hid _:=hsh;have la8:=uV H8.out 0;have lb8:=uV H8.out 1;generalize p.ks.map (ah ts)=cs at *;clear HR HS HW HL IH er hcl H8 HCp;generalize cs.getD 0 []=la at *;generalize cs.getD 1 []=lb at *;obtain ⟨ca,cca,rfl,ia⟩:=HA.out;obtain ⟨cb,ccb,rfl,ib⟩:=HB.out;clear HA HB;have hb0:=aa wr (.cells #[] 3)
   have O0:(wr.alloc (.cells #[] 3)).ownsRow wr.heap.size 3 1 (.slice (some ⟨wr.heap.size,0,none⟩) 0 0) 0 []:=Oq (e:=3) (size:=1) wr #[] 0 (Nj _) (Nr _) (by simp);have m1:0+la.length≤maxLen:=by unfold maxLen; omega
   have m2:(0+la.length)*8≤140737488355328:=by omega
   have m3:la.length+lb.length≤maxLen:=by unfold maxLen; omega
   have m4:(la.length+lb.length)*8≤140737488355328:=by omega
   have R1:=dN ia.at;have R2:=dN ib.at;go_wp2_with (first | (at_builtin; refine bo rfl (.tmp 72) (.tmp 73) 45 rfl wr.heap.size 3 ii _ 1 8 Tryz.underlying45 hii hv0 hv1 hv2 rfl (by decide) _ 0 [] rfl O0 ca la.length cca (ints la) rfl (R1.alloc _) m1 m2 (by simp) ?_))
   intro v1 w1 o1 g1;have hb1:Below wr.heap.size wr w1:=hb0.grown g1 (by simp) (by simp [Value.ownBlock]);have o1:w1.ownsRow wr.heap.size 3 1 v1 la.length (ints la):=by simpa using o1
   have hz1:=hb1.size;clear g1;go_wp2_with (first | (at_builtin; refine bo rfl (.tmp 74) (.tmp 75) 45 rfl wr.heap.size 3 ii _ 1 8 Tryz.underlying45 hii hv0 hv1 hv2 rfl (by decide) _ la.length (ints la) rfl o1 cb lb.length ccb (ints lb) rfl (R2.next hb1) m3 m4 hz1 ?_))
   intro v2 w2 o2 g2;have hb2:Below wr.heap.size wr w2:=hb1.grown g2 hz1 (fun q hq=>(o1.lt q hq).1);rw [← xV] at o2;obtain ⟨a2,c2,rfl,i2⟩:=iH (B:=B) (lo:=w.heap.size) o2 (by rw [Nx]) (NV zJ);have iA:=ia.low hb2 (by have:=TJ.lt; omega);have iB:=ib.low hb2 (by have:=TJ.lt; omega);have E2:=EJ.next hb2 zJ;have T2:=TJ.next hb2;have X2:=XJ.trans (au.of hb2 (NV TJ.lt));have z2:w.heap.size<w2.heap.size:=Nn zJ hb2.size;have blw2:=X2.below hBt;have hp2:=hp.next blw2 (Nj _);have hT2:=hT.next blw2 (Nj _)
   have hB2:B≤w2.heap.size:=by have:=T2.lt; omega
   obtain ⟨n0,n1,⟨n2,n3,n4,n5,n6,n7⟩,n8,n9,n10⟩:=E2;simp only [Np] at n1 n2 n3 n4 n5 n6 n7 n8 n9 n10;have htw2:=T2.lt;clear g2 o1 o2 hb0 hb1 hb2 O0 R1 R2 m1 m2 m3 m4 ia ib EJ TJ XJ zJ blw hz1 blw2;rcases hsh.out with ⟨hkk,hcs⟩ | ⟨hkk,hcs,hlb⟩ | ⟨hkk,hcs⟩
   ·rw [hkk] at n0;rw [hcs] at ER EC;have er:r=(if p.n<0∨(ts.length:Int)≤p.n then 7 else 0,m'):=ER.out;have ec:cp=ts.getD p.n.toNat []:=EC.out;clear ER EC hcs hsh;haveI:Nonempty (bW w2):=⟨⟨_,Nk _ _⟩⟩
    have p1:=ag n1;have p2:=ag T2.c0;by_cases hn:p.n<0;rw [if_pos (.inl hn)] at er;subst er;clear ec;rotate_left;by_cases hn2:(ts.length:Int)≤p.n;rw [if_pos (.inr hn2)] at er;subst er;clear ec;have db1:decide (p.n<0)=false:=by simpa using hn
    have db2:decide ((ts.length:Int)≤p.n)=true:=by simpa using hn2
    rotate_left;rw [if_neg (by omega)] at er;obtain ⟨i,hi⟩:∃ i:Nat,p.n=(i:Int):=⟨p.n.toNat,by omega⟩
    rw [hi] at n1 p1 ec hn hn2;have hil:i<ts.length:=by omega
    have EC2:Hid (ts[i]=cp):=by show _=_; rw [ec]; simp [hil]
    subst er;clear ec;have hiz:(i:Int)<(ts.length:Int):=by omega
    have hi0:(0:Int)≤(i:Int):=by omega
    have db1:decide ((i:Int)<0)=false:=by simp
    have db2:decide ((ts.length:Int)≤(i:Int))=false:=by simp; omega
    go_wp2_with fail
    refine aq (by kernel_rfl) (by kernel_rfl) ?_
    repeat (go_big_quiet_step (fail))
    refine wpQuiet_nil ?_;rintro w5 ⟨⟨v5,hb5⟩,h5⟩;obtain rfl:w5=v5:=h5;have T5:=T2.next hb5;have X5:=X2.trans (au.of hb5 (NV htw2));have hT5:=hT2.next hb5 hB2;have n1':=(hb5.cell (p:=⟨w.heap.size,1,none⟩) z2).trans n1;clear p1 p2 this;obtain ⟨bt,ot,ai,ci,rfl,hbt,ct,it⟩:=hT5.elem hil;rw [EC2.out] at ct it;clear EC2 hT5;have htw5:=T5.lt;haveI:Nonempty (bW w5):=⟨⟨_,Nk _ _⟩⟩
    have p1:=ag n1';have p2:=ag T5.c0;have p3:=ag ct;go_wp2_with fail
    refine aq (by kernel_rfl) (by kernel_rfl) ?_
    repeat (go_big_quiet_step (fail))
    refine wpQuiet_nil ?_;rintro w6 ⟨⟨v6,hb6⟩,h6⟩;obtain rfl:w6=v6:=h6;have T6:=T5.next hb6;have X6:=X5.trans (au.of hb6 (NV htw5));have I6:=(it.next hb6 (by omega)).t (lo:=w.heap.size) (by have:=hb6.size; omega);clear p1 p2 p3 this;go_wp2_with fail
    first
     | exact Nl (v:=.tuple #[.slice ai cp.length ci,.int .i64 0]) (by simp [results,Tryz.results61,go_sem]) rfl ⟨⟨_,rfl,fun _=>⟨ai,ci,rfl,I6⟩⟩,X6,T6⟩
     | exact Nl (v:=.tuple #[.slice ai cp.length ci,.int .i64 0]) (by simp [results,Tryz.results61,go_sem]) rfl ⟨⟨_,rfl,⟨ai,⟨ci,rfl⟩,I6⟩⟩,X6,T6⟩
     | exact Nl (v:=.tuple #[.slice ai cp.length ci,.int .i64 0]) (by simp [results,Tryz.results61,go_sem]) rfl ⟨⟨_,rfl,fun _=>⟨ai,⟨ci,rfl⟩,I6⟩⟩,X6,T6⟩
     | exact Nl (v:=.tuple #[.slice ai cp.length ci,.int .i64 0]) (by simp [results,Tryz.results61,go_sem]) rfl ⟨⟨ai,⟨ci,rfl⟩,I6⟩,X6,T6⟩
    all_goals
     go_wp2_with fail
     refine aq (by kernel_rfl) (by kernel_rfl) ?_
     repeat (go_big_quiet_step (fail))
     refine wpQuiet_nil ?_;rintro w5 ⟨⟨v5,hb5⟩,h5⟩;obtain rfl:w5=v5:=h5;have T5:=T2.next hb5;have X5:=X2.trans (au.of hb5 (NV htw2));clear p1 p2 this;go_wp2_with fail
     first
      | exact Nl (v:=.tuple #[.slice none 0 0,.int .i64 7]) (by simp [results,Tryz.results61,go_sem]) rfl ⟨⟨_,rfl,fun c=>absurd c (by decide)⟩,X5,T5⟩
      | exact Nl (v:=.tuple #[.slice none 0 0,.int .i64 7]) (by simp [results,Tryz.results61,go_sem]) rfl ⟨⟨_,rfl⟩,X5,T5⟩
      | exact Nl (v:=.tuple #[.slice none 0 0,.int .i64 7]) (by simp [results,Tryz.results61,go_sem]) rfl ⟨X5,T5⟩
   ·rw [hcs] at ER EC;rcases hkk with hkk | hkk | hkk | hkk | hkk | hkk
    all_goals rw [hkk] at n0 ER EC
    all_goals clear hcs hsh hkk
    ·have er:r=(bO la p.x,m'):=by rw [ER.out]; show (eV la p.x [],m')=_; rw [G6 la8]
     have ec:la=cp:=EC.out.symm;subst ec;have con:=kL la p.x ca cca q.xa q.xc w2 (hp2.x.up hB2) iA.at;unfold lC at con;generalize bO la p.x=ce at *;subst er;clear ER EC;go_wp2_with fail
     refine con.mono ?_;rintro e w5 ⟨rfl,hb5⟩;have T5:=T2.next hb5;have X5:=X2.trans (au.of hb5 (NV htw2));have I5:=iA.low hb5 hB2;clear con;go_wp2_with fail
     first
      | exact Nl (v:=.tuple #[.slice ca la.length cca,.int .i64 ce]) (by simp [results,Tryz.results61,go_sem]) rfl ⟨⟨_,rfl,fun _=>⟨ca,cca,rfl,I5⟩⟩,X5,T5⟩
      | exact Nl (v:=.tuple #[.slice ca la.length cca,.int .i64 ce]) (by simp [results,Tryz.results61,go_sem]) rfl ⟨⟨_,rfl,⟨ca,⟨cca,rfl⟩,I5⟩⟩,X5,T5⟩
      | exact Nl (v:=.tuple #[.slice ca la.length cca,.int .i64 ce]) (by simp [results,Tryz.results61,go_sem]) rfl ⟨⟨_,rfl,fun _=>⟨ca,⟨cca,rfl⟩,I5⟩⟩,X5,T5⟩
      | exact Nl (v:=.tuple #[.slice ca la.length cca,.int .i64 ce]) (by simp [results,Tryz.results61,go_sem]) rfl ⟨⟨ca,⟨cca,rfl⟩,I5⟩,X5,T5⟩
    ·have er:r=(aP la p.xs,m'):=by rw [ER.out]; show (iv la p.xs [],m')=_; rw [map_nil la8]
     have ec:dP la p.xs=cp:=EC.out.symm;subst ec;have con:=kZ la p.xs ca cca q.sa q.sc w2 (hp2.xs.up hB2) iA.at;have tl:=ic la p.xs;generalize aP la p.xs=ce at *;subst er;clear ER EC;go_wp2_with fail
     refine con.mono ?_;rintro e w5 ⟨v5,rfl,g5,_,hb5⟩;have T5:=T2.next hb5;have X5:=X2.trans (au.of hb5 (NV htw2));have HG:Hid (ce=0→∃ a9 c9,v5 = .slice a9 (dP la p.xs).length c9∧kr B w.heap.size w5 a9 (dP la p.xs)):=fun c=>iH (g5 c) tl.symm (NV z2)
     clear con g5 tl;go_wp2_with fail
     first
      | exact Nl (v:=.tuple #[v5,.int .i64 ce]) (by simp [results,Tryz.results61,go_sem]) rfl ⟨⟨_,rfl,HG.out⟩,X5,T5⟩
      | exact Nl (v:=.tuple #[v5,.int .i64 ce]) (by simp [results,Tryz.results61,go_sem]) rfl ⟨⟨_,rfl,fun c=>by obtain ⟨a9,c9,e9,I9⟩:=HG.out c; exact ⟨a9,⟨c9,e9⟩,I9⟩⟩,X5,T5⟩
    rotate_left;rotate_left
    ·have er:r=(if 8<p.xs.length+p.gs.length then 5 else if aP la p.xs≠0 then aP la p.xs else bV la p.gs,m'):=by rw [ER.out]; show (df la p.xs p.gs [],m')=_; rw [Fa la8]
     have ec:dP la p.xs ++ cQ la p.gs=cp:=EC.out.symm;have EC2:Hid (dP la p.xs ++ cQ la p.gs=cp):=ec;clear ER EC ec;have hsum:=HK.out.sum;have hWs:IntKind.i64.wrap ((p.xs.length:Int)+(p.gs.length:Int))=(p.xs.length:Int)+(p.gs.length:Int):=IntWalk.i64_in _ ⟨by omega,by omega⟩;by_cases hs8:8<p.xs.length+p.gs.length
     ·rw [if_pos hs8] at er;subst er;have hs8i:(8:Int)<(p.xs.length:Int)+(p.gs.length:Int):=by omega
      go_wp2_with fail
      first
       | exact Nl (v:=.tuple #[.slice none 0 0,.int .i64 5]) (by simp [results,Tryz.results61,go_sem]) rfl ⟨⟨_,rfl,fun c=>absurd c (by decide)⟩,X2,T2⟩
       | exact Nl (v:=.tuple #[.slice none 0 0,.int .i64 5]) (by simp [results,Tryz.results61,go_sem]) rfl ⟨⟨_,rfl⟩,X2,T2⟩
       | exact Nl (v:=.tuple #[.slice none 0 0,.int .i64 5]) (by simp [results,Tryz.results61,go_sem]) rfl ⟨X2,T2⟩
     rw [if_neg hs8] at er;have hs8i:¬ (8:Int)<(p.xs.length:Int)+(p.gs.length:Int):=by omega
     have con:=kZ la p.xs ca cca q.sa q.sc w2 (hp2.xs.up hB2) iA.at;have tl:=ic la p.xs;have al:=pK la p.gs;have EQ:Hid (r=(if aP la p.xs≠0 then aP la p.xs else bV la p.gs,m')):=er;clear er;generalize aP la p.xs=ce at *;go_wp2_with fail
     refine con.mono ?_;rintro e w5 ⟨v5,rfl,g5,_,hb5⟩;have T5:=T2.next hb5;have X5:=X2.trans (au.of hb5 (NV htw2));have hB5:B≤w5.heap.size:=Nw hB2 hb5.size;clear con;by_cases hce:ce=0;rotate_left
     ·have er:r=(ce,m'):=by rw [EQ.out,if_pos hce]
      subst er;have hcb:(ce != 0)=true:=by simpa using hce
      have H0:Hid (¬ ce=0):=hce;clear hce g5 EQ;go_wp2_with fail
      first
       | exact Nl (v:=.tuple #[.slice none 0 0,.int .i64 ce]) (by simp [results,Tryz.results61,go_sem]) rfl ⟨⟨_,rfl,fun c=>absurd c H0.out⟩,X5,T5⟩
       | exact Nl (v:=.tuple #[.slice none 0 0,.int .i64 ce]) (by simp [results,Tryz.results61,go_sem]) rfl ⟨⟨_,rfl⟩,X5,T5⟩
       | exact Nl (v:=.tuple #[.slice none 0 0,.int .i64 ce]) (by simp [results,Tryz.results61,go_sem]) rfl ⟨X5,T5⟩
     have er:r=(bV la p.gs,m'):=by rw [EQ.out,if_neg (by simpa using hce)]
     have o5:=g5 hce;subst hce;clear g5 EQ;have hbB:Below B w2 w5:=hb5.mono hB2;have con:=qQ la p.gs ca cca q.ga q.gc w5 ((hp2.gs.next hbB (Nj _)).up hB5) (iA.low hb5 hB2).at (by omega);have n9':=(hb5.cell (p:=⟨w.heap.size,9,none⟩) z2).trans n9;have hz5:=T5.lt;generalize bV la p.gs=ge at *;subst er;go_wp2_with fail
     refine con.mono ?_;rintro e w6 ⟨v6,rfl,g6,g6n,hb6⟩;have T6:=T5.next hb6;have X6:=X5.trans (au.of hb6 (NV hz5));have o6:=aS o5 hb6;have z6:=T6.lt;clear con;have hb0:=aa w6 (.cells #[] 3);have O0:(w6.alloc (.cells #[] 3)).ownsRow w6.heap.size 3 1 (.slice (some ⟨w6.heap.size,0,none⟩) 0 0) 0 []:=Oq (e:=3) (size:=1) w6 #[] 0 (Nj _) (Nr _) (by simp);obtain ⟨a5,c5,rfl,i5⟩:=nI o6 tl.symm;have R5:=dN i5
     obtain ⟨a6,l6,c6,rfl,R6,h6,HG6⟩:∃ (a6:Option Addr) (l6:List Int) (c6:Nat),v6 = .slice a6 l6.length c6∧Raw w6 a6 l6.length 1 (ints l6)∧l6.length≤8∧Hid (ge=0→l6=cQ la p.gs):=by
      by_cases hg:ge=0
      ·obtain ⟨a6,c6,e6,i6⟩:=nI (g6 hg) al.symm;exact ⟨a6,_,c6,e6,dN i6,by rw [al]; omega,fun _=>rfl⟩
      ·exact ⟨none,[],0,g6n hg,⟨rfl,fun u hu=>(by cases hu),fun _=>rfl,fun ad e=>(by cases e)⟩,by simp,fun c=>absurd c hg⟩
     have m1:0+(dP la p.xs).length≤maxLen:=by rw [tl]; unfold maxLen; omega
     have m2:(0+(dP la p.xs).length)*8≤140737488355328:=by rw [tl]; omega
     have m3:(dP la p.xs).length+l6.length≤maxLen:=by rw [tl]; unfold maxLen; omega
     have m4:((dP la p.xs).length+l6.length)*8≤140737488355328:=by rw [tl]; omega
     have EC3:Hid (ge=0→dP la p.xs ++ l6=cp):=fun c=>by rw [HG6.out c]; exact EC2.out
     generalize dP la p.xs=tx at *;clear tl al g6 g6n EC2 HG6 o5 o6;go_wp2_with (first | (at_builtin; refine bo rfl (.tmp 177) (.tmp 178) 45 rfl w6.heap.size 3 ii _ 1 8 Tryz.underlying45 hii hv0 hv1 hv2 rfl (by decide) _ 0 [] rfl O0 a5 tx.length c5 (ints tx) rfl (R5.alloc _) m1 m2 (by simp) ?_))
     intro v7 w7 o7 g7;have hb7:Below w6.heap.size w6 w7:=hb0.grown g7 (by simp) (by simp [Value.ownBlock]);have o7:w7.ownsRow w6.heap.size 3 1 v7 tx.length (ints tx):=by simpa using o7
     have hz7:=hb7.size;clear g7;go_wp2_with (first | (at_builtin; refine bo rfl (.tmp 179) (.tmp 180) 45 rfl w6.heap.size 3 ii _ 1 8 Tryz.underlying45 hii hv0 hv1 hv2 rfl (by decide) _ tx.length (ints tx) rfl o7 a6 l6.length c6 (ints l6) rfl (R6.next hb7) m3 m4 hz7 ?_))
     intro v8 w8 o8 g8;have hb8:Below w6.heap.size w6 w8:=hb7.grown g8 hz7 (fun q hq=>(o7.lt q hq).1);rw [← xV] at o8;obtain ⟨a8,c8,rfl,i8⟩:=iH (B:=B) (lo:=w.heap.size) o8 (by rw [Nx]) (by have:=hb5.size; have:=hb6.size; omega);have T8:=T6.next hb8;have X8:=X6.trans (au.of hb8 (NV z6));have HG:Hid (ge=0→∃ a9 c9,(Value.slice a8 (tx ++ l6).length c8) = .slice a9 cp.length c9∧kr B w.heap.size w8 a9 cp):=fun c=>by
      have e:=EC3.out c;subst e;exact ⟨a8,c8,rfl,i8⟩
     clear g8 o7 o8 hb0 O0 R5 R6 EC3 m1 m2 m3 m4;go_wp2_with fail
     first
      | exact Nl (v:=.tuple #[.slice a8 (tx ++ l6).length c8,.int .i64 ge]) (by simp [results,Tryz.results61,go_sem]) rfl ⟨⟨_,rfl,HG.out⟩,X8,T8⟩
      | exact Nl (v:=.tuple #[.slice a8 (tx ++ l6).length c8,.int .i64 ge]) (by simp [results,Tryz.results61,go_sem]) rfl ⟨⟨_,rfl,fun c=>by obtain ⟨a9,c9,e9,I9⟩:=HG.out c; exact ⟨a9,⟨c9,e9⟩,I9⟩⟩,X8,T8⟩
    ·have er:r=(if aP la p.xs≠0 then aP la p.xs else if p.n<0∨50<p.n then 3 else 0,m'):=by rw [ER.out]; show (kh la p.xs p.n [],m')=_; rw [IU la8]
     have ec:la=cp:=EC.out.symm;subst ec;clear ER EC;have con:=kZ la p.xs ca cca q.sa q.sc w2 (hp2.xs.up hB2) iA.at;have EQ:Hid (r=(if aP la p.xs≠0 then aP la p.xs else if p.n<0∨50<p.n then 3 else 0,m')):=er;clear er;generalize aP la p.xs=ce at *;go_wp2_with fail
     refine con.mono ?_;rintro e w5 ⟨v5,rfl,g5,_,hb5⟩;have T5:=T2.next hb5;have X5:=X2.trans (au.of hb5 (NV htw2));have I5:=iA.low hb5 hB2;have n1':=(hb5.cell (p:=⟨w.heap.size,1,none⟩) z2).trans n1;clear con g5;by_cases hce:ce=0;rotate_left
     ·have er:r=(ce,m'):=by rw [EQ.out,if_pos hce]
      subst er;have hcb:(ce != 0)=true:=by simpa using hce
      have H0:Hid (¬ ce=0):=hce;clear hce EQ;go_wp2_with fail
      first
       | exact Nl (v:=.tuple #[.slice none 0 0,.int .i64 ce]) (by simp [results,Tryz.results61,go_sem]) rfl ⟨⟨_,rfl,fun c=>absurd c H0.out⟩,X5,T5⟩
       | exact Nl (v:=.tuple #[.slice none 0 0,.int .i64 ce]) (by simp [results,Tryz.results61,go_sem]) rfl ⟨⟨_,rfl⟩,X5,T5⟩
       | exact Nl (v:=.tuple #[.slice none 0 0,.int .i64 ce]) (by simp [results,Tryz.results61,go_sem]) rfl ⟨X5,T5⟩
     have EQ2:Hid (r=(if p.n<0∨50<p.n then 3 else 0,m')):=by show _=_; rw [EQ.out,if_neg (by simpa using hce)]
     clear EQ;subst hce;by_cases hn:p.n<0;have er:r=(3,m'):=by rw [EQ2.out,if_pos (.inl hn)]
     rotate_left;by_cases hn2:50<p.n;have er:r=(3,m'):=by rw [EQ2.out,if_pos (.inr hn2)]
     rotate_left;have er:r=(0,m'):=by rw [EQ2.out,if_neg (by omega)]
     subst er;clear EQ2;go_wp2_with fail
     first
      | exact Nl (v:=.tuple #[.slice ca la.length cca,.int .i64 0]) (by simp [results,Tryz.results61,go_sem]) rfl ⟨⟨_,rfl,fun _=>⟨ca,cca,rfl,I5⟩⟩,X5,T5⟩
      | exact Nl (v:=.tuple #[.slice ca la.length cca,.int .i64 0]) (by simp [results,Tryz.results61,go_sem]) rfl ⟨⟨_,rfl,⟨ca,⟨cca,rfl⟩,I5⟩⟩,X5,T5⟩
      | exact Nl (v:=.tuple #[.slice ca la.length cca,.int .i64 0]) (by simp [results,Tryz.results61,go_sem]) rfl ⟨⟨_,rfl,fun _=>⟨ca,⟨cca,rfl⟩,I5⟩⟩,X5,T5⟩
      | exact Nl (v:=.tuple #[.slice ca la.length cca,.int .i64 0]) (by simp [results,Tryz.results61,go_sem]) rfl ⟨⟨ca,⟨cca,rfl⟩,I5⟩,X5,T5⟩
     all_goals
      subst er;clear EQ2;go_wp2_with fail
      first
       | exact Nl (v:=.tuple #[.slice none 0 0,.int .i64 3]) (by simp [results,Tryz.results61,go_sem]) rfl ⟨⟨_,rfl,fun c=>absurd c (by decide)⟩,X5,T5⟩
       | exact Nl (v:=.tuple #[.slice none 0 0,.int .i64 3]) (by simp [results,Tryz.results61,go_sem]) rfl ⟨⟨_,rfl⟩,X5,T5⟩
       | exact Nl (v:=.tuple #[.slice none 0 0,.int .i64 3]) (by simp [results,Tryz.results61,go_sem]) rfl ⟨X5,T5⟩
    all_goals
     have er:r=(0,m'):=ER.out;have ec:la=cp:=EC.out.symm;subst ec;subst er;clear ER EC;go_wp2_with fail
     first
      | exact Nl (v:=.tuple #[.slice ca la.length cca,.int .i64 0]) (by simp [results,Tryz.results61,go_sem]) rfl ⟨⟨_,rfl,fun _=>⟨ca,cca,rfl,iA⟩⟩,X2,T2⟩
      | exact Nl (v:=.tuple #[.slice ca la.length cca,.int .i64 0]) (by simp [results,Tryz.results61,go_sem]) rfl ⟨⟨_,rfl,⟨ca,⟨cca,rfl⟩,iA⟩⟩,X2,T2⟩
      | exact Nl (v:=.tuple #[.slice ca la.length cca,.int .i64 0]) (by simp [results,Tryz.results61,go_sem]) rfl ⟨⟨_,rfl,fun _=>⟨ca,⟨cca,rfl⟩,iA⟩⟩,X2,T2⟩
      | exact Nl (v:=.tuple #[.slice ca la.length cca,.int .i64 0]) (by simp [results,Tryz.results61,go_sem]) rfl ⟨⟨ca,⟨cca,rfl⟩,iA⟩,X2,T2⟩
   ·rw [hcs] at ER EC;rcases hkk with hkk | hkk | hkk | hkk | hkk | hkk
    all_goals rw [hkk] at n0 ER EC
    all_goals clear hcs hsh hkk
    rotate_left
    ·have er:r=(if 8<la.length+lb.length then 5 else bO (la ++ lb) p.x,m'):=by rw [ER.out]; show (bY 0 la lb p.x [] [],m')=_; rw [tR la8 lb8]
     have ec:la=cp:=EC.out.symm;subst ec;clear ER EC;by_cases hs8:8<la.length+lb.length
     ·rw [if_pos hs8] at er;subst er;have hs8i:(8:Int)<(la.length:Int)+(lb.length:Int):=by omega
      have hs8j:(8:Int)<((la ++ lb).length:Int):=by rw [Nx]; omega
      go_wp2_with fail
      first
       | exact Nl (v:=.tuple #[.slice none 0 0,.int .i64 5]) (by simp [results,Tryz.results61,go_sem]) rfl ⟨⟨_,rfl,fun c=>absurd c (by decide)⟩,X2,T2⟩
       | exact Nl (v:=.tuple #[.slice none 0 0,.int .i64 5]) (by simp [results,Tryz.results61,go_sem]) rfl ⟨⟨_,rfl⟩,X2,T2⟩
       | exact Nl (v:=.tuple #[.slice none 0 0,.int .i64 5]) (by simp [results,Tryz.results61,go_sem]) rfl ⟨X2,T2⟩
     rw [if_neg hs8] at er;have hs8i:¬ (8:Int)<(la.length:Int)+(lb.length:Int):=by omega
     have hs8j:¬ (8:Int)<((la ++ lb).length:Int):=by rw [Nx]; omega
     have con:=kL (la ++ lb) p.x a2 c2 q.xa q.xc w2 (hp2.x.up hB2) i2.at;unfold lC at con;generalize bO (la ++ lb) p.x=ce at *;subst er;rw [Nx] at con;go_wp2_with fail
     refine con.mono ?_;rintro e w5 ⟨rfl,hb5⟩;have T5:=T2.next hb5;have X5:=X2.trans (au.of hb5 (NV htw2));have I5:=iA.low hb5 hB2;have n0':=(hb5.cell (p:=⟨w.heap.size,0,none⟩) z2).trans n0;clear con;go_wp2_with fail
     first
      | exact Nl (v:=.tuple #[.slice ca la.length cca,.int .i64 ce]) (by simp [results,Tryz.results61,go_sem]) rfl ⟨⟨_,rfl,fun _=>⟨ca,cca,rfl,I5⟩⟩,X5,T5⟩
      | exact Nl (v:=.tuple #[.slice ca la.length cca,.int .i64 ce]) (by simp [results,Tryz.results61,go_sem]) rfl ⟨⟨_,rfl,⟨ca,⟨cca,rfl⟩,I5⟩⟩,X5,T5⟩
      | exact Nl (v:=.tuple #[.slice ca la.length cca,.int .i64 ce]) (by simp [results,Tryz.results61,go_sem]) rfl ⟨⟨_,rfl,fun _=>⟨ca,⟨cca,rfl⟩,I5⟩⟩,X5,T5⟩
      | exact Nl (v:=.tuple #[.slice ca la.length cca,.int .i64 ce]) (by simp [results,Tryz.results61,go_sem]) rfl ⟨⟨ca,⟨cca,rfl⟩,I5⟩,X5,T5⟩
    ·have er:r=(if 8<la.length+lb.length then 5 else bO (la ++ lb) p.x,m'):=by rw [ER.out]; show (bY 0 la lb p.x [] [],m')=_; rw [tR la8 lb8]
     have ec:la=cp:=EC.out.symm;subst ec;clear ER EC;by_cases hs8:8<la.length+lb.length
     ·rw [if_pos hs8] at er;subst er;have hs8i:(8:Int)<(la.length:Int)+(lb.length:Int):=by omega
      have hs8j:(8:Int)<((la ++ lb).length:Int):=by rw [Nx]; omega
      go_wp2_with fail
      first
       | exact Nl (v:=.tuple #[.slice none 0 0,.int .i64 5]) (by simp [results,Tryz.results61,go_sem]) rfl ⟨⟨_,rfl,fun c=>absurd c (by decide)⟩,X2,T2⟩
       | exact Nl (v:=.tuple #[.slice none 0 0,.int .i64 5]) (by simp [results,Tryz.results61,go_sem]) rfl ⟨⟨_,rfl⟩,X2,T2⟩
       | exact Nl (v:=.tuple #[.slice none 0 0,.int .i64 5]) (by simp [results,Tryz.results61,go_sem]) rfl ⟨X2,T2⟩
     rw [if_neg hs8] at er;have hs8i:¬ (8:Int)<(la.length:Int)+(lb.length:Int):=by omega
     have hs8j:¬ (8:Int)<((la ++ lb).length:Int):=by rw [Nx]; omega
     have con:=kL (la ++ lb) p.x a2 c2 q.xa q.xc w2 (hp2.x.up hB2) i2.at;unfold lC at con;generalize bO (la ++ lb) p.x=ce at *;subst er;rw [Nx] at con;go_wp2_with fail
     refine con.mono ?_;rintro e w5 ⟨rfl,hb5⟩;have T5:=T2.next hb5;have X5:=X2.trans (au.of hb5 (NV htw2));have I5:=iA.low hb5 hB2;have n0':=(hb5.cell (p:=⟨w.heap.size,0,none⟩) z2).trans n0;clear con;go_wp2_with fail
     first
      | exact Nl (v:=.tuple #[.slice ca la.length cca,.int .i64 ce]) (by simp [results,Tryz.results61,go_sem]) rfl ⟨⟨_,rfl,fun _=>⟨ca,cca,rfl,I5⟩⟩,X5,T5⟩
      | exact Nl (v:=.tuple #[.slice ca la.length cca,.int .i64 ce]) (by simp [results,Tryz.results61,go_sem]) rfl ⟨⟨_,rfl,⟨ca,⟨cca,rfl⟩,I5⟩⟩,X5,T5⟩
      | exact Nl (v:=.tuple #[.slice ca la.length cca,.int .i64 ce]) (by simp [results,Tryz.results61,go_sem]) rfl ⟨⟨_,rfl,fun _=>⟨ca,⟨cca,rfl⟩,I5⟩⟩,X5,T5⟩
      | exact Nl (v:=.tuple #[.slice ca la.length cca,.int .i64 ce]) (by simp [results,Tryz.results61,go_sem]) rfl ⟨⟨ca,⟨cca,rfl⟩,I5⟩,X5,T5⟩
    rotate_left
    ·have er:r=(hY la lb,m'):=ER.out;have ec:bC la lb=cp:=EC.out.symm;subst ec;have con:=Ce la lb ca cca cb ccb w2 iA.at iB.at la8;have HTl:Hid (hY la lb=0→(bC la lb).length=la.length):=fun c=>eK (CJ c)
     generalize hY la lb=ce at *;subst er;clear ER EC;go_wp2_with fail
     refine con.mono ?_;rintro e w5 ⟨v5,rfl,g5,_,hb5⟩;have T5:=T2.next hb5;have X5:=X2.trans (au.of hb5 (NV htw2));have HG:Hid (ce=0→∃ a9 c9,v5 = .slice a9 (bC la lb).length c9∧kr B w.heap.size w5 a9 (bC la lb)):=fun c=>by
      obtain ⟨a9,c9,e9,i9⟩:=g5 c;exact ⟨a9,c9,by rw [HTl.out c]; exact e9,i9.MZ (NV z2)⟩
     clear con g5 HTl;go_wp2_with fail
     first
      | exact Nl (v:=.tuple #[v5,.int .i64 ce]) (by simp [results,Tryz.results61,go_sem]) rfl ⟨⟨_,rfl,HG.out⟩,X5,T5⟩
      | exact Nl (v:=.tuple #[v5,.int .i64 ce]) (by simp [results,Tryz.results61,go_sem]) rfl ⟨⟨_,rfl,fun c=>by obtain ⟨a9,c9,e9,I9⟩:=HG.out c; exact ⟨a9,⟨c9,e9⟩,I9⟩⟩,X5,T5⟩
    ·have er:r=(hY la lb,m'):=ER.out;have ec:bC la lb=cp:=EC.out.symm;subst ec;have con:=Ce la lb ca cca cb ccb w2 iA.at iB.at la8;have HTl:Hid (hY la lb=0→(bC la lb).length=la.length):=fun c=>eK (CJ c)
     generalize hY la lb=ce at *;subst er;clear ER EC;go_wp2_with fail
     refine con.mono ?_;rintro e w5 ⟨v5,rfl,g5,_,hb5⟩;have T5:=T2.next hb5;have X5:=X2.trans (au.of hb5 (NV htw2));have HG:Hid (ce=0→∃ a9 c9,v5 = .slice a9 (bC la lb).length c9∧kr B w.heap.size w5 a9 (bC la lb)):=fun c=>by
      obtain ⟨a9,c9,e9,i9⟩:=g5 c;exact ⟨a9,c9,by rw [HTl.out c]; exact e9,i9.MZ (NV z2)⟩
     clear con g5 HTl;go_wp2_with fail
     first
      | exact Nl (v:=.tuple #[v5,.int .i64 ce]) (by simp [results,Tryz.results61,go_sem]) rfl ⟨⟨_,rfl,HG.out⟩,X5,T5⟩
      | exact Nl (v:=.tuple #[v5,.int .i64 ce]) (by simp [results,Tryz.results61,go_sem]) rfl ⟨⟨_,rfl,fun c=>by obtain ⟨a9,c9,e9,I9⟩:=HG.out c; exact ⟨a9,⟨c9,e9⟩,I9⟩⟩,X5,T5⟩
    all_goals
     have er:r=(if 8<la.length+lb.length then 5 else bO (la ++ lb) p.x,m'):=by rw [ER.out]; show (bY 0 la lb p.x [] [],m')=_; rw [tR la8 lb8]
     have ec:la ++ lb=cp:=EC.out.symm;subst ec;clear ER EC;by_cases hs8:8<la.length+lb.length
     ·rw [if_pos hs8] at er;subst er;have hs8i:(8:Int)<(la.length:Int)+(lb.length:Int):=by omega
      have hs8j:(8:Int)<((la ++ lb).length:Int):=by rw [Nx]; omega
      go_wp2_with fail
      first
       | exact Nl (v:=.tuple #[.slice none 0 0,.int .i64 5]) (by simp [results,Tryz.results61,go_sem]) rfl ⟨⟨_,rfl,fun c=>absurd c (by decide)⟩,X2,T2⟩
       | exact Nl (v:=.tuple #[.slice none 0 0,.int .i64 5]) (by simp [results,Tryz.results61,go_sem]) rfl ⟨⟨_,rfl⟩,X2,T2⟩
       | exact Nl (v:=.tuple #[.slice none 0 0,.int .i64 5]) (by simp [results,Tryz.results61,go_sem]) rfl ⟨X2,T2⟩
     rw [if_neg hs8] at er;have hs8i:¬ (8:Int)<(la.length:Int)+(lb.length:Int):=by omega
     have hs8j:¬ (8:Int)<((la ++ lb).length:Int):=by rw [Nx]; omega
     have con:=kL (la ++ lb) p.x a2 c2 q.xa q.xc w2 (hp2.x.up hB2) i2.at;unfold lC at con;generalize bO (la ++ lb) p.x=ce at *;subst er;rw [Nx] at con;go_wp2_with fail
     refine con.mono ?_;rintro e w5 ⟨rfl,hb5⟩;have T5:=T2.next hb5;have X5:=X2.trans (au.of hb5 (NV htw2));have I5:=i2.low hb5 hB2;have n0':=(hb5.cell (p:=⟨w.heap.size,0,none⟩) z2).trans n0;clear con;go_wp2_with fail
     first
      | exact Nl (v:=.tuple #[.slice a2 (la.length+lb.length) c2,.int .i64 ce]) (by simp [results,Tryz.results61,go_sem]) rfl ⟨⟨_,rfl,fun _=>⟨a2,c2,(by simp),I5⟩⟩,X5,T5⟩
      | exact Nl (v:=.tuple #[.slice a2 (la.length+lb.length) c2,.int .i64 ce]) (by simp [results,Tryz.results61,go_sem]) rfl ⟨⟨_,rfl,⟨a2,⟨c2,(by simp)⟩,I5⟩⟩,X5,T5⟩
      | exact Nl (v:=.tuple #[.slice a2 (la.length+lb.length) c2,.int .i64 ce]) (by simp [results,Tryz.results61,go_sem]) rfl ⟨⟨_,rfl,fun _=>⟨a2,⟨c2,(by simp)⟩,I5⟩⟩,X5,T5⟩
      | exact Nl (v:=.tuple #[.slice a2 (la.length+lb.length) c2,.int .i64 ce]) (by simp [results,Tryz.results61,go_sem]) rfl ⟨⟨a2,⟨c2,(by simp)⟩,I5⟩,X5,T5⟩
theorem DO (ts:List (List Int)) (hts:dC ts=0):∀ p,Cd ts p:=Pl.ind fun k n x xs gs ks ih=>Hv ts hts (.mk k n x xs gs ks) ih
theorem jr.fresh (w:World) (ta:Option Addr) (n tc:Nat) (T:TypeId):jr (w.alloc (.cells #[.slice ta n tc,.int .i64 0] T)) w.heap.size ta n tc 0:=by
 have h:=aw w #[.slice ta n tc,.int .i64 0] T;exact ⟨ae h,cell_of (i:=0) h rfl,cell_of (i:=1) h rfl,No _ w.heap.size 1 _ _ h⟩
theorem uF (ts:List (List Int)) (p:Pl) (q:Pw) (ta:Option Addr) (tc:Nat) (w:World) (hT:fy w.heap.size w ta ts) (hp:ja w.heap.size w p q) (hk:cz p) :
  Calls Tryz.prog 32 #[.slice ta ts.length tc,bP p q] w fun e w'=>∃ v,e = .returned (.tuple #[v,.int .i64 (aX ts p)])∧(aX ts p=0→∃ ca cc,v = .slice ca (ah ts p).length cc∧kr w.heap.size w.heap.size w' ca (ah ts p))∧Below w.heap.size w w':=by
 have HK:Hid (cz p):=hk;generalize hle:aX ts p=le;generalize hcp:ah ts p=cp;generalize hr:dC ts=r;have HR:Hid (dC ts=r):=hr;have HCp:Hid (ah ts p=cp):=hcp;have HLr:Hid (¬ r=0→le=r):=fun c=>by rw [← hle]; unfold aX; rw [hr,if_pos c]
 have HL0:Hid (r=0→le=(aQ ts p 0 1).1):=fun c=>by rw [← hle]; unfold aX; rw [hr,if_neg (by simpa using c)]
 clear hle hcp hr hk;have hb0:=aa w (.cells (eS p q) 31);have E0:=gY.new w p q 31;have z0:=ae (aw w (eS p q) 31);unfold bP;go_enter Tryz.func32,Tryz.ntmps32;by_cases h8:8<ts.length
 ·have h8z:8<(ts.length:Int):=by omega
  have e:r=5:=by rw [← HR.out]; unfold dC; rw [if_pos h8]
  have el:le=5:=by rw [HLr.out (by rw [e]; decide),e]
  subst el;clear HR HLr HL0;go_wp2_with fail
  first
   | exact Nl (v:=.tuple #[.slice none 0 0,.int .i64 5]) (by simp [results,Tryz.results32,go_sem]) rfl ⟨_,rfl,fun c=>absurd c (by decide),hb0⟩
   | exact Nl (v:=.tuple #[.slice none 0 0,.int .i64 5]) (by simp [results,Tryz.results32,go_sem]) rfl ⟨_,rfl,hb0⟩
   | exact Nl (v:=.tuple #[.slice none 0 0,.int .i64 5]) (by simp [results,Tryz.results32,go_sem]) rfl ⟨⟨_,rfl⟩,hb0⟩
   | exact Nl (v:=.tuple #[.slice none 0 0,.int .i64 5]) (by simp [results,Tryz.results32,go_sem]) rfl hb0
 have h8z:¬ 8<(ts.length:Int):=by omega
 have HR':Hid (r=ie (ts.drop 0)):=by show _=_; rw [← HR.out]; unfold dC; rw [if_neg h8]; rfl
 go_wp2_with fail
 generalize w.alloc (.cells (eS p q) 31)=w0 at *;go_loopw [17] (fun i wr=>∃ j:Nat,j≤ts.length∧i = .int .i64 j∧Hid (r=ie (ts.drop j))∧Below w0.heap.size w0 wr) (fun i _=>ts.length - (intOf i).toNat)
 case atStart=>exact ⟨0,Nr _,rfl,HR',Nk _ _⟩
 case round =>
  obtain ⟨j,hj,rfl,HT,hb⟩:=hrel;have hbW:=chain hb0 hb;by_cases hlt:j<ts.length
  ·obtain ⟨b,off,ai,ci,eta,hbl,c0,hi⟩:=(hT.next hbW (Nj _)).elem hlt;have hjz:(j:Int)<(ts.length:Int):=by omega
   have HBad:Hid (¬ eI ts[j]=0→r=eI ts[j]):=fun c=>HT.out.trans (vM hlt c)
   have HOk:Hid (eI ts[j]=0→r=ie (ts.drop (j+1))):=fun c=>HT.out.trans (tP hlt c)
   clear HT;generalize ts[j]=cs at *;by_cases hc8:8<cs.length
   ·have hcz:8<(cs.length:Int):=by omega
    have e1:eI cs=5:=by unfold eI; rw [if_pos hc8]
    have e:r=5:=by rw [HBad.out (by rw [e1]; decide),e1]
    have el:le=5:=by rw [HLr.out (by rw [e]; decide),e]
    subst el;clear HBad HOk e1 HR HLr HL0 HR' e;subst eta;go_wp2_with fail
    first
     | exact Nl (v:=.tuple #[.slice none 0 0,.int .i64 5]) (by simp [results,Tryz.results32,go_sem]) rfl ⟨_,rfl,fun c=>absurd c (by decide),hbW⟩
     | exact Nl (v:=.tuple #[.slice none 0 0,.int .i64 5]) (by simp [results,Tryz.results32,go_sem]) rfl ⟨_,rfl,hbW⟩
     | exact Nl (v:=.tuple #[.slice none 0 0,.int .i64 5]) (by simp [results,Tryz.results32,go_sem]) rfl ⟨⟨_,rfl⟩,hbW⟩
     | exact Nl (v:=.tuple #[.slice none 0 0,.int .i64 5]) (by simp [results,Tryz.results32,go_sem]) rfl hbW
   ·have hcz:¬ 8<(cs.length:Int):=by omega
    have HC:Hid (eI cs=if ∃ c ∈ cs,c<1∨4<c then 1 else 0):=by show _=_; unfold eI; rw [if_neg hc8]
    obtain ⟨wo,hwo⟩:∃ z,z=wr:=⟨_,rfl⟩
    subst hwo;subst eta;go_upto_region 8 with fail
    clear c0;go_wp2_with fail
    go_loopw [26] (fun i wr=>∃ k:Nat,k≤cs.length∧i = .int .i64 k∧Hid (∀ c ∈ cs.take k,¬ (c<1∨4<c))∧Below wo.heap.size wo wr) (fun i _=>cs.length - (intOf i).toNat)
    case atStart=>exact ⟨0,Nr _,rfl,(fun c hc=>by simp at hc),Nk _ _⟩
    case round =>
     obtain ⟨k,hk,rfl,HKk,hbk⟩:=hrel;have hbw:=chain hb hbk;have hbw2:=chain hb0 hbw;by_cases hkl:k<cs.length
     ·obtain ⟨b1,o1,rfl,hb1,c1⟩:=(hi.next hbk hbW.size).elem hkl;have hkz:(k:Int)<(cs.length:Int):=by omega
      have HT1:Hid (cs.take (k+1)=cs.take k ++ [cs[k]]):=Nz hkl;have HM:Hid (cs[k] ∈ cs):=Ns hkl;generalize cs[k]=c at *;by_cases hbad:c<1∨4<c
      ·have e1:eI cs=1:=by rw [HC.out,if_pos ⟨c,HM.out,hbad⟩]
       have e:r=1:=by rw [HBad.out (by rw [e1]; decide),e1]
       have el:le=1:=by rw [HLr.out (by rw [e]; decide),e]
       subst el;clear HBad HOk e1 HC HKk HR HLr HL0 HR' e;have hb2:c<1∨(¬ c<1∧4<c):=by omega
       clear hbad;rcases hb2 with g1 | ⟨g1,g2⟩
       rotate_left
       all_goals
        go_wp2_with fail
        first
         | exact Nl (v:=.tuple #[.slice none 0 0,.int .i64 1]) (by simp [results,Tryz.results32,go_sem]) rfl ⟨_,rfl,fun c=>absurd c (by decide),hbw2⟩
         | exact Nl (v:=.tuple #[.slice none 0 0,.int .i64 1]) (by simp [results,Tryz.results32,go_sem]) rfl ⟨_,rfl,hbw2⟩
         | exact Nl (v:=.tuple #[.slice none 0 0,.int .i64 1]) (by simp [results,Tryz.results32,go_sem]) rfl ⟨⟨_,rfl⟩,hbw2⟩
         | exact Nl (v:=.tuple #[.slice none 0 0,.int .i64 1]) (by simp [results,Tryz.results32,go_sem]) rfl hbw2
      ·have g1:¬ c<1:=fun e=>hbad (.inl e)
       have g2:¬ 4<c:=fun e=>hbad (.inr e)
       have HK':Hid (∀ c ∈ cs.take (k+1),¬ (c<1∨4<c)):=by
        show ∀ c ∈ _,_
        rw [HT1.out];intro c' hc';rcases List.mem_append.1 hc' with hc' | hc'
        ·exact HKk.out c' hc'
        ·rw [List.mem_singleton.1 hc']; exact hbad
       clear hbad HKk;go_wp2_with fail
       go_roundw
       case rel=>exact ⟨k+1,by omega,by go_num,HK',hbk⟩
       case measure=>simp [intOf]; omega
     ·have e:k=cs.length:=by omega
      subst e;rw [NL] at HKk;have e1:eI cs=0:=by rw [HC.out,if_neg fun ⟨c,hc,hh⟩=>HKk.out c hc hh]
      have HT':Hid (r=ie (ts.drop (j+1))):=HOk.out e1;clear HBad HOk e1 HC HKk;go_wp2_with fail
      go_roundw
      case rel=>exact ⟨j+1,by omega,by go_num,HT',hbw⟩
      case measure=>simp [intOf]; omega
  ·have e1:r=0:=by rw [HT.out,NI (by omega)]; rfl
   have hjz:¬ (j:Int)<(ts.length:Int):=by omega
   have el:le=(aQ ts p 0 1).1:=HL0.out e1;have hts:dC ts=0:=HR.out.trans e1;have hbB:=hbW.size;have hal:=aa wr (.cells #[.slice ta ts.length tc,.int .i64 0] 92);have hA:=hbW.trans (hal.mono hbB);have TA:=jr.fresh wr ta ts.length tc 92;have EA:=(E0.next hb z0).next hal (Nn z0 hb.size);have con:=DO ts hts p w.heap.size wr.heap.size ta tc q 0 1 _ (hp.next hA (Nj _)) (hT.next hA (Nj _)) hbB TA (by decide) (by decide) (by decide) (by decide) HK.out;rw [← el,HCp.out] at con
   generalize (aQ ts p 0 1).2=m2 at con;unfold bP at con;clear HT HL0 HLr HR' HR HCp TA el hts e1;obtain ⟨n0,n1,⟨n2,n3,n4,n5,n6,n7⟩,n8,n9,n10⟩:=EA;simp only [Np] at n1 n2 n3 n4 n5 n6 n7 n8 n9 n10;go_wp2_with fail
   refine con.mono ?_;rintro e w5 ⟨⟨v5,rfl,g5⟩,X5,T5⟩;have hb5:Below w.heap.size w w5:=hA.trans (X5.below hbB);have HG:Hid (le=0→∃ ca cc,v5 = .slice ca cp.length cc∧kr w.heap.size w.heap.size w5 ca cp):=fun c=>by
    obtain ⟨ca,cc,e5,i5⟩:=g5 c;exact ⟨ca,cc,e5,i5.wide (by have:=hal.size; omega)⟩
   clear con g5 n0 n1 n2 n3 n4 n5 n6 n7 n8 n9 n10;dsimp only;by_cases hl0:le=0
   ·subst hl0;obtain ⟨ca,cc,rfl,i5⟩:=HG.out rfl;clear HG;go_wp2_with fail
    first
     | exact Nl (v:=.tuple #[.slice ca cp.length cc,.int .i64 0]) (by simp [results,Tryz.results32,go_sem]) rfl ⟨_,rfl,fun _=>⟨ca,cc,rfl,i5⟩,hb5⟩
     | exact Nl (v:=.tuple #[.slice ca cp.length cc,.int .i64 0]) (by simp [results,Tryz.results32,go_sem]) rfl ⟨_,rfl,⟨ca,⟨cc,rfl⟩,i5⟩,hb5⟩
     | exact Nl (v:=.tuple #[.slice ca cp.length cc,.int .i64 0]) (by simp [results,Tryz.results32,go_sem]) rfl ⟨⟨ca,⟨cc,rfl⟩,i5⟩,hb5⟩
   ·have hlb:(le != 0)=true:=by simpa using hl0
    have H0:Hid (¬ le=0):=hl0;clear HG hl0;go_wp2_with fail
    first
     | exact Nl (v:=.tuple #[.slice none 0 0,.int .i64 le]) (by simp [results,Tryz.results32,go_sem]) rfl ⟨_,rfl,fun c=>absurd c H0.out,hb5⟩
     | exact Nl (v:=.tuple #[.slice none 0 0,.int .i64 le]) (by simp [results,Tryz.results32,go_sem]) rfl ⟨_,rfl,hb5⟩
     | exact Nl (v:=.tuple #[.slice none 0 0,.int .i64 le]) (by simp [results,Tryz.results32,go_sem]) rfl ⟨⟨_,rfl⟩,hb5⟩
     | exact Nl (v:=.tuple #[.slice none 0 0,.int .i64 le]) (by simp [results,Tryz.results32,go_sem]) rfl hb5
theorem zQ (ts:List (List Int)) (k:Int) (p:Pl) (q:Pw) (w:World) (hlk:aX ts p=0) (hp:ja w.heap.size w p q) :
  Calls Tryz.prog 12 #[bP p q,.int .i64 k] w fun e w'=>e = .returned (.bool (FF k p))∧Below w.heap.size w w':=by
 have hl:=(cD hlk).2;have hks:Hid (iU p):=B4 p 0 1 hl;have n60:=(qS ts p 0 1 hl).2;have cn:=(KD (k:=k) p 0 1 hl).1;have ce:=(yv (k:=k) p 0 1 hl).1;have hm:Hid (eh k p≤1000000):=by show _≤_; omega
 have hA:=bT w p q;have EL:=dI w p q;have PB:=(hp.next hA (Nj _)).up hA.size;have con:=oU k p q _ hks.out PB hm.out;have HPL:Hid (FF k p=(eh k p == 1 && lH k p && gO p)):=rfl;have con2:Hid (∀ w,ja w.heap.size w p q→Calls Tryz.prog 36 #[bP p q,.int .i64 k] w fun e w'=>e = .returned (.bool (lH k p))∧Below w.heap.size w w'):=fun w h=>Ft k p q w hks.out h hm.out
 have con3:Hid (∀ w,ja w.heap.size w p q→Calls Tryz.prog 37 #[bP p q] w fun e w'=>e = .returned (.bool (!gO p))∧Below w.heap.size w w'):=fun w h=>Db p q w hks.out h
 clear hl n60 cn ce hlk hks hm hp;generalize FF k p=r at *;generalize eh k p=tp at *;generalize lH k p=pp at *;generalize gO p=np at *;obtain ⟨y0,y1,⟨y2,y3,y4,y5,y6,y7⟩,y8,y9,y10⟩:=EL.el;simp only [Np] at y1 y2 y3 y4 y5 y6 y7 y8 y9 y10;unfold bP at con ⊢;go_enter Tryz.func12,Tryz.ntmps12;go_upto_region 1 with fail
 generalize w.alloc (bK p q)=wA at *;go_wp2_with fail
 refine con.mono ?_;rintro e w1 ⟨rfl,hb⟩;clear con y0 y1 y2 y3 y4 y5 y6 y7 y8 y9 y10;replace hA:=chain hA hb;replace EL:=EL.next hb;replace PB:=(PB.next hb (Nj _)).up hb.size;clear hb;cases h1:(tp == 1) with
 | false =>
  have e:r=false:=by rw [HPL.out,h1]; rfl
  have hz:((tp:Int) == 1)=false:=by simp at h1 ⊢; omega
  subst e;clear HPL h1;go_wp2
  go_ret;exact ⟨rfl,hA⟩
 | true =>
 have hz:((tp:Int) == 1)=true:=by simp at h1 ⊢; omega
 have HP1:Hid (r=(pp && np)):=by show _=_; rw [HPL.out,h1]; rfl
 clear HPL h1;have con:=con2.out w1 PB;obtain ⟨y0,y1,⟨y2,y3,y4,y5,y6,y7⟩,y8,y9,y10⟩:=EL.el;simp only [Np] at y1 y2 y3 y4 y5 y6 y7 y8 y9 y10;unfold bP at con;clear con2;go_wp2_with fail
 refine con.mono ?_;rintro e w2 ⟨rfl,hb⟩;clear con y0 y1 y2 y3 y4 y5 y6 y7 y8 y9 y10;replace hA:=chain hA hb;replace EL:=EL.next hb;replace PB:=(PB.next hb (Nj _)).up hb.size;clear hb;cases pp with
 | false =>
  have e:r=false:=by rw [HP1.out]; rfl
  subst e;clear HP1;go_wp2
  go_ret;exact ⟨rfl,hA⟩
 | true =>
 have e:r=np:=by rw [HP1.out]; rfl
 subst e;clear HP1;have con:=con3.out w2 PB;obtain ⟨y0,y1,⟨y2,y3,y4,y5,y6,y7⟩,y8,y9,y10⟩:=EL.el;simp only [Np] at y1 y2 y3 y4 y5 y6 y7 y8 y9 y10;unfold bP at con;clear con3;go_wp2_with fail
 refine con.mono ?_;rintro e w3 ⟨rfl,hb⟩;clear con;go_wp2
 go_ret;exact ⟨by simp,chain hA hb⟩
def Ky (le:Int) (cs:List Int) (W:World) (u:Value):Prop:=le=0→∃ ca cc,u = .slice ca cs.length cc∧IX W ca cs
theorem Ky.next {le:Int} {cs:List Int} {W W':World} {u:Value} (h:Ky le cs W u) (hb:Below W.heap.size W W'):Ky le cs W' u:=fun e=>by
 obtain ⟨ca,cc,e1,h1⟩:=h e
 exact ⟨ca,cc,e1,IX.next h1 hb⟩
def f9 (lo:Nat) (ta:Option Addr) (tc n:Nat) (xs:List Value) (ca:Option Addr) (cl cc:Nat) (V:Value) (le:Int) (cs:List Int) (d:Nat→Bool) (k:Nat) (w:World) (v:Value):Prop:=match k with
 | 0=>d 2=true∨∃ g,v = .slice (some ⟨g,0,none⟩) 0 0∧lo≤g∧w.heap[g]? = some (.cells #[] 45 (0,0))
 | 1=>v = .slice ta n tc
 | 2=>d 5=true∨(w.ownsRow lo 45 1 v n xs∧(n=0→∃ g,v = .slice (some ⟨g,0,none⟩) 0 0))
 | 3=>v = .slice ca cl cc
 | 4=>∃ b,v = .slice (some ⟨b,0,none⟩) 1 1∧w.heap[b]? = some (.cells #[.slice ca cl cc] 45 (0,0))
 | 5=>(d 2=true∧d 5=true)∧w.ownsRow lo 45 1 v (n+1) (xs ++ [.slice ca cl cc])
 | 6=>v=V
 | 7=>(d 2=true∧d 5=true)∧∃ u,v = .tuple #[u,.int .i64 le]∧Ky le cs w u
 | 8=>(d 2=true∧d 5=true)∧∃ u,v = .tuple #[u,.int .i64 le]∧Ky le cs w u
 | 9=>(d 2=true∧d 5=true)∧Ky le cs w v
 | 10=>v = .int .i64 le
 | 11=>(d 2=true∧d 5=true)∧Ky le cs w v
 | 12=>v = .int .i64 le
 | _=>True
theorem d25 {d:Nat→Bool} {i:Nat} (h:d 2=true∧d 5=true):cI d i 2=true∧cI d i 5=true:=⟨eY h.1,eY h.2⟩
theorem I8 (lo:Nat) (ta:Option Addr) (tc n:Nat) (xs:List Value) (ca:Option Addr) (cl cc:Nat) (V:Value) (le:Int) (cs:List Int):∀ d i j w w' v,j≠i→d i=false→f9 lo ta tc n xs ca cl cc V le cs d j w v→g7 lo i w w'→i≠9∧i≠12∨Below w.heap.size w w'→f9 lo ta tc n xs ca cl cc V le cs (cI d i) j w' v:=by
 intro d i j w w' v hne hd h hg hx;have hg2:Below w.heap.size w w'∨((i=2∨i=5)∧MC 45 lo (i == 2) w w'):=by
  rcases hg with hb | hb | ⟨hi,_⟩
  ·exact .inl hb
  ·exact .inr hb
  ·rcases hx with hx | hx
   ·omega
   ·exact .inl hx
 clear hg hx;rcases hg2 with hb | ⟨hi,g,cs',hlo,hq,h1,h0,hg⟩
 ·match j,h with
  | 0,h =>
   rcases h with h | ⟨g,e,hl,h⟩
   ·exact .inl (eY h)
   ·exact .inr ⟨g,e,hl,(hb.block g (ae h)).trans h⟩
  | 1,h =>
   exact h
  | 2,h =>
   rcases h with h | ⟨h,h'⟩
   ·exact .inl (eY h)
   ·exact .inr ⟨uG h hb,h'⟩
  | 3,h =>
   exact h
  | 4,h =>
   obtain ⟨b,e,h⟩:=h;exact ⟨b,e,(hb.block b (ae h)).trans h⟩
  | 5,h =>
   exact ⟨⟨eY h.1.1,eY h.1.2⟩,uG h.2 hb⟩
  | 6,h =>
   exact h
  | 7,h =>
   obtain ⟨h0,u,e,h⟩:=h;exact ⟨d25 h0,u,e,h.next hb⟩
  | 8,h =>
   obtain ⟨h0,u,e,h⟩:=h;exact ⟨d25 h0,u,e,h.next hb⟩
  | 9,h =>
   exact ⟨d25 h.1,h.2.next hb⟩
  | 10,h =>
   exact h
  | 11,h =>
   exact ⟨d25 h.1,h.2.next hb⟩
  | 12,h =>
   exact h
  | _+13,h=>exact trivial
 ·match j,h with
  | 0,h =>
   rcases h with h | ⟨g',e,hl,h⟩
   ·exact .inl (eY h)
   ·rcases hi with rfl | rfl
    ·exact .inl (wN d 2)
    ·exact .inr ⟨g',e,hl,vV h hq (.inr fun c=>by simp at c; have:=h0 (by simp [c]); simp at this) hg⟩
  | 1,h =>
   exact h
  | 2,h =>
   rcases h with h | h
   ·exact .inl (eY h)
   ·rcases hi with rfl | rfl
    ·exact absurd rfl hne
    ·exact .inl (wN d 5)
  | 3,h =>
   exact h
  | 4,h =>
   obtain ⟨b,e,h⟩:=h;exact ⟨b,e,vV h hq (.inr h1) hg⟩
  | 5,h =>
   exfalso;rcases hi with rfl | rfl
   ·have:=h.1.1; rw [hd] at this; cases this
   ·have:=h.1.2; rw [hd] at this; cases this
  | 6,h =>
   exact h
  | 7,h =>
   exfalso;rcases hi with rfl | rfl
   ·have:=h.1.1; rw [hd] at this; cases this
   ·have:=h.1.2; rw [hd] at this; cases this
  | 8,h =>
   exfalso;rcases hi with rfl | rfl
   ·have:=h.1.1; rw [hd] at this; cases this
   ·have:=h.1.2; rw [hd] at this; cases this
  | 9,h =>
   exfalso;rcases hi with rfl | rfl
   ·have:=h.1.1; rw [hd] at this; cases this
   ·have:=h.1.2; rw [hd] at this; cases this
  | 10,h =>
   exact h
  | 11,h =>
   exfalso;rcases hi with rfl | rfl
   ·have:=h.1.1; rw [hd] at this; cases this
   ·have:=h.1.2; rw [hd] at this; cases this
  | 12,h =>
   exact h
  | _+13,h=>exact trivial
theorem LQ {Q:Exit→Act→World→Prop} {ta:Option Addr} {tc:Nat} {ts:List (List Int)} {ca:Option Addr} {cc:Nat} {cols:List Int} {p:Pl} {q:Pw} {bp:Nat} (a:Act) (w:World)
  (hsz:a.tmps.size=47) (h0:a.tmps.getD 0 undef = .slice ta ts.length tc) (h1:a.tmps.getD 9 undef = .slice ca cols.length cc) (h2:a.tmps.getD 6 undef = .pointer (some ⟨bp,0,none⟩))
  (TX:rB w ta ts) (IC:IX w ca cols) (EL:oZ w bp p q) (PX:pM w p q) (hk:cz p) (l1:ts.length≤8)
  (fin:∀ a' w' v,Below w.heap.size w w'→Same (tT Tryz.f11 4) a a'→a'.tmps.getD 11 undef=v→a'.tmps.getD 10 undef = .int .i64 (aX (ts ++ [cols]) p)→Ky (aX (ts ++ [cols]) p) (ah (ts ++ [cols]) p) w' v→Q .normal a' w'):(Code.region 4 (tT Tryz.f11 4) true).wp Tryz.prog Q a w:=by
 obtain ⟨i1,hi1,hj0,hj1,hj2⟩:=info_parts G5;obtain ⟨f,RT,hf0⟩:=TX.raw;obtain ⟨xs,hxs⟩:∃ xs,(List.range ts.length).map f=xs:=⟨_,rfl⟩
 rw [hxs] at RT;obtain ⟨le,hle⟩:∃ le,aX (ts ++ [cols]) p=le:=⟨_,rfl⟩
 obtain ⟨cs,hcs⟩:∃ cs,ah (ts ++ [cols]) p=cs:=⟨_,rfl⟩
 rw [hle,hcs] at fin;have gB:∀ (i:Nat) (W W':World),Below W.heap.size W W'→g7 w.heap.size i W W'∧(i≠9∧i≠12∨Below W.heap.size W W'):=fun i W W' h=>⟨.inl h,.inr h⟩
 have gR:∀ (i:Nat) (W:World),Below w.heap.size w W→g7 w.heap.size i W W∧(i≠9∧i≠12∨Below W.heap.size W W):=fun i W _=>⟨.inl (Nk _ _),.inr (Nk _ _)⟩
 refine gu (by kernel_rfl) (fun W=>Below w.heap.size w W) (f9 w.heap.size ta tc ts.length xs ca cols.length cc (bP p q) le cs) (fun i _ W W'=>g7 w.heap.size i W W'∧(i≠9∧i≠12∨Below W.heap.size W W')) (fun d _ i j W W' v hne hd _ h hg=>I8 _ _ _ _ _ _ _ _ _ _ _ d i j W W' v hne hd h hg.1 hg.2) (by rw [hsz]; kernel_rfl) (Nk _ _).drew ?_ ?_
 ·refine ⟨?_,?_,?_,?_,?_,?_,?_,?_,?_,?_,?_,?_,?_,trivial⟩
  ·refine bu rfl rfl fun d a' W hc hs hd _ hf=>⟨.slice (some ⟨W.heap.size,0,none⟩) 0 0,W.alloc (.cells #[] 45),?_,chain hc ((Nk _ _).alloc (Nj _) _),gB _ _ _ ((Nk _ _).alloc (Nj _) _),.inr ⟨_,rfl,hc.size,aw W #[] 45⟩⟩
   go_simp
  ·exact Cq rfl rfl rfl (by kernel_rfl) (fun _=>gR _) (fun d W _=>h0)
  ·refine bu rfl rfl fun d a' W hc hs hd _ hf=>?_
   have k0:=bM hf (j:=0) (t:=22) (by kernel_rfl);have k1:a'.tmps.getD 23 undef=_:=bM hf (j:=1) (t:=23) (by kernel_rfl);rcases k0 with k0 | ⟨g,k0,hl,hq⟩
   ·rw [hd] at k0; cases k0
   obtain ⟨v',w',hr,ho,he,hb⟩:=LW (ty:=22) true Tryz.underlying22 hi1 hj0 hj1 hj2 (lo:=w.heap.size) (v:=.slice (some ⟨g,0,none⟩) 0 0) (n:=0) (xs:=[]) ⟨rfl,.inr ⟨g,0,#[],rfl,hl,hq,Nj _,by unfold maxLen; omega,rfl,rfl⟩⟩ tc (RT.next hc) (by omega) hc.size (.inl ⟨g,rfl⟩) (fun _=>rfl);rw [Np] at ho he;have hG:g7 w.heap.size 2 W w':=hb.elim .inl fun h=>.inr (.inl ⟨.inl rfl,h⟩)
   refine ⟨v',w',?_,BW hc hG,⟨hG,.inl (by decide)⟩,.inr ⟨ho,fun h0=>⟨g,he h0⟩⟩⟩;simp only [execOp,Act.eval,k0,k1,resolve,invoke,builtin,NM,NO,NS];simp [hr]
  ·exact Cq rfl rfl rfl (by kernel_rfl) (fun _=>gR _) (fun d W _=>h1)
  ·refine bu rfl rfl fun d a' W hc hs hd _ hf=>?_
   have k:a'.tmps.getD 25 undef=_:=bM hf (j:=3) (t:=25) (by kernel_rfl);refine ⟨.slice (some ⟨W.heap.size,0,none⟩) 1 1,W.alloc (.cells #[.slice ca cols.length cc] 45),?_,chain hc ((Nk _ _).alloc (Nj _) _),gB _ _ _ ((Nk _ _).alloc (Nj _) _),⟨_,rfl,aw W #[.slice ca cols.length cc] 45⟩⟩;simp only [execOp,Act.eval,k,NM,NO,NS];clear k hf;go_simp
  ·refine bu rfl rfl fun d a' W hc hs hd _ hf=>?_
   have k0:=bM hf (j:=2) (t:=24) (by kernel_rfl);obtain ⟨v0,e0⟩:∃ v0,a'.tmps.getD 24 undef=v0:=⟨_,rfl⟩
   rw [e0] at k0;obtain ⟨b,k1,hq⟩:=bM hf (j:=4) (t:=26) (by kernel_rfl);rcases k0 with k0 | ⟨k0,hnl⟩
   ·rw [hd] at k0; cases k0
   have RR:Raw W (some ⟨b,0,none⟩) 1 1 [.slice ca cols.length cc]:=⟨rfl,by intro x hx; simp at hx; subst hx; rfl,(by intro e; cases e),fun ad e j x hj=>by
    cases e
    match j,hj with
    | 0,hj =>
     simp at hj;subst hj;rw [iL];exact cell_of (i:=0) hq rfl⟩
   obtain ⟨v',w',hr,ho,he,hb⟩:=LW (ty:=22) false Tryz.underlying22 hi1 hj0 hj1 hj2 k0 1 RR (by omega) hc.size (by
    rcases Nat.eq_zero_or_pos ts.length with h | h
    ·exact .inl (hnl h)
    ·exact .inr ⟨h,rfl⟩) (fun h=>by omega)
   have hG:g7 w.heap.size 5 W w':=hb.elim .inl fun h=>.inr (.inl ⟨.inr rfl,h⟩)
   refine ⟨v',w',?_,BW hc hG,⟨hG,.inl (by decide)⟩,⟨⟨?_,wN _ _⟩,ho⟩⟩
   ·simp only [execOp,Act.eval,e0,k1,resolve,invoke,builtin,NM,NO,NS];simp [hr]
   ·exact eY (Iu hf (j:=2) (t:=24) (by kernel_rfl)).1
  ·refine bu rfl rfl fun d a' W hc hs hd _ hf=>⟨bP p q,W,?_,hc,gR _ _ hc,rfl⟩
   have h:a'.tmps.getD 6 undef = .pointer (some ⟨bp,0,none⟩):=(hs.tmps 6 (by kernel_rfl)).trans h2;obtain ⟨y0,y1,⟨y2,y3,y4,y5,y6,y7⟩,y8,y9,y10⟩:=(EL.next hc).el;simp only [Np] at y1 y2 y3 y4 y5 y6 y7 y8 y9 y10;simp only [execOp,Act.eval,h];unfold bP;clear h hs hf fin RT gB gR;go_simp
  ·refine hU rfl rfl fun d a' W hc hs hd _ hf=>?_
   obtain ⟨d2,k5⟩:=bM hf (j:=5) (t:=27) (by kernel_rfl);have k6:a'.tmps.getD 28 undef=_:=bM hf (j:=6) (t:=28) (by kernel_rfl);obtain ⟨a5,c5,e5,T5⟩:∃ x y,a'.tmps.getD 27 undef = .slice x (ts ++ [cols]).length y∧fy W.heap.size W x (ts ++ [cols]):=by
    rcases wR k5 with ⟨h0,_⟩ | ⟨g,cap,e,hg,hcl⟩
    ·omega
    rw [← hxs] at hcl;refine ⟨_,cap,by simpa using e,CI rfl hg hcl (fun i hi=>?_) (IC.next hc)⟩;obtain ⟨ai,ci,e,h⟩:=hf0 i hi;exact ⟨ai,ci,e,IX.next h hc⟩
   refine ⟨32,#[.slice a5 (ts ++ [cols]).length c5,bP p q],?_,(uF (ts ++ [cols]) p q a5 c5 W T5 (PX.next hc) hk).mono fun e w' ⟨v,he,hO,hb⟩=>⟨_,he,chain hc hb,gB _ _ _ hb,d25 d2,v,by rw [hle],fun h0=>?_⟩⟩
   ·simp only [execOp,Act.eval,e5,k6,resolve,NM,NO,NS];rfl
   ·rw [← hle] at h0;obtain ⟨x,y,e1,h1⟩:=hO h0;rw [← hcs];exact ⟨x,y,e1,h1.at⟩
  ·exact jc rfl rfl (.inl rfl) (j:=7) (by kernel_rfl) (fun _=>gR _) (fun d W v h=>⟨d25 h.1,h.2⟩)
  ·exact jb rfl rfl rfl (j:=8) (by kernel_rfl) (fun _=>gR _) (fun d W v h=>by obtain ⟨h0,u,e,h⟩:=h; exact ⟨_,u,e,rfl,d25 h0,h⟩)
  ·exact jb rfl rfl rfl (j:=8) (by kernel_rfl) (fun _=>gR _) (fun d W v h=>by obtain ⟨h0,u,e,h⟩:=h; exact ⟨_,_,e,rfl,rfl⟩)
  ·exact jc rfl rfl (.inr rfl) (j:=9) (by kernel_rfl) (fun _=>gR _) (fun d W v h=>⟨d25 h.1,h.2⟩)
  ·exact jc rfl rfl (.inr rfl) (j:=10) (by kernel_rfl) (fun _=>gR _) (fun d W v h=>h)
 ·intro d a' w' hc hs _ hf;exact fin a' w' _ hc hs rfl (hf 12 (of_decide_eq_true (by kernel_rfl)) _ 10 rfl rfl) (hf 11 (of_decide_eq_true (by kernel_rfl)) _ 11 rfl rfl).2
theorem Et (ts:List (List Int)) (p:Pl) (q:Pw) (p':Pl) (q':Pw) (data:List (List Zp)) (ta:Option Addr) (tc:Nat) (da:Option Addr) (dc:Nat) (w:World) (hT:fy w.heap.size w ta ts) (hp:ja w.heap.size w p q) (hk:cz p) (hp':ja w.heap.size w p' q') (hk':cz p') (hD:gL w da data) (hn:data.length≤10000000000000) :
  Calls Tryz.prog 11 #[.slice ta ts.length tc,bP p q,bP p' q',.slice da data.length dc] w fun e w'=>e = .returned (.int .i64 (eA ts p p' data))∧Below w.heap.size w w':=by
 have hA:=jM w p q p' q';have EL:=zL w p q p' q';have ER:=yO w p q p' q';have HK:Hid (cz p):=hk;have HK':Hid (cz p'):=hk';have TX:=rB.next (w:=w) hT hA;have PX:=pM.next (w:=w) hp hA;have PX':=pM.next (w:=w) hp' hA;have DX:=hD.next hA;clear hk hk' hT hp hp' hD;generalize hwe:eA ts p p' data=we;have HWE:Hid (eA ts p p' data=we):=hwe;have con:=uF ts p q ta tc _ TX PX HK.out;generalize hle:aX ts p=le at con;have HLE:Hid (aX ts p=le):=hle;clear hwe hle;obtain ⟨y0,y1,⟨y2,y3,y4,y5,y6,y7⟩,y8,y9,y10⟩:=EL.el;simp only [Np] at y1 y2 y3 y4 y5 y6 y7 y8 y9 y10
 unfold bP at con ⊢;go_enter Tryz.func11,Tryz.ntmps11;go_upto_region 1 with fail
 generalize (w.alloc (bK p q)).alloc (bK p' q')=wA at *;go_wp2_with fail
 refine con.mono ?_;rintro e w1 ⟨v1,rfl,hv,hb⟩;clear con y0 y1 y2 y3 y4 y5 y6 y7 y8 y9 y10;replace hA:=chain hA hb;replace TX:=TX.next hb;replace PX:=PX.next hb;replace PX':=PX'.next hb;replace DX:=DX.next hb;replace EL:=EL.next hb;replace ER:=ER.next hb;clear hb;by_cases h0:le=0;rotate_left
 ·have e1:we=le:=by rw [← HWE.out]; unfold eA; rw [HLE.out,if_pos h0]
  subst e1;have hb0:(we != 0)=true:=by simpa using h0
  clear HWE HLE hv;go_wp2_with fail
  go_ret;exact ⟨rfl,hA⟩
 obtain ⟨a1,c1,rfl,I1⟩:=hv h0;have I1:=I1.at;have HL0:Hid (aX ts p=0):=by show _=_; rw [HLE.out,h0]
 have HCT:Hid (dh ts p=ah ts p):=by show _=_; unfold dh; rw [if_pos HL0.out]
 have l1:ts.length≤8:=Ci (cD HL0.out).1;have c8:(ah ts p).length≤8:=by rw [← HCT.out]; exact CE HL0.out
 subst h0;clear hv HLE;generalize hcs:ah ts p=cs at *;go_wp2_with fail
 rename_i K hK
 refine LQ (cols:=cs) _ _ rfl rfl rfl rfl TX I1 ER PX' HK'.out l1 ?_;intro a4 w4 v4 hb S4 e11 e10 O4;refine hK _ _ ?_;clear hK K;have HWI:Hid (bN ts p=ts ++ [cs]):=by show _=_; unfold bN; rw [HCT.out]
 have HW2:Hid (we=if aX (ts ++ [cs]) p'≠0 then aX (ts ++ [cs]) p' else if (dh (ts ++ [cs]) p').length≠cs.length then 8 else if dh (ts ++ [cs]) p'≠cs then 9 else bG ts data):=by
  show _=_;rw [← HWE.out]; unfold eA; rw [HL0.out,HWI.out,HCT.out];simp only [ne_eq,not_true_eq_false,if_false]
 have HCT2:Hid (aX (ts ++ [cs]) p'=0→dh (ts ++ [cs]) p'=ah (ts ++ [cs]) p'):=fun h=>by unfold dh; rw [if_pos h]
 clear HWE HCT HWI HL0 hcs;generalize aX (ts ++ [cs]) p'=le2 at *;generalize dh (ts ++ [cs]) p'=ct2 at *;generalize ah (ts ++ [cs]) p'=cs2 at *;replace hA:=chain hA hb;replace TX:=TX.next hb;replace PX:=PX.next hb;replace PX':=PX'.next hb;replace DX:=DX.next hb;replace EL:=EL.next hb;replace ER:=ER.next hb;replace I1:=IX.next I1 hb;clear hb;have ea:=S4.qp (l:=[some 22,some 23,some 24,some 25,some 26,some 27,some 28,some 29,some 21,some 30,some 31,some 11,some 10]) (by kernel_rfl)
 simp only [qp,Act.put,NK,NX,N0,e11,e10] at ea;generalize a4.tmps.getD 22 undef=u22,a4.tmps.getD 23 undef=u23,a4.tmps.getD 24 undef=u24,a4.tmps.getD 25 undef=u25,a4.tmps.getD 26 undef=u26,a4.tmps.getD 27 undef=u27,a4.tmps.getD 28 undef=u28,a4.tmps.getD 29 undef=u29,a4.tmps.getD 21 undef=u21,a4.tmps.getD 30 undef=u30,a4.tmps.getD 31 undef=u31 at ea;subst ea;clear S4 e11 e10;by_cases h0:le2=0;rotate_left
 ·have e1:we=le2:=by rw [HW2.out,if_pos h0]
  subst e1;have hb0:(we != 0)=true:=by simpa using h0
  clear HW2 HCT2 O4;go_wp2_with fail
  go_ret;exact ⟨rfl,hA⟩
 obtain ⟨a5,c5,rfl,I5⟩:=O4 h0;have HW3:Hid (we=if cs2.length≠cs.length then 8 else if cs2≠cs then 9 else bG ts data):=by
  show _=_;rw [HW2.out,HCT2.out h0,h0];simp only [ne_eq,not_true_eq_false,if_false]
 subst h0;clear HW2 HCT2 O4;by_cases hll:cs2.length=cs.length;rotate_left
 ·have e1:we=8:=by rw [HW3.out,if_pos hll]
  subst e1;have hbl:((cs.length:Int) != (cs2.length:Int))=true:=by simp; omega
  clear HW3 hll;go_wp2_with fail
  go_ret;exact ⟨rfl,hA⟩
 have HW4:Hid (we=if cs2≠cs then 9 else bG ts data):=by show _=_; rw [HW3.out,if_neg (by simpa using hll)]
 have con:=ints_at cs cs2 a1 c1 a5 c5 w4 I1 I5 (show Hid _ from hll) (by omega);have hbl:((cs.length:Int) != (cs2.length:Int))=false:=by simp; omega
 clear HW3 hll;generalize hbb:decide (cs=cs2)=bb at con;have HBB:Hid (decide (cs=cs2)=bb):=hbb;clear hbb;have HW5:Hid (bb=false→we=9):=fun h=>by
  rw [h] at HBB;have:=of_decide_eq_false HBB.out;rw [HW4.out,if_pos (fun c=>this c.symm)]
 have HW6:Hid (bb=true→we=bG ts data):=fun h=>by
  rw [h] at HBB;have:=of_decide_eq_true HBB.out;rw [HW4.out,if_neg (by simp [this])]
 clear HW4 HBB;go_wp2_with fail
 refine con.mono ?_;rintro e w5 ⟨rfl,hb⟩;clear con hbl I1 I5;replace hA:=chain hA hb;replace TX:=TX.next hb;replace PX:=PX.next hb;replace PX':=PX'.next hb;replace DX:=DX.next hb;replace EL:=EL.next hb;replace ER:=ER.next hb;clear hb;cases bb with
 | false =>
  have e1:=HW5.out rfl;subst e1;clear HW5 HW6;go_wp2_with fail
  go_ret;exact ⟨rfl,hA⟩
 | true =>
  have con:=As ts data ta tc da dc w5 TX DX hn;rw [← HW6.out rfl] at con;clear HW5 HW6;go_wp2_with fail
  refine con.mono ?_;rintro e w6 ⟨rfl,hb⟩;clear con;go_wp2_with fail
  go_ret;exact ⟨rfl,chain hA hb⟩
theorem iX (b:Nat):∀ (vs:List Value) (o:Nat) (w:World),au b w (w.setCells b o vs)
 | [],_,w=>au.refl b w
 | v :: vs,o,w=>((au.refl b w).set o v).trans (iX b vs (o+1) _)
theorem mC {w:World} {b:Nat} {cs:Array Value} {T:TypeId} (h:w.heap[b]? = some (.cells cs T (0,0))):w.there b 0 cs.size:=fun j hj=>by
 rw [Np]
 refine ⟨?_,by simp [World.frozen?,h]⟩
 rw [cell_of (i:=j) (v:=cs[j]) h (by simp [hj])]
 rfl
theorem rR {P:Program} {ops:Array Oper} {Q:Exit→Act→World→Prop} {i:Nat} {o:Oper} {K:Act→World→Prop} {a:Act} {w:World} (ho:ops[i]? = some o) (hg:o.guard=none) (h:o.wp P a w K Q):wpOp P ops Q i K a w:=by
 unfold wpOp;rw [ho];show if Region.wanted o (yielded ops a.tmps) then _ else _
 rw [if_pos (by unfold Region.wanted; rw [hg])];exact .inl h
abbrev CV (k:Int):Array Value:=#[.int .i64 2,.int .i64 0,.int .i64 0,.string ⟨#[]⟩,.int .i64 k,.slice none 0 0]
abbrev pg (j k:Int):Array Value:=#[.int .i64 2,.int .i64 0,.int .i64 0,.string ⟨#[]⟩,.int .i64 j,.slice none 0 0,.int .i64 2,.int .i64 0,.int .i64 0,.string ⟨#[]⟩,.int .i64 k,.slice none 0 0]
abbrev oJ:Array Value:=#[.int .i64 0,.int .i64 0,.int .i64 0,.int .i64 0,.int .i64 0,.string ⟨#[]⟩,.int .i64 0,.slice none 0 0,.slice none 0 0,.slice none 0 0,.slice none 0 0]
abbrev CP:Array Value:=#[.int .i64 1,.int .i64 1,.int .i64 0,.int .i64 0,.int .i64 0,.string ⟨#[]⟩,.int .i64 0,.slice none 0 0,.slice none 0 0,.slice none 0 0,.slice none 0 0,.int .i64 1,.int .i64 0,.int .i64 0,.int .i64 0,.int .i64 0,.string ⟨#[]⟩,.int .i64 0,.slice none 0 0,.slice none 0 0,.slice none 0 0,.slice none 0 0]
def ym (k:Int):Ex:=.mk 2 fH k []
def Nf:Ex:=.mk 6 fH 0 [ym 1,ym 2]
def kT:Pl:=.mk 4 0 Nf [] [] [et 1,et 0]
def gw:Pl:=.mk 3 0 M4 [ym 0,ym 3] [] [kT]
def jq (s c:Nat):Pw:=⟨some ⟨s,0,none⟩,2,none,0,none,0,some ⟨c,0,none⟩,2⟩
def sq (s c:Nat):Pw:=⟨none,0,some ⟨s,0,none⟩,2,none,0,some ⟨c,0,none⟩,1⟩
theorem MQ (s c:Nat):bP kT (jq s c) = .agg #[.int .i64 4,.int .i64 0,.int .i64 6,.int .i64 0,.int .i64 0,.string ⟨#[]⟩,.int .i64 0,.slice (some ⟨s,0,none⟩) 2 2,.slice none 0 0,.slice none 0 0,.slice (some ⟨c,0,none⟩) 2 2]:=rfl
theorem Ml (s c:Nat):bP gw (sq s c) = .agg #[.int .i64 3,.int .i64 0,.int .i64 0,.int .i64 0,.int .i64 0,.string ⟨#[]⟩,.int .i64 0,.slice none 0 0,.slice (some ⟨s,0,none⟩) 2 2,.slice none 0 0,.slice (some ⟨c,0,none⟩) 1 1]:=rfl
theorem Gr {W:World} {s:Nat} {j k:Int} (h:W.heap[s]? = some (.cells (pg j k) 27 (0,0))):bd W.heap.size W (some ⟨s,0,none⟩) [ym j,ym k] :=
 .some s 0 [ym j,ym k] (fun _=>none) (fun _=>0) (ae h) (fun i hi=>by
  match i,hi with
  | 0,_=>exact ⟨cell_of (i:=0) h rfl,cell_of (i:=1) h rfl,cell_of (i:=2) h rfl,cell_of (i:=3) h rfl,cell_of (i:=4) h rfl,cell_of (i:=5) h rfl⟩
  | 1,_=>exact ⟨cell_of (i:=6) h rfl,cell_of (i:=7) h rfl,cell_of (i:=8) h rfl,cell_of (i:=9) h rfl,cell_of (i:=10) h rfl,cell_of (i:=11) h rfl⟩) (fun i hi=>by
  match i,hi with
  | 0,_=>exact .nil _
  | 1,_=>exact .nil _)
theorem xN {W:World} {s c:Nat} (h:W.heap[s]? = some (.cells (pg 1 2) 27 (0,0))) (h2:W.heap[c]? = some (.cells CP 31 (0,0))):pM W kT (jq s c) :=
 ⟨Gr h,.nil _,.inl rfl,.some c 0 [et 1,et 0] (fun _=>pO) (ae h2) (fun i hi=>by
  match i,hi with
  | 0,_=>exact ⟨cell_of (i:=0) h2 rfl,cell_of (i:=1) h2 rfl,⟨cell_of (i:=2) h2 rfl,cell_of (i:=3) h2 rfl,cell_of (i:=4) h2 rfl,cell_of (i:=5) h2 rfl,cell_of (i:=6) h2 rfl,cell_of (i:=7) h2 rfl⟩,cell_of (i:=8) h2 rfl,cell_of (i:=9) h2 rfl,cell_of (i:=10) h2 rfl⟩
  | 1,_=>exact ⟨cell_of (i:=11) h2 rfl,cell_of (i:=12) h2 rfl,⟨cell_of (i:=13) h2 rfl,cell_of (i:=14) h2 rfl,cell_of (i:=15) h2 rfl,cell_of (i:=16) h2 rfl,cell_of (i:=17) h2 rfl,cell_of (i:=18) h2 rfl⟩,cell_of (i:=19) h2 rfl,cell_of (i:=20) h2 rfl,cell_of (i:=21) h2 rfl⟩) (fun i hi=>by
  match i,hi with
  | 0,_=>exact .nil _
  | 1,_=>exact .nil _) (fun i hi=>by
  match i,hi with
  | 0,_=>exact .nil _
  | 1,_=>exact .nil _) (fun i hi=>by
  match i,hi with
  | 0,_=>exact .inl rfl
  | 1,_=>exact .inl rfl) (fun i hi=>by
  match i,hi with
  | 0,_=>exact .nil _
  | 1,_=>exact .nil _)⟩
theorem F5 {W:World} {s c s3 c3:Nat} (h:W.heap[s]? = some (.cells (pg 0 3) 27 (0,0))) (h2:W.heap[c]? = some (.cells (xE kT (jq s3 c3)) 31 (0,0))) (hj:pM W kT (jq s3 c3)):pM W gw (sq s c) :=
 ⟨.nil _,Gr h,.inl rfl,.some c 0 [kT] (fun _=>jq s3 c3) (ae h2) (fun i hi=>by
  match i,hi with
  | 0,_=>exact ⟨cell_of (i:=0) h2 rfl,cell_of (i:=1) h2 rfl,⟨cell_of (i:=2) h2 rfl,cell_of (i:=3) h2 rfl,cell_of (i:=4) h2 rfl,cell_of (i:=5) h2 rfl,cell_of (i:=6) h2 rfl,cell_of (i:=7) h2 rfl⟩,cell_of (i:=8) h2 rfl,cell_of (i:=9) h2 rfl,cell_of (i:=10) h2 rfl⟩) (fun i hi=>by
  match i,hi with
  | 0,_=>exact hj.x) (fun i hi=>by
  match i,hi with
  | 0,_=>exact hj.xs) (fun i hi=>by
  match i,hi with
  | 0,_=>exact hj.gs) (fun i hi=>by
  match i,hi with
  | 0,_=>exact hj.ks)⟩
theorem tD {W:World} {b:Nat} {p:Pl} {q:Pw} (h:W.rangeAt b 0 (xE p q).toList):oZ W b p q :=
 ⟨⟨h 0 _ rfl,h 1 _ rfl,⟨h 2 _ rfl,h 3 _ rfl,h 4 _ rfl,h 5 _ rfl,h 6 _ rfl,h 7 _ rfl⟩,h 8 _ rfl,h 9 _ rfl,h 10 _ rfl⟩,Nt _ _ (h 0 _ rfl)⟩
theorem xn (k:Int) (w:World):Calls Tryz.prog 46 #[.int .i64 k] w fun e w'=>e = .returned (.agg (CV k))∧Below w.heap.size w w':=by
 go_enter Tryz.func46,Tryz.ntmps46;go_wp2
 exact Nl (v:=.agg (CV k)) (by simp [results,Tryz.results46,go_sem]) rfl ⟨rfl,(Nk _ _).alloc (Nj _) _⟩
theorem gP {W:World} {b s:Nat} {cs ds:Array Value} {T T':TypeId} (h:W.heap[b]? = some (.cells cs T (0,0))) (k:W.heap[s]? = some (.cells ds T' (0,0))) (hne:T≠T'∨cs.size≠ds.size):s≠b:=fun e=>by
 subst e
 rw [h] at k
 have k:=NU k
 injection k with k1 k2
 subst k1 k2
 rcases hne with h | h <;> exact h rfl
structure ky (W:World) (b s c:Nat):Prop where
 hs:W.heap[s]? = some (.cells (pg 1 2) 27 (0,0))
 hc:W.heap[c]? = some (.cells CP 31 (0,0))
 el:oZ W b kT (jq s c)
theorem ky.next {W W':World} {b s c:Nat} (h:ky W b s c) (hb:Below W.heap.size W W'):ky W' b s c:=⟨(hb.block s (ae h.hs)).trans h.hs,(hb.block c (ae h.hc)).trans h.hc,h.el.next hb⟩
theorem ky.px {W:World} {b s c:Nat} (h:ky W b s c):pM W kT (jq s c):=xN h.hs h.hc
def f2 (lo:Nat) (d:Nat→Bool) (k:Nat) (W:World) (v:Value):Prop:=match k with
 | 0=>v = .agg (CV 1)
 | 1=>v = .agg (CV 2)
 | 2=>d 9=true∨∃ s,v = .slice (some ⟨s,0,none⟩) 2 2∧W.heap[s]? = some (.cells (pg 1 2) 27 (0,0))
 | 3=>d 9=true∨∃ s,v = .agg #[.int .i64 6,.int .i64 0,.int .i64 0,.string ⟨#[]⟩,.int .i64 0,.slice (some ⟨s,0,none⟩) 2 2]∧W.heap[s]? = some (.cells (pg 1 2) 27 (0,0))
 | 4=>v=bP (et 1) pO
 | 5=>v=bP (et 0) pO
 | 6=>d 9=true∨∃ c,v = .slice (some ⟨c,0,none⟩) 2 2∧W.heap[c]? = some (.cells CP 31 (0,0))
 | 7=>d 9=true∨∃ s c,v=bP kT (jq s c)∧W.heap[s]? = some (.cells (pg 1 2) 27 (0,0))∧W.heap[c]? = some (.cells CP 31 (0,0))
 | 8=>∃ b,v = .pointer (some ⟨b,0,none⟩)∧lo≤b∧(d 9=false→W.heap[b]? = some (.cells oJ 31 (0,0)))∧(d 9=true→∃ s c,ky W b s c)
 | _=>True
def g2 (i:Nat) (a:Act) (W W':World):Prop:=(i≠9∧Below W.heap.size W W')∨(i=9∧∀ b,a.tmps.getD 3 undef = .pointer (some ⟨b,0,none⟩)→∃ s c,ky W' b s c)
theorem ma (d:Nat→Bool) (i:Nat):cI d i i=true:=by unfold cI; rw [if_pos rfl]
theorem fb {d:Nat→Bool} {i k:Nat} (h:i≠k):cI d i k=d k:=by unfold cI; rw [if_neg (Ne.symm h)]
theorem Iy (lo:Nat):∀ d (a:Act) i j W W' v,j≠i→d i=false→(∀ o t,(tT Tryz.f22 2)[j]? = some o→o.dst=some t→v=a.tmps.getD t undef)→f2 lo d j W v→g2 i a W W'→f2 lo (cI d i) j W' v:=by
 intro d a i j W W' v hne hd hv h hg;rcases hg with ⟨h9,hb⟩ | ⟨rfl,hg⟩
 ·match j,h with
  | 0,h=>exact h
  | 1,h=>exact h
  | 2,h =>
   rcases h with h | ⟨s,e,h⟩
   ·exact .inl (by rw [fb h9]; exact h)
   ·exact .inr ⟨s,e,(hb.block s (ae h)).trans h⟩
  | 3,h =>
   rcases h with h | ⟨s,e,h⟩
   ·exact .inl (by rw [fb h9]; exact h)
   ·exact .inr ⟨s,e,(hb.block s (ae h)).trans h⟩
  | 6,h =>
   rcases h with h | ⟨s,e,h⟩
   ·exact .inl (by rw [fb h9]; exact h)
   ·exact .inr ⟨s,e,(hb.block s (ae h)).trans h⟩
  | 4,h=>exact h
  | 5,h=>exact h
  | 7,h =>
   rcases h with h | ⟨s,c,e,h,h'⟩
   ·exact .inl (by rw [fb h9]; exact h)
   ·exact .inr ⟨s,c,e,(hb.block s (ae h)).trans h,(hb.block c (ae h')).trans h'⟩
  | 8,h =>
   obtain ⟨b,e,hl,h1,h2⟩:=h;refine ⟨b,e,hl,fun h=>?_,fun h=>?_⟩
   ·rw [fb h9] at h;exact (hb.block b (ae (h1 h))).trans (h1 h)
   ·rw [fb h9] at h;obtain ⟨s,c,J⟩:=h2 h;exact ⟨s,c,J.next hb⟩
  | _+9,h=>exact trivial
 ·match j,h with
  | 0,h=>exact h
  | 1,h=>exact h
  | 2,h=>exact .inl (ma d 9)
  | 3,h=>exact .inl (ma d 9)
  | 4,h=>exact h
  | 5,h=>exact h
  | 6,h=>exact .inl (ma d 9)
  | 7,h=>exact .inl (ma d 9)
  | 8,h =>
   obtain ⟨b,e,hl,h1,h2⟩:=h;refine ⟨b,e,hl,fun h=>?_,fun _=>hg b ?_⟩
   ·rw [ma] at h;cases h
   ·rw [← e];exact (hv _ 3 rfl rfl).symm
  | _+9,h=>exact trivial
theorem Li {Q:Exit→Act→World→Prop} {b2:Nat} (a:Act) (w:World) (hsz:a.tmps.size=20) (h2:a.tmps.getD 2 undef = .pointer (some ⟨b2,0,none⟩)) (E2:oZ w b2 (et 0) pO)
  (fin:∀ a' w' b s c,Below w.heap.size w w'→Same (tT Tryz.f22 2) a a'→a'.tmps.getD 3 undef = .pointer (some ⟨b,0,none⟩)→w.heap.size≤b→ky w' b s c→Q .normal a' w'):(Code.region 2 (tT Tryz.f22 2) true).wp Tryz.prog Q a w:=by
 have HC:∀ {W W':World},Below w.heap.size w W→Below W.heap.size W W'→Below w.heap.size w W':=fun h h'=>chain h h'
 have HG:∀ {i:Nat} {a':Act} {W W':World},i≠9→Below W.heap.size W W'→g2 i a' W W':=fun h h'=>.inl ⟨h,h'⟩
 refine gu (by kernel_rfl) (fun W=>Below w.heap.size w W) (f2 w.heap.size) g2 (Iy _) (by rw [hsz]; kernel_rfl) (Nk _ _).drew ?_ ?_
 ·refine ⟨?_,?_,?_,?_,?_,?_,?_,?_,?_,?_,trivial⟩
  ·refine hU rfl rfl fun d a' W hc hs hd _ hf=>⟨46,#[.int .i64 1],?_,(xn 1 W).mono fun e w' ⟨he,hb⟩=>⟨_,he,HC hc hb,HG (by decide) hb,rfl⟩⟩
   simp only [execOp,Act.eval,resolve,NM,NO,NS];rfl
  ·refine hU rfl rfl fun d a' W hc hs hd _ hf=>⟨46,#[.int .i64 2],?_,(xn 2 W).mono fun e w' ⟨he,hb⟩=>⟨_,he,HC hc hb,HG (by decide) hb,rfl⟩⟩
   simp only [execOp,Act.eval,resolve,NM,NO,NS];rfl
  ·refine bu rfl rfl fun d a' W hc hs hd hcl hf=>?_
   have k1:a'.tmps.getD 5 undef=_:=bM hf (j:=0) (t:=5) (by kernel_rfl);have k2:a'.tmps.getD 6 undef=_:=bM hf (j:=1) (t:=6) (by kernel_rfl);refine ⟨.slice (some ⟨W.heap.size,0,none⟩) 2 2,W.alloc (.cells (pg 1 2) 27),?_,HC hc ((Nk _ _).alloc (Nj _) _),HG (by decide) ((Nk _ _).alloc (Nj _) _),.inr ⟨_,rfl,aw W (pg 1 2) 27⟩⟩;simp only [execOp,Act.eval,k1,k2,NM,NO,NS];clear hf hcl hs fin HC HG;clear k1 k2;go_simp
  ·refine bu rfl rfl fun d a' W hc hs hd hcl hf=>?_
   have d9:d 9=false:=hcl.not hd (k:=9) rfl (by kernel_rfl);obtain ⟨s,k,H⟩:=(bM hf (j:=2) (t:=7) (by kernel_rfl)).resolve_left (by rw [d9]; decide);refine ⟨.agg #[.int .i64 6,.int .i64 0,.int .i64 0,.string ⟨#[]⟩,.int .i64 0,.slice (some ⟨s,0,none⟩) 2 2],W,?_,hc,HG (by decide) (Nk _ _),.inr ⟨s,rfl,H⟩⟩;simp only [execOp,Act.eval,k,NM,NO,NS];clear hf hcl hs fin HC HG;clear k H;go_simp
  ·refine bu rfl rfl fun d a' W hc hs hd hcl hf=>?_
   refine ⟨bP (et 1) pO,W,?_,hc,HG (by decide) (Nk _ _),rfl⟩;simp only [execOp,Act.eval,NM,NO,NS];clear hf hcl hs fin HC HG;rw [Lp];go_simp
  ·refine bu rfl rfl fun d a' W hc hs hd hcl hf=>?_
   have h:a'.tmps.getD 2 undef=_:=(hs.tmps 2 (by kernel_rfl)).trans h2;obtain ⟨y0,y1,⟨y2,y3,y4,y5,y6,y7⟩,y8,y9,y10⟩:=(E2.next hc).el;simp only [Np] at y1 y2 y3 y4 y5 y6 y7 y8 y9 y10;refine ⟨bP (et 0) pO,W,?_,hc,HG (by decide) (Nk _ _),rfl⟩;simp only [execOp,Act.eval,h];clear hf hcl hs fin HC HG h;unfold bP;go_simp
  ·refine bu rfl rfl fun d a' W hc hs hd hcl hf=>?_
   have k1:a'.tmps.getD 9 undef=_:=bM hf (j:=4) (t:=9) (by kernel_rfl);have k2:a'.tmps.getD 10 undef=_:=bM hf (j:=5) (t:=10) (by kernel_rfl);rw [Lp] at k1 k2;refine ⟨.slice (some ⟨W.heap.size,0,none⟩) 2 2,W.alloc (.cells CP 31),?_,HC hc ((Nk _ _).alloc (Nj _) _),HG (by decide) ((Nk _ _).alloc (Nj _) _),.inr ⟨_,rfl,aw W CP 31⟩⟩;simp only [execOp,Act.eval,k1,k2,NM,NO,NS];clear hf hcl hs fin HC HG;clear k1 k2;go_simp
  ·refine bu rfl rfl fun d a' W hc hs hd hcl hf=>?_
   have d9:d 9=false:=hcl.not hd (k:=9) rfl (by kernel_rfl);obtain ⟨s,k,H⟩:=(bM hf (j:=3) (t:=8) (by kernel_rfl)).resolve_left (by rw [d9]; decide);obtain ⟨c,k2,H2⟩:=(bM hf (j:=6) (t:=11) (by kernel_rfl)).resolve_left (by rw [d9]; decide);refine ⟨bP kT (jq s c),W,?_,hc,HG (by decide) (Nk _ _),.inr ⟨s,c,rfl,H,H2⟩⟩;simp only [execOp,Act.eval,k,k2,NM,NO,NS];clear hf hcl hs fin HC HG;clear k k2 H H2;rw [MQ];go_simp
  ·refine bu rfl rfl fun d a' W hc hs hd hcl hf=>?_
   have d9:d 9=false:=hcl.not hd (k:=9) rfl (by kernel_rfl);refine ⟨.pointer (some ⟨W.heap.size,0,none⟩),W.alloc (.cells oJ 31),?_,HC hc ((Nk _ _).alloc (Nj _) _),HG (by decide) ((Nk _ _).alloc (Nj _) _),⟨_,rfl,hc.size,fun _=>aw W oJ 31,fun h=>by rw [fb (by decide),d9] at h; cases h⟩⟩;simp only [execOp];clear hf hcl hs fin HC HG;clear d9;go_simp
  ·intro d a' W hc hs hd hcl hf;obtain ⟨s,c,e7,H1,H2⟩:=(bM hf (j:=7) (t:=12) (by kernel_rfl)).resolve_left (by rw [hd]; decide);obtain ⟨b,e8,hl,hz,_⟩:=bM hf (j:=8) (t:=3) (by kernel_rfl);have H:=hz hd;have n1:s≠b:=gP H H1 (.inl (by decide));have n2:c≠b:=gP H H2 (.inr (by decide));refine rR rfl rfl ?_;refine wp_store_mid 31 (.tmp 3) (.tmp 12) rfl b 0 (xE kT (jq s c)) e8 e7 (show W.there b 0 11 from mC H) (by kernel_rfl) (by kernel_rfl) ?_;have X:=iX b (xE kT (jq s c)).toList 0 W
   refine ⟨undef,rfl,hc.trans (X.below hl),.inr ⟨rfl,fun b' e'=>?_⟩,trivial⟩;rw [e8] at e';have e':b=b':=by injection e' with e'; injection e' with e'; injection e'
   subst e';exact ⟨s,c,(X.2 s (ae H1) n1).trans H1,(X.2 c (ae H2) n2).trans H2,tD (World.rangeAt_setCells_same _ _ _ _ (show W.there b 0 11 from mC H))⟩
 ·intro d a' w' hc hs hall hf;obtain ⟨b,e,hl,_,hj⟩:=hf 8 (of_decide_eq_true (by kernel_rfl)) _ 3 rfl rfl;obtain ⟨s,c,J⟩:=hj (hall 9 (of_decide_eq_true (by kernel_rfl)));exact fin a' w' b s c hc hs e hl J
structure nO (b0 b1:Nat) (w W:World):Prop where
 os:W.os=w.os
 tape:W.tape=w.tape
 output:W.output=w.output
 size:w.heap.size≤W.heap.size
 bm:∀ k,k<w.heap.size→k≠b0→k≠b1→W.heap[k]? = w.heap[k]?
 t0:W.there b0 0 11
 t1:W.there b1 0 11
theorem xS {W W':World} {b n:Nat} (h:W.there b 0 n) (hb:Below W.heap.size W W'):W'.there b 0 n:=fun j hj=>by
 have hl:b<W.heap.size:=by
  obtain ⟨v,hv⟩:=Option.isSome_iff_exists.1 (h j hj).1;exact Nt _ _ hv
 refine ⟨?_,?_⟩
 ·rw [hb.cell (p:=⟨b,_,none⟩) hl];exact (h j hj).1
 ·have:=(h j hj).2;unfold World.frozen? at *;rw [hb.block b hl];exact this
theorem nO.next {b0 b1:Nat} {w W W':World} (h:nO b0 b1 w W) (hb:Below W.heap.size W W'):nO b0 b1 w W' :=
 ⟨hb.os.trans h.os,hb.tape.trans h.tape,hb.output.trans h.output,Nw h.size hb.size,fun k hk h0 h1=>(hb.block k (Nn hk h.size)).trans (h.bm k hk h0 h1),xS h.t0 hb,xS h.t1 hb⟩
theorem nO.put {b0 b1 b:Nat} {w W:World} (h:nO b0 b1 w W) (hb:b=b0∨b=b1) (vs:List Value):nO b0 b1 w (W.setCells b 0 vs) :=
 have X:=iX b vs 0 W
 ⟨X.1.os.trans h.os,X.1.tape.trans h.tape,X.1.output.trans h.output,Nw h.size X.1.size,fun k hk h0 h1=>(X.2 k (Nn hk h.size) (by rcases hb with rfl | rfl <;> assumption)).trans (h.bm k hk h0 h1),World.there_setCells h.t0 _ _ _,World.there_setCells h.t1 _ _ _⟩
theorem nO.el {b0 b1 b:Nat} {w W:World} {p:Pl} {q:Pw} (h:nO b0 b1 w W) (E:oZ w b p q) (h0:b≠b0) (h1:b≠b1):oZ W b p q:=by
 have hc:∀ o,W.cell? ⟨b,o,none⟩=w.cell? ⟨b,o,none⟩:=fun o=>NA (w:=w) (a:=⟨b,o,none⟩) (h.bm b E.lt h0 h1)
 obtain ⟨y0,y1,⟨y2,y3,y4,y5,y6,y7⟩,y8,y9,y10⟩:=E.el;exact ⟨⟨(hc _).trans y0,(hc _).trans y1,⟨(hc _).trans y2,(hc _).trans y3,(hc _).trans y4,(hc _).trans y5,(hc _).trans y6,(hc _).trans y7⟩,(hc _).trans y8,(hc _).trans y9,(hc _).trans y10⟩,Nn E.lt h.size⟩
def f3 (lo b0 b1 s c:Nat) (d:Nat→Bool) (k:Nat) (W:World) (v:Value):Prop:=match k with
 | 0=>v=bP (et 0) pO∧(d 7=true→W.rangeAt b0 0 (xE (et 0) pO).toList)
 | 1=>v = .agg (CV 0)
 | 2=>v = .agg (CV 3)
 | 3=>∃ s',v = .slice (some ⟨s',0,none⟩) 2 2∧lo≤s'∧W.heap[s']? = some (.cells (pg 0 3) 27 (0,0))
 | 4=>v=bP kT (jq s c)
 | 5=>∃ c',v = .slice (some ⟨c',0,none⟩) 1 1∧lo≤c'∧W.heap[c']? = some (.cells (xE kT (jq s c)) 31 (0,0))
 | 6=>∃ s' c',v=bP gw (sq s' c')∧lo≤s'∧lo≤c'∧W.heap[s']? = some (.cells (pg 0 3) 27 (0,0))∧W.heap[c']? = some (.cells (xE kT (jq s c)) 31 (0,0))∧(d 8=true→W.rangeAt b1 0 (xE gw (sq s' c')).toList)
 | _=>True
def g3 (b0 b1 i:Nat) (a:Act) (W W':World):Prop:=(i≠7∧i≠8∧Below W.heap.size W W')∨(i=7∧W.there b0 0 11∧W'=W.setCells b0 0 (xE (et 0) pO).toList)∨(i=8∧W.there b1 0 11∧∃ vs,a.tmps.getD 19 undef = .agg vs∧W'=W.setCells b1 0 vs.toList∧vs.size=11)
theorem yQ {W W':World} {b:Nat} {cs:List Value} (h:W.rangeAt b 0 cs) (hb:Below W.heap.size W W'):W'.rangeAt b 0 cs:=fun j v hv=>(hb.cell (p:=⟨b,_,none⟩) (Nt _ _ (h j v hv))).trans (h j v hv)
theorem JH {lo b0 b1:Nat} (s c:Nat) (l0:b0<lo) (l1:b1<lo) (ne:b0≠b1):∀ d (a:Act) i j W W' v,j≠i→d i=false→(∀ o t,(tT Tryz.f22 3)[j]? = some o→o.dst=some t→v=a.tmps.getD t undef)→f3 lo b0 b1 s c d j W v→g3 b0 b1 i a W W'→f3 lo b0 b1 s c (cI d i) j W' v:=by
 intro d a i j W W' v hne hd hv h hg;rcases hg with ⟨n7,n8,hb⟩ | ⟨rfl,ht,rfl⟩ | ⟨rfl,ht,vs,ev,rfl,hsz⟩
 ·match j,h with
  | 0,h=>exact ⟨h.1,fun k=>yQ (h.2 (by rw [fb n7] at k; exact k)) hb⟩
  | 1,h=>exact h
  | 2,h=>exact h
  | 3,h =>
   obtain ⟨x,e,hl,h⟩:=h;exact ⟨x,e,hl,(hb.block x (ae h)).trans h⟩
  | 4,h=>exact h
  | 5,h =>
   obtain ⟨x,e,hl,h⟩:=h;exact ⟨x,e,hl,(hb.block x (ae h)).trans h⟩
  | 6,h =>
   obtain ⟨x,y,e,hl,hl',h,h',k⟩:=h;exact ⟨x,y,e,hl,hl',(hb.block x (ae h)).trans h,(hb.block y (ae h')).trans h',fun m=>yQ (k (by rw [fb n8] at m; exact m)) hb⟩
  | _+7,h=>exact trivial
 ·have X:=iX b0 (xE (et 0) pO).toList 0 W
  match j,h with
  | 0,h=>exact ⟨h.1,fun _=>World.rangeAt_setCells_same _ _ _ _ ht⟩
  | 1,h=>exact h
  | 2,h=>exact h
  | 3,h =>
   obtain ⟨x,e,hl,h⟩:=h;exact ⟨x,e,hl,(X.2 x (ae h) (by omega)).trans h⟩
  | 4,h=>exact h
  | 5,h =>
   obtain ⟨x,e,hl,h⟩:=h;exact ⟨x,e,hl,(X.2 x (ae h) (by omega)).trans h⟩
  | 6,h =>
   obtain ⟨x,y,e,hl,hl',h,h',k⟩:=h;exact ⟨x,y,e,hl,hl',(X.2 x (ae h) (by omega)).trans h,(X.2 y (ae h') (by omega)).trans h',fun m=>World.rangeAt_setCells_apart (k (by rw [fb (by decide)] at m; exact m)) _ _ _ (.inl (Ne.symm ne))⟩
  | _+7,h=>exact trivial
 ·have X:=iX b1 vs.toList 0 W
  match j,h with
  | 0,h=>exact ⟨h.1,fun m=>World.rangeAt_setCells_apart (h.2 (by rw [fb (by decide)] at m; exact m)) _ _ _ (.inl ne)⟩
  | 1,h=>exact h
  | 2,h=>exact h
  | 3,h =>
   obtain ⟨x,e,hl,h⟩:=h;exact ⟨x,e,hl,(X.2 x (ae h) (by omega)).trans h⟩
  | 4,h=>exact h
  | 5,h =>
   obtain ⟨x,e,hl,h⟩:=h;exact ⟨x,e,hl,(X.2 x (ae h) (by omega)).trans h⟩
  | 6,h =>
   obtain ⟨x,y,e,hl,hl',h,h',k⟩:=h;refine ⟨x,y,e,hl,hl',(X.2 x (ae h) (by omega)).trans h,(X.2 y (ae h') (by omega)).trans h',fun _=>?_⟩;have e2:=hv _ 19 rfl rfl;rw [e,ev] at e2;have e2:xE gw (sq x y)=vs:=by injection e2
   rw [e2];exact World.rangeAt_setCells_same _ _ _ _ (by rw [Array.length_toList,hsz]; exact ht)
  | _+7,h=>exact trivial
theorem LA {Q:Exit→Act→World→Prop} {b0 b1 b2 b3 s c:Nat} (a:Act) (w:World) (hsz:a.tmps.size=20) (h0:a.tmps.getD 0 undef = .pointer (some ⟨b0,0,none⟩)) (h1:a.tmps.getD 1 undef = .pointer (some ⟨b1,0,none⟩)) (h2:a.tmps.getD 2 undef = .pointer (some ⟨b2,0,none⟩)) (h3:a.tmps.getD 3 undef = .pointer (some ⟨b3,0,none⟩))
  (Z0:w.heap[b0]? = some (.cells oJ 31 (0,0))) (Z1:w.heap[b1]? = some (.cells oJ 31 (0,0))) (ne:b0≠b1) (E2:oZ w b2 (et 0) pO) (n20:b2≠b0) (n21:b2≠b1) (J:ky w b3 s c) (n30:b3≠b0) (n31:b3≠b1)
  (fin:∀ a' w' s' c',nO b0 b1 w w'→Same (tT Tryz.f22 3) a a'→oZ w' b0 (et 0) pO→oZ w' b1 gw (sq s' c')→pM w' gw (sq s' c')→Q .normal a' w'):(Code.region 3 (tT Tryz.f22 3) true).wp Tryz.prog Q a w:=by
 have HC:∀ {W W':World},nO b0 b1 w W→Below W.heap.size W W'→nO b0 b1 w W':=fun h h'=>h.next h'
 have HG:∀ {i:Nat} {a':Act} {W W':World},i≠7→i≠8→Below W.heap.size W W'→g3 b0 b1 i a' W W':=fun h h8 h'=>.inl ⟨h,h8,h'⟩
 have C0:nO b0 b1 w w.drew:=nO.next ⟨rfl,rfl,rfl,Nj _,fun _ _ _ _=>rfl,mC Z0,mC Z1⟩ (Nk _ _).drew;refine gu (by kernel_rfl) (fun W=>nO b0 b1 w W) (f3 w.heap.size b0 b1 s c) (g3 b0 b1) (JH s c (ae Z0) (ae Z1) ne) (by rw [hsz]; kernel_rfl) C0 ?_ ?_
 ·refine ⟨?_,?_,?_,?_,?_,?_,?_,?_,?_,trivial⟩
  ·refine bu rfl rfl fun d a' W hc hs hd hcl hf=>?_
   have h:a'.tmps.getD 2 undef=_:=(hs.tmps 2 (by kernel_rfl)).trans h2;obtain ⟨y0,y1,⟨y2,y3,y4,y5,y6,y7⟩,y8,y9,y10⟩:=(hc.el E2 n20 n21).el;simp only [Np] at y1 y2 y3 y4 y5 y6 y7 y8 y9 y10;have d7:d 7=false:=hcl.not hd (k:=7) rfl (by kernel_rfl);refine ⟨bP (et 0) pO,W,?_,hc,HG (by decide) (by decide) (Nk _ _),⟨rfl,fun m=>by rw [fb (by decide),d7] at m; cases m⟩⟩;simp only [execOp,Act.eval,h];clear d7 hf hcl hs fin HC HG h;unfold bP;go_simp
  ·refine hU rfl rfl fun d a' W hc hs hd _ hf=>⟨46,#[.int .i64 0],?_,(xn 0 W).mono fun e w' ⟨he,hb⟩=>⟨_,he,HC hc hb,HG (by decide) (by decide) hb,rfl⟩⟩
   simp only [execOp,Act.eval,resolve,NM,NO,NS];rfl
  ·refine hU rfl rfl fun d a' W hc hs hd _ hf=>⟨46,#[.int .i64 3],?_,(xn 3 W).mono fun e w' ⟨he,hb⟩=>⟨_,he,HC hc hb,HG (by decide) (by decide) hb,rfl⟩⟩
   simp only [execOp,Act.eval,resolve,NM,NO,NS];rfl
  ·refine bu rfl rfl fun d a' W hc hs hd hcl hf=>?_
   have k1:a'.tmps.getD 14 undef=_:=bM hf (j:=1) (t:=14) (by kernel_rfl);have k2:a'.tmps.getD 15 undef=_:=bM hf (j:=2) (t:=15) (by kernel_rfl);refine ⟨.slice (some ⟨W.heap.size,0,none⟩) 2 2,W.alloc (.cells (pg 0 3) 27),?_,HC hc ((Nk _ _).alloc (Nj _) _),HG (by decide) (by decide) ((Nk _ _).alloc (Nj _) _),⟨_,rfl,hc.size,aw W (pg 0 3) 27⟩⟩;simp only [execOp,Act.eval,k1,k2,NM,NO,NS];clear hf hcl hs fin HC HG;clear k1 k2;go_simp
  ·refine bu rfl rfl fun d a' W hc hs hd hcl hf=>?_
   have h:a'.tmps.getD 3 undef=_:=(hs.tmps 3 (by kernel_rfl)).trans h3;obtain ⟨y0,y1,⟨y2,y3,y4,y5,y6,y7⟩,y8,y9,y10⟩:=(hc.el J.el n30 n31).el;simp only [Np] at y1 y2 y3 y4 y5 y6 y7 y8 y9 y10;refine ⟨bP kT (jq s c),W,?_,hc,HG (by decide) (by decide) (Nk _ _),rfl⟩;simp only [execOp,Act.eval,h];clear hf hcl hs fin HC HG h;unfold bP;go_simp
  ·refine bu rfl rfl fun d a' W hc hs hd hcl hf=>?_
   have k1:a'.tmps.getD 17 undef=_:=bM hf (j:=4) (t:=17) (by kernel_rfl);refine ⟨.slice (some ⟨W.heap.size,0,none⟩) 1 1,W.alloc (.cells (xE kT (jq s c)) 31),?_,HC hc ((Nk _ _).alloc (Nj _) _),HG (by decide) (by decide) ((Nk _ _).alloc (Nj _) _),⟨_,rfl,hc.size,aw W (xE kT (jq s c)) 31⟩⟩;simp only [execOp,Act.eval,k1,NM,NO,NS];clear hf hcl hs fin HC HG;clear k1;unfold bP;go_simp
  ·refine bu rfl rfl fun d a' W hc hs hd hcl hf=>?_
   have d8:d 8=false:=hcl.not hd (k:=8) rfl (by kernel_rfl);obtain ⟨s',k1,l1,H1⟩:=bM hf (j:=3) (t:=16) (by kernel_rfl);obtain ⟨c',k2,l2,H2⟩:=bM hf (j:=5) (t:=18) (by kernel_rfl);refine ⟨bP gw (sq s' c'),W,?_,hc,HG (by decide) (by decide) (Nk _ _),⟨s',c',rfl,l1,l2,H1,H2,fun m=>by rw [fb (by decide),d8] at m; cases m⟩⟩;simp only [execOp,Act.eval,k1,k2,NM,NO,NS];clear hf hcl hs fin HC HG;clear k1 k2 d8 H1 H2;rw [Ml];go_simp
  ·intro d a' W hc hs hd hcl hf;have e1:a'.tmps.getD 0 undef=_:=(hs.tmps 0 (by kernel_rfl)).trans h0;have e2:a'.tmps.getD 13 undef=_:=(bM hf (j:=0) (t:=13) (by kernel_rfl)).1;refine rR rfl rfl ?_;refine wp_store_mid 31 (.tmp 0) (.tmp 13) rfl b0 0 (xE (et 0) pO) e1 e2 hc.t0 (by kernel_rfl) (by kernel_rfl) ?_;exact ⟨undef,rfl,hc.put (.inl rfl) _,.inr (.inl ⟨rfl,hc.t0,rfl⟩),trivial⟩
  ·intro d a' W hc hs hd hcl hf;have e1:a'.tmps.getD 1 undef=_:=(hs.tmps 1 (by kernel_rfl)).trans h1;obtain ⟨s',c',e2,_⟩:=bM hf (j:=6) (t:=19) (by kernel_rfl);refine rR rfl rfl ?_;refine wp_store_mid 31 (.tmp 1) (.tmp 19) rfl b1 0 (xE gw (sq s' c')) e1 e2 hc.t1 (by kernel_rfl) (by kernel_rfl) ?_;exact ⟨undef,rfl,hc.put (.inr rfl) _,.inr (.inr ⟨rfl,hc.t1,_,e2,rfl,rfl⟩),trivial⟩
 ·intro d a' w' hc hs hall hf;obtain ⟨_,r0⟩:=hf 0 (of_decide_eq_true (by kernel_rfl)) _ 13 rfl rfl;obtain ⟨s',c',_,_,_,H1,H2,r1⟩:=hf 6 (of_decide_eq_true (by kernel_rfl)) _ 19 rfl rfl;have ns0:s≠b0:=gP Z0 J.hs (.inl (by decide));have ns1:s≠b1:=gP Z1 J.hs (.inl (by decide));have nc0:c≠b0:=gP Z0 J.hc (.inr (by decide));have nc1:c≠b1:=gP Z1 J.hc (.inr (by decide));have jx:pM w' kT (jq s c):=xN ((hc.bm s (ae J.hs) ns0 ns1).trans J.hs) ((hc.bm c (ae J.hc) nc0 nc1).trans J.hc)
  exact fin a' w' s' c' hc hs (tD (r0 (hall 7 (of_decide_eq_true (by kernel_rfl))))) (tD (r1 (hall 8 (of_decide_eq_true (by kernel_rfl))))) (F5 H1 H2 jx)
end Go.Proofs.YtohjlfhmnmcndaaGreat
