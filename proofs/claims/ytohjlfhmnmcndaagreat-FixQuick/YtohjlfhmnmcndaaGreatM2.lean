/- Together: Y1, Y2, Z4, J1, P1, Z5, Z6, Z7, Z8. -/
import Derived.Shelf.Abstract
import Derived.Laws.AppendOwnNone
import Derived.Shelf.SlSortCmp.WholeK
import Derived.Shelf.Lay
import Derived.Ground.SlsfProg
import Derived.Deep.Slices
import Derived.Test.YtohjlfhmnmcndaaGreatM1
import Derived.Test.YtohjlfhmnmcndaaGreatM0
namespace Go.Proofs.YtohjlfhmnmcndaaGreat
open Go.RowKit
set_option maxRecDepth 100000
set_option maxHeartbeats 16000000
abbrev ig (x:Ex) (a:Option Addr) (c:Nat):Array Value:=#[.int .i64 x.k,.int .i64 x.v.1,.int .i64 x.v.2.1,.string x.v.2.2,.int .i64 x.c,.slice a x.ks.length c]
abbrev lC (k:Int) (v:Vl) (c:Int) (a:Option Addr) (n cap:Nat):Value :=
 .agg #[.int .i64 k,.int .i64 v.1,.int .i64 v.2.1,.string v.2.2,.int .i64 c,.slice a n cap]
abbrev fW (v:Vl):Value:=.agg #[.int .i64 v.1,.int .i64 v.2.1,.string v.2.2]
theorem DV (k:Int) (w:World) :
  Calls Tryz.prog 242 #[.int .i64 k] w fun e w'=>e = .returned (.int .i64 (cK k:Nat))∧Below w.heap.size w w':=by
 unfold cK;by_cases h1:k=1
 ·subst h1; go_enter Tryz.func242,Tryz.ntmps242; go_wp2_with fail; go_ret; exact ⟨rfl,Nk _ _⟩
 by_cases h2:k=2
 ·subst h2; go_enter Tryz.func242,Tryz.ntmps242; go_wp2_with fail; go_ret; exact ⟨rfl,Nk _ _⟩
 by_cases h3:k=3
 ·subst h3; go_enter Tryz.func242,Tryz.ntmps242; go_wp2_with fail; go_ret; exact ⟨rfl,Nk _ _⟩
 by_cases h4:k=16
 ·subst h4; go_enter Tryz.func242,Tryz.ntmps242; go_wp2_with fail; go_ret; exact ⟨rfl,Nk _ _⟩
 by_cases h5:k=17
 ·subst h5; go_enter Tryz.func242,Tryz.ntmps242; go_wp2_with fail; go_ret; exact ⟨rfl,Nk _ _⟩
 rw [if_neg (by omega),if_neg (by omega),if_neg (by omega)];have q1:(k == 1)=false:=by simpa using h1
 have q2:(k == 2)=false:=by simpa using h2
 have q3:(k == 3)=false:=by simpa using h3
 have q4:(k == 16)=false:=by simpa using h4
 have q5:(k == 17)=false:=by simpa using h5
 go_enter Tryz.func242,Tryz.ntmps242;go_wp2
 go_ret;exact ⟨rfl,Nk _ _⟩
def bI (a b:Int):Int × Int:=bU (gE a b)
theorem LP (a:Int):bI a a=(a,0):=by simp [bI,gE,bU]
theorem LL (a:Int):bI a 1=(a,0):=by simp [bI,gE,bU]
theorem Lk {b:Int} (h:¬ b=1):bI 1 b=(b,0):=by
 have h':¬ 1=b:=fun e=>h e.symm
 simp [bI,gE,bU,h,h']
theorem Lj {a b:Int} (h1:¬ a=b) (h2:¬ b=1) (h3:¬ a=1):bI a b=(0,9):=by simp [bI,gE,bU,h1,h2,h3]
theorem cA (a b:Int) (w:World) :
  Calls Tryz.prog 173 #[.int .i64 a,.int .i64 b] w fun e w'=>e = .returned (.tuple #[.int .i64 (bI a b).1,.int .i64 (bI a b).2])∧Below w.heap.size w w':=by
 by_cases h1:a=b
 ·subst h1;rw [LP];go_enter Tryz.func173,Tryz.ntmps173;go_wp2
  exact Nl (v:=.tuple #[.int .i64 a,.int .i64 0]) (by simp [results,Tryz.results173,go_sem]) rfl ⟨rfl,Nk _ _⟩
 have q1:(a == b)=false:=by simpa using h1
 by_cases h2:b=1
 ·subst h2;rw [LL];go_enter Tryz.func173,Tryz.ntmps173;go_wp2
  exact Nl (v:=.tuple #[.int .i64 a,.int .i64 0]) (by simp [results,Tryz.results173,go_sem]) rfl ⟨rfl,Nk _ _⟩
 have q2:(b == 1)=false:=by simpa using h2
 by_cases h3:a=1
 ·subst h3;rw [Lk h2];go_enter Tryz.func173,Tryz.ntmps173;go_wp2
  exact Nl (v:=.tuple #[.int .i64 b,.int .i64 0]) (by simp [results,Tryz.results173,go_sem]) rfl ⟨rfl,Nk _ _⟩
 have q3:(a == 1)=false:=by simpa using h3
 rw [Lj h1 h2 h3];go_enter Tryz.func173,Tryz.ntmps173;go_wp2
 exact Nl (v:=.tuple #[.int .i64 0,.int .i64 9]) (by simp [results,Tryz.results173,go_sem]) rfl ⟨rfl,Nk _ _⟩
theorem pJ (k n:Int) (s:ByteArray) (w:World) :
  Calls Tryz.prog 208 #[.agg #[.int .i64 k,.int .i64 n,.string s]] w fun e w'=>e = .returned (.bool (k == 1))∧Below w.heap.size w w':=by
 go_enter Tryz.func208,Tryz.ntmps208;go_wp2
 go_ret;exact ⟨rfl,((Nk _ _).alloc (Nj _) _)⟩
structure mb (W:World) (b off:Nat) (k:Int) (v:Vl) (c:Int) (a:Option Addr) (n cap:Nat):Prop where
 c0:W.cell? ⟨b,off,none⟩=some (.int .i64 k)
 c1:W.cell? ⟨b,off+1,none⟩=some (.int .i64 v.1)
 c2:W.cell? ⟨b,off+2,none⟩=some (.int .i64 v.2.1)
 c3:W.cell? ⟨b,off+3,none⟩=some (.string v.2.2)
 c4:W.cell? ⟨b,off+4,none⟩=some (.int .i64 c)
 c5:W.cell? ⟨b,off+5,none⟩=some (.slice a n cap)
theorem mb.next {W w1:World} {B b off:Nat} {k:Int} {v:Vl} {c:Int} {a:Option Addr} {n cap:Nat} (h:mb W b off k v c a n cap) (hb:Below B W w1) (hB:b<B):mb w1 b off k v c a n cap :=
 ⟨(hb.cell (p:=⟨b,_,none⟩) hB).trans h.c0,(hb.cell (p:=⟨b,_,none⟩) hB).trans h.c1,(hb.cell (p:=⟨b,_,none⟩) hB).trans h.c2,(hb.cell (p:=⟨b,_,none⟩) hB).trans h.c3,(hb.cell (p:=⟨b,_,none⟩) hB).trans h.c4,(hb.cell (p:=⟨b,_,none⟩) hB).trans h.c5⟩
theorem mb.new (w:World) (k:Int) (v:Vl) (c:Int) (a:Option Addr) (n cap t:Nat):mb (w.alloc (.cells #[.int .i64 k,.int .i64 v.1,.int .i64 v.2.1,.string v.2.2,.int .i64 c,.slice a n cap] t)) w.heap.size 0 k v c a n cap :=
 ⟨by simp,by simp,by simp,by simp,by simp,by simp⟩
theorem mS {k:Int} {n:Nat} {m d:Int} (h:200<m∨20<d):eX k n m d=4:=by simp [eX,h]
theorem mX {k:Int} {n:Nat} {m d:Int} (h:¬ 200<m) (h':¬ 20<d) (h2:k<1∨18<k):eX k n m d=1:=by simp [eX,h,h',h2]
theorem sD {k:Int} {n:Nat} {m d:Int} (h:¬ 200<m) (h':¬ 20<d) (h2:¬ k<1) (h3:¬ 18<k) (h4:¬ n=cK k):eX k n m d=5:=by simp [eX,h,h',h2,h3,h4]
theorem zm {k:Int} {n:Nat} {m d:Int} (h:¬ 200<m) (h':¬ 20<d) (h2:¬ k<1) (h3:¬ 18<k) (h4:n=cK k):eX k n m d=0:=by simp [eX,h,h',h2,h3,h4]
theorem wK (k:Int) (v:Vl) (c:Int) (a:Option Addr) (n cap:Nat) (m d:Int) (w:World) :
  Calls Tryz.prog 223 #[lC k v c a n cap,.int .i64 m,.int .i64 d] w fun e w'=>e = .returned (.int .i64 (eX k n m d))∧Below w.heap.size w w':=by
 by_cases h1:200<m;rw [mS (.inl h1)];rotate_left;by_cases h2:20<d;rw [mS (.inr h2)];rotate_left;by_cases h3:k<1;rw [mX h1 h2 (.inl h3)];rotate_left;by_cases h4:18<k;rw [mX h1 h2 (.inr h4)];rotate_left;obtain ⟨q,hq,hn⟩:∃ q:Bool,((n:Int) != ((cK k:Nat):Int))=q∧eX k n m d=if q then 5 else 0:=by
  by_cases h5:n=cK k
  ·exact ⟨false,by simp [h5],by rw [zm h1 h2 h3 h4 h5]; rfl⟩
  ·exact ⟨true,by simp; omega,by rw [sD h1 h2 h3 h4 h5]; rfl⟩
 rw [hn];clear hn;go_enter Tryz.func223,Tryz.ntmps223;go_wp2_with fail
 have hA:Below w.heap.size w (w.alloc (.cells #[.int .i64 k,.int .i64 v.1,.int .i64 v.2.1,.string v.2.2,.int .i64 c,.slice a n cap] 27)):=((Nk _ _).alloc (Nj _) _)
 have S:=mb.new w k v c a n cap 27;generalize w.alloc (.cells #[.int .i64 k,.int .i64 v.1,.int .i64 v.2.1,.string v.2.2,.int .i64 c,.slice a n cap] 27)=wA at *;have p0:=ag S.c0;have p5:=ag S.c5;simp only [Np] at p5;haveI:Nonempty (bW wA):=⟨⟨_,Nk _ _⟩⟩
 refine aq (by kernel_rfl) (by kernel_rfl) ?_
 repeat (go_big_quiet_step (first | (go_at_call 242; exact bE (DV _ _))))
 refine wpQuiet_nil ?_;rintro w3 ⟨⟨v3,hb3⟩,h3'⟩;obtain rfl:w3=v3:=h3';have hb:=chain hA hb3;clear p0 p5 S hA hb3;cases q
 ·go_wp2
  go_ret;exact ⟨rfl,hb⟩
 ·go_wp2
  go_ret;exact ⟨rfl,hb⟩
 all_goals
  go_enter Tryz.func223,Tryz.ntmps223;go_wp2
  go_ret;exact ⟨rfl,((Nk _ _).alloc (Nj _) _)⟩
def bc (B:Nat) (W:World) (a:Option Addr) (l:List Int):Prop :=
 l.length≤maxLen∧(l = []∨∃ b off,a=some ⟨b,off,none⟩∧b<B∧∀ (i:Nat) (h:i<l.length),W.cell? ⟨b,off+i,none⟩=some (.int .i64 l[i]))
theorem bc.next {B B':Nat} {W w1:World} {a:Option Addr} {l:List Int} (h:bc B W a l) (hb:Below B' W w1) (hB:B≤B'):bc B w1 a l:=by
 obtain ⟨h0,h | ⟨b,off,e,hlt,hr⟩⟩:=h
 ·exact ⟨h0,.inl h⟩
 ·exact ⟨h0,.inr ⟨b,off,e,hlt,fun i hi=>(hb.cell (p:=⟨b,_,none⟩) (Nn hlt hB)).trans (hr i hi)⟩⟩
theorem bc.up {B B':Nat} {W:World} {a:Option Addr} {l:List Int} (h:bc B W a l) (hB:B≤B'):bc B' W a l:=by
 obtain ⟨h0,h | ⟨b,off,e,hlt,hr⟩⟩:=h
 ·exact ⟨h0,.inl h⟩
 ·exact ⟨h0,.inr ⟨b,off,e,Nn hlt hB,hr⟩⟩
theorem bc.elem {B:Nat} {W:World} {a:Option Addr} {l:List Int} (h:bc B W a l) {k:Nat} (hk:k<l.length) :
  ∃ b off,a=some ⟨b,off,none⟩∧b<B∧W.cell? ⟨b,off+k,none⟩=some (.int .i64 l[k]):=by
 obtain ⟨_,h | ⟨b,off,e,hlt,hr⟩⟩:=h
 ·subst h; simp at hk
 ·exact ⟨b,off,e,hlt,hr k hk⟩
theorem Iq (t:Int) (l:List Int) (k:Nat) (h:l.length≤k):cG t (l.drop k)=some t:=by rw [NI h]; simp [cG]
theorem JI (t:Int) (l:List Int) (k:Nat) (h:k<l.length) (e:gE l[k] t=none):cG t (l.drop k)=none:=by
 rw [Nq h,cG,Pc,e]; rfl
theorem E9 (t:Int) (l:List Int) (k:Nat) (h:k<l.length) {u:Int} (e:gE l[k] t=some u):cG t (l.drop k)=cG t (l.drop (k+1)):=by
 rw [Nq h,cG,Pc,e,cG]; rfl
theorem i7 (t:Int) (B:Nat) (a:Option Addr) (cap:Nat) (l:List Int) (w:World) (hB:B≤w.heap.size) (h:bc B w a l) :
  Calls Tryz.prog 243 #[.int .i64 t,.slice a l.length cap] w fun e w'=>e = .returned (.tuple #[.int .i64 (bU (cG t l)).1,.int .i64 (bU (cG t l)).2])∧Below w.heap.size w w':=by
 have hl:=h.1;unfold maxLen at hl;go_enter Tryz.func243,Tryz.ntmps243;go_wp2_with fail
 go_loopw [12] (fun i wr=>∃ k:Nat,k≤l.length∧i = .int .i64 k∧Hid (cG t l=cG t (l.drop k))∧Below w.heap.size w wr) (fun i _=>l.length - (intOf i).toNat)
 case atStart=>exact ⟨0,Nr _,rfl,rfl,Nk _ _⟩
 case round =>
  obtain ⟨k,hk,rfl,HE,hb⟩:=hrel;by_cases hlt:k<l.length
  ·obtain ⟨b,off,rfl,hbl,c⟩:=(h.next hb hB).elem hlt;rcases ht:gE l[k] t with _ | u
   ·have hR:bI l[k] t=(0,9):=by simp [bI,ht,bU]
    have HT:Hid (gE l[k] t=none):=ht;clear ht;go_wp2_with fail
    refine (cA _ _ _).mono ?_;rintro e w1 ⟨rfl,hb1⟩;simp only [hR];go_wp2
    exact Nl (v:=.tuple #[.int .i64 0,.int .i64 9]) (by simp [results,Tryz.results243,go_sem]) rfl ⟨by rw [HE.out,JI t l k hlt HT.out]; rfl,chain hb hb1⟩
   ·have hR:bI l[k] t=(u,0):=by simp [bI,ht,bU]
    have HT:Hid (gE l[k] t=some u):=ht;clear ht;go_wp2_with fail
    refine (cA _ _ _).mono ?_;rintro e w1 ⟨rfl,hb1⟩;simp only [hR];go_wp2
    go_roundw
    case rel=>exact ⟨k+1,by omega,by go_num,HE.out.trans (E9 t l k hlt HT.out),chain hb hb1⟩
    case measure=>simp [intOf]; omega
  ·go_wp2
   exact Nl (v:=.tuple #[.int .i64 t,.int .i64 0]) (by simp [results,Tryz.results243,go_sem]) rfl ⟨by rw [HE.out,Iq t l k (by omega)]; rfl,hb⟩
theorem AL (B:Nat) (a:Option Addr) (cap:Nat) (l:List Int) (c:Int) (w:World) (h:bc B w a l) :
  Calls Tryz.prog 225 #[.slice a l.length cap,.int .i64 c] w fun e w'=>e = .returned (.tuple #[.int .i64 (kW l c).1,.int .i64 (kW l c).2])∧Below w.heap.size w w':=by
 by_cases h1:c<0
 ·have e:kW l c=(0,7):=by simp [kW,h1]
  rw [e];go_enter Tryz.func225,Tryz.ntmps225;go_wp2
  exact Nl (v:=.tuple #[.int .i64 0,.int .i64 7]) (by simp [results,Tryz.results225,go_sem]) rfl ⟨rfl,Nk _ _⟩
 by_cases h2:l.length≤c
 ·have e:kW l c=(0,7):=by simp [kW,h2]
  rw [e];go_enter Tryz.func225,Tryz.ntmps225;go_wp2
  exact Nl (v:=.tuple #[.int .i64 0,.int .i64 7]) (by simp [results,Tryz.results225,go_sem]) rfl ⟨rfl,Nk _ _⟩
 obtain ⟨j,rfl⟩:∃ j:Nat,c=j:=⟨c.toNat,by omega⟩
 have hj:j<l.length:=by omega
 have e:kW l j=(l[j],0):=by simp [kW,h2,List.getD,hj]
 rw [e];obtain ⟨b,off,rfl,hbl,cc⟩:=h.elem hj;go_enter Tryz.func225,Tryz.ntmps225;go_wp2
 exact Nl (v:=.tuple #[.int .i64 l[j],.int .i64 0]) (by simp [results,Tryz.results225,go_sem]) rfl ⟨rfl,Nk _ _⟩
theorem Bt (v:Vl) (w:World) :
  Calls Tryz.prog 224 #[fW v] w fun e w'=>e = .returned (.tuple #[.int .i64 (mJ v).1,.int .i64 (mJ v).2])∧Below w.heap.size w w':=by
 obtain ⟨k,n,s⟩:=v;by_cases h:aI k n s=0
 ·have e:mJ (k,n,s)=(k,0):=by simp [mJ,aY,h]
  rw [e];clear e;go_enter Tryz.func224,Tryz.ntmps224;go_wp2_with fail
  have A0:=gH.new w (.int .i64 k) (.int .i64 n) (.string s) 24;refine (iN _ _ _ _).mono ?_;rintro e w1 ⟨rfl,hb1⟩;rw [h];have ⟨a0,a1,a2,a3,a4,a5,a6⟩:=A0.next hb1;go_wp2
  exact Nl (v:=.tuple #[.int .i64 k,.int .i64 0]) (by simp [results,Tryz.results224,go_sem]) rfl ⟨rfl,lT hb1⟩
 ·have e:mJ (k,n,s)=(0,aI k n s):=by simp [mJ,aY,h]
  rw [e];clear e;go_enter Tryz.func224,Tryz.ntmps224;go_wp2_with fail
  refine (iN _ _ _ _).mono ?_;rintro e w1 ⟨rfl,hb1⟩;have q:(aI k n s != 0)=true:=by simpa using h
  go_wp2
  exact Nl (v:=.tuple #[.int .i64 0,.int .i64 (aI k n s)]) (by simp [results,Tryz.results224,go_sem]) rfl ⟨rfl,lT hb1⟩
def aR (f:Int→Int):List Zp→List Zp
 | []=>[]
 | x :: r=>if f x.2=0 then aR f r else (bq x.1,f x.2) :: aR f r
theorem ui (f:Int→Int) (l t:List Zp):aR f (l ++ t)=aR f l ++ aR f t:=by
 induction l with
 | nil=>rfl
 | cons x r ih =>
  rw [OD,aR,aR,ih]
  split <;> simp
theorem qk (f:Int→Int) (l:List Zp) (k:Nat) (h:k<l.length):aR f (l.take (k+1))=aR f (l.take k) ++ (if f l[k].2=0 then [] else [(bq l[k].1,f l[k].2)]):=by
 rw [Nz h,ui];simp [aR]
theorem iV (f:Int→Int) (l:List Zp):(aR f l).length≤l.length:=by
 induction l with
 | nil=>simp [aR]
 | cons x r ih =>
  rw [aR]
  split <;> simp <;> omega
def vx (g:Nat) (cb:Array Value) (f:Int→Int) (w:World):Prop :=
 ∀ (x:Int) (W:World),hJ x=true→Below w.heap.size w W→Calls Tryz.prog g (#[.int .i64 x] ++ cb) W fun e w'=>e = .returned (.int .i64 (f x))∧Below W.heap.size W w'
theorem nC (g:Nat) (cb:Array Value) (f:Int→Int) (a:Option Addr) (cap:Nat) (l:List Zp) (w:World) (h:aL w a l)
  (eg:∀ args w,(callFunc g args).run Tryz.prog w = .ok (.enter g args) w) (hm:vx g cb f w) (hl:l.length≤200000) (hr:∀ x ∈ l,x.1.length≤8) (hw:∀ x ∈ l,hJ x.2=true) :
  Calls Tryz.prog 70 #[.slice a l.length cap,.func (.func g) #[] cb] w fun e w'=>∃ v,e = .returned v∧bZ w.heap.size w' v (aR f l)∧Below w.heap.size w w':=by
 obtain ⟨i0,hi,hj0,hj1,hj2⟩:=info_parts Tryz.gX;go_enter Tryz.func70,Tryz.ntmps70;go_wp2_with fail
 go_loopw [5,11] (fun v i wr=>∃ k:Nat,k≤l.length∧i = .int .i64 k∧bZ w.heap.size wr v (aR f (l.take k))∧Below w.heap.size w wr) (fun _ i _=>l.length - (intOf i).toNat)
 case atStart=>exact ⟨0,Nr _,rfl,⟨[],by simpa [aR] using NP _ _ _ _,by simp [aR,yp]⟩,Nk _ _⟩
 case round =>
  obtain ⟨k,hk,rfl,HO,hb⟩:=hrel;have hz:=hb.size;by_cases hlt:k<l.length
  ·obtain ⟨b,off,rfl,hbl,c1,ar,cr,c0,sr⟩:=(h.next hb).elem hlt;have hin:=hw l[k] (Ns hlt);have h8:=hr l[k] (Ns hlt);have HI:Hid (hJ l[k].2=true):=hin;have H8:Hid (l[k].1.length≤8):=h8;clear hin h8;have hlen:=iV f (l.take k);simp only [NN] at hlen;by_cases h0:f l[k].2=0
   ·have H0:Hid (f l[k].2=0):=h0;clear h0;go_wp2_with (go_at_fn g; refine (hm _ _ HI.out (hb.alloc hz _)).mono ?_; rintro e w1 ⟨rfl,hb1⟩; rw [H0.out])
    go_roundw
    case rel=>exact ⟨k+1,by omega,by go_num,by rw [qk f l k hlt,if_pos H0.out,OG]; exact (HO.next ((Nk _ _).alloc (Nj _) _)).next hb1,nw hb hb1⟩
    case measure=>simp [intOf]; omega
   ·have H0:Hid (¬ f l[k].2=0):=h0;have n0:(f l[k].2 != 0)=true:=by simpa using h0
    clear h0;obtain ⟨xs,ho,he⟩:=HO;go_wp2_with (go_at_fn g; refine (hm _ _ HI.out (hb.alloc hz _)).mono ?_; rintro e w1 ⟨rfl,hb1⟩; have q0:w1.cell? ⟨wr.heap.size,0,none⟩=some (.slice ar l[k].1.length cr):=(hb1.cell (p:=⟨wr.heap.size,0,none⟩) (by simp)).trans (by simp))
    have hb1':=nw hb hb1;have hz1:=hb1'.size;have s1:=(sr.next ((Nk _ _).alloc (Nj _) _)).next hb1;have o1:=aS (aS ho ((Nk _ _).alloc (Nj _) _)) hb1;have e1:=(he.next ((Nk _ _).alloc (Nj _) _)).next hb1;refine (Br _ _ _ _ s1 H8.out).mono ?_;rintro e w2 ⟨rfl,⟨s2,t2⟩,hb2⟩;have o2:=aS o1 hb2;have e2:=e1.next hb2;have hz2':=hb2.size;clear o1 e1 ho he s1;have bl:(bq l[k].1).length=l[k].1.length:=by simp [bq]
    have ss:=(s2.next ((Nk _ _).alloc (Nj _) (.cells #[.slice (some ⟨w1.heap.size,0,none⟩) l[k].1.length l[k].1.length,.int .i64 (f l[k].2)] 58)))
    have st:=(t2.next ((Nk _ _).alloc (Nj _) (.cells #[.slice (some ⟨w1.heap.size,0,none⟩) l[k].1.length l[k].1.length,.int .i64 (f l[k].2)] 58)))
    have eo:=e2.next ((Nk _ _).alloc (Nj _) (.cells #[.slice (some ⟨w1.heap.size,0,none⟩) l[k].1.length l[k].1.length,.int .i64 (f l[k].2)] 58));go_wp2_with (at_builtin; (refine NZ _ rfl _ _ 34 rfl w.heap.size 58 i0 _ 2 32 Tryz.underlying34 hi hj0 hj1 hj2 rfl (by decide) _ _ _ rfl (o2.alloc _) ⟨w2.heap.size,0,none⟩ 1 1 [.slice (some ⟨w1.heap.size,0,none⟩) l[k].1.length l[k].1.length,.int .i64 (f l[k].2)] rfl rfl ?c1 ?c2 ?c3 ?c4 ?c5 ?_))
    case c1 =>
     intro j u hj
     match j,hj with
     | 0,hj=>simp at hj; subst hj; simp [Addr.add]
     | 1,hj=>simp at hj; subst hj; simp [Addr.add]
    case c2=>intro u hu; simp at hu; rcases hu with rfl | rfl <;> rfl
    case c3=>unfold maxLen; omega
    case c4=>omega
    case c5=>simp; omega
    intro v' w3 ho3 hg3 _;have R:=Ge (o2.alloc _) eo ss st (by rw [bl]; exact ho3) hg3;have hb3:Below w.heap.size w w3:=((bS hb1' hb2).alloc (by omega) _).grown hg3 (by simp; omega) (fun q hq=>((o2.alloc (.cells #[.slice (some ⟨w1.heap.size,0,none⟩) l[k].1.length l[k].1.length,.int .i64 (f l[k].2)] 58)).lt q hq).1);clear ho3 hg3 o2 e2 eo ss st s2 t2;go_wp2
    go_roundw
    case rel=>exact ⟨k+1,by omega,by go_num,by rw [qk f l k hlt,if_neg H0.out]; exact R,hb3⟩
    case measure=>simp [intOf]; omega
  ·have e:k=l.length:=by omega
   subst e;rw [NL] at HO;obtain ⟨av,cv,rfl,_⟩:=HO.zs;go_wp2
   go_ret;exact ⟨_,rfl,HO,hb⟩
end Go.Proofs.YtohjlfhmnmcndaaGreat
namespace Go.Proofs.YtohjlfhmnmcndaaGreat
open Go.RowKit Go.Lib
set_option maxRecDepth 100000
set_option maxHeartbeats 16000000
theorem gV {P:Program} {w:World} (base:Nat) (t ty e:TypeId) (i:TypeInfo) (size:Nat) (ht:P.underlying t=some (.slice e)) (hi:P.info? e=some i)
  (v:Value) (n:Nat) (xs:List Value) (hown:w.ownsRow base e size v n xs) (c:Nat):(Builtin.append_ #[t,t] ty #[v,.slice none 0 c]).run P w = .ok v w:=by
 rcases hown.2 with ⟨rfl,rfl⟩ | ⟨g,cap,cur,rfl,_,_,hnc,_⟩
 ·simp [Builtin.append_,run_underlying ht,sizeOf,typeInfo,hi,Builtin.lenOf,Builtin.firstCells]
 ·simp [Builtin.append_,run_underlying ht,sizeOf,typeInfo,hi,Builtin.lenOf,Builtin.firstCells,hnc,storeCells]
structure Raw (W:World) (a:Option Addr) (n size:Nat) (xs:List Value):Prop where
 len:xs.length=n*size
 one:∀ u ∈ xs,u.oneCell'=true
 nil:a=none→n=0
 at_:∀ ad,a=some ad→∀ j u,xs[j]? = some u→W.cell? (ad.add j)=some u
theorem Raw.next {W w1:World} {a:Option Addr} {n size:Nat} {xs:List Value} (h:Raw W a n size xs) (hb:Below W.heap.size W w1):Raw w1 a n size xs :=
 ⟨h.len,h.one,h.nil,fun ad e j u hj=>(hb.cell (Nt _ _ (h.at_ ad e j u hj))).trans (h.at_ ad e j u hj)⟩
theorem Raw.alloc {W:World} {a:Option Addr} {n size:Nat} {xs:List Value} (h:Raw W a n size xs) (o:Obj):Raw (W.alloc o) a n size xs:=h.next ((Nk _ _).alloc (Nj _) _)
theorem bo {P:Program} {w:World} {ops:Array Oper} {rest:List Oper} {o:Oper} {a:Act} {Q:Exit→Act→World→Prop} (hgd:o.guard=none) (s x:Operand) (t:TypeId)
  (ho:o.op = .call { callee:=.builtin .append,args:=#[s,x],argTypes:=#[t,t] })
  (base:Nat) (e:TypeId) (i:TypeInfo) (z:Value) (size bytes:Nat) (ht:P.underlying t=some (.slice e)) (hi:P.info? e=some i) (hz:i.zero=some z)
  (hsize:i.size=size) (hby:i.bytes=bytes) (hzs:z.cells.size=size) (hsz:0<size)
  (v:Value) (n:Nat) (xs:List Value) (hs:a.eval s=v) (hown:w.ownsRow base e size v n xs)
  (ao:Option Addr) (m c:Nat) (news:List Value) (hx:a.eval x = .slice ao m c) (hr:Raw w ao m size news)
  (h63:n+m≤maxLen) (hbytes:(n+m)*bytes≤140737488355328) (hbase:base≤w.heap.size)
  (h:∀ v' w',w'.ownsRow base e size v' (n+m) (xs ++ news)→w.grownBy w' v.ownBlock→wpList P ops Q rest (a.put o.dst v') w'):wpList P ops Q (o :: rest) a w:=by
 rcases ao with _ | ad
 ·have hm:=hr.nil rfl;subst hm;have hnews:news = []:=Nu (by simpa using hr.len);subst hnews;refine wpList_plain hgd fun K hK'=>?_
  have hrun:=gV (P:=P) (w:=w) base t o.type e i size ht hi v n xs hown c;unfold Oper.wp;simp [execOp,ho,resolve,invoke,builtin,hs,hx,hrun,Result.andThen];exact hK' _ _ (by simpa using h v w (by simpa using hown) (World.grownBy.refl _ _))
 ·exact NZ _ hgd s x t ho base e i z size bytes ht hi hz hsize hby hzs hsz v n xs hs hown ad m c news hx hr.len (hr.at_ ad rfl) hr.one h63 hbytes hbase (fun v' w' h1 h2 _=>h v' w' h1 h2)
theorem jL {P:Program} (w:World) {ops:Array Oper} {rest:List Oper} {o:Oper} {a:Act} {Q:Exit→Act→World→Prop}
  (hg:o.guard=none) (s x:Operand) (t:TypeId) (hop:o.op=Op.call { callee:=Callee.builtin Builtin.append,args:=#[s,x],argTypes:=#[t,t] })
  (base:Nat) (e:TypeId) (i:TypeInfo) (size:Nat) (h1:P.underlying t=some (.slice e)) (h2:P.info? e=some i) (h4:i.size=size)
  (g k cap:Nat) (xs:List Value) (hs:a.eval s = .slice (some ⟨g,0,none⟩) k cap) (hown:w.ownsRow base e size (.slice (some ⟨g,0,none⟩) k cap) k xs) (ao:Option Addr) (m c:Nat) (news:List Value) (hx:a.eval x = .slice ao m c) (hr:Raw w ao m size news) (b1:k+m≤cap)
  (hK:∀ w',w'.ownsRow base e size (.slice (some ⟨g,0,none⟩) (k+m) cap) (k+m) (xs ++ news)→w.grownBy w' (some g)→wpList P ops Q rest (a.put o.dst (.slice (some ⟨g,0,none⟩) (k+m) cap)) w') :
  wpList P ops Q (o :: rest) a w:=by
 rcases ao with _ | ad
 ·have hm:=hr.nil rfl;subst hm;have hnews:news = []:=Nu (by simpa using hr.len);subst hnews;refine wpList_plain hg fun K hK'=>?_
  have hrun:=gV (P:=P) (w:=w) base t o.type e i size h1 h2 _ k xs hown c;unfold Oper.wp;simp [execOp,hop,resolve,invoke,builtin,hs,hx,hrun,Result.andThen];exact hK' _ _ (by simpa using hK w (by simpa using hown) (World.grownBy.refl _ _))
 ·exact wpList_append_fits w hg s x t hop base e i size h1 h2 h4 g k cap xs hs hown ad m c news hx hr.len (hr.at_ ad rfl) hr.one b1 hK
theorem iL (b off i:Nat):(⟨b,off,none⟩:Addr).add i=⟨b,off+i,none⟩:=by
 unfold Addr.add;by_cases h:i=0 <;> simp [h]
def bw:List Vl→List Value
 | []=>[]
 | v :: r=>.int .i64 v.1 :: .int .i64 v.2.1 :: .string v.2.2 :: bw r
theorem dp:∀ l,(bw l).length=l.length*3
 | []=>rfl
 | v :: r=>by simp only [bw,N4,dp r]; omega
theorem bQ:∀ l t,bw (l ++ t)=bw l ++ bw t
 | [],_=>rfl
 | v :: r,t=>by simp only [OD,bw,bQ r t]
theorem mw:∀ (l:List Vl) (j:Nat) (h:j<l.length),(bw l)[j*3]? = some (.int .i64 l[j].1)∧(bw l)[j*3+1]? = some (.int .i64 l[j].2.1)∧(bw l)[j*3+2]? = some (.string l[j].2.2)
 | [],_,h=>by simp at h
 | v :: r,0,_=>by simp [bw]
 | v :: r,j+1,h=>by
  have ih:=mw r j (by simpa using h)
  have e0:(j+1)*3=j*3+1+1+1:=by omega
  have e1:(j+1)*3+1=j*3+1+1+1+1:=by omega
  have e2:(j+1)*3+2=j*3+2+1+1+1:=by omega
  rw [e1,e2,e0]
  simp only [bw,List.getElem?_cons_succ,Ot]
  exact ih
theorem mh:∀ l,∀ u ∈ bw l,u.oneCell'=true
 | [],u,h=>by simp [bw] at h
 | v :: r,u,h=>by
  simp only [bw,NH] at h
  rcases h with rfl | rfl | rfl | h
  ·rfl
  ·rfl
  ·rfl
  ·exact mh r u h
theorem fG {W:World} {a:Option Addr} {l:List Vl} (h:aM W a l):Raw W a l.length 3 (bw l):=by
 refine ⟨dp l,mh l,?_,?_⟩
 ·intro e;rcases h.2 with h | ⟨b,off,e',_⟩
  ·rw [h]; rfl
  ·rw [e] at e'; cases e'
 ·intro ad e j u hj;have hlt:j<l.length*3:=by
   rcases NY j (l.length*3) with h | h
   ·exact h
   ·rw [NW (by rw [dp]; exact h)] at hj; cases hj
  obtain ⟨b,off,e',_,c0,c1,c2⟩:=h.elem (k:=j / 3) (by omega);rw [e] at e';have e':=NU e';subst e';rw [iL];obtain ⟨g0,g1,g2⟩:=mw l (j / 3) (by omega);have hm:j % 3=0∨j % 3=1∨j % 3=2:=by omega
  rcases hm with hm | hm | hm
  ·have ej:j=j / 3*3:=by omega
   rw [ej,g0] at hj;rw [← hj,← c0]; congr 2; omega
  ·have ej:j=j / 3*3+1:=by omega
   rw [ej,g1] at hj;rw [← hj,← c1]; congr 2; omega
  ·have ej:j=j / 3*3+2:=by omega
   rw [ej,g2] at hj;rw [← hj,← c2]; congr 2; omega
theorem dN {B:Nat} {W:World} {a:Option Addr} {l:List Int} (h:bc B W a l):Raw W a l.length 1 (l.map (Value.int .i64)):=by
 refine ⟨by simp,by intro u hu; obtain ⟨x,_,rfl⟩:=List.mem_map.1 hu; rfl,?_,?_⟩
 ·intro e;rcases h.2 with h | ⟨b,off,e',_⟩
  ·rw [h]; rfl
  ·rw [e] at e'; cases e'
 ·intro ad e j u hj;have hlt:j<l.length:=by
   rcases NY j l.length with h | h
   ·exact h
   ·rw [NW (by simpa using h)] at hj; cases hj
  obtain ⟨b,off,e',_,c0⟩:=h.elem hlt;rw [e] at e';have e':=NU e';subst e';rw [iL,c0]
  simpa [hlt] using hj
theorem lV {W:World} {B n:Nat} {v:Value} {l:List Vl} (ho:W.ownsRow B 24 3 v n (bw l)) (hn:n=l.length):∃ a cap,v = .slice a l.length cap∧aM W a l∧gm W a∧(l.length≤cap∨a=none):=by
 subst hn;have ho':=ho;obtain ⟨hx,⟨rfl,h0⟩ | ⟨g,cap,cur,rfl,hg,hh,hn,hc,hs,ht⟩⟩:=ho
 ·have:l = []:=Nu h0;subst this;exact ⟨none,0,rfl,⟨by simp,.inl rfl⟩,(fun b off e=>by cases e),.inr rfl⟩
 ·refine ⟨_,cap,rfl,⟨by omega,.inr ⟨g,0,rfl,fun i hi=>?_,(ho'.lt g rfl).2⟩⟩,?_,.inl hn⟩
  ·obtain ⟨g0,g1,g2⟩:=mw l i hi;refine ⟨?_,?_,?_⟩
   ·rw [ho'.cellAt _ (by omega),← g0]; congr 1; omega
   ·rw [ho'.cellAt _ (by omega),← g1]; congr 1; omega
   ·rw [ho'.cellAt _ (by omega),← g2]; congr 1; omega
  ·intro b off e;have e:=NU e;injection e with e1 e2
   subst e1;exact ⟨_,_,hh⟩
theorem nI {W:World} {B n:Nat} {v:Value} {l:List Int} (ho:W.ownsRow B 3 1 v n (l.map (Value.int .i64))) (hn:n=l.length):∃ a cap,v = .slice a l.length cap∧bc W.heap.size W a l:=by
 subst hn;have ho':=ho;obtain ⟨hx,⟨rfl,h0⟩ | ⟨g,cap,cur,rfl,hg,hh,hn,hc,hs,ht⟩⟩:=ho
 ·have:l = []:=Nu h0;subst this;exact ⟨none,0,rfl,⟨by simp,.inl rfl⟩⟩
 ·refine ⟨_,cap,rfl,⟨by omega,.inr ⟨g,0,rfl,(ho'.lt g rfl).2,fun i hi=>?_⟩⟩⟩;have:=ho'.cellAt i (by omega);rw [Np,this];simp [hi]
end Go.Proofs.YtohjlfhmnmcndaaGreat
namespace Go.Proofs.YtohjlfhmnmcndaaGreat
set_option maxRecDepth 100000
set_option maxHeartbeats 16000000
theorem gU (x y z:Vl) (h:cZ x y≤0) (j:cZ y z≤0):cZ x z≤0:=zU _ _ _ _ _ _ _ _ _ h j
theorem dv:∀ a b c:List Vl,aG a b≤0→aG b c≤0→aG a c≤0
 | [],_,[]=>by simp [aG]
 | [],_,_ :: _=>by simp [aG]
 | _ :: _,[],_=>by simp [aG]
 | _ :: _,_ :: _,[]=>by simp [aG]
 | x :: r,y :: t,z :: u=>by
  have ih:=dv r t u
  have t1:=gU x y z
  have t2:=gU y x z
  have t3:=gU z y x
  have t4:=gU x z y
  have t5:=gU y z x
  have t6:=gU z x y
  have n1:=nN x y
  have n2:=nN y z
  have n3:=nN x z
  unfold aG
  split <;> split <;> split <;> intro h1 h2 <;> first | exact ih h1 h2 | omega
theorem dF (a:List Vl):aG a a=0:=by have:=aZ a a; omega
theorem dS {a b c:List Vl} (h:aG a b<0) (k:aG b c≤0):aG a c<0:=by
 have t:=dv b c a;have n1:=aZ a b;have n2:=aZ a c;omega
theorem Ax {a b c:List Vl} (h:aG a b≤0) (k:aG b c<0):aG a c<0:=by
 have t:=dv c a b;have n1:=aZ b c;have n2:=aZ a c;omega
theorem fh {a b:List Vl} (h:aG a b=0) (c:List Vl):aG a c=aG b c:=by
 have t1:=dv a b c;have t2:=dv b a c;have t3:=dv c a b;have t4:=dv c b a;have n1:=aZ a b;have n2:=aZ a c;have n3:=aZ b c;have b1:=qY a c;have b2:=qY b c;omega
theorem sI {a b:List Vl} (h:aG a b=0) (c:List Vl):aG c a=aG c b:=by
 have:=fh h c;have n2:=aZ a c;have n3:=aZ b c;omega
theorem Ai (k n k' n':Int) (s s':ByteArray):dW k (fF k n) (kp k s) k' n' s'=dW k n s k' n' s':=by
 unfold dW fF kp;by_cases h:k=k'
 ·subst h;by_cases h2:k=2∨k=3
  ·simp [h2]
  ·by_cases h4:k=4
   ·simp [h4]
   ·simp [h2,h4]
 ·simp [h]
theorem DJ (x y:Vl):cZ (cB x) y=cZ x y:=Ai _ _ _ _ _ _
theorem du:∀ a b:List Vl,aG (bq a) b=aG a b
 | [],[]=>rfl
 | [],_ :: _=>rfl
 | _ :: _,[]=>rfl
 | x :: r,y :: t=>by
  have ih:=du r t
  show (if cZ (cB x) y=0 then aG (bq r) t else cZ (cB x) y)=_
  rw [DJ,ih]; rfl
theorem iP (a b:List Vl):aG a (bq b)=aG a b:=by
 have:=du b a;have n1:=aZ a b;have n2:=aZ a (bq b);omega
theorem toList_inj {s t:ByteArray} (h:s.toList=t.toList):s=t:=by
 rw [ByteArray.toList_eq,ByteArray.toList_eq] at h;rcases s with ⟨⟨s⟩⟩
 rcases t with ⟨⟨t⟩⟩
 simpa using h
theorem Gu {x y:Vl} (h:cZ x y=0):cB x=cB y:=by
 unfold cZ dW at h;unfold cB fF kp;by_cases e:x.1=y.1
 ·simp only [e,ne_eq,not_true,if_false] at h ⊢;by_cases h2:y.1=2∨y.1=3
  ·simp only [h2,if_true] at h ⊢;rw [uP] at h;have h4:¬ y.1=4:=by omega
   simp [h,h4]
  ·by_cases h4:y.1=4
   ·simp [h4] at h;rw [Dw] at h;simp [h2,toList_inj h]
   ·simp [h2,h4]
 ·simp only [e,ne_eq,not_false_iff,if_true] at h;rw [uP] at h;exact absurd h e
theorem jK:∀ {a b:List Vl},aG a b=0→bq a=bq b
 | [],[],_=>rfl
 | [],_ :: _,h=>by simp [aG] at h
 | _ :: _,[],h=>by simp [aG] at h
 | x :: r,y :: t,h=>by
  unfold aG at h
  by_cases e:cZ x y=0
  ·rw [if_pos e] at h
   show cB x :: bq r=cB y :: bq t
   rw [Gu e,jK h]
  ·rw [if_neg e] at h
   exact absurd h e
theorem A8 (x:Vl):cB (cB x)=cB x:=by
 unfold cB fF kp;by_cases h:x.1=2∨x.1=3 <;> by_cases h4:x.1=4 <;> simp [h,h4]
theorem kA (l:List Vl):bq (bq l)=bq l:=by
 simp [bq,A8]
theorem By (x:Vl):aI (cB x).1 (cB x).2.1 (cB x).2.2=aI x.1 x.2.1 x.2.2:=by
 unfold cB fF kp aI;by_cases h1:x.1=1
 ·simp [h1]
 by_cases h2:x.1=2
 ·simp [h2]
 by_cases h3:x.1=3
 ·simp [h3]
 by_cases h4:x.1=4
 ·simp [h4]
 simp [h1,h2,h3,h4]
theorem Al (l:List Vl):gC (bq l)=gC l:=by
 unfold gC bq;rw [List.all_map]
 congr 1
 funext x
 simp [By]
theorem iE (l:List Vl):(bq l).length=l.length:=by simp [bq]
theorem gZ (l:List Vl):aJ (bq l)=0↔aJ l=0:=by rw [cO,cO,iE,Al]
def wt:List Zp→List Vl→Int
 | [],_=>0
 | x :: r,q=>(if aG x.1 q=0 then x.2 else 0)+wt r q
theorem dG (l t:List Zp) (q:List Vl):wt (l ++ t) q=wt l q+wt t q:=by
 induction l with
 | nil=>simp [wt]
 | cons x r ih=>rw [OD,wt,wt,ih]; omega
theorem IP {l t:List Zp} (h:l.Perm t) (q:List Vl):wt l q=wt t q:=by
 induction h with
 | nil=>rfl
 | cons x _ ih=>rw [wt,wt,ih]
 | swap x y l=>simp only [wt]; omega
 | trans _ _ h1 h2=>exact h1.trans h2
theorem wU {l:List Zp} {q:List Vl} (h:∀ x ∈ l,¬ aG x.1 q=0):wt l q=0:=by
 induction l with
 | nil=>rfl
 | cons x r ih =>
  rw [wt,if_neg (h x (by simp)),ih (fun y hy=>h y (by simp [hy]))];rfl
theorem xX {q q':List Vl} (h:aG q q'=0) (l:List Zp):wt l q=wt l q':=by
 induction l with
 | nil=>rfl
 | cons x r ih=>rw [wt,wt,ih,sI h]
def fL (z:List Zp):Prop:=z.Pairwise fun x y=>aG x.1 y.1<0
structure gG (z:List Zp):Prop where
 gj:fL z
 ne:∀ x ∈ z,x.2≠0
 bare:∀ x ∈ z,bq x.1=x.1
theorem gG.tail {x:Zp} {r:List Zp} (h:gG (x :: r)):gG r:=⟨(List.pairwise_cons.1 h.gj).2,fun y hy=>h.ne y (by simp [hy]),fun y hy=>h.bare y (by simp [hy])⟩
theorem mo {x:Zp} {r:List Zp} (h:fL (x :: r)):wt (x :: r) x.1=x.2:=by
 rw [wt,if_pos (dF _),wU]
 ·omega
 ·intro y hy;have:=(List.pairwise_cons.1 h).1 y hy;have n:=aZ x.1 y.1;omega
theorem xf {z:List Zp} (h:fL z):∀ x ∈ z,wt z x.1=x.2:=by
 induction z with
 | nil=>intro x hx; cases hx
 | cons y t ih =>
  intro x hx;rcases List.mem_cons.1 hx with rfl | hx
  ·exact mo h
  ·have h':=List.pairwise_cons.1 h;have:=h'.1 x hx;rw [wt,if_neg (by omega),ih h'.2 x hx];omega
theorem sX {x:Zp} {t:List Zp} (_h:fL t) (hx:∀ y ∈ t,aG x.1 y.1<0):wt t x.1=0 :=
 wU fun y hy=>by have:=hx y hy; have:=aZ x.1 y.1; omega
theorem kz:∀ (z z':List Zp),gG z→gG z'→(∀ q,wt z q=wt z' q)→z=z'
 | [],[],_,_,_=>rfl
 | [],y :: t,_,h',e=>by
  have:=e y.1
  rw [mo h'.gj] at this
  exact absurd this.symm (h'.ne y (by simp))
 | x :: r,[],h,_,e=>by
  have:=e x.1
  rw [mo h.gj] at this
  exact absurd this (h.ne x (by simp))
 | x :: r,y :: t,h,h',e=>by
  have p:=List.pairwise_cons.1 h.gj
  have p':=List.pairwise_cons.1 h'.gj
  have ex:=e x.1
  have ey:=e y.1
  rw [mo h.gj] at ex
  rw [mo h'.gj] at ey
  have nx:=h.ne x (by simp)
  have ny:=h'.ne y (by simp)
  by_cases c:aG x.1 y.1=0
  ·have e1:x.1=y.1:=by
    have:=jK c
    rwa [h.bare x (by simp),h'.bare y (by simp)] at this
   have e2:x.2=y.2:=by
    rw [e1,mo h'.gj] at ex
    exact ex
   have exy:x=y:=Prod.ext e1 e2
   subst exy
   rw [kz r t h.tail h'.tail fun q=>by have:=e q; rw [wt,wt] at this; omega]
  ·exfalso
   have n:=aZ x.1 y.1
   by_cases c':aG x.1 y.1<0
   ·rw [sX h'.gj (x:=x) (fun v hv=>by
     rcases List.mem_cons.1 hv with rfl | hv
     ·exact c'
     ·exact dS c' (by have:=p'.1 v hv; omega))] at ex
    exact nx ex
   ·rw [sX h.gj (x:=y) (fun v hv=>by
     rcases List.mem_cons.1 hv with rfl | hv
     ·omega
     ·exact dS (b:=x.1) (by omega) (by have:=p.1 v hv; omega))] at ey
    exact ny ey.symm
def gK:List Zp→List Vl→Int→List Zp
 | [],r,w=>if w=0 then [] else [(bq r,w)]
 | y :: t,r,w=>if aG y.1 r<0 then y :: gK t r w else if aG y.1 r=0 then (if w+y.2=0 then t else (bq r,w+y.2) :: t) else (if w=0 then y :: t else (bq r,w) :: y :: t)
theorem rI (r:List Vl) (w:Int) (b:List Vl) (hb:aG b r<0):∀ z:List Zp,(∀ y ∈ z,aG b y.1<0)→∀ y ∈ gK z r w,aG b y.1<0
 | [],_=>by
  unfold gK
  split
  ·simp
  ·intro y hy; simp at hy; subst hy; rw [iP]; exact hb
 | x :: t,h=>by
  have hx:=h x (by simp)
  have ht:∀ y ∈ t,aG b y.1<0:=fun y hy=>h y (by simp [hy])
  have ih:=rI r w b hb t ht
  unfold gK
  split
  ·intro y hy
   rcases List.mem_cons.1 hy with rfl | hy
   ·exact hx
   ·exact ih y hy
  ·split
   ·split
    ·exact ht
    ·intro y hy
     rcases List.mem_cons.1 hy with rfl | hy
     ·show aG b (bq r)<0
      rw [iP]; exact hb
     ·exact ht y hy
   ·split
    ·exact h
    ·intro y hy
     rcases List.mem_cons.1 hy with rfl | hy
     ·show aG b (bq r)<0
      rw [iP]; exact hb
     ·exact h y hy
theorem vi (r:List Vl) (w:Int):∀ z:List Zp,fL z→fL (gK z r w)
 | [],_=>by unfold gK; split <;> simp [fL]
 | x :: t,h=>by
  have p:=List.pairwise_cons.1 h
  unfold gK
  split
  ·rename_i c
   exact List.pairwise_cons.2 ⟨rI r w x.1 c t p.1,vi r w t p.2⟩
  ·split
   ·rename_i c
    split
    ·exact p.2
    ·refine List.pairwise_cons.2 ⟨fun y hy=>?_,p.2⟩
     show aG (bq r) y.1<0
     rw [du,← fh c]
     exact p.1 y hy
   ·rename_i c c'
    split
    ·exact h
    ·refine List.pairwise_cons.2 ⟨fun y hy=>?_,h⟩
     show aG (bq r) y.1<0
     rw [du]
     have n:=aZ x.1 r
     rcases List.mem_cons.1 hy with rfl | hy
     ·omega
     ·exact dS (b:=x.1) (by omega) (by have:=p.1 y hy; omega)
theorem Fq (r:List Vl) (w:Int):∀ z:List Zp,gG z→gG (gK z r w):=fun z h=>by
 refine ⟨vi r w z h.gj,?_,?_⟩
 ·have hn:=h.ne
  clear h
  induction z with
  | nil=>unfold gK; split <;> simp_all
  | cons x t ih =>
   have ih:=ih (fun y hy=>hn y (by simp [hy]))
   have hx:=hn x (by simp)
   unfold gK
   split
   ·intro y hy
    rcases List.mem_cons.1 hy with rfl | hy
    ·exact hx
    ·exact ih y hy
   ·split
    ·split
     ·exact fun y hy=>hn y (by simp [hy])
     ·intro y hy
      rcases List.mem_cons.1 hy with rfl | hy
      ·assumption
      ·exact hn y (by simp [hy])
    ·split
     ·exact hn
     ·intro y hy
      rcases List.mem_cons.1 hy with rfl | hy
      ·assumption
      ·exact hn y hy
 ·have hn:=h.bare
  clear h
  induction z with
  | nil =>
   unfold gK
   split
   ·simp
   ·intro y hy; simp at hy; subst hy; exact kA r
  | cons x t ih =>
   have ih:=ih (fun y hy=>hn y (by simp [hy]))
   have hx:=hn x (by simp)
   unfold gK
   split
   ·intro y hy
    rcases List.mem_cons.1 hy with rfl | hy
    ·exact hx
    ·exact ih y hy
   ·split
    ·split
     ·exact fun y hy=>hn y (by simp [hy])
     ·intro y hy
      rcases List.mem_cons.1 hy with rfl | hy
      ·exact kA r
      ·exact hn y (by simp [hy])
    ·split
     ·exact hn
     ·intro y hy
      rcases List.mem_cons.1 hy with rfl | hy
      ·exact kA r
      ·exact hn y hy
theorem BK (r:List Vl) (w:Int) (q:List Vl):∀ z:List Zp,wt (gK z r w) q=wt z q+(if aG r q=0 then w else 0)
 | []=>by
  unfold gK
  split
  ·rename_i h; subst h; simp [wt]
  ·simp [wt,du]
 | x :: t=>by
  have ih:=BK r w q t
  unfold gK
  split
  ·rw [wt,ih,wt]; omega
  ·split
   ·rename_i c
    have e:=fh c q
    split
    ·rename_i h0
     rw [wt,e]
     split <;> omega
    ·rw [wt,wt,e]
     simp only [du]
     split <;> omega
   ·split
    ·rename_i h0; subst h0; simp
    ·rw [wt]
     simp only [du]
     omega
def canon (l:List Zp):List Zp:=l.foldl (fun z x=>gK z x.1 x.2) []
theorem Ak (l:List Zp):∀ z:List Zp,gG z→gG (l.foldl (fun z x=>gK z x.1 x.2) z):=by
 induction l with
 | nil=>intro z h; exact h
 | cons x r ih=>intro z h; exact ih _ (Fq _ _ _ h)
theorem C4 (l:List Zp) (q:List Vl):∀ z:List Zp,wt (l.foldl (fun z x=>gK z x.1 x.2) z) q=wt z q+wt l q:=by
 induction l with
 | nil=>intro z; simp [wt]
 | cons x r ih=>intro z; rw [OL,ih,BK,wt]; omega
theorem set_nil:gG []:=⟨List.Pairwise.nil,by simp,by simp⟩
theorem dH (l:List Zp):gG (canon l):=Ak l [] set_nil
theorem dO (l:List Zp) (q:List Vl):wt (canon l) q=wt l q:=by
 unfold canon;rw [C4];simp [wt]
theorem zw {z l:List Zp} (h:gG z) (e:∀ q,wt z q=wt l q):z=canon l :=
 kz _ _ h (dH l) fun q=>(e q).trans (dO l q).symm
theorem eF (f:Int→Int) (z:List Zp):∀ y ∈ aR f z,∃ x ∈ z,y=(bq x.1,f x.2)∧¬ f x.2=0:=by
 induction z with
 | nil=>intro y hy; cases hy
 | cons x r ih =>
  intro y hy;unfold aR at hy
  split at hy
  ·obtain ⟨u,hu,e⟩:=ih y hy;exact ⟨u,by simp [hu],e⟩
  ·rename_i h0
   rcases List.mem_cons.1 hy with rfl | hy
   ·exact ⟨x,by simp,rfl,h0⟩
   ·obtain ⟨u,hu,e⟩:=ih y hy;exact ⟨u,by simp [hu],e⟩
theorem pU (f:Int→Int):∀ z:List Zp,fL z→fL (aR f z)
 | [],_=>List.Pairwise.nil
 | x :: r,h=>by
  have p:=List.pairwise_cons.1 h
  have ih:=pU f r p.2
  unfold aR
  split
  ·exact ih
  ·refine List.pairwise_cons.2 ⟨fun y hy=>?_,ih⟩
   obtain ⟨u,hu,rfl,_⟩:=eF f r y hy
   show aG (bq x.1) (bq u.1)<0
   rw [du,iP]
   exact p.1 u hu
theorem kH (f:Int→Int) (z:List Zp) (h:fL z):gG (aR f z) :=
 ⟨pU f z h,fun y hy=>by obtain ⟨u,_,rfl,h0⟩:=eF f z y hy; exact h0,fun y hy=>by obtain ⟨u,_,rfl,h0⟩:=eF f z y hy; exact kA u.1⟩
theorem j6 (f:Int→Int) (f0:f 0=0) (q:List Vl):∀ z:List Zp,fL z→wt (aR f z) q=f (wt z q)
 | [],_=>by simp [aR,wt,f0]
 | x :: r,h=>by
  have p:=List.pairwise_cons.1 h
  have ih:=j6 f f0 q r p.2
  by_cases c:aG x.1 q=0
  ·have z0:wt r q=0:=by
    rw [xX (q:=q) (q':=x.1) (by have:=aZ x.1 q; omega)];exact sX p.2 p.1
   rw [z0,f0] at ih;unfold aR
   split
   ·rename_i h0
    rw [ih,wt,if_pos c,z0];simp [h0]
   ·rw [wt,wt,ih,z0];simp [du,c]
  ·unfold aR
   split
   ·rw [ih,wt,if_neg c]; simp
   ·rw [wt,wt,ih];simp [du,c]
def jw (acc:List Zp) (x:Zp):List Zp :=
 match acc.getLast? with
 | none=>[x]
 | some y=>if aG y.1 x.1=0 then acc.dropLast ++ [(y.1,y.2+x.2)] else acc ++ [x]
def bR (l:List Zp):List Zp:=l.foldl jw []
theorem iG (l:List Zp) (x:Zp):bR (l ++ [x])=jw (bR l) x:=by simp [bR]
theorem lW (x:Zp):jw [] x = [x]:=rfl
theorem iy (a:List Zp) (y x:Zp):jw (a ++ [y]) x=if aG y.1 x.1=0 then a ++ [(y.1,y.2+x.2)] else a ++ [y] ++ [x]:=by simp [jw]
theorem tL {p:List Zp→Prop} (h0:p []) (h1:∀ l x,p l→p (l ++ [x])):∀ l,p l:=by
 have key:∀ (n:Nat) (l:List Zp),l.length=n→p l:=by
  intro n
  induction n with
  | zero=>intro l h; rw [Nu h]; exact h0
  | succ n ih =>
   intro l h;rcases List.eq_nil_or_concat l with rfl | ⟨a,y,rfl⟩
   ·exact h0
   ·rw [Pe];exact h1 a y (ih a (by simpa using h))
 exact fun l=>key l.length l rfl
structure xm (l z:List Zp):Prop where
 gj:fL z
 wt:∀ q,wt z q=wt l q
 row:∀ y ∈ z,∃ x ∈ l,y.1=x.1
theorem xm.push {l z:List Zp} (h:xm l z) {x:Zp} (hx:∀ y ∈ l,aG y.1 x.1≤0):xm (l ++ [x]) (jw z x):=by
 rcases List.eq_nil_or_concat z with rfl | ⟨a,y,rfl⟩
 ·rw [lW];refine ⟨by simp [fL],fun q=>?_,?_⟩
  ·rw [dG,← h.wt q]; simp [YtohjlfhmnmcndaaGreat.wt]
  ·intro y hy; simp at hy; subst hy; exact ⟨y,by simp,rfl⟩
 ·rw [Pe] at h ⊢;have hr:=List.pairwise_append.1 h.gj;have hy:aG y.1 x.1≤0:=by
   obtain ⟨u,hu,e⟩:=h.row y (by simp);rw [e]; exact hx u hu
  rw [iy]
  split
  ·rename_i c
   refine ⟨?_,fun q=>?_,?_⟩
   ·refine List.pairwise_append.2 ⟨hr.1,by simp,?_⟩;intro u hu v hv;simp at hv;subst hv;exact hr.2.2 u hu y (by simp)
   ·have:=h.wt q;rw [dG] at this ⊢;rw [dG,← this];simp only [YtohjlfhmnmcndaaGreat.wt,← fh c q]
    split <;> omega
   ·intro u hu;simp at hu;rcases hu with hu | rfl
    ·obtain ⟨v,hv,e⟩:=h.row u (by simp [hu]);exact ⟨v,by simp [hv],e⟩
    ·obtain ⟨v,hv,e⟩:=h.row y (by simp);exact ⟨v,by simp [hv],e⟩
  ·rename_i c
   refine ⟨?_,fun q=>?_,?_⟩
   ·refine List.pairwise_append.2 ⟨h.gj,by simp,?_⟩;intro u hu v hv;simp at hv;subst hv;simp at hu;rcases hu with hu | rfl
    ·exact dS (hr.2.2 u hu y (by simp)) hy
    ·omega
   ·rw [dG,h.wt q,dG]
   ·intro u hu;rcases List.mem_append.1 hu with hu | hu
    ·obtain ⟨v,hv,e⟩:=h.row u hu;exact ⟨v,by simp [hv],e⟩
    ·simp at hu; subst hu; exact ⟨u,by simp,rfl⟩
theorem uL:∀ (l:List Zp),(l.Pairwise fun x y=>aG x.1 y.1≤0)→xm l (bR l):=by
 refine tL (fun _=>⟨List.Pairwise.nil,fun _=>rfl,by simp [bR]⟩) ?_
 ·intro l x ih h;have p:=List.pairwise_append.1 h;rw [iG];exact (ih p.1).push fun y hy=>p.2.2 y hy x (by simp)
theorem qy (l:List Zp):(bR l).length≤l.length:=by
 revert l
 refine tL (by simp [bR]) ?_
 ·intro l x ih;rw [iG];unfold jw
  split
  ·simp
  ·rename_i y hy
   split <;> simp <;> omega
theorem wZ {s l:List Zp} (hp:s.Perm l) (hs:s.Pairwise fun x y=>aG x.1 y.1≤0):aR (fun w=>w) (bR s)=canon l:=by
 have m:=uL s hs;refine zw (kH _ _ m.gj) fun q=>?_
 rw [j6 (fun w=>w) rfl q _ m.gj,m.wt q,IP hp q]
end Go.Proofs.YtohjlfhmnmcndaaGreat
namespace Go.Proofs
open Go.Shelf Go.RowKit Go.Lib
set_option maxRecDepth 100000
set_option maxHeartbeats 16000000
shelf_lay_g SlLaysF0.n6 Slsf 6 at Tryz 116 as Tryz.sortZ
end Go.Proofs
namespace Go.Proofs.YtohjlfhmnmcndaaGreat
open Go.RowKit Go.Lib Go.Shelf
structure Zr where
 a:Option Addr
 cap:Nat
 row:List Vl
 w:Int
abbrev Zg (w:World):Type:={ x:Zr // aM w x.a x.row }
instance (w:World):Inhabited (Zg w):=⟨⟨⟨none,0,[],0⟩,by simp,.inl rfl⟩⟩
def il (w:World) (x:Zg w):List Value:=[.slice x.1.a x.1.row.length x.1.cap,.int .i64 x.1.w]
def LJ (w:World) (x y:Zg w):Int:=aG x.1.row y.1.row
def FC (w:World) (x:Zg w):Zp:=(x.1.row,x.1.w)
theorem MR (w:World):Go.Sort.SWO (ltOf (LJ w)) where
 irrefl x:=by simp [ltOf,LJ,dF]
 trans x y z h1 h2:=by
  have g1:aG x.1.row y.1.row<0:=of_decide_eq_true h1;have g2:aG y.1.row z.1.row<0:=of_decide_eq_true h2;exact decide_eq_true (dS g1 (by omega))
 ntrans x y z h1 h2:=by
  have g1:¬ aG x.1.row y.1.row<0:=of_decide_eq_false h1;have g2:¬ aG y.1.row z.1.row<0:=of_decide_eq_false h2;have n1:=aZ x.1.row y.1.row;have n2:=aZ y.1.row z.1.row;have n3:=aZ x.1.row z.1.row;have t:=dv z.1.row y.1.row x.1.row;refine decide_eq_false ?_;show ¬ aG x.1.row z.1.row<0;omega
theorem mL {W w1:World} (hb:Below W.heap.size W w1) (hd:W.drawn≤w1.drawn):∃ q os,w1=Go.Sort.grow (W.drewN q) os:=by
 refine ⟨w1.drawn - W.drawn,w1.heap.extract W.heap.size w1.heap.size,?_⟩;have hs:=hb.size;have hh:w1.heap=W.heap ++ w1.heap.extract W.heap.size w1.heap.size:=by
  apply Array.ext_getElem?;intro k;rw [Array.getElem?_append]
  split
  ·exact hb.block k (by assumption)
  ·rw [Array.getElem?_extract];by_cases hk:k<w1.heap.size
   ·simp [show W.heap.size+(k - W.heap.size)=k by omega];intro h; omega
   ·rw [OF (by omega)];simp;intro h; omega
 obtain ⟨h1,h2,h3,h4,h5⟩:=w1;obtain ⟨g1,g2,g3,g4,g5⟩:=W;have q1:=hb.os;have q2:=hb.tape;have q3:=hb.output;simp only at q1 q2 q3 hd hh hs;subst q1 q2 q3;simp only [Go.Sort.grow,World.drewN,World.mk.injEq,true_and,and_true];exact ⟨hh,by omega⟩
theorem fJ {α:Type} [Inhabited α] {w0 w:World} {enc:α→List Value} {k bm off m:Nat} {dk:Array α} {os:Array Obj} (hb:Below w0.heap.size w0 w) (hk:w0.heap.size≤bm):Below w0.heap.size w0 (sortWorldK enc k w bm off m dk os):=by
 refine ⟨hb.os,hb.tape,hb.output,?_,fun j hj=>?_⟩
 ·exact Nw hb.size (size_sortWorldK_c enc k w bm off m dk os)
 ·rw [← hb.block j hj];show ((Go.Sort.mapBlock _ _ _).heap ++ os)[j]? = _;have hs:=hb.size;rw [Array.getElem?_append_left (by simp [Go.Sort.mapBlock,Go.Sort.ahead]; omega)];simp only [Go.Sort.mapBlock,Go.Sort.ahead,Array.getElem?_modify];rw [if_neg (by omega)]
theorem AX (a a':Option Addr) (cap cap':Nat) (x x':Int) (l l':List Vl) (w:World) (h:aM w a l) (h':aM w a' l') :
  Calls Tryz.prog 117 #[.agg #[.slice a l.length cap,.int .i64 x],.agg #[.slice a' l'.length cap',.int .i64 x']] w fun e w'=>e = .returned (.int .i64 (aG l l'))∧∃ q os',w'=Go.Sort.grow (w.drewN q) os':=by
 go_enter Tryz.func117,Tryz.ntmps117;go_wp2_with fail
 have b2:Below w.heap.size w ((w.alloc (.cells #[.slice a l.length cap,.int .i64 x] 58)).alloc (.cells #[.slice a' l'.length cap',.int .i64 x'] 58)):=((Nk _ _).alloc (Nj _) _).alloc (by simp) _;refine (A5 _ _ _ _ _ _ _ (h.next b2) (h'.next b2)).mono ?_;rintro e w1 ⟨rfl,hb1,hd1⟩;go_wp2
 go_ret;exact ⟨rfl,mL (KR hb1) hd1⟩
theorem FZ (w0 w:World) (hb:Below w0.heap.size w0 w) (bm off size:Nat) (hk:w0.heap.size≤bm):CmpLays Tryz.prog 117 #[] (il w0) 2 (LJ w0) bm off size w :=
 fun _ _ _ _ x y=>AX _ _ _ _ _ _ _ _ _ (x.2.next (fJ hb hk)) (y.2.next (fJ hb hk))
theorem Tryz.Hg:∀ w,(isAgg 58).run Tryz.prog w = .ok true w:=Tryz.isAgg58
theorem Tryz.CQ:∀ w,(Go.sizeOf 58).run Tryz.prog w = .ok 2 w:=Tryz.sizeOf58
theorem Jr (w0 w:World) (hb:Below w0.heap.size w0 w) (bm off cap:Nat) (hk:w0.heap.size≤bm) (d:Array (Zg w0)) (hH:Go.Sort.HoldsK (il w0) 2 w bm off d) (hblk:bm<w.heap.size) (hsz:d.size<4611686018427387904) :
  Calls Tryz.prog 116 #[.slice (some ⟨bm,off,none⟩) d.size cap,.func (.func 117) #[] #[]] w fun e w' =>
   e = .returned (.tuple #[])∧∃ d' n os,Go.Sort.PermIn 0 d.size d d'∧Go.Sort.SortedIn (ltOf (LJ w0)) 0 d.size d'∧w'=sortWorldK (il w0) 2 w bm off n d' os:=by
 have eg:∀ args w,(callFunc 117 args).run Tryz.prog w = .ok (.enter 117 args) w:=enters_of Tryz.func117 (by kernel_rfl) rfl
 exact AnyQ.slices_SortFunc Tryz.sortZ 2 Tryz.Hg Tryz.CQ (il w0) (fun _=>rfl) (fun x v hv=>by simp [il] at hv; rcases hv with rfl | rfl <;> rfl) (LJ w0) (MR w0) 117 #[] bm off cap d w eg (FZ w0 w hb bm off d.size hk) hH hblk hsz
set_option maxRecDepth 100000
set_option maxHeartbeats 16000000
theorem gM (b off i:Nat):(⟨b,off,none⟩:Addr).add i=⟨b,off+i,none⟩:=by
 unfold Addr.add;by_cases h:i=0 <;> simp [h]
theorem pL {w:World} (d:Array (Zg w)) (i:Nat) (h:i<d.size):(Go.Sort.flatK (il w) 2 d)[i*2]! = .slice d[i]!.1.a d[i]!.1.row.length d[i]!.1.cap:=by
 rw [Go.Sort.get_flatK _ _ _ _ (by omega),show i*2 / 2=i by omega,show i*2 % 2=0 by omega]; rfl
theorem tw {w:World} (d:Array (Zg w)) (i:Nat) (h:i<d.size):(Go.Sort.flatK (il w) 2 d)[i*2+1]! = .int .i64 d[i]!.1.w:=by
 rw [Go.Sort.get_flatK _ _ _ _ (by omega),show (i*2+1) / 2=i by omega,show (i*2+1) % 2=1 by omega]; rfl
theorem aL.arr {w:World} {a:Option Addr} {l:List Zp} (h:aL w a l):∃ d:Array (Zg w),d.size=l.length∧d.toList.map (FC w)=l ∧
  (l = []∨∃ b off,a=some ⟨b,off,none⟩∧b<w.heap.size∧∀ j,j<l.length*2→w.cell? ⟨b,off+j,none⟩=some (Go.Sort.flatK (il w) 2 d)[j]!):=by
 obtain ⟨_,rfl | ⟨b,off,e,hlt,hr⟩⟩:=h
 ·exact ⟨#[],rfl,rfl,.inl rfl⟩
 ·obtain ⟨f,hf⟩:=Go.Deep.choose_lt (α:=Zg w) (n:=l.length) (p:=fun i x=>∀ hi:i<l.length,FC w x=l[i]∧w.cell? ⟨b,off+i*2,none⟩=some (.slice x.1.a x.1.row.length x.1.cap)∧w.cell? ⟨b,off+i*2+1,none⟩=some (.int .i64 x.1.w)) (fun i hi=>by
   obtain ⟨c1,ai,ci,c0,si⟩:=hr i hi;exact ⟨⟨⟨ai,ci,l[i].1,l[i].2⟩,si⟩,fun _=>⟨rfl,c0,c1⟩⟩)
  have hd:∀ i,i<l.length→((Array.range l.length).map f)[i]! = f i:=fun i hi=>by simp [hi]
  refine ⟨(Array.range l.length).map f,by simp,?_,.inr ⟨b,off,e,hlt,?_⟩⟩
  ·apply List.ext_getElem
   ·simp
   ·intro i h1 h2;have:=(hf i h2 h2).1
    simpa using this
  ·intro j hj;have hi:j / 2<l.length:=by omega
   obtain ⟨_,g0,g1⟩:=hf (j / 2) hi hi;rcases Nat.mod_two_eq_zero_or_one j with h0 | h1
   ·have ej:j=j / 2*2:=by omega
    rw [ej,pL _ _ (by simpa using hi),hd _ hi];exact g0
   ·have ej:j=j / 2*2+1:=by omega
    rw [ej,tw _ _ (by simpa using hi),hd _ hi,← Nat.add_assoc];exact g1
theorem Eh {w W:World} {bm off:Nat} {d:Array (Zg w)} (hb:Below w.heap.size w W) (hH:Go.Sort.HoldsK (il w) 2 W bm off d) (hlt:bm<W.heap.size) (hl:d.size≤200000):aL W (some ⟨bm,off,none⟩) (d.toList.map (FC w)):=by
 refine ⟨by simp [maxLen]; omega,.inr ⟨bm,off,rfl,hlt,fun i hi=>?_⟩⟩;have hi':i<d.size:=by simpa using hi
 have e:d[i]! = d[i]:=getElem!_pos d i hi';have h0:=(hH (i*2) (by simp; omega)).1;have h1:=(hH (i*2+1) (by simp; omega)).1;rw [pL d i hi',e] at h0;rw [tw d i hi',e] at h1;simp only [Oe,OK];refine ⟨?_,d[i].1.a,d[i].1.cap,?_,d[i].2.next hb⟩
 ·rw [← Nat.add_assoc] at h1; exact h1
 ·exact h0
theorem iT {w W:World} {base g n cap:Nat} {d:Array (Zg w)} (hn:n=d.size) (h:W.ownsRow base 58 2 (.slice (some ⟨g,0,none⟩) n cap) n (Go.Sort.flatK (il w) 2 d).toList):Go.Sort.HoldsK (il w) 2 W g 0 d:=by
 intro j hj;have hj':j<n*2:=by rw [hn]; simpa using hj
 refine ⟨?_,?_⟩
 ·rw [Np,h.cellAt j hj'];show _=some (Go.Sort.flatK (il w) 2 d)[j]!;rw [OU,getElem!_pos (Go.Sort.flatK (il w) 2 d) j hj];exact Oc hj
 ·rw [Np]; exact h.frozenAt j
theorem yw (a:Option Addr) (cap:Nat) (l:List Zp) (w:World) (d:Array (Zg w)) (hd:d.size=l.length) (hl:l.length≤200000)
  (h:l = []∨∃ b off,a=some ⟨b,off,none⟩∧b<w.heap.size∧∀ j,j<l.length*2→w.cell? ⟨b,off+j,none⟩=some (Go.Sort.flatK (il w) 2 d)[j]!) :
  Calls Tryz.prog 115 #[.slice a l.length cap] w fun e w'=>∃ v,e = .returned v∧w'.ownsRow w.heap.size 58 2 v l.length (Go.Sort.flatK (il w) 2 d).toList∧Below w.heap.size w w':=by
 obtain ⟨i0,hi,hj0,hj1,hj2⟩:=info_parts Tryz.gX;have hone:∀ u ∈ (Go.Sort.flatK (il w) 2 d).toList,u.oneCell'=true:=by
  intro u hu;obtain ⟨j,hj,rfl⟩:=Ov hu;have hj':j<d.size*2:=by simpa using hj
  have e:(Go.Sort.flatK (il w) 2 d).toList[j]=(Go.Sort.flatK (il w) 2 d)[j]!:=by
   rw [OK,getElem!_pos]
  rw [e,Go.Sort.get_flatK _ _ _ _ hj'];rcases Nat.mod_two_eq_zero_or_one j with h0 | h1
  ·rw [h0]; rfl
  ·rw [h1]; rfl
 rcases a with _ | ad
 ·have e:l = []:=by
   rcases h with h | ⟨b,off,e,_⟩
   ·exact h
   ·cases e
  subst e;have d0:(Go.Sort.flatK (il w) 2 d).toList = []:=by
   apply Nu;simp [hd]
  rw [d0];rw [OV];have q22:∀ (w:World) (a:Option Addr) (n c n' c':Nat),(binOp .eql 34 (.slice a n c) (.slice none n' c')).run Tryz.prog w = .ok (.bool a.isNone) w:=fun w a n c n' c'=>Lib.run_eql_slice_nil w _ _ a n c n' c' Tryz.underlying34
  go_enter Tryz.func115,Tryz.ntmps115;go_wp2
  go_ret;exact ⟨_,rfl,NP _ _ _ _,Nk _ _⟩
 ·have q22:∀ (w:World) (a:Option Addr) (n c n' c':Nat),(binOp .eql 34 (.slice a n c) (.slice none n' c')).run Tryz.prog w = .ok (.bool a.isNone) w:=fun w a n c n' c'=>Lib.run_eql_slice_nil w _ _ a n c n' c' Tryz.underlying34
  go_enter Tryz.func115,Tryz.ntmps115;go_wp2_with (at_builtin; refine NZ _ rfl _ _ 34 rfl w.heap.size 58 i0 _ 2 32 Tryz.underlying34 hi hj0 hj1 hj2 rfl (by decide) _ _ _ rfl (Oq w #[] 0 (Nj _) (Nr _) (by simp)) ad l.length cap (Go.Sort.flatK (il w) 2 d).toList rfl ?qc1 ?qc2 hone ?qc4 ?qc5 ?qc6 ?_)
  case qc1=>simp [hd]
  case qc2 =>
   intro j u hj;have hj':j<d.size*2:=by
    rcases NY j (d.size*2) with h | h
    ·exact h
    ·rw [NW (by simpa using h)] at hj; cases hj
   rcases h with h | ⟨b,off,e,hlt,hc⟩
   ·subst h; simp at hd; subst hd; simp at hj'
   ·have e:=NU e;subst e;rw [gM];rw [OU,Oc (by simpa using hj')] at hj;have hj:=NU hj;have:=hc j (by omega);rw [getElem!_pos _ _ (by simpa using hj'),hj] at this;exact Lib.cell?_alloc_some _ this
  case qc4=>rw [Np]; unfold maxLen; omega
  case qc5=>rw [Np]; omega
  case qc6=>simp
  intro v' w1 hown hgrow _;have hb1:Below w.heap.size w w1:=((Nk _ _).alloc (Nj _) _).grown hgrow (by simp) (by simp [Value.ownBlock]);have hv:∃ a1 c1,v' = .slice a1 l.length c1:=by
   obtain ⟨_,⟨rfl,h0⟩ | ⟨g,c1,cur,rfl,_⟩⟩:=hown
   ·exact ⟨none,0,by rw [h0]⟩
   ·exact ⟨_,c1,rfl⟩
  obtain ⟨a1,c1,rfl⟩:=hv;clear hgrow;go_wp2
  go_ret;exact ⟨_,rfl,hown,hb1⟩
theorem Aq (m:Int) (hm:0≤m):∀ l:List Zp,(∀ x ∈ l,-m≤x.2∧x.2≤m)→∀ y ∈ bR l,-(m*l.length)≤y.2∧y.2≤m*l.length:=by
 refine tL (by simp [bR]) ?_;intro l x ih h y hy;have hx:=h x (by simp);have ih:=ih (fun u hu=>h u (by simp [hu]));rw [iG] at hy;have e:m*((l ++ [x]).length:Int)=m*l.length+m:=by
  simp only [Nx,Pd];rw [OM,Int.mul_add]; simp
 rw [e];have hp:0≤m*(l.length:Int):=Int.mul_nonneg hm (by omega);rcases List.eq_nil_or_concat (bR l) with e' | ⟨a,u,e'⟩
 ·rw [e',lW] at hy;simp at hy; subst hy; omega
 ·rw [e',Pe,iy] at hy;have hu:=ih u (by rw [e']; simp)
  split at hy
  ·simp at hy;rcases hy with hy | rfl
   ·have:=ih y (by rw [e']; simp [hy]); omega
   ·simp only; omega
  ·rcases List.mem_append.1 hy with hy | hy
   ·have:=ih y (by rw [e',Pe]; exact hy); omega
   ·simp at hy; subst hy; omega
theorem zC {w:World} {d d':Array (Zg w)} {n:Nat} (hn:d.size=n) (hp:Go.Sort.PermIn 0 n d d') (hs:Go.Sort.SortedIn (ltOf (LJ w)) 0 n d') :
  d'.size=n∧(d'.toList.map (FC w)).Perm (d.toList.map (FC w))∧(d'.toList.map (FC w)).Pairwise fun x y=>aG x.1 y.1≤0:=by
 obtain ⟨h1,_,h3⟩:=hp;have e1:d'.size=n:=h1.trans hn;have x1:d'.extract 0 n=d':=by rw [← e1]; exact Array.extract_size
 have x2:d.extract 0 n=d:=by rw [← hn]; exact Array.extract_size
 rw [x1,x2] at h3;refine ⟨e1,h3.map _,?_⟩;rw [List.pairwise_map,List.pairwise_iff_getElem];intro i j hi hj hij;have hi':i<d'.size:=by simpa using hi
 have hj':j<d'.size:=by simpa using hj
 have:=of_decide_eq_false (hs i j (Nr _) hij (by omega));rw [getElem!_pos d' i hi',getElem!_pos d' j hj'] at this;simp only [OK,FC];simp only [LJ] at this;have n1:=aZ d'[i].1.row d'[j].1.row;omega
def jF (W:World) (xs:List Value) (l:List Zp):Prop :=
 xs.length=l.length*2∧∀ (i:Nat) (h:i<l.length),∃ a cap,xs[i*2]? = some (.slice a l[i].1.length cap)∧xs[i*2+1]? = some (.int .i64 l[i].2)∧aM W a l[i].1
theorem jF.push {W:World} {xs:List Value} {l:List Zp} (h:jF W xs l) {a:Option Addr} {cap:Nat} {x:Zp} (hs:aM W a x.1):jF W (xs ++ [.slice a x.1.length cap,.int .i64 x.2]) (l ++ [x]):=by
 have lx:=h.1;refine ⟨by simp [lx]; omega,fun i hi=>?_⟩;by_cases hi':i<l.length
 ·obtain ⟨a',c',h1,h2,h3⟩:=h.2 i hi';refine ⟨a',c',?_,?_,?_⟩
  ·rw [NC (by omega),h1,Ny hi']
  ·rw [NC (by omega),h2,Ny hi']
  ·rw [Ny hi']; exact h3
 ·have:i=l.length:=by simp at hi; omega
  subst this;refine ⟨a,cap,?_,?_,?_⟩
  ·rw [NG (by omega)]; simp [lx]
  ·rw [NG (by omega)]; simp [lx]
  ·simpa using hs
theorem jF.last {W:World} {xs:List Value} {l:List Zp} {y:Zp} (h:jF W xs (l ++ [y])) (z:Int):jF W (xs.set (l.length*2+1) (.int .i64 z)) (l ++ [(y.1,z)]):=by
 have lx:=h.1;refine ⟨by simpa using lx,fun i hi=>?_⟩;have hi0:i<(l ++ [y]).length:=by simpa using hi
 obtain ⟨a',c',h1,h2,h3⟩:=h.2 i hi0;by_cases hi':i<l.length
 ·rw [Ny hi'] at h1 h2 h3 ⊢;refine ⟨a',c',?_,?_,h3⟩
  ·rw [NB (by omega)]; exact h1
  ·rw [NB (by omega)]; exact h2
 ·have:i=l.length:=by simp at hi; omega
  subst this;simp only [OS] at h1 h2 h3 ⊢;refine ⟨a',c',?_,?_,h3⟩
  ·rw [NB (by omega)]; exact h1
  ·rw [List.getElem?_set_self (by rw [lx]; simp; omega)]
theorem my {W:World} {base n:Nat} {v:Value} {xs:List Value} (h:W.ownsRow base 58 2 v n xs):∃ a c,v = .slice a n c:=by
 obtain ⟨_,⟨rfl,h0⟩ | ⟨g,c1,cur,rfl,_⟩⟩:=h
 ·exact ⟨none,0,by rw [h0]⟩
 ·exact ⟨_,c1,rfl⟩
theorem sZ {W:World} {base n:Nat} {v:Value} {xs:List Value} (h:W.ownsRow base 58 2 v n xs) (hn:0<n):∃ g c,v = .slice (some ⟨g,0,none⟩) n c∧base≤g∧g<W.heap.size:=by
 have h':=h;obtain ⟨_,⟨rfl,h0⟩ | ⟨g,c1,cur,rfl,hg,_⟩⟩:=h
 ·omega
 ·exact ⟨g,c1,rfl,hg,(h'.lt g rfl).2⟩
theorem wg {W w2:World} {base n:Nat} {v:Value} {xs:List Value} {l:List Zp} (h:W.ownsRow base 58 2 v n xs) (hn:n=l.length) (he:jF w2 xs l) (hb:Below w2.heap.size w2 W):∃ a cap,v = .slice a l.length cap∧aL W a l:=by
 subst hn;have h1':=h;obtain ⟨hx,h1 | ⟨g,cap,cur,e,hg,hh,hn,hc,hs,ht⟩⟩:=h
 ·obtain ⟨rfl,h0⟩:=h1;have:l = []:=Nu h0;subst this;exact ⟨none,0,rfl,Nr _,.inl rfl⟩
 ·subst e;refine ⟨_,cap,rfl,Nw hn hc,.inr ⟨g,0,rfl,(h1'.lt g rfl).2,?_⟩⟩;intro i hi;obtain ⟨a,cp,e0,e1,e2⟩:=he.2 i hi;refine ⟨?_,a,cp,?_,e2.next hb⟩
  ·rw [h1'.cellAt _ (by omega),← e1]; congr 1; omega
  ·rw [h1'.cellAt _ (by omega),← e0]; congr 1; omega
def mR (w2 wr:World) (v:Value) (acc:List Zp):Prop:=∃ xs,wr.ownsRow w2.heap.size 58 2 v acc.length xs∧jF w2 xs acc
theorem mR.next {w2 wr w3:World} {v:Value} {acc:List Zp} (h:mR w2 wr v acc) (hb:Below wr.heap.size wr w3):mR w2 w3 v acc:=by
 obtain ⟨xs,h1,h2⟩:=h;exact ⟨xs,aS h1 hb,h2⟩
theorem mR.last {w2 wr:World} {g c:Nat} {a:List Zp} {y:Zp} (h:mR w2 wr (.slice (some ⟨g,0,none⟩) (a.length+1) c) (a ++ [y])) (z:Int) :
  mR w2 (wr.setCell ⟨g,a.length*2+1,none⟩ (.int .i64 z)) (.slice (some ⟨g,0,none⟩) (a.length+1) c) (a ++ [(y.1,z)]):=by
 obtain ⟨xs,h1,h2⟩:=h;have e:(a ++ [y]).length=a.length+1:=by simp
 rw [e] at h1;refine ⟨_,?_,h2.last z⟩;have:=(h1.stored (a.length*2+1) (.int .i64 z)).1
 simpa using this
def uh (w:Int):Bool:=decide (-1000000000000≤w) && decide (w≤1000000000000)
theorem lP (x:Int):uh x=true ↔ -1000000000000≤x∧x≤1000000000000:=by simp [uh]
theorem gr (x:Int):hJ x=true ↔ -1000000≤x∧x≤1000000:=by simp [hJ]
theorem ov {x:Int} (h:hJ x=true):uh x=true:=by
 rw [gr] at h;rw [lP];omega
theorem zq (a:Option Addr) (cap:Nat) (l:List Zp) (w:World) (h:aL w a l) (hl:l.length≤200000) (hn:0<l.length) (hw:∀ x ∈ l,uh x.2=true) :
  Calls Tryz.prog 91 #[.slice a l.length cap] w fun e w'=>∃ s a' c',e = .returned (.slice a' (bR s).length c')∧s.Perm l∧(s.Pairwise fun x y=>aG x.1 y.1≤0)∧aL w' a' (bR s)∧Below w.heap.size w w':=by
 obtain ⟨i0,hi,hj0,hj1,hj2⟩:=info_parts Tryz.gX;obtain ⟨d,hd,hdl,hc⟩:=h.arr;go_enter Tryz.func91,Tryz.ntmps91;go_wp2_with fail
 refine (yw a cap l w d hd (by omega) hc).mono ?_;rintro e w1 ⟨v,rfl,hown,hb1⟩;obtain ⟨g,c,rfl,hg,hgl⟩:=sZ hown hn;have hH:=iT hd.symm hown;have hH:=iT hd.symm hown;have hH:=iT hd.symm hown;have hH:=iT hd.symm hown;have hH:=iT hd.symm hown;have con:=Jr w w1 hb1 g 0 c hg d hH hgl (by omega);rw [hd] at con;have HN:Hid (0<l.length):=hn;clear hn hown hc;go_wp2_with fail
 refine con.mono ?_;clear con;rintro e w2 ⟨rfl,d',n,os,hp,hs,hw2⟩;obtain ⟨hd',hperm,hsort⟩:=zC hd hp hs;rw [hdl] at hperm;have hb2:Below w.heap.size w w2:=by rw [hw2]; exact fJ hb1 hg
 have hgl2:g<w2.heap.size:=by
  rw [hw2];exact Nn hgl (size_sortWorldK_c (il w) 2 w1 g 0 n d' os)
 have zs:aL w2 (some ⟨g,0,none⟩) (d'.toList.map (FC w)):=by
  refine Eh hb2 ?_ hgl2 (by omega);rw [hw2];exact holdsK_sortWorldK_c (il w) 2 w1 g 0 d d' n os hH hgl (by omega)
 generalize hs0:d'.toList.map (FC w)=s at hperm hsort zs;have hsl:s.length=l.length:=by rw [← hs0]; simp [hd']
 have hws:∀ x ∈ s,uh x.2=true:=fun x hx=>hw x (hperm.mem_iff.1 hx)
 have HP:Hid (s.Perm l):=hperm;have HSo:Hid (s.Pairwise fun x y=>aG x.1 y.1≤0):=hsort;clear hperm hsort hw2 hs0 hd' hp hs hH hdl hd hgl h hw;rw [← hsl];rw [← hsl] at hl;clear HN;go_wp2_with fail
 go_loopw [3,13] (fun v i wr=>∃ k:Nat,k≤s.length∧i = .int .i64 k∧mR w2 wr v (bR (s.take k))∧Below w2.heap.size w2 wr) (fun _ i _=>s.length - (intOf i).toNat)
 case atStart=>exact ⟨0,Nr _,rfl,⟨[],NP _ _ _ _,rfl,fun i hi=>by simp [bR] at hi⟩,Nk _ _⟩
 case round =>
  obtain ⟨k,hk,rfl,HS,hb⟩:=hrel;have hz:=hb.size;by_cases hlt:k<s.length
  ·obtain ⟨b,off,hh,hbl,c1,ar,cr,c0,sr⟩:=(zs.next hb).elem hlt;obtain ⟨b',off',hh',hbl',c1',ar',cr',c0',sr'⟩:=zs.elem hlt;simp only [OO,Addr.mk.injEq,and_true] at hh hh';obtain ⟨rfl,rfl⟩:=hh;obtain ⟨rfl,rfl⟩:=hh';have ee:=(hb.cell (p:=⟨g,_,none⟩) hgl2).trans c0';rw [c0] at ee;simp only [OO,Value.slice.injEq,true_and] at ee;obtain ⟨rfl,rfl⟩:=ee;clear c0' c1' hbl';simp only [Np] at c0 c1;have step:Hid (bR (s.take (k+1))=jw (bR (s.take k)) s[k]):=by
    show bR (s.take (k+1))=_;rw [Nz hlt,iG]
   have hlen:=qy (s.take k);simp only [NN] at hlen;have hbd:=Aq 1000000000000 (by omega) (s.take k) (fun x hx=>(lP _).1 (hws x (List.mem_of_mem_take hx)));have hx:=(lP _).1 (hws s[k] (Ns hlt));generalize hacc:bR (s.take k)=acc at HS step hlen hbd;clear hacc;rcases List.eq_nil_or_concat acc with e | ⟨a',y,e⟩
   ·subst e;obtain ⟨xs,ho,he⟩:=HS;obtain ⟨a3,c3,rfl⟩:=my ho;simp only [OV] at ho;have hbA:=aa wr (.cells #[.slice ar s[k].1.length cr,.int .i64 s[k].2] 58);have q0:(wr.alloc (.cells #[.slice ar s[k].1.length cr,.int .i64 s[k].2] 58)).cell? ⟨wr.heap.size,0,none⟩=some (.slice ar s[k].1.length cr):=by simp
    have q1:(wr.alloc (.cells #[.slice ar s[k].1.length cr,.int .i64 s[k].2] 58)).cell? ⟨wr.heap.size,1,none⟩=some (.int .i64 s[k].2):=by simp
    haveI:Nonempty (bW (wr.alloc (.cells #[.slice ar s[k].1.length cr,.int .i64 s[k].2] 58))):=⟨⟨_,Nk _ _⟩⟩
    simp only [OV];go_wp2_with fail
    generalize wr.alloc (.cells #[.slice ar s[k].1.length cr,.int .i64 s[k].2] 58)=wA at *;refine aq (by kernel_rfl) (by kernel_rfl) ?_
    repeat (go_big_quiet_step (fail))
    refine wpQuiet_nil ?_;rintro w4 ⟨⟨v4,hb4⟩,h4⟩;obtain rfl:w4=v4:=h4;have ho4:=aS (aS ho hbA) hb4;have r0:=(hb4.cell (p:=⟨wr.heap.size,0,none⟩) (Nt _ _ q0)).trans q0;have r1:=(hb4.cell (p:=⟨wr.heap.size,1,none⟩) (Nt _ _ q1)).trans q1;have hzA:=hbA.size;have hz4:=hb4.size;clear ho
    go_wp2_with (at_builtin; refine NZ _ rfl _ _ 34 rfl w2.heap.size 58 i0 _ 2 32 Tryz.underlying34 hi hj0 hj1 hj2 rfl (by decide) _ _ _ rfl (ho4.alloc _) ⟨w4.heap.size,0,none⟩ 1 1 [.slice ar s[k].1.length cr,.int .i64 s[k].2] rfl rfl ?Ac1 ?Ac2 ?Ac3 ?Ac4 ?Ac5 ?_)
    case Ac1 =>
     intro j u hj
     match j,hj with
     | 0,hj=>simp at hj; subst hj; simp [Addr.add]
     | 1,hj=>simp at hj; subst hj; simp [Addr.add]
    case Ac2=>intro u hu; simp at hu; rcases hu with rfl | rfl <;> rfl
    case Ac3=>unfold maxLen; first | omega | (simp; done) | (simp; omega)
    case Ac4=>first | omega | (simp; done) | (simp; omega)
    case Ac5=>simp; omega
    intro v' w5 ho5 hg5 _;have hb5:Below w2.heap.size w2 w5:=((bS hb (bS hbA hb4)).alloc (by omega) _).grown hg5 (by simp; omega) (fun q hq=>((ho4.alloc (.cells #[.slice ar s[k].1.length cr,.int .i64 s[k].2] 58)).lt q hq).1);clear hg5 ho4 q0 q1;go_wp2
    go_roundw
    case rel=>exact ⟨k+1,by omega,by go_num,by rw [step.out,lW]; exact ⟨_,ho5,he.push sr'⟩,hb5⟩
    case measure=>simp [intOf]; omega
   ·rw [Pe] at e;subst e;by_cases hc:aG y.1 s[k].1=0
    ·have HS0:=HS;obtain ⟨xs,ho,he⟩:=HS;obtain ⟨g3,c3,rfl,hg3,hg3l⟩:=sZ ho (by simp);obtain ⟨ay,cy,x0,x1,sy⟩:=he.2 a'.length (by simp);simp only [OS] at x0 x1 sy;have y0:wr.cell? ⟨g3,a'.length*2,none⟩=some (.slice ay y.1.length cy):=by rw [ho.cellAt _ (by simp <;> omega)]; exact x0
     have y1:wr.cell? ⟨g3,a'.length*2+1,none⟩=some (.int .i64 y.2):=by rw [ho.cellAt _ (by simp <;> omega)]; exact x1
     have f1:wr.frozen? ⟨g3,a'.length*2+1,none⟩=false:=ho.frozenAt _;have el:(a' ++ [y]).length=a'.length+1:=by simp
     rw [el] at ho HS0 ⊢;have hy:=hbd y (by simp);rw [el] at hlen;have hkk:((s.take k).length:Int)≤200000:=by rw [NN]; omega
     have hbA:=aa wr (.cells #[.slice ar s[k].1.length cr,.int .i64 s[k].2] 58);have q0:(wr.alloc (.cells #[.slice ar s[k].1.length cr,.int .i64 s[k].2] 58)).cell? ⟨wr.heap.size,0,none⟩=some (.slice ar s[k].1.length cr):=by simp
     have q1:(wr.alloc (.cells #[.slice ar s[k].1.length cr,.int .i64 s[k].2] 58)).cell? ⟨wr.heap.size,1,none⟩=some (.int .i64 s[k].2):=by simp
     have y0A:=(hbA.cell (p:=⟨g3,_,none⟩) hg3l).trans y0;have y1A:=(hbA.cell (p:=⟨g3,_,none⟩) hg3l).trans y1;have f1A:=(hbA.frozen (p:=⟨g3,_,none⟩) hg3l).trans f1;have hgA:g3<(wr.alloc (.cells #[.slice ar s[k].1.length cr,.int .i64 s[k].2] 58)).heap.size:=Nn hg3l hbA.size;haveI:Nonempty (bW (wr.alloc (.cells #[.slice ar s[k].1.length cr,.int .i64 s[k].2] 58))):=⟨⟨_,Nk _ _⟩⟩
     have sA:=sr.next hbA;have tA:=(sy.next hb).next hbA;have e1:((a'.length+1:Nat):Int) - 1=(a'.length:Int):=by omega
     have i1:(0:Int)≤(a'.length:Int):=by omega
     have i2:(a'.length:Int)<((a'.length+1:Nat):Int):=by omega
     have i3:a'.length<a'.length+1:=by omega
     clear y0 y1 f1 x0 x1;have HC:Hid (aG y.1 s[k].1=0):=hc;go_wp2_with fail
     generalize wr.alloc (.cells #[.slice ar s[k].1.length cr,.int .i64 s[k].2] 58)=wA at *;have p0:=ag y0A;have p1:=ag q0;refine aq (by kernel_rfl) (by kernel_rfl) ?_
     repeat (go_big_quiet_step (first | (go_at_call 73; exact bE (nJ _ _ _ _ _ _ _ (tA.next (bW.ok _)) (sA.next (bW.ok _))))))
     refine wpQuiet_nil ?_;rintro w4 ⟨⟨v4,hb4⟩,h4⟩;obtain rfl:w4=v4:=h4;clear p0 p1;have r0:=(hb4.cell (p:=⟨wr.heap.size,0,none⟩) (Nt _ _ q0)).trans q0;have r1:=(hb4.cell (p:=⟨wr.heap.size,1,none⟩) (Nt _ _ q1)).trans q1;have z0:=(hb4.cell (p:=⟨g3,_,none⟩) hgA).trans y0A;have z1:=(hb4.cell (p:=⟨g3,_,none⟩) hgA).trans y1A;have zf:=(hb4.frozen (p:=⟨g3,_,none⟩) hgA).trans f1A;have hzA:=hbA.size;have hz4:=hb4.size;have HS4:=(HS0.next hbA).next hb4;clear ho y0A y1A f1A q0 q1;have hv1:-9223372036854775808≤y.2+s[k].2:=by omega
     have hv2:y.2+s[k].2≤9223372036854775807:=by omega
     go_wp2_with fail
     go_region
     have hb5:Below w2.heap.size w2 (w4.setCell ⟨g3,a'.length*2+1,none⟩ (.int .i64 (y.2+s[k].2))).drew:=((bS hb (bS hbA hb4)).setCell (p:=⟨g3,a'.length*2+1,none⟩) hg3 _).drew;have HS5:mR w2 (w4.setCell ⟨g3,a'.length*2+1,none⟩ (.int .i64 (y.2+s[k].2))).drew (.slice (some ⟨g3,0,none⟩) (a'.length+1) c3) (a' ++ [(y.1,y.2+s[k].2)]):=(HS4.last _).next ((Nk _ _).drew);clear HS4 HS0 z0 z1 zf r0 r1;go_wp2
     go_roundw
     case rel=>exact ⟨k+1,by omega,by go_num,by rw [step.out,iy,if_pos HC.out]; exact HS5,hb5⟩
     case measure=>simp [intOf]; omega
    ·have HS0:=HS;obtain ⟨xs,ho,he⟩:=HS;obtain ⟨g3,c3,rfl,hg3,hg3l⟩:=sZ ho (by simp);obtain ⟨ay,cy,x0,x1,sy⟩:=he.2 a'.length (by simp);simp only [OS] at x0 x1 sy;have y0:wr.cell? ⟨g3,a'.length*2,none⟩=some (.slice ay y.1.length cy):=by rw [ho.cellAt _ (by simp <;> omega)]; exact x0
     have y1:wr.cell? ⟨g3,a'.length*2+1,none⟩=some (.int .i64 y.2):=by rw [ho.cellAt _ (by simp <;> omega)]; exact x1
     have f1:wr.frozen? ⟨g3,a'.length*2+1,none⟩=false:=ho.frozenAt _;have el:(a' ++ [y]).length=a'.length+1:=by simp
     rw [el] at ho HS0 ⊢;have hy:=hbd y (by simp);rw [el] at hlen;have hkk:((s.take k).length:Int)≤200000:=by rw [NN]; omega
     have hbA:=aa wr (.cells #[.slice ar s[k].1.length cr,.int .i64 s[k].2] 58);have q0:(wr.alloc (.cells #[.slice ar s[k].1.length cr,.int .i64 s[k].2] 58)).cell? ⟨wr.heap.size,0,none⟩=some (.slice ar s[k].1.length cr):=by simp
     have q1:(wr.alloc (.cells #[.slice ar s[k].1.length cr,.int .i64 s[k].2] 58)).cell? ⟨wr.heap.size,1,none⟩=some (.int .i64 s[k].2):=by simp
     have y0A:=(hbA.cell (p:=⟨g3,_,none⟩) hg3l).trans y0;have y1A:=(hbA.cell (p:=⟨g3,_,none⟩) hg3l).trans y1;have f1A:=(hbA.frozen (p:=⟨g3,_,none⟩) hg3l).trans f1;have hgA:g3<(wr.alloc (.cells #[.slice ar s[k].1.length cr,.int .i64 s[k].2] 58)).heap.size:=Nn hg3l hbA.size;haveI:Nonempty (bW (wr.alloc (.cells #[.slice ar s[k].1.length cr,.int .i64 s[k].2] 58))):=⟨⟨_,Nk _ _⟩⟩
     have sA:=sr.next hbA;have tA:=(sy.next hb).next hbA;have e1:((a'.length+1:Nat):Int) - 1=(a'.length:Int):=by omega
     have i1:(0:Int)≤(a'.length:Int):=by omega
     have i2:(a'.length:Int)<((a'.length+1:Nat):Int):=by omega
     have i3:a'.length<a'.length+1:=by omega
     clear y0 y1 f1 x0 x1;have HC:Hid (¬ aG y.1 s[k].1=0):=hc;have b0:(aG y.1 s[k].1 == 0)=false:=by simpa using hc
     go_wp2_with fail
     generalize wr.alloc (.cells #[.slice ar s[k].1.length cr,.int .i64 s[k].2] 58)=wA at *;have p0:=ag y0A;have p1:=ag q0;refine aq (by kernel_rfl) (by kernel_rfl) ?_
     repeat (go_big_quiet_step (first | (go_at_call 73; exact bE (nJ _ _ _ _ _ _ _ (tA.next (bW.ok _)) (sA.next (bW.ok _))))))
     refine wpQuiet_nil ?_;rintro w4 ⟨⟨v4,hb4⟩,h4⟩;obtain rfl:w4=v4:=h4;clear p0 p1;have r0:=(hb4.cell (p:=⟨wr.heap.size,0,none⟩) (Nt _ _ q0)).trans q0;have r1:=(hb4.cell (p:=⟨wr.heap.size,1,none⟩) (Nt _ _ q1)).trans q1;have z0:=(hb4.cell (p:=⟨g3,_,none⟩) hgA).trans y0A;have z1:=(hb4.cell (p:=⟨g3,_,none⟩) hgA).trans y1A;have zf:=(hb4.frozen (p:=⟨g3,_,none⟩) hgA).trans f1A;have hzA:=hbA.size;have hz4:=hb4.size;have ho4:=aS (aS ho hbA) hb4;clear ho y0A y1A f1A
     go_wp2_with (at_builtin; refine NZ _ rfl _ _ 34 rfl w2.heap.size 58 i0 _ 2 32 Tryz.underlying34 hi hj0 hj1 hj2 rfl (by decide) _ _ _ rfl (ho4.alloc _) ⟨w4.heap.size,0,none⟩ 1 1 [.slice ar s[k].1.length cr,.int .i64 s[k].2] rfl rfl ?Bc1 ?Bc2 ?Bc3 ?Bc4 ?Bc5 ?_)
     case Bc1 =>
      intro j u hj
      match j,hj with
      | 0,hj=>simp at hj; subst hj; simp [Addr.add]
      | 1,hj=>simp at hj; subst hj; simp [Addr.add]
     case Bc2=>intro u hu; simp at hu; rcases hu with rfl | rfl <;> rfl
     case Bc3=>unfold maxLen; first | omega | (simp; done) | (simp; omega)
     case Bc4=>first | omega | (simp; done) | (simp; omega)
     case Bc5=>simp; omega
     intro v' w5 ho5 hg5 _;have hb5:Below w2.heap.size w2 w5:=((bS hb (bS hbA hb4)).alloc (by omega) _).grown hg5 (by simp; omega) (fun q hq=>((ho4.alloc (.cells #[.slice ar s[k].1.length cr,.int .i64 s[k].2] 58)).lt q hq).1);clear hg5 ho4 q0 q1;go_wp2
     go_roundw
     case rel=>exact ⟨k+1,by omega,by go_num,by rw [step.out,iy,if_neg HC.out]; exact ⟨_,by simpa using ho5,he.push sr'⟩,hb5⟩
     case measure=>simp [intOf]; omega
  ·have e:k=s.length:=by omega
   subst e;rw [NL] at HS;obtain ⟨xs,ho,he⟩:=HS;obtain ⟨a3,c3,rfl,z3⟩:=wg ho rfl he hb;go_wp2
   go_ret;exact ⟨s,a3,c3,rfl,HP.out,HSo.out,z3,hb2.trans (hb.mono hb2.size)⟩
end Go.Proofs.YtohjlfhmnmcndaaGreat
