/- Together: ZF, ZG, Q2, K8, J5, J6, Ext2, J7, S6. -/
import Derived.Laws.EntriesVeiled
import Derived.OrdersHeld
import Derived.RegionTactic
import Derived.Maps.AppendAt
import Derived.Shelf.Lay
import Derived.Test.YtjebpkhkjkjphaaGreatP6
import Derived.Test.YtjebpkhkjkjphaaGreatP5
import Derived.Test.YtjebpkhkjkjphaaGreatP1
import Derived.Test.YtjebpkhkjkjphaaGreatP0
namespace Go.Proofs.YtjebpkhkjkjphaaGreat
open Go.RowKit Go.Lib Go.Shelf
set_option maxRecDepth 100000
set_option maxHeartbeats 16000000
def gQ (l l':List Zp):Nat→List Zp
 | 0=>[]
 | 1=>l
 | _=>l ++ l'
structure wi (w:World) (B:Nat) (l l':List Zp):Prop where
 lt:B<w.heap.size
 at_:∀ k,k<2→∃ a cap ls,w.cell? ⟨B,k,none⟩=some (.slice a ls.length cap)∧bc w a ls∧(a=none→cap=0)∧gQ l l' (k+1)=gQ l l' k ++ ls
theorem wi.next {w w1:World} {B:Nat} {l l':List Zp} (h:wi w B l l') (hb:Below w.heap.size w w1):wi w1 B l l' :=
 ⟨Mh h.lt hb.size,fun k hk=>by
  obtain ⟨a,cap,ls,h1,h2,h3,h4⟩:=h.at_ k hk
  exact ⟨a,cap,ls,(hb.cell (p:=⟨B,k,none⟩) h.lt).trans h1,h2.next hb,h3,h4⟩⟩
theorem nP (l l':List Zp) (k:Nat):(gQ l l' k).length≤l.length+l'.length:=by
 match k with
 | 0=>simp [gQ]
 | 1=>simp [gQ]
 | n+2=>simp [gQ]
theorem sI (B:Nat) (l l':List Zp) (w:World) (h:wi w B l l') (hl:l.length+l'.length≤200000) :
  Calls Tryz.prog 92 #[.slice (some ⟨B,0,none⟩) 2 2] w fun e w'=>∃ a cap,e = .returned (.slice a (l ++ l').length cap)∧bc w' a (l ++ l')∧(a=none→cap=0)∧Below w.heap.size w w':=by
 obtain ⟨i0,hi,hj0,hj1,hj2⟩:=info_parts Tryz.gH;go_enter Tryz.func92,Tryz.ntmps92;go_wp2_with fail
 go_loopw [3,11] (fun sz i wr=>∃ k:Nat,k≤2∧i = .int .i64 k∧sz = .int .i64 ((gQ l l' k).length:Int)∧wr=w) (fun _ i _=>2 - (intOf i).toNat)
 case atStart=>exact ⟨0,by omega,rfl,rfl,rfl⟩
 case round =>
  obtain ⟨k,hk,rfl,rfl,rfl⟩:=hrel;have hcl:=nP l l' k;by_cases hlt:k<2
  ·obtain ⟨a,cap,ls,c0,zs,hnil,hcat⟩:=h.at_ k hlt;have hcl2:=nP l l' (k+1);rw [hcat,Mw] at hcl2;have HCat:=aw hcat;clear hcat;generalize hq:gQ l l' k=q at *;have HQ:=aw hq;clear hq;go_wp2
   go_roundw
   case rel=>exact ⟨k+1,by omega,by go_num,by rw [HCat.out,Mw]; go_num,by first | rfl | trivial⟩
   case measure=>simp [intOf]; omega
  ·have e:k=2:=by omega
   subst e;have el:((gQ l l' 2).length:Int)=((l ++ l').length:Nat):=rfl;have gc:=GO (l.length+l'.length) (by omega) wr;rw [Int.natCast_add] at gc;go_wp2_with fail
   refine gc.mono ?_;clear gc el;rintro e w1 ⟨v,rfl,ho,hb1⟩;obtain ⟨a1,c1,rfl⟩:=lQ ho;have HS0:lU wr w1 (.slice a1 0 c1) (gQ l l' 0):=⟨[],ho,rfl,fun i hi=>by simp [gQ] at hi⟩
   clear ho;go_wp2_with fail
   generalize hw0:wr=w0 at *;have HW0:=aw hw0;clear hw0;go_loopw [6,27] (fun v i ws=>∃ k:Nat,k≤2∧i = .int .i64 k∧lU w0 ws v (gQ l l' k)∧Below w0.heap.size w0 ws) (fun _ i _=>2 - (intOf i).toNat)
   case atStart=>exact ⟨0,by omega,rfl,HS0,hb1⟩
   case round =>
    clear HS0;obtain ⟨k,hk,rfl,HS,hb⟩:=hrel;have hz:=hb.size;obtain ⟨xs,ho,he⟩:=HS;by_cases hlt:k<2
    ·obtain ⟨a,cap,ls,c0,zs,hnil,hcat⟩:=h.at_ k hlt;have hcl2:=nP l l' (k+1);rw [hcat,Mw] at hcl2;have HCat:=aw hcat;clear hcat;obtain ⟨news,en,e1,en0,ec⟩:=JX zs;have c0':=(hb.cell (p:=⟨B,k,none⟩) h.lt).trans c0;clear c0;generalize gQ l l' k=q at *;obtain ⟨a3,c3,rfl⟩:=lQ ho;rcases a with _ | ad
     ·have hls:=en0 rfl;have hcp:=hnil rfl;subst hls hcp;go_wp2_with (at_builtin; refine wpList_append_own_none rfl _ _ 37 rfl w0.heap.size 63 i0 2 Tryz.underlying37 hi _ _ _ rfl ho rfl ?_)
      go_roundw
      case rel=>exact ⟨k+1,by omega,by go_num,by rw [HCat.out,Nm]; exact ⟨xs,ho,he⟩,hb⟩
      case measure=>simp [intOf]; omega
     ·have ec':∀ j u,news[j]? = some u→wr.cell? (ad.add j)=some u:=fun j u hj=>by
       have:=ec ad rfl j u hj;rw [hb.cell (Mm _ _ this)];exact this
      go_wp2_with (at_builtin; refine M9 _ rfl _ _ 37 rfl w0.heap.size 63 i0 _ 2 32 Tryz.underlying37 hi hj0 hj1 hj2 rfl (by decide) _ _ _ rfl ho ad ls.length cap news rfl en.1 ec' e1 (by unfold maxLen; omega) (by omega) (by omega) ?_)
      intro v' w5 ho5 hg5 _;have hb5:Below w0.heap.size w0 w5:=hb.grown hg5 hz (fun q hq=>(ho.lt q hq).1);clear hg5 ho;go_wp2
      go_roundw
      case rel=>exact ⟨k+1,by omega,by go_num,by rw [HCat.out]; exact ⟨_,by simpa using ho5,vD he en⟩,hb5⟩
      case measure=>simp [intOf]; omega
    ·have e:k=2:=by omega
     subst e;obtain ⟨a3,c3,e3,z3⟩:=tW ho rfl he hb;have hn3:a3=none→c3=0:=by
      intro e;subst e;obtain ⟨_,⟨e4,_⟩ | ⟨g,c1,cur,e4,_⟩⟩:=ho
      ·rw [e3] at e4; injection e4
      ·rw [e3] at e4; injection e4 with e4; cases e4
     subst e3;go_wp2
     go_ret;exact ⟨a3,c3,rfl,z3,hn3,by rw [HW0.out]; exact hb⟩
theorem dH.KH {base:Nat} {W:World} {v:Value} {l:List Zp} (h:dH base W v l):∃ a cap,v = .slice a l.length cap∧bc W a l∧(a=none→cap=0):=by
 obtain ⟨a,cap,rfl,z⟩:=h.zs;refine ⟨a,cap,rfl,z,?_⟩;intro e;subst e;obtain ⟨xs,⟨_,⟨e4,_⟩ | ⟨g,c1,cur,e4,_⟩⟩,_⟩:=h
 ·injection e4
 ·injection e4 with e4; cases e4
def bK (t:Int) (w:Int):Int:=t*w
def fl (t:Int) (a b:List Zp):Int:=if aR a=0 then (if aR b=0 then bh (a ++ aM (bK t) b) else aR b) else aR a
def eF (t:Int) (a b:List Zp):List Zp:=if fl t a b=0 then canon (a ++ aM (bK t) b) else []
theorem Lw:∀ args w,(callFunc 126 args).run Tryz.prog w = .ok (.enter 126 args) w:=enters_of Tryz.func126 (by kernel_rfl) rfl
theorem GZ (w:World) (B:Nat) (t:Int) (hB:w.cell? ⟨B,0,none⟩=some (.int .i64 t)) (ht:t=1∨t = -1):sm 126 #[.pointer (some ⟨B,0,none⟩)] (bK t) w:=by
 intro x W hx hb;have hx:=(jb _).1 hx;have hc:=(hb.cell (p:=⟨B,0,none⟩) (Mm _ _ hB)).trans hB;show Calls Tryz.prog 126 #[.int .i64 x,.pointer (some ⟨B,0,none⟩)] W _;have e:bK t x=t*x:=rfl;rw [e];rcases ht with rfl | rfl
 ·go_enter Tryz.func126,Tryz.ntmps126;go_wp2
  go_ret;exact ⟨aN (by omega),Md _ _⟩
 ·go_enter Tryz.func126,Tryz.ntmps126;go_wp2
  go_ret;exact ⟨aN (by omega),Md _ _⟩
theorem By (t:Int) (ht:t=1∨t = -1) (x:Int) (h:lZ x=true):lZ (bK t x)=true:=by
 rw [jb] at *;unfold bK;rcases ht with rfl | rfl <;> omega
theorem nm (t:Int) (ht:t=1∨t = -1) (a b:Option Addr) (ca cb:Nat) (l l':List Zp) (w:World) (h:bc w a l) (h':bc w b l') (hn:a=none→ca=0) :
  Calls Tryz.prog 94 #[.slice a l.length ca,.slice b l'.length cb,.int .i64 t] w fun e w'=>∃ v,e = .returned (.tuple #[v,.int .i64 (fl t l l')])∧dH w.heap.size w' v (eF t l l')∧Below w.heap.size w w':=by
 have bA:Below w.heap.size w ((w.alloc (.cells #[.int .i64 t] 2)).alloc (.cells #[.slice a l.length ca,.slice b l'.length cb] 37)):=((Md _ _).alloc (Mc _) _).alloc (by simp) _;have cA0:((w.alloc (.cells #[.int .i64 t] 2)).alloc (.cells #[.slice a l.length ca,.slice b l'.length cb] 37)).cell? ⟨w.heap.size,0,none⟩=some (.int .i64 t):=by simp
 have cB0:((w.alloc (.cells #[.int .i64 t] 2)).alloc (.cells #[.slice a l.length ca,.slice b l'.length cb] 37)).cell? ⟨w.heap.size+1,0,none⟩=some (.slice a l.length ca):=by simp
 have cB1:((w.alloc (.cells #[.int .i64 t] 2)).alloc (.cells #[.slice a l.length ca,.slice b l'.length cb] 37)).cell? ⟨w.heap.size+1,1,none⟩=some (.slice b l'.length cb):=by simp
 have zA:=h.next bA;have zB:=h'.next bA;have hzA:w.heap.size+2≤((w.alloc (.cells #[.int .i64 t] 2)).alloc (.cells #[.slice a l.length ca,.slice b l'.length cb] 37)).heap.size:=by simp
 by_cases hw:aR l=0
 ·have Hw:=aw hw;by_cases hw':aR l'=0
  ·have Hw':=aw hw';have hok:=(cF l).1 hw;have hok':=(cF l').1 hw';have eE:fl t l l'=bh (l ++ aM (bK t) l'):=by simp [fl,hw,hw']
   have eZ:eF t l l'=bT (l ++ aM (bK t) l'):=by unfold eF bT; rw [eE]
   rw [eE,eZ];have hlen:=my (bK t) l';have hin:∀ x ∈ l ++ aM (bK t) l',lZ x.2=true∧x.1.length≤8:=by
    intro x hx;rcases List.mem_append.1 hx with hx | hx
    ·exact ⟨(hok.2.1 x hx).2.2,((dL _).1 (hok.2.1 x hx).1).1⟩
    ·obtain ⟨y,hy,rfl,_⟩:=gF _ _ x hx;exact ⟨By t ht _ (hok'.2.1 y hy).2.2,by simp only [im]; exact ((dL _).1 (hok'.2.1 y hy).1).1⟩
   have HIn:=aw hin;clear hw hw' eE eZ hin;go_enter Tryz.func94,Tryz.ntmps94;go_wp2_with fail
   generalize ((w.alloc (.cells #[.int .i64 t] 2)).alloc (.cells #[.slice a l.length ca,.slice b l'.length cb] 37))=wA at *;refine wp_loop_rounds 3 ?_;rw [NH];go_wp2_with fail
   refine (eN _ _ _ _ zA).mono ?_;rintro e w1 ⟨rfl,hb1⟩;rw [Hw.out];have cB1':=(hb1.cell (p:=⟨w.heap.size+1,1,none⟩) (Mm _ _ cB1)).trans cB1;have cA0':=(hb1.cell (p:=⟨w.heap.size,0,none⟩) (Mm _ _ cA0)).trans cA0;go_wp2_with fail
   rw [NH];go_wp2_with fail
   refine (eN _ _ _ _ (zB.next hb1)).mono ?_;rintro e w2 ⟨rfl,hb2⟩;rw [Hw'.out];have cA2:=(hb2.cell (p:=⟨w.heap.size,0,none⟩) (Mm _ _ cA0')).trans cA0';go_wp2_with fail
   rw [NH];go_wp2_with fail
   refine (mx 126 #[.pointer (some ⟨w.heap.size,0,none⟩)] (bK t) b cb l' w2 ((zB.next hb1).next hb2) Lw (GZ w2 w.heap.size t cA2 ht) (by omega) (fun x hx=>((dL _).1 (hok'.2.1 x hx).1).1) (fun x hx=>(hok'.2.1 x hx).2.2)).mono ?_;rintro e w3 ⟨v3,rfl,O3,hb3⟩;obtain ⟨a3,c3,rfl,z3,n3⟩:=O3.KH;have z1:=((zA.next hb1).next hb2).next hb3;have b3:=cB (cB (cB bA hb1) hb2) hb3;have b4:=aa w3 (.cells #[.slice a l.length ca,.slice a3 (aM (bK t) l').length c3] 37)
   have pr:wi (w3.alloc (.cells #[.slice a l.length ca,.slice a3 (aM (bK t) l').length c3] 37)) w3.heap.size l (aM (bK t) l'):=by
    refine ⟨by simp,fun k hk=>?_⟩
    match k,hk with
    | 0,_=>exact ⟨a,ca,l,by simp,z1.next b4,hn,by simp [gQ]⟩
    | 1,_=>exact ⟨a3,c3,_,by simp,z3.next b4,n3,by simp [gQ]⟩
   have cc:=sI w3.heap.size l (aM (bK t) l') _ pr (by omega);clear O3 pr hb1 hb2 hb3 cA0 cB0 cB1 cA0' cB1' cA2 z1 z3;generalize hm:aM (bK t) l'=m at *;have HM:=aw hm;clear hm;go_wp2_with fail
   refine cc.mono ?_;clear cc;rintro e w5 ⟨a5,c5,rfl,z5,n5,hb5⟩;have hql:(l ++ m).length≤2000:=by simp; omega
   generalize hq:l ++ m=qq at *;have HQ:=aw hq;clear hq;go_wp2_with fail
   refine (dP _ _ _ _ z5 (by omega) (fun x hx=>mW (HIn.out x hx).1) (fun x hx=>(HIn.out x hx).2)).mono ?_;rintro e w6 ⟨v6,rfl,O6,hb6⟩;have bb:=cB (cB (cB b3 b4) hb5) hb6;have O6':=O6.mono (Mr (Mr b3.size b4.size) hb5.size);obtain ⟨a6,c6,rfl,z6⟩:=O6.zs;go_wp2
   exact Me (v:=.tuple #[.slice a6 (bT qq).length c6,.int .i64 (bh qq)]) (by simp [results,Tryz.results94,go_sem]) rfl ⟨_,by rw [HM.out,HQ.out],by rw [HM.out,HQ.out]; exact O6',bb⟩
  ·have eE:fl t l l'=aR l':=by simp [fl,hw,hw']
   have eZ:eF t l l' = []:=by simp [eF,eE,hw']
   rw [eE,eZ];have hne:(aR l' != 0)=true:=by simpa using hw'
   clear hw hw' eE eZ;go_enter Tryz.func94,Tryz.ntmps94;go_wp2_with fail
   generalize ((w.alloc (.cells #[.int .i64 t] 2)).alloc (.cells #[.slice a l.length ca,.slice b l'.length cb] 37))=wA at *;refine wp_loop_rounds 3 ?_;rw [NH];go_wp2_with fail
   refine (eN _ _ _ _ zA).mono ?_;rintro e w1 ⟨rfl,hb1⟩;rw [Hw.out];have cB1':=(hb1.cell (p:=⟨w.heap.size+1,1,none⟩) (Mm _ _ cB1)).trans cB1;go_wp2_with fail
   rw [NH];go_wp2_with fail
   refine (eN _ _ _ _ (zB.next hb1)).mono ?_;rintro e w2 ⟨rfl,hb2⟩;go_wp2
   exact Me (v:=.tuple #[.slice none 0 0,.int .i64 (aR l')]) (by simp [results,Tryz.results94,go_sem]) rfl ⟨_,rfl,cY _ _,cB (cB bA hb1) hb2⟩
 ·have eE:fl t l l'=aR l:=by simp [fl,hw]
  have eZ:eF t l l' = []:=by simp [eF,eE,hw]
  rw [eE,eZ];have hne:(aR l != 0)=true:=by simpa using hw
  clear hw eE eZ;go_enter Tryz.func94,Tryz.ntmps94;go_wp2_with fail
  generalize ((w.alloc (.cells #[.int .i64 t] 2)).alloc (.cells #[.slice a l.length ca,.slice b l'.length cb] 37))=wA at *;refine wp_loop_rounds 3 ?_;rw [NH];go_wp2_with fail
  refine (eN _ _ _ _ zA).mono ?_;rintro e w1 ⟨rfl,hb1⟩;go_wp2
  exact Me (v:=.tuple #[.slice none 0 0,.int .i64 (aR l)]) (by simp [results,Tryz.results94,go_sem]) rfl ⟨_,rfl,cY _ _,cB bA hb1⟩
theorem JU (a b:Option Addr) (ca cb:Nat) (l l':List Zp) (w:World) (h:bc w a l) (h':bc w b l') (hn:a=none→ca=0) :
  Calls Tryz.prog 58 #[.slice a l.length ca,.slice b l'.length cb] w fun e w'=>∃ v,e = .returned (.tuple #[v,.int .i64 (fl 1 l l')])∧dH w.heap.size w' v (eF 1 l l')∧Below w.heap.size w w':=by
 go_enter Tryz.func58,Tryz.ntmps58;go_wp2_with fail
 refine (nm 1 (by omega) a b ca cb l l' w h h' hn).mono ?_;rintro e w1 ⟨v,rfl,O1,hb1⟩;obtain ⟨a1,c1,rfl,z1⟩:=O1.zs;go_wp2
 exact Me (v:=.tuple #[.slice a1 (eF 1 l l').length c1,.int .i64 (fl 1 l l')]) (by simp [results,Tryz.results58,go_sem]) rfl ⟨_,rfl,O1,hb1⟩
theorem JL (a b:Option Addr) (ca cb:Nat) (l l':List Zp) (w:World) (h:bc w a l) (h':bc w b l') (hn:a=none→ca=0) :
  Calls Tryz.prog 59 #[.slice a l.length ca,.slice b l'.length cb] w fun e w'=>∃ v,e = .returned (.tuple #[v,.int .i64 (fl (-1) l l')])∧dH w.heap.size w' v (eF (-1) l l')∧Below w.heap.size w w':=by
 go_enter Tryz.func59,Tryz.ntmps59;go_wp2_with fail
 refine (nm (-1) (by omega) a b ca cb l l' w h h' hn).mono ?_;rintro e w1 ⟨v,rfl,O1,hb1⟩;obtain ⟨a1,c1,rfl,z1⟩:=O1.zs;go_wp2
 exact Me (v:=.tuple #[.slice a1 (eF (-1) l l').length c1,.int .i64 (fl (-1) l l')]) (by simp [results,Tryz.results59,go_sem]) rfl ⟨_,rfl,O1,hb1⟩
end Go.Proofs.YtjebpkhkjkjphaaGreat
namespace Go.Proofs.YtjebpkhkjkjphaaGreat
set_option maxRecDepth 100000
set_option maxHeartbeats 16000000
def kN (n:Nat):List Vl:=List.replicate n (1,0,⟨#[]⟩)
def cD (x:Ex) (p:Zp) (b:List Zp):List Zp:=(b.filter fun q=>ax x (p.1 ++ q.1)).map fun q=>(p.1 ++ q.1,p.2*q.2)
def bX (x:Ex) (a b:List Zp):List Zp:=a.flatMap fun p=>cD x p b
def j4 (x:Ex) (b:List Zp) (row:List Vl):Bool:=b.any fun q=>decide (0<q.2) && ax x (row ++ q.1)
def pZ (x:Ex) (a b:List Zp):List Zp:=a.filter fun p=>j4 x b p.1
def gC (x:Ex) (a b:List Zp):List Zp:=a.filter fun p=>!j4 x b p.1
def hY (n:Nat) (z:List Zp):List Zp:=z.map fun p=>(p.1 ++ kN n,p.2)
def rW (x:Ex) (n:Nat) (a b:List Zp):List Zp:=bX x a b ++ hY n (gC x a b)
def j2 (l r:List Int) (x:Ex) (a b:List Zp):Int:=if 8<l.length+r.length then 5 else if cH (l ++ r) x≠0 then cH (l ++ r) x else if cz l a≠0 then cz l a else cz r b
structure qe (l r:List Int) (x:Ex) (a b:List Zp):Prop where
 len:l.length+r.length≤8
 cond:cH (l ++ r) x=0
 left:kj l a
 right:kj r b
theorem Aq (l r:List Int) (x:Ex) (a b:List Zp):j2 l r x a b=0↔qe l r x a b:=by
 unfold j2;by_cases h8:8<l.length+r.length
 ·rw [if_pos h8];constructor
  ·intro h; omega
  ·intro h; have:=h.len; omega
 ·rw [if_neg h8];by_cases h1:cH (l ++ r) x=0
  ·rw [if_neg (by simpa using h1)];by_cases h2:cz l a=0
   ·rw [if_neg (by simpa using h2),gN];exact ⟨fun h=>⟨by omega,h1,(gN _ _).1 h2,h⟩,fun h=>h.right⟩
   ·rw [if_pos h2];exact ⟨fun h=>absurd h h2,fun h=>absurd ((gN _ _).2 h.left) h2⟩
  ·rw [if_pos h1];exact ⟨fun h=>absurd h h1,fun h=>absurd h.cond h1⟩
def ft (what:Nat) (n:Nat) (x:Ex) (a b:List Zp):List Zp:=if what=0 then bX x a b else if what=1 then pZ x a b else if what=2 then gC x a b else rW x n a b
def cL (what:Nat) (l r:List Int) (x:Ex) (a b:List Zp):Int:=if j2 l r x a b≠0 then j2 l r x a b else bh (ft what r.length x a b)
def ed (what:Nat) (l r:List Int) (x:Ex) (a b:List Zp):List Zp:=if cL what l r x a b=0 then canon (ft what r.length x a b) else []
theorem Fb {what:Nat} {l r:List Int} {x:Ex} {a b:List Zp} (h:cL what l r x a b=0):qe l r x a b∧bh (ft what r.length x a b)=0:=by
 unfold cL at h;by_cases h1:j2 l r x a b=0
 ·rw [if_neg (by simpa using h1)] at h;exact ⟨(Aq ..).1 h1,h⟩
 ·rw [if_pos h1] at h; exact absurd h h1
theorem ye {l r:List Int} {u v:List Vl} (h:fM l u) (k:fM r v):fM (l ++ r) (u ++ v):=by
 have h1:=h.len;have k1:=k.len;refine ⟨by simp [h1,k1],fun i hi=>?_⟩;by_cases c:i<u.length
 ·rw [Mz c];have:=h.one i c;have e:(l ++ r).getD i 0=l.getD i 0:=by simp only [List.getD]; rw [Mx (by omega)]
  rwa [e]
 ·have hi':i - u.length<v.length:=by simp at hi; omega
  rw [No (by omega)];have:=k.one (i - u.length) hi';have e:(l ++ r).getD i 0=r.getD (i - u.length) 0:=by simp only [List.getD]; rw [My (by omega),h1]
  rwa [e]
theorem vN (x:Ex) (p:Zp) (q:List Vl) (b:List Zp):wt (cD x p b) q=gS (fun s=>if ax x (p.1 ++ s)=true∧aK (p.1 ++ s) q=0 then 1 else 0) b*p.2:=by
 induction b with
 | nil=>simp [cD,wt,gS]
 | cons y t ih =>
  unfold cD at ih ⊢;rw [gS,Int.add_mul,← ih,List.filter_cons];by_cases h:ax x (p.1 ++ y.1)=true
  ·rw [if_pos h,Na,wt];by_cases c:aK (p.1 ++ y.1) q=0
   ·simp only [c,if_true,h,and_self];rw [Int.one_mul,Int.mul_comm]
   ·simp [c]
  ·rw [if_neg h];simp [h]
theorem jH (x:Ex) (q:List Vl) (a b:List Zp):wt (bX x a b) q=gS (fun r=>gS (fun s=>if ax x (r ++ s)=true∧aK (r ++ s) q=0 then 1 else 0) b) a:=by
 induction a with
 | nil=>rfl
 | cons p t ih =>
  unfold bX at ih ⊢;rw [List.flatMap_cons,eU,gS,ih,vN]
theorem xT (x:Ex) (q:List Vl) (r:List Vl):uz (fun s=>if ax x (r ++ s)=true∧aK (r ++ s) q=0 then (1:Int) else 0):=fun a b h=>by
 have e:=lp (fO r) h
 simp only [fK e,iB e]
theorem yg (x:Ex) (q:List Vl) (b:List Zp):uz (fun r=>gS (fun s=>if ax x (r ++ s)=true∧aK (r ++ s) q=0 then (1:Int) else 0) b):=fun r r' h=>by
 refine ju fun y _=>?_
 have e:=lp h (fO y.1)
 simp only [fK e,iB e]
theorem sC {row row':List Vl} (h:aK row row'=0) (x:Ex) (b:List Zp):j4 x b row=j4 x b row':=by
 unfold j4
 induction b with
 | nil=>rfl
 | cons y t ih=>rw [List.any_cons,List.any_cons,ih,fK (lp h (fO y.1))]
theorem AY (x:Ex) (a b:List Zp) (q:List Vl):wt (pZ x a b) q=if j4 x b q then wt a q else 0:=gM (j4 x b) (fun _ _ h=>sC h x b) q a
theorem AS (x:Ex) (a b:List Zp) (q:List Vl):wt (gC x a b) q=if j4 x b q then 0 else wt a q:=by
 have:=gM (fun r=>!j4 x b r) (fun _ _ h=>by show (!_)=(!_); rw [sC h]) q a;unfold gC;rw [this];cases j4 x b q <;> rfl
end Go.Proofs.YtjebpkhkjkjphaaGreat
namespace Go.Proofs.YtjebpkhkjkjphaaGreat
open Go.RowKit Go.Lib Go.Shelf
set_option maxRecDepth 100000
set_option maxHeartbeats 16000000
def uC (W:World) (B n:Nat) (f:Nat→Zp) (k:Nat):Prop:=∃ xs,W.ownsRow B 63 2 (.slice (some ⟨B,0,none⟩) n n) n xs∧∀ j:Nat,j<n→j<k→∃ a cap,xs[j*2]? = some (.slice a (f j).1.length cap)∧xs[j*2+1]? = some (.int .i64 (f j).2)∧bg W a (f j).1∧gp W a
theorem uC.next {W w1:World} {B n:Nat} {f:Nat→Zp} {k:Nat} (h:uC W B n f k) (hb:Below W.heap.size W w1):uC w1 B n f k:=by
 obtain ⟨xs,h1,h2⟩:=h;refine ⟨xs,bp h1 hb,fun j hj hk=>?_⟩;obtain ⟨a,cap,e0,e1,e2,e3⟩:=h2 j hj hk;exact ⟨a,cap,e0,e1,e2.next hb,e3.next hb⟩
theorem uC.step {W:World} {B n:Nat} {f:Nat→Zp} {k:Nat} (h:uC W B n f k) (hk:k<n) {a:Option Addr} {cap:Nat} (hs:bg W a (f k).1) (ht:gp W a) :
  uC ((W.setCell ⟨B,k*2,none⟩ (.slice a (f k).1.length cap)).setCell ⟨B,k*2+1,none⟩ (.int .i64 (f k).2)) B n f (k+1):=by
 obtain ⟨xs,h1,h2⟩:=h;have lx:=h1.1;obtain ⟨o1,g1⟩:=h1.stored (k*2) (.slice a (f k).1.length cap);obtain ⟨o2,g2⟩:=o1.stored (k*2+1) (.int .i64 (f k).2);have go:∀ {b:Option Addr} {r:List Vl},bg W b r→gp W b→bg ((W.setCell ⟨B,k*2,none⟩ (.slice a (f k).1.length cap)).setCell ⟨B,k*2+1,none⟩ (.int .i64 (f k).2)) b r∧gp ((W.setCell ⟨B,k*2,none⟩ (.slice a (f k).1.length cap)).setCell ⟨B,k*2+1,none⟩ (.int .i64 (f k).2)) b:=fun hs ht=>by
  obtain ⟨s1,t1⟩:=jy hs ht h1 g1;exact jy s1 t1 o1 g2
 refine ⟨_,o2,?_⟩;intro j hj hjk;by_cases e:j=k
 ·subst e;refine ⟨a,cap,?_,?_,(go hs ht).1,(go hs ht).2⟩
  ·rw [Mt (by omega)]; simp [List.getElem?_set,lx]; omega
  ·simp [List.getElem?_set,lx]; omega
 ·obtain ⟨b,c,e0,e1,e2,e3⟩:=h2 j hj (by omega);refine ⟨b,c,?_,?_,(go e2 e3).1,(go e2 e3).2⟩
  ·rw [Mt (by omega),Mt (by omega)]; exact e0
  ·rw [Mt (by omega),Mt (by omega)]; exact e1
theorem uC.cells {W:World} {B n:Nat} {f:Nat→Zp} {k:Nat} (h:uC W B n f k) (hk:k<n):(∃ u0 u1,W.cell? ⟨B,k*2,none⟩=some u0∧W.cell? ⟨B,k*2+1,none⟩=some u1)∧W.frozen? ⟨B,k*2,none⟩=false∧W.frozen? ⟨B,k*2+1,none⟩=false∧B<W.heap.size:=by
 obtain ⟨xs,h1,h2⟩:=h;have lx:=h1.1;refine ⟨⟨xs[k*2]'(by omega),xs[k*2+1]'(by omega),?_,?_⟩,h1.frozenAt _,h1.frozenAt _,(h1.lt B rfl).2⟩
 ·rw [h1.cellAt _ (by omega)]; exact Ms (by omega)
 ·rw [h1.cellAt _ (by omega)]; exact Ms (by omega)
theorem uC.done {W:World} {B n:Nat} {f:Nat→Zp} (h:uC W B n f n) (l:List Zp) (hn:n=l.length) (hv:∀ j (hj:j<l.length),f j=l[j]) (h8:l.length≤200000):bc W (some ⟨B,0,none⟩) l:=by
 obtain ⟨xs,h1,h2⟩:=h;subst hn;refine ⟨by unfold maxLen; omega,.inr ⟨B,0,rfl,(h1.lt B rfl).2,?_⟩⟩;intro i hi;obtain ⟨a,cap,g0,g1,g2,_⟩:=h2 i hi hi;rw [hv i hi] at g0 g1 g2;refine ⟨?_,a,cap,?_,g2⟩
 ·rw [h1.cellAt _ (by omega),← g1]; congr 1; omega
 ·rw [h1.cellAt _ (by omega),← g0]; congr 1; omega
theorem Fq (af:List Int) (xs:List Ex) (ca:Option Addr) (ccap:Nat) (xa:Option Addr) (xcap:Nat) (a:Option Addr) (cap:Nat) (l:List Zp) (w:World) (hc:bG w.heap.size w ca af) (hk:aX w.heap.size w xa xs) (h:bc w a l) :
  Calls Tryz.prog 49 #[.slice ca af.length ccap,.slice xa xs.length xcap,.slice a l.length cap] w fun e w'=>∃ v,e = .returned (.tuple #[v,.int .i64 (lq af xs l)])∧dH w.heap.size w' v (ui af xs l)∧Below w.heap.size w w':=by
 obtain ⟨i0,hi,hz0,hz1,hz2⟩:=info_parts Tryz.gH;have con:=tZ af xs ca ccap xa xcap w hk hc;generalize hfz:ui af xs l=fz;generalize hfe:lq af xs l=fe;have HZ:=aw hfz;have HF:=aw hfe;clear hfz hfe;by_cases h1:bU af xs=0
 ·have H1:=aw h1;rw [h1] at con;clear h1;go_enter Tryz.func49,Tryz.ntmps49;go_wp2_with fail
  refine con.mono ?_;rintro e w1 ⟨u,rfl,hL,hb1⟩;clear con;have hL:ko af w.heap.size u xs w1:=by
   rcases hL with ⟨_,hL⟩ | ⟨hL,_⟩
   ·exact hL
   ·exact absurd (by trivial) hL
  obtain ⟨g,cb,rfl,eg,d⟩:=hL;have HD:=aw d;clear d;have con:=gK af ca ccap a cap l w1 ((hc.next hb1 (Mc _)).up hb1.size) (h.next hb1);by_cases h2:cz af l=0
  ·have hz:=(gN af l).1 h2;rw [h2] at con;have H2:=aw h2;clear h2;have HE:Hid (fe=bh (nd xs l)):=by
    show fe=_;rw [← HF.out]; unfold lq; rw [H1.out,H2.out]; rfl
   have HV:Hid (fz=bT (nd xs l)):=by
    show fz=_;rw [← HZ.out]; unfold ui bT; rw [HF.out,HE.out]
   have hl4:=iq hz;have HO:=aw hz;go_wp2_with fail
   refine con.mono ?_;rintro e w2 ⟨rfl,hb2⟩;clear con;have hA:=chain hb1 hb2;have z2:=hb2.size;have z1:=hb1.size;go_wp2_with (first | (at_make; refine wpList_make_full _ rfl _ _ 37 rfl w2.heap.size 63 i0 _ 2 Tryz.underlying37 hi hz0 hz1 .i64 .i64 l.length l.length l.length rfl rfl rfl rfl (by rw [hz2]; omega) (by unfold maxLen; omega) (Mc _) ?_))
   intro w3 hown hgrow;have hb3:Below w2.heap.size w2 w3:=(Md _ _).grown hgrow (Mc _) (by simp);obtain ⟨f,hf⟩:∃ f:Nat→Zp,f=(fun j=>(nd xs l).getD j ([],0)):=⟨_,rfl⟩
   have HFn:=aw hf;clear hf;have hB0:uC w3 w2.heap.size l.length f 0:=⟨_,hown,fun j _ hj=>absurd hj (MP _)⟩
   clear hown hgrow;go_wp2_with fail
   go_loopw [34] (fun i wr=>∃ k:Nat,k≤l.length∧i = .int .i64 k∧uC wr w2.heap.size l.length f k∧Below w2.heap.size w2 wr) (fun i _=>l.length - (intOf i).toNat)
   case atStart=>exact ⟨0,Mj _,rfl,hB0,hb3⟩
   case round =>
    clear hB0 hb3;obtain ⟨k,hk,rfl,HB,hb⟩:=hrel;have hz:=hb.size;by_cases hlt:k<l.length
    ·obtain ⟨b,off,rfl,hbl,c1,ar,cr,c0,sr⟩:=(h.next (chain hA hb)).elem hlt;have hal:=aa wr (.cells #[.slice ar l[k].1.length cr,.int .i64 l[k].2] 63);have hd:Below (wr.alloc (.cells #[.slice ar l[k].1.length cr,.int .i64 l[k].2] 63)).heap.size (wr.alloc (.cells #[.slice ar l[k].1.length cr,.int .i64 l[k].2] 63)) (wr.alloc (.cells #[.slice ar l[k].1.length cr,.int .i64 l[k].2] 63)).drew:=(Md _ _).drew
     have hbk:Below w1.heap.size w1 (wr.alloc (.cells #[.slice ar l[k].1.length cr,.int .i64 l[k].2] 63)).drew:=(chain (chain (chain hb2 hb) hal) hd)
     have con:=HD.out l[k].1 ar cr _ (HO.out.fit l[k] (Mk hlt)) ((sr.next hal).next hd) (Since.of hbk);have q0:(wr.alloc (.cells #[.slice ar l[k].1.length cr,.int .i64 l[k].2] 63)).cell? ⟨wr.heap.size,0,none⟩=some (.slice ar l[k].1.length cr):=by simp
     have q1:(wr.alloc (.cells #[.slice ar l[k].1.length cr,.int .i64 l[k].2] 63)).cell? ⟨wr.heap.size,1,none⟩=some (.int .i64 l[k].2):=by simp
     have za:(wr.alloc (.cells #[.slice ar l[k].1.length cr,.int .i64 l[k].2] 63)).heap.size=wr.heap.size+1:=by simp
     have ef:f k=(fj xs l[k].1,l[k].2):=by rw [HFn.out]; simp [nd,List.getD,hlt]
     have EF:=aw ef;have hrl:xs.length=(fj xs l[k].1).length:=by simp [fj]
     have HR:=aw hrl;have i0':(0:Int)≤(k:Int):=by omega
     have i1:(k:Int)<(l.length:Int):=by omega
     clear ef hrl;go_wp2_with fail
     clear c0 c1 sr;generalize wr.alloc (.cells #[.slice ar l[k].1.length cr,.int .i64 l[k].2] 63)=wk at *;obtain ⟨⟨t0,t1,e0,e1⟩,f0,f1,hlb⟩:=(HB.next hal).cells hlt;go_region_with (go_at_fn g; refine con.mono ?_; rintro e w5 ⟨rfl,hR,hb5⟩; have HB5:=((HB.next hal).next hd).next hb5; obtain ⟨⟨u0,u1,d0,d1⟩,g0,g1,hlb5⟩:=HB5.cells hlt; have r1:=((hd.trans (hb5.mono hd.size)).cell (p:=⟨wr.heap.size,1,none⟩) (by show wr.heap.size<_; omega)).trans q1)
     all_goals (
      go_wp2_with fail
      go_roundw
      case rel =>
       refine ⟨k+1,by omega,by go_num,?_,?_⟩
       ·have:=HB5.step hlt (a:=some ⟨wk.drew.heap.size,0,none⟩) (cap:=xs.length) (by rw [EF.out]; exact hR.1) hR.2;rw [EF.out,← HR.out,show wk.drew.heap.size=wr.heap.size+1 from za] at this;exact this
       ·exact ((chain (chain hb hal) (hd.trans (hb5.mono hd.size))).setCell (p:=⟨w2.heap.size,k*2,none⟩) (Mc _) _).setCell (p:=⟨w2.heap.size,k*2+1,none⟩) (Mc _) _
      case measure=>simp [intOf]; omega)
    ·have e:k=l.length:=by omega
     subst e;have hml:(nd xs l).length=l.length:=by simp [nd]
     have zsm:=HB.done (nd xs l) hml.symm (fun j hj=>by rw [HFn.out]; simp [List.getD,hj]) (by omega);have con:=dP (some ⟨w2.heap.size,0,none⟩) l.length (nd xs l) wr zsm (by omega) (fun y hy=>by obtain ⟨p,hp,rfl⟩:=List.mem_map.1 hy; exact mW (mh HO.out p hp)) (fun y hy=>by obtain ⟨p,hp,rfl⟩:=List.mem_map.1 hy; have:=(wR H1.out).1; simpa [fj] using this);rw [hml] at con;have HV':=HV.out;have HE':=HE.out;rw [← HE',← HV'] at con;clear HV' HE' zsm HB;go_wp2_with fail
     refine con.mono ?_;rintro e w6 ⟨v6,rfl,O6,hb6⟩;have hA6:=chain hA hb;have O6':=O6.mono hA6.size;obtain ⟨a6,c6,rfl,_⟩:=O6.zs;go_wp2_with fail
     exact Me (v:=.tuple #[.slice a6 fz.length c6,.int .i64 fe]) (by simp [results,Tryz.results49,go_sem]) rfl ⟨_,rfl,O6',chain hA6 hb6⟩
  ·have e0:fe=cz af l:=by rw [← HF.out]; unfold lq; rw [H1.out,if_neg (by simp),if_pos h2]
   have e1:fz = []:=by rw [← HZ.out]; unfold ui; rw [HF.out,e0,if_neg h2]
   have hne:(cz af l != 0)=true:=by simpa using h2
   rw [← e0] at con hne;have HV:=aw e1;clear e0 e1;go_wp2_with fail
   refine con.mono ?_;rintro e w2 ⟨rfl,hb2⟩;clear con;go_wp2_with fail
   exact Me (v:=.tuple #[.slice none 0 0,.int .i64 fe]) (by simp [results,Tryz.results49,go_sem]) rfl ⟨_,rfl,by rw [HV.out]; exact cY _ _,chain hb1 hb2⟩
 ·have e0:fe=bU af xs:=by rw [← HF.out]; unfold lq; rw [if_pos h1]
  have e1:fz = []:=by rw [← HZ.out]; unfold ui; rw [HF.out,e0,if_neg h1]
  have hne:(bU af xs != 0)=true:=by simpa using h1
  have HL:=aw h1;rw [← e0] at hne;have HV:=aw e1;have HN:=aw e0;clear e0 e1 h1;go_enter Tryz.func49,Tryz.ntmps49;go_wp2_with fail
  refine con.mono ?_;rintro e w1 ⟨u,rfl,hL,hb1⟩;obtain ⟨_,rfl⟩:¬ bU af xs=0∧u = .nilFunc:=by
   rcases hL with ⟨hL,_⟩ | hL
   ·exact absurd hL HL.out
   ·exact hL
  rw [← HN.out];clear con;go_wp2_with fail
  exact Me (v:=.tuple #[.slice none 0 0,.int .i64 fe]) (by simp [results,Tryz.results49,go_sem]) rfl ⟨_,rfl,by rw [HV.out]; exact cY _ _,hb1⟩
structure pE (af:List Int) (x:Ex) (w0 wp:World) (a b:Option Addr) (ca cb:Nat) (l r:List Zp) (v:Value):Prop where
 ex:∃ (lo:Nat) (wc:World) (R rv hv:Nat) (u:Value),v = .agg #[.slice a l.length ca,.slice b r.length cb,.func (.func 185) #[] #[.pointer (some ⟨rv,0,none⟩),.pointer (some ⟨hv,0,none⟩)]] ∧
  ob wp R rv∧hv<R∧wp.cell? ⟨hv,0,none⟩=some u∧ki af lo u x wc∧wc.heap.size≤R∧Since lo wc wp∧w0.heap.size≤R∧Below w0.heap.size w0 wp∧di wp R rv wp
theorem Ca (u:Value) (w:World) (hu:∃ g cb,u = .func (.func g) #[] cb) :
  Calls Tryz.prog 155 #[u] w fun e w'=>∃ rv,e = .returned (.func (.func 185) #[] #[.pointer (some ⟨rv,0,none⟩),.pointer (some ⟨w.heap.size,0,none⟩)])∧w'.cell? ⟨w.heap.size,0,none⟩=some u∧ob w' (w.heap.size+1) rv∧di w' (w.heap.size+1) rv w'∧Below w.heap.size w w':=by
 obtain ⟨g,cb,rfl⟩:=hu;obtain ⟨i0,hi,hj0,hj1,hj2⟩:=info_parts Tryz.qs;have h1:=aa w (.cells #[.func (.func g) #[] cb] 113);have c1:(w.alloc (.cells #[.func (.func g) #[] cb] 113)).cell? ⟨w.heap.size,0,none⟩=some (.func (.func g) #[] cb):=by simp
 have z1:(w.alloc (.cells #[.func (.func g) #[] cb] 113)).heap.size=w.heap.size+1:=by simp
 go_enter Tryz.func155,Tryz.ntmps155;go_wp2_with (first | (at_make; refine wpList_make_own _ rfl _ _ 61 rfl (w.heap.size+1) 24 i0 _ 3 Tryz.underlying61 hi hj0 hj1 .i64 .i64 8 8 rfl rfl rfl (by rw [hj2]; omega) (by unfold maxLen; omega) (by simp) ?_))
 generalize w.alloc (.cells #[.func (.func g) #[] cb] 113)=w1 at *;intro w2 own2 g2;have z2:=g2.size;obtain ⟨hx2,⟨e2,_⟩ | ⟨gg,cap2,cur2,e2,hg2,hh2,hn2,hm2,hs2,ht2⟩⟩:=own2
 ·cases e2
 injection e2 with e2a e2b e2c
 have e2a:=MO e2a;injection e2a with e2a
 subst e2c;subst e2a;have b2:Below w1.heap.size w1 w2:=(Md _ _).grown g2 (Mc _) (by simp);have c2:=(b2.cell (p:=⟨w.heap.size,0,none⟩) (by show w.heap.size<_; omega)).trans c1;have lt2:w.heap.size+1<w2.heap.size:=by
  rcases ME (w.heap.size+1) w2.heap.size with h | h
  ·exact h
  ·rw [M3 h] at hh2; cases hh2
 have h3:=aa w2 (.cells #[.slice (some ⟨w.heap.size+1,0,none⟩) 0 8] 61);have z3:(w2.alloc (.cells #[.slice (some ⟨w.heap.size+1,0,none⟩) 0 8] 61)).heap.size=w2.heap.size+1:=by simp
 have v3:(w2.alloc (.cells #[.slice (some ⟨w.heap.size+1,0,none⟩) 0 8] 61)).cell? ⟨w2.heap.size,0,none⟩=some (.slice (some ⟨w.heap.size+1,0,none⟩) 0 8):=by simp
 have f3:(w2.alloc (.cells #[.slice (some ⟨w.heap.size+1,0,none⟩) 0 8] 61)).frozen? ⟨w2.heap.size,0,none⟩=false:=by simp
 have r3:=(h3.block (w.heap.size+1) lt2).trans hh2;have c3:=(h3.cell (p:=⟨w.heap.size,0,none⟩) (by show w.heap.size<_; omega)).trans c2;have HP:Hid (∀ W,W=w2.alloc (.cells #[.slice (some ⟨w.heap.size+1,0,none⟩) 0 8] 61)→W.cell? ⟨w.heap.size,0,none⟩=some (.func (.func g) #[] cb)∧ob W (w.heap.size+1) w2.heap.size∧di W (w.heap.size+1) w2.heap.size W∧Below w.heap.size w W):=fun W hW=>by
  subst hW;exact ⟨c3,⟨lt2,by omega⟩,⟨rfl,rfl,rfl,Mc _,fun _ _ _ _=>rfl,⟨0,v3⟩,f3,cur2,r3,hs2⟩,chain (chain h1 b2) h3⟩
 clear v3 f3 r3 c3 h3 g2 hh2 hx2 ht2;go_wp2
 go_ret;exact ⟨_,rfl,HP.out _ rfl⟩
theorem pF {W:World} {k:Nat} {v0 v1 v2:Value} (u0 u1 u2:Value) (h0:W.cell? ⟨k,0,none⟩=some v0) (h1:W.cell? ⟨k,1,none⟩=some v1) (h2:W.cell? ⟨k,2,none⟩=some v2) :
  (((W.setCell ⟨k,0,none⟩ u0).setCell ⟨k,1,none⟩ u1).setCell ⟨k,2,none⟩ u2).cell? ⟨k,0,none⟩=some u0∧(((W.setCell ⟨k,0,none⟩ u0).setCell ⟨k,1,none⟩ u1).setCell ⟨k,2,none⟩ u2).cell? ⟨k,1,none⟩=some u1∧(((W.setCell ⟨k,0,none⟩ u0).setCell ⟨k,1,none⟩ u1).setCell ⟨k,2,none⟩ u2).cell? ⟨k,2,none⟩=some u2:=by
 have ne:∀ i j:Nat,i≠j→(⟨k,i,none⟩:Addr)≠⟨k,j,none⟩:=fun i j h e=>h (congrArg Addr.off e)
 have t0:=Nd W ⟨k,0,none⟩ u0 h0;have t1:=(Mn W _ _ u0 (ne 0 1 (by decide))).trans h1;have t2:=(Mn W _ _ u0 (ne 0 2 (by decide))).trans h2;have m0:=(Mn (W.setCell ⟨k,0,none⟩ u0) _ _ u1 (ne 1 0 (by decide))).trans t0;have m1:=Nd (W.setCell ⟨k,0,none⟩ u0) _ u1 t1;have m2:=(Mn (W.setCell ⟨k,0,none⟩ u0) _ _ u1 (ne 1 2 (by decide))).trans t2
 exact ⟨(Mn _ _ _ _ (ne 2 0 (by decide))).trans m0,(Mn _ _ _ _ (ne 2 1 (by decide))).trans m1,Nd _ _ _ m2⟩
theorem jV {B:Nat} {w W:World} {k:Nat} (u0 u1 u2:Value) (h:Below B w W) (hk:B≤k):Below B w (((W.setCell ⟨k,0,none⟩ u0).setCell ⟨k,1,none⟩ u1).setCell ⟨k,2,none⟩ u2) :=
 ((h.setCell (p:=⟨k,0,none⟩) hk _).setCell (p:=⟨k,1,none⟩) hk _).setCell (p:=⟨k,2,none⟩) hk _
theorem yN {W:World} {k:Nat} (u0 u1 u2:Value) (j:Nat) (hj:j≠k):(((W.setCell ⟨k,0,none⟩ u0).setCell ⟨k,1,none⟩ u1).setCell ⟨k,2,none⟩ u2).heap[j]? = W.heap[j]?:=by
 rw [ML _ ⟨k,2,none⟩ _ j hj,ML _ ⟨k,1,none⟩ _ j hj,ML _ ⟨k,0,none⟩ _ j hj]
theorem Cc {W:World} {k:Nat} (u0 u1 u2:Value):(((W.setCell ⟨k,0,none⟩ u0).setCell ⟨k,1,none⟩ u1).setCell ⟨k,2,none⟩ u2).heap.size=W.heap.size:=by simp
theorem Bi (left right:List Int) (x:Ex) (la:Option Addr) (lcap:Nat) (ra:Option Addr) (rcap:Nat) (xa:Option Addr) (xcap:Nat) (a:Option Addr) (ca:Nat) (l:List Zp) (b:Option Addr) (cb:Nat) (r:List Zp) (w:World)
  (hcl:bG w.heap.size w la left) (hcr:bG w.heap.size w ra right) (hx:aX w.heap.size w xa x.ks) (h:bc w a l) (h':bc w b r) (hll:left.length≤100000000000000) (hrl:right.length≤100000000000000) :
  Calls Tryz.prog 120 #[.slice la left.length lcap,.slice ra right.length rcap,iU x.k x.v x.c xa x.ks.length xcap,.slice a l.length ca,.slice b r.length cb] w fun e w'=>∃ v,e = .returned (.tuple #[v,.int .i64 (j2 left right x l r)])∧((j2 left right x l r=0∧pE (left ++ right) x w w' a b ca cb l r v)∨(¬ j2 left right x l r=0∧v = .agg #[.slice none 0 0,.slice none 0 0,.nilFunc]))∧Below w.heap.size w w':=by
 have h1:=aa w (.cells (fS x xa xcap) 27);have S1:=jP.new w x.k x.v x.c xa x.ks.length xcap 27;have z1:(w.alloc (.cells (fS x xa xcap) 27)).heap.size=w.heap.size+1:=by simp
 have h2:Below (w.alloc (.cells (fS x xa xcap) 27)).heap.size (w.alloc (.cells (fS x xa xcap) 27)) ((w.alloc (.cells (fS x xa xcap) 27)).alloc (.cells #[.slice none 0 0,.slice none 0 0,.nilFunc] 137)):=(Md _ _).alloc (Mc _) _;have z2:((w.alloc (.cells (fS x xa xcap) 27)).alloc (.cells #[.slice none 0 0,.slice none 0 0,.nilFunc] 137)).heap.size=w.heap.size+2:=by simp
 have S2:=S1.next h2 (by omega);have b0:((w.alloc (.cells (fS x xa xcap) 27)).alloc (.cells #[.slice none 0 0,.slice none 0 0,.nilFunc] 137)).cell? ⟨w.heap.size+1,0,none⟩=some (.slice none 0 0):=by rw [M0 _ _ _ _ (by simp)]; rfl
 have b1:((w.alloc (.cells (fS x xa xcap) 27)).alloc (.cells #[.slice none 0 0,.slice none 0 0,.nilFunc] 137)).cell? ⟨w.heap.size+1,1,none⟩=some (.slice none 0 0):=by rw [M0 _ _ _ _ (by simp)]; rfl
 have b2:((w.alloc (.cells (fS x xa xcap) 27)).alloc (.cells #[.slice none 0 0,.slice none 0 0,.nilFunc] 137)).cell? ⟨w.heap.size+1,2,none⟩=some (.nilFunc):=by rw [M0 _ _ _ _ (by simp)]; rfl
 have f0:((w.alloc (.cells (fS x xa xcap) 27)).alloc (.cells #[.slice none 0 0,.slice none 0 0,.nilFunc] 137)).frozen? ⟨w.heap.size+1,0,none⟩=false:=Nu _ _ _ _ (by simp);have f1:((w.alloc (.cells (fS x xa xcap) 27)).alloc (.cells #[.slice none 0 0,.slice none 0 0,.nilFunc] 137)).frozen? ⟨w.heap.size+1,1,none⟩=false:=Nu _ _ _ _ (by simp);have f2:((w.alloc (.cells (fS x xa xcap) 27)).alloc (.cells #[.slice none 0 0,.slice none 0 0,.nilFunc] 137)).frozen? ⟨w.heap.size+1,2,none⟩=false:=Nu _ _ _ _ (by simp);have hA:=chain h1 h2
 generalize ht:j2 left right x l r=te;have HT:=aw ht;clear ht S1;by_cases h8:8<left.length+right.length
 ·have e:te=5:=by rw [← HT.out]; simp [j2,h8]
  subst e;have hz:(8:Int)<(left.length:Int)+(right.length:Int):=by omega
  go_enter Tryz.func120,Tryz.ntmps120;go_wp2
  exact Me (v:=.tuple #[.agg #[.slice none 0 0,.slice none 0 0,.nilFunc],.int .i64 5]) (by simp [results,Tryz.results120,go_sem]) rfl ⟨_,rfl,.inr ⟨by decide,rfl⟩,by first | exact hA | exact (hA.setCell (p:=⟨w.heap.size+1,0,none⟩) (by show w.heap.size≤w.heap.size+1; omega) _)⟩
 have hz:¬ (8:Int)<(left.length:Int)+(right.length:Int):=by omega
 have H8:=aw h8;have p0:=aq S2.c0;have p1:=aq S2.c1;have p2:=aq S2.c2;have p3:=aq S2.c3;have p4:=aq S2.c4;have p5:=aq S2.c5;simp only [Mq] at p1 p2 p3 p4 p5;by_cases hcond:cH (left ++ right) x=0
 ·go_enter Tryz.func120,Tryz.ntmps120;go_wp2_with fail
  generalize (w.alloc (.cells (fS x xa xcap) 27)).alloc (.cells #[.slice none 0 0,.slice none 0 0,.nilFunc] 137)=w2 at *;have hB0:Below w2.heap.size w2 w2.drew:=(Md _ _).drew;refine jg (by kernel_rfl) ?_;refine et 24 0 (.slice la left.length lcap) (fun n=>?_) hB0 ?_
  ·go_simp
  simp only [pD,pB,pC];refine et 25 1 (.slice ra right.length rcap) (fun n=>?_) hB0 ?_
  ·go_simp
  simp only [pD,pB,pC];refine et 28 4 (iU x.k x.v x.c xa x.ks.length xcap) (fun n=>?_) hB0 ?_
  ·go_simp
  simp only [pD,pB,pC];clear p0 p1 p2 p3 p4 p5;refine fT (rs:=[2]) (by kernel_rfl) (by simp) ?_;intro w3 hb3 j hj;obtain rfl:j=2:=by simpa using hj
  clear hj;have D3:=hB0.trans (hb3.mono hB0.size);refine wpOp_step rfl (fun K hK=>?_);go_simp;have hal3:=aa w3 (.cells #[.slice la left.length lcap,.slice ra right.length rcap] 42);have PC:=iQ.new lcap rcap (fh (hcl.next (chain hA D3) (Mc _))) (fh (hcr.next (chain hA D3) (Mc _))) 42;have D4:=D3.trans (hal3.mono D3.size);refine hK _ _ ⟨D4,?_⟩;clear hK K;generalize w3.alloc (.cells #[.slice la left.length lcap,.slice ra right.length rcap] 42)=w4 at *
  refine fT (rs:=[3]) (by kernel_rfl) (by simp) ?_;intro w5 hb5 j hj;obtain rfl:j=3:=by simpa using hj
  clear hj;have D5:=D4.trans (hb5.mono D4.size);refine wpOp_step rfl (fun K hK=>?_);go_simp;refine (jX _ _ _ _ _ w5 (PC.next hb5) (by omega)).mono ?_;rintro e w6 ⟨v6,rfl,O6,hb6⟩;rw [← M7] at O6;obtain ⟨a6,c6,rfl,I6⟩:=wy O6 (by simp);have D6:=D5.trans (hb6.mono D5.size);refine hK _ _ ⟨D6,?_⟩;clear hK K PC O6;refine fT (rs:=[5]) (by kernel_rfl) (by simp) ?_;intro w7 hb7 j hj;obtain rfl:j=5:=by simpa using hj
  clear hj;have D7:=D6.trans (hb7.mono D6.size);refine wpOp_step rfl (fun K hK=>?_);go_simp;have hA7:=chain hA D7;have con:=rX (left ++ right) x a6 c6 xa xcap w7 ((aX.next hA7 (Mc _) hx).up hA7.size) ((I6.next hb7 (Mc _)).up hb7.size) hcond;rw [Mw] at con;refine con.mono ?_;clear con;rintro e w8 ⟨u8,rfl,hC8,hb8⟩;obtain ⟨ug,ucb,rfl⟩:∃ g cb,u8 = .func (.func g) #[] cb:=by obtain ⟨g,cb,e,_⟩:=hC8; exact ⟨g,cb,e⟩
  have D8:=D7.trans (hb8.mono D7.size);refine hK _ _ ⟨D8,?_⟩;clear hK K;refine et 23 6 (.tuple #[.func (.func ug) #[] ucb,.int .i64 0]) (fun n=>?_) D8 ?_
  ·go_simp
  simp only [pD,pB,pC];refine et 30 7 (.func (.func ug) #[] ucb) (fun n=>?_) D8 ?_
  ·go_simp
  simp only [pD,pB,pC];refine et 31 8 (.int .i64 0) (fun n=>?_) D8 ?_
  ·go_simp
  simp only [pD,pB,pC];refine et 12 9 (.func (.func ug) #[] ucb) (fun n=>?_) D8 ?_
  ·go_simp
  simp only [pD,pB,pC];refine et 13 10 (.int .i64 0) (fun n=>?_) D8 ?_
  ·go_simp
  simp only [pD,pB,pC];refine mV (by kernel_rfl) ?_;intro w9 hb9;have D9:=D8.trans (hb9.mono D8.size);have hA9:=chain hA D9;have q0:=(D9.cell (p:=⟨w.heap.size+1,0,none⟩) (by show w.heap.size+1<_; omega)).trans b0;have q1:=(D9.cell (p:=⟨w.heap.size+1,1,none⟩) (by show w.heap.size+1<_; omega)).trans b1;have q2:=(D9.cell (p:=⟨w.heap.size+1,2,none⟩) (by show w.heap.size+1<_; omega)).trans b2;have g0:=(D9.frozen (p:=⟨w.heap.size+1,0,none⟩) (by show w.heap.size+1<_; omega)).trans f0;have g1:=(D9.frozen (p:=⟨w.heap.size+1,1,none⟩) (by show w.heap.size+1<_; omega)).trans f1
  have g2:=(D9.frozen (p:=⟨w.heap.size+1,2,none⟩) (by show w.heap.size+1<_; omega)).trans f2;have con:=gK left la lcap a ca l w9 ((hcl.next hA9 (Mc _)).up hA9.size) (h.next hA9);have lt9:w.heap.size+1<w9.heap.size:=by have:=D9.size; omega
  clear b0 b1 b2 f0 f1 f2 S2;by_cases hi1:cz left l=0
  ·go_wp2_with fail
   rw [hi1] at con;refine con.mono ?_;clear con;rintro e w10 ⟨rfl,hb10⟩;have hA10:=chain hA9 hb10;have lt10:w.heap.size+1<w10.heap.size:=by have:=hb10.size; omega
   have q0:=(hb10.cell (p:=⟨w.heap.size+1,0,none⟩) lt9).trans q0;have q1:=(hb10.cell (p:=⟨w.heap.size+1,1,none⟩) lt9).trans q1;have q2:=(hb10.cell (p:=⟨w.heap.size+1,2,none⟩) lt9).trans q2;have g0:=(hb10.frozen (p:=⟨w.heap.size+1,0,none⟩) lt9).trans g0;have g1:=(hb10.frozen (p:=⟨w.heap.size+1,1,none⟩) lt9).trans g1;have g2:=(hb10.frozen (p:=⟨w.heap.size+1,2,none⟩) lt9).trans g2;have con:=gK right ra rcap b cb r w10 ((hcr.next hA10 (Mc _)).up hA10.size) (h'.next hA10);by_cases hi2:cz right r=0
   ·go_wp2_with fail
    rw [hi2] at con;refine con.mono ?_;clear con;have e0:te=0:=by rw [← HT.out]; unfold j2; rw [if_neg H8.out,if_neg (by simp [hcond]),if_neg (by simp [hi1])]; exact hi2
    subst e0;rintro e w11 ⟨rfl,hb11⟩;have hA11:=chain hA10 hb11;have lt11:w.heap.size+1<w11.heap.size:=by have:=hb11.size; omega
    have q0:=(hb11.cell (p:=⟨w.heap.size+1,0,none⟩) lt10).trans q0;have q1:=(hb11.cell (p:=⟨w.heap.size+1,1,none⟩) lt10).trans q1;have q2:=(hb11.cell (p:=⟨w.heap.size+1,2,none⟩) lt10).trans q2;have g0:=(hb11.frozen (p:=⟨w.heap.size+1,0,none⟩) lt10).trans g0;have g1:=(hb11.frozen (p:=⟨w.heap.size+1,1,none⟩) lt10).trans g1;have g2:=(hb11.frozen (p:=⟨w.heap.size+1,2,none⟩) lt10).trans g2;go_wp2_with fail
    refine (Ca (.func (.func ug) #[] ucb) w11 ⟨_,_,rfl⟩).mono ?_;rintro e w12 ⟨rv,rfl,hv12,N12,I12,hb12⟩;have hA12:=chain hA11 hb12;have lt12:w.heap.size+1<w12.heap.size:=by have:=hb12.size; omega
    have q0:=(hb12.cell (p:=⟨w.heap.size+1,0,none⟩) lt11).trans q0;have q1:=(hb12.cell (p:=⟨w.heap.size+1,1,none⟩) lt11).trans q1;have q2:=(hb12.cell (p:=⟨w.heap.size+1,2,none⟩) lt11).trans q2;have g0:=(hb12.frozen (p:=⟨w.heap.size+1,0,none⟩) lt11).trans g0;have g1:=(hb12.frozen (p:=⟨w.heap.size+1,1,none⟩) lt11).trans g1;have g2:=(hb12.frozen (p:=⟨w.heap.size+1,2,none⟩) lt11).trans g2;have d12:Below w8.heap.size w8 w12:=chain (chain (chain hb9 hb10) hb11) hb12;have F7:Hid (w.heap.size+2≤w7.heap.size):=by show w.heap.size+2≤w7.heap.size; have:=D7.size; omega
    have HC8:=aw hC8;have HZ:Hid (w8.heap.size≤w11.heap.size):=by show w8.heap.size≤w11.heap.size; have:=(chain (chain hb9 hb10) hb11).size; omega
    clear hC8;go_wp2_with fail
    obtain ⟨r0,r1,r2⟩:=pF (.slice a l.length ca) (.slice b r.length cb) (.func (.func 185) #[] #[.pointer (some ⟨rv,0,none⟩),.pointer (some ⟨w11.heap.size,0,none⟩)]) q0 q1 q2;have hE:=jV (.slice a l.length ca) (.slice b r.length cb) (.func (.func 185) #[] #[.pointer (some ⟨rv,0,none⟩),.pointer (some ⟨w11.heap.size,0,none⟩)]) hA12 (show w.heap.size≤w.heap.size+1 by omega);have hK:=yN (W:=w12) (k:=w.heap.size+1) (.slice a l.length ca) (.slice b r.length cb) (.func (.func 185) #[] #[.pointer (some ⟨rv,0,none⟩),.pointer (some ⟨w11.heap.size,0,none⟩)])
    have hS:=Cc (W:=w12) (k:=w.heap.size+1) (.slice a l.length ca) (.slice b r.length cb) (.func (.func 185) #[] #[.pointer (some ⟨rv,0,none⟩),.pointer (some ⟨w11.heap.size,0,none⟩)]);generalize ((w12.setCell ⟨w.heap.size+1,0,none⟩ (.slice a l.length ca)).setCell ⟨w.heap.size+1,1,none⟩ (.slice b r.length cb)).setCell ⟨w.heap.size+1,2,none⟩ (.func (.func 185) #[] #[.pointer (some ⟨rv,0,none⟩),.pointer (some ⟨w11.heap.size,0,none⟩)])=wE at *;have hr12:=N12.r;have hv12':=N12.v;have hz:=HZ.out;have h7:=F7.out;obtain ⟨n12,hvar⟩:=I12.var;obtain ⟨cur12,hroom,hcs⟩:=I12.room
    refine Me (v:=.tuple #[.agg #[.slice a l.length ca,.slice b r.length cb,.func (.func 185) #[] #[.pointer (some ⟨rv,0,none⟩),.pointer (some ⟨w11.heap.size,0,none⟩)]],.int .i64 0]) (by simp [results,Tryz.results120,go_sem,r0,r1,r2]) rfl ⟨_,rfl,⟨⟨w7.heap.size,w8,w11.heap.size+1,rv,w11.heap.size,_,rfl,⟨by omega,by omega⟩,by omega,(Mv (w:=w12) (hK w11.heap.size (by omega))).trans hv12,HC8.out,by omega,⟨by have:=d12.size; omega,fun k k1 k2=>(hK k (by omega)).trans (d12.block k k2)⟩,by omega,hE,?_⟩⟩,hE⟩
    exact ⟨rfl,rfl,rfl,Mc _,fun _ _ _ _=>rfl,⟨n12,(Mv (w:=w12) (hK rv (by omega))).trans hvar⟩,(Nt (w:=w12) (hK rv (by omega))).trans I12.Fa,cur12,(hK _ (by omega)).trans hroom,hcs⟩
   ·go_wp2_with fail
    refine con.mono ?_;clear con;have e0:te=cz right r:=by rw [← HT.out]; unfold j2; rw [if_neg H8.out,if_neg (by simp [hcond]),if_neg (by simp [hi1])]
    rw [← e0] at hi2 ⊢;have hne:(te != 0)=true:=by simpa using hi2
    clear e0;rintro e w11 ⟨rfl,hb11⟩;have hA11:=chain hA10 hb11;have q0:=(hb11.cell (p:=⟨w.heap.size+1,0,none⟩) lt10).trans q0;have q1:=(hb11.cell (p:=⟨w.heap.size+1,1,none⟩) lt10).trans q1;have q2:=(hb11.cell (p:=⟨w.heap.size+1,2,none⟩) lt10).trans q2;have g0:=(hb11.frozen (p:=⟨w.heap.size+1,0,none⟩) lt10).trans g0;have g1:=(hb11.frozen (p:=⟨w.heap.size+1,1,none⟩) lt10).trans g1;have g2:=(hb11.frozen (p:=⟨w.heap.size+1,2,none⟩) lt10).trans g2;go_wp2_with fail
    obtain ⟨r0,r1,r2⟩:=pF (.slice none 0 0) (.slice none 0 0) .nilFunc q0 q1 q2;have hE:=jV (.slice none 0 0) (.slice none 0 0) .nilFunc hA11 (show w.heap.size≤w.heap.size+1 by omega);generalize ((w11.setCell ⟨w.heap.size+1,0,none⟩ (.slice none 0 0)).setCell ⟨w.heap.size+1,1,none⟩ (.slice none 0 0)).setCell ⟨w.heap.size+1,2,none⟩ .nilFunc=wE at *;exact Me (v:=.tuple #[.agg #[.slice none 0 0,.slice none 0 0,.nilFunc],.int .i64 te]) (by simp [results,Tryz.results120,go_sem,r0,r1,r2]) rfl ⟨_,rfl,.inr ⟨hi2,rfl⟩,hE⟩
  ·go_wp2_with fail
   refine con.mono ?_;clear con;have e0:te=cz left l:=by rw [← HT.out]; unfold j2; rw [if_neg H8.out,if_neg (by simp [hcond]),if_pos hi1]
   rw [← e0] at hi1 ⊢;have hne:(te != 0)=true:=by simpa using hi1
   clear e0;rintro e w10 ⟨rfl,hb10⟩;have hA10:=chain hA9 hb10;have q0:=(hb10.cell (p:=⟨w.heap.size+1,0,none⟩) lt9).trans q0;have q1:=(hb10.cell (p:=⟨w.heap.size+1,1,none⟩) lt9).trans q1;have q2:=(hb10.cell (p:=⟨w.heap.size+1,2,none⟩) lt9).trans q2;have g0:=(hb10.frozen (p:=⟨w.heap.size+1,0,none⟩) lt9).trans g0;have g1:=(hb10.frozen (p:=⟨w.heap.size+1,1,none⟩) lt9).trans g1;have g2:=(hb10.frozen (p:=⟨w.heap.size+1,2,none⟩) lt9).trans g2;go_wp2_with fail
   obtain ⟨r0,r1,r2⟩:=pF (.slice none 0 0) (.slice none 0 0) .nilFunc q0 q1 q2;have hE:=jV (.slice none 0 0) (.slice none 0 0) .nilFunc hA10 (show w.heap.size≤w.heap.size+1 by omega);generalize ((w10.setCell ⟨w.heap.size+1,0,none⟩ (.slice none 0 0)).setCell ⟨w.heap.size+1,1,none⟩ (.slice none 0 0)).setCell ⟨w.heap.size+1,2,none⟩ .nilFunc=wE at *;exact Me (v:=.tuple #[.agg #[.slice none 0 0,.slice none 0 0,.nilFunc],.int .i64 te]) (by simp [results,Tryz.results120,go_sem,r0,r1,r2]) rfl ⟨_,rfl,.inr ⟨hi1,rfl⟩,hE⟩
 ·have e0:te=cH (left ++ right) x:=by rw [← HT.out]; unfold j2; rw [if_neg H8.out,if_pos hcond]
  have e1:¬ te=0:=by rw [e0]; exact hcond
  have hne:(te != 0)=true:=by simpa using e1
  have HC:Hid (cH (left ++ right) x=te):=e0.symm;clear e0;go_enter Tryz.func120,Tryz.ntmps120;go_wp2_with fail
  generalize (w.alloc (.cells (fS x xa xcap) 27)).alloc (.cells #[.slice none 0 0,.slice none 0 0,.nilFunc] 137)=w2 at *;have hB0:Below w2.heap.size w2 w2.drew:=(Md _ _).drew;refine jg (by kernel_rfl) ?_;refine et 24 0 (.slice la left.length lcap) (fun n=>?_) hB0 ?_
  ·go_simp
  simp only [pD,pB,pC];refine et 25 1 (.slice ra right.length rcap) (fun n=>?_) hB0 ?_
  ·go_simp
  simp only [pD,pB,pC];refine et 28 4 (iU x.k x.v x.c xa x.ks.length xcap) (fun n=>?_) hB0 ?_
  ·go_simp
  simp only [pD,pB,pC];clear p0 p1 p2 p3 p4 p5;refine fT (rs:=[2]) (by kernel_rfl) (by simp) ?_;intro w3 hb3 j hj;obtain rfl:j=2:=by simpa using hj
  clear hj;have D3:=hB0.trans (hb3.mono hB0.size);refine wpOp_step rfl (fun K hK=>?_);go_simp;have hal3:=aa w3 (.cells #[.slice la left.length lcap,.slice ra right.length rcap] 42);have PC:=iQ.new lcap rcap (fh (hcl.next (chain hA D3) (Mc _))) (fh (hcr.next (chain hA D3) (Mc _))) 42;have D4:=D3.trans (hal3.mono D3.size);refine hK _ _ ⟨D4,?_⟩;clear hK K;generalize w3.alloc (.cells #[.slice la left.length lcap,.slice ra right.length rcap] 42)=w4 at *
  refine fT (rs:=[3]) (by kernel_rfl) (by simp) ?_;intro w5 hb5 j hj;obtain rfl:j=3:=by simpa using hj
  clear hj;have D5:=D4.trans (hb5.mono D4.size);refine wpOp_step rfl (fun K hK=>?_);go_simp;refine (jX _ _ _ _ _ w5 (PC.next hb5) (by omega)).mono ?_;rintro e w6 ⟨v6,rfl,O6,hb6⟩;rw [← M7] at O6;obtain ⟨a6,c6,rfl,I6⟩:=wy O6 (by simp);have D6:=D5.trans (hb6.mono D5.size);refine hK _ _ ⟨D6,?_⟩;clear hK K PC O6;refine fT (rs:=[5]) (by kernel_rfl) (by simp) ?_;intro w7 hb7 j hj;obtain rfl:j=5:=by simpa using hj
  clear hj;have D7:=D6.trans (hb7.mono D6.size);refine wpOp_step rfl (fun K hK=>?_);go_simp;have hA7:=chain hA D7;have con:=qm (left ++ right) x a6 c6 xa xcap w7 ((aX.next hA7 (Mc _) hx).up hA7.size) ((I6.next hb7 (Mc _)).up hb7.size) hcond;rw [HC.out,Mw] at con;refine con.mono ?_;clear con;rintro e w8 ⟨rfl,hb8⟩;have D8:=D7.trans (hb8.mono D7.size);refine hK _ _ ⟨D8,?_⟩;clear hK K
  refine et 23 6 (.tuple #[.nilFunc,.int .i64 te]) (fun n=>?_) D8 ?_
  ·go_simp
  simp only [pD,pB,pC];refine et 30 7 (.nilFunc) (fun n=>?_) D8 ?_
  ·go_simp
  simp only [pD,pB,pC];refine et 31 8 (.int .i64 te) (fun n=>?_) D8 ?_
  ·go_simp
  simp only [pD,pB,pC];refine et 12 9 (.nilFunc) (fun n=>?_) D8 ?_
  ·go_simp
  simp only [pD,pB,pC];refine et 13 10 (.int .i64 te) (fun n=>?_) D8 ?_
  ·go_simp
  simp only [pD,pB,pC];refine mV (by kernel_rfl) ?_;intro w9 hb9;have D9:=D8.trans (hb9.mono D8.size);have hA9:=chain hA D9;have q0:=(D9.cell (p:=⟨w.heap.size+1,0,none⟩) (by show w.heap.size+1<_; omega)).trans b0;have q1:=(D9.cell (p:=⟨w.heap.size+1,1,none⟩) (by show w.heap.size+1<_; omega)).trans b1;have q2:=(D9.cell (p:=⟨w.heap.size+1,2,none⟩) (by show w.heap.size+1<_; omega)).trans b2;have g0:=(D9.frozen (p:=⟨w.heap.size+1,0,none⟩) (by show w.heap.size+1<_; omega)).trans f0;have g1:=(D9.frozen (p:=⟨w.heap.size+1,1,none⟩) (by show w.heap.size+1<_; omega)).trans f1
  have g2:=(D9.frozen (p:=⟨w.heap.size+1,2,none⟩) (by show w.heap.size+1<_; omega)).trans f2;go_wp2_with fail
  obtain ⟨r0,r1,r2⟩:=pF (.slice none 0 0) (.slice none 0 0) .nilFunc q0 q1 q2;have hE:=jV (.slice none 0 0) (.slice none 0 0) .nilFunc hA9 (show w.heap.size≤w.heap.size+1 by omega);generalize ((w9.setCell ⟨w.heap.size+1,0,none⟩ (.slice none 0 0)).setCell ⟨w.heap.size+1,1,none⟩ (.slice none 0 0)).setCell ⟨w.heap.size+1,2,none⟩ .nilFunc=wE at *;exact Me (v:=.tuple #[.agg #[.slice none 0 0,.slice none 0 0,.nilFunc],.int .i64 te]) (by simp [results,Tryz.results120,go_sem,r0,r1,r2]) rfl ⟨_,rfl,.inr ⟨e1,rfl⟩,hE⟩
end Go.Proofs.YtjebpkhkjkjphaaGreat
namespace Go.Proofs.YtjebpkhkjkjphaaGreat
open Go.RowKit
set_option maxRecDepth 100000
set_option maxHeartbeats 16000000
section
variable {P:Program} {ops:Array Oper} {Q:Exit→Act→World→Prop} {md:Region.Mode} {C:World→Prop}
def gX (P:Program) (ops:Array Oper) (C:World→Prop) (o:Oper) (v:Value) (a:Act):Prop :=
 (Region.wanted o (yielded ops a.tmps)=true∧∀ n:World,C n→Oper.quietUpon P (fun w'=>Below n.heap.size n w') n v ((execOp a.eval o).run P n)) ∨
 (Region.wanted o (yielded ops a.tmps)=false∧v=undef)
theorem gX.of_same {o:Oper} {v:Value} {a a':Act} (hy:gX P ops C o v a) (he:execOp a'.eval o=execOp a.eval o)
  (hw:Region.wanted o (yielded ops a'.tmps)=Region.wanted o (yielded ops a.tmps)):gX P ops C o v a':=by
 unfold gX at *;rw [he,hw];exact hy
theorem gX.wpOp {i:Nat} {o:Oper} {v:Value} {a:Act} (hi:ops[i]? = some o) (hy:gX P ops C o v a)
  {K:Act→World→Prop} {w:World} (hB:C w) (h:∀ w',Below w.heap.size w w'→K (a.put o.dst v) w'):wpOp P ops Q i K a w:=by
 unfold Go.wpOp;simp only [hi];rcases hy with ⟨hw,hv⟩ | ⟨hw,rfl⟩
 ·simp only [hw,if_true];left;have h3:=hv w hB;unfold Oper.wp;generalize (execOp a.eval o).run P w=r at *;cases r with
  | ok n w' =>
   cases n <;> simp only [Oper.quietUpon] at h3 <;> simp only [Oper.upon]
   case value u =>
    obtain ⟨e1,e2⟩:=h3;rw [e1,e2];exact h _ (Md _ _)
   case skip =>
    obtain ⟨e1,e2⟩:=h3;rw [e1,← e2];exact h _ (Md _ _)
   case enter f args =>
    obtain ⟨e1,hc⟩:=h3;rw [e1];exact hc.mono fun e w'' ⟨he,hw''⟩=>by subst he; exact h _ hw''
  | halt x w'=>simp only [Oper.quietUpon] at h3
 ·simp only [hw,Nq,if_false];exact h _ (Md _ _)
theorem sh {Φ:Act→Prop} {j:Nat} {oi oj:Oper} {v:Value} (hj:ops[j]? = some oj) (hap:oi.apart ops oj=true)
  (hsj:∀ cs b,oj.op ≠ .select cs b) (hQ:∀ c a w,Q (.panic c) (a.put oi.dst v) w→Q (.panic c) a w)
  (iF:∀ (a:Act),Φ a→∀ u,Φ (a.put oj.dst u)) (keepD:∀ (a:Act) (d:Deferred),Φ a→Φ { a with defers:=d :: a.defers })
  {K:Act→World→Prop} {a:Act} {w:World} (hy:Φ a) (h:wpOp P ops Q j K (a.put oi.dst v) w) :
  wpOp P ops Q j (fun a' w'=>Φ a'∧K (a'.put oi.dst v) w') a w:=by
 obtain ⟨h1,h2,_⟩:=Oper.apart_spec hap;unfold wpOp at *;simp only [hj] at *;rw [wanted_put oj a oi.dst v h1] at h
 split
 ·rename_i hw
  simp only [hw,if_true] at h;rcases h with h | ⟨hasks,hlets⟩
  case inr=>exact .inr ⟨by unfold Oper.asks at *; rw [execOp_put oj hsj a oi.dst v h1] at hasks; exact hasks,hlets⟩
  refine .inl ?_;unfold Oper.wp at *;rw [execOp_put oj hsj a oi.dst v h1] at h;generalize (execOp a.eval oj).run P w=r at *;cases r with
  | ok n w' =>
   cases n <;> simp only [Oper.upon] at h ⊢
   case value u=>exact ⟨iF a hy u,by rw [← Act.put_comm a v u h2]; exact h⟩
   case skip=>exact ⟨iF a hy _,by rw [← Act.put_comm a v undef h2]; exact h⟩
   case defer d =>
    refine ⟨iF _ (keepD a d hy) _,?_⟩;rw [← Act.put_comm _ v undef h2,← Act.put_defers];exact h
   case enter f args =>
    refine Calls.mono h fun e w'' he=>?_
    cases e with
    | returned u=>exact ⟨iF a hy u,by rw [← Act.put_comm a v u h2]; exact he⟩
    | panicked c=>exact hQ _ _ _ he
    | outgrown=>exact he
   case row row args=>exact Rows.mono h fun u w'' he=>⟨iF a hy u,by rw [← Act.put_comm a v u h2]; exact he⟩
  | halt x w' =>
   cases x <;> simp only [Oper.upon] at h ⊢
   case panic u=>exact hQ _ _ _ h
 ·rename_i hw
  simp only [hw] at h;exact ⟨iF a hy _,by rw [← Act.put_comm a v undef h2]; exact h⟩
def wg (P:Program) (md:Region.Mode) (ops:Array Oper) (Q:Exit→Act→World→Prop) (C:World→Prop):Nat→Array Bool→Act→World→Prop
 | 0,listed,a,w=>Region.ready md ops listed = []∧∀ w',Below w.heap.size w w'→Q .normal a w'
 | fuel+1,listed,a,w=>∀ w',Below w.heap.size w w'→(Region.ready md ops listed = []→Q .normal a w') ∧
  ∀ i ∈ Region.ready md ops listed,wpOp P ops Q i (fun a' w''=>C w''∧wg P md ops Q C fuel (listed.setIfInBounds i true) a' w'') a w'
theorem wg.cG:∀ (fuel:Nat) {listed:Array Bool} {a:Act} {w w1:World},wg P md ops Q C fuel listed a w→Below w.heap.size w w1→wg P md ops Q C fuel listed a w1
 | 0,_,_,_,_,h,hb=>⟨h.1,fun w' hw'=>h.2 w' (chain hb hw')⟩
 | _+1,_,_,_,_,h,hb=>fun w' hw'=>h w' (chain hb hw')
theorem mY:∀ (fuel:Nat) (listed:Array Bool) (a:Act) (w:World),wg P md ops Q C fuel listed a w→wpAny P md ops Q fuel listed a w
 | 0,_,_,_,h=>⟨h.1,h.2 _ (Md _ _)⟩
 | fuel+1,_,_,w,h=>⟨(h w (Md _ _)).1,fun i hi=>wpOp_mono (fun a' w' h'=>mY fuel _ a' w' h'.2) ((h w (Md _ _)).2 i hi)⟩
theorem Cz (hC:∀ w w',C w→Below w.heap.size w w'→C w') {i:Nat} {oi:Oper} {v:Value} (hi:ops[i]? = some oi) (hsel:∀ (j:Nat) (o:Oper) cs b,ops[j]? = some o→o.op ≠ .select cs b)
  (hQ:∀ c a w,Q (.panic c) (a.put oi.dst v) w→Q (.panic c) a w) :
  ∀ (fuel:Nat) (listed:Array Bool) (a:Act) (w:World),
   (∀ j oj,ops[j]? = some oj→j≠i→listed.getD j true=false→(∀ e ∈ oj.after,Region.binds md e=true→e.on≠i)→oi.apart ops oj=true) →
   i ∈ Region.ready md ops listed→gX P ops C oi v a→C w →
   wg P md ops Q C fuel (listed.setIfInBounds i true) (a.put oi.dst v) w→wg P md ops Q C (fuel+1) listed a w:=by
 intro fuel
 induction fuel with
 | zero =>
  intro listed a w _ hr hy hB H w' hw';refine ⟨fun h=>(by rw [h] at hr; cases hr),fun j hj=>?_⟩;by_cases hji:j=i
  ·subst hji;exact hy.wpOp hi (hC _ _ hB hw') fun w'' hw''=>⟨hC _ _ (hC _ _ hB hw') hw'',H.cG 0 (chain hw' hw'')⟩
  ·have:=ready_mono hj hji;rw [H.1] at this;cases this
 | succ fuel ih =>
  intro listed a w hfree hr hy hB H w' hw';refine ⟨fun h=>(by rw [h] at hr; cases hr),fun j hj=>?_⟩;by_cases hji:j=i
  ·subst hji;exact hy.wpOp hi (hC _ _ hB hw') fun w'' hw''=>⟨hC _ _ (hC _ _ hB hw') hw'',H.cG (fuel+1) (chain hw' hw'')⟩
  ·have h1:=(H w' hw').2 j (ready_mono hj hji);obtain ⟨hjun,oj,hoj,hall⟩:=mem_ready.1 hj;have hnot:∀ e ∈ oj.after,Region.binds md e=true→e.on≠i:=fun e he hb heq=>by
    have h1:=hall e he hb;have h0:=(mem_ready.1 hr).1;rw [heq] at h1;rcases ME i listed.size with h' | h'
    ·simp [h'] at h0 h1; rw [h0] at h1; cases h1
    ·simp [M3 h'] at h1
   have hap:=hfree j oj hoj hji hjun hnot;obtain ⟨_,_,h3⟩:=Oper.apart_spec hap;have h2:=sh (Φ:=gX P ops C oi v) hoj hap (fun cs b=>hsel j oj cs b hoj) hQ
    (fun a hy u=>hy.of_same (execOp_put oi (fun cs b=>hsel i oi cs b hi) a oj.dst u h3) (wanted_put oi a oj.dst u h3)) (fun a d hy=>hy.of_same rfl rfl) hy h1
   have hfree':∀ k ok,ops[k]? = some ok→k≠i→(listed.setIfInBounds j true).getD k true=false →
     (∀ e ∈ ok.after,Region.binds md e=true→e.on≠i)→oi.apart ops ok=true:=fun k ok hk hki hun hno=>by
    refine hfree k ok hk hki ?_ hno;by_cases hjk:j=k
    ·subst hjk; exact hjun
    ·rw [getD_set_ne true hjk] at hun; exact hun
   refine wpOp_mono (fun a' w'' h4=>⟨h4.2.1,ih (listed.setIfInBounds j true) a' w'' hfree' (ready_mono hr (Ne.symm hji)) h4.1 h4.2.1 ?_⟩) h2;rw [Array.setIfInBounds_comm _ _ hji];exact h4.2.2
theorem ER (hC:∀ w w',C w→Below w.heap.size w w'→C w') {i:Nat} {oi:Oper} {v:Value} {fuel:Nat} {listed:Array Bool} {a:Act} {w:World} (d:Option Tmp) (hi:ops[i]? = some oi) (hd:oi.dst=d)
  (hs:Region.noSelect ops=true) (hf:Region.free md ops listed i=true) (hr:(Region.ready md ops listed).contains i=true)
  (hQ:∀ c a w,Q (.panic c) (a.put oi.dst v) w→Q (.panic c) a w) (hy:gX P ops C oi v a) (hB:C w)
  (h:wg P md ops Q C fuel (listed.setIfInBounds i true) (a.put d v) w):wg P md ops Q C (fuel+1) listed a w:=by
 subst hd;exact Cz hC hi (Region.noSelect_spec hs) hQ fuel listed a w (Region.free_spec hi hf) (by simpa using hr) hy hB h
theorem az (hC:∀ w w',C w→Below w.heap.size w w'→C w') (d i:Nat) (v:Value) {oi:Oper} {fuel:Nat} {listed:Array Bool} {a:Act} {w:World} (hn:∀ n:World,C n→Oper.quietUpon P (fun w'=>Below n.heap.size n w') n v ((execOp a.eval oi).run P n)) (hB:C w)
 (h:wg P md ops Q C fuel (listed.setIfInBounds i true) (a.put (some d) v) w) (hi:ops[i]? = some oi:=by exact rfl) (hd:oi.dst=some d:=by exact rfl)
 (hs:Region.noSelect ops=true:=by kernel_rfl) (hf:Region.free md ops listed i=true:=by kernel_rfl) (hr:(Region.ready md ops listed).contains i=true:=by kernel_rfl)
 (hQ:∀ c a w,Q (.panic c) (a.put oi.dst v) w→Q (.panic c) a w:=by exact fun _ _ _ h=>h) (hw:Region.wanted oi (yielded ops a.tmps)=true:=by exact rfl):wg P md ops Q C (fuel+1) listed a w:=ER hC (some d) hi hd hs hf hr hQ (Or.inl ⟨hw,hn⟩) hB h
theorem ab (hC:∀ w w',C w→Below w.heap.size w w'→C w') {i:Nat} {oi:Oper} {v:Value} {fuel:Nat} {listed:Array Bool} {a:Act} {w:World} (d:Tmp) (hy:∀ n:World,C n→Oper.quietUpon P (fun w'=>Below n.heap.size n w') n v ((execOp a.eval oi).run P n)) (hB:C w) (h:wg P md ops Q C fuel (listed.setIfInBounds i true) (a.put (some d) v) w) (hi:ops[i]? = some oi:=by exact rfl) (hd:oi.dst = some d:=by exact rfl) (hs:Region.noSelect ops=true:=by kernel_rfl) (hf:Region.free md ops listed i=true:=by kernel_rfl) (hr:(Region.ready md ops listed).contains i=true:=by kernel_rfl) (hQ:∀ c a w,Q (.panic c) (a.put oi.dst v) w→Q (.panic c) a w:=by exact fun _ _ _ h=>h) (hw:Region.wanted oi (yielded ops a.tmps)=true:=by exact rfl):wg P md ops Q C (fuel+1) listed a w:=ER hC (some d) hi hd hs hf hr hQ (.inl ⟨hw,hy⟩) hB h
theorem mI {rs:List Nat} {fuel:Nat} {listed:Array Bool} {a:Act} {w:World} (hr:Region.ready md ops listed=rs) (hne:rs ≠ [])
  (h:∀ w',Below w.heap.size w w'→∀ i ∈ rs,wpOp P ops Q i (fun a' w''=>C w''∧wg P md ops Q C fuel (listed.setIfInBounds i true) a' w'') a w'):wg P md ops Q C (fuel+1) listed a w :=
 fun w' hw'=>⟨fun h0=>absurd (hr ▸ h0) hne,hr ▸ h w' hw'⟩
theorem bD (i:Nat) {fuel:Nat} {listed:Array Bool} {a:Act} {w:World} (h:∀ w',Below w.heap.size w w'→wpOp P ops Q i (fun a' w''=>C w''∧wg P md ops Q C fuel (listed.setIfInBounds i true) a' w'') a w') (hr:Region.ready md ops listed=[i]:=by kernel_rfl):wg P md ops Q C (fuel+1) listed a w:=mI hr (by simp) fun w' hw j hj=>by
  obtain rfl:j=i:=by simpa using hj
  exact h w' hw
theorem bo {listed:Array Bool} {a:Act} {w:World} (hr:Region.ready md ops listed = []) (h:∀ w',Below w.heap.size w w'→Q .normal a w'):wg P md ops Q C 0 listed a w:=⟨hr,h⟩
theorem aH {id:Nat} {a:Act} {w:World} (C:World→Prop) (hm:P.follows .mixedOrders=true)
  (h:wg P .any ops Q C ops.size (Array.replicate ops.size false) a w.drew):(Code.region id ops true).wp P Q a w :=
 wp_region_any hm (mY _ _ _ _ h)
end
end Go.Proofs.YtjebpkhkjkjphaaGreat
namespace Go.Proofs.YtjebpkhkjkjphaaGreat
open Go.RowKit Go.Lib Go.Shelf
set_option maxRecDepth 100000
set_option maxHeartbeats 16000000
def js (base:Nat) (W:World) (v:Value) (l:List Zp):Prop:=∃ xs,W.ownsRow base 63 2 v l.length xs∧wh W xs l∧∀ (i:Nat) (b o cap n:Nat),i<l.length→xs[i*2]? = some (.slice (some ⟨b,o,none⟩) n cap)→base≤b
theorem js.z {base:Nat} {W:World} {v:Value} {l:List Zp} (h:js base W v l):dH base W v l:=by
 obtain ⟨xs,h1,h2,_⟩:=h;exact ⟨xs,h1,h2⟩
theorem Ga {lo:Nat} {W w1:World} {a:Option Addr} {r:List Vl} (h:bg W a r) (ht:gp W a) (hb:∀ b o,a=some ⟨b,o,none⟩→lo≤b) (hs:Since lo W w1):bg w1 a r∧gp w1 a:=by
 have key:∀ b off,a=some ⟨b,off,none⟩→w1.heap[b]? = W.heap[b]?:=by
  intro b off e;obtain ⟨c,z,h1⟩:=ht b off e;have hlt:b<W.heap.size:=by
   rcases ME b W.heap.size with h | h
   ·exact h
   ·rw [M3 h] at h1; cases h1
  exact hs.2 b (hb b off e) hlt
 refine ⟨⟨h.1,?_⟩,?_⟩
 ·rcases h.2 with h | ⟨b,off,e,hr,hlt⟩
  ·exact .inl h
  ·refine .inr ⟨b,off,e,fun i hi=>?_,Mh hlt hs.1⟩;have k:=key b off e;obtain ⟨c0,c1,c2⟩:=hr i hi;exact ⟨(Mv (a:=⟨b,_,none⟩) k).trans c0,(Mv (a:=⟨b,_,none⟩) k).trans c1,(Mv (a:=⟨b,_,none⟩) k).trans c2⟩
 ·intro b off e;obtain ⟨c,z,h1⟩:=ht b off e;exact ⟨c,z,(key b off e).trans h1⟩
theorem js.since {base lo:Nat} {W w1:World} {v:Value} {l:List Zp} (h:js base W v l) (hl:lo≤base) (hs:Since lo W w1):js base w1 v l:=by
 obtain ⟨xs,h1,h2,h3⟩:=h;refine ⟨xs,jA h1 hl hs,⟨h2.1,fun i hi=>?_⟩,h3⟩;obtain ⟨a,cap,e0,e1,e2,e3⟩:=h2.2 i hi;obtain ⟨g0,g1⟩:=Ga e2 e3 (fun b o e=>by subst e; exact Mr hl (h3 i b o cap _ hi e0)) hs;exact ⟨a,cap,e0,e1,g0,g1⟩
theorem js.nil (base:Nat) (W:World):js base W (.slice none 0 0) []:=⟨[],by simpa using MM _ _ _ _,⟨rfl,fun i hi=>by simp at hi⟩,fun i b o cap n hi=>by simp at hi⟩
theorem js.slice {base:Nat} {W:World} {v:Value} {l:List Zp} (h:js base W v l):∃ a cap,v = .slice a l.length cap:=by
 obtain ⟨a,cap,e,_⟩:=h.z.zs;exact ⟨a,cap,e⟩
theorem js.push {W w1:World} {base:Nat} {v v':Value} {xs:List Value} {l:List Zp} {a:Option Addr} {cap:Nat} {r:List Vl} {x:Int}
  (ho:W.ownsRow base 63 2 v l.length xs) (he:wh W xs l) (hb:∀ (i:Nat) (b o cap n:Nat),i<l.length→xs[i*2]? = some (.slice (some ⟨b,o,none⟩) n cap)→base≤b) (hs:bg W a r) (ht:gp W a) (ha:∀ b o,a=some ⟨b,o,none⟩→base≤b)
  (ho':w1.ownsRow base 63 2 v' (l.length+1) (xs ++ [.slice a r.length cap,.int .i64 x])) (hg:W.grownBy w1 v.ownBlock):js base w1 v' (l ++ [(r,x)]):=by
 have lx:=he.1;refine ⟨_,by simpa using ho',⟨by simp [he.1]; omega,?_⟩,?_⟩
 ·intro i hi;by_cases hi':i<l.length
  ·obtain ⟨a',c',h1,h2,h3,h4⟩:=he.2 i hi';have g:=jy h3 h4 ho hg;refine ⟨a',c',?_,?_,?_,g.2⟩
   ·rw [Mx (by omega),h1,Mz hi']
   ·rw [Mx (by omega),h2,Mz hi']
   ·rw [Mz hi']; exact g.1
  ·have:i=l.length:=by simp at hi; omega
   subst this;have g:=jy hs ht ho hg;refine ⟨a,cap,?_,?_,?_,g.2⟩
   ·rw [My (by omega)]; simp [lx]
   ·rw [My (by omega)]; simp [lx]
   ·simpa using g.1
 ·intro i b o c n hi h;by_cases hi':i<l.length
  ·rw [Mx (by omega)] at h;exact hb i b o c n hi' h
  ·have:i=l.length:=by simp at hi; omega
   subst this;rw [My (by omega)] at h;simp [lx] at h;exact ha b o h.1
theorem js.lt {base:Nat} {W:World} {v:Value} {l:List Zp} (h:js base W v l) {g:Nat} (hg:v.ownBlock=some g):base≤g∧g<W.heap.size:=by
 obtain ⟨xs,h1,_⟩:=h;exact h1.lt g hg
theorem bW {P:Program} {w:World} {o:Oper} {a:Act} {K:Act→World→Prop} {Q:Exit→Act→World→Prop} (d:Option Tmp) (hd:o.dst=d) (s x:Operand) (t:TypeId)
  (ho:o.op = .call { callee:=.builtin .append,args:=#[s,x],argTypes:=#[t,t] })
  (base:Nat) (e:TypeId) (i:TypeInfo) (z:Value) (size bytes:Nat) (ht:P.underlying t=some (.slice e)) (hi:P.info? e=some i) (hz:i.zero=some z)
  (hsize:i.size=size) (hby:i.bytes=bytes) (hzs:z.cells.size=size) (hsz:0<size)
  (v:Value) (n:Nat) (xs:List Value) (hs:a.eval s=v) (hown:w.ownsRow base e size v n xs)
  (ad:Addr) (m c:Nat) (news:List Value) (hx:a.eval x = .slice (some ad) m c) (hl:news.length=m*size) (hnews:∀ j u,news[j]? = some u→w.cell? (ad.add j)=some u) (h1:∀ u ∈ news,u.oneCell'=true)
  (h63:n+m≤maxLen) (hbytes:(n+m)*bytes≤140737488355328) (hbase:base≤w.heap.size)
  (h:∀ v' w',w'.ownsRow base e size v' (n+m) (xs ++ news)→w.grownBy w' v.ownBlock→(v'.ownBlock=v.ownBlock∨v'.ownBlock=some w.heap.size)→K (a.put d v') w'):o.wp P a w K Q:=by
 subst hd;obtain ⟨v',w',hr,h2,h3,_,h5⟩:=run_append_own_at (P:=P) w base t o.type e i z size bytes ht hi hz hsize hby hzs hsz v n xs hown ad m c news hl hnews h1 h63 hbytes hbase;unfold Oper.wp execOp;simp only [ho,resolve,invoke,builtin,Sem.run_bind,Sem.run_pure,Result.andThen_ok,List.map_toArray,Na,NJ,hs,hx,hr];exact h v' w' h2 h3 h5
theorem zV (x:Ex) {l r:List Zp} {k:Nat} (h:k<l.length):bX x (l.take (k+1)) r=bX x (l.take k) r ++ cD x l[k] r:=by
 unfold bX;rw [Mp h,List.flatMap_append];simp
theorem ux (x:Ex) (p:Zp) {r:List Zp} {k:Nat} (h:k<r.length):cD x p (r.take (k+1))=cD x p (r.take k) ++ (if ax x (p.1 ++ r[k].1)=true then [(p.1 ++ r[k].1,p.2*r[k].2)] else []):=by
 unfold cD;rw [Mp h,List.filter_append,M7,List.filter_cons]
 congr 1
 split <;> rfl
theorem oW (x:Ex) (p:Zp) (r:List Zp):(cD x p r).length≤r.length:=by
 unfold cD;rw [MA];exact M5 _ _
theorem nY (x:Ex):∀ (l r:List Zp),(bX x l r).length≤l.length*r.length
 | [],_=>by simp [bX]
 | p :: t,r=>by
  have h1:=nY x t r
  have h2:=oW x p r
  unfold bX at h1 ⊢
  rw [List.flatMap_cons,Mw,NG,Nat.add_mul,Nat.one_mul]
  omega
theorem cell_of {W:World} {b:Nat} {xs:Array Value} {T:TypeId} {i:Nat} {v:Value} (h:W.heap[b]? = some (.cells xs T (0,0))) (hv:xs[i]? = some v):W.cell? ⟨b,i,none⟩=some v:=by
 simp [World.cell?,h,hv]
theorem ak (W:World) (xs:Array Value) (T:TypeId):(W.alloc (.cells xs T)).heap[W.heap.size]? = some (.cells xs T (0,0)):=by
 show (W.heap.push (.cells xs T (0,0)))[W.heap.size]? = _;exact Array.getElem?_push_size
theorem ae {W:World} {b:Nat} {o:Obj} (h:W.heap[b]? = some o):b<W.heap.size:=by
 rcases ME b W.heap.size with h' | h'
 ·exact h'
 ·rw [M3 h'] at h; cases h
abbrev Kp:Type:=List Vl × Zp
def pq (x y:Kp):Prop:=aK x.1 y.1<0∨(aK x.1 y.1=0∧aK x.2.1 y.2.1<0)
instance (x y:Kp):Decidable (pq x y):=by unfold pq; exact inferInstance
theorem pq.trans {x y z:Kp} (h1:pq x y) (h2:pq y z):pq x z:=by
 rcases h1 with h1 | ⟨h1,g1⟩
 ·rcases h2 with h2 | ⟨h2,_⟩
  ·exact .inl (dz h1 (by omega))
  ·exact .inl (dz h1 (by omega))
 ·rcases h2 with h2 | ⟨h2,g2⟩
  ·exact .inl (xA (by omega) h2)
  ·refine .inr ⟨?_,dz g1 (by omega)⟩;have a1:=cN x.1 y.1 z.1 (by omega) (by omega);have n1:=bd x.1 y.1;have n2:=bd y.1 z.1;have n3:=bd x.1 z.1;have a2:=cN z.1 y.1 x.1 (by omega) (by omega);omega
theorem pq.not {x y:Kp} (h1:pq x y) (h2:pq y x):False:=by
 have n1:=bd x.1 y.1;have n2:=bd x.2.1 y.2.1;rcases h1 with h1 | ⟨h1,g1⟩ <;> rcases h2 with h2 | ⟨h2,g2⟩ <;> omega
def insK (x:Kp):List Kp→List Kp
 | []=>[x]
 | y :: r=>if pq x y then x :: y :: r else y :: insK x r
def DZ:List Kp→List Kp
 | []=>[]
 | x :: r=>insK x (DZ r)
theorem ot (x:Kp):∀ l,(insK x l).Perm (x :: l)
 | []=>List.Perm.refl _
 | y :: r=>by
  unfold insK
  split
  ·exact List.Perm.refl _
  ·exact ((ot x r).cons y).trans (List.Perm.swap x y r)
theorem od:∀ l,(DZ l).Perm l
 | []=>List.Perm.refl _
 | x :: r=>(ot x (DZ r)).trans ((od r).cons x)
theorem oD (x:Kp):∀ l,l.Pairwise pq→(∀ y ∈ l,pq x y∨pq y x)→(insK x l).Pairwise pq
 | [],_,_=>by simp [insK]
 | y :: r,h,ht=>by
  obtain ⟨h1,h2⟩:=List.pairwise_cons.1 h
  unfold insK
  split
  ·rename_i c
   exact List.pairwise_cons.2 ⟨fun z hz=>by
    rcases List.mem_cons.1 hz with rfl | hz
    ·exact c
    ·exact c.trans (h1 z hz),h⟩
  ·rename_i c
   have c':pq y x:=by rcases ht y (by simp) with h | h; exact absurd h c; exact h
   exact List.pairwise_cons.2 ⟨fun z hz=>by
    rcases List.mem_cons.1 ((ot x r).mem_iff.1 hz) with rfl | hz
    ·exact c'
    ·exact h1 z hz,oD x r h2 fun z hz=>ht z (by simp [hz])⟩
theorem oL:∀ l,l.Pairwise (fun x y=>pq x y∨pq y x)→(DZ l).Pairwise pq
 | [],_=>List.Pairwise.nil
 | x :: r,h=>by
  obtain ⟨h1,h2⟩:=List.pairwise_cons.1 h
  exact oD x _ (oL r h2) fun y hy=>h1 y ((od r).mem_iff.1 hy)
theorem oU:∀ (l1 l2:List Kp),l1.Perm l2→l1.Pairwise pq→l2.Pairwise pq→l1=l2
 | [],l2,p,_,_=>(List.Perm.nil_eq p)
 | x :: t,[],p,_,_=>by have:=p.length_eq; simp at this
 | x :: t,y :: s,p,h1,h2=>by
  obtain ⟨a1,a2⟩:=List.pairwise_cons.1 h1
  obtain ⟨b1,b2⟩:=List.pairwise_cons.1 h2
  have e:x=y:=by
   by_cases e:x=y
   ·exact e
   ·exfalso;have hx:x ∈ s:=by
     rcases List.mem_cons.1 (p.mem_iff.1 (List.mem_cons_self)) with h | h
     ·exact absurd h e
     ·exact h
    have hy:y ∈ t:=by
     rcases List.mem_cons.1 (p.mem_iff.2 (List.mem_cons_self)) with h | h
     ·exact absurd h.symm e
     ·exact h
    exact pq.not (a1 y hy) (b1 x hx)
  subst e;rw [oU t s (List.Perm.cons_inv p) a2 b2]
def i6 (xs:List Ex) (z:List Zp):List Kp:=(z.filter fun p=>decide (0<p.2)).map fun p=>(fj xs p.1,p)
def bj (xs:List Ex) (z:List Zp):List Kp:=DZ (i6 xs z)
theorem qu {xs:List Ex} {z:List Zp} (h:iH z):(i6 xs z).Pairwise fun x y=>aK x.2.1 y.2.1<0:=by
 unfold i6;rw [List.pairwise_map];exact List.Pairwise.filter _ h
theorem sv (xs:List Ex) (z:List Zp):(i6 xs z).length≤z.length:=by
 unfold i6;rw [MA];exact M5 _ _
theorem jQ (xs:List Ex) (z:List Zp):(bj xs z).Perm (i6 xs z):=od _
theorem tF {xs:List Ex} {z:List Zp} (h:iH z):(bj xs z).Pairwise pq:=oL _ ((qu h).imp fun {x y} hr=>by
 have n:=bd x.1 y.1
 by_cases c1:aK x.1 y.1<0
 ·exact .inl (.inl c1)
 ·by_cases c2:aK x.1 y.1=0
  ·exact .inl (.inr ⟨c2,hr⟩)
  ·exact .inr (.inl (by omega)))
theorem nS (xs:List Ex) (z:List Zp):(bj xs z).length≤z.length:=by rw [(jQ xs z).length_eq]; exact sv xs z
structure KI (W:World) (b o:Nat) (x:Kp):Prop where
 w:W.cell? ⟨b,o+2,none⟩=some (.int .i64 x.2.2)
 r:∃ ra rc,W.cell? ⟨b,o+1,none⟩=some (.slice ra x.2.1.length rc)∧bg W ra x.2.1
 k:∃ ka kc,W.cell? ⟨b,o,none⟩=some (.slice ka x.1.length kc)∧bg W ka x.1
def uq (W:World) (a:Option Addr) (l:List Kp):Prop:=l = []∨∃ b off,a=some ⟨b,off,none⟩∧b<W.heap.size∧∀ i (hi:i<l.length),KI W b (off+i*3) l[i]
theorem KI.next {W w1:World} {b o:Nat} {x:Kp} (h:KI W b o x) (hlt:b<W.heap.size) (hb:Below W.heap.size W w1):KI w1 b o x:=by
 obtain ⟨h1,⟨ra,rc,h2,h3⟩,ka,kc,h4,h5⟩:=h;exact ⟨(hb.cell (p:=⟨b,_,none⟩) hlt).trans h1,⟨ra,rc,(hb.cell (p:=⟨b,_,none⟩) hlt).trans h2,h3.next hb⟩,ka,kc,(hb.cell (p:=⟨b,_,none⟩) hlt).trans h4,h5.next hb⟩
theorem uq.next {W w1:World} {a:Option Addr} {l:List Kp} (h:uq W a l) (hb:Below W.heap.size W w1):uq w1 a l:=by
 rcases h with h | ⟨b,off,e,hlt,hr⟩
 ·exact .inl h
 ·exact .inr ⟨b,off,e,Mh hlt hb.size,fun i hi=>(hr i hi).next hlt hb⟩
theorem uq.elem {W:World} {a:Option Addr} {l:List Kp} (h:uq W a l) {k:Nat} (hk:k<l.length):∃ b off,a=some ⟨b,off,none⟩∧b<W.heap.size∧KI W b (off+k*3) l[k]:=by
 rcases h with h | ⟨b,off,e,hlt,hr⟩
 ·subst h; simp at hk
 ·exact ⟨b,off,e,hlt,hr k hk⟩
structure Kr where
 ka:Option Addr
 kc:Nat
 keys:List Vl
 ra:Option Addr
 rc:Nat
 row:List Vl
 w:Int
def KL (g:Nat) (a:Option Addr) (l:List Vl):Prop:=l = []∨∀ b off,a=some ⟨b,off,none⟩→b≠g
abbrev Kg (w:World) (g:Nat):Type:={ x:Kr // (bg w x.ka x.keys∧KL g x.ka x.keys)∧bg w x.ra x.row∧KL g x.ra x.row }
instance (w:World) (g:Nat):Inhabited (Kg w g):=⟨⟨⟨none,0,[],none,0,[],0⟩,⟨⟨by simp,.inl rfl⟩,.inl rfl⟩,⟨by simp,.inl rfl⟩,.inl rfl⟩⟩
section
variable (w:World) (g:Nat)
def mg (x:Kg w g):List Value:=[.slice x.1.ka x.1.keys.length x.1.kc,.slice x.1.ra x.1.row.length x.1.rc,.int .i64 x.1.w]
def Jo (x y:Kg w g):Int:=aK x.1.keys y.1.keys
def Ff (x y:Kg w g):Prop:=aK x.1.row y.1.row<0
def JJ (x:Kg w g):Kp:=(x.1.keys,x.1.row,x.1.w)
theorem AI:iu (Jo w g) (Ff w g) where
 neg x y:=by have:=bd x.1.keys y.1.keys; unfold Jo; omega
 trans x y z h1 h2:=cN _ _ _ h1 h2
 Gq x y z h1 h2:=dz h1 (by unfold Ff at h2; omega)
end
theorem zt {α:Type} [Inhabited α] (enc:α→List Value) (k:Nat) (w:World) (blk off m:Nat) (dk:Array α) (os:Array Obj) {j:Nat} (hj:j<w.heap.size) (hne:j≠blk):(sortWorldK enc k w blk off m dk os).heap[j]? = w.heap[j]?:=by
 show ((Go.Sort.mapBlock _ _ _).heap ++ os)[j]? = _;rw [Array.getElem?_append_left (by simp [Go.Sort.mapBlock,Go.Sort.ahead]; omega)];simp only [Go.Sort.mapBlock,Go.Sort.ahead,Array.getElem?_modify];rw [if_neg (by omega)]
theorem lB {α:Type} [Inhabited α] {enc:α→List Value} {k:Nat} {w w':World} {blk off:Nat} {dk:Array α} {a:Option Addr} {l:List Vl} (h:bg w a l) (ho:KL blk a l) (hS:SWK enc k w blk off dk w'):bg w' a l:=by
 have hle:=hS.le;obtain ⟨m,os,rfl⟩:=hS;refine ⟨h.1,?_⟩;rcases ho with ho | ho
 ·exact .inl ho
 rcases h.2 with h | ⟨b,o,e,hr,hlt⟩
 ·exact .inl h
 ·refine .inr ⟨b,o,e,fun i hi=>?_,Mh hlt hle⟩;have k:=zt enc k w blk off m dk os hlt (ho b o e);obtain ⟨c0,c1,c2⟩:=hr i hi;exact ⟨(Mv (a:=⟨b,_,none⟩) k).trans c0,(Mv (a:=⟨b,_,none⟩) k).trans c1,(Mv (a:=⟨b,_,none⟩) k).trans c2⟩
theorem zR {α:Type} [Inhabited α] {enc:α→List Value} {k:Nat} {w0 w w':World} {blk off:Nat} {dk:Array α} (hb:Below w0.heap.size w0 w) (hk:w0.heap.size≤blk) (hS:SWK enc k w blk off dk w'):Below w0.heap.size w0 w':=by
 obtain ⟨m,os,rfl⟩:=hS;exact fE hb hk
theorem oN (ka ra ka' ra':Option Addr) (kc rc kc' rc':Nat) (x x':Int) (l l' r r':List Vl) (w:World) (h:bg w ka l) (h':bg w ka' l') :
  Calls Tryz.prog 118 #[.agg #[.slice ka l.length kc,.slice ra r.length rc,.int .i64 x],.agg #[.slice ka' l'.length kc',.slice ra' r'.length rc',.int .i64 x']] w fun e w'=>e = .returned (.int .i64 (aK l l'))∧∃ q os',w'=Go.Sort.grow (w.drewN q) os':=by
 have b2:Below w.heap.size w ((w.alloc (.cells #[.slice ka l.length kc,.slice ra r.length rc,.int .i64 x] 132)).alloc (.cells #[.slice ka' l'.length kc',.slice ra' r'.length rc',.int .i64 x'] 132)):=((Md _ _).alloc (Mc _) _).alloc (by simp) _;go_enter Tryz.func118,Tryz.ntmps118;go_wp2_with fail
 refine (xL _ _ _ _ _ _ _ (h.next b2) (h'.next b2)).mono ?_;rintro e w1 ⟨rfl,hb1,hd1⟩;go_wp2
 go_ret;exact ⟨rfl,ma (chain b2 hb1) hd1⟩
theorem EW (w:World) (blk off size:Nat):CmpLays Tryz.prog 118 #[] (mg w blk) 3 (Jo w blk) blk off size w :=
 fun m os _ _ x y=>oN _ _ _ _ _ _ _ _ _ _ _ _ _ _ _ (lB x.2.1.1 x.2.1.2 ⟨m,os,rfl⟩) (lB y.2.1.1 y.2.1.2 ⟨m,os,rfl⟩)
end Go.Proofs.YtjebpkhkjkjphaaGreat
namespace Go.Proofs
open Go.Shelf Go.RowKit Go.Lib
shelf_lay_g SlLaysF0.n20 Slsf 20 at Tryz 183 as Tryz.insK
end Go.Proofs
namespace Go.Proofs.YtjebpkhkjkjphaaGreat
open Go.RowKit Go.Lib Go.Shelf Go.Sort
set_option maxRecDepth 100000
set_option maxHeartbeats 16000000
theorem Jy (wS:World) (blk off cap:Nat) (d:Array (Kg wS blk)) (R:RowK (mg wS blk) 3 wS blk off d) (hsz:d.size≤1000000):AL Tryz.prog 3 (mg wS blk) (Jo wS blk) 118 #[] blk off cap d wS:=fun a b dk w hs S hab hbd=>by
 have eg:∀ args w,(callFunc 118 args).run Tryz.prog w = .ok (.enter 118 args) w:=enters_of Tryz.func118 (by kernel_rfl) rfl
 have hH:=S.holds R.hblk R.hH hs.symm
 have hC:CmpLays Tryz.prog 118 #[] (mg wS blk) 3 (Jo wS blk) blk off dk.size w:=fun m os dj hj x y=>by
  have S2:=S.on R.hblk m dj os hj
  exact oN _ _ _ _ _ _ _ _ _ _ _ _ _ _ _ (lB x.2.1.1 x.2.1.2 S2) (lB y.2.1.1 y.2.1.2 S2)
 refine (AnyQ.insertionSortCmpFunc Tryz.insK 3 Tryz.isAgg132 Tryz.sizeOf132 (mg wS blk) R.hk R.h1 (Jo wS blk) 118 #[] blk off cap a b dk w eg hC hH (S.lt R.hblk) hab hbd (by omega)).mono ?_
 rintro e w' ⟨rfl,n,os,rfl⟩
 refine ⟨rfl,S.on R.hblk _ _ _ ?_⟩
 exact (mA (pre:=fun _ _=>True) ⟨(AI wS blk).neg,(AI wS blk).trans,fun _ _ _ _ _=>trivial⟩ a b dk hab hbd (fun _ _ _ _ _=>trivial)).1.1
end Go.Proofs.YtjebpkhkjkjphaaGreat
