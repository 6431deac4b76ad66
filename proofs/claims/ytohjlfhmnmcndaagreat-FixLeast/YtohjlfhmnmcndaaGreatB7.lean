/- Together: ZG, Q2, K8, J5, J6, Ext2, J7, S6, J8. -/
import Derived.Laws.EntriesVeiled
import Derived.OrdersHeld
import Derived.RegionTactic
import Derived.Maps.AppendAt
import Derived.Shelf.Lay
import Derived.Test.YtohjlfhmnmcndaaGreatB6
import Derived.Test.YtohjlfhmnmcndaaGreatB1
import Derived.Test.YtohjlfhmnmcndaaGreatB3
/- The walks of zsets.withTimes, zsets.Add and zsets.Sub. -/
namespace Go.Proofs.YtohjlfhmnmcndaaGreat
open Go.RowKit Go.Lib Go.Shelf

theorem OwnZ.zs2 {base:Nat} {W:World} {v:Value} {l:List Zp} (h:OwnZ base W v l):∃ a cap,v = .slice a l.length cap∧ZsAt W a l∧(a=none→cap=0):=by
 obtain ⟨a,cap,rfl,z⟩:=h.zs
 refine ⟨a,cap,rfl,z,?_⟩
 intro e
 subst e
 obtain ⟨xs,⟨_,⟨e4,_⟩ | ⟨g,c1,cur,e4,_⟩⟩,_⟩:=h
 ·injection e4
 ·injection e4 with e4; cases e4

def timesF (t:Int) (w:Int):Int:=t*w
/-- What is wrong with two sets, or with what they make. -/
def bothE (t:Int) (a b:List Zp):Int:=if wrongZ a=0 then (if wrongZ b=0 then gatherE (a ++ weighL (timesF t) b) else wrongZ b) else wrongZ a
def bothZ (t:Int) (a b:List Zp):List Zp:=if bothE t a b=0 then canon (a ++ weighL (timesF t) b) else []

theorem eg59:∀ args w,(callFunc 74 args).run Tryz.prog w = .ok (.enter 74 args) w:=enters_of Tryz.func74 (by kernel_rfl) rfl
theorem makes59 (w:World) (B:Nat) (t:Int) (hB:w.cell? ⟨B,0,none⟩=some (.int .i64 t)) (ht:t=1∨t = -1):Makes 74 #[.pointer (some ⟨B,0,none⟩)] (timesF t) w:=by
 intro x W hx hb
 have hx:=(inW_iff _).1 hx
 have hc:=(hb.cell (p:=⟨B,0,none⟩) (World.block_lt_of_cell? _ _ hB)).trans hB
 show Calls Tryz.prog 74 #[.int .i64 x,.pointer (some ⟨B,0,none⟩)] W _
 have e:timesF t x=t*x:=rfl
 rw [e]
 rcases ht with rfl | rfl
 ·go_enter Tryz.func74,Tryz.ntmps74
  go_wp2
  go_ret
  exact ⟨ret_int (by omega),Below.refl _ _⟩
 ·go_enter Tryz.func74,Tryz.ntmps74
  go_wp2
  go_ret
  exact ⟨ret_int (by omega),Below.refl _ _⟩
theorem timesF_in (t:Int) (ht:t=1∨t = -1) (x:Int) (h:inW x=true):inW (timesF t x)=true:=by
 rw [inW_iff] at *
 unfold timesF
 rcases ht with rfl | rfl <;> omega

set_option maxRecDepth 100000 in
set_option maxHeartbeats 4000000 in
theorem withTimes_at (t:Int) (ht:t=1∨t = -1) (a b:Option Addr) (ca cb:Nat) (l l':List Zp) (w:World) (h:ZsAt w a l) (h':ZsAt w b l') (hn:a=none→ca=0) :
  Calls Tryz.prog 45 #[.slice a l.length ca,.slice b l'.length cb,.int .i64 t] w fun e w'=>∃ v,e = .returned (.tuple #[v,.int .i64 (bothE t l l')])∧OwnZ w.heap.size w' v (bothZ t l l')∧Below w.heap.size w w':=by
 have bA:Below w.heap.size w ((w.alloc (.cells #[.int .i64 t] 2)).alloc (.cells #[.slice a l.length ca,.slice b l'.length cb] 34)):=((Below.refl _ _).alloc (Nat.le_refl _) _).alloc (by simp) _
 have cA0:((w.alloc (.cells #[.int .i64 t] 2)).alloc (.cells #[.slice a l.length ca,.slice b l'.length cb] 34)).cell? ⟨w.heap.size,0,none⟩=some (.int .i64 t):=by simp
 have cB0:((w.alloc (.cells #[.int .i64 t] 2)).alloc (.cells #[.slice a l.length ca,.slice b l'.length cb] 34)).cell? ⟨w.heap.size+1,0,none⟩=some (.slice a l.length ca):=by simp
 have cB1:((w.alloc (.cells #[.int .i64 t] 2)).alloc (.cells #[.slice a l.length ca,.slice b l'.length cb] 34)).cell? ⟨w.heap.size+1,1,none⟩=some (.slice b l'.length cb):=by simp
 have zA:=h.next bA
 have zB:=h'.next bA
 have hzA:w.heap.size+2≤((w.alloc (.cells #[.int .i64 t] 2)).alloc (.cells #[.slice a l.length ca,.slice b l'.length cb] 34)).heap.size:=by simp
 by_cases hw:wrongZ l=0
 ·have Hw:Hid (wrongZ l=0):=hw
  by_cases hw':wrongZ l'=0
  ·have Hw':Hid (wrongZ l'=0):=hw'
   have hok:=(wrongZ_iff l).1 hw
   have hok':=(wrongZ_iff l').1 hw'
   have eE:bothE t l l'=gatherE (l ++ weighL (timesF t) l'):=by simp [bothE,hw,hw']
   have eZ:bothZ t l l'=gatherZ (l ++ weighL (timesF t) l'):=by unfold bothZ gatherZ; rw [eE]
   rw [eE,eZ]
   have hlen:=weighL_len (timesF t) l'
   have hin:∀ x ∈ l ++ weighL (timesF t) l',inW x.2=true∧x.1.length≤8:=by
    intro x hx
    rcases List.mem_append.1 hx with hx | hx
    ·exact ⟨(hok.2.1 x hx).2.2,((wrongRowF_zero _).1 (hok.2.1 x hx).1).1⟩
    ·obtain ⟨y,hy,rfl,_⟩:=weighL_mem _ _ x hx
     exact ⟨timesF_in t ht _ (hok'.2.1 y hy).2.2,by simp only [bareL_length]; exact ((wrongRowF_zero _).1 (hok'.2.1 y hy).1).1⟩
   have HIn:Hid (∀ x ∈ l ++ weighL (timesF t) l',inW x.2=true∧x.1.length≤8):=hin
   clear hw hw' eE eZ hin
   go_enter Tryz.func45,Tryz.ntmps45
   go_wp2_with fail
   generalize ((w.alloc (.cells #[.int .i64 t] 2)).alloc (.cells #[.slice a l.length ca,.slice b l'.length cb] 34))=wA at *
   refine wp_loop_rounds 3 ?_
   rw [rounds_succ]
   go_wp2_with fail
   refine (zWrong_at _ _ _ _ zA).mono ?_
   rintro e w1 ⟨rfl,hb1⟩
   rw [Hw.out]
   have cB1':=(hb1.cell (p:=⟨w.heap.size+1,1,none⟩) (World.block_lt_of_cell? _ _ cB1)).trans cB1
   have cA0':=(hb1.cell (p:=⟨w.heap.size,0,none⟩) (World.block_lt_of_cell? _ _ cA0)).trans cA0
   go_wp2_with fail
   rw [rounds_succ]
   go_wp2_with fail
   refine (zWrong_at _ _ _ _ (zB.next hb1)).mono ?_
   rintro e w2 ⟨rfl,hb2⟩
   rw [Hw'.out]
   have cA2:=(hb2.cell (p:=⟨w.heap.size,0,none⟩) (World.block_lt_of_cell? _ _ cA0')).trans cA0'
   go_wp2_with fail
   rw [rounds_succ]
   go_wp2_with fail
   refine (weighed_at 74 #[.pointer (some ⟨w.heap.size,0,none⟩)] (timesF t) b cb l' w2 ((zB.next hb1).next hb2) eg59 (makes59 w2 w.heap.size t cA2 ht) (by omega) (fun x hx=>((wrongRowF_zero _).1 (hok'.2.1 x hx).1).1) (fun x hx=>(hok'.2.1 x hx).2.2)).mono ?_
   rintro e w3 ⟨v3,rfl,O3,hb3⟩
   obtain ⟨a3,c3,rfl,z3,n3⟩:=O3.zs2
   have z1:=((zA.next hb1).next hb2).next hb3
   have b3:=chain1 (chain1 (chain1 bA hb1) hb2) hb3
   have b4:Below w3.heap.size w3 (w3.alloc (.cells #[.slice a l.length ca,.slice a3 (weighL (timesF t) l').length c3] 34)):=(Below.refl _ _).alloc (Nat.le_refl _) _
   have pr:Pair (w3.alloc (.cells #[.slice a l.length ca,.slice a3 (weighL (timesF t) l').length c3] 34)) w3.heap.size l (weighL (timesF t) l'):=by
    refine ⟨by simp,fun k hk=>?_⟩
    match k,hk with
    | 0,_=>exact ⟨a,ca,l,by simp,z1.next b4,hn,by simp [catTo]⟩
    | 1,_=>exact ⟨a3,c3,_,by simp,z3.next b4,n3,by simp [catTo]⟩
   have cc:=concat_at w3.heap.size l (weighL (timesF t) l') _ pr (by omega)
   clear O3 pr hb1 hb2 hb3 cA0 cB0 cB1 cA0' cB1' cA2 z1 z3
   generalize hm:weighL (timesF t) l'=m at *
   have HM:Hid (weighL (timesF t) l'=m):=hm
   clear hm
   go_wp2_with fail
   refine cc.mono ?_
   clear cc
   rintro e w5 ⟨a5,c5,rfl,z5,n5,hb5⟩
   have hql:(l ++ m).length≤2000:=by simp; omega
   generalize hq:l ++ m=qq at *
   have HQ:Hid (l ++ m=qq):=hq
   clear hq
   go_wp2_with fail
   refine (gathered_at _ _ _ _ z5 (by omega) (fun x hx=>inW_big (HIn.out x hx).1) (fun x hx=>(HIn.out x hx).2)).mono ?_
   rintro e w6 ⟨v6,rfl,O6,hb6⟩
   have bb:=chain1 (chain1 (chain1 b3 b4) hb5) hb6
   have O6':=O6.mono (Nat.le_trans (Nat.le_trans b3.size b4.size) hb5.size)
   obtain ⟨a6,c6,rfl,z6⟩:=O6.zs
   go_wp2_with fail
   exact bodyPost_ret (v:=.tuple #[.slice a6 (gatherZ qq).length c6,.int .i64 (gatherE qq)]) (by simp [results,Tryz.results45,go_sem]) rfl ⟨_,by rw [HM.out,HQ.out],by rw [HM.out,HQ.out]; exact O6',bb⟩
  ·have eE:bothE t l l'=wrongZ l':=by simp [bothE,hw,hw']
   have eZ:bothZ t l l' = []:=by simp [bothZ,eE,hw']
   rw [eE,eZ]
   have hne:(wrongZ l' != 0)=true:=by simpa using hw'
   clear hw hw' eE eZ
   go_enter Tryz.func45,Tryz.ntmps45
   go_wp2_with fail
   generalize ((w.alloc (.cells #[.int .i64 t] 2)).alloc (.cells #[.slice a l.length ca,.slice b l'.length cb] 34))=wA at *
   refine wp_loop_rounds 3 ?_
   rw [rounds_succ]
   go_wp2_with fail
   refine (zWrong_at _ _ _ _ zA).mono ?_
   rintro e w1 ⟨rfl,hb1⟩
   rw [Hw.out]
   have cB1':=(hb1.cell (p:=⟨w.heap.size+1,1,none⟩) (World.block_lt_of_cell? _ _ cB1)).trans cB1
   go_wp2_with fail
   rw [rounds_succ]
   go_wp2_with fail
   refine (zWrong_at _ _ _ _ (zB.next hb1)).mono ?_
   rintro e w2 ⟨rfl,hb2⟩
   go_wp2_with fail
   exact bodyPost_ret (v:=.tuple #[.slice none 0 0,.int .i64 (wrongZ l')]) (by simp [results,Tryz.results45,go_sem]) rfl ⟨_,rfl,own_nil _ _,chain1 (chain1 bA hb1) hb2⟩
 ·have eE:bothE t l l'=wrongZ l:=by simp [bothE,hw]
  have eZ:bothZ t l l' = []:=by simp [bothZ,eE,hw]
  rw [eE,eZ]
  have hne:(wrongZ l != 0)=true:=by simpa using hw
  clear hw eE eZ
  go_enter Tryz.func45,Tryz.ntmps45
  go_wp2_with fail
  generalize ((w.alloc (.cells #[.int .i64 t] 2)).alloc (.cells #[.slice a l.length ca,.slice b l'.length cb] 34))=wA at *
  refine wp_loop_rounds 3 ?_
  rw [rounds_succ]
  go_wp2_with fail
  refine (zWrong_at _ _ _ _ zA).mono ?_
  rintro e w1 ⟨rfl,hb1⟩
  go_wp2_with fail
  exact bodyPost_ret (v:=.tuple #[.slice none 0 0,.int .i64 (wrongZ l)]) (by simp [results,Tryz.results45,go_sem]) rfl ⟨_,rfl,own_nil _ _,chain1 bA hb1⟩

set_option maxRecDepth 100000 in
set_option maxHeartbeats 400000 in
theorem add_at (a b:Option Addr) (ca cb:Nat) (l l':List Zp) (w:World) (h:ZsAt w a l) (h':ZsAt w b l') (hn:a=none→ca=0) :
  Calls Tryz.prog 20 #[.slice a l.length ca,.slice b l'.length cb] w fun e w'=>∃ v,e = .returned (.tuple #[v,.int .i64 (bothE 1 l l')])∧OwnZ w.heap.size w' v (bothZ 1 l l')∧Below w.heap.size w w':=by
 go_enter Tryz.func20,Tryz.ntmps20
 go_wp2_with fail
 refine (withTimes_at 1 (by omega) a b ca cb l l' w h h' hn).mono ?_
 rintro e w1 ⟨v,rfl,O1,hb1⟩
 obtain ⟨a1,c1,rfl,z1⟩:=O1.zs
 go_wp2_with fail
 exact bodyPost_ret (v:=.tuple #[.slice a1 (bothZ 1 l l').length c1,.int .i64 (bothE 1 l l')]) (by simp [results,Tryz.results20,go_sem]) rfl ⟨_,rfl,O1,hb1⟩

set_option maxRecDepth 100000 in
set_option maxHeartbeats 400000 in
theorem sub_at (a b:Option Addr) (ca cb:Nat) (l l':List Zp) (w:World) (h:ZsAt w a l) (h':ZsAt w b l') (hn:a=none→ca=0) :
  Calls Tryz.prog 56 #[.slice a l.length ca,.slice b l'.length cb] w fun e w'=>∃ v,e = .returned (.tuple #[v,.int .i64 (bothE (-1) l l')])∧OwnZ w.heap.size w' v (bothZ (-1) l l')∧Below w.heap.size w w':=by
 go_enter Tryz.func56,Tryz.ntmps56
 go_wp2_with fail
 refine (withTimes_at (-1) (by omega) a b ca cb l l' w h h' hn).mono ?_
 rintro e w1 ⟨v,rfl,O1,hb1⟩
 obtain ⟨a1,c1,rfl,z1⟩:=O1.zs
 go_wp2_with fail
 exact bodyPost_ret (v:=.tuple #[.slice a1 (bothZ (-1) l l').length c1,.int .i64 (bothE (-1) l l')]) (by simp [results,Tryz.results56,go_sem]) rfl ⟨_,rfl,O1,hb1⟩
end Go.Proofs.YtohjlfhmnmcndaaGreat
/- Sums of filters, maps and pairs, plainly. No program in sight. -/
namespace Go.Proofs.YtohjlfhmnmcndaaGreat

theorem tot_lin {s a b:List Zp} (e:∀ k,wt s k=wt a k+wt b k) {g:List Vl→Int} (hg:Resp g):tot g s=tot g a+tot g b:=by
 rw [← tot_append]
 exact tot_set (fun k=>by rw [e,wt_append]) hg
def nulls (n:Nat):List Vl:=List.replicate n (1,0,⟨#[]⟩)
def pairsOf (x:Ex) (p:Zp) (b:List Zp):List Zp:=(b.filter fun q=>holdsP x (p.1 ++ q.1)).map fun q=>(p.1 ++ q.1,p.2*q.2)
def joinL (x:Ex) (a b:List Zp):List Zp:=a.flatMap fun p=>pairsOf x p b
def hasP (x:Ex) (b:List Zp) (row:List Vl):Bool:=b.any fun q=>decide (0<q.2) && holdsP x (row ++ q.1)
def semiL (x:Ex) (a b:List Zp):List Zp:=a.filter fun p=>hasP x b p.1
def antiL (x:Ex) (a b:List Zp):List Zp:=a.filter fun p=>!hasP x b p.1
def wideL (n:Nat) (z:List Zp):List Zp:=z.map fun p=>(p.1 ++ nulls n,p.2)
def leftL (x:Ex) (n:Nat) (a b:List Zp):List Zp:=joinL x a b ++ wideL n (antiL x a b)
def twoE (l r:List Int) (x:Ex) (a b:List Zp):Int:=if 8<l.length+r.length then 5 else if condE (l ++ r) x≠0 then condE (l ++ r) x else if inpE l a≠0 then inpE l a else inpE r b
structure TwoOk (l r:List Int) (x:Ex) (a b:List Zp):Prop where
 len:l.length+r.length≤8
 cond:condE (l ++ r) x=0
 left:InpOk l a
 right:InpOk r b
theorem twoE_ok (l r:List Int) (x:Ex) (a b:List Zp):twoE l r x a b=0↔TwoOk l r x a b:=by
 unfold twoE
 by_cases h8:8<l.length+r.length
 ·rw [if_pos h8]
  constructor
  ·intro h; omega
  ·intro h; have:=h.len; omega
 ·rw [if_neg h8]
  by_cases h1:condE (l ++ r) x=0
  ·rw [if_neg (by simpa using h1)]
   by_cases h2:inpE l a=0
   ·rw [if_neg (by simpa using h2),inpE_ok]
    exact ⟨fun h=>⟨by omega,h1,(inpE_ok _ _).1 h2,h⟩,fun h=>h.right⟩
   ·rw [if_pos h2]
    exact ⟨fun h=>absurd h h2,fun h=>absurd ((inpE_ok _ _).2 h.left) h2⟩
  ·rw [if_pos h1]
   exact ⟨fun h=>absurd h h1,fun h=>absurd h.cond h1⟩
def nameL (what:Nat) (n:Nat) (x:Ex) (a b:List Zp):List Zp:=if what=0 then joinL x a b else if what=1 then semiL x a b else if what=2 then antiL x a b else leftL x n a b
def pairE (what:Nat) (l r:List Int) (x:Ex) (a b:List Zp):Int:=if twoE l r x a b≠0 then twoE l r x a b else gatherE (nameL what r.length x a b)
def pairZ (what:Nat) (l r:List Int) (x:Ex) (a b:List Zp):List Zp:=if pairE what l r x a b=0 then canon (nameL what r.length x a b) else []
theorem pairE_ok {what:Nat} {l r:List Int} {x:Ex} {a b:List Zp} (h:pairE what l r x a b=0):TwoOk l r x a b∧gatherE (nameL what r.length x a b)=0:=by
 unfold pairE at h
 by_cases h1:twoE l r x a b=0
 ·rw [if_neg (by simpa using h1)] at h
  exact ⟨(twoE_ok ..).1 h1,h⟩
 ·rw [if_pos h1] at h; exact absurd h h1

theorem fit_append {l r:List Int} {u v:List Vl} (h:FitP l u) (k:FitP r v):FitP (l ++ r) (u ++ v):=by
 have h1:=h.len
 have k1:=k.len
 refine ⟨by simp [h1,k1],fun i hi=>?_⟩
 by_cases c:i<u.length
 ·rw [List.getElem_append_left c]
  have:=h.one i c
  have e:(l ++ r).getD i 0=l.getD i 0:=by simp only [List.getD]; rw [List.getElem?_append_left (by omega)]
  rwa [e]
 ·have hi':i - u.length<v.length:=by simp at hi; omega
  rw [List.getElem_append_right (by omega)]
  have:=k.one (i - u.length) hi'
  have e:(l ++ r).getD i 0=r.getD (i - u.length) 0:=by simp only [List.getD]; rw [List.getElem?_append_right (by omega),h1]
  rwa [e]
theorem fit_right {cols:List Int} {row:List Vl} (h:FitP cols row):rightB row=true:=by
 unfold rightB
 rw [List.all_eq_true]
 intro v hv
 obtain ⟨i,hi,rfl⟩:=List.getElem_of_mem hv
 simpa [wrongP] using (h.one i hi).1
theorem fit_row {cols:List Int} {row:List Vl} (h:FitP cols row) (h8:cols.length≤8):wrongRowF row=0:=(wrongRowF_zero row).2 ⟨by have:=h.len; omega,fit_right h⟩

theorem pairsOf_tot (x:Ex) (p:Zp) (q:List Vl) (b:List Zp):wt (pairsOf x p b) q=tot (fun s=>if holdsP x (p.1 ++ s)=true∧cmpL (p.1 ++ s) q=0 then 1 else 0) b*p.2:=by
 induction b with
 | nil=>simp [pairsOf,wt,tot]
 | cons y t ih =>
  unfold pairsOf at ih ⊢
  rw [tot,Int.add_mul,← ih,List.filter_cons]
  by_cases h:holdsP x (p.1 ++ y.1)=true
  ·rw [if_pos h,List.map_cons,wt]
   by_cases c:cmpL (p.1 ++ y.1) q=0
   ·simp only [c,if_true,h,and_self]
    rw [Int.one_mul,Int.mul_comm]
   ·simp [c]
  ·rw [if_neg h]
   simp [h]
theorem join_tot (x:Ex) (q:List Vl) (a b:List Zp):wt (joinL x a b) q=tot (fun r=>tot (fun s=>if holdsP x (r ++ s)=true∧cmpL (r ++ s) q=0 then 1 else 0) b) a:=by
 induction a with
 | nil=>rfl
 | cons p t ih =>
  unfold joinL at ih ⊢
  rw [List.flatMap_cons,wt_append,tot,ih,pairsOf_tot]
theorem resp_pair1 (x:Ex) (q:List Vl) (r:List Vl):Resp (fun s=>if holdsP x (r ++ s)=true∧cmpL (r ++ s) q=0 then (1:Int) else 0):=fun a b h=>by
 have e:=cmpL_append (cmpL_refl r) h
 simp only [holds_same e,cmpL_left e]
theorem resp_pair2 (x:Ex) (q:List Vl) (b:List Zp):Resp (fun r=>tot (fun s=>if holdsP x (r ++ s)=true∧cmpL (r ++ s) q=0 then (1:Int) else 0) b):=fun r r' h=>by
 refine tot_congr fun y _=>?_
 have e:=cmpL_append h (cmpL_refl y.1)
 simp only [holds_same e,cmpL_left e]
theorem hasP_same {row row':List Vl} (h:cmpL row row'=0) (x:Ex) (b:List Zp):hasP x b row=hasP x b row':=by
 unfold hasP
 induction b with
 | nil=>rfl
 | cons y t ih=>rw [List.any_cons,List.any_cons,ih,holds_same (cmpL_append h (cmpL_refl y.1))]
theorem semi_wt (x:Ex) (a b:List Zp) (q:List Vl):wt (semiL x a b) q=if hasP x b q then wt a q else 0:=wt_filter (hasP x b) (fun _ _ h=>hasP_same h x b) q a
end Go.Proofs.YtohjlfhmnmcndaaGreat
/- The walk of ops.Map. -/
namespace Go.Proofs.YtohjlfhmnmcndaaGreat
open Go.RowKit Go.Lib Go.Shelf

/-- Rows with weights in a slice of one's own that was made at once: k of them are there. -/
def MTo (W:World) (B n:Nat) (f:Nat→Zp) (k:Nat):Prop:=∃ xs,W.ownsRow B 58 2 (.slice (some ⟨B,0,none⟩) n n) n xs∧∀ j:Nat,j<n→j<k→∃ a cap,xs[j*2]? = some (.slice a (f j).1.length cap)∧xs[j*2+1]? = some (.int .i64 (f j).2)∧SlAt W a (f j).1∧TyAt W a
theorem MTo.next {W w1:World} {B n:Nat} {f:Nat→Zp} {k:Nat} (h:MTo W B n f k) (hb:Below W.heap.size W w1):MTo w1 B n f k:=by
 obtain ⟨xs,h1,h2⟩:=h
 refine ⟨xs,own_next h1 hb,fun j hj hk=>?_⟩
 obtain ⟨a,cap,e0,e1,e2,e3⟩:=h2 j hj hk
 exact ⟨a,cap,e0,e1,e2.next hb,e3.next hb⟩
theorem MTo.step {W:World} {B n:Nat} {f:Nat→Zp} {k:Nat} (h:MTo W B n f k) (hk:k<n) {a:Option Addr} {cap:Nat} (hs:SlAt W a (f k).1) (ht:TyAt W a) :
  MTo ((W.setCell ⟨B,k*2,none⟩ (.slice a (f k).1.length cap)).setCell ⟨B,k*2+1,none⟩ (.int .i64 (f k).2)) B n f (k+1):=by
 obtain ⟨xs,h1,h2⟩:=h
 have lx:=h1.1
 obtain ⟨o1,g1⟩:=h1.stored (k*2) (.slice a (f k).1.length cap)
 obtain ⟨o2,g2⟩:=o1.stored (k*2+1) (.int .i64 (f k).2)
 have go:∀ {b:Option Addr} {r:List Vl},SlAt W b r→TyAt W b→SlAt ((W.setCell ⟨B,k*2,none⟩ (.slice a (f k).1.length cap)).setCell ⟨B,k*2+1,none⟩ (.int .i64 (f k).2)) b r∧TyAt ((W.setCell ⟨B,k*2,none⟩ (.slice a (f k).1.length cap)).setCell ⟨B,k*2+1,none⟩ (.int .i64 (f k).2)) b:=fun hs ht=>by
  obtain ⟨s1,t1⟩:=sl_grown hs ht h1 g1
  exact sl_grown s1 t1 o1 g2
 refine ⟨_,o2,?_⟩
 intro j hj hjk
 by_cases e:j=k
 ·subst e
  refine ⟨a,cap,?_,?_,(go hs ht).1,(go hs ht).2⟩
  ·rw [List.getElem?_set_ne (by omega)]; simp [List.getElem?_set,lx]; omega
  ·simp [List.getElem?_set,lx]; omega
 ·obtain ⟨b,c,e0,e1,e2,e3⟩:=h2 j hj (by omega)
  refine ⟨b,c,?_,?_,(go e2 e3).1,(go e2 e3).2⟩
  ·rw [List.getElem?_set_ne (by omega),List.getElem?_set_ne (by omega)]; exact e0
  ·rw [List.getElem?_set_ne (by omega),List.getElem?_set_ne (by omega)]; exact e1
theorem MTo.cells {W:World} {B n:Nat} {f:Nat→Zp} {k:Nat} (h:MTo W B n f k) (hk:k<n):(∃ u0 u1,W.cell? ⟨B,k*2,none⟩=some u0∧W.cell? ⟨B,k*2+1,none⟩=some u1)∧W.frozen? ⟨B,k*2,none⟩=false∧W.frozen? ⟨B,k*2+1,none⟩=false∧B<W.heap.size:=by
 obtain ⟨xs,h1,h2⟩:=h
 have lx:=h1.1
 refine ⟨⟨xs[k*2]'(by omega),xs[k*2+1]'(by omega),?_,?_⟩,h1.frozenAt _,h1.frozenAt _,(h1.lt B rfl).2⟩
 ·rw [h1.cellAt _ (by omega)]; exact List.getElem?_eq_getElem (by omega)
 ·rw [h1.cellAt _ (by omega)]; exact List.getElem?_eq_getElem (by omega)
theorem MTo.done {W:World} {B n:Nat} {f:Nat→Zp} (h:MTo W B n f n) (l:List Zp) (hn:n=l.length) (hv:∀ j (hj:j<l.length),f j=l[j]) (h8:l.length≤200000):ZsAt W (some ⟨B,0,none⟩) l:=by
 obtain ⟨xs,h1,h2⟩:=h
 subst hn
 refine ⟨by unfold maxLen; omega,.inr ⟨B,0,rfl,(h1.lt B rfl).2,?_⟩⟩
 intro i hi
 obtain ⟨a,cap,g0,g1,g2,_⟩:=h2 i hi hi
 rw [hv i hi] at g0 g1 g2
 refine ⟨?_,a,cap,?_,g2⟩
 ·rw [h1.cellAt _ (by omega),← g1]; congr 1; omega
 ·rw [h1.cellAt _ (by omega),← g0]; congr 1; omega

set_option maxRecDepth 100000 in
set_option maxHeartbeats 4000000 in
theorem map_at (cols:List Int) (xs:List Ex) (ca:Option Addr) (ccap:Nat) (xa:Option Addr) (xcap:Nat) (a:Option Addr) (cap:Nat) (l:List Zp) (w:World) (hc:IsAt w.heap.size w ca cols) (hk:KsAt w.heap.size w xa xs) (h:ZsAt w a l) :
  Calls Tryz.prog 95 #[.slice ca cols.length ccap,.slice xa xs.length xcap,.slice a l.length cap] w fun e w'=>∃ v,e = .returned (.tuple #[v,.int .i64 (mapE cols xs l)])∧OwnZ w.heap.size w' v (mapZ cols xs l)∧Below w.heap.size w w':=by
 obtain ⟨i0,hi,hz0,hz1,hz2⟩:=info_parts Tryz.info42
 have con:=list_at cols xs ca ccap xa xcap w hk hc
 generalize hfz:mapZ cols xs l=fz
 generalize hfe:mapE cols xs l=fe
 have HZ:Hid (mapZ cols xs l=fz):=hfz
 have HF:Hid (mapE cols xs l=fe):=hfe
 clear hfz hfe
 by_cases h1:listE cols xs=0
 ·have H1:Hid (listE cols xs=0):=h1
  rw [h1] at con
  clear h1
  go_enter Tryz.func95,Tryz.ntmps95
  go_wp2_with fail
  refine con.mono ?_
  rintro e w1 ⟨u,rfl,hL,hb1⟩
  clear con
  have hL:ListF cols w.heap.size u xs w1:=by
   rcases hL with ⟨_,hL⟩ | ⟨hL,_⟩
   ·exact hL
   ·exact absurd (by trivial) hL
  obtain ⟨g,cb,rfl,eg,d⟩:=hL
  have HD:Hid (∀ (row:List Vl) (a:Option Addr) (cap:Nat) (W:World),FitP cols row→SlAt W a row→Since w.heap.size w1 W→Calls Tryz.prog g (#[.slice a row.length cap] ++ cb) W fun e w'=>e = .returned (.slice (some ⟨W.heap.size,0,none⟩) xs.length xs.length)∧RowNew W.heap.size w' (rowX xs row)∧Below W.heap.size W w'):=d
  clear d
  have con:=wrongS_at cols ca ccap a cap l w1 ((hc.next hb1 (Nat.le_refl _)).up hb1.size) (h.next hb1)
  by_cases h2:inpE cols l=0
  ·have hz:=(inpE_ok cols l).1 h2
   rw [h2] at con
   have H2:Hid (inpE cols l=0):=h2
   clear h2
   have HE:Hid (fe=gatherE (mapL xs l)):=by
    show fe=_
    rw [← HF.out]; unfold mapE; rw [H1.out,H2.out]; rfl
   have HV:Hid (fz=gatherZ (mapL xs l)):=by
    show fz=_
    rw [← HZ.out]; unfold mapZ gatherZ; rw [HF.out,HE.out]
   have hl4:=set_len hz
   have HO:Hid (InpOk cols l):=hz
   go_wp2_with fail
   refine con.mono ?_
   rintro e w2 ⟨rfl,hb2⟩
   clear con
   have hA:=chain hb1 hb2
   have z2:=hb2.size
   have z1:=hb1.size
   go_wp2_with (first | (at_make; refine wpList_make_full _ rfl _ _ 34 rfl w2.heap.size 58 i0 _ 2 Tryz.underlying34 hi hz0 hz1 .i64 .i64 l.length l.length l.length rfl rfl rfl rfl (by rw [hz2]; omega) (by unfold maxLen; omega) (Nat.le_refl _) ?_))
   intro w3 hown hgrow
   have hb3:Below w2.heap.size w2 w3:=(Below.refl _ _).grown hgrow (Nat.le_refl _) (by simp)
   obtain ⟨f,hf⟩:∃ f:Nat→Zp,f=(fun j=>(mapL xs l).getD j ([],0)):=⟨_,rfl⟩
   have HFn:Hid (f=(fun j=>(mapL xs l).getD j ([],0))):=hf
   clear hf
   have hB0:MTo w3 w2.heap.size l.length f 0:=⟨_,hown,fun j _ hj=>absurd hj (Nat.not_lt_zero _)⟩
   clear hown hgrow
   go_wp2_with fail
   go_loopw [34] (fun i wr=>∃ k:Nat,k≤l.length∧i = .int .i64 k∧MTo wr w2.heap.size l.length f k∧Below w2.heap.size w2 wr) (fun i _=>l.length - (intOf i).toNat)
   case atStart=>exact ⟨0,Nat.zero_le _,rfl,hB0,hb3⟩
   case round =>
    clear hB0 hb3
    obtain ⟨k,hk,rfl,HB,hb⟩:=hrel
    have hz:=hb.size
    by_cases hlt:k<l.length
    ·obtain ⟨b,off,rfl,hbl,c1,ar,cr,c0,sr⟩:=(h.next (chain hA hb)).elem hlt
     have hal:Below wr.heap.size wr (wr.alloc (.cells #[.slice ar l[k].1.length cr,.int .i64 l[k].2] 58)):=(Below.refl _ _).alloc (Nat.le_refl _) _
     have hd:Below (wr.alloc (.cells #[.slice ar l[k].1.length cr,.int .i64 l[k].2] 58)).heap.size (wr.alloc (.cells #[.slice ar l[k].1.length cr,.int .i64 l[k].2] 58)) (wr.alloc (.cells #[.slice ar l[k].1.length cr,.int .i64 l[k].2] 58)).drew:=(Below.refl _ _).drew
     have hbk:Below w1.heap.size w1 (wr.alloc (.cells #[.slice ar l[k].1.length cr,.int .i64 l[k].2] 58)).drew:=(chain (chain (chain hb2 hb) hal) hd)
     have con:=HD.out l[k].1 ar cr _ (HO.out.fit l[k] (List.getElem_mem hlt)) ((sr.next hal).next hd) (Since.of hbk)
     have q0:(wr.alloc (.cells #[.slice ar l[k].1.length cr,.int .i64 l[k].2] 58)).cell? ⟨wr.heap.size,0,none⟩=some (.slice ar l[k].1.length cr):=by simp
     have q1:(wr.alloc (.cells #[.slice ar l[k].1.length cr,.int .i64 l[k].2] 58)).cell? ⟨wr.heap.size,1,none⟩=some (.int .i64 l[k].2):=by simp
     have za:(wr.alloc (.cells #[.slice ar l[k].1.length cr,.int .i64 l[k].2] 58)).heap.size=wr.heap.size+1:=by simp
     have ef:f k=(rowX xs l[k].1,l[k].2):=by rw [HFn.out]; simp [mapL,List.getD,hlt]
     have EF:Hid (f k=(rowX xs l[k].1,l[k].2)):=ef
     have hrl:xs.length=(rowX xs l[k].1).length:=by simp [rowX]
     have HR:Hid (xs.length=(rowX xs l[k].1).length):=hrl
     have i0':(0:Int)≤(k:Int):=by omega
     have i1:(k:Int)<(l.length:Int):=by omega
     clear ef hrl
     go_wp2_with fail
     clear c0 c1 sr
     generalize wr.alloc (.cells #[.slice ar l[k].1.length cr,.int .i64 l[k].2] 58)=wk at *
     obtain ⟨⟨t0,t1,e0,e1⟩,f0,f1,hlb⟩:=(HB.next hal).cells hlt
     go_region_with (go_at_fn g; refine con.mono ?_; rintro e w5 ⟨rfl,hR,hb5⟩; have HB5:=((HB.next hal).next hd).next hb5; obtain ⟨⟨u0,u1,d0,d1⟩,g0,g1,hlb5⟩:=HB5.cells hlt; have r1:=((hd.trans (hb5.mono hd.size)).cell (p:=⟨wr.heap.size,1,none⟩) (by show wr.heap.size<_; omega)).trans q1)
     all_goals (
      go_wp2_with fail
      go_roundw
      case rel =>
       refine ⟨k+1,by omega,by go_num,?_,?_⟩
       ·have:=HB5.step hlt (a:=some ⟨wk.drew.heap.size,0,none⟩) (cap:=xs.length) (by rw [EF.out]; exact hR.1) hR.2
        rw [EF.out,← HR.out,show wk.drew.heap.size=wr.heap.size+1 from za] at this
        exact this
       ·exact ((chain (chain hb hal) (hd.trans (hb5.mono hd.size))).setCell (p:=⟨w2.heap.size,k*2,none⟩) (Nat.le_refl _) _).setCell (p:=⟨w2.heap.size,k*2+1,none⟩) (Nat.le_refl _) _
      case measure=>simp [intOf]; omega)
    ·have e:k=l.length:=by omega
     subst e
     have hml:(mapL xs l).length=l.length:=by simp [mapL]
     have zsm:=HB.done (mapL xs l) hml.symm (fun j hj=>by rw [HFn.out]; simp [List.getD,hj]) (by omega)
     have con:=gathered_at (some ⟨w2.heap.size,0,none⟩) l.length (mapL xs l) wr zsm (by omega) (fun y hy=>by obtain ⟨p,hp,rfl⟩:=List.mem_map.1 hy; exact inW_big (set_in HO.out p hp)) (fun y hy=>by obtain ⟨p,hp,rfl⟩:=List.mem_map.1 hy; have:=(listE_ok H1.out).1; simpa [rowX] using this)
     rw [hml] at con
     have HV':=HV.out
     have HE':=HE.out
     rw [← HE',← HV'] at con
     clear HV' HE' zsm HB
     go_wp2_with fail
     refine con.mono ?_
     rintro e w6 ⟨v6,rfl,O6,hb6⟩
     have hA6:=chain hA hb
     have O6':=O6.mono hA6.size
     obtain ⟨a6,c6,rfl,_⟩:=O6.zs
     go_wp2_with fail
     exact bodyPost_ret (v:=.tuple #[.slice a6 fz.length c6,.int .i64 fe]) (by simp [results,Tryz.results95,go_sem]) rfl ⟨_,rfl,O6',chain hA6 hb6⟩
  ·have e0:fe=inpE cols l:=by rw [← HF.out]; unfold mapE; rw [H1.out,if_neg (by simp),if_pos h2]
   have e1:fz = []:=by rw [← HZ.out]; unfold mapZ; rw [HF.out,e0,if_neg h2]
   have hne:(inpE cols l != 0)=true:=by simpa using h2
   rw [← e0] at con hne
   have HV:Hid (fz = []):=e1
   clear e0 e1
   go_wp2_with fail
   refine con.mono ?_
   rintro e w2 ⟨rfl,hb2⟩
   clear con
   go_wp2_with fail
   exact bodyPost_ret (v:=.tuple #[.slice none 0 0,.int .i64 fe]) (by simp [results,Tryz.results95,go_sem]) rfl ⟨_,rfl,by rw [HV.out]; exact own_nil _ _,chain hb1 hb2⟩
 ·have e0:fe=listE cols xs:=by rw [← HF.out]; unfold mapE; rw [if_pos h1]
  have e1:fz = []:=by rw [← HZ.out]; unfold mapZ; rw [HF.out,e0,if_neg h1]
  have hne:(listE cols xs != 0)=true:=by simpa using h1
  have HL:Hid (¬ listE cols xs=0):=h1
  rw [← e0] at hne
  have HV:Hid (fz = []):=e1
  have HN:Hid (fe=listE cols xs):=e0
  clear e0 e1 h1
  go_enter Tryz.func95,Tryz.ntmps95
  go_wp2_with fail
  refine con.mono ?_
  rintro e w1 ⟨u,rfl,hL,hb1⟩
  obtain ⟨_,rfl⟩:¬ listE cols xs=0∧u = .nilFunc:=by
   rcases hL with ⟨hL,_⟩ | hL
   ·exact absurd hL HL.out
   ·exact hL
  rw [← HN.out]
  clear con
  go_wp2_with fail
  exact bodyPost_ret (v:=.tuple #[.slice none 0 0,.int .i64 fe]) (by simp [results,Tryz.results95,go_sem]) rfl ⟨_,rfl,by rw [HV.out]; exact own_nil _ _,hb1⟩
end Go.Proofs.YtohjlfhmnmcndaaGreat
/- The walks of ops.ofBoth and ops.paired. -/
namespace Go.Proofs.YtohjlfhmnmcndaaGreat
open Go.RowKit Go.Lib Go.Shelf

/-- What is handed on of two sets: they lie in w0; who asks of pairs leaves all but a room as it was in wp. -/
structure PairsOk (cols:List Int) (x:Ex) (w0 wp:World) (a b:Option Addr) (ca cb:Nat) (l r:List Zp) (v:Value):Prop where
 ex:∃ (lo:Nat) (wc:World) (R rv hv:Nat) (u:Value),v = .agg #[.slice a l.length ca,.slice b r.length cb,.func (.func 219) #[] #[.pointer (some ⟨rv,0,none⟩),.pointer (some ⟨hv,0,none⟩)]] ∧
  PNew wp R rv∧hv<R∧wp.cell? ⟨hv,0,none⟩=some u∧Conds cols lo u x wc∧wc.heap.size≤R∧Since lo wc wp∧w0.heap.size≤R∧Below w0.heap.size w0 wp∧PInv wp R rv wp

set_option maxHeartbeats 1000000 in
theorem ofBoth_at (u:Value) (w:World) (hu:∃ g cb,u = .func (.func g) #[] cb) :
  Calls Tryz.prog 193 #[u] w fun e w'=>∃ rv,e = .returned (.func (.func 219) #[] #[.pointer (some ⟨rv,0,none⟩),.pointer (some ⟨w.heap.size,0,none⟩)])∧w'.cell? ⟨w.heap.size,0,none⟩=some u∧PNew w' (w.heap.size+1) rv∧PInv w' (w.heap.size+1) rv w'∧Below w.heap.size w w':=by
 obtain ⟨g,cb,rfl⟩:=hu
 obtain ⟨i0,hi,hj0,hj1,hj2⟩:=info_parts Tryz.info49
 have h1:Below w.heap.size w (w.alloc (.cells #[.func (.func g) #[] cb] 139)):=(Below.refl _ _).alloc (Nat.le_refl _) _
 have c1:(w.alloc (.cells #[.func (.func g) #[] cb] 139)).cell? ⟨w.heap.size,0,none⟩=some (.func (.func g) #[] cb):=by simp
 have z1:(w.alloc (.cells #[.func (.func g) #[] cb] 139)).heap.size=w.heap.size+1:=by simp
 go_enter Tryz.func193,Tryz.ntmps193
 go_wp2_with (first | (at_make; refine wpList_make_own _ rfl _ _ 56 rfl (w.heap.size+1) 24 i0 _ 3 Tryz.underlying56 hi hj0 hj1 .i64 .i64 8 8 rfl rfl rfl (by rw [hj2]; omega) (by unfold maxLen; omega) (by simp) ?_))
 generalize w.alloc (.cells #[.func (.func g) #[] cb] 139)=w1 at *
 intro w2 own2 g2
 have z2:=g2.size
 obtain ⟨hx2,⟨e2,_⟩ | ⟨gg,cap2,cur2,e2,hg2,hh2,hn2,hm2,hs2,ht2⟩⟩:=own2
 ·cases e2
 injection e2 with e2a e2b e2c
 have e2a:=Option.some.inj e2a
 injection e2a with e2a
 subst e2c
 subst e2a
 have b2:Below w1.heap.size w1 w2:=(Below.refl _ _).grown g2 (Nat.le_refl _) (by simp)
 have c2:=(b2.cell (p:=⟨w.heap.size,0,none⟩) (by show w.heap.size<_; omega)).trans c1
 have lt2:w.heap.size+1<w2.heap.size:=by
  rcases Nat.lt_or_ge (w.heap.size+1) w2.heap.size with h | h
  ·exact h
  ·rw [Array.getElem?_eq_none h] at hh2; cases hh2
 have h3:Below w2.heap.size w2 (w2.alloc (.cells #[.slice (some ⟨w.heap.size+1,0,none⟩) 0 8] 56)):=(Below.refl _ _).alloc (Nat.le_refl _) _
 have z3:(w2.alloc (.cells #[.slice (some ⟨w.heap.size+1,0,none⟩) 0 8] 56)).heap.size=w2.heap.size+1:=by simp
 have v3:(w2.alloc (.cells #[.slice (some ⟨w.heap.size+1,0,none⟩) 0 8] 56)).cell? ⟨w2.heap.size,0,none⟩=some (.slice (some ⟨w.heap.size+1,0,none⟩) 0 8):=by simp
 have f3:(w2.alloc (.cells #[.slice (some ⟨w.heap.size+1,0,none⟩) 0 8] 56)).frozen? ⟨w2.heap.size,0,none⟩=false:=by simp
 have r3:=(h3.block (w.heap.size+1) lt2).trans hh2
 have c3:=(h3.cell (p:=⟨w.heap.size,0,none⟩) (by show w.heap.size<_; omega)).trans c2
 have HP:Hid (∀ W,W=w2.alloc (.cells #[.slice (some ⟨w.heap.size+1,0,none⟩) 0 8] 56)→W.cell? ⟨w.heap.size,0,none⟩=some (.func (.func g) #[] cb)∧PNew W (w.heap.size+1) w2.heap.size∧PInv W (w.heap.size+1) w2.heap.size W∧Below w.heap.size w W):=fun W hW=>by
  subst hW
  exact ⟨c3,⟨lt2,by omega⟩,⟨rfl,rfl,rfl,Nat.le_refl _,fun _ _ _ _=>rfl,⟨0,v3⟩,f3,cur2,r3,hs2⟩,chain (chain h1 b2) h3⟩
 clear v3 f3 r3 c3 h3 g2 hh2 hx2 ht2
 go_wp2_with fail
 go_ret
 exact ⟨_,rfl,HP.out _ rfl⟩
end Go.Proofs.YtohjlfhmnmcndaaGreat
/- The walk of ops.paired. -/
namespace Go.Proofs.YtohjlfhmnmcndaaGreat
open Go.RowKit Go.Lib Go.Shelf

theorem put3_at {W:World} {k:Nat} {v0 v1 v2:Value} (u0 u1 u2:Value) (h0:W.cell? ⟨k,0,none⟩=some v0) (h1:W.cell? ⟨k,1,none⟩=some v1) (h2:W.cell? ⟨k,2,none⟩=some v2) :
  (((W.setCell ⟨k,0,none⟩ u0).setCell ⟨k,1,none⟩ u1).setCell ⟨k,2,none⟩ u2).cell? ⟨k,0,none⟩=some u0∧(((W.setCell ⟨k,0,none⟩ u0).setCell ⟨k,1,none⟩ u1).setCell ⟨k,2,none⟩ u2).cell? ⟨k,1,none⟩=some u1∧(((W.setCell ⟨k,0,none⟩ u0).setCell ⟨k,1,none⟩ u1).setCell ⟨k,2,none⟩ u2).cell? ⟨k,2,none⟩=some u2:=by
 have ne:∀ i j:Nat,i≠j→(⟨k,i,none⟩:Addr)≠⟨k,j,none⟩:=fun i j h e=>h (congrArg Addr.off e)
 have t0:=World.cell?_setCell_same W ⟨k,0,none⟩ u0 h0
 have t1:=(World.cell?_setCell_other W _ _ u0 (ne 0 1 (by decide))).trans h1
 have t2:=(World.cell?_setCell_other W _ _ u0 (ne 0 2 (by decide))).trans h2
 have m0:=(World.cell?_setCell_other (W.setCell ⟨k,0,none⟩ u0) _ _ u1 (ne 1 0 (by decide))).trans t0
 have m1:=World.cell?_setCell_same (W.setCell ⟨k,0,none⟩ u0) _ u1 t1
 have m2:=(World.cell?_setCell_other (W.setCell ⟨k,0,none⟩ u0) _ _ u1 (ne 1 2 (by decide))).trans t2
 exact ⟨(World.cell?_setCell_other _ _ _ _ (ne 2 0 (by decide))).trans m0,(World.cell?_setCell_other _ _ _ _ (ne 2 1 (by decide))).trans m1,World.cell?_setCell_same _ _ _ m2⟩
theorem put3_below {B:Nat} {w W:World} {k:Nat} (u0 u1 u2:Value) (h:Below B w W) (hk:B≤k):Below B w (((W.setCell ⟨k,0,none⟩ u0).setCell ⟨k,1,none⟩ u1).setCell ⟨k,2,none⟩ u2) :=
 ((h.setCell (p:=⟨k,0,none⟩) hk _).setCell (p:=⟨k,1,none⟩) hk _).setCell (p:=⟨k,2,none⟩) hk _
theorem put3_block {W:World} {k:Nat} (u0 u1 u2:Value) (j:Nat) (hj:j≠k):(((W.setCell ⟨k,0,none⟩ u0).setCell ⟨k,1,none⟩ u1).setCell ⟨k,2,none⟩ u2).heap[j]? = W.heap[j]?:=by
 rw [Below.heap_setCell _ ⟨k,2,none⟩ _ j hj,Below.heap_setCell _ ⟨k,1,none⟩ _ j hj,Below.heap_setCell _ ⟨k,0,none⟩ _ j hj]
theorem put3_size {W:World} {k:Nat} (u0 u1 u2:Value):(((W.setCell ⟨k,0,none⟩ u0).setCell ⟨k,1,none⟩ u1).setCell ⟨k,2,none⟩ u2).heap.size=W.heap.size:=by simp

set_option maxRecDepth 100000 in
set_option maxHeartbeats 8000000 in
theorem paired_at (left right:List Int) (x:Ex) (la:Option Addr) (lcap:Nat) (ra:Option Addr) (rcap:Nat) (xa:Option Addr) (xcap:Nat) (a:Option Addr) (ca:Nat) (l:List Zp) (b:Option Addr) (cb:Nat) (r:List Zp) (w:World)
  (hcl:IsAt w.heap.size w la left) (hcr:IsAt w.heap.size w ra right) (hx:KsAt w.heap.size w xa x.ks) (h:ZsAt w a l) (h':ZsAt w b r) (hll:left.length≤100000000000000) (hrl:right.length≤100000000000000) :
  Calls Tryz.prog 161 #[.slice la left.length lcap,.slice ra right.length rcap,exV x.k x.v x.c xa x.ks.length xcap,.slice a l.length ca,.slice b r.length cb] w fun e w'=>∃ v,e = .returned (.tuple #[v,.int .i64 (twoE left right x l r)])∧((twoE left right x l r=0∧PairsOk (left ++ right) x w w' a b ca cb l r v)∨(¬ twoE left right x l r=0∧v = .agg #[.slice none 0 0,.slice none 0 0,.nilFunc]))∧Below w.heap.size w w':=by
 have h1:Below w.heap.size w (w.alloc (.cells #[.int .i64 x.k,.int .i64 x.v.1,.int .i64 x.v.2.1,.string x.v.2.2,.int .i64 x.c,.slice xa x.ks.length xcap] 27)):=(Below.refl _ _).alloc (Nat.le_refl _) _
 have S1:=Six.new w x.k x.v x.c xa x.ks.length xcap 27
 have z1:(w.alloc (.cells #[.int .i64 x.k,.int .i64 x.v.1,.int .i64 x.v.2.1,.string x.v.2.2,.int .i64 x.c,.slice xa x.ks.length xcap] 27)).heap.size=w.heap.size+1:=by simp
 have h2:Below (w.alloc (.cells #[.int .i64 x.k,.int .i64 x.v.1,.int .i64 x.v.2.1,.string x.v.2.2,.int .i64 x.c,.slice xa x.ks.length xcap] 27)).heap.size (w.alloc (.cells #[.int .i64 x.k,.int .i64 x.v.1,.int .i64 x.v.2.1,.string x.v.2.2,.int .i64 x.c,.slice xa x.ks.length xcap] 27)) ((w.alloc (.cells #[.int .i64 x.k,.int .i64 x.v.1,.int .i64 x.v.2.1,.string x.v.2.2,.int .i64 x.c,.slice xa x.ks.length xcap] 27)).alloc (.cells #[.slice none 0 0,.slice none 0 0,.nilFunc] 162)):=(Below.refl _ _).alloc (Nat.le_refl _) _
 have z2:((w.alloc (.cells #[.int .i64 x.k,.int .i64 x.v.1,.int .i64 x.v.2.1,.string x.v.2.2,.int .i64 x.c,.slice xa x.ks.length xcap] 27)).alloc (.cells #[.slice none 0 0,.slice none 0 0,.nilFunc] 162)).heap.size=w.heap.size+2:=by simp
 have S2:=S1.next h2 (by omega)
 have b0:((w.alloc (.cells #[.int .i64 x.k,.int .i64 x.v.1,.int .i64 x.v.2.1,.string x.v.2.2,.int .i64 x.c,.slice xa x.ks.length xcap] 27)).alloc (.cells #[.slice none 0 0,.slice none 0 0,.nilFunc] 162)).cell? ⟨w.heap.size+1,0,none⟩=some (.slice none 0 0):=by rw [World.cell?_alloc_at _ _ _ _ (by simp)]; rfl
 have b1:((w.alloc (.cells #[.int .i64 x.k,.int .i64 x.v.1,.int .i64 x.v.2.1,.string x.v.2.2,.int .i64 x.c,.slice xa x.ks.length xcap] 27)).alloc (.cells #[.slice none 0 0,.slice none 0 0,.nilFunc] 162)).cell? ⟨w.heap.size+1,1,none⟩=some (.slice none 0 0):=by rw [World.cell?_alloc_at _ _ _ _ (by simp)]; rfl
 have b2:((w.alloc (.cells #[.int .i64 x.k,.int .i64 x.v.1,.int .i64 x.v.2.1,.string x.v.2.2,.int .i64 x.c,.slice xa x.ks.length xcap] 27)).alloc (.cells #[.slice none 0 0,.slice none 0 0,.nilFunc] 162)).cell? ⟨w.heap.size+1,2,none⟩=some (.nilFunc):=by rw [World.cell?_alloc_at _ _ _ _ (by simp)]; rfl
 have f0:((w.alloc (.cells #[.int .i64 x.k,.int .i64 x.v.1,.int .i64 x.v.2.1,.string x.v.2.2,.int .i64 x.c,.slice xa x.ks.length xcap] 27)).alloc (.cells #[.slice none 0 0,.slice none 0 0,.nilFunc] 162)).frozen? ⟨w.heap.size+1,0,none⟩=false:=World.frozen?_alloc_at _ _ _ _ (by simp)
 have f1:((w.alloc (.cells #[.int .i64 x.k,.int .i64 x.v.1,.int .i64 x.v.2.1,.string x.v.2.2,.int .i64 x.c,.slice xa x.ks.length xcap] 27)).alloc (.cells #[.slice none 0 0,.slice none 0 0,.nilFunc] 162)).frozen? ⟨w.heap.size+1,1,none⟩=false:=World.frozen?_alloc_at _ _ _ _ (by simp)
 have f2:((w.alloc (.cells #[.int .i64 x.k,.int .i64 x.v.1,.int .i64 x.v.2.1,.string x.v.2.2,.int .i64 x.c,.slice xa x.ks.length xcap] 27)).alloc (.cells #[.slice none 0 0,.slice none 0 0,.nilFunc] 162)).frozen? ⟨w.heap.size+1,2,none⟩=false:=World.frozen?_alloc_at _ _ _ _ (by simp)
 have hA:=chain h1 h2
 generalize ht:twoE left right x l r=te
 have HT:Hid (twoE left right x l r=te):=ht
 clear ht S1
 by_cases h8:8<left.length+right.length
 ·have e:te=5:=by rw [← HT.out]; simp [twoE,h8]
  subst e
  have hz:(8:Int)<(left.length:Int)+(right.length:Int):=by omega
  go_enter Tryz.func161,Tryz.ntmps161
  go_wp2_with fail
  exact bodyPost_ret (v:=.tuple #[.agg #[.slice none 0 0,.slice none 0 0,.nilFunc],.int .i64 5]) (by simp [results,Tryz.results161,go_sem]) rfl ⟨_,rfl,.inr ⟨by decide,rfl⟩,by first | exact hA | exact (hA.setCell (p:=⟨w.heap.size+1,0,none⟩) (by show w.heap.size≤w.heap.size+1; omega) _)⟩
 have hz:¬ (8:Int)<(left.length:Int)+(right.length:Int):=by omega
 have H8:Hid (¬ 8<left.length+right.length):=h8
 have p0:=past_cell S2.c0
 have p1:=past_cell S2.c1
 have p2:=past_cell S2.c2
 have p3:=past_cell S2.c3
 have p4:=past_cell S2.c4
 have p5:=past_cell S2.c5
 simp only [Nat.zero_add] at p1 p2 p3 p4 p5
 by_cases hcond:condE (left ++ right) x=0
 ·go_enter Tryz.func161,Tryz.ntmps161
  go_wp2_with fail
  generalize (w.alloc (.cells #[.int .i64 x.k,.int .i64 x.v.1,.int .i64 x.v.2.1,.string x.v.2.2,.int .i64 x.c,.slice xa x.ks.length xcap] 27)).alloc (.cells #[.slice none 0 0,.slice none 0 0,.nilFunc] 162)=w2 at *
  have hB0:Below w2.heap.size w2 w2.drew:=(Below.refl _ _).drew
  refine wp_region_ext (by kernel_rfl) ?_
  refine wpX_take (some 24) (i:=0) (v:=.slice la left.length lcap) rfl rfl (by kernel_rfl) (by kernel_rfl) (by kernel_rfl) (fun _ _ _ h=>h) (Or.inl ⟨rfl,fun n=>?_⟩) hB0 ?_
  ·go_simp
  simp only [Act.put,pA,pB,pC]
  refine wpX_take (some 25) (i:=1) (v:=.slice ra right.length rcap) rfl rfl (by kernel_rfl) (by kernel_rfl) (by kernel_rfl) (fun _ _ _ h=>h) (Or.inl ⟨rfl,fun n=>?_⟩) hB0 ?_
  ·go_simp
  simp only [Act.put,pA,pB,pC]
  refine wpX_take (some 28) (i:=4) (v:=exV x.k x.v x.c xa x.ks.length xcap) rfl rfl (by kernel_rfl) (by kernel_rfl) (by kernel_rfl) (fun _ _ _ h=>h) (Or.inl ⟨rfl,fun n=>?_⟩) hB0 ?_
  ·go_simp
  simp only [Act.put,pA,pB,pC]
  clear p0 p1 p2 p3 p4 p5
  refine wpX_step (rs:=[2]) (by kernel_rfl) (by simp) ?_
  intro w3 hb3 j hj
  obtain rfl:j=2:=by simpa using hj
  clear hj
  have D3:=hB0.trans (hb3.mono hB0.size)
  refine wpOp_step rfl (fun K hK=>?_)
  go_simp
  have hal3:Below w3.heap.size w3 (w3.alloc (.cells #[.slice la left.length lcap,.slice ra right.length rcap] 45)):=(Below.refl _ _).alloc (Nat.le_refl _) _
  have PC:=PairC.new lcap rcap (raw_ints (hcl.next (chain hA D3) (Nat.le_refl _))) (raw_ints (hcr.next (chain hA D3) (Nat.le_refl _))) 45
  have D4:=D3.trans (hal3.mono D3.size)
  refine hK _ _ ⟨D4,?_⟩
  clear hK K
  generalize w3.alloc (.cells #[.slice la left.length lcap,.slice ra right.length rcap] 45)=w4 at *
  refine wpX_step (rs:=[3]) (by kernel_rfl) (by simp) ?_
  intro w5 hb5 j hj
  obtain rfl:j=3:=by simpa using hj
  clear hj
  have D5:=D4.trans (hb5.mono D4.size)
  refine wpOp_step rfl (fun K hK=>?_)
  go_simp
  refine (concatI_at _ _ _ _ _ w5 (PC.next hb5) (by omega)).mono ?_
  rintro e w6 ⟨v6,rfl,O6,hb6⟩
  rw [← List.map_append] at O6
  obtain ⟨a6,c6,rfl,I6⟩:=own_ints O6 (by simp)
  have D6:=D5.trans (hb6.mono D5.size)
  refine hK _ _ ⟨D6,?_⟩
  clear hK K PC O6
  refine wpX_step (rs:=[5]) (by kernel_rfl) (by simp) ?_
  intro w7 hb7 j hj
  obtain rfl:j=5:=by simpa using hj
  clear hj
  have D7:=D6.trans (hb7.mono D6.size)
  refine wpOp_step rfl (fun K hK=>?_)
  go_simp
  have hA7:=chain hA D7
  have con:=condOk_at (left ++ right) x a6 c6 xa xcap w7 ((KsAt.next hA7 (Nat.le_refl _) hx).up hA7.size) ((I6.next hb7 (Nat.le_refl _)).up hb7.size) hcond
  rw [List.length_append] at con
  refine con.mono ?_
  clear con
  rintro e w8 ⟨u8,rfl,hC8,hb8⟩
  obtain ⟨ug,ucb,rfl⟩:∃ g cb,u8 = .func (.func g) #[] cb:=by obtain ⟨g,cb,e,_⟩:=hC8; exact ⟨g,cb,e⟩
  have D8:=D7.trans (hb8.mono D7.size)
  refine hK _ _ ⟨D8,?_⟩
  clear hK K
  refine wpX_take (some 23) (i:=6) (v:=.tuple #[.func (.func ug) #[] ucb,.int .i64 0]) rfl rfl (by kernel_rfl) (by kernel_rfl) (by kernel_rfl) (fun _ _ _ h=>h) (Or.inl ⟨rfl,fun n=>?_⟩) D8 ?_
  ·go_simp
  simp only [Act.put,pA,pB,pC]
  refine wpX_take (some 30) (i:=7) (v:=.func (.func ug) #[] ucb) rfl rfl (by kernel_rfl) (by kernel_rfl) (by kernel_rfl) (fun _ _ _ h=>h) (Or.inl ⟨rfl,fun n=>?_⟩) D8 ?_
  ·go_simp
  simp only [Act.put,pA,pB,pC]
  refine wpX_take (some 31) (i:=8) (v:=.int .i64 0) rfl rfl (by kernel_rfl) (by kernel_rfl) (by kernel_rfl) (fun _ _ _ h=>h) (Or.inl ⟨rfl,fun n=>?_⟩) D8 ?_
  ·go_simp
  simp only [Act.put,pA,pB,pC]
  refine wpX_take (some 12) (i:=9) (v:=.func (.func ug) #[] ucb) rfl rfl (by kernel_rfl) (by kernel_rfl) (by kernel_rfl) (fun _ _ _ h=>h) (Or.inl ⟨rfl,fun n=>?_⟩) D8 ?_
  ·go_simp
  simp only [Act.put,pA,pB,pC]
  refine wpX_take (some 13) (i:=10) (v:=.int .i64 0) rfl rfl (by kernel_rfl) (by kernel_rfl) (by kernel_rfl) (fun _ _ _ h=>h) (Or.inl ⟨rfl,fun n=>?_⟩) D8 ?_
  ·go_simp
  simp only [Act.put,pA,pB,pC]
  refine wpX_done (by kernel_rfl) ?_
  intro w9 hb9
  have D9:=D8.trans (hb9.mono D8.size)
  have hA9:=chain hA D9
  have q0:=(D9.cell (p:=⟨w.heap.size+1,0,none⟩) (by show w.heap.size+1<_; omega)).trans b0
  have q1:=(D9.cell (p:=⟨w.heap.size+1,1,none⟩) (by show w.heap.size+1<_; omega)).trans b1
  have q2:=(D9.cell (p:=⟨w.heap.size+1,2,none⟩) (by show w.heap.size+1<_; omega)).trans b2
  have g0:=(D9.frozen (p:=⟨w.heap.size+1,0,none⟩) (by show w.heap.size+1<_; omega)).trans f0
  have g1:=(D9.frozen (p:=⟨w.heap.size+1,1,none⟩) (by show w.heap.size+1<_; omega)).trans f1
  have g2:=(D9.frozen (p:=⟨w.heap.size+1,2,none⟩) (by show w.heap.size+1<_; omega)).trans f2
  have con:=wrongS_at left la lcap a ca l w9 ((hcl.next hA9 (Nat.le_refl _)).up hA9.size) (h.next hA9)
  have lt9:w.heap.size+1<w9.heap.size:=by have:=D9.size; omega
  clear b0 b1 b2 f0 f1 f2 S2
  by_cases hi1:inpE left l=0
  ·go_wp2_with fail
   rw [hi1] at con
   refine con.mono ?_
   clear con
   rintro e w10 ⟨rfl,hb10⟩
   have hA10:=chain hA9 hb10
   have lt10:w.heap.size+1<w10.heap.size:=by have:=hb10.size; omega
   have q0:=(hb10.cell (p:=⟨w.heap.size+1,0,none⟩) lt9).trans q0
   have q1:=(hb10.cell (p:=⟨w.heap.size+1,1,none⟩) lt9).trans q1
   have q2:=(hb10.cell (p:=⟨w.heap.size+1,2,none⟩) lt9).trans q2
   have g0:=(hb10.frozen (p:=⟨w.heap.size+1,0,none⟩) lt9).trans g0
   have g1:=(hb10.frozen (p:=⟨w.heap.size+1,1,none⟩) lt9).trans g1
   have g2:=(hb10.frozen (p:=⟨w.heap.size+1,2,none⟩) lt9).trans g2
   have con:=wrongS_at right ra rcap b cb r w10 ((hcr.next hA10 (Nat.le_refl _)).up hA10.size) (h'.next hA10)
   by_cases hi2:inpE right r=0
   ·go_wp2_with fail
    rw [hi2] at con
    refine con.mono ?_
    clear con
    have e0:te=0:=by rw [← HT.out]; unfold twoE; rw [if_neg H8.out,if_neg (by simp [hcond]),if_neg (by simp [hi1])]; exact hi2
    subst e0
    rintro e w11 ⟨rfl,hb11⟩
    have hA11:=chain hA10 hb11
    have lt11:w.heap.size+1<w11.heap.size:=by have:=hb11.size; omega
    have q0:=(hb11.cell (p:=⟨w.heap.size+1,0,none⟩) lt10).trans q0
    have q1:=(hb11.cell (p:=⟨w.heap.size+1,1,none⟩) lt10).trans q1
    have q2:=(hb11.cell (p:=⟨w.heap.size+1,2,none⟩) lt10).trans q2
    have g0:=(hb11.frozen (p:=⟨w.heap.size+1,0,none⟩) lt10).trans g0
    have g1:=(hb11.frozen (p:=⟨w.heap.size+1,1,none⟩) lt10).trans g1
    have g2:=(hb11.frozen (p:=⟨w.heap.size+1,2,none⟩) lt10).trans g2
    go_wp2_with fail
    refine (ofBoth_at (.func (.func ug) #[] ucb) w11 ⟨_,_,rfl⟩).mono ?_
    rintro e w12 ⟨rv,rfl,hv12,N12,I12,hb12⟩
    have hA12:=chain hA11 hb12
    have lt12:w.heap.size+1<w12.heap.size:=by have:=hb12.size; omega
    have q0:=(hb12.cell (p:=⟨w.heap.size+1,0,none⟩) lt11).trans q0
    have q1:=(hb12.cell (p:=⟨w.heap.size+1,1,none⟩) lt11).trans q1
    have q2:=(hb12.cell (p:=⟨w.heap.size+1,2,none⟩) lt11).trans q2
    have g0:=(hb12.frozen (p:=⟨w.heap.size+1,0,none⟩) lt11).trans g0
    have g1:=(hb12.frozen (p:=⟨w.heap.size+1,1,none⟩) lt11).trans g1
    have g2:=(hb12.frozen (p:=⟨w.heap.size+1,2,none⟩) lt11).trans g2
    have d12:Below w8.heap.size w8 w12:=chain (chain (chain hb9 hb10) hb11) hb12
    have F7:Hid (w.heap.size+2≤w7.heap.size):=by show w.heap.size+2≤w7.heap.size; have:=D7.size; omega
    have HC8:Hid (Conds (left ++ right) w7.heap.size (.func (.func ug) #[] ucb) x w8):=hC8
    have HZ:Hid (w8.heap.size≤w11.heap.size):=by show w8.heap.size≤w11.heap.size; have:=(chain (chain hb9 hb10) hb11).size; omega
    clear hC8
    go_wp2_with fail
    obtain ⟨r0,r1,r2⟩:=put3_at (.slice a l.length ca) (.slice b r.length cb) (.func (.func 219) #[] #[.pointer (some ⟨rv,0,none⟩),.pointer (some ⟨w11.heap.size,0,none⟩)]) q0 q1 q2
    have hE:=put3_below (.slice a l.length ca) (.slice b r.length cb) (.func (.func 219) #[] #[.pointer (some ⟨rv,0,none⟩),.pointer (some ⟨w11.heap.size,0,none⟩)]) hA12 (show w.heap.size≤w.heap.size+1 by omega)
    have hK:=put3_block (W:=w12) (k:=w.heap.size+1) (.slice a l.length ca) (.slice b r.length cb) (.func (.func 219) #[] #[.pointer (some ⟨rv,0,none⟩),.pointer (some ⟨w11.heap.size,0,none⟩)])
    have hS:=put3_size (W:=w12) (k:=w.heap.size+1) (.slice a l.length ca) (.slice b r.length cb) (.func (.func 219) #[] #[.pointer (some ⟨rv,0,none⟩),.pointer (some ⟨w11.heap.size,0,none⟩)])
    generalize ((w12.setCell ⟨w.heap.size+1,0,none⟩ (.slice a l.length ca)).setCell ⟨w.heap.size+1,1,none⟩ (.slice b r.length cb)).setCell ⟨w.heap.size+1,2,none⟩ (.func (.func 219) #[] #[.pointer (some ⟨rv,0,none⟩),.pointer (some ⟨w11.heap.size,0,none⟩)])=wE at *
    have hr12:=N12.r
    have hv12':=N12.v
    have hz:=HZ.out
    have h7:=F7.out
    obtain ⟨n12,hvar⟩:=I12.var
    obtain ⟨cur12,hroom,hcs⟩:=I12.room
    refine bodyPost_ret (v:=.tuple #[.agg #[.slice a l.length ca,.slice b r.length cb,.func (.func 219) #[] #[.pointer (some ⟨rv,0,none⟩),.pointer (some ⟨w11.heap.size,0,none⟩)]],.int .i64 0]) (by simp [results,Tryz.results161,go_sem,r0,r1,r2]) rfl ⟨_,rfl,⟨⟨w7.heap.size,w8,w11.heap.size+1,rv,w11.heap.size,_,rfl,⟨by omega,by omega⟩,by omega,(World.cell?_of_block (w:=w12) (hK w11.heap.size (by omega))).trans hv12,HC8.out,by omega,⟨by have:=d12.size; omega,fun k k1 k2=>(hK k (by omega)).trans (d12.block k k2)⟩,by omega,hE,?_⟩⟩,hE⟩
    exact ⟨rfl,rfl,rfl,Nat.le_refl _,fun _ _ _ _=>rfl,⟨n12,(World.cell?_of_block (w:=w12) (hK rv (by omega))).trans hvar⟩,(World.frozen?_of_block (w:=w12) (hK rv (by omega))).trans I12.warm,cur12,(hK _ (by omega)).trans hroom,hcs⟩
   ·go_wp2_with fail
    refine con.mono ?_
    clear con
    have e0:te=inpE right r:=by rw [← HT.out]; unfold twoE; rw [if_neg H8.out,if_neg (by simp [hcond]),if_neg (by simp [hi1])]
    rw [← e0] at hi2 ⊢
    have hne:(te != 0)=true:=by simpa using hi2
    clear e0
    rintro e w11 ⟨rfl,hb11⟩
    have hA11:=chain hA10 hb11
    have q0:=(hb11.cell (p:=⟨w.heap.size+1,0,none⟩) lt10).trans q0
    have q1:=(hb11.cell (p:=⟨w.heap.size+1,1,none⟩) lt10).trans q1
    have q2:=(hb11.cell (p:=⟨w.heap.size+1,2,none⟩) lt10).trans q2
    have g0:=(hb11.frozen (p:=⟨w.heap.size+1,0,none⟩) lt10).trans g0
    have g1:=(hb11.frozen (p:=⟨w.heap.size+1,1,none⟩) lt10).trans g1
    have g2:=(hb11.frozen (p:=⟨w.heap.size+1,2,none⟩) lt10).trans g2
    go_wp2_with fail
    obtain ⟨r0,r1,r2⟩:=put3_at (.slice none 0 0) (.slice none 0 0) .nilFunc q0 q1 q2
    have hE:=put3_below (.slice none 0 0) (.slice none 0 0) .nilFunc hA11 (show w.heap.size≤w.heap.size+1 by omega)
    generalize ((w11.setCell ⟨w.heap.size+1,0,none⟩ (.slice none 0 0)).setCell ⟨w.heap.size+1,1,none⟩ (.slice none 0 0)).setCell ⟨w.heap.size+1,2,none⟩ .nilFunc=wE at *
    exact bodyPost_ret (v:=.tuple #[.agg #[.slice none 0 0,.slice none 0 0,.nilFunc],.int .i64 te]) (by simp [results,Tryz.results161,go_sem,r0,r1,r2]) rfl ⟨_,rfl,.inr ⟨hi2,rfl⟩,hE⟩
  ·go_wp2_with fail
   refine con.mono ?_
   clear con
   have e0:te=inpE left l:=by rw [← HT.out]; unfold twoE; rw [if_neg H8.out,if_neg (by simp [hcond]),if_pos hi1]
   rw [← e0] at hi1 ⊢
   have hne:(te != 0)=true:=by simpa using hi1
   clear e0
   rintro e w10 ⟨rfl,hb10⟩
   have hA10:=chain hA9 hb10
   have q0:=(hb10.cell (p:=⟨w.heap.size+1,0,none⟩) lt9).trans q0
   have q1:=(hb10.cell (p:=⟨w.heap.size+1,1,none⟩) lt9).trans q1
   have q2:=(hb10.cell (p:=⟨w.heap.size+1,2,none⟩) lt9).trans q2
   have g0:=(hb10.frozen (p:=⟨w.heap.size+1,0,none⟩) lt9).trans g0
   have g1:=(hb10.frozen (p:=⟨w.heap.size+1,1,none⟩) lt9).trans g1
   have g2:=(hb10.frozen (p:=⟨w.heap.size+1,2,none⟩) lt9).trans g2
   go_wp2_with fail
   obtain ⟨r0,r1,r2⟩:=put3_at (.slice none 0 0) (.slice none 0 0) .nilFunc q0 q1 q2
   have hE:=put3_below (.slice none 0 0) (.slice none 0 0) .nilFunc hA10 (show w.heap.size≤w.heap.size+1 by omega)
   generalize ((w10.setCell ⟨w.heap.size+1,0,none⟩ (.slice none 0 0)).setCell ⟨w.heap.size+1,1,none⟩ (.slice none 0 0)).setCell ⟨w.heap.size+1,2,none⟩ .nilFunc=wE at *
   exact bodyPost_ret (v:=.tuple #[.agg #[.slice none 0 0,.slice none 0 0,.nilFunc],.int .i64 te]) (by simp [results,Tryz.results161,go_sem,r0,r1,r2]) rfl ⟨_,rfl,.inr ⟨hi1,rfl⟩,hE⟩
 ·have e0:te=condE (left ++ right) x:=by rw [← HT.out]; unfold twoE; rw [if_neg H8.out,if_pos hcond]
  have e1:¬ te=0:=by rw [e0]; exact hcond
  have hne:(te != 0)=true:=by simpa using e1
  have HC:Hid (condE (left ++ right) x=te):=e0.symm
  clear e0
  go_enter Tryz.func161,Tryz.ntmps161
  go_wp2_with fail
  generalize (w.alloc (.cells #[.int .i64 x.k,.int .i64 x.v.1,.int .i64 x.v.2.1,.string x.v.2.2,.int .i64 x.c,.slice xa x.ks.length xcap] 27)).alloc (.cells #[.slice none 0 0,.slice none 0 0,.nilFunc] 162)=w2 at *
  have hB0:Below w2.heap.size w2 w2.drew:=(Below.refl _ _).drew
  refine wp_region_ext (by kernel_rfl) ?_
  refine wpX_take (some 24) (i:=0) (v:=.slice la left.length lcap) rfl rfl (by kernel_rfl) (by kernel_rfl) (by kernel_rfl) (fun _ _ _ h=>h) (Or.inl ⟨rfl,fun n=>?_⟩) hB0 ?_
  ·go_simp
  simp only [Act.put,pA,pB,pC]
  refine wpX_take (some 25) (i:=1) (v:=.slice ra right.length rcap) rfl rfl (by kernel_rfl) (by kernel_rfl) (by kernel_rfl) (fun _ _ _ h=>h) (Or.inl ⟨rfl,fun n=>?_⟩) hB0 ?_
  ·go_simp
  simp only [Act.put,pA,pB,pC]
  refine wpX_take (some 28) (i:=4) (v:=exV x.k x.v x.c xa x.ks.length xcap) rfl rfl (by kernel_rfl) (by kernel_rfl) (by kernel_rfl) (fun _ _ _ h=>h) (Or.inl ⟨rfl,fun n=>?_⟩) hB0 ?_
  ·go_simp
  simp only [Act.put,pA,pB,pC]
  clear p0 p1 p2 p3 p4 p5
  refine wpX_step (rs:=[2]) (by kernel_rfl) (by simp) ?_
  intro w3 hb3 j hj
  obtain rfl:j=2:=by simpa using hj
  clear hj
  have D3:=hB0.trans (hb3.mono hB0.size)
  refine wpOp_step rfl (fun K hK=>?_)
  go_simp
  have hal3:Below w3.heap.size w3 (w3.alloc (.cells #[.slice la left.length lcap,.slice ra right.length rcap] 45)):=(Below.refl _ _).alloc (Nat.le_refl _) _
  have PC:=PairC.new lcap rcap (raw_ints (hcl.next (chain hA D3) (Nat.le_refl _))) (raw_ints (hcr.next (chain hA D3) (Nat.le_refl _))) 45
  have D4:=D3.trans (hal3.mono D3.size)
  refine hK _ _ ⟨D4,?_⟩
  clear hK K
  generalize w3.alloc (.cells #[.slice la left.length lcap,.slice ra right.length rcap] 45)=w4 at *
  refine wpX_step (rs:=[3]) (by kernel_rfl) (by simp) ?_
  intro w5 hb5 j hj
  obtain rfl:j=3:=by simpa using hj
  clear hj
  have D5:=D4.trans (hb5.mono D4.size)
  refine wpOp_step rfl (fun K hK=>?_)
  go_simp
  refine (concatI_at _ _ _ _ _ w5 (PC.next hb5) (by omega)).mono ?_
  rintro e w6 ⟨v6,rfl,O6,hb6⟩
  rw [← List.map_append] at O6
  obtain ⟨a6,c6,rfl,I6⟩:=own_ints O6 (by simp)
  have D6:=D5.trans (hb6.mono D5.size)
  refine hK _ _ ⟨D6,?_⟩
  clear hK K PC O6
  refine wpX_step (rs:=[5]) (by kernel_rfl) (by simp) ?_
  intro w7 hb7 j hj
  obtain rfl:j=5:=by simpa using hj
  clear hj
  have D7:=D6.trans (hb7.mono D6.size)
  refine wpOp_step rfl (fun K hK=>?_)
  go_simp
  have hA7:=chain hA D7
  have con:=condBad_at (left ++ right) x a6 c6 xa xcap w7 ((KsAt.next hA7 (Nat.le_refl _) hx).up hA7.size) ((I6.next hb7 (Nat.le_refl _)).up hb7.size) hcond
  rw [HC.out,List.length_append] at con
  refine con.mono ?_
  clear con
  rintro e w8 ⟨rfl,hb8⟩
  have D8:=D7.trans (hb8.mono D7.size)
  refine hK _ _ ⟨D8,?_⟩
  clear hK K
  refine wpX_take (some 23) (i:=6) (v:=.tuple #[.nilFunc,.int .i64 te]) rfl rfl (by kernel_rfl) (by kernel_rfl) (by kernel_rfl) (fun _ _ _ h=>h) (Or.inl ⟨rfl,fun n=>?_⟩) D8 ?_
  ·go_simp
  simp only [Act.put,pA,pB,pC]
  refine wpX_take (some 30) (i:=7) (v:=.nilFunc) rfl rfl (by kernel_rfl) (by kernel_rfl) (by kernel_rfl) (fun _ _ _ h=>h) (Or.inl ⟨rfl,fun n=>?_⟩) D8 ?_
  ·go_simp
  simp only [Act.put,pA,pB,pC]
  refine wpX_take (some 31) (i:=8) (v:=.int .i64 te) rfl rfl (by kernel_rfl) (by kernel_rfl) (by kernel_rfl) (fun _ _ _ h=>h) (Or.inl ⟨rfl,fun n=>?_⟩) D8 ?_
  ·go_simp
  simp only [Act.put,pA,pB,pC]
  refine wpX_take (some 12) (i:=9) (v:=.nilFunc) rfl rfl (by kernel_rfl) (by kernel_rfl) (by kernel_rfl) (fun _ _ _ h=>h) (Or.inl ⟨rfl,fun n=>?_⟩) D8 ?_
  ·go_simp
  simp only [Act.put,pA,pB,pC]
  refine wpX_take (some 13) (i:=10) (v:=.int .i64 te) rfl rfl (by kernel_rfl) (by kernel_rfl) (by kernel_rfl) (fun _ _ _ h=>h) (Or.inl ⟨rfl,fun n=>?_⟩) D8 ?_
  ·go_simp
  simp only [Act.put,pA,pB,pC]
  refine wpX_done (by kernel_rfl) ?_
  intro w9 hb9
  have D9:=D8.trans (hb9.mono D8.size)
  have hA9:=chain hA D9
  have q0:=(D9.cell (p:=⟨w.heap.size+1,0,none⟩) (by show w.heap.size+1<_; omega)).trans b0
  have q1:=(D9.cell (p:=⟨w.heap.size+1,1,none⟩) (by show w.heap.size+1<_; omega)).trans b1
  have q2:=(D9.cell (p:=⟨w.heap.size+1,2,none⟩) (by show w.heap.size+1<_; omega)).trans b2
  have g0:=(D9.frozen (p:=⟨w.heap.size+1,0,none⟩) (by show w.heap.size+1<_; omega)).trans f0
  have g1:=(D9.frozen (p:=⟨w.heap.size+1,1,none⟩) (by show w.heap.size+1<_; omega)).trans f1
  have g2:=(D9.frozen (p:=⟨w.heap.size+1,2,none⟩) (by show w.heap.size+1<_; omega)).trans f2
  go_wp2_with fail
  obtain ⟨r0,r1,r2⟩:=put3_at (.slice none 0 0) (.slice none 0 0) .nilFunc q0 q1 q2
  have hE:=put3_below (.slice none 0 0) (.slice none 0 0) .nilFunc hA9 (show w.heap.size≤w.heap.size+1 by omega)
  generalize ((w9.setCell ⟨w.heap.size+1,0,none⟩ (.slice none 0 0)).setCell ⟨w.heap.size+1,1,none⟩ (.slice none 0 0)).setCell ⟨w.heap.size+1,2,none⟩ .nilFunc=wE at *
  exact bodyPost_ret (v:=.tuple #[.agg #[.slice none 0 0,.slice none 0 0,.nilFunc],.int .i64 te]) (by simp [results,Tryz.results161,go_sem,r0,r1,r2]) rfl ⟨_,rfl,.inr ⟨e1,rfl⟩,hE⟩
end Go.Proofs.YtohjlfhmnmcndaaGreat
/- As ..Ext, over whatever class of worlds that is kept as worlds grow: whatever only reads what was there, and calls that make memory alone, may be taken first, if what is left goes through in every world that has grown since. -/
namespace Go.Proofs.YtohjlfhmnmcndaaGreat
open Go.RowKit

section
variable {P:Program} {ops:Array Oper} {Q:Exit→Act→World→Prop} {md:Region.Mode} {C:World→Prop}

/-- In every world that has grown of the class the operation leaves v in its temporary, and a world that has grown out of that one. -/
def GrowsC (P:Program) (ops:Array Oper) (C:World→Prop) (o:Oper) (v:Value) (a:Act):Prop :=
 (Region.wanted o (yielded ops a.tmps)=true∧∀ n:World,C n→Oper.quietUpon P (fun w'=>Below n.heap.size n w') n v ((execOp a.eval o).run P n)) ∨
 (Region.wanted o (yielded ops a.tmps)=false∧v=undef)

theorem GrowsC.of_same {o:Oper} {v:Value} {a a':Act} (hy:GrowsC P ops C o v a) (he:execOp a'.eval o=execOp a.eval o)
  (hw:Region.wanted o (yielded ops a'.tmps)=Region.wanted o (yielded ops a.tmps)):GrowsC P ops C o v a':=by
 unfold GrowsC at *
 rw [he,hw]
 exact hy

theorem GrowsC.wpOp {i:Nat} {o:Oper} {v:Value} {a:Act} (hi:ops[i]? = some o) (hy:GrowsC P ops C o v a)
  {K:Act→World→Prop} {w:World} (hB:C w) (h:∀ w',Below w.heap.size w w'→K (a.put o.dst v) w'):wpOp P ops Q i K a w:=by
 unfold Go.wpOp
 simp only [hi]
 rcases hy with ⟨hw,hv⟩ | ⟨hw,rfl⟩
 ·simp only [hw,if_true]
  left
  have h3:=hv w hB
  unfold Oper.wp
  generalize (execOp a.eval o).run P w=r at *
  cases r with
  | ok n w' =>
   cases n <;> simp only [Oper.quietUpon] at h3 <;> simp only [Oper.upon]
   case value u =>
    obtain ⟨e1,e2⟩:=h3
    rw [e1,e2]
    exact h _ (Below.refl _ _)
   case skip =>
    obtain ⟨e1,e2⟩:=h3
    rw [e1,← e2]
    exact h _ (Below.refl _ _)
   case enter f args =>
    obtain ⟨e1,hc⟩:=h3
    rw [e1]
    exact hc.mono fun e w'' ⟨he,hw''⟩=>by subst he; exact h _ hw''
  | halt x w'=>simp only [Oper.quietUpon] at h3
 ·simp only [hw,Bool.false_eq_true,if_false]
  exact h _ (Below.refl _ _)

/-- One operation, apart from another one: whether that one's value is there already makes no difference to it. -/
theorem wpOp_putC {Φ:Act→Prop} {j:Nat} {oi oj:Oper} {v:Value} (hj:ops[j]? = some oj) (hap:oi.apart ops oj=true)
  (hsj:∀ cs b,oj.op ≠ .select cs b) (hQ:∀ c a w,Q (.panic c) (a.put oi.dst v) w→Q (.panic c) a w)
  (keep:∀ (a:Act),Φ a→∀ u,Φ (a.put oj.dst u)) (keepD:∀ (a:Act) (d:Deferred),Φ a→Φ { a with defers:=d :: a.defers })
  {K:Act→World→Prop} {a:Act} {w:World} (hy:Φ a) (h:wpOp P ops Q j K (a.put oi.dst v) w) :
  wpOp P ops Q j (fun a' w'=>Φ a'∧K (a'.put oi.dst v) w') a w:=by
 obtain ⟨h1,h2,_⟩:=Oper.apart_spec hap
 unfold wpOp at *
 simp only [hj] at *
 rw [wanted_put oj a oi.dst v h1] at h
 split
 ·rename_i hw
  simp only [hw,if_true] at h
  rcases h with h | ⟨hasks,hlets⟩
  case inr=>exact .inr ⟨by unfold Oper.asks at *; rw [execOp_put oj hsj a oi.dst v h1] at hasks; exact hasks,hlets⟩
  refine .inl ?_
  unfold Oper.wp at *
  rw [execOp_put oj hsj a oi.dst v h1] at h
  generalize (execOp a.eval oj).run P w=r at *
  cases r with
  | ok n w' =>
   cases n <;> simp only [Oper.upon] at h ⊢
   case value u=>exact ⟨keep a hy u,by rw [← Act.put_comm a v u h2]; exact h⟩
   case skip=>exact ⟨keep a hy _,by rw [← Act.put_comm a v undef h2]; exact h⟩
   case defer d =>
    refine ⟨keep _ (keepD a d hy) _,?_⟩
    rw [← Act.put_comm _ v undef h2,← Act.put_defers]
    exact h
   case enter f args =>
    refine Calls.mono h fun e w'' he=>?_
    cases e with
    | returned u=>exact ⟨keep a hy u,by rw [← Act.put_comm a v u h2]; exact he⟩
    | panicked c=>exact hQ _ _ _ he
    | outgrown=>exact he
   case row row args=>exact Rows.mono h fun u w'' he=>⟨keep a hy u,by rw [← Act.put_comm a v u h2]; exact he⟩
  | halt x w' =>
   cases x <;> simp only [Oper.upon] at h ⊢
   case panic u=>exact hQ _ _ _ h
 ·rename_i hw
  simp only [hw] at h
  exact ⟨keep a hy _,by rw [← Act.put_comm a v undef h2]; exact h⟩

/-- Whatever order is picked from here on, and however the world grows ahead of each operation. -/
def wpY (P:Program) (md:Region.Mode) (ops:Array Oper) (Q:Exit→Act→World→Prop) (C:World→Prop):Nat→Array Bool→Act→World→Prop
 | 0,listed,a,w=>Region.ready md ops listed = []∧∀ w',Below w.heap.size w w'→Q .normal a w'
 | fuel+1,listed,a,w=>∀ w',Below w.heap.size w w'→(Region.ready md ops listed = []→Q .normal a w') ∧
  ∀ i ∈ Region.ready md ops listed,wpOp P ops Q i (fun a' w''=>C w''∧wpY P md ops Q C fuel (listed.setIfInBounds i true) a' w'') a w'

theorem wpY.later:∀ (fuel:Nat) {listed:Array Bool} {a:Act} {w w1:World},wpY P md ops Q C fuel listed a w→Below w.heap.size w w1→wpY P md ops Q C fuel listed a w1
 | 0,_,_,_,_,h,hb=>⟨h.1,fun w' hw'=>h.2 w' (chain hb hw')⟩
 | _+1,_,_,_,_,h,hb=>fun w' hw'=>h w' (chain hb hw')

theorem wpAny_of_wpY:∀ (fuel:Nat) (listed:Array Bool) (a:Act) (w:World),wpY P md ops Q C fuel listed a w→wpAny P md ops Q fuel listed a w
 | 0,_,_,_,h=>⟨h.1,h.2 _ (Below.refl _ _)⟩
 | fuel+1,_,_,w,h=>⟨(h w (Below.refl _ _)).1,fun i hi=>wpOp_mono (fun a' w' h'=>wpAny_of_wpY fuel _ a' w' h'.2) ((h w (Below.refl _ _)).2 i hi)⟩

theorem wpY_first (hC:∀ w w',C w→Below w.heap.size w w'→C w') {i:Nat} {oi:Oper} {v:Value} (hi:ops[i]? = some oi) (hsel:∀ (j:Nat) (o:Oper) cs b,ops[j]? = some o→o.op ≠ .select cs b)
  (hQ:∀ c a w,Q (.panic c) (a.put oi.dst v) w→Q (.panic c) a w) :
  ∀ (fuel:Nat) (listed:Array Bool) (a:Act) (w:World),
   (∀ j oj,ops[j]? = some oj→j≠i→listed.getD j true=false→(∀ e ∈ oj.after,Region.binds md e=true→e.on≠i)→oi.apart ops oj=true) →
   i ∈ Region.ready md ops listed→GrowsC P ops C oi v a→C w →
   wpY P md ops Q C fuel (listed.setIfInBounds i true) (a.put oi.dst v) w→wpY P md ops Q C (fuel+1) listed a w:=by
 intro fuel
 induction fuel with
 | zero =>
  intro listed a w _ hr hy hB H w' hw'
  refine ⟨fun h=>(by rw [h] at hr; cases hr),fun j hj=>?_⟩
  by_cases hji:j=i
  ·subst hji
   exact hy.wpOp hi (hC _ _ hB hw') fun w'' hw''=>⟨hC _ _ (hC _ _ hB hw') hw'',H.later 0 (chain hw' hw'')⟩
  ·have:=ready_mono hj hji
   rw [H.1] at this
   cases this
 | succ fuel ih =>
  intro listed a w hfree hr hy hB H w' hw'
  refine ⟨fun h=>(by rw [h] at hr; cases hr),fun j hj=>?_⟩
  by_cases hji:j=i
  ·subst hji
   exact hy.wpOp hi (hC _ _ hB hw') fun w'' hw''=>⟨hC _ _ (hC _ _ hB hw') hw'',H.later (fuel+1) (chain hw' hw'')⟩
  ·have h1:=(H w' hw').2 j (ready_mono hj hji)
   obtain ⟨hjun,oj,hoj,hall⟩:=mem_ready.1 hj
   have hnot:∀ e ∈ oj.after,Region.binds md e=true→e.on≠i:=fun e he hb heq=>by
    have h1:=hall e he hb
    have h0:=(mem_ready.1 hr).1
    rw [heq] at h1
    rcases Nat.lt_or_ge i listed.size with h' | h'
    ·simp [h'] at h0 h1; rw [h0] at h1; cases h1
    ·simp [Array.getElem?_eq_none h'] at h1
   have hap:=hfree j oj hoj hji hjun hnot
   obtain ⟨_,_,h3⟩:=Oper.apart_spec hap
   have h2:=wpOp_putC (Φ:=GrowsC P ops C oi v) hoj hap (fun cs b=>hsel j oj cs b hoj) hQ
    (fun a hy u=>hy.of_same (execOp_put oi (fun cs b=>hsel i oi cs b hi) a oj.dst u h3) (wanted_put oi a oj.dst u h3)) (fun a d hy=>hy.of_same rfl rfl) hy h1
   have hfree':∀ k ok,ops[k]? = some ok→k≠i→(listed.setIfInBounds j true).getD k true=false →
     (∀ e ∈ ok.after,Region.binds md e=true→e.on≠i)→oi.apart ops ok=true:=fun k ok hk hki hun hno=>by
    refine hfree k ok hk hki ?_ hno
    by_cases hjk:j=k
    ·subst hjk; exact hjun
    ·rw [getD_set_ne true hjk] at hun; exact hun
   refine wpOp_mono (fun a' w'' h4=>⟨h4.2.1,ih (listed.setIfInBounds j true) a' w'' hfree' (ready_mono hr (Ne.symm hji)) h4.1 h4.2.1 ?_⟩) h2
   rw [Array.setIfInBounds_comm _ _ hji]
   exact h4.2.2

theorem wpY_take (hC:∀ w w',C w→Below w.heap.size w w'→C w') {i:Nat} {oi:Oper} {v:Value} {fuel:Nat} {listed:Array Bool} {a:Act} {w:World} (d:Option Tmp) (hi:ops[i]? = some oi) (hd:oi.dst=d)
  (hs:Region.noSelect ops=true) (hf:Region.free md ops listed i=true) (hr:(Region.ready md ops listed).contains i=true)
  (hQ:∀ c a w,Q (.panic c) (a.put oi.dst v) w→Q (.panic c) a w) (hy:GrowsC P ops C oi v a) (hB:C w)
  (h:wpY P md ops Q C fuel (listed.setIfInBounds i true) (a.put d v) w):wpY P md ops Q C (fuel+1) listed a w:=by
 subst hd
 exact wpY_first hC hi (Region.noSelect_spec hs) hQ fuel listed a w (Region.free_spec hi hf) (by simpa using hr) hy hB h

theorem wpY_step {rs:List Nat} {fuel:Nat} {listed:Array Bool} {a:Act} {w:World} (hr:Region.ready md ops listed=rs) (hne:rs ≠ [])
  (h:∀ w',Below w.heap.size w w'→∀ i ∈ rs,wpOp P ops Q i (fun a' w''=>C w''∧wpY P md ops Q C fuel (listed.setIfInBounds i true) a' w'') a w'):wpY P md ops Q C (fuel+1) listed a w :=
 fun w' hw'=>⟨fun h0=>absurd (hr ▸ h0) hne,hr ▸ h w' hw'⟩
theorem wpY_done {listed:Array Bool} {a:Act} {w:World} (hr:Region.ready md ops listed = []) (h:∀ w',Below w.heap.size w w'→Q .normal a w'):wpY P md ops Q C 0 listed a w:=⟨hr,h⟩

theorem wp_region_cls {id:Nat} {a:Act} {w:World} (C:World→Prop) (hm:P.follows .mixedOrders=true)
  (h:wpY P .any ops Q C ops.size (Array.replicate ops.size false) a w.drew):(Code.region id ops true).wp P Q a w :=
 wp_region_any hm (wpAny_of_wpY _ _ _ _ h)
end
end Go.Proofs.YtohjlfhmnmcndaaGreat
/- Rows that are gathered one by one beside others that are asked. -/
namespace Go.Proofs.YtohjlfhmnmcndaaGreat
open Go.RowKit Go.Lib Go.Shelf

/-- Rows in a slice of one's own, whose values lie in blocks of values, all from base on. -/
def OwnJ (base:Nat) (W:World) (v:Value) (l:List Zp):Prop:=∃ xs,W.ownsRow base 58 2 v l.length xs∧EncT W xs l∧∀ (i:Nat) (b o cap n:Nat),i<l.length→xs[i*2]? = some (.slice (some ⟨b,o,none⟩) n cap)→base≤b
theorem OwnJ.z {base:Nat} {W:World} {v:Value} {l:List Zp} (h:OwnJ base W v l):OwnZ base W v l:=by
 obtain ⟨xs,h1,h2,_⟩:=h
 exact ⟨xs,h1,h2⟩
theorem sl_since {lo:Nat} {W w1:World} {a:Option Addr} {r:List Vl} (h:SlAt W a r) (ht:TyAt W a) (hb:∀ b o,a=some ⟨b,o,none⟩→lo≤b) (hs:Since lo W w1):SlAt w1 a r∧TyAt w1 a:=by
 have key:∀ b off,a=some ⟨b,off,none⟩→w1.heap[b]? = W.heap[b]?:=by
  intro b off e
  obtain ⟨c,z,h1⟩:=ht b off e
  have hlt:b<W.heap.size:=by
   rcases Nat.lt_or_ge b W.heap.size with h | h
   ·exact h
   ·rw [Array.getElem?_eq_none h] at h1; cases h1
  exact hs.2 b (hb b off e) hlt
 refine ⟨⟨h.1,?_⟩,?_⟩
 ·rcases h.2 with h | ⟨b,off,e,hr,hlt⟩
  ·exact .inl h
  ·refine .inr ⟨b,off,e,fun i hi=>?_,Nat.lt_of_lt_of_le hlt hs.1⟩
   have k:=key b off e
   obtain ⟨c0,c1,c2⟩:=hr i hi
   exact ⟨(World.cell?_of_block (a:=⟨b,_,none⟩) k).trans c0,(World.cell?_of_block (a:=⟨b,_,none⟩) k).trans c1,(World.cell?_of_block (a:=⟨b,_,none⟩) k).trans c2⟩
 ·intro b off e
  obtain ⟨c,z,h1⟩:=ht b off e
  exact ⟨c,z,(key b off e).trans h1⟩
theorem OwnJ.since {base lo:Nat} {W w1:World} {v:Value} {l:List Zp} (h:OwnJ base W v l) (hl:lo≤base) (hs:Since lo W w1):OwnJ base w1 v l:=by
 obtain ⟨xs,h1,h2,h3⟩:=h
 refine ⟨xs,own_since h1 hl hs,⟨h2.1,fun i hi=>?_⟩,h3⟩
 obtain ⟨a,cap,e0,e1,e2,e3⟩:=h2.2 i hi
 obtain ⟨g0,g1⟩:=sl_since e2 e3 (fun b o e=>by subst e; exact Nat.le_trans hl (h3 i b o cap _ hi e0)) hs
 exact ⟨a,cap,e0,e1,g0,g1⟩
theorem OwnJ.nil (base:Nat) (W:World):OwnJ base W (.slice none 0 0) []:=⟨[],by simpa using World.ownsRow_nil _ _ _ _,⟨rfl,fun i hi=>by simp at hi⟩,fun i b o cap n hi=>by simp at hi⟩
theorem OwnJ.slice {base:Nat} {W:World} {v:Value} {l:List Zp} (h:OwnJ base W v l):∃ a cap,v = .slice a l.length cap:=by
 obtain ⟨a,cap,e,_⟩:=h.z.zs
 exact ⟨a,cap,e⟩
theorem OwnJ.push {W w1:World} {base:Nat} {v v':Value} {xs:List Value} {l:List Zp} {a:Option Addr} {cap:Nat} {r:List Vl} {x:Int}
  (ho:W.ownsRow base 58 2 v l.length xs) (he:EncT W xs l) (hb:∀ (i:Nat) (b o cap n:Nat),i<l.length→xs[i*2]? = some (.slice (some ⟨b,o,none⟩) n cap)→base≤b) (hs:SlAt W a r) (ht:TyAt W a) (ha:∀ b o,a=some ⟨b,o,none⟩→base≤b)
  (ho':w1.ownsRow base 58 2 v' (l.length+1) (xs ++ [.slice a r.length cap,.int .i64 x])) (hg:W.grownBy w1 v.ownBlock):OwnJ base w1 v' (l ++ [(r,x)]):=by
 have lx:=he.1
 refine ⟨_,by simpa using ho',⟨by simp [he.1]; omega,?_⟩,?_⟩
 ·intro i hi
  by_cases hi':i<l.length
  ·obtain ⟨a',c',h1,h2,h3,h4⟩:=he.2 i hi'
   have g:=sl_grown h3 h4 ho hg
   refine ⟨a',c',?_,?_,?_,g.2⟩
   ·rw [List.getElem?_append_left (by omega),h1,List.getElem_append_left hi']
   ·rw [List.getElem?_append_left (by omega),h2,List.getElem_append_left hi']
   ·rw [List.getElem_append_left hi']; exact g.1
  ·have:i=l.length:=by simp at hi; omega
   subst this
   have g:=sl_grown hs ht ho hg
   refine ⟨a,cap,?_,?_,?_,g.2⟩
   ·rw [List.getElem?_append_right (by omega)]; simp [lx]
   ·rw [List.getElem?_append_right (by omega)]; simp [lx]
   ·simpa using g.1
 ·intro i b o c n hi h
  by_cases hi':i<l.length
  ·rw [List.getElem?_append_left (by omega)] at h
   exact hb i b o c n hi' h
  ·have:i=l.length:=by simp at hi; omega
   subst this
   rw [List.getElem?_append_right (by omega)] at h
   simp [lx] at h
   exact ha b o h.1
theorem OwnJ.lt {base:Nat} {W:World} {v:Value} {l:List Zp} (h:OwnJ base W v l) {g:Nat} (hg:v.ownBlock=some g):base≤g∧g<W.heap.size:=by
 obtain ⟨xs,h1,_⟩:=h
 exact h1.lt g hg
theorem wp_append_at {P:Program} {w:World} {o:Oper} {a:Act} {K:Act→World→Prop} {Q:Exit→Act→World→Prop} (d:Option Tmp) (hd:o.dst=d) (s x:Operand) (t:TypeId)
  (ho:o.op = .call { callee:=.builtin .append,args:=#[s,x],argTypes:=#[t,t] })
  (base:Nat) (e:TypeId) (i:TypeInfo) (z:Value) (size bytes:Nat) (ht:P.underlying t=some (.slice e)) (hi:P.info? e=some i) (hz:i.zero=some z)
  (hsize:i.size=size) (hby:i.bytes=bytes) (hzs:z.cells.size=size) (hsz:0<size)
  (v:Value) (n:Nat) (xs:List Value) (hs:a.eval s=v) (hown:w.ownsRow base e size v n xs)
  (ad:Addr) (m c:Nat) (news:List Value) (hx:a.eval x = .slice (some ad) m c) (hl:news.length=m*size) (hnews:∀ j u,news[j]? = some u→w.cell? (ad.add j)=some u) (h1:∀ u ∈ news,u.oneCell'=true)
  (h63:n+m≤maxLen) (hbytes:(n+m)*bytes≤140737488355328) (hbase:base≤w.heap.size)
  (h:∀ v' w',w'.ownsRow base e size v' (n+m) (xs ++ news)→w.grownBy w' v.ownBlock→(v'.ownBlock=v.ownBlock∨v'.ownBlock=some w.heap.size)→K (a.put d v') w'):o.wp P a w K Q:=by
 subst hd
 obtain ⟨v',w',hr,h2,h3,_,h5⟩:=run_append_own_at (P:=P) w base t o.type e i z size bytes ht hi hz hsize hby hzs hsz v n xs hown ad m c news hl hnews h1 h63 hbytes hbase
 unfold Oper.wp execOp
 simp only [ho,resolve,invoke,builtin,Sem.run_bind,Sem.run_pure,Result.andThen_ok,List.map_toArray,List.map_cons,List.map_nil,hs,hx,hr]
 exact h v' w' h2 h3 h5
/-- The rows that stand in a set, one after the other. -/
theorem joinL_take (x:Ex) {l r:List Zp} {k:Nat} (h:k<l.length):joinL x (l.take (k+1)) r=joinL x (l.take k) r ++ pairsOf x l[k] r:=by
 unfold joinL
 rw [List.take_succ_eq_append_getElem h,List.flatMap_append]
 simp
theorem pairsOf_take (x:Ex) (p:Zp) {r:List Zp} {k:Nat} (h:k<r.length):pairsOf x p (r.take (k+1))=pairsOf x p (r.take k) ++ (if holdsP x (p.1 ++ r[k].1)=true then [(p.1 ++ r[k].1,p.2*r[k].2)] else []):=by
 unfold pairsOf
 rw [List.take_succ_eq_append_getElem h,List.filter_append,List.map_append,List.filter_cons]
 congr 1
 split <;> rfl
theorem pairsOf_len (x:Ex) (p:Zp) (r:List Zp):(pairsOf x p r).length≤r.length:=by
 unfold pairsOf
 rw [List.length_map]
 exact List.length_filter_le _ _
theorem joinL_len (x:Ex):∀ (l r:List Zp),(joinL x l r).length≤l.length*r.length
 | [],_=>by simp [joinL]
 | p :: t,r=>by
  have h1:=joinL_len x t r
  have h2:=pairsOf_len x p r
  unfold joinL at h1 ⊢
  rw [List.flatMap_cons,List.length_append,List.length_cons,Nat.add_mul,Nat.one_mul]
  omega
theorem cell_of {W:World} {b:Nat} {xs:Array Value} {T:TypeId} {i:Nat} {v:Value} (h:W.heap[b]? = some (.cells xs T (0,0))) (hv:xs[i]? = some v):W.cell? ⟨b,i,none⟩=some v:=by
 simp [World.cell?,h,hv]
theorem heap_new (W:World) (xs:Array Value) (T:TypeId):(W.alloc (.cells xs T)).heap[W.heap.size]? = some (.cells xs T (0,0)):=by
 show (W.heap.push (.cells xs T (0,0)))[W.heap.size]? = _
 exact Array.getElem?_push_size
theorem lt_of_heap {W:World} {b:Nat} {o:Obj} (h:W.heap[b]? = some o):b<W.heap.size:=by
 rcases Nat.lt_or_ge b W.heap.size with h' | h'
 ·exact h'
 ·rw [Array.getElem?_eq_none h'] at h; cases h
end Go.Proofs.YtohjlfhmnmcndaaGreat
/- Rows with keys, in the order of their keys, plainly; and in memory. -/
namespace Go.Proofs.YtohjlfhmnmcndaaGreat
open Go.RowKit Go.Lib Go.Shelf

/-- Keys, and a row with its weight. -/
abbrev Kp:Type:=List Vl × Zp
/-- x stands ahead of y: its keys do, or they are the same, and its row does. -/
def StK (x y:Kp):Prop:=cmpL x.1 y.1<0∨(cmpL x.1 y.1=0∧cmpL x.2.1 y.2.1<0)
instance (x y:Kp):Decidable (StK x y):=by unfold StK; exact inferInstance
theorem StK.trans {x y z:Kp} (h1:StK x y) (h2:StK y z):StK x z:=by
 rcases h1 with h1 | ⟨h1,g1⟩
 ·rcases h2 with h2 | ⟨h2,_⟩
  ·exact .inl (cmpL_lt_le h1 (by omega))
  ·exact .inl (cmpL_lt_le h1 (by omega))
 ·rcases h2 with h2 | ⟨h2,g2⟩
  ·exact .inl (cmpL_le_lt (by omega) h2)
  ·refine .inr ⟨?_,cmpL_lt_le g1 (by omega)⟩
   have a1:=cmpL_trans x.1 y.1 z.1 (by omega) (by omega)
   have n1:=cmpL_neg x.1 y.1
   have n2:=cmpL_neg y.1 z.1
   have n3:=cmpL_neg x.1 z.1
   have a2:=cmpL_trans z.1 y.1 x.1 (by omega) (by omega)
   omega
theorem StK.not {x y:Kp} (h1:StK x y) (h2:StK y x):False:=by
 have n1:=cmpL_neg x.1 y.1
 have n2:=cmpL_neg x.2.1 y.2.1
 rcases h1 with h1 | ⟨h1,g1⟩ <;> rcases h2 with h2 | ⟨h2,g2⟩ <;> omega
def insK (x:Kp):List Kp→List Kp
 | []=>[x]
 | y :: r=>if StK x y then x :: y :: r else y :: insK x r
def ordK:List Kp→List Kp
 | []=>[]
 | x :: r=>insK x (ordK r)
theorem insK_perm (x:Kp):∀ l,(insK x l).Perm (x :: l)
 | []=>List.Perm.refl _
 | y :: r=>by
  unfold insK
  split
  ·exact List.Perm.refl _
  ·exact ((insK_perm x r).cons y).trans (List.Perm.swap x y r)
theorem ordK_perm:∀ l,(ordK l).Perm l
 | []=>List.Perm.refl _
 | x :: r=>(insK_perm x (ordK r)).trans ((ordK_perm r).cons x)
theorem insK_sorted (x:Kp):∀ l,l.Pairwise StK→(∀ y ∈ l,StK x y∨StK y x)→(insK x l).Pairwise StK
 | [],_,_=>by simp [insK]
 | y :: r,h,ht=>by
  obtain ⟨h1,h2⟩:=List.pairwise_cons.1 h
  unfold insK
  split
  ·rename_i c
   exact List.pairwise_cons.2 ⟨fun z hz=>by
    rcases List.mem_cons.1 hz with rfl | hz
    ·exact c
    ·exact c.trans (h1 z hz),h⟩
  ·rename_i c
   have c':StK y x:=by rcases ht y (by simp) with h | h; exact absurd h c; exact h
   exact List.pairwise_cons.2 ⟨fun z hz=>by
    rcases List.mem_cons.1 ((insK_perm x r).mem_iff.1 hz) with rfl | hz
    ·exact c'
    ·exact h1 z hz,insK_sorted x r h2 fun z hz=>ht z (by simp [hz])⟩
theorem ordK_sorted:∀ l,l.Pairwise (fun x y=>StK x y∨StK y x)→(ordK l).Pairwise StK
 | [],_=>List.Pairwise.nil
 | x :: r,h=>by
  obtain ⟨h1,h2⟩:=List.pairwise_cons.1 h
  exact insK_sorted x _ (ordK_sorted r h2) fun y hy=>h1 y ((ordK_perm r).mem_iff.1 hy)
theorem sorted_uniq:∀ (l1 l2:List Kp),l1.Perm l2→l1.Pairwise StK→l2.Pairwise StK→l1=l2
 | [],l2,p,_,_=>(List.Perm.nil_eq p)
 | x :: t,[],p,_,_=>by have:=p.length_eq; simp at this
 | x :: t,y :: s,p,h1,h2=>by
  obtain ⟨a1,a2⟩:=List.pairwise_cons.1 h1
  obtain ⟨b1,b2⟩:=List.pairwise_cons.1 h2
  have e:x=y:=by
   by_cases e:x=y
   ·exact e
   ·exfalso
    have hx:x ∈ s:=by
     rcases List.mem_cons.1 (p.mem_iff.1 (List.mem_cons_self)) with h | h
     ·exact absurd h e
     ·exact h
    have hy:y ∈ t:=by
     rcases List.mem_cons.1 (p.mem_iff.2 (List.mem_cons_self)) with h | h
     ·exact absurd h.symm e
     ·exact h
    exact StK.not (a1 y hy) (b1 x hx)
  subst e
  rw [sorted_uniq t s (List.Perm.cons_inv p) a2 b2]
/-- The rows of a set that are there, with their keys. -/
def withK (xs:List Ex) (z:List Zp):List Kp:=(z.filter fun p=>decide (0<p.2)).map fun p=>(rowX xs p.1,p)
def inOrd (xs:List Ex) (z:List Zp):List Kp:=ordK (withK xs z)
theorem withK_rise {xs:List Ex} {z:List Zp} (h:Rise z):(withK xs z).Pairwise fun x y=>cmpL x.2.1 y.2.1<0:=by
 unfold withK
 rw [List.pairwise_map]
 exact List.Pairwise.filter _ h
theorem withK_len (xs:List Ex) (z:List Zp):(withK xs z).length≤z.length:=by
 unfold withK
 rw [List.length_map]
 exact List.length_filter_le _ _
theorem inOrd_perm (xs:List Ex) (z:List Zp):(inOrd xs z).Perm (withK xs z):=ordK_perm _
theorem inOrd_sorted {xs:List Ex} {z:List Zp} (h:Rise z):(inOrd xs z).Pairwise StK:=ordK_sorted _ ((withK_rise h).imp fun {x y} hr=>by
 have n:=cmpL_neg x.1 y.1
 by_cases c1:cmpL x.1 y.1<0
 ·exact .inl (.inl c1)
 ·by_cases c2:cmpL x.1 y.1=0
  ·exact .inl (.inr ⟨c2,hr⟩)
  ·exact .inr (.inl (by omega)))
theorem inOrd_len (xs:List Ex) (z:List Zp):(inOrd xs z).length≤z.length:=by rw [(inOrd_perm xs z).length_eq]; exact withK_len xs z

/-! ### In memory -/
structure ElK (W:World) (b o:Nat) (x:Kp):Prop where
 w:W.cell? ⟨b,o+2,none⟩=some (.int .i64 x.2.2)
 r:∃ ra rc,W.cell? ⟨b,o+1,none⟩=some (.slice ra x.2.1.length rc)∧SlAt W ra x.2.1
 k:∃ ka kc,W.cell? ⟨b,o,none⟩=some (.slice ka x.1.length kc)∧SlAt W ka x.1
def KdAt (W:World) (a:Option Addr) (l:List Kp):Prop:=l = []∨∃ b off,a=some ⟨b,off,none⟩∧b<W.heap.size∧∀ i (hi:i<l.length),ElK W b (off+i*3) l[i]
theorem ElK.next {W w1:World} {b o:Nat} {x:Kp} (h:ElK W b o x) (hlt:b<W.heap.size) (hb:Below W.heap.size W w1):ElK w1 b o x:=by
 obtain ⟨h1,⟨ra,rc,h2,h3⟩,ka,kc,h4,h5⟩:=h
 exact ⟨(hb.cell (p:=⟨b,_,none⟩) hlt).trans h1,⟨ra,rc,(hb.cell (p:=⟨b,_,none⟩) hlt).trans h2,h3.next hb⟩,ka,kc,(hb.cell (p:=⟨b,_,none⟩) hlt).trans h4,h5.next hb⟩
theorem KdAt.next {W w1:World} {a:Option Addr} {l:List Kp} (h:KdAt W a l) (hb:Below W.heap.size W w1):KdAt w1 a l:=by
 rcases h with h | ⟨b,off,e,hlt,hr⟩
 ·exact .inl h
 ·exact .inr ⟨b,off,e,Nat.lt_of_lt_of_le hlt hb.size,fun i hi=>(hr i hi).next hlt hb⟩
theorem KdAt.elem {W:World} {a:Option Addr} {l:List Kp} (h:KdAt W a l) {k:Nat} (hk:k<l.length):∃ b off,a=some ⟨b,off,none⟩∧b<W.heap.size∧ElK W b (off+k*3) l[k]:=by
 rcases h with h | ⟨b,off,e,hlt,hr⟩
 ·subst h; simp at hk
 ·exact ⟨b,off,e,hlt,hr k hk⟩

/-- Keys and a row, and where they lie. -/
structure Kr where
 ka:Option Addr
 kc:Nat
 keys:List Vl
 ra:Option Addr
 rc:Nat
 row:List Vl
 w:Int
/-- A slice that lies in another block than g. -/
def Off (g:Nat) (a:Option Addr) (l:List Vl):Prop:=l = []∨∀ b off,a=some ⟨b,off,none⟩→b≠g
abbrev Kg (w:World) (g:Nat):Type:={ x:Kr // (SlAt w x.ka x.keys∧Off g x.ka x.keys)∧SlAt w x.ra x.row∧Off g x.ra x.row }
instance (w:World) (g:Nat):Inhabited (Kg w g):=⟨⟨⟨none,0,[],none,0,[],0⟩,⟨⟨by simp,.inl rfl⟩,.inl rfl⟩,⟨by simp,.inl rfl⟩,.inl rfl⟩⟩
section
variable (w:World) (g:Nat)
def encK (x:Kg w g):List Value:=[.slice x.1.ka x.1.keys.length x.1.kc,.slice x.1.ra x.1.row.length x.1.rc,.int .i64 x.1.w]
def cfK (x y:Kg w g):Int:=cmpL x.1.keys y.1.keys
def preK (x y:Kg w g):Prop:=cmpL x.1.row y.1.row<0
def plK (x:Kg w g):Kp:=(x.1.keys,x.1.row,x.1.w)
theorem ordrK:Ordr (cfK w g) (preK w g) where
 neg x y:=by have:=cmpL_neg x.1.keys y.1.keys; unfold cfK; omega
 trans x y z h1 h2:=cmpL_trans _ _ _ h1 h2
 ptrans x y z h1 h2:=cmpL_lt_le h1 (by unfold preK at h2; omega)
end
theorem sort_block {α:Type} [Inhabited α] (enc:α→List Value) (k:Nat) (w:World) (blk off m:Nat) (dk:Array α) (os:Array Obj) {j:Nat} (hj:j<w.heap.size) (hne:j≠blk):(sortWorldK enc k w blk off m dk os).heap[j]? = w.heap[j]?:=by
 show ((Go.Sort.mapBlock _ _ _).heap ++ os)[j]? = _
 rw [Array.getElem?_append_left (by simp [Go.Sort.mapBlock,Go.Sort.ahead]; omega)]
 simp only [Go.Sort.mapBlock,Go.Sort.ahead,Array.getElem?_modify]
 rw [if_neg (by omega)]
theorem sl_sort {α:Type} [Inhabited α] {enc:α→List Value} {k:Nat} {w w':World} {blk off:Nat} {dk:Array α} {a:Option Addr} {l:List Vl} (h:SlAt w a l) (ho:Off blk a l) (hS:SWK enc k w blk off dk w'):SlAt w' a l:=by
 have hle:=hS.le
 obtain ⟨m,os,rfl⟩:=hS
 refine ⟨h.1,?_⟩
 rcases ho with ho | ho
 ·exact .inl ho
 rcases h.2 with h | ⟨b,o,e,hr,hlt⟩
 ·exact .inl h
 ·refine .inr ⟨b,o,e,fun i hi=>?_,Nat.lt_of_lt_of_le hlt hle⟩
  have k:=sort_block enc k w blk off m dk os hlt (ho b o e)
  obtain ⟨c0,c1,c2⟩:=hr i hi
  exact ⟨(World.cell?_of_block (a:=⟨b,_,none⟩) k).trans c0,(World.cell?_of_block (a:=⟨b,_,none⟩) k).trans c1,(World.cell?_of_block (a:=⟨b,_,none⟩) k).trans c2⟩
theorem below_sort {α:Type} [Inhabited α] {enc:α→List Value} {k:Nat} {w0 w w':World} {blk off:Nat} {dk:Array α} (hb:Below w0.heap.size w0 w) (hk:w0.heap.size≤blk) (hS:SWK enc k w blk off dk w'):Below w0.heap.size w0 w':=by
 obtain ⟨m,os,rfl⟩:=hS
 exact below_sortWorld hb hk

set_option maxRecDepth 100000 in
set_option maxHeartbeats 1000000 in
theorem inOrder1_at (ka ra ka' ra':Option Addr) (kc rc kc' rc':Nat) (x x':Int) (l l' r r':List Vl) (w:World) (h:SlAt w ka l) (h':SlAt w ka' l') :
  Calls Tryz.prog 159 #[.agg #[.slice ka l.length kc,.slice ra r.length rc,.int .i64 x],.agg #[.slice ka' l'.length kc',.slice ra' r'.length rc',.int .i64 x']] w fun e w'=>e = .returned (.int .i64 (cmpL l l'))∧∃ q os',w'=Go.Sort.grow (w.drewN q) os':=by
 have b2:Below w.heap.size w ((w.alloc (.cells #[.slice ka l.length kc,.slice ra r.length rc,.int .i64 x] 157)).alloc (.cells #[.slice ka' l'.length kc',.slice ra' r'.length rc',.int .i64 x'] 157)):=((Below.refl _ _).alloc (Nat.le_refl _) _).alloc (by simp) _
 go_enter Tryz.func159,Tryz.ntmps159
 go_wp2_with fail
 refine (rows_d _ _ _ _ _ _ _ (h.next b2) (h'.next b2)).mono ?_
 rintro e w1 ⟨rfl,hb1,hd1⟩
 go_wp2_with fail
 go_ret
 exact ⟨rfl,grow_of_below (chain b2 hb1) hd1⟩
theorem cmpLaysK (w:World) (blk off size:Nat):CmpLays Tryz.prog 159 #[] (encK w blk) 3 (cfK w blk) blk off size w :=
 fun m os _ _ x y=>inOrder1_at _ _ _ _ _ _ _ _ _ _ _ _ _ _ _ (sl_sort x.2.1.1 x.2.1.2 ⟨m,os,rfl⟩) (sl_sort y.2.1.1 y.2.1.2 ⟨m,os,rfl⟩)
end Go.Proofs.YtohjlfhmnmcndaaGreat
namespace Go.Proofs
open Go.Shelf Go.RowKit Go.Lib
shelf_lay_g SlLaysF0.n20 Slsf 20 at Tryz 217 as Tryz.insK
end Go.Proofs
namespace Go.Proofs.YtohjlfhmnmcndaaGreat
open Go.RowKit Go.Lib Go.Shelf Go.Sort

theorem insAtK (wS:World) (blk off cap:Nat) (d:Array (Kg wS blk)) (R:RowK (encK wS blk) 3 wS blk off d) (hsz:d.size≤1000000):InsAt Tryz.prog 3 (encK wS blk) (cfK wS blk) 159 #[] blk off cap d wS:=fun a b dk w hs S hab hbd=>by
 have eg:∀ args w,(callFunc 159 args).run Tryz.prog w = .ok (.enter 159 args) w:=enters_of Tryz.func159 (by kernel_rfl) rfl
 have hH:=S.holds R.hblk R.hH hs.symm
 have hC:CmpLays Tryz.prog 159 #[] (encK wS blk) 3 (cfK wS blk) blk off dk.size w:=fun m os dj hj x y=>by
  have S2:=S.on R.hblk m dj os hj
  exact inOrder1_at _ _ _ _ _ _ _ _ _ _ _ _ _ _ _ (sl_sort x.2.1.1 x.2.1.2 S2) (sl_sort y.2.1.1 y.2.1.2 S2)
 refine (AnyQ.insertionSortCmpFunc Tryz.insK 3 Tryz.isAgg157 Tryz.sizeOf157 (encK wS blk) R.hk R.h1 (cfK wS blk) 159 #[] blk off cap a b dk w eg hC hH (S.lt R.hblk) hab hbd (by omega)).mono ?_
 rintro e w' ⟨rfl,n,os,rfl⟩
 refine ⟨rfl,S.on R.hblk _ _ _ ?_⟩
 exact (insertionS (pre:=fun _ _=>True) ⟨(ordrK wS blk).neg,(ordrK wS blk).trans,fun _ _ _ _ _=>trivial⟩ a b dk hab hbd (fun _ _ _ _ _=>trivial)).1.1
end Go.Proofs.YtohjlfhmnmcndaaGreat
/- The walk of ops.joined. -/
namespace Go.Proofs.YtohjlfhmnmcndaaGreat
open Go.RowKit Go.Lib Go.Shelf

/-- What is handed on of two sets, with the room and its variable named. -/
def PairsIn (cols:List Int) (x:Ex) (w0 wp:World) (a b:Option Addr) (ca cb:Nat) (l r:List Zp) (v:Value) (R rv:Nat):Prop :=
 ∃ (lo:Nat) (wc:World) (hv:Nat) (u:Value),v = .agg #[.slice a l.length ca,.slice b r.length cb,.func (.func 219) #[] #[.pointer (some ⟨rv,0,none⟩),.pointer (some ⟨hv,0,none⟩)]] ∧
  PNew wp R rv∧hv<R∧wp.cell? ⟨hv,0,none⟩=some u∧Conds cols lo u x wc∧wc.heap.size≤R∧Since lo wc wp∧w0.heap.size≤R∧Below w0.heap.size w0 wp
theorem PairsOk.in_ {cols:List Int} {x:Ex} {w0 wp:World} {a b:Option Addr} {ca cb:Nat} {l r:List Zp} {v:Value} (h:PairsOk cols x w0 wp a b ca cb l r v):∃ R rv,PairsIn cols x w0 wp a b ca cb l r v R rv∧PInv wp R rv wp:=by
 obtain ⟨lo,wc,R,rv,hv,u,e,h1,h2,h3,h4,h5,h6,h7,h8,h9⟩:=h.ex
 exact ⟨R,rv,⟨lo,wc,hv,u,e,h1,h2,h3,h4,h5,h6,h7,h8⟩,h9⟩
/-- All pairs of two sets may be asked. -/
structure Askable (cols:List Int) (l r:List Zp):Prop where
 ll:l.length≤400
 rl:r.length≤400
 row:∀ p ∈ l,∀ q ∈ r,p.1.length+q.1.length≤8
 fit:∀ p ∈ l,∀ q ∈ r,FitP cols (p.1 ++ q.1)
 mul:∀ p ∈ l,∀ q ∈ r,-1000000000000≤p.2*q.2∧p.2*q.2≤1000000000000

set_option maxRecDepth 100000 in
set_option maxHeartbeats 8000000 in
theorem joined_at (cols:List Int) (x:Ex) (w0 wp w:World) (a b:Option Addr) (ca cb:Nat) (l r:List Zp) (v:Value) (R rv:Nat) (hP:PairsIn cols x w0 wp a b ca cb l r v R rv) (hI:PInv wp R rv w) (za:ZsAt w0 a l) (zb:ZsAt w0 b r) (hq:Askable cols l r) :
  Calls Tryz.prog 128 #[v] w fun e w'=>∃ u,e = .returned u∧OwnJ (w.heap.size+1) w' u (joinL x l r)∧PInv wp R rv w'∧w.heap.size≤w'.heap.size:=by
 obtain ⟨lo,wc,hv,u,rfl,hn,hv0,hc,hC,hcR,hcp,h0,h0p⟩:=hP
 obtain ⟨i0,hi,hj0,hj1,hj2⟩:=info_parts Tryz.info42
 have hrv:=hI.sz hn
 have hrr:=hn.r
 have hl:=hq.ll
 have hr:=hq.rl
 have HQ:Hid (Askable cols l r):=hq
 have h1:Below w.heap.size w (w.alloc (.cells #[.slice a l.length ca,.slice b r.length cb,.func (.func 219) #[] #[.pointer (some ⟨rv,0,none⟩),.pointer (some ⟨hv,0,none⟩)]] 162)):=(Below.refl _ _).alloc (Nat.le_refl _) _
 have p1:=heap_new w #[.slice a l.length ca,.slice b r.length cb,.func (.func 219) #[] #[.pointer (some ⟨rv,0,none⟩),.pointer (some ⟨hv,0,none⟩)]] 162
 have I1:PInv wp R rv (w.alloc (.cells #[.slice a l.length ca,.slice b r.length cb,.func (.func 219) #[] #[.pointer (some ⟨rv,0,none⟩),.pointer (some ⟨hv,0,none⟩)]] 162)):=hI.later hn hI.size h1
 have z1:(w.alloc (.cells #[.slice a l.length ca,.slice b r.length cb,.func (.func 219) #[] #[.pointer (some ⟨rv,0,none⟩),.pointer (some ⟨hv,0,none⟩)]] 162)).heap.size=w.heap.size+1:=by simp
 clear hq
 go_enter Tryz.func128,Tryz.ntmps128
 go_wp2_with fail
 go_loopw [3,11] (fun v i wr=>∃ k:Nat,k≤l.length∧i = .int .i64 k∧OwnJ (w.heap.size+1) wr v (joinL x (l.take k) r)∧Hid (PInv wp R rv wr)∧wr.heap[w.heap.size]? = some (.cells #[.slice a l.length ca,.slice b r.length cb,.func (.func 219) #[] #[.pointer (some ⟨rv,0,none⟩),.pointer (some ⟨hv,0,none⟩)]] 162 (0,0))) (fun _ i _=>l.length - (intOf i).toNat)
 case atStart=>exact ⟨0,Nat.zero_le _,rfl,OwnJ.nil _ _,I1,p1⟩
 case round =>
  obtain ⟨k,hk,rfl,HO,HI,hp⟩:=hrel
  clear h1 p1 I1 z1
  by_cases hlt:k<l.length
  ·obtain ⟨wl,hwl⟩:∃ z,z=wr:=⟨_,rfl⟩
   obtain ⟨uo,huo⟩:∃ z,z=u3:=⟨_,rfl⟩
   subst hwl huo
   have hpl:=lt_of_heap hp
   obtain ⟨bl,off,rfl,hbl,d1,ar,cr,d0,sr⟩:=za.elem hlt
   have hB:Below w0.heap.size w0 wl:=h0p.trans ((HI.out.below hn).mono h0)
   have c1:=(hB.cell (p:=⟨bl,_,none⟩) hbl).trans d1
   have c0:=(hB.cell (p:=⟨bl,_,none⟩) hbl).trans d0
   have hbl':bl<wl.heap.size:=Nat.lt_of_lt_of_le hbl hB.size
   have hal:Below wl.heap.size wl (wl.alloc (.cells #[.slice ar l[k].1.length cr,.int .i64 l[k].2] 58)):=(Below.refl _ _).alloc (Nat.le_refl _) _
   have pa:=(hal.block w.heap.size hpl).trans hp
   have q5:=heap_new wl #[.slice ar l[k].1.length cr,.int .i64 l[k].2] 58
   have x1:(wl.alloc (.cells #[.slice ar l[k].1.length cr,.int .i64 l[k].2] 58)).cell? ⟨w.heap.size,1,none⟩=some (.slice b r.length cb):=cell_of (i:=1) pa rfl
   have IA:Hid (PInv wp R rv (wl.alloc (.cells #[.slice ar l[k].1.length cr,.int .i64 l[k].2] 58))):=HI.out.later hn HI.out.size hal
   have OA:=HO.since (lo:=0) (Nat.zero_le _) (Since.of hal)
   have HS:Hid (SlAt w0 ar l[k].1):=sr
   have nb:∀ g,uo.ownBlock=some g→g≠wl.heap.size:=fun g hg=>by have:=(HO.lt hg).2; omega
   have HT:Hid (joinL x (l.take (k+1)) r=joinL x (l.take k) r ++ pairsOf x l[k] r):=joinL_take x hlt
   have HL:Hid ((joinL x (l.take k) r).length≤160000):=by
    show (joinL x (l.take k) r).length≤160000
    have h1:=joinL_len x (l.take k) r
    have h2:(l.take k).length*r.length≤400*400:=Nat.mul_le_mul (by simp; omega) hr
    omega
   clear d0 d1 sr
   go_wp2_with fail
   go_loopw [3,18] (fun v i ws=>∃ m:Nat,m≤r.length∧i = .int .i64 m∧OwnJ (w.heap.size+1) ws v (joinL x (l.take k) r ++ pairsOf x l[k] (r.take m))∧Hid (PInv wp R rv ws)∧ws.heap[w.heap.size]? = some (.cells #[.slice (some ⟨bl,off,none⟩) l.length ca,.slice b r.length cb,.func (.func 219) #[] #[.pointer (some ⟨rv,0,none⟩),.pointer (some ⟨hv,0,none⟩)]] 162 (0,0))∧ws.heap[wl.heap.size]? = some (.cells #[.slice ar l[k].1.length cr,.int .i64 l[k].2] 58 (0,0))∧Hid (∀ g,v.ownBlock=some g→g≠wl.heap.size)) (fun _ i _=>r.length - (intOf i).toNat)
   case atStart=>exact ⟨0,Nat.zero_le _,rfl,by simpa [pairsOf] using OA,IA,pa,q5,nb⟩
   case round =>
    clear IA OA nb x1 pa q5 hal HO HI hp
    obtain ⟨m,hm,rfl,HO,HI,hp,hq5,hnb⟩:=hrel
    by_cases hmt:m<r.length
    ·obtain ⟨bl2,off2,rfl,hbl2,d1,br,cr2,d0,sr⟩:=zb.elem hmt
     have hB:Below w0.heap.size w0 wr:=h0p.trans ((HI.out.below hn).mono h0)
     have e1:=(hB.cell (p:=⟨bl2,_,none⟩) hbl2).trans d1
     have e0:=(hB.cell (p:=⟨bl2,_,none⟩) hbl2).trans d0
     have hlw:wl.heap.size<wr.heap.size:=lt_of_heap hq5
     have hbl2':bl2<wr.heap.size:=Nat.lt_of_lt_of_le hbl2 hB.size
     have hal:Below wr.heap.size wr (wr.alloc (.cells #[.slice br r[m].1.length cr2,.int .i64 r[m].2] 58)):=(Below.refl _ _).alloc (Nat.le_refl _) _
     have z7:(wr.alloc (.cells #[.slice br r[m].1.length cr2,.int .i64 r[m].2] 58)).heap.size=wr.heap.size+1:=by simp
     have pA:=(hal.block w.heap.size (by omega)).trans hp
     have q5A:=(hal.block wl.heap.size hlw).trans hq5
     have q7A:=heap_new wr #[.slice br r[m].1.length cr2,.int .i64 r[m].2] 58
     have x2:(wr.alloc (.cells #[.slice br r[m].1.length cr2,.int .i64 r[m].2] 58)).cell? ⟨w.heap.size,2,none⟩=some (.func (.func 219) #[] #[.pointer (some ⟨rv,0,none⟩),.pointer (some ⟨hv,0,none⟩)]):=cell_of (i:=2) pA rfl
     have y0:(wr.alloc (.cells #[.slice br r[m].1.length cr2,.int .i64 r[m].2] 58)).cell? ⟨wl.heap.size,0,none⟩=some (.slice ar l[k].1.length cr):=cell_of (i:=0) q5A rfl
     have con:=both1_at cols lo x wc wp w0 R rv hv u hn hv0 hc hC hcR hcp h0 h0p ar br cr cr2 l[k].1 r[m].1 _ (HI.out.later hn HI.out.size hal) HS.out sr (HQ.out.row _ (List.getElem_mem hlt) _ (List.getElem_mem hmt)) (HQ.out.fit _ (List.getElem_mem hlt) _ (List.getElem_mem hmt))
     have OA:=HO.since (lo:=0) (Nat.zero_le _) (Since.of hal)
     have HM:=HQ.out.mul _ (List.getElem_mem hlt) _ (List.getElem_mem hmt)
     have HR:Hid (SlAt w0 br r[m].1):=sr
     have HT2:Hid (pairsOf x l[k] (r.take (m+1))=pairsOf x l[k] (r.take m) ++ (if holdsP x (l[k].1 ++ r[m].1)=true then [(l[k].1 ++ r[m].1,l[k].2*r[m].2)] else [])):=pairsOf_take x l[k] hmt
     have hrow:=HQ.out.row _ (List.getElem_mem hlt) _ (List.getElem_mem hmt)
     have hnb7:Hid (∀ g,u3.ownBlock=some g→w.heap.size+1≤g∧g<wr.heap.size):=fun g hg=>HO.lt hg
     have hlen:(joinL x (l.take k) r ++ pairsOf x l[k] (r.take m)).length≤160400:=by
      have h1:=HL.out
      have h2:=pairsOf_len x l[k] (r.take m)
      simp only [List.length_append,List.length_take] at h2 ⊢
      omega
     clear HO d0 d1 sr hp hq5 HI hC c1 c0
     by_cases hh:holdsP x (l[k].1 ++ r[m].1)=true
     ·rw [hh] at con
      have HH:Hid (holdsP x (l[k].1 ++ r[m].1)=true):=hh
      clear hh
      go_wp2_with fail
      refine con.mono ?_
      rintro e w1 ⟨rfl,I1,s1⟩
      have HI1:Hid (PInv wp R rv w1):=I1
      have OB:=OA.since (by omega) s1
      have pB:=(s1.2 w.heap.size (by omega) (by omega)).trans pA
      have q5B:=(s1.2 wl.heap.size (by omega) (by omega)).trans q5A
      have q7B:=(s1.2 wr.heap.size (by omega) (by omega)).trans q7A
      have zB:=s1.1
      clear con I1 s1 OA pA q5A q7A x2 y0 hal
      dsimp only
      go_wp2_with fail
      have hCC:∀ W W':World,(W.heap[wl.heap.size]? = some (.cells #[.slice ar l[k].1.length cr,.int .i64 l[k].2] 58 (0,0))∧W.heap[wr.heap.size]? = some (.cells #[.slice br r[m].1.length cr2,.int .i64 r[m].2] 58 (0,0)))→Below W.heap.size W W'→(W'.heap[wl.heap.size]? = some (.cells #[.slice ar l[k].1.length cr,.int .i64 l[k].2] 58 (0,0))∧W'.heap[wr.heap.size]? = some (.cells #[.slice br r[m].1.length cr2,.int .i64 r[m].2] 58 (0,0))):=fun W W' h hb=>⟨(hb.block _ (lt_of_heap h.1)).trans h.1,(hb.block _ (lt_of_heap h.2)).trans h.2⟩
      have hd:Below w1.heap.size w1 w1.drew:=(Below.refl _ _).drew
      have CW:w1.drew.heap[wl.heap.size]? = some (.cells #[.slice ar l[k].1.length cr,.int .i64 l[k].2] 58 (0,0))∧w1.drew.heap[wr.heap.size]? = some (.cells #[.slice br r[m].1.length cr2,.int .i64 r[m].2] 58 (0,0)):=hCC _ _ ⟨q5B,q7B⟩ hd
      have HW:IntKind.i64.wrap (l[k].2*r[m].2)=l[k].2*r[m].2:=IntWalk.i64_in _ ⟨by omega,by omega⟩
      refine wp_region_cls (fun W=>W.heap[wl.heap.size]? = some (.cells #[.slice ar l[k].1.length cr,.int .i64 l[k].2] 58 (0,0))∧W.heap[wr.heap.size]? = some (.cells #[.slice br r[m].1.length cr2,.int .i64 r[m].2] 58 (0,0))) (by kernel_rfl) ?_
      refine wpY_take hCC (some 29) (i:=0) (v:=u3) rfl rfl (by kernel_rfl) (by kernel_rfl) (by kernel_rfl) (fun _ _ _ h=>h) (Or.inl ⟨rfl,fun n hn=>?_⟩) CW ?_
      ·go_simp
      simp only [Act.put,List.setIfInBounds_toArray,List.set_cons_zero,List.set_cons_succ]
      refine wpY_take hCC (some 30) (i:=1) (v:=.pointer (some ⟨wl.heap.size,0,none⟩)) rfl rfl (by kernel_rfl) (by kernel_rfl) (by kernel_rfl) (fun _ _ _ h=>h) (Or.inl ⟨rfl,fun n hn=>?_⟩) CW ?_
      ·go_simp
      simp only [Act.put,List.setIfInBounds_toArray,List.set_cons_zero,List.set_cons_succ]
      refine wpY_take hCC (some 31) (i:=2) (v:=.slice ar l[k].1.length cr) rfl rfl (by kernel_rfl) (by kernel_rfl) (by kernel_rfl) (fun _ _ _ h=>h) (Or.inl ⟨rfl,fun n hn=>?_⟩) CW ?_
      ·have hcell:n.cell? ⟨wl.heap.size,0,none⟩=some (.slice ar l[k].1.length cr):=cell_of (i:=0) hn.1 rfl
       go_simp
      simp only [Act.put,List.setIfInBounds_toArray,List.set_cons_zero,List.set_cons_succ]
      refine wpY_take hCC (some 32) (i:=3) (v:=.pointer (some ⟨wr.heap.size,0,none⟩)) rfl rfl (by kernel_rfl) (by kernel_rfl) (by kernel_rfl) (fun _ _ _ h=>h) (Or.inl ⟨rfl,fun n hn=>?_⟩) CW ?_
      ·go_simp
      simp only [Act.put,List.setIfInBounds_toArray,List.set_cons_zero,List.set_cons_succ]
      refine wpY_take hCC (some 33) (i:=4) (v:=.slice br r[m].1.length cr2) rfl rfl (by kernel_rfl) (by kernel_rfl) (by kernel_rfl) (fun _ _ _ h=>h) (Or.inl ⟨rfl,fun n hn=>?_⟩) CW ?_
      ·have hcell:n.cell? ⟨wr.heap.size,0,none⟩=some (.slice br r[m].1.length cr2):=cell_of (i:=0) hn.2 rfl
       go_simp
      simp only [Act.put,List.setIfInBounds_toArray,List.set_cons_zero,List.set_cons_succ]
      refine wpY_take hCC (some 36) (i:=7) (v:=.pointer (some ⟨wl.heap.size,1,none⟩)) rfl rfl (by kernel_rfl) (by kernel_rfl) (by kernel_rfl) (fun _ _ _ h=>h) (Or.inl ⟨rfl,fun n hn=>?_⟩) CW ?_
      ·go_simp
      simp only [Act.put,List.setIfInBounds_toArray,List.set_cons_zero,List.set_cons_succ]
      refine wpY_take hCC (some 37) (i:=8) (v:=.int .i64 l[k].2) rfl rfl (by kernel_rfl) (by kernel_rfl) (by kernel_rfl) (fun _ _ _ h=>h) (Or.inl ⟨rfl,fun n hn=>?_⟩) CW ?_
      ·have hcell:n.cell? ⟨wl.heap.size,1,none⟩=some (.int .i64 l[k].2):=cell_of (i:=1) hn.1 rfl
       go_simp
      simp only [Act.put,List.setIfInBounds_toArray,List.set_cons_zero,List.set_cons_succ]
      refine wpY_take hCC (some 38) (i:=9) (v:=.pointer (some ⟨wr.heap.size,1,none⟩)) rfl rfl (by kernel_rfl) (by kernel_rfl) (by kernel_rfl) (fun _ _ _ h=>h) (Or.inl ⟨rfl,fun n hn=>?_⟩) CW ?_
      ·go_simp
      simp only [Act.put,List.setIfInBounds_toArray,List.set_cons_zero,List.set_cons_succ]
      refine wpY_take hCC (some 39) (i:=10) (v:=.int .i64 r[m].2) rfl rfl (by kernel_rfl) (by kernel_rfl) (by kernel_rfl) (fun _ _ _ h=>h) (Or.inl ⟨rfl,fun n hn=>?_⟩) CW ?_
      ·have hcell:n.cell? ⟨wr.heap.size,1,none⟩=some (.int .i64 r[m].2):=cell_of (i:=1) hn.2 rfl
       go_simp
      simp only [Act.put,List.setIfInBounds_toArray,List.set_cons_zero,List.set_cons_succ]
      refine wpY_take hCC (some 40) (i:=11) (v:=.int .i64 (l[k].2*r[m].2)) rfl rfl (by kernel_rfl) (by kernel_rfl) (by kernel_rfl) (fun _ _ _ h=>h) (Or.inl ⟨rfl,fun n hn=>?_⟩) CW ?_
      ·go_simp
      simp only [Act.put,List.setIfInBounds_toArray,List.set_cons_zero,List.set_cons_succ]
      refine wpY_step (rs:=[5]) (by kernel_rfl) (by simp) ?_
      intro w3 hb3 jj hj
      obtain rfl:jj=5:=by simpa using hj
      clear hj
      refine wpOp_step rfl (fun K hK=>?_)
      go_simp
      have D3:=chain hd hb3
      have CW3:=hCC _ _ CW hb3
      have B3:Below w0.heap.size w0 w3:=(h0p.trans ((HI1.out.below hn).mono h0)).trans (D3.mono (by have:=HI1.out.size; have:=h0p.size; omega))
      have hal3:Below w3.heap.size w3 (w3.alloc (.cells #[.slice ar l[k].1.length cr,.slice br r[m].1.length cr2] 56)):=(Below.refl _ _).alloc (Nat.le_refl _) _
      have PC:=PairC.new cr cr2 (raw_vals (HS.out.next B3)) (raw_vals (HR.out.next B3)) 56
      have D4:=chain D3 hal3
      have CW4:=hCC _ _ CW3 hal3
      refine hK _ _ ⟨CW4,?_⟩
      clear hK K hal3 hb3 CW CW3
      generalize w3.alloc (.cells #[.slice ar l[k].1.length cr,.slice br r[m].1.length cr2] 56)=w4 at *
      refine wpY_step (rs:=[6]) (by kernel_rfl) (by simp) ?_
      intro w5 hb5 jj hj
      obtain rfl:jj=6:=by simpa using hj
      clear hj
      refine wpOp_step rfl (fun K hK=>?_)
      go_simp
      have D5:=chain D4 hb5
      have CW5:=hCC _ _ CW4 hb5
      refine (concatV_at _ _ _ _ _ w5 (PC.next hb5) (by omega)).mono ?_
      rintro e w6 ⟨v6,rfl,O6,hb6⟩
      rw [← flatV_append] at O6
      have ge6:∀ b o n c,v6 = .slice (some ⟨b,o,none⟩) n c→w.heap.size+1≤b:=fun b o n c e=>by
       subst e
       have:=(O6.lt b rfl).1
       have:=D5.size
       omega
      obtain ⟨a6,c6,rfl,S6,T6,_⟩:=own_vals O6 (by simp)
      have D6:=chain D5 hb6
      have CW6:=hCC _ _ CW5 hb6
      refine hK _ _ ⟨CW6,?_⟩
      clear hK K PC O6 CW4 CW5
      refine wpY_take hCC (some 41) (i:=12) (v:=.agg #[.slice a6 (l[k].1 ++ r[m].1).length c6,.int .i64 (l[k].2*r[m].2)]) rfl rfl (by kernel_rfl) (by kernel_rfl) (by kernel_rfl) (fun _ _ _ h=>h) (Or.inl ⟨rfl,fun n hn=>?_⟩) CW6 ?_
      ·go_simp
      simp only [Act.put,List.setIfInBounds_toArray,List.set_cons_zero,List.set_cons_succ]
      refine wpY_step (rs:=[13]) (by kernel_rfl) (by simp) ?_
      intro w7 hb7 jj hj
      obtain rfl:jj=13:=by simpa using hj
      clear hj
      refine wpOp_step rfl (fun K hK=>?_)
      go_simp
      have D7:=chain D6 hb7
      have CW7:=hCC _ _ CW6 hb7
      have hal7:Below w7.heap.size w7 (w7.alloc (.cells #[.slice a6 (l[k].1.length+r[m].1.length) c6,.int .i64 (l[k].2*r[m].2)] 58)):=(Below.refl _ _).alloc (Nat.le_refl _) _
      have q8:=heap_new w7 #[.slice a6 (l[k].1.length+r[m].1.length) c6,.int .i64 (l[k].2*r[m].2)] 58
      have D8:=chain D7 hal7
      have CW8:=hCC _ _ CW7 hal7
      have S8:=(S6.next hb7).next hal7
      have T8:=(T6.next hb7).next hal7
      refine hK _ _ ⟨CW8,?_⟩
      clear hK K CW6 CW7 S6 T6
      generalize hw8:w7.alloc (.cells #[.slice a6 (l[k].1.length+r[m].1.length) c6,.int .i64 (l[k].2*r[m].2)] 58)=w8 at *
      clear hw8
      refine wpY_step (rs:=[14]) (by kernel_rfl) (by simp) ?_
      intro w9 hb9 jj hj
      obtain rfl:jj=14:=by simpa using hj
      clear hj
      have D9:=chain D8 hb9
      have CW9:=hCC _ _ CW8 hb9
      have S9:=S8.next hb9
      have T9:=T8.next hb9
      have q9:=(hb9.block _ (lt_of_heap q8)).trans q8
      obtain ⟨xs,o9,en9,bb9⟩:=OB.since (lo:=0) (Nat.zero_le _) (Since.of D9)
      have zz:=D9.size
      refine wpOp_step rfl (fun K hK=>?_)
      refine Eq.mpr (if_pos (by kernel_rfl)) ?_
      refine wp_append_at (some 43) rfl (Operand.tmp 29) (Operand.tmp 42) 34 rfl (w.heap.size+1) 58 i0 _ 2 32 Tryz.underlying34 hi hj0 hj1 hj2 rfl (by decide) u3 _ xs rfl o9 ⟨w7.heap.size,0,none⟩ 1 1 [.slice a6 (l[k].1.length+r[m].1.length) c6,.int .i64 (l[k].2*r[m].2)] rfl rfl ?Ac1 ?Ac2 ?Ac3 ?Ac4 ?Ac5 ?_
      case Ac1 =>
       intro j u hj
       match j,hj with
       | 0,hj=>simp at hj; subst hj; exact cell_of (i:=0) q9 rfl
       | 1,hj=>simp at hj; subst hj; exact cell_of (i:=1) q9 rfl
      case Ac2=>intro u hu; simp at hu; rcases hu with rfl | rfl <;> rfl
      case Ac3=>unfold maxLen; omega
      case Ac4=>omega
      case Ac5=>omega
      intro v' w10 o10 g10 at10
      have CW10:w10.heap[wl.heap.size]? = some (.cells #[.slice ar l[k].1.length cr,.int .i64 l[k].2] 58 (0,0))∧w10.heap[wr.heap.size]? = some (.cells #[.slice br r[m].1.length cr2,.int .i64 r[m].2] 58 (0,0)):=⟨(g10.block _ (lt_of_heap CW9.1) (fun e=>hnb.out _ e.symm rfl)).trans CW9.1,(g10.block _ (lt_of_heap CW9.2) (fun e=>by have:=(hnb7.out _ e.symm).2; omega)).trans CW9.2⟩
      have p10:=(g10.block w.heap.size (by omega) (fun e=>by have:=(hnb7.out _ e.symm).1; omega)).trans ((D9.block w.heap.size (by omega)).trans pB)
      have OJ10:OwnJ (w.heap.size+1) w10 v' ((joinL x (l.take k) r ++ pairsOf x l[k] (r.take m)) ++ [(l[k].1 ++ r[m].1,l[k].2*r[m].2)]):=OwnJ.push o9 en9 bb9 S9 T9 (fun b o e=>ge6 b o _ _ (by rw [e])) (by simpa using o10) g10
      have b10:Below wp.heap.size w9 w10:=(Below.refl _ _).grown g10 (by have:=HI1.out.size; omega) (fun q hq=>by have:=(hnb7.out q hq).1; have:=hI.size; omega)
      have I10:PInv wp R rv w10:=(HI1.out.later hn HI1.out.size D9).later hn (Nat.le_refl _) b10
      have nb10:∀ g,v'.ownBlock=some g→g≠wl.heap.size:=fun g hg=>by
       rcases at10 with e | e
       ·exact hnb.out g (by rw [← e]; exact hg)
       ·rw [hg] at e; have:=Option.some.inj e; omega
      refine hK _ _ ⟨CW10,?_⟩
      clear hK K CW9 CW8 S9 T9 S8 T8 o9 en9 bb9 o10 at10 D9 D8 D7 D6 D5 D4 D3 q8 q9 OB
      simp only [Act.put,List.setIfInBounds_toArray,List.set_cons_zero,List.set_cons_succ]
      refine wpY_take hCC (some 3) (i:=15) (v:=v') rfl rfl (by kernel_rfl) (by kernel_rfl) (by kernel_rfl) (fun _ _ _ h=>h) (Or.inl ⟨rfl,fun n hn=>?_⟩) CW10 ?_
      ·go_simp
      simp only [Act.put,List.setIfInBounds_toArray,List.set_cons_zero,List.set_cons_succ]
      refine wpY_done (by kernel_rfl) ?_
      intro w11 hb11
      have OJ11:=OJ10.since (lo:=0) (Nat.zero_le _) (Since.of hb11)
      have I11:Hid (PInv wp R rv w11):=I10.later hn I10.size hb11
      have CW11:=hCC _ _ CW10 hb11
      have p11:=(hb11.block _ (lt_of_heap p10)).trans p10
      have nb11:Hid (∀ g,v'.ownBlock=some g→g≠wl.heap.size):=nb10
      clear I10 OJ10 CW10 p10 hb11 g10 b10 nb10
      go_wp2_with fail
      go_roundw
      case rel=>exact ⟨m+1,by omega,by go_num,by rw [HT2.out,HH.out,if_pos rfl,← List.append_assoc]; exact OJ11,I11,p11,CW11.1,nb11⟩
      case measure=>simp [intOf]; omega
     ·have hh:holdsP x (l[k].1 ++ r[m].1)=false:=by simpa using hh
      rw [hh] at con
      have HH:Hid (holdsP x (l[k].1 ++ r[m].1)=false):=hh
      clear hh
      go_wp2_with fail
      refine con.mono ?_
      rintro e w1 ⟨rfl,I1,s1⟩
      have HI1:Hid (PInv wp R rv w1):=I1
      have OB:=OA.since (by omega) s1
      have pB:=(s1.2 w.heap.size (by omega) (by omega)).trans pA
      have q5B:=(s1.2 wl.heap.size (by omega) (by omega)).trans q5A
      clear con I1 s1 OA pA q5A q7A x2 y0 hal
      dsimp only
      go_wp2_with fail
      go_roundw
      case rel=>exact ⟨m+1,by omega,by go_num,by rw [HT2.out,HH.out,if_neg (by decide),List.append_nil]; exact OB,HI1,pB,q5B,hnb⟩
      case measure=>simp [intOf]; omega
    ·have e:m=r.length:=by omega
     subst e
     rw [List.take_length] at HO
     have HO':OwnJ (w.heap.size+1) wr u3 (joinL x (l.take (k+1)) r):=by rw [HT.out]; exact HO
     go_wp2_with fail
     go_roundw
     case rel=>exact ⟨k+1,by omega,by go_num,HO',HI,hp⟩
     case measure=>simp [intOf]; omega
  ·have e:k=l.length:=by omega
   subst e
   rw [List.take_length] at HO
   obtain ⟨av,cv,rfl⟩:=HO.slice
   go_wp2_with fail
   go_ret
   exact ⟨_,rfl,HO,HI.out,Nat.le_of_lt (lt_of_heap hp)⟩
end Go.Proofs.YtohjlfhmnmcndaaGreat
