/- Together: DT, DU, JO5, JO6, JO1, JO2, JO3, JO4, JO7. -/
import Derived.Lib.ItoaLen
import Derived.Laws.IdiomStrings
import Derived.Lib.BufferRead
import Derived.Laws.BitsAllLaws
import Derived.Test.YtoknmnngaackkaaGreatDoorJJ11
import Derived.Test.YtoknmnngaackkaaGreatDoorJJ3
import Derived.Test.YtoknmnngaackkaaGreatDoorJJ8
/- How long what is printed can be: plainly. -/
namespace Go.Proofs.YtoknmnngaackkaaGreatDoor
open Go.RowKit Go.Lib Go.Shelf
set_option maxRecDepth 100000
set_option maxHeartbeats 8000000

/-- Words with a blank each. -/
def szW:List ByteArray→Nat
 | []=>0
 | s :: r=>s.size+1+szW r
theorem szW_app:∀ (a b:List ByteArray),szW (a ++ b)=szW a+szW b
 | [],b=>by simp [szW]
 | s :: r,b=>by rw [List.cons_append,szW,szW,szW_app r b]; omega
theorem sayL_sz:∀ (ws:List ByteArray) (bs:List UInt8),(sayL bs ws).length≤bs.length+szW ws
 | [],bs=>by simp [sayL,szW]
 | s :: r,bs=>by
  have h:=sayL_sz r (say1 bs s)
  have h2:(say1 bs s).length≤bs.length+(s.size+1):=by
   unfold say1;rw [List.length_append,List.length_append,show s.data.toList.length=s.size from Array.length_toList]
   split <;> simp <;> omega
  rw [szW];show (sayL (say1 bs s) r).length≤_;omega
theorem name_sz {s:ByteArray} (h:nameC s=0):s.size≤12:=by
 unfold nameC at h;by_cases e:namedP s=true
 ·unfold namedP at e;simp only [Bool.and_eq_true,decide_eq_true_eq] at e;omega
 ·rw [if_neg e] at h; exact absurd h (by decide)
theorem maybe_sz {s:ByteArray} (h:maybeC s=0):s.size≤12:=by
 unfold maybeC at h;by_cases e:s.toList.isEmpty=true
 ·by_cases z:s.size=0
  ·omega
  ·exact absurd e (by rw [isE_f z]; decide)
 ·rw [if_neg e] at h; exact name_sz h
theorem num_sz {n:Int} (h:-1000000000000000≤n) (h2:n≤1000000000000000):szW (numW n)≤40:=by
 unfold numW
 split
 ·have:=Lib.itoa_length_le (-n) (by omega) (by omega);show szW [⟨#[45]⟩,itoB (-n)]≤_;simp only [szW];have e:(itoB (-n)).size=(Lib.itoa (-n)).length:=by show (Lib.itoa (-n)).toArray.size=_; simp
  have e2:(⟨#[45]⟩:ByteArray).size=1:=rfl;omega
 ·have:=Lib.itoa_length_le n (by omega) (by omega);simp only [szW];have e:(itoB n).size=(Lib.itoa n).length:=by show (Lib.itoa n).toArray.size=_; simp
  omega
theorem val_sz {v:Vl} (h:valC v=0):szW (valW v)≤200:=by
 have ok:=valOk_of h;unfold valW
 split
 ·exact (by decide:szW [⟨#[110,117,108,108]⟩]≤200)
 ·split
  ·split
   ·exact (by decide:szW [⟨#[116,114,117,101]⟩]≤200)
   ·exact (by decide:szW [⟨#[102,97,108,115,101]⟩]≤200)
  ·split
   ·rename_i e
    have:=num_sz (ok.2.2.1 e).1 (ok.2.2.1 e).2;omega
   ·split
    ·rename_i e
     have h4:=ok.2.2.2 e;have h5:=rep_len v.2.2;simp only [szW,quoB,ByteArray.size_append];have e2:(⟨#[39]⟩:ByteArray).size=1:=rfl;omega
    ·exact Nat.zero_le _
theorem word_sz (t:Int) (m:Nat):∀ (l:List (Int × ByteArray)),(∀ a ∈ l,a.2.size≤m)→(wordL t l).size≤m
 | [],_=>Nat.zero_le _
 | a :: r,h=>by
  rw [wordL]
  split
  ·exact h a (List.mem_cons_self ..)
  ·exact word_sz t m r fun b hb=>h b (List.mem_cons_of_mem _ hb)
theorem inf_sz (k:Int) (m:Nat):∀ (l:List (Int × ByteArray × Int)),(∀ a ∈ l,a.2.1.size≤m)→(infF k l).2.1.size≤m
 | [],_=>Nat.zero_le _
 | a :: r,h=>by
  rw [infF]
  split
  ·exact h a (List.mem_cons_self ..)
  ·exact inf_sz k m r fun b hb=>h b (List.mem_cons_of_mem _ hb)
theorem ex_sz (l:Int) (p:Int × List ByteArray):szW (exW l p)≤szW p.2+4:=by
 unfold exW
 split
 ·omega
 ·rw [szW_app,szW_app];have e:szW [⟨#[40]⟩]=2:=rfl;have e2:szW [⟨#[41]⟩]=2:=rfl;omega
def szP:List (Int × List ByteArray)→Nat
 | []=>0
 | p :: r=>szW p.2+szP r
theorem bareK_sz {k:Int} {v:Vl} {t n:ByteArray} {ps:List (Int × List ByteArray)} (hv:k=1→szW (valW v)≤200) (hc:k=2→t.size≤12∧n.size≤12) (h1:1≤k) (h23:k≤23) (hl:ps.length=kidsC k):szW (bareK k v t n ps)≤200+szP ps:=by
 unfold bareK;by_cases e1:k=1
 ·rw [if_pos e1]; have:=hv e1; omega
 rw [if_neg e1];by_cases e2:k=2
 ·rw [if_pos e2];have:=hc e2;unfold colW
  split
  ·simp only [szW]; omega
  ·rw [szW_app];have e:(⟨#[46]⟩:ByteArray).size=1:=rfl;simp only [szW]; omega
 rw [if_neg e2];have L0:szW [⟨#[110,111,116]⟩]=4:=rfl;have L1:szW [⟨#[105,115]⟩,⟨#[110,117,108,108]⟩]=8:=rfl;have L2:szW [⟨#[99,97,115,101]⟩]=5:=rfl;have L3:szW [⟨#[99,111,97,108,101,115,99,101]⟩]=9:=rfl;have L4:szW [⟨#[99,111,117,110,116]⟩,⟨#[40]⟩,⟨#[42]⟩,⟨#[41]⟩]=12:=rfl;by_cases e3:k=3
 ·rw [if_pos e3];rw [e3] at hl
  match ps,hl with
  | [p],_=>have:=ex_sz 3 p; rw [szW_app,L0]; show 4+szW (exW 3 p)≤200+(szW p.2+0); omega
 rw [if_neg e3];by_cases e16:k=16
 ·rw [if_pos e16];rw [e16] at hl
  match ps,hl with
  | [p],_=>have:=ex_sz 5 p; rw [szW_app,L1]; show szW (exW 5 p)+8≤200+(szW p.2+0); omega
 rw [if_neg e16];by_cases e17:k=17
 ·rw [if_pos e17];rw [e17] at hl
  match ps,hl with
  | [p,q,r],_ =>
   have a:=ex_sz 1 p;have b:=ex_sz 1 q;have c:=ex_sz 1 r;rw [szW_app,L2];show 5+szW ((([] ++ [⟨#[119,104,101,110]⟩] ++ exW 1 p) ++ [⟨#[116,104,101,110]⟩] ++ exW 1 q) ++ [⟨#[101,108,115,101]⟩] ++ exW 1 r ++ [⟨#[101,110,100]⟩])≤200+(szW p.2+(szW q.2+(szW r.2+0)));simp only [szW_app];have f1:szW [⟨#[119,104,101,110]⟩]=5:=rfl;have f2:szW [⟨#[116,104,101,110]⟩]=5:=rfl;have f3:szW [⟨#[101,108,115,101]⟩]=5:=rfl;have f4:szW [⟨#[101,110,100]⟩]=4:=rfl;have f5:szW []=0:=rfl;omega
 rw [if_neg e17];by_cases e18:k=18
 ·rw [if_pos e18];rw [e18] at hl
  match ps,hl with
  | [p,q],_ =>
   have a:=ex_sz 1 p;have b:=ex_sz 1 q;rw [szW_app,L3];show 9+szW (([] ++ [⟨#[40]⟩] ++ exW 1 p) ++ [⟨#[44]⟩] ++ exW 1 q ++ [⟨#[41]⟩])≤200+(szW p.2+(szW q.2+0));simp only [szW_app];have f1:szW [⟨#[40]⟩]=2:=rfl;have f2:szW [⟨#[44]⟩]=2:=rfl;have f3:szW [⟨#[41]⟩]=2:=rfl;have f5:szW []=0:=rfl;omega
 rw [if_neg e18];by_cases e19:k=19
 ·rw [if_pos e19,L4]; omega
 rw [if_neg e19];by_cases e20:20≤k∧k≤23
 ·rw [if_pos e20];have hk1:kidsC k=1:=by unfold kidsC; rw [if_neg (by omega),if_pos (by omega)]
  rw [hk1] at hl
  match ps,hl with
  | [p],_ =>
   have a:=ex_sz 1 p;have hw:=word_sz k 8 ag2L (by decide);rw [szW_app];show szW [wordL k ag2L]+szW (([] ++ [⟨#[40]⟩] ++ exW 1 p) ++ [⟨#[41]⟩])≤200+(szW p.2+0);simp only [szW_app];have f1:szW [⟨#[40]⟩]=2:=rfl;have f3:szW [⟨#[41]⟩]=2:=rfl;have f5:szW []=0:=rfl;have f6:szW [wordL k ag2L]=(wordL k ag2L).size+1:=rfl;omega
 rw [if_neg e20];have hk2:kidsC k=2:=by unfold kidsC; rw [if_neg (by omega),if_neg (by omega),if_neg (by omega)]
 rw [hk2] at hl
 match ps,hl with
 | [p,q],_ =>
  unfold infW;rw [szW_app,szW_app];have a:=ex_sz (lefL (infO k).2.2) p;have b:=ex_sz ((infO k).2.2+1) q;have hw:(infO k).2.1.size≤8:=inf_sz k 8 infL (by decide);have f6:szW [(infO k).2.1]=(infO k).2.1.size+1:=rfl;show szW (exW _ p)+szW [(infO k).2.1]+szW (exW _ q)≤200+(szW p.2+(szW q.2+0));omega
mutual
theorem bare_sz:∀ (x:SX),RtX x→szW (bareW x)≤200*nX x
 | .mk k v t n ks,h=>by
  rw [bareW,nX]
  cases h with
  | mk h1 h2 h3 h4 h5 =>
   have hp:=barePs_sz ks h5
   unfold kindC at h4
   have:=bareK_sz (k:=k) (v:=v) (t:=t) (n:=n) (ps:=barePs ks) (fun e=>by rw [if_pos (show (SX.mk k v t n ks).k=1 from e)] at h4; exact val_sz h4) (fun e=>by
    rw [if_neg (show ¬ (SX.mk k v t n ks).k=1 by show ¬ k=1; omega),if_pos (show (SX.mk k v t n ks).k=2 from e)] at h4
    have:=sq0 h4
    exact ⟨maybe_sz this.2,name_sz this.1⟩) h1 h2 (by rw [barePs_len]; exact h3)
   rw [Nat.mul_add]
   omega
theorem barePs_sz:∀ (l:List SX),(∀ y ∈ l,RtX y)→szP (barePs l)≤200*nXs l
 | [],_=>by rw [barePs]; exact Nat.zero_le _
 | x :: r,h=>by
  rw [barePs,szP,nXs,Nat.mul_add]
  have a:=bare_sz x (h x (List.mem_cons_self ..))
  have b:=barePs_sz r fun y hy=>h y (List.mem_cons_of_mem _ hy)
  exact Nat.add_le_add a b
end
theorem expr_sz {x:SX} (h:RtX x∧nX x≤200):szW (exprW x)≤40004:=by
 have a:=bare_sz x h.1;have b:=ex_sz 1 (levC x.k,bareW x);have c:szW (exprW x)≤szW (bareW x)+4:=b;have:=h.2;omega
theorem lis_sz {α:Type} (ew:α→List ByteArray) (l:List α) (m:Nat) (h:∀ x ∈ l,szW (ew x)≤m):szW (lisW ew l)≤l.length*(m+2):=by
 have:∀ i,szW (lisA ew l i)≤i*(m+2):=by
  intro i
  induction i with
  | zero=>exact Nat.zero_le _
  | succ i ih =>
   rw [lisA,szW_app,szW_app,Nat.add_mul,Nat.one_mul];have a:szW (if i=0 then [] else [⟨#[44]⟩])≤2:=by split <;> decide
   refine Nat.le_trans (Nat.add_le_add (Nat.add_le_add ih a) (?_:_≤m)) (by omega);cases hi:l[i]? with
   | none=>exact Nat.zero_le _
   | some x=>exact h x (List.mem_of_getElem? hi)
 exact this l.length
theorem by_sz {s:ByteArray} (h:maybeC s=0):szW (byW s)≤16:=by
 unfold byW;have:=maybe_sz h
 split
 ·exact Nat.zero_le _
 ·simp only [szW];have e:(⟨#[97,115]⟩:ByteArray).size=2:=rfl;omega
theorem itm_sz {x:Itm} (h:(RtX x.1∧nX x.1≤200)∧maybeC x.2=0):szW (itmW x)≤40020:=by
 unfold itmW;rw [szW_app];have a:=expr_sz h.1;have b:=by_sz h.2;omega
theorem src_sz {first:Bool} {x:Src} (h:RtSrc first x):szW (srcW first x)≤40100:=by
 unfold srcW;have a:=by_sz h.alias;have b:=name_sz h.name;have c:szW [x.name]=x.name.size+1:=rfl;have z:szW []=0:=rfl;cases first
 ·have e:=expr_sz (h.on rfl);rw [if_neg (by decide)];simp only [szW_app];have f1:szW [⟨#[106,111,105,110]⟩]=5:=rfl;have f2:szW [⟨#[111,110]⟩]=3:=rfl;have f3:szW (if x.kind=2 then [] else [wordL x.kind joL])≤9:=by
   split
   ·exact Nat.zero_le _
   ·have:=word_sz x.kind 8 joL (by decide);simp only [szW]; omega
  omega
 ·rw [if_pos rfl];simp only [szW_app];omega
theorem srcA_sz {l:List Src} (h:∀ (i:Nat) (h:i<l.length),RtSrc (i == 0) l[i]):∀ i,szW (srcA l i)≤i*40100
 | 0=>Nat.zero_le _
 | i+1=>by
  rw [srcA,szW_app,Nat.add_mul,Nat.one_mul]
  refine Nat.add_le_add (srcA_sz h i) ?_
  cases hi:l[i]? with
  | none=>exact Nat.zero_le _
  | some x =>
   obtain ⟨hl,rfl⟩:=List.getElem?_eq_some_iff.1 hi
   exact src_sz (h i hl)
theorem beh_sz {wd:ByteArray} {has:Bool} {x:SX} (hw:wd.size≤10) (h:has=true→RtX x∧nX x≤200):szW (behX wd has x)≤40020:=by
 unfold behX;cases has
 ·exact Nat.zero_le _
 ·rw [if_pos rfl,szW_app];have:=expr_sz (h rfl);have e:szW [wd]=wd.size+1:=rfl;omega
theorem sel_sz {x:Sel} (h:RtSel x):szW (selW x)≤1000000:=by
 unfold selW;simp only [szW_app];have a1:szW [⟨#[115,101,108,101,99,116]⟩]=7:=rfl;have a2:szW (ifW x.distinct ⟨#[100,105,115,116,105,110,99,116]⟩)≤9:=by unfold ifW; split <;> decide
 have a3:szW (itsW x)≤400000:=by
  unfold itsW;cases hs:x.star
  ·rw [if_neg (by decide)];have h1:=h.items hs;have:=lis_sz itmW x.items 40020 fun y hy=>itm_sz (h1.2 y hy)
   have h2:x.items.length*(40020+2)≤8*(40020+2):=Nat.mul_le_mul_right _ h1.1;omega
  ·exact (by decide:szW [⟨#[42]⟩]≤400000)
 have a4:szW [⟨#[102,114,111,109]⟩]=5:=rfl;have a5:=srcA_sz h.sources.2 x.sources.length;have a6:=beh_sz (wd:=⟨#[119,104,101,114,101]⟩) (by decide) h.wher;have a7:=beh_sz (wd:=⟨#[104,97,118,105,110,103]⟩) (by decide) h.having;have a8:szW (grpW x.group)≤330000:=by
  unfold grpW
  split
  ·exact Nat.zero_le _
  ·rw [szW_app];have e:szW [⟨#[103,114,111,117,112]⟩,⟨#[98,121]⟩]=9:=rfl;have:=lis_sz exprW x.group 40004 fun y hy=>expr_sz (h.group.2 y hy)
   have h2:x.group.length*(40004+2)≤8*(40004+2):=Nat.mul_le_mul_right _ h.group.1;omega
 have:=h.sources.1;omega
theorem bet_sz (op:Int):szW (betW op)≤20:=by
 unfold betW;rw [szW_app];have a:szW (if op=1∨op=2 then [⟨#[117,110,105,111,110]⟩] else [⟨#[101,120,99,101,112,116]⟩])≤8:=by split <;> decide
 have b:szW (if op=1∨op=3 then [⟨#[97,108,108]⟩] else [])≤8:=by split <;> decide
 omega
theorem prt_sz {l:List Sel} {ops:List Int} (h:∀ y ∈ l,RtSel y):∀ i,szW (prtA l ops i)≤i*1000020
 | 0=>Nat.zero_le _
 | i+1=>by
  rw [prtA,szW_app,szW_app,Nat.add_mul,Nat.one_mul]
  have a:szW (if i=0 then [] else betW (ops.getD (i - 1) 0))≤20:=by
   split
   ·exact Nat.zero_le _
   ·exact bet_sz _
  refine Nat.le_trans (Nat.add_le_add (Nat.add_le_add (prt_sz h i) a) (?_:_≤1000000)) (by omega);cases hi:l[i]? with
  | none=>exact Nat.zero_le _
  | some x=>exact sel_sz (h x (List.mem_of_getElem? hi))
theorem qry_sz {q:Qry} (h:RtQ q):szW (qryW q)≤10000000:=by
 unfold qryW;rw [szW_app];have a:=prt_sz (ops:=q.ops) h.parts.2 q.parts.length;have b:szW (ordW q)≤400000:=by
  unfold ordW;by_cases hl:0≤q.limit
  ·rw [if_pos hl];simp only [szW_app];have h1:=h.order hl;have:=lis_sz exprW q.order 40004 fun y hy=>expr_sz (h1.2 y hy)
   have h2:q.order.length*(40004+2)≤8*(40004+2):=Nat.mul_le_mul_right _ h1.1;have h3:=h.limit;have h4:=num_sz (n:=q.limit) (by omega) (by omega);have e1:szW [⟨#[111,114,100,101,114]⟩,⟨#[98,121]⟩]=9:=rfl;have e2:szW [⟨#[108,105,109,105,116]⟩]=6:=rfl;omega
  ·rw [if_neg hl]; exact Nat.zero_le _
 have:=h.parts.1;omega
theorem row_sz {l:List Vl} (h:l.length≤8∧∀ y ∈ l,valC y=0):szW (rowW l)≤2000:=by
 unfold rowW;rw [szW_app,szW_app];have e1:szW [⟨#[40]⟩]=2:=rfl;have e2:szW [⟨#[41]⟩]=2:=rfl;have:=lis_sz valW l 200 fun y hy=>val_sz (h.2 y hy)
 have h2:l.length*(200+2)≤8*(200+2):=Nat.mul_le_mul_right _ h.1;omega
theorem colm_sz {x:Col} (h:nameC x.1=0):szW (colmW x)≤30:=by
 unfold colmW;have a:=name_sz h;have b:=word_sz x.2 8 tpL (by decide);simp only [szW];omega
theorem stm_sz {x:Stm} (h:RtSt x):szW (stmW x)≤20000000:=by
 have hk:=h.kind;have hc:x.kind=1∨x.kind=2∨x.kind=3∨x.kind=4∨x.kind=5:=by omega
 rcases hc with e | e | e | e | e
 ·have es:stmW x = [⟨#[99,114,101,97,116,101]⟩,⟨#[116,97,98,108,101]⟩,x.name,⟨#[40]⟩] ++ lisW colmW x.cols ++ [⟨#[41]⟩] ++ [⟨#[59]⟩]:=by unfold stmW; rw [if_pos e]
  rw [es];simp only [szW_app];have hn:=name_sz (h.name (by omega));have w0:szW [⟨#[99,114,101,97,116,101]⟩,⟨#[116,97,98,108,101]⟩,x.name,⟨#[40]⟩]≤x.name.size+30:=by
   simp only [szW];have u0:(⟨#[99,114,101,97,116,101]⟩:ByteArray).size=6:=rfl;have u1:(⟨#[116,97,98,108,101]⟩:ByteArray).size=5:=rfl;have u3:(⟨#[40]⟩:ByteArray).size=1:=rfl;omega
  have w9:szW [⟨#[59]⟩]=2:=rfl;have w8:szW [⟨#[41]⟩]=2:=rfl;have h1:=h.cols e;have:=lis_sz colmW x.cols 30 fun y hy=>colm_sz (h1.2 y hy)
  have h2:x.cols.length*(30+2)≤8*(30+2):=Nat.mul_le_mul_right _ h1.1;omega
 ·have es:stmW x = [⟨#[99,114,101,97,116,101]⟩,⟨#[118,105,101,119]⟩,x.name,⟨#[97,115]⟩] ++ qryW x.query ++ [⟨#[59]⟩]:=by unfold stmW; rw [if_neg (by omega),if_pos e]
  rw [es];simp only [szW_app];have hn:=name_sz (h.name (by omega));have w0:szW [⟨#[99,114,101,97,116,101]⟩,⟨#[118,105,101,119]⟩,x.name,⟨#[97,115]⟩]≤x.name.size+30:=by
   simp only [szW];have u0:(⟨#[99,114,101,97,116,101]⟩:ByteArray).size=6:=rfl;have u1:(⟨#[118,105,101,119]⟩:ByteArray).size=4:=rfl;have u3:(⟨#[97,115]⟩:ByteArray).size=2:=rfl;omega
  have w9:szW [⟨#[59]⟩]=2:=rfl;have:=qry_sz (h.query (.inl e));omega
 ·have es:stmW x = [⟨#[105,110,115,101,114,116]⟩,⟨#[105,110,116,111]⟩,x.name,⟨#[118,97,108,117,101,115]⟩] ++ lisW rowW x.rows ++ [⟨#[59]⟩]:=by unfold stmW; rw [if_neg (by omega),if_neg (by omega),if_pos e]
  rw [es];simp only [szW_app];have hn:=name_sz (h.name (by omega));have w0:szW [⟨#[105,110,115,101,114,116]⟩,⟨#[105,110,116,111]⟩,x.name,⟨#[118,97,108,117,101,115]⟩]≤x.name.size+30:=by
   simp only [szW];have u0:(⟨#[105,110,115,101,114,116]⟩:ByteArray).size=6:=rfl;have u1:(⟨#[105,110,116,111]⟩:ByteArray).size=4:=rfl;have u3:(⟨#[118,97,108,117,101,115]⟩:ByteArray).size=6:=rfl;omega
  have w9:szW [⟨#[59]⟩]=2:=rfl;have h1:=h.rows e;have:=lis_sz rowW x.rows 2000 fun y hy=>row_sz (h1.2 y hy)
  have h2:x.rows.length*(2000+2)≤400*(2000+2):=Nat.mul_le_mul_right _ h1.1;omega
 ·have es:stmW x = [⟨#[100,101,108,101,116,101]⟩,⟨#[102,114,111,109]⟩,x.name] ++ behX ⟨#[119,104,101,114,101]⟩ x.hasWhere x.wher ++ [⟨#[59]⟩]:=by unfold stmW; rw [if_neg (by omega),if_neg (by omega),if_neg (by omega),if_pos e]
  rw [es];simp only [szW_app];have hn:=name_sz (h.name (by omega));have w0:szW [⟨#[100,101,108,101,116,101]⟩,⟨#[102,114,111,109]⟩,x.name]≤x.name.size+30:=by
   simp only [szW];have u0:(⟨#[100,101,108,101,116,101]⟩:ByteArray).size=6:=rfl;have u1:(⟨#[102,114,111,109]⟩:ByteArray).size=4:=rfl;omega
  have w9:szW [⟨#[59]⟩]=2:=rfl;have:=beh_sz (wd:=⟨#[119,104,101,114,101]⟩) (by decide) (h.wher e);omega
 ·have es:stmW x = [⟨#[115,104,111,119]⟩] ++ qryW x.query ++ [⟨#[59]⟩]:=by unfold stmW; rw [if_neg (by omega),if_neg (by omega),if_neg (by omega),if_neg (by omega),if_pos e]
  rw [es];simp only [szW_app];have w0:szW [⟨#[115,104,111,119]⟩]≤30:=by decide
  have w9:szW [⟨#[59]⟩]=2:=rfl;have:=qry_sz (h.query (.inr e));omega
theorem stm_fits {x:Stm} {bs:List UInt8} (h:RtSt x) (hb:bs.length≤4000):(sayL bs (stmW x)).length≤Lim:=by
 have a:=sayL_sz (stmW x) bs;have b:=stm_sz h;show _≤1099511627776;omega

def prnG:List UInt8→List Stm→Option (List UInt8)
 | bs,[]=>some bs
 | bs,x :: r=>if 4000<(sayL bs (stmW x)).length then none else prnG (sayL bs (stmW x)) r
/-- What Print tells. -/
def prnP (l:List Stm):ByteArray × Er:=if (wrongC l).1≠0 then (eB,wrongC l) else match prnG [] l with | none=>(eB,(4,0)) | some bs=>(⟨bs.toArray⟩,(0,0))
theorem GP.up {W W':World} {PB PB':Nat} (h:GP W PB) (hb:Below W.heap.size W W') (hp:PB≤W.heap.size) (hpp:PB≤PB'):GP W' PB':=by
 have:=h.p;exact ⟨h.gl.next hb,tab_keep h.tab (hb.block 2 (by omega)),by obtain ⟨m,hm⟩:=h.mx; exact ⟨m,(World.cell?_of_block (a:=⟨3,0,none⟩) (hb.block 3 (by omega))).trans hm⟩,by omega⟩
theorem all_rt:∀ {l:List Stm} {i:Int},(allC l i).1=0→∀ x ∈ l,RtSt x
 | [],_,_=>by simp
 | y :: r,i,h=>by
  rw [allC] at h
  by_cases e:stmC y=0
  ·rw [if_pos e] at h
   intro x hx
   rcases List.mem_cons.1 hx with rfl | hx
   ·exact stm_rt e
   ·exact all_rt h x hx
  ·rw [if_neg e] at h; exact absurd h e
theorem wrong_rt {l:List Stm} (h:(wrongC l).1=0):l.length≤60∧∀ x ∈ l,RtSt x:=by
 unfold wrongC at h;by_cases e:cntC l.length 0 60=0
 ·rw [if_pos e] at h;exact ⟨by have:=cnt_le e; omega,all_rt h⟩
 ·rw [if_neg e] at h; exact absurd h (by simp)
theorem conv_at {W:World} {PB:Nat} {v:Value} {bs:List UInt8} (h:PrAt W PB v bs):(convert 24 9 v).run Tryz.prog W = .ok (.string ⟨bs.toArray⟩) W:=by
 obtain ⟨h0,⟨h1,h2⟩ | ⟨g,cap,cur,rfl,hb,hq,hr⟩⟩:=h.own
 ·subst h1;have e:bs = []:=List.length_eq_zero_iff.1 h2;subst e;exact run_convert_nil_bytes W _ _ 5 0 (by kernel_rfl) (by kernel_rfl) (by kernel_rfl)
 ·refine run_convert_bytes_back W _ _ 5 ⟨g,0,none⟩ cap bs (by kernel_rfl) (by kernel_rfl) (by kernel_rfl) (fun j hj=>?_);exact h.own.cells (g:=g) rfl j _ (by simp [u8L,hj])
theorem Print_at (l:List Stm) (a:Option Addr) (c:Nat) {w:World} (hG:GP w w.heap.size) (hks:LsE En16 16 (fun b=>b<w.heap.size) w a l):Calls Tryz.prog 16 #[.slice a l.length c] w fun e w'=>Below w.heap.size w w'∧e = .returned (.tuple #[.string (prnP l).1,.agg #[.int .i64 (prnP l).2.1,.int .i64 (prnP l).2.2]]):=by
 have hal1:Below w.heap.size w (w.alloc (.cells #[.int .i64 0,.int .i64 0] 27)):=(Below.refl _ _).alloc (Nat.le_refl _) _;have QF1:=heap_new w #[.int .i64 0,.int .i64 0] 27;have HK1:Hid (LsE En16 16 (fun b=>b<w.heap.size) (w.alloc (.cells #[.int .i64 0,.int .i64 0] 27)) a l):=hks.nx en16 hal1;have HG1:Hid (GP (w.alloc (.cells #[.int .i64 0,.int .i64 0] 27)) w.heap.size):=hG.up hal1 (Nat.le_refl _) (Nat.le_refl _);generalize hM:prnP l=M;have HM:Hid (prnP l=M):=hM;clear hM hks hG;go_enter Tryz.func16,Tryz.ntmps16;go_upto_region 1 with fail
 generalize (w.alloc (.cells #[.int .i64 0,.int .i64 0] 27))=w1 at *;have con:=wrongL_at l a c _ w1 HK1.out;have HR:Hid (∃ r,wrongC l=r):=⟨_,rfl⟩
 obtain ⟨r,hr⟩:=HR.out;rw [hr] at con;have HRR:Hid (wrongC l=r):=hr;clear HR hr;go_wp2_with fail
 refine con.mono ?_;rintro e w2 ⟨rfl,hb2⟩;have hal2:Below w2.heap.size w2 (w2.alloc (.cells #[.int .i64 r.1,.int .i64 r.2] 27)):=(Below.refl _ _).alloc (Nat.le_refl _) _;have QR2:=heap_new w2 #[.int .i64 r.1,.int .i64 r.2] 27;have hl1:=lt_of_heap QF1;have hs2:=hb2.size;have hb3:=chain hb2 hal2;have QF3:=(hb3.block _ hl1).trans QF1;have HK3:Hid (LsE En16 16 (fun b=>b<w.heap.size) (w2.alloc (.cells #[.int .i64 r.1,.int .i64 r.2] 27)) a l):=HK1.out.nx en16 hb3;have HG3:Hid (GP (w2.alloc (.cells #[.int .i64 r.1,.int .i64 r.2] 27)) w.heap.size):=HG1.out.up hb3 (by omega) (Nat.le_refl _)
 have hbw:=chain hal1 hb3;have hs3:=hb3.size;clear con HK1 HG1 hal1 hal2 hb2 QF1;go_upto_region 2 with fail
 generalize (w2.alloc (.cells #[.int .i64 r.1,.int .i64 r.2] 27))=w3 at *;obtain ⟨r0,r1⟩:=cells2 QR2;by_cases hz:r.1=0
 case neg =>
  have HE:Hid (M=(eB,r)):=by show M=_; rw [← HM.out,prnP,HRR.out,if_pos hz]
  have hzb:(r.1 == 0)=false:=by rw [beq_eq_false_iff_ne]; exact hz
  obtain ⟨c0,c1⟩:=cells2 QF3;obtain ⟨f0,f1⟩:=froz2 QF3;go_upto_region 3 with fail
  go_region
  have QE:=st2_heap QF3 (.int .i64 r.1) (.int .i64 r.2);have hbE:=st2_b (g:=w.heap.size) hbw (by omega) (.int .i64 r.1) (.int .i64 r.2);go_wp2_with fail
  generalize ((w3.setCell ⟨w.heap.size,0,none⟩ (.int .i64 r.1)).setCell ⟨w.heap.size,1,none⟩ (.int .i64 r.2))=wE at *;obtain ⟨x0,x1⟩:=cells2 QE;exact bodyPost_ret (v:=.tuple #[.string eB,.agg #[.int .i64 r.1,.int .i64 r.2]]) (by simp [results,Tryz.results16,go_sem,x0,x1]) rfl ⟨hbE.drew,by rw [HE.out]⟩
 case pos =>
  obtain ⟨hl60,hrt⟩:=wrong_rt (by rw [HRR.out]; exact hz);have HRT:Hid (∀ x ∈ l,RtSt x):=hrt;have hm:(match prnG [] l with | none=>(eB,((4,0):Er)) | some bs=>(⟨bs.toArray⟩,(0,0)))=M:=by rw [← HM.out,prnP,HRR.out,if_neg (by simpa using hz)]
  have HM2:Hid ((match prnG [] l with | none=>(eB,((4,0):Er)) | some bs=>(⟨bs.toArray⟩,(0,0)))=M):=hm;clear hm hrt HM HRR;have hzb:(r.1 == 0)=true:=by rw [beq_iff_eq]; exact hz
  rw [hz] at r0;clear hz hzb;go_upto_region 4 with fail
  clear r0 r1 QR2;have hal3:Below w3.heap.size w3 (w3.alloc (.cells #[.slice none 0 0] 81)):=(Below.refl _ _).alloc (Nat.le_refl _) _;have P0:Hid (PrAt (w3.alloc (.cells #[.slice none 0 0] 81)) w3.heap.size (.slice none 0 0) []):=⟨heap_new w3 _ _,⟨rfl,.inl ⟨rfl,rfl⟩⟩⟩
  have HG4:Hid (GP (w3.alloc (.cells #[.slice none 0 0] 81)) w3.heap.size):=HG3.out.up hal3 (by omega) (by omega);have HK4:Hid (LsE En16 16 (fun b=>b<w3.heap.size) (w3.alloc (.cells #[.slice none 0 0] 81)) a l):=(HK3.out.nx en16 hal3).mono en16 (fun b h _=>by have:b<w.heap.size:=h; show b<w3.heap.size; omega);have QF4:=(hal3.block _ (by omega)).trans QF3;have hbw4:=chain hbw hal3;have hPB:w.heap.size<w3.heap.size:=by omega
  clear HG3 HK3 QF3 hal3 hb3;go_upto_region 5 with fail
  generalize (w3.alloc (.cells #[.slice none 0 0] 81))=w4 at *;generalize w3.heap.size=PB at *;go_wp2_with fail
  go_loopw [16] (fun jv wr=>∃ (j:Nat) (v':Value) (bs:List UInt8),j≤l.length∧jv = .int .i64 j∧bs.length≤4000∧Hid (PrAt wr PB v' bs)∧Hid (St PB (.slice none 0 0) w4 v' wr)∧Hid (prnG [] l=prnG bs (l.drop j))) (fun jv _=>l.length - (RowKit.intOf jv).toNat)
  case atStart=>exact ⟨0,.slice none 0 0,[],Nat.zero_le _,rfl,by simp,P0,St.refl _ _ _,rfl⟩
  case round =>
   obtain ⟨j,v1,bs,hj,rfl,hbs,hP1,hS1,HL1⟩:=hrel;by_cases hlt:j<l.length
   ·have hjz:(j:Int)<(l.length:Int):=by omega
    have hL:=HL1.out;rw [List.drop_eq_getElem_cons hlt,prnG] at hL;have hoj:=HRT.out _ (List.getElem_mem hlt);obtain ⟨b1,o1,_,rfl,t1,a1,c1,p1,d1,p2,d2,p3,d3,a2,c2,a3,c3,rfl,k1,k2,k3,k4,k5,k6⟩:=(HK4.out.stp en16 hS1.out).get hlt;generalize l[j]=y at *;have HL2:Hid (prnG [] l=if 4000<(sayL bs (stmW y)).length then none else prnG (sayL bs (stmW y)) (l.drop (j+1))):=hL;have HOJ:Hid (RtSt y):=hoj
    have hrg:wr.rangeAt b1 (o1+j*16) [.int .i64 y.kind,.string y.name,.slice a1 y.cols.length c1,.slice p1 y.query.parts.length d1,.slice p2 y.query.ops.length d2,.slice p3 y.query.order.length d3,.int .i64 y.query.limit,.slice a2 y.rows.length c2,.bool y.hasWhere,.int .i64 y.wher.k,.int .i64 y.wher.v.1,.int .i64 y.wher.v.2.1,.string y.wher.v.2.2,.string y.wher.tab,.string y.wher.name,.slice a3 y.wher.ks.length c3]:=fun i u hu=>t1.2 i u hu
    have halY:Below wr.heap.size wr (wr.alloc (.cells #[.int .i64 y.kind,.string y.name,.slice a1 y.cols.length c1,.slice p1 y.query.parts.length d1,.slice p2 y.query.ops.length d2,.slice p3 y.query.order.length d3,.int .i64 y.query.limit,.slice a2 y.rows.length c2,.bool y.hasWhere,.int .i64 y.wher.k,.int .i64 y.wher.v.1,.int .i64 y.wher.v.2.1,.string y.wher.v.2.2,.string y.wher.tab,.string y.wher.name,.slice a3 y.wher.ks.length c3] 57)):=(Below.refl _ _).alloc (Nat.le_refl _) _
    have QY:=heap_new wr #[.int .i64 y.kind,.string y.name,.slice a1 y.cols.length c1,.slice p1 y.query.parts.length d1,.slice p2 y.query.ops.length d2,.slice p3 y.query.order.length d3,.int .i64 y.query.limit,.slice a2 y.rows.length c2,.bool y.hasWhere,.int .i64 y.wher.k,.int .i64 y.wher.v.1,.int .i64 y.wher.v.2.1,.string y.wher.v.2.2,.string y.wher.tab,.string y.wher.name,.slice a3 y.wher.ks.length c3] 57
    have P1:Hid (PrAt (wr.alloc (.cells #[.int .i64 y.kind,.string y.name,.slice a1 y.cols.length c1,.slice p1 y.query.parts.length d1,.slice p2 y.query.ops.length d2,.slice p3 y.query.order.length d3,.int .i64 y.query.limit,.slice a2 y.rows.length c2,.bool y.hasWhere,.int .i64 y.wher.k,.int .i64 y.wher.v.1,.int .i64 y.wher.v.2.1,.string y.wher.v.2.2,.string y.wher.tab,.string y.wher.name,.slice a3 y.wher.ks.length c3] 57)) PB v1 bs):=hP1.out.next halY
    have G1:Hid (GP (wr.alloc (.cells #[.int .i64 y.kind,.string y.name,.slice a1 y.cols.length c1,.slice p1 y.query.parts.length d1,.slice p2 y.query.ops.length d2,.slice p3 y.query.order.length d3,.int .i64 y.query.limit,.slice a2 y.rows.length c2,.bool y.hasWhere,.int .i64 y.wher.k,.int .i64 y.wher.v.1,.int .i64 y.wher.v.2.1,.string y.wher.v.2.2,.string y.wher.tab,.string y.wher.name,.slice a3 y.wher.ks.length c3] 57)) PB):=(HG4.out.st hS1.out).nx halY hP1.out.lt
    have S1:Hid (St PB (.slice none 0 0) w4 v1 (wr.alloc (.cells #[.int .i64 y.kind,.string y.name,.slice a1 y.cols.length c1,.slice p1 y.query.parts.length d1,.slice p2 y.query.ops.length d2,.slice p3 y.query.order.length d3,.int .i64 y.query.limit,.slice a2 y.rows.length c2,.bool y.hasWhere,.int .i64 y.wher.k,.int .i64 y.wher.v.1,.int .i64 y.wher.v.2.1,.string y.wher.v.2.2,.string y.wher.tab,.string y.wher.name,.slice a3 y.wher.ks.length c3] 57))):=hS1.out.trans (St.of halY hP1.out.lt);have K1:Hid _:=k1.nx en2 halY;have K2:Hid _:=k2.nx en21 halY;have K3:Hid _:=k3.nx enI halY
    have K4:Hid _:=k4.nx en7 halY;have K5:Hid _:=k5.nx (enL en3 3) halY;have K6:Hid _:=SsS.next halY k6;clear HL1 hL hoj t1 k1 k2 k3 k4 k5 k6 hP1 hS1 P0
    go_upto_region 8 with (first | (refine wpList_load_mid rfl 57 _ rfl b1 (o1+j*16) rfl #[.int .i64 y.kind,.string y.name,.slice a1 y.cols.length c1,.slice p1 y.query.parts.length d1,.slice p2 y.query.ops.length d2,.slice p3 y.query.order.length d3,.int .i64 y.query.limit,.slice a2 y.rows.length c2,.bool y.hasWhere,.int .i64 y.wher.k,.int .i64 y.wher.v.1,.int .i64 y.wher.v.2.1,.string y.wher.v.2.2,.string y.wher.tab,.string y.wher.name,.slice a3 y.wher.ks.length c3].toList _ hrg Tryz.underlying57 rfl sz16 ?_) | (refine wpList_store_new rfl 57 _ _ rfl z16A #[.int .i64 y.kind,.string y.name,.slice a1 y.cols.length c1,.slice p1 y.query.parts.length d1,.slice p2 y.query.ops.length d2,.slice p3 y.query.order.length d3,.int .i64 y.query.limit,.slice a2 y.rows.length c2,.bool y.hasWhere,.int .i64 y.wher.k,.int .i64 y.wher.v.1,.int .i64 y.wher.v.2.1,.string y.wher.v.2.2,.string y.wher.tab,.string y.wher.name,.slice a3 y.wher.ks.length c3] rfl rfl sz16 rfl (all1 rfl) ?_))
    generalize (wr.alloc (.cells #[.int .i64 y.kind,.string y.name,.slice a1 y.cols.length c1,.slice p1 y.query.parts.length d1,.slice p2 y.query.ops.length d2,.slice p3 y.query.order.length d3,.int .i64 y.query.limit,.slice a2 y.rows.length c2,.bool y.hasWhere,.int .i64 y.wher.k,.int .i64 y.wher.v.1,.int .i64 y.wher.v.2.1,.string y.wher.v.2.2,.string y.wher.tab,.string y.wher.name,.slice a3 y.wher.ks.length c3] 57))=wa at *;have con:=statement2_at y HOJ.out.ok a1 p1 p2 p3 a2 a3 c1 d1 d2 d3 c2 c3 G1.out P1.out K1.out K2.out K3.out K4.out K5.out K6.out (stm_fits HOJ.out hbs)
    clear K1 K2 K3 K4 K5 K6 hrg;go_upto_region 9 with (first | (refine wpList_load_row rfl 57 _ rfl wr.heap.size rfl 57 #[.int .i64 y.kind,.string y.name,.slice a1 y.cols.length c1,.slice p1 y.query.parts.length d1,.slice p2 y.query.ops.length d2,.slice p3 y.query.order.length d3,.int .i64 y.query.limit,.slice a2 y.rows.length c2,.bool y.hasWhere,.int .i64 y.wher.k,.int .i64 y.wher.v.1,.int .i64 y.wher.v.2.1,.string y.wher.v.2.2,.string y.wher.tab,.string y.wher.name,.slice a3 y.wher.ks.length c3] (0,0) _ QY Tryz.underlying57 rfl sz16 ?_))
    refine con.mono ?_;rintro e wb ⟨rfl,v2,P2,S2⟩;have HP2:Hid _:=P2;have HS2:Hid _:=S1.out.trans S2;generalize sayL bs (stmW y)=bs2 at *;obtain ⟨a9,cap9,e9⟩:=P2.val;have q0:wb.cell? ⟨PB,0,none⟩=some v2:=cell_of (i:=0) P2.q rfl;rw [e9] at q0;clear con P2 S2 S1 P1 G1 QY;have hbb:Below w.heap.size w wb:=hbw4.trans (HS2.out.bel.mono (by omega));by_cases h4:4000<bs2.length
    ·have hq:(4000:Int)<(bs2.length:Int):=by omega
     have QFb:=(HS2.out.bel.block _ hPB).trans QF4;obtain ⟨c0,c1⟩:=cells2 QFb;obtain ⟨f0,f1⟩:=froz2 QFb;have QE:=st2_heap QFb (.int .i64 4) (.int .i64 0);have hbE:=st2_b (g:=w.heap.size) hbb (by omega) (.int .i64 4) (.int .i64 0);have HE:Hid (M=(eB,(4,0))):=by show M=_; rw [← HM2.out,HL2.out,if_pos h4]
     go_wp2_with fail
     generalize ((wb.setCell ⟨w.heap.size,0,none⟩ (.int .i64 4)).setCell ⟨w.heap.size,1,none⟩ (.int .i64 0))=wE at *;obtain ⟨x0,x1⟩:=cells2 QE;exact bodyPost_ret (v:=.tuple #[.string eB,.agg #[.int .i64 4,.int .i64 0]]) (by simp [results,Tryz.results16,go_sem,x0,x1]) rfl ⟨hbE,by rw [HE.out]⟩
    ·have hq:¬ (4000:Int)<(bs2.length:Int):=by omega
     have HL3:Hid (prnG [] l=prnG bs2 (l.drop (j+1))):=by show prnG [] l=_; rw [HL2.out,if_neg h4]
     go_wp2_with fail
     go_roundw
     case rel=>exact ⟨j+1,v2,bs2,by omega,by go_num,by omega,HP2,HS2,HL3⟩
     case measure=>simp [RowKit.intOf]; omega
   ·have hjz:¬ (j:Int)<(l.length:Int):=by omega
    have hL:=HL1.out;rw [List.drop_eq_nil_of_le (by omega),prnG] at hL;have HE:Hid (M=(⟨bs.toArray⟩,(0,0))):=by show M=_; rw [← HM2.out,hL]
    have hcv:=conv_at hP1.out;obtain ⟨a9,cap9,e9⟩:=hP1.out.val;have q0:wr.cell? ⟨PB,0,none⟩=some v1:=cell_of (i:=0) hP1.out.q rfl;rw [e9] at q0 hcv;have hbb:Below w.heap.size w wr:=hbw4.trans (hS1.out.bel.mono (by omega));have QFb:=(hS1.out.bel.block _ hPB).trans QF4;obtain ⟨c0,c1⟩:=cells2 QFb;obtain ⟨f0,f1⟩:=froz2 QFb;have QE:=st2_heap QFb (.int .i64 0) (.int .i64 0);have hbE:=st2_b (g:=w.heap.size) hbb (by omega) (.int .i64 0) (.int .i64 0);clear hL HL1 HM2;go_wp2_with fail
    generalize ((wr.setCell ⟨w.heap.size,0,none⟩ (.int .i64 0)).setCell ⟨w.heap.size,1,none⟩ (.int .i64 0))=wE at *;obtain ⟨x0,x1⟩:=cells2 QE;exact bodyPost_ret (v:=.tuple #[.string ⟨bs.toArray⟩,.agg #[.int .i64 0,.int .i64 0]]) (by simp [results,Tryz.results16,go_sem,x0,x1]) rfl ⟨hbE,by rw [HE.out]⟩
set_option maxHeartbeats 4000000

theorem En16.size {S:Nat→Prop} {W:World} {x:Stm} {V:Array Value} (h:En16 S W x V.toList):V.size=16∧V.all (·.oneCell')=true:=by
 obtain ⟨a1,c1,p1,d1,p2,d2,p3,d3,a2,c2,a3,c3,e,_⟩:=h;have:V=_:=Array.ext' (ys:=#[.int .i64 x.kind,.string x.name,.slice a1 x.cols.length c1,.slice p1 x.query.parts.length d1,.slice p2 x.query.ops.length d2,.slice p3 x.query.order.length d3,.int .i64 x.query.limit,.slice a2 x.rows.length c2,.bool x.hasWhere,.int .i64 x.wher.k,.int .i64 x.wher.v.1,.int .i64 x.wher.v.2.1,.string x.wher.v.2.2,.string x.wher.tab,.string x.wher.name,.slice a3 x.wher.ks.length c3]) e;subst this;exact ⟨rfl,all1 rfl⟩
theorem arr16 {V:Array Value} (h:V.size=16):∃ v0 v1 v2 v3 v4 v5 v6 v7 v8 v9 v10 v11 v12 v13 v14 v15,V = #[v0,v1,v2,v3,v4,v5,v6,v7,v8,v9,v10,v11,v12,v13,v14,v15]:=by
 obtain ⟨l⟩:=V
 match l,h with
 | [v0,v1,v2,v3,v4,v5,v6,v7,v8,v9,v10,v11,v12,v13,v14,v15],_=>exact ⟨v0,v1,v2,v3,v4,v5,v6,v7,v8,v9,v10,v11,v12,v13,v14,v15,rfl⟩
theorem written_at (x:Stm) {w:World} (V:Array Value) (hV:En16 (fun b=>b<w.heap.size) w x V.toList) (hG:GP w w.heap.size):Calls Tryz.prog 23 #[.agg V] w fun e w'=>Below w.heap.size w w'∧e = .returned (.tuple #[.string (prnP [x]).1,.int .i64 (prnP [x]).2.1]):=by
 generalize hR:prnP [x]=R;have HR:Hid (prnP [x]=R):=hR;clear hR;obtain ⟨hs,h1⟩:=En16.size hV;obtain ⟨v0,v1,v2,v3,v4,v5,v6,v7,v8,v9,v10,v11,v12,v13,v14,v15,rfl⟩:=arr16 hs;have hal:Below w.heap.size w (w.alloc (.cells #[v0,v1,v2,v3,v4,v5,v6,v7,v8,v9,v10,v11,v12,v13,v14,v15] 57)):=(Below.refl _ _).alloc (Nat.le_refl _) _
 have hal2:Below (w.alloc (.cells #[v0,v1,v2,v3,v4,v5,v6,v7,v8,v9,v10,v11,v12,v13,v14,v15] 57)).heap.size (w.alloc (.cells #[v0,v1,v2,v3,v4,v5,v6,v7,v8,v9,v10,v11,v12,v13,v14,v15] 57)) ((w.alloc (.cells #[v0,v1,v2,v3,v4,v5,v6,v7,v8,v9,v10,v11,v12,v13,v14,v15] 57)).alloc (.cells #[v0,v1,v2,v3,v4,v5,v6,v7,v8,v9,v10,v11,v12,v13,v14,v15] 57)):=(Below.refl _ _).alloc (Nat.le_refl _) _;have q2:=heap_new (w.alloc (.cells #[v0,v1,v2,v3,v4,v5,v6,v7,v8,v9,v10,v11,v12,v13,v14,v15] 57)) #[v0,v1,v2,v3,v4,v5,v6,v7,v8,v9,v10,v11,v12,v13,v14,v15] 57
 have e1:(w.alloc (.cells #[v0,v1,v2,v3,v4,v5,v6,v7,v8,v9,v10,v11,v12,v13,v14,v15] 57)).heap.size=w.heap.size+1:=by simp
 rw [e1] at q2;have hb2:=chain hal hal2;have hs2:=lt_of_heap q2;have HG:Hid (GP ((w.alloc (.cells #[v0,v1,v2,v3,v4,v5,v6,v7,v8,v9,v10,v11,v12,v13,v14,v15] 57)).alloc (.cells #[v0,v1,v2,v3,v4,v5,v6,v7,v8,v9,v10,v11,v12,v13,v14,v15] 57)) ((w.alloc (.cells #[v0,v1,v2,v3,v4,v5,v6,v7,v8,v9,v10,v11,v12,v13,v14,v15] 57)).alloc (.cells #[v0,v1,v2,v3,v4,v5,v6,v7,v8,v9,v10,v11,v12,v13,v14,v15] 57)).heap.size):=hG.up hb2 (Nat.le_refl _) hb2.size
 have HL:Hid (LsE En16 16 (fun b=>b<((w.alloc (.cells #[v0,v1,v2,v3,v4,v5,v6,v7,v8,v9,v10,v11,v12,v13,v14,v15] 57)).alloc (.cells #[v0,v1,v2,v3,v4,v5,v6,v7,v8,v9,v10,v11,v12,v13,v14,v15] 57)).heap.size) ((w.alloc (.cells #[v0,v1,v2,v3,v4,v5,v6,v7,v8,v9,v10,v11,v12,v13,v14,v15] 57)).alloc (.cells #[v0,v1,v2,v3,v4,v5,v6,v7,v8,v9,v10,v11,v12,v13,v14,v15] 57)) (some ⟨w.heap.size+1,0,none⟩) [x]):=by
  refine .inr ⟨w.heap.size+1,0,rfl,hs2,hs2,fun i hi=>?_⟩;obtain rfl:i=0:=by simpa using hi
  refine ⟨[v0,v1,v2,v3,v4,v5,v6,v7,v8,v9,v10,v11,v12,v13,v14,v15],rfl,fun j u hu=>?_,en16.mono (fun b hb _=>Nat.lt_of_lt_of_le hb hb2.size) (en16.next (Keeps'.of hb2) hV)⟩;have:=cell_of (i:=j) (v:=u) q2 (by simpa using hu)
  simpa using this
 clear hal hal2 e1 hs2 hG;have hal:=hb2;have q1:=heap_new w #[v0,v1,v2,v3,v4,v5,v6,v7,v8,v9,v10,v11,v12,v13,v14,v15] 57;go_enter Tryz.func23,Tryz.ntmps23;go_wp2_with (first | (refine wpList_load_row rfl 57 _ rfl w.heap.size rfl 57 #[v0,v1,v2,v3,v4,v5,v6,v7,v8,v9,v10,v11,v12,v13,v14,v15] (0,0) _ q1 Tryz.underlying57 rfl sz16 ?_))
 clear q1 q2;generalize ((w.alloc (.cells #[v0,v1,v2,v3,v4,v5,v6,v7,v8,v9,v10,v11,v12,v13,v14,v15] 57)).alloc (.cells #[v0,v1,v2,v3,v4,v5,v6,v7,v8,v9,v10,v11,v12,v13,v14,v15] 57))=w2 at *;have con:=Print_at [x] (some ⟨w.heap.size+1,0,none⟩) 1 (HG.out) HL.out;rw [HR.out] at con;refine con.mono ?_;rintro e w3 ⟨hb3,rfl⟩;have hbw:=chain hal hb3;have hal4:Below w3.heap.size w3 (w3.alloc (.cells #[.int .i64 R.2.1,.int .i64 R.2.2] 27)):=(Below.refl _ _).alloc (Nat.le_refl _) _;have Q4:=heap_new w3 #[.int .i64 R.2.1,.int .i64 R.2.2] 27;have hb5:=chain hbw hal4;clear con hal hb3 hal4
 go_upto_region 2 with fail
 generalize (w3.alloc (.cells #[.int .i64 R.2.1,.int .i64 R.2.2] 27))=w4 at *;obtain ⟨c0,c1⟩:=cells2 Q4;have c0d:w4.drew.cell? ⟨w3.heap.size,0,none⟩=_:=c0;go_region
 go_wp2_with fail
 exact bodyPost_ret (v:=.tuple #[.string R.1,.int .i64 R.2.1]) (by simp [results,Tryz.results23,go_sem]) rfl ⟨hb5.drew,rfl⟩

/-- The statement of a text that is written just so. -/
def oneP (t:ByteArray):List Stm→Option Stm
 | [x]=>if (prnP [x]).2.1=0∧(prnP [x]).1=t then some x else none
 | _=>none
def statedP (t:ByteArray):Option Stm:=if (errOf (readP t)).1=0 then oneP t (listOf (readP t)) else none
def SEnds (w:World) (r:Option Stm) (e:Ending) (w':World):Prop :=
 Below w.heap.size w w'∧match r with
  | none=>e = .returned (.tuple #[.agg z16A,.bool false])
  | some x=>∃ V:Array Value,e = .returned (.tuple #[.agg V,.bool true])∧En16 (fun b=>w.heap.size≤b) w' x V.toList
theorem results_cell_tmp {fn:Func} {p q:Tmp} {ty:TypeId} (h:fn.results = #[.cell p ty,.tmp q]) (tmps:Array Value) (w:World) (g:Nat) (t:TypeId) (cs:Array Value) (fr:Nat × Nat) (d:TypeDesc)
  (hp:tmps.getD p undef = .pointer (some ⟨g,0,none⟩)) (hg:w.heap[g]? = some (.cells cs t fr))
  (hd:(match d with | .struct _ | .array _ _=>true | _=>false)=true) (hu:Tryz.prog.underlying ty=some d) (hi:(Tryz.prog.info? ty).map (·.size)=some cs.size) :
  (results fn tmps).run Tryz.prog w = .ok (.tuple #[.agg cs,tmps.getD q undef]) w:=by
 have hp':tmps[p]?.getD undef = .pointer (some ⟨g,0,none⟩):=by simpa using hp
 cases d <;> first | (cases hd; done) | simp [results,h,hp',asAddr,run_loadVar_row w g t ty cs fr _ hg hu rfl hi]
theorem bytes_eq {a b:ByteArray} (h:a.toList=b.toList):a=b:=by
 rw [Lib.toList_data,Lib.toList_data] at h;exact ByteArray.ext (Array.ext' h)
theorem LsE.mid {S:Nat→Prop} {W:World} {a:Option Addr} {x:Stm} (h:LsE En16 16 S W a [x]):∃ b off,a=some ⟨b,off,none⟩∧∃ V:Array Value,V.size=16∧W.rangeAt b off V.toList∧En16 S W x V.toList:=by
 rcases h with h | ⟨b,off,e,_,_,h3⟩
 ·cases h
 ·obtain ⟨cs,c1,c2,c3⟩:=h3 0 (by simp);refine ⟨b,off,e,cs.toArray,by simpa using c1,fun i u hu=>?_,c3⟩;have:=c2 i u hu
  rwa [show off+0*16+i=off+i by omega] at this
theorem stated_at (t:ByteArray) {w:World} (hG:GP w w.heap.size):Calls Tryz.prog 26 #[.string t] w (SEnds w (statedP t)):=by
 generalize hM:statedP t=M;unfold statedP at hM;have hal1:Below w.heap.size w (w.alloc (.cells z16A 57)):=(Below.refl _ _).alloc (Nat.le_refl _) _;have Q1:=heap_new w z16A 57;have HG1:Hid (GP (w.alloc (.cells z16A 57)) w.heap.size):=hG.up hal1 (Nat.le_refl _) (Nat.le_refl _);have con1:=Read_at t (w:=w.alloc (.cells z16A 57)) HG1.out.gl;generalize hR:readP t=R at *;obtain ⟨E,hE⟩:∃ E,errOf R=E:=⟨_,rfl⟩
 obtain ⟨l,hl⟩:∃ l,listOf R=l:=⟨_,rfl⟩
 rw [hE,hl] at con1 hM;have HM:Hid _:=hM;clear hM hR hE hl hG;go_enter Tryz.func26,Tryz.ntmps26;go_upto_region 1 with fail
 generalize (w.alloc (.cells z16A 57))=w1 at *;go_wp2_with fail
 refine con1.mono ?_;rintro e w2 ⟨hb2,a,cap,rfl,L2⟩;have hal3:Below w2.heap.size w2 (w2.alloc (.cells #[.int .i64 E.1,.int .i64 E.2] 27)):=(Below.refl _ _).alloc (Nat.le_refl _) _;have QF:=heap_new w2 #[.int .i64 E.1,.int .i64 E.2] 27;have hb3:=chain hb2 hal3;have hl1:=lt_of_heap Q1;have QZ:=(hb3.block _ hl1).trans Q1;have hbw:=chain hal1 hb3;have hs1:=hal1.size;have hs3:=hb3.size;have L3:Hid (LsE En16 16 (fun b=>w1.heap.size≤b) (w2.alloc (.cells #[.int .i64 E.1,.int .i64 E.2] 27)) a l):=L2.nx en16 hal3
 have HG3:Hid (GP (w2.alloc (.cells #[.int .i64 E.1,.int .i64 E.2] 27)) (w2.alloc (.cells #[.int .i64 E.1,.int .i64 E.2] 27)).heap.size):=HG1.out.up hb3 (by omega) (by omega);clear con1 hal1 hal3 hb2 L2 HG1 Q1;go_upto_region 2 with fail
 generalize (w2.alloc (.cells #[.int .i64 E.1,.int .i64 E.2] 27))=w3 at *;obtain ⟨f0,f1⟩:=cells2 QF;by_cases hz:E.1=0
 case neg =>
  have e:M=none:=by rw [← HM.out,if_neg hz]
  subst e;have hzb:(E.1 != 0)=true:=by rw [bne_iff_ne]; exact hz
  clear HM hz L3 HG3;go_wp2_with (first | (refine wpList_store_row rfl 57 _ _ rfl w.heap.size z16A rfl rfl 57 z16A QZ sz16 rfl (all1 rfl) ?_))
  have QE:=setRow_heap w3 w.heap.size z16A z16A _ _ QZ;have hbE:=below_setRow hbw (Nat.le_refl _) z16A;generalize w3.setRow w.heap.size z16A=wE at *;exact bodyPost_ret (results_cell_tmp Tryz.results26 _ _ _ _ _ _ _ rfl QE rfl Tryz.underlying57 sz16) rfl ⟨hbE,rfl⟩
 case pos =>
  have hm:=HM.out;rw [if_pos hz] at hm;have HM2:Hid (oneP t l=M):=hm;have hzb:(E.1 != 0)=false:=by rw [bne_eq_false_iff_eq]; exact hz
  rw [hz] at f0;clear HM hz hm;by_cases hl:l.length=1
  case neg =>
   have e:M=none:=by
    rw [← HM2.out];unfold oneP
    split
    ·exact absurd rfl hl
    ·rfl
   subst e;have hlz:((l.length:Int) != 1)=true:=by rw [bne_iff_ne]; omega
   clear HM2 hl L3 HG3 hzb;go_wp2_with (first | (refine wpList_store_row rfl 57 _ _ rfl w.heap.size z16A rfl rfl 57 z16A QZ sz16 rfl (all1 rfl) ?_))
   have QE:=setRow_heap w3 w.heap.size z16A z16A _ _ QZ;have hbE:=below_setRow hbw (Nat.le_refl _) z16A;generalize w3.setRow w.heap.size z16A=wE at *;exact bodyPost_ret (results_cell_tmp Tryz.results26 _ _ _ _ _ _ _ rfl QE rfl Tryz.underlying57 sz16) rfl ⟨hbE,rfl⟩
  case pos =>
   obtain ⟨x,rfl⟩:∃ x,l = [x]:=by
    match l,hl with
    | [x],_=>exact ⟨x,rfl⟩
   obtain ⟨b,off,rfl,V,hV,hR,hE⟩:=L3.out.mid;have hm:=HM2.out;rw [oneP] at hm;have con2:=written_at x V (en16.mono (fun b _ hb=>hb) hE) HG3.out;have HE:Hid (En16 (fun b=>w1.heap.size≤b) w3 x V.toList):=hE;obtain ⟨P,hP⟩:∃ P,prnP [x]=P:=⟨_,rfl⟩
   rw [hP] at con2 hm;have HM3:Hid ((if P.2.1=0∧P.1=t then some x else none)=M):=hm;obtain ⟨v0,v1,v2,v3,v4,v5,v6,v7,v8,v9,v10,v11,v12,v13,v14,v15,rfl⟩:=arr16 hV;clear hm HM2 hl L3 hE hP hzb HG3;go_upto_region 4 with fail
   go_wp2_with (first | (refine wpList_load_mid rfl 57 _ rfl b off rfl [v0,v1,v2,v3,v4,v5,v6,v7,v8,v9,v10,v11,v12,v13,v14,v15] _ hR Tryz.underlying57 rfl sz16 ?_))
   refine con2.mono ?_;rintro e w4 ⟨hb4,rfl⟩;have QZ4:=(hb4.block _ (lt_of_heap QZ)).trans QZ;have hR4:w4.rangeAt b off [v0,v1,v2,v3,v4,v5,v6,v7,v8,v9,v10,v11,v12,v13,v14,v15]:=fun i u hu=>(hb4.cell (p:=⟨b,off+i,none⟩) (cell_lt (hR i u hu))).trans (hR i u hu)
   have hbw4:=chain hbw hb4;have HE4:Hid (En16 (fun b=>w1.heap.size≤b) w4 x [v0,v1,v2,v3,v4,v5,v6,v7,v8,v9,v10,v11,v12,v13,v14,v15]):=en16.next (Keeps'.of hb4) HE.out;clear con2 hR HE QZ;by_cases hc:P.2.1=0∧P.1=t
   case neg =>
    have e:M=none:=by rw [← HM3.out,if_neg hc]
    subst e;clear HM3;by_cases h0:P.2.1=0
    ·have h1:P.1≠t:=fun c=>hc ⟨h0,c⟩
     have h0z:(P.2.1 != 0)=false:=by rw [bne_eq_false_iff_eq]; exact h0
     have h1z:(P.1.toList == t.toList)=false:=by rw [beq_eq_false_iff_ne]; exact fun e=>h1 (bytes_eq e)
     clear h0 h1 hc;go_wp2_with (first | (refine wpList_store_row rfl 57 _ _ rfl w.heap.size z16A rfl rfl 57 z16A QZ4 sz16 rfl (all1 rfl) ?_))
     have QE:=setRow_heap w4 w.heap.size z16A z16A _ _ QZ4;have hbE:=below_setRow hbw4 (Nat.le_refl _) z16A;generalize w4.setRow w.heap.size z16A=wE at *;exact bodyPost_ret (results_cell_tmp Tryz.results26 _ _ _ _ _ _ _ rfl QE rfl Tryz.underlying57 sz16) rfl ⟨hbE,rfl⟩
    ·have h0z:(P.2.1 != 0)=true:=by rw [bne_iff_ne]; exact h0
     clear h0 hc;go_wp2_with (first | (refine wpList_store_row rfl 57 _ _ rfl w.heap.size z16A rfl rfl 57 z16A QZ4 sz16 rfl (all1 rfl) ?_))
     have QE:=setRow_heap w4 w.heap.size z16A z16A _ _ QZ4;have hbE:=below_setRow hbw4 (Nat.le_refl _) z16A;generalize w4.setRow w.heap.size z16A=wE at *;exact bodyPost_ret (results_cell_tmp Tryz.results26 _ _ _ _ _ _ _ rfl QE rfl Tryz.underlying57 sz16) rfl ⟨hbE,rfl⟩
   case pos =>
    have e:M=some x:=by rw [← HM3.out,if_pos hc]
    subst e;have h0z:(P.2.1 != 0)=false:=by rw [bne_eq_false_iff_eq]; exact hc.1
    have h1z:(P.1.toList == t.toList)=true:=by rw [hc.2,beq_iff_eq]
    obtain ⟨_,h16⟩:=En16.size (V:=#[v0,v1,v2,v3,v4,v5,v6,v7,v8,v9,v10,v11,v12,v13,v14,v15]) HE4.out;clear HM3 hc;go_wp2_with (first | (refine wpList_load_mid rfl 57 _ rfl b off rfl [v0,v1,v2,v3,v4,v5,v6,v7,v8,v9,v10,v11,v12,v13,v14,v15] _ hR4 Tryz.underlying57 rfl sz16 ?_) | (refine wpList_store_row rfl 57 _ _ rfl w.heap.size #[v0,v1,v2,v3,v4,v5,v6,v7,v8,v9,v10,v11,v12,v13,v14,v15] rfl rfl 57 z16A QZ4 sz16 rfl h16 ?_))
    have QE:=setRow_heap w4 w.heap.size z16A #[v0,v1,v2,v3,v4,v5,v6,v7,v8,v9,v10,v11,v12,v13,v14,v15] _ _ QZ4;have hbE:=below_setRow hbw4 (Nat.le_refl _) #[v0,v1,v2,v3,v4,v5,v6,v7,v8,v9,v10,v11,v12,v13,v14,v15];have HEE:En16 (fun b=>w.heap.size≤b) (w4.setRow w.heap.size #[v0,v1,v2,v3,v4,v5,v6,v7,v8,v9,v10,v11,v12,v13,v14,v15]) x [v0,v1,v2,v3,v4,v5,v6,v7,v8,v9,v10,v11,v12,v13,v14,v15]:=en16.mono (S:=fun b=>w1.heap.size≤b) (fun b hb _=>by have:_≤b:=hb; show _≤b; omega) (en16.next ⟨by simp,fun k hk hl=>setRow_other w4 w.heap.size k _ (by have:w1.heap.size≤k:=hk; omega)⟩ HE4.out)
    generalize w4.setRow w.heap.size #[v0,v1,v2,v3,v4,v5,v6,v7,v8,v9,v10,v11,v12,v13,v14,v15]=wE at *;exact bodyPost_ret (results_cell_tmp Tryz.results26 _ _ _ _ _ _ _ rfl QE rfl Tryz.underlying57 sz16) rfl ⟨hbE,_,rfl,HEE⟩

def EnU:EnT UInt8:=fun _ _ x cs=>cs = [.int .u8 ((x.toNat:Nat):Int)]
theorem enU:EnOk EnU:=⟨fun _ h=>h,fun _ h=>h⟩
/-- One bit of a byte goes by. -/
def crcI (s c i:Nat):Nat:=if (c / 2 ^ i) % 2=s / 32768 then s*2 % 65536 else (s*2 % 65536) ^^^ 4129
def crcK (c:Nat):Nat→Nat→Nat
 | 0,s=>s
 | k+1,s=>crcK c k (crcI s c k)
def crcL:Nat→List UInt8→Nat
 | s,[]=>s
 | s,x :: r=>crcL (crcK x.toNat 8 s) r
theorem crcI_lt {s c i:Nat}:crcI s c i<65536:=by
 unfold crcI
 split
 ·omega
 ·exact Nat.xor_lt_two_pow (n:=16) (by omega) (by decide)
theorem crc_bit {c k:Nat} (hc:c<256):bits BinOp.and IntKind.u16 (IntKind.u16.wrap ((c:Int) / 2 ^ k)) 1=((c / 2 ^ k % 2:Nat):Int):=by
 have h1:((c:Int) / 2 ^ k)=((c / 2 ^ k:Nat):Int):=by push_cast; rfl
 have h2:c / 2 ^ k≤c:=Nat.div_le_self _ _;rw [h1];generalize c / 2 ^ k=q at *;have h3:IntKind.u16.wrap (q:Int)=(q:Int):=by rw [IntKind.wrap_u16]; omega
 rw [h3];have:=u16_and_nat q 1 (by omega) (by decide);rw [show ((1:Nat):Int)=1 from rfl] at this;rw [this,Nat.and_one_is_mod]
theorem crc_up {t:Nat}:IntKind.u16.wrap ((t:Int)*2)=((t*2 % 65536:Nat):Int):=by rw [IntKind.wrap_u16]; omega
theorem crc_test {c k t:Nat} {b:Bool} (h:((c:Int) / 2 ^ k % 2 != (t:Int) / 32768)=b):(c / 2 ^ k % 2=t / 32768)↔b=false:=by
 have h1:((c:Int) / 2 ^ k)=((c / 2 ^ k:Nat):Int):=by push_cast; rfl
 rw [h1] at h;subst h;rw [bne_eq_false_iff_eq];omega
theorem crc_ne {c k t:Nat} (_ht:t<65536) (h:((c:Int) / 2 ^ k % 2 != (t:Int) / 32768)=true):bits BinOp.xor IntKind.u16 (IntKind.u16.wrap ((t:Int)*2)) 4129=((crcI t c k:Nat):Int):=by
 rw [crc_up,crcI,if_neg (by rw [crc_test h]; decide)];exact u16_xor_nat _ 4129 (by omega) (by decide)
theorem crc_eq {c k t:Nat} (_ht:t<65536) (h:((c:Int) / 2 ^ k % 2 != (t:Int) / 32768)=false):IntKind.u16.wrap ((t:Int)*2)=((crcI t c k:Nat):Int):=by
 rw [crc_up,crcI,if_pos ((crc_test h).2 rfl)]
theorem LsE.getU {S:Nat→Prop} {W:World} {a:Option Addr} {bs:List UInt8} (h:LsE EnU 1 S W a bs) {i:Nat} (hi:i<bs.length):∃ b off,a=some ⟨b,off,none⟩∧W.cell? ⟨b,off+i,none⟩=some (.int .u8 ((bs[i].toNat:Nat):Int)):=by
 rcases h with rfl | ⟨b,off,rfl,_,_,h3⟩
 ·simp at hi
 ·obtain ⟨cs,_,c2,rfl⟩:=h3 i hi;exact ⟨b,off,rfl,by have:=c2 0 _ rfl; simpa using this⟩
theorem checkSum_at (bs:List UInt8) (a:Option Addr) (cap:Nat) (S:Nat→Prop) {w:World} (hl:LsE EnU 1 S w a bs) (hn:bs.length≤1099511627776):Calls Tryz.prog 53 #[.slice a bs.length cap] w fun e w'=>e = .returned (.int .u16 (crcL 7439 bs:Nat))∧w'=w:=by
 have HL:Hid (LsE EnU 1 S w a bs):=hl;clear hl;generalize hM:crcL 7439 bs=M;have HM:Hid (crcL 7439 (bs.drop 0)=M):=hM;clear hM;go_enter Tryz.func53,Tryz.ntmps53;go_wp2_with fail
 go_loopw [3,10] (fun sv iv wr=>∃ j s:Nat,j≤bs.length∧iv = .int .i64 j∧sv = .int .u16 s∧s<65536∧Hid (crcL s (bs.drop j)=M)∧wr=w) (fun _ iv _=>bs.length - (RowKit.intOf iv).toNat)
 case atStart=>exact ⟨0,7439,Nat.zero_le _,rfl,rfl,by decide,HM,rfl⟩
 case round =>
  obtain ⟨j,s,hj,rfl,rfl,hs,HK,rfl⟩:=hrel;by_cases hlt:j<bs.length
  ·have hjz:(j:Int)<(bs.length:Int):=by omega
   obtain ⟨b,off,rfl,y0⟩:=HL.out.getU hlt;have hc:bs[j].toNat<256:=UInt8.toNat_lt _;have HK2:Hid (crcL (crcK bs[j].toNat 8 s) (bs.drop (j+1))=M):=by
    have:=HK.out;rw [List.drop_eq_getElem_cons hlt,crcL] at this;exact this
   clear HK;generalize hcc:bs[j].toNat=c at *;clear hcc;go_wp2_with fail
   generalize hN:crcK c 8 s=N at *;have HN:Hid (crcK c 8 s=N):=hN;clear hN;go_loopw [3,6] (fun sv iv ws=>∃ k t:Nat,k≤8∧iv = .int .i64 ((k:Int) - 1)∧sv = .int .u16 t∧t<65536∧Hid (crcK c k t=N)∧ws=wr) (fun _ iv _=>(RowKit.intOf iv+1).toNat)
   case atStart=>exact ⟨8,s,by decide,rfl,rfl,hs,HN,rfl⟩
   case round =>
    obtain ⟨k,t,hk,rfl,rfl,ht,HT,rfl⟩:=hrel;by_cases hk0:k=0
    ·subst hk0;have HN3:Hid (crcL t (bs.drop (j+1))=M):=by rw [show t=N from HT.out]; exact HK2
     clear HK2;go_wp2_with fail
     go_roundw
     case rel=>exact ⟨j+1,t,by omega,by go_num,rfl,ht,HN3,trivial⟩
     case measure=>simp [RowKit.intOf]; omega
    ·obtain ⟨k,rfl⟩:∃ m,k=m+1:=⟨k - 1,by omega⟩
     have hkz:(0:Int)≤((k+1:Nat):Int) - 1:=by omega
     have HT2:Hid (crcK c k (crcI t c k)=N):=HT;have hb:=crc_bit (k:=k) hc;go_wp2_with fail
     all_goals rename_i hx
     all_goals go_roundw
     case rel=>exact ⟨k,crcI t c k,by omega,rfl,congrArg _ (crc_ne ht hx),crcI_lt,HT2,trivial⟩
     case rel=>exact ⟨k,crcI t c k,by omega,rfl,congrArg _ (crc_eq ht hx),crcI_lt,HT2,trivial⟩
     all_goals simp [RowKit.intOf]
  ·have hjz:¬ (j:Int)<(bs.length:Int):=by omega
   have e:s=M:=by
    have:=HK.out;rw [List.drop_of_length_le (by omega),crcL] at this;exact this
   subst e;go_wp2_with fail
   go_ret;exact ⟨rfl,rfl⟩

def pr2 (n:Nat):List UInt8:=[UInt8.ofNat (n / 256),UInt8.ofNat n]
def prOf (bs:List UInt8):Nat:=(bs.getD 0 0).toNat*256+(bs.getD 1 0).toNat
theorem prOf_lt (bs:List UInt8):prOf bs<65536:=by
 have:=UInt8.toNat_lt (bs.getD 0 0);have:=UInt8.toNat_lt (bs.getD 1 0);unfold prOf;omega
theorem pr2_cells {n:Nat} (h:n<65536):[Value.int .u8 ((n:Int) / 256),.int .u8 ((n:Int) % 256)]=u8L (pr2 n):=by
 show _ = [Value.int .u8 (((UInt8.ofNat (n / 256)).toNat:Nat):Int),.int .u8 (((UInt8.ofNat n).toNat:Nat):Int)]
 rw [UInt8.toNat_ofNat',UInt8.toNat_ofNat'];have h1:(n:Int) / 256=((n / 256 % 2 ^ 8:Nat):Int):=by omega
 have h2:(n:Int) % 256=((n % 2 ^ 8:Nat):Int):=by omega
 rw [h1,h2]
/-- A list of bytes of one's own. -/
def BEnds (base:Nat) (w:World) (v:Value) (bs:List UInt8) (e:Ending) (w':World):Prop:=∃ v',e = .returned v'∧w'.ownsRow base 5 1 v' bs.length (u8L bs)∧w.grownBy w' v.ownBlock∧(v'.ownBlock=v.ownBlock∨∃ g,w.heap.size≤g∧v'.ownBlock=some g)
theorem pairOf_at (bs:List UInt8) (a:Option Addr) (cap:Nat) (S:Nat→Prop) {w:World} (hl:LsE EnU 1 S w a bs) (h2:2≤bs.length):Calls Tryz.prog 54 #[.slice a bs.length cap] w fun e w'=>e = .returned (.int .u16 (prOf bs:Nat))∧Below w.heap.size w w':=by
 obtain ⟨b,off,rfl,y0⟩:=hl.getU (i:=0) (by omega);obtain ⟨b',off',e,y1⟩:=hl.getU (i:=1) (by omega);cases e;have e0:bs[0]=bs.getD 0 0:=by simp [List.getD,show 0<bs.length by omega]
 have e1:bs[1]=bs.getD 1 0:=by simp [List.getD,show 1<bs.length by omega]
 rw [e0,Nat.add_zero] at y0;rw [e1] at y1;have y0d:w.drew.cell? ⟨b,off,none⟩=_:=y0;have y1d:w.drew.cell? ⟨b,off+1,none⟩=_:=y1;have l0:=UInt8.toNat_lt (bs.getD 0 0);have l1:=UInt8.toNat_lt (bs.getD 1 0);have hM:prOf bs=(bs.getD 0 0).toNat*256+(bs.getD 1 0).toNat:=rfl;generalize prOf bs=M at *;generalize (bs.getD 0 0).toNat=x at *;generalize (bs.getD 1 0).toNat=y at *;have HM:Hid (M=x*256+y):=hM;have h20:0<bs.length:=by omega
 have h21:1<bs.length:=by omega
 have h22:(1:Int)<(bs.length:Int):=by omega
 clear e0 e1 hl hM h2;go_enter Tryz.func54,Tryz.ntmps54;go_upto_region 1 with fail
 go_region
 have e3:bits BinOp.or IntKind.u16 ((x:Int)*256) (y:Int)=(M:Int):=by
  have:=u16_or_nat (x*256) y (by omega) (by omega)
  push_cast at this
  rw [this,HM.out];have h4:=nat_join 8 (x*256) y (by omega) (by omega);rw [h4]
 rw [e3];go_wp2_with fail
 go_ret;exact ⟨rfl,(Below.refl _ _).drew⟩
theorem appendPair_at {base:Nat} {v:Value} {bs:List UInt8} {w:World} (n:Nat) (hn:n<65536) (ho:w.ownsRow base 5 1 v bs.length (u8L bs)) (hb:base≤w.heap.size) (hl:bs.length≤1099511627000):Calls Tryz.prog 52 #[v,.int .u16 n] w (BEnds base w v (bs ++ pr2 n)):=by
 obtain ⟨i0,hi0,hj0,hj1,hj2⟩:=info_parts infoB;have hal:Below w.heap.size w (w.alloc (.cells (u8L (pr2 n)).toArray 5)):=(Below.refl _ _).alloc (Nat.le_refl _) _;have q1:=heap_new w (u8L (pr2 n)).toArray 5;have o1:=own_next ho hal;rw [← pr2_cells hn] at hal q1 o1;go_enter Tryz.func52,Tryz.ntmps52;have HN:Hid (n<65536):=hn;have HL:Hid (bs.length≤1099511627000):=hl;obtain ⟨va,vc,rfl⟩:∃ a c,v = .slice a bs.length c:=by
  obtain ⟨_,⟨h1,h2⟩ | ⟨k,cap,cur,h1,_⟩⟩:=ho
  ·exact ⟨none,0,by rw [h1,h2]⟩
  ·exact ⟨_,cap,h1⟩
 go_wp2_with (first | (at_builtin; refine wpList_append_at rfl _ _ 24 rfl base 5 i0 _ 1 1 Tryz.underlying24 hi0 hj0 hj1 hj2 rfl (by decide) _ _ _ rfl o1 ⟨w.heap.size,0,none⟩ 2 2 [.int .u8 ((n:Int) / 256),.int .u8 ((n:Int) % 256)] rfl rfl ?Ac1 ?Ac2 ?Ac3 ?Ac4 ?Ac5 ?_))
 case Ac1 =>
  intro i u hu;rw [addr_addS,Nat.zero_add];exact cell_of (i:=i) q1 (by rw [← hu]; simp)
 case Ac2=>intro u hu; simp at hu; rcases hu with rfl | rfl <;> rfl
 case Ac3=>unfold maxLen; have:=HL.out; omega
 case Ac4=>have:=HL.out; omega
 case Ac5=>simp; omega
 intro v2 w2 o2 g2 d2;have e2:u8L bs ++ [Value.int .u8 ((n:Int) / 256),.int .u8 ((n:Int) % 256)]=u8L (bs ++ pr2 n):=by rw [pr2_cells HN.out]; simp [u8L]
 rw [e2] at o2;have HO:Hid (w2.ownsRow base 5 1 v2 (bs ++ pr2 n).length (u8L (bs ++ pr2 n))):=by show w2.ownsRow _ _ _ _ _ _; rw [List.length_append]; exact o2
 have HG:Hid (w.grownBy w2 (Value.slice va bs.length vc).ownBlock):=(grown_of_below hal _).trans g2;have HD:Hid (v2.ownBlock=(Value.slice va bs.length vc).ownBlock∨∃ g,w.heap.size≤g∧v2.ownBlock=some g):=by
  rcases d2 with d | d
  ·exact .inl d
  ·exact .inr ⟨_,by have:=hal.size; omega,d⟩
 clear o2 g2 d2 e2;obtain ⟨a2,n2,c2,e2⟩:∃ a n c,v2 = .slice a n c:=by
  obtain ⟨_,⟨h1,h2⟩ | ⟨k,cap,cur,h1,_⟩⟩:=HO.out
  ·exact ⟨none,0,0,h1⟩
  ·exact ⟨_,_,cap,h1⟩
 subst e2;go_wp2_with fail
 go_ret;exact ⟨_,rfl,HO.out,HG.out,HD.out⟩

/-- A record's beginning, and a record. -/
def headB (t:ByteArray):List UInt8:=pr2 t.size ++ t.data.toList
def recB (t:ByteArray):List UInt8:=headB t ++ pr2 (crcL 7439 (headB t))
theorem crcL_lt:∀ (bs:List UInt8) (s:Nat),s<65536→crcL s bs<65536
 | [],_,h=>h
 | _ :: r,s,_=>by
  rw [crcL]
  exact crcL_lt r _ crcI_lt
theorem headB_len (t:ByteArray):(headB t).length=t.size+2:=by
 unfold headB;rw [List.length_append,show t.data.toList.length=t.size from Array.length_toList];show 2+t.size=_;omega
theorem recB_len (t:ByteArray):(recB t).length=t.size+4:=by
 unfold recB;rw [List.length_append,headB_len];rfl
theorem own_lsU {W:World} {base:Nat} {v:Value} {bs:List UInt8} (h:W.ownsRow base 5 1 v bs.length (u8L bs)):∃ a cap,v = .slice a bs.length cap∧LsE EnU 1 (fun b=>base≤b) W a bs:=by
 have cells:=fun g hg i u hu=>World.ownsRow.cells h (g:=g) hg i u hu
 have hlt:=h.lt;obtain ⟨hx,⟨e1,e2⟩ | ⟨k,cap,cur,e1,h4⟩⟩:=h
 ·exact ⟨none,0,by rw [e1,e2],.inl (List.length_eq_zero_iff.1 e2)⟩
 ·subst e1;have:=hlt k rfl;refine ⟨_,cap,rfl,.inr ⟨k,0,rfl,this.1,this.2,fun i hi=>⟨[.int .u8 ((bs[i].toNat:Nat):Int)],rfl,fun j u hu=>?_,rfl⟩⟩⟩
  match j,hu with
  | 0,hu =>
   have:=cells k rfl i (.int .u8 ((bs[i].toNat:Nat):Int)) (by simp [u8L,hi]);cases hu;rw [addr_addS,Nat.zero_add] at this
   simpa using this
  | j+1,hu=>simp at hu
theorem own_val {W:World} {base n:Nat} {v:Value} {xs:List Value} (h:W.ownsRow base 5 1 v n xs):∃ a cap,v = .slice a n cap:=by
 obtain ⟨_,⟨h1,h2⟩ | ⟨k,cap,cur,h1,_⟩⟩:=h
 ·exact ⟨none,0,by rw [h1,h2]⟩
 ·exact ⟨_,cap,h1⟩
theorem record_at (t:ByteArray) (ht:t.size≤4000) {w:World} (h0:1≤w.heap.size):Calls Tryz.prog 24 #[.string t] w fun e w'=>Below w.heap.size w w'∧∃ v,e = .returned v∧w'.ownsRow w.heap.size 5 1 v (recB t).length (u8L (recB t)):=by
 obtain ⟨PB,hPB⟩:∃ PB,w.heap.size=PB+1:=⟨w.heap.size - 1,by omega⟩
 have con1:=appendPair_at (base:=w.heap.size) (v:=.slice none 0 0) (bs:=[]) (w:=w) t.size (by omega) (by simpa [u8L] using World.ownsRow_nil _ _ _ _) (Nat.le_refl _) (by simp);have hz:(t.size:Int)<65536:=by omega
 have HT:Hid (t.size≤4000):=ht;have HB:Hid (w.heap.size=PB+1):=hPB;have el:(pr2 t.size).length=2:=rfl;have hh:headB t=pr2 t.size ++ t.data.toList:=rfl;have HH:Hid (headB t=pr2 t.size ++ t.data.toList):=hh;have hr:recB t=headB t ++ pr2 (crcL 7439 (headB t)):=rfl;have HR:Hid (recB t=headB t ++ pr2 (crcL 7439 (headB t))):=hr;clear hh hr ht h0 hPB;rw [List.nil_append] at con1;generalize recB t=R at *;go_enter Tryz.func24,Tryz.ntmps24;go_wp2_with fail
 refine con1.mono ?_;rintro e w1 ⟨v1,rfl,o1,g1,d1⟩;have hb1:Below w.heap.size w w1:=(Below.refl _ _).grown g1 (Nat.le_refl _) (fun k e=>by cases e);have hs1:=hb1.size;generalize pr2 t.size=p1 at *;obtain ⟨a1,c1,e1⟩:=own_val o1;have O1:Hid (w1.ownsRow (PB+1) 5 1 v1 p1.length (u8L p1)):=by show World.ownsRow _ _ _ _ _ _ _; rw [← HB.out]; exact o1
 have HE:Hid (p1.length=2):=el;have HB1:Hid (Below w.heap.size w w1):=hb1;have o1':=O1.out;subst e1;clear con1 o1 g1 d1 el hb1;have hbb:p1.length+t.size≤1099511627776:=by have:=HE.out; have:=HT.out; omega
 have hlt1:PB+1≤w1.heap.size:=by have:=HB.out; omega
 go_wp2_with (first | (at_builtin; refine wpList_append_str rfl _ _ rfl rfl o1' t rfl hbb hlt1 ?_))
 intro v2 w2 o2 g2 d2;have hb2:Below w.heap.size w w2:=HB1.out.grown g2 hs1 (fun k e=>by have:=(O1.out.lt k e).1; have:=HB.out; omega);have e2:u8L p1 ++ u8L t.data.toList=u8L (headB t):=by rw [HH.out]; simp [u8L]
 have e3:p1.length+t.size=(headB t).length:=by rw [headB_len]; have:=HE.out; omega
 rw [e2,e3,← HB.out] at o2;have hl3:=headB_len t;generalize headB t=H at *;have HL3:Hid (H.length=t.size+2):=hl3;have hs2:=hb2.size;have O2:Hid (w2.ownsRow w.heap.size 5 1 v2 H.length (u8L H)):=o2;have HB2:Hid (Below w.heap.size w w2):=hb2;obtain ⟨a2,c2,e4,L2⟩:=own_lsU o2;subst e4;clear O1 o1' hbb hlt1 o2 g2 d2 e2 e3 hl3 hb2 HE HH HB1;have con2:=checkSum_at H a2 c2 _ L2 (by have:=HL3.out; have:=HT.out; omega);have hcr:=crcL_lt H 7439 (by decide);generalize crcL 7439 H=ck at *;have HCK:Hid (ck<65536):=hcr;go_wp2_with fail
 refine con2.mono ?_;rintro e w3 ⟨rfl,rfl⟩;have con3:=appendPair_at (base:=w.heap.size) (w:=w3) ck HCK.out O2.out hs2 (by have:=HL3.out; have:=HT.out; omega);clear con2 L2;go_wp2_with fail
 refine con3.mono ?_;rintro e w4 ⟨v4,rfl,o4,g4,d4⟩;have hb4:Below w.heap.size w w4:=HB2.out.grown g4 hs2 (fun k e=>(O2.out.lt k e).1);rw [← HR.out] at o4;have O4:Hid _:=o4;have HB4:Hid _:=hb4;obtain ⟨a4,c4,e4⟩:=own_val o4;subst e4;clear con3 o4 g4 d4 hb4;go_wp2_with fail
 go_ret;exact ⟨HB4.out,_,rfl,O4.out⟩

def recAtP (bs:List UInt8):ByteArray × Nat :=
 if bs.length<2 then (eB,0) else if bs.length<2+prOf bs+2 then (eB,0) else if prOf (bs.drop (2+prOf bs))=crcL 7439 (bs.take (2+prOf bs)) then (⟨((bs.drop 2).take (prOf bs)).toArray⟩,2+prOf bs+2) else (eB,0)
theorem LsE.dropU {S:Nat→Prop} {W:World} {b off:Nat} {bs:List UInt8} (h:LsE EnU 1 S W (some ⟨b,off,none⟩) bs) (k:Nat):LsE EnU 1 S W (some ⟨b,off+k,none⟩) (bs.drop k):=by
 rcases h with rfl | ⟨b',off',e,h1,h2,h3⟩
 ·exact .inl (by simp)
 ·cases e;refine .inr ⟨b,off+k,rfl,h1,h2,fun i hi=>?_⟩;rw [List.length_drop] at hi;obtain ⟨cs,c1,c2,c3⟩:=h3 (k+i) (by omega);refine ⟨cs,c1,fun j u hu=>?_,by rw [List.getElem_drop]; exact c3⟩;have:=c2 j u hu
  rwa [show off+(k+i)*1+j=off+k+i*1+j by omega] at this
theorem LsE.takeU {S:Nat→Prop} {W:World} {a:Option Addr} {bs:List UInt8} (h:LsE EnU 1 S W a bs) (k:Nat):LsE EnU 1 S W a (bs.take k):=by
 rcases h with rfl | ⟨b,off,e,h1,h2,h3⟩
 ·exact .inl (by simp)
 ·refine .inr ⟨b,off,e,h1,h2,fun i hi=>?_⟩;rw [List.length_take] at hi;obtain ⟨cs,c1,c2,c3⟩:=h3 i (by omega);exact ⟨cs,c1,c2,by rw [List.getElem_take]; exact c3⟩
theorem LsE.convU {S:Nat→Prop} {W:World} {b off n cap:Nat} {bs:List UInt8} (h:LsE EnU 1 S W (some ⟨b,off,none⟩) bs) (hn:n=bs.length):(convert 24 9 (.slice (some ⟨b,off,none⟩) n cap)).run Tryz.prog W = .ok (.string ⟨bs.toArray⟩) W:=by
 subst hn;refine run_convert_bytes_back W _ _ 5 ⟨b,off,none⟩ cap bs (by kernel_rfl) (by kernel_rfl) (by kernel_rfl) (fun j hj=>?_);obtain ⟨b',off',e,y⟩:=h.getU hj;cases e;rw [addr_addS];exact y
theorem recordAt_at (bs:List UInt8) (a:Option Addr) (cap:Nat) (S:Nat→Prop) {w:World} (hl:LsE EnU 1 S w a bs) (hc:bs.length≤cap) (hn:bs.length≤100000):Calls Tryz.prog 25 #[.slice a bs.length cap] w fun e w'=>e = .returned (.tuple #[.string (recAtP bs).1,.int .i64 ((recAtP bs).2:Nat)])∧Below w.heap.size w w':=by
 generalize hM:recAtP bs=M;unfold recAtP at hM;by_cases h2:bs.length<2
 ·rw [if_pos h2] at hM;subst hM;have h2z:(bs.length:Int)<2:=by omega
  clear hl h2;go_enter Tryz.func25,Tryz.ntmps25;go_wp2_with fail
  exact bodyPost_ret (v:=.tuple #[.string eB,.int .i64 0]) (by simp [results,Tryz.results25,go_sem]) rfl ⟨rfl,Below.refl _ _⟩
 ·rw [if_neg h2] at hM;obtain ⟨b,off,rfl,_⟩:=hl.getU (i:=0) (by omega);have con1:=pairOf_at bs _ cap _ hl (by omega);have hm:=prOf_lt bs;generalize prOf bs=m at *;have HM:Hid _:=hM;have HL:Hid (LsE EnU 1 S w (some ⟨b,off,none⟩) bs):=hl;have h2z:¬ (bs.length:Int)<2:=by omega
  clear hM hl;by_cases h3:bs.length<2+m+2
  ·have e:M=(eB,0):=by rw [← HM.out,if_pos h3]
   subst e;have h3z:(bs.length:Int)<2+(m:Int)+2:=by omega
   clear HM;go_enter Tryz.func25,Tryz.ntmps25;go_wp2_with fail
   refine con1.mono ?_;rintro e w1 ⟨rfl,hb1⟩;go_upto_region 4 with fail
   go_region
   go_wp2_with fail
   exact bodyPost_ret (v:=.tuple #[.string eB,.int .i64 0]) (by simp [results,Tryz.results25,go_sem]) rfl ⟨rfl,hb1.drew⟩
  ·have h3z:¬ (bs.length:Int)<2+(m:Int)+2:=by omega
   obtain ⟨x,hx⟩:∃ x,2+m=x:=⟨_,rfl⟩
   have HX:Hid (2+m=x):=hx;have hM2:=HM.out;rw [if_neg h3,hx] at hM2;have HM2:Hid _:=hM2;have LD:=HL.out.dropU x;have LT:=HL.out.takeU x;clear HM hM2;go_enter Tryz.func25,Tryz.ntmps25;go_wp2_with fail
   refine con1.mono ?_;rintro e w1 ⟨rfl,hb1⟩;have hxz:(2:Int)+(m:Int)=(x:Int):=by omega
   clear h3z;have h3z:¬ (bs.length:Int)<(x:Int)+2:=by omega
   go_upto_region 4 with fail
   have hle1:x≤bs.length:=by omega
   have hle2:x≤cap:=by omega
   have h0:0≤x:=by omega
   have cP:∀ n:Past w1,Calls Tryz.prog 54 #[.slice (some ⟨b,off+x,none⟩) (bs.length - x) (cap - x)] n.now fun e w'=>e = .returned (.int .u16 (prOf (bs.drop x):Nat))∧Below n.now.heap.size n.now w':=fun n=>by
    have:=pairOf_at (bs.drop x) (some ⟨b,off+x,none⟩) (cap - x) S (w:=n.now) (LD.keep enU (Keeps'.of (chain hb1 n.ok))) (by rw [List.length_drop]; omega)
    rwa [List.length_drop] at this
   have cS:∀ n:Past w1,Calls Tryz.prog 53 #[.slice (some ⟨b,off,none⟩) x cap] n.now fun e w'=>e = .returned (.int .u16 (crcL 7439 (bs.take x):Nat))∧Below n.now.heap.size n.now w':=fun n=>by
    have:=checkSum_at (bs.take x) (some ⟨b,off,none⟩) cap S (w:=n.now) (LT.keep enU (Keeps'.of (chain hb1 n.ok))) (by rw [List.length_take]; omega);rw [List.length_take,Nat.min_eq_left hle1] at this;exact this.mono fun e w' ⟨h1,h2⟩=>⟨h1,by rw [h2]; exact Below.refl _ _⟩
   have hdz:decide ((bs.length:Int)<(x:Int)+2)=false:=by rw [decide_eq_false_iff_not]; omega
   clear con1 hx hxz;refine wp_region_past (by kernel_rfl) (by kernel_rfl) ?_
   repeat (go_big_quiet_step (first | (go_at_call 54; exact in_past (cP _)) | (go_at_call 53; exact in_past (cS _)) | rfl))
   refine wpQuiet_nil ?_;rintro w3 ⟨⟨v3,hb3⟩,h3⟩;obtain rfl:w3=v3:=h3;have LV:=(HL.out.dropU 2).takeU m;have hlv:((bs.drop 2).take m).length=x - 2:=by rw [List.length_take,List.length_drop]; have:=HX.out; omega
   have hcv:=(LV.keep enU (Keeps'.of (chain hb1 hb3))).convU (n:=x - 2) (cap:=cap - 2) hlv.symm;clear LV hlv LD LT cP cS hdz;have hbe:=chain hb1 hb3;generalize prOf (bs.drop x)=p at *;generalize crcL 7439 (bs.take x)=s at *;generalize (bs.drop 2).take m=t at *;by_cases e:p=s
   ·have hz:((p:Int) != (s:Int))=false:=by rw [bne_eq_false_iff_eq,e]
    have HE:Hid (M=(⟨t.toArray⟩,x+2)):=by show M=_; rw [← HM2.out,if_pos e]
    have hx2:(2:Int)≤(x:Int):=by have:=HX.out; omega
    clear e HM2;go_wp2_with fail
    exact bodyPost_ret (v:=.tuple #[.string ⟨t.toArray⟩,.int .i64 ((x:Int)+2)]) (by simp [results,Tryz.results25,go_sem]) rfl ⟨by rw [HE.out]; rfl,hbe⟩
   ·have hz:((p:Int) != (s:Int))=true:=by rw [bne_iff_ne]; omega
    have e2:M=(eB,0):=by rw [← HM2.out,if_neg e]
    subst e2;clear e HM2;go_wp2_with fail
    exact bodyPost_ret (v:=.tuple #[.string eB,.int .i64 0]) (by simp [results,Tryz.results25,go_sem]) rfl ⟨rfl,hbe⟩

/-- The records of statements, one behind the other. -/
def bytP:Nat→List UInt8→List Stm→Except Er (List UInt8)
 | _,bs,[]=>.ok bs
 | i,bs,x :: r=>if (prnP [x]).2.1≠0 then .error ((prnP [x]).2.1,i) else if 100000<(bs ++ recB (prnP [x]).1).length then .error (4,i) else bytP (i+1) (bs ++ recB (prnP [x]).1) r
def BytEnds (w:World) (r:Except Er (List UInt8)) (e:Ending) (w':World):Prop :=
 Below w.heap.size w w'∧match r with
  | .error c=>e = .returned (.tuple #[.slice none 0 0,.agg #[.int .i64 c.1,.int .i64 c.2]])
  | .ok bs=>∃ a cap,e = .returned (.tuple #[.slice a bs.length cap,.agg #[.int .i64 0,.int .i64 0]])∧LsE EnU 1 (fun b=>w.heap.size≤b) w' a bs∧bs.length≤cap
theorem prn_size {l:List Stm} (h:(prnP l).2.1=0):(prnP l).1.size≤4000:=by
 unfold prnP at h ⊢;by_cases hw:(wrongC l).1≠0
 ·rw [if_pos hw] at h; exact absurd h hw
 ·rw [if_neg hw] at h ⊢;have:∀ (l:List Stm) (bs bs':List UInt8),bs.length≤4000→prnG bs l=some bs'→bs'.length≤4000:=by
   intro l
   induction l with
   | nil=>intro bs bs' hb e; rw [prnG] at e; cases e; exact hb
   | cons x r ih =>
    intro bs bs' hb e;rw [prnG] at e;by_cases hc:4000<(sayL bs (stmW x)).length
    ·rw [if_pos hc] at e; cases e
    ·rw [if_neg hc] at e; exact ih _ _ (by omega) e
  cases e:prnG [] l with
  | none=>rw [e] at h; exact absurd h (by decide)
  | some bs =>
   have:=this l [] bs (by decide) e;show bs.toArray.size≤4000
   simpa using this
theorem LsE.midj {S:Nat→Prop} {W:World} {a:Option Addr} {l:List Stm} (h:LsE En16 16 S W a l) {j:Nat} (hj:j<l.length):∃ b off,a=some ⟨b,off,none⟩∧∃ V:Array Value,V.size=16∧W.rangeAt b (off+j*16) V.toList∧En16 S W l[j] V.toList:=by
 rcases h with rfl | ⟨b,off,e,_,_,h3⟩
 ·simp at hj
 ·obtain ⟨cs,c1,c2,c3⟩:=h3 j hj;exact ⟨b,off,e,cs.toArray,by simpa using c1,fun i u hu=>c2 i u hu,c3⟩
theorem own_lsC {W:World} {base:Nat} {v:Value} {bs:List UInt8} (h:W.ownsRow base 5 1 v bs.length (u8L bs)):∃ a cap,v = .slice a bs.length cap∧bs.length≤cap∧LsE EnU 1 (fun b=>base≤b) W a bs:=by
 obtain ⟨a,cap,e,hl⟩:=own_lsU h;refine ⟨a,cap,e,?_,hl⟩;obtain ⟨_,⟨e1,e2⟩ | ⟨k,cap',cur,e1,_,_,hc,_⟩⟩:=h
 ·omega
 ·rw [e] at e1;injection e1 with _ _ e3
  omega
theorem Bytes_at (l:List Stm) (a:Option Addr) (c:Nat) {w:World} (hG:GP w w.heap.size) (hn:l.length≤1000000000000000) (hks:LsE En16 16 (fun b=>b<w.heap.size) w a l):Calls Tryz.prog 10 #[.slice a l.length c] w (BytEnds w (bytP 0 [] l)):=by
 obtain ⟨i0,hi0,hj0,hj1,hj2⟩:=info_parts infoB;generalize hM:bytP 0 [] l=M;have HM:Hid (bytP 0 [] (l.drop 0)=M):=hM;have hal1:Below w.heap.size w (w.alloc (.cells #[.int .i64 0,.int .i64 0] 27)):=(Below.refl _ _).alloc (Nat.le_refl _) _;have QF:=heap_new w #[.int .i64 0,.int .i64 0] 27;have HK:Hid (LsE En16 16 (fun b=>b<w.heap.size) (w.alloc (.cells #[.int .i64 0,.int .i64 0] 27)) a l):=hks.nx en16 hal1;have HG:Hid (GP (w.alloc (.cells #[.int .i64 0,.int .i64 0] 27)) w.heap.size):=hG.up hal1 (Nat.le_refl _) (Nat.le_refl _);have hl1:=lt_of_heap QF;clear hM hks hG
 go_enter Tryz.func10,Tryz.ntmps10;go_upto_region 1 with fail
 generalize (w.alloc (.cells #[.int .i64 0,.int .i64 0] 27))=w1 at *;go_wp2_with fail
 go_loopw [4,11] (fun ov iv wr=>∃ (j:Nat) (v:Value) (bs:List UInt8),v=ov∧j≤l.length∧iv = .int .i64 j∧bs.length≤100000∧Hid (wr.ownsRow w1.heap.size 5 1 v bs.length (u8L bs))∧Hid (Below w1.heap.size w1 wr)∧Hid (bytP j bs (l.drop j)=M)) (fun _ iv _=>l.length - (RowKit.intOf iv).toNat)
 case atStart=>exact ⟨0,.slice none 0 0,[],rfl,Nat.zero_le _,rfl,by decide,by show World.ownsRow _ _ _ _ _ _ _; simpa [u8L] using World.ownsRow_nil _ _ _ _,Below.refl _ _,HM⟩
 case round =>
  obtain ⟨j,v,bs,rfl,hj,rfl,hbs,HO,HB,HK1⟩:=hrel;by_cases hlt:j<l.length
  ·have hjz:(j:Int)<(l.length:Int):=by omega
   have hL:=HK1.out;rw [List.drop_eq_getElem_cons hlt,bytP] at hL;have HKr:LsE En16 16 (fun b=>b<w.heap.size) wr a l:=HK.out.keep en16 ⟨HB.out.size,fun b hb hl=>HB.out.block b (by omega)⟩;obtain ⟨b,off,rfl,V,hV,hR,hE⟩:=HKr.midj hlt;generalize l[j]=x at *;obtain ⟨P,hP⟩:∃ P,prnP [x]=P:=⟨_,rfl⟩
   have hsz:=prn_size (l:=[x]);rw [hP] at hL hsz;have HL:Hid _:=hL;obtain ⟨v0,v1,v2,v3,v4,v5,v6,v7,v8,v9,v10,v11,v12,v13,v14,v15,rfl⟩:=arr16 hV;obtain ⟨_,h16⟩:=En16.size (V:=#[v0,v1,v2,v3,v4,v5,v6,v7,v8,v9,v10,v11,v12,v13,v14,v15]) hE;have hs1:=HB.out.size;have halV:Below wr.heap.size wr (wr.alloc (.cells #[v0,v1,v2,v3,v4,v5,v6,v7,v8,v9,v10,v11,v12,v13,v14,v15] 57)):=(Below.refl _ _).alloc (Nat.le_refl _) _;have QV:=heap_new wr #[v0,v1,v2,v3,v4,v5,v6,v7,v8,v9,v10,v11,v12,v13,v14,v15] 57;have hsz2:=halV.size
   have con1:=written_at x #[v0,v1,v2,v3,v4,v5,v6,v7,v8,v9,v10,v11,v12,v13,v14,v15] (w:=wr.alloc (.cells #[v0,v1,v2,v3,v4,v5,v6,v7,v8,v9,v10,v11,v12,v13,v14,v15] 57)) (en16.mono (fun b hb _=>by have:b<w.heap.size:=hb; show b<_; omega) (en16.next (Keeps'.of halV) hE)) (HG.out.up (HB.out.trans (halV.mono hs1)) (by omega) (by omega));rw [hP] at con1;have HO1:Hid ((wr.alloc (.cells #[v0,v1,v2,v3,v4,v5,v6,v7,v8,v9,v10,v11,v12,v13,v14,v15] 57)).ownsRow w1.heap.size 5 1 v bs.length (u8L bs)):=own_next HO.out halV
   have HB1:Hid (Below w1.heap.size w1 (wr.alloc (.cells #[v0,v1,v2,v3,v4,v5,v6,v7,v8,v9,v10,v11,v12,v13,v14,v15] 57))):=HB.out.trans (halV.mono hs1);clear hL HK1 HKr hE hP halV HO HB;obtain ⟨va,vc,hv⟩:=own_val HO1.out;subst hv;go_upto_region 5 with (first | (refine wpList_load_mid rfl 57 _ rfl b (off+j*16) rfl [v0,v1,v2,v3,v4,v5,v6,v7,v8,v9,v10,v11,v12,v13,v14,v15] _ hR Tryz.underlying57 rfl sz16 ?_) | (refine wpList_store_new rfl 57 _ _ rfl z16A #[v0,v1,v2,v3,v4,v5,v6,v7,v8,v9,v10,v11,v12,v13,v14,v15] rfl rfl sz16 rfl h16 ?_))
   generalize (wr.alloc (.cells #[v0,v1,v2,v3,v4,v5,v6,v7,v8,v9,v10,v11,v12,v13,v14,v15] 57))=w2 at *;go_wp2_with (first | (refine wpList_load_row rfl 57 _ rfl wr.heap.size rfl 57 #[v0,v1,v2,v3,v4,v5,v6,v7,v8,v9,v10,v11,v12,v13,v14,v15] (0,0) _ QV Tryz.underlying57 rfl sz16 ?_))
   refine con1.mono ?_;rintro e w3 ⟨hb3,rfl⟩;have HO3:Hid (w3.ownsRow w1.heap.size 5 1 (.slice va bs.length vc) bs.length (u8L bs)):=own_next HO1.out hb3;have hB3:=HB1.out.trans (hb3.mono (by omega));have HB3:Hid (Below w1.heap.size w1 w3):=hB3;have hs3:=hB3.size;have QF3:=(hB3.block _ hl1).trans QF;clear con1 hR QV HO1 HB1 hb3;by_cases he:P.2.1=0
   case neg =>
    have e:M = .error (P.2.1,(j:Int)):=by rw [← HL.out,if_pos he]
    subst e;have hez:(P.2.1 != 0)=true:=by rw [bne_iff_ne]; exact he
    obtain ⟨f0,f1⟩:=cells2 QF3;obtain ⟨g0,g1⟩:=froz2 QF3;clear he HL hsz;go_wp2_with fail
    have QE:=st2_heap QF3 (.int .i64 P.2.1) (.int .i64 j);have hbE:=st2_b (g:=w.heap.size) (hal1.trans (hB3.mono (by omega))) (Nat.le_refl _) (.int .i64 P.2.1) (.int .i64 j);generalize ((w3.setCell ⟨w.heap.size,0,none⟩ (.int .i64 P.2.1)).setCell ⟨w.heap.size,1,none⟩ (.int .i64 j))=wE at *;obtain ⟨x0,x1⟩:=cells2 QE;exact bodyPost_ret (v:=.tuple #[.slice none 0 0,.agg #[.int .i64 P.2.1,.int .i64 j]]) (by simp [results,Tryz.results10,go_sem,x0,x1]) rfl ⟨hbE,rfl⟩
   case pos =>
    have hL:=HL.out;rw [if_neg (by simpa using he)] at hL;have hz4:=hsz he;have hez:(P.2.1 != 0)=false:=by rw [bne_eq_false_iff_eq]; exact he
    have con2:=record_at P.1 hz4 (w:=w3) (by omega);have hrl:=recB_len P.1;generalize recB P.1=rb at *;have HRL:Hid (rb.length≤4004∧1≤rb.length):=by show _∧_; omega
    have HL2:Hid ((if 100000<(bs ++ rb).length then .error (4,(j:Int)) else bytP (j+1) (bs ++ rb) (l.drop (j+1)))=M):=hL;clear hL HL he hsz hz4 hrl;go_wp2_with fail
    refine con2.mono ?_;rintro e w4 ⟨hb4,u,rfl,o4⟩;have hO4:w4.ownsRow w1.heap.size 5 1 (.slice va bs.length vc) bs.length (u8L bs):=own_next HO3.out hb4;have HB4:Hid (Below w1.heap.size w1 w4):=HB3.out.trans (hb4.mono hs3);have hs4:=hb4.size;obtain ⟨ua,uc,eu⟩:=own_val o4;have hcells:=fun g hg i x hu=>World.ownsRow.cells o4 (g:=g) hg i x hu
    have hown:=o4;subst eu;clear con2 HB3 HO3 hb4;by_cases hr0:rb = []
    ·exact absurd HRL.out.2 (by rw [hr0]; decide)
    obtain ⟨g,hg⟩:∃ g,ua=some ⟨g,0,none⟩:=by
     obtain ⟨_,⟨h1,h2⟩ | ⟨k,cap,cur,h1,_⟩⟩:=o4
     ·exact absurd (List.length_eq_zero_iff.1 h2) hr0
     ·injection h1 with h1 _ _; exact ⟨k,h1⟩
    subst hg;have hnews:∀ i u,(u8L rb)[i]? = some u→w4.cell? ((⟨g,0,none⟩:Addr).add i)=some u:=fun i u hu=>hcells g rfl i u hu
    clear hcells hown o4 hr0;go_wp2_with (first | (at_builtin; refine wpList_append_at rfl _ _ 24 rfl w1.heap.size 5 i0 _ 1 1 Tryz.underlying24 hi0 hj0 hj1 hj2 rfl (by decide) _ _ _ rfl hO4 ⟨g,0,none⟩ rb.length uc (u8L rb) rfl ?Ac0 hnews ?Ac2 ?Ac3 ?Ac4 ?Ac5 ?_))
    case Ac0=>simp [u8L]
    case Ac2=>intro u hu; simp only [u8L,List.mem_map] at hu; obtain ⟨b,_,rfl⟩:=hu; rfl
    case Ac3=>unfold maxLen; have:=HRL.out.1; omega
    case Ac4=>have:=HRL.out.1; omega
    case Ac5=>omega
    intro v5 w5 o5 g5 d5;have e5:u8L bs ++ u8L rb=u8L (bs ++ rb):=by simp [u8L]
    rw [e5,← List.length_append] at o5;have HO5:Hid (w5.ownsRow w1.heap.size 5 1 v5 (bs ++ rb).length (u8L (bs ++ rb))):=o5;have hB5:Below w1.heap.size w1 w5:=HB4.out.grown g5 (by omega) (fun k e=>(hO4.lt k e).1);have HB5:Hid (Below w1.heap.size w1 w5):=hB5;have QF5:=(hB5.block _ hl1).trans QF;have hll:(bs ++ rb).length=bs.length+rb.length:=List.length_append;have hRl:=HRL.out.1;have HLL:Hid ((bs ++ rb).length≤104004):=by show _≤_; omega
    generalize bs ++ rb=bs2 at *;obtain ⟨va5,vc5,ev5⟩:=own_val o5;subst ev5;clear o5 g5 d5 e5 hO4 hnews HB4 hll hRl;by_cases hbig:100000<bs2.length
    ·have e:M = .error (4,(j:Int)):=by rw [← HL2.out,if_pos hbig]
     subst e;have hbz:(100000:Int)<(bs2.length:Int):=by omega
     obtain ⟨f0,f1⟩:=cells2 QF5;obtain ⟨q0,q1⟩:=froz2 QF5;clear hbig HL2;go_wp2_with fail
     have QE:=st2_heap QF5 (.int .i64 4) (.int .i64 j);have hbE:=st2_b (g:=w.heap.size) (hal1.trans (hB5.mono (by omega))) (Nat.le_refl _) (.int .i64 4) (.int .i64 j);generalize ((w5.setCell ⟨w.heap.size,0,none⟩ (.int .i64 4)).setCell ⟨w.heap.size,1,none⟩ (.int .i64 j))=wE at *;obtain ⟨x0,x1⟩:=cells2 QE;exact bodyPost_ret (v:=.tuple #[.slice none 0 0,.agg #[.int .i64 4,.int .i64 j]]) (by simp [results,Tryz.results10,go_sem,x0,x1]) rfl ⟨hbE,rfl⟩
    ·have hbz:¬ (100000:Int)<(bs2.length:Int):=by omega
     have HL3:Hid (bytP (j+1) bs2 (l.drop (j+1))=M):=by show _=_; rw [← HL2.out,if_neg hbig]
     clear HL2 QF5 hB5;go_wp2_with fail
     go_roundw
     case rel=>exact ⟨j+1,_,bs2,rfl,by omega,by go_num,by omega,HO5,HB5,HL3⟩
     case measure=>simp [RowKit.intOf]; omega
  ·have hjz:¬ (j:Int)<(l.length:Int):=by omega
   have e:M = .ok bs:=by rw [← HK1.out,List.drop_of_length_le (by omega),bytP]
   subst e;have hB:=HB.out;have QFb:=(hB.block _ hl1).trans QF;obtain ⟨f0,f1⟩:=cells2 QFb;obtain ⟨q0,q1⟩:=froz2 QFb;obtain ⟨va,vc,hv,hle,LL⟩:=own_lsC HO.out;subst hv;have HLL:Hid (LsE EnU 1 (fun b=>w1.heap.size≤b) wr va bs):=LL;clear HK1 HO LL HK HG;go_wp2_with fail
   have QE:=st2_heap QFb (.int .i64 0) (.int .i64 0);have hbE:=st2_b (g:=w.heap.size) (hal1.trans (hB.mono (by omega))) (Nat.le_refl _) (.int .i64 0) (.int .i64 0)
   have LE:LsE EnU 1 (fun b=>w.heap.size≤b) ((wr.setCell ⟨w.heap.size,0,none⟩ (.int .i64 0)).setCell ⟨w.heap.size,1,none⟩ (.int .i64 0)) va bs:=(HLL.out.keep enU ⟨by simp,fun b hb _=>by have hb:w1.heap.size≤b:=hb; rw [Below.heap_setCell _ ⟨w.heap.size,1,none⟩ _ b (by show b≠w.heap.size; omega),Below.heap_setCell _ ⟨w.heap.size,0,none⟩ _ b (by show b≠w.heap.size; omega)]⟩).mono enU (fun b hb _=>by have:w1.heap.size≤b:=hb; show _≤b; omega);generalize ((wr.setCell ⟨w.heap.size,0,none⟩ (.int .i64 0)).setCell ⟨w.heap.size,1,none⟩ (.int .i64 0))=wE at *;obtain ⟨x0,x1⟩:=cells2 QE
   exact bodyPost_ret (v:=.tuple #[.slice va bs.length vc,.agg #[.int .i64 0,.int .i64 0]]) (by simp [results,Tryz.results10,go_sem,x0,x1]) rfl ⟨hbE,va,vc,rfl,LE,hle⟩
end Go.Proofs.YtoknmnngaackkaaGreatDoor
