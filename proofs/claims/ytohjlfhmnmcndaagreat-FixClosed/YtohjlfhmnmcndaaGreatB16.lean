/- Together: E9, XOpen, AOpen, EOpen, ZOpen, ZOpen2, POpen, QOpen. -/
import Derived.Deep.Slices
import Derived.Deep.Strs
import Derived.ProofKit
import Derived.OpenShut
import Derived.ChangeOld
import Derived.Lib.SmallJoins
import Derived.SizedLaws
import Derived.Test.YtohjlfhmnmcndaaGreatB15
import Derived.Test.YtohjlfhmnmcndaaGreatB14
import Derived.Test.YtohjlfhmnmcndaaGreatB5
import Derived.Test.YtohjlfhmnmcndaaGreatB8
import Derived.Test.YtohjlfhmnmcndaaGreatB1
import Derived.Test.YtohjlfhmnmcndaaGreatB10
/- A region of the laws by facts: tables and one more, sets and one more, and what a plan comes to of them. -/
namespace Go.Proofs.YtohjlfhmnmcndaaGreat
open Go.RowKit Go.Lib Go.Shelf

def AllD (d:Nat→Bool):Prop:=d 2=true∧d 5=true∧d 9=true∧d 12=true
def f7 (lo:Nat) (ta:Option Addr) (tc n:Nat) (xs:List Value) (ca:Option Addr) (cl cc:Nat) (V:Value) (da:Option Addr) (dc m:Nat) (ys:List Value) (za:Option Addr) (zl zc:Nat) (ee:Int) (ez:List Zp) (d:Nat→Bool) (k:Nat) (w:World) (v:Value):Prop:=match k with
 | 0=>d 2=true∨∃ g,v = .slice (some ⟨g,0,none⟩) 0 0∧lo≤g∧w.heap[g]? = some (.cells #[] 45 (0,0))
 | 1=>v = .slice ta n tc
 | 2=>d 5=true∨(w.ownsRow lo 45 1 v n xs∧(n=0→∃ g,v = .slice (some ⟨g,0,none⟩) 0 0))
 | 3=>v = .slice ca cl cc
 | 4=>∃ b,v = .slice (some ⟨b,0,none⟩) 1 1∧w.heap[b]? = some (.cells #[.slice ca cl cc] 45 (0,0))
 | 5=>(d 2=true∧d 5=true)∧w.ownsRow lo 45 1 v (n+1) (xs ++ [.slice ca cl cc])
 | 6=>v=V
 | 7=>d 9=true∨∃ g,v = .slice (some ⟨g,0,none⟩) 0 0∧lo≤g∧w.heap[g]? = some (.cells #[] 34 (0,0))
 | 8=>v = .slice da m dc
 | 9=>d 12=true∨(w.ownsRow lo 34 1 v m ys∧(m=0→∃ g,v = .slice (some ⟨g,0,none⟩) 0 0))
 | 10=>v = .slice za zl zc
 | 11=>∃ b,v = .slice (some ⟨b,0,none⟩) 1 1∧w.heap[b]? = some (.cells #[.slice za zl zc] 34 (0,0))
 | 12=>(d 9=true∧d 12=true)∧w.ownsRow lo 34 1 v (m+1) (ys ++ [.slice za zl zc])
 | 13=>AllD d∧∃ u,v = .tuple #[u,.int .i64 ee]∧OwnZ lo w u ez
 | 14=>AllD d∧∃ u,v = .tuple #[u,.int .i64 ee]∧OwnZ lo w u ez
 | 15=>AllD d∧OwnZ lo w v ez
 | 16=>v = .int .i64 ee
 | 17=>AllD d∧OwnZ lo w v ez
 | 18=>v = .int .i64 ee
 | _=>True
/-- A list of one's own was changed where it lay. -/
def Exc (T:TypeId) (lo:Nat) (z:Bool) (w w':World):Prop:=∃ g cs,lo≤g∧w.heap[g]? = some (.cells cs T (0,0))∧cs.size≠1∧(cs.size=0→z=true)∧w.grownBy w' (some g)
def g7 (lo i:Nat) (w w':World):Prop:=Below w.heap.size w w'∨((i=2∨i=5)∧Exc 45 lo (i == 2) w w')∨((i=9∨i=12)∧Exc 34 lo (i == 9) w w')
theorem own_below {w w':World} {base:Nat} {e:TypeId} {v:Value} {n:Nat} {xs:List Value} (h:w.ownsRow base e 1 v n xs) (hb:Below w.heap.size w w'):w'.ownsRow base e 1 v n xs :=
 h.kept (row:=none) ⟨hb.os,hb.tape,hb.output,hb.size,fun k hk _=>hb.block k hk⟩ (by cases v.ownBlock <;> simp)
theorem own_apart {w w':World} {base g:Nat} {e T:TypeId} {v:Value} {n:Nat} {xs:List Value} {cs:Array Value} (h:w.ownsRow base e 1 v n xs) (hq:w.heap[g]? = some (.cells cs T (0,0))) (hT:T≠e) (hg:w.grownBy w' (some g)):w'.ownsRow base e 1 v n xs:=by
 refine h.kept hg ?_
 rcases h with ⟨_,⟨rfl,_⟩ | ⟨g',cap,cur,rfl,_,hh,_⟩⟩
 ·exact .inl rfl
 ·refine .inr fun c=>?_
  have c:g'=g:=by simpa [Value.ownBlock] using c
  subst c
  rw [hq] at hh
  have hh:=Option.some.inj hh
  injection hh with _ h2
  exact hT h2
theorem blk_apart {w w':World} {b g:Nat} {cs cs':Array Value} {T T':TypeId} (h:w.heap[b]? = some (.cells cs' T' (0,0))) (hq:w.heap[g]? = some (.cells cs T (0,0))) (hT:T≠T'∨cs.size≠cs'.size) (hg:w.grownBy w' (some g)):w'.heap[b]? = some (.cells cs' T' (0,0)):=by
 rw [hg.block b (lt_of_heap h) ?_]
 ·exact h
 ·intro c
  have c:=Option.some.inj c
  subst c
  rw [h] at hq
  have hq:=Option.some.inj hq
  injection hq with h1 h2
  subst h1 h2
  rcases hT with h | h <;> exact h rfl
theorem done_of {d:Nat→Bool} {i k:Nat} (h:d k=true):doneAt d i k=true:=by unfold doneAt; split <;> simp [h]
theorem done_at (d:Nat→Bool) (i:Nat):doneAt d i i=true:=by unfold doneAt; rw [if_pos rfl]
theorem AllD.at_ {d:Nat→Bool} {i:Nat} (h:AllD d):AllD (doneAt d i):=⟨done_of h.1,done_of h.2.1,done_of h.2.2.1,done_of h.2.2.2⟩
theorem f7_next (lo:Nat) (ta:Option Addr) (tc n:Nat) (xs:List Value) (ca:Option Addr) (cl cc:Nat) (V:Value) (da:Option Addr) (dc m:Nat) (ys:List Value) (za:Option Addr) (zl zc:Nat) (ee:Int) (ez:List Zp):∀ d i j w w' v,j≠i→d i=false→f7 lo ta tc n xs ca cl cc V da dc m ys za zl zc ee ez d j w v→g7 lo i w w'→f7 lo ta tc n xs ca cl cc V da dc m ys za zl zc ee ez (doneAt d i) j w' v:=by
 intro d i j w w' v hne hd h hg
 rcases hg with hb | ⟨hi,g,cs,hlo,hq,h1,h0,hg⟩ | ⟨hi,g,cs,hlo,hq,h1,h0,hg⟩
 ·match j,h with
  | 0,h =>
   rcases h with h | ⟨g,e,hl,h⟩
   ·exact .inl (done_of h)
   ·exact .inr ⟨g,e,hl,(hb.block g (lt_of_heap h)).trans h⟩
  | 1,h =>
   exact h
  | 2,h =>
   rcases h with h | ⟨h,h'⟩
   ·exact .inl (done_of h)
   ·exact .inr ⟨own_below h hb,h'⟩
  | 3,h =>
   exact h
  | 4,h =>
   obtain ⟨b,e,h⟩:=h
   exact ⟨b,e,(hb.block b (lt_of_heap h)).trans h⟩
  | 5,h =>
   exact ⟨⟨done_of h.1.1,done_of h.1.2⟩,own_below h.2 hb⟩
  | 6,h =>
   exact h
  | 7,h =>
   rcases h with h | ⟨g,e,hl,h⟩
   ·exact .inl (done_of h)
   ·exact .inr ⟨g,e,hl,(hb.block g (lt_of_heap h)).trans h⟩
  | 8,h =>
   exact h
  | 9,h =>
   rcases h with h | ⟨h,h'⟩
   ·exact .inl (done_of h)
   ·exact .inr ⟨own_below h hb,h'⟩
  | 10,h =>
   exact h
  | 11,h =>
   obtain ⟨b,e,h⟩:=h
   exact ⟨b,e,(hb.block b (lt_of_heap h)).trans h⟩
  | 12,h =>
   exact ⟨⟨done_of h.1.1,done_of h.1.2⟩,own_below h.2 hb⟩
  | 13,h =>
   obtain ⟨h0,u,e,h⟩:=h
   exact ⟨h0.at_,u,e,h.next hb⟩
  | 14,h =>
   obtain ⟨h0,u,e,h⟩:=h
   exact ⟨h0.at_,u,e,h.next hb⟩
  | 15,h =>
   exact ⟨h.1.at_,h.2.next hb⟩
  | 16,h =>
   exact h
  | 17,h =>
   exact ⟨h.1.at_,h.2.next hb⟩
  | 18,h =>
   exact h
  | _+19,h=>exact trivial
 ·match j,h with
  | 0,h =>
   rcases h with h | ⟨g',e,hl,h⟩
   ·exact .inl (done_of h)
   ·rcases hi with rfl | rfl
    ·exact .inl (done_at d 2)
    ·exact .inr ⟨g',e,hl,blk_apart h hq (.inr fun c=>by simp at c; have:=h0 (by simp [c]); simp at this) hg⟩
  | 1,h =>
   exact h
  | 2,h =>
   rcases h with h | h
   ·exact .inl (done_of h)
   ·rcases hi with rfl | rfl
    ·exact absurd rfl hne
    ·exact .inl (done_at d 5)
  | 3,h =>
   exact h
  | 4,h =>
   obtain ⟨b,e,h⟩:=h
   exact ⟨b,e,blk_apart h hq (.inr h1) hg⟩
  | 5,h =>
   exfalso
   rcases hi with rfl | rfl
   ·have:=h.1.1; rw [hd] at this; cases this
   ·have:=h.1.2; rw [hd] at this; cases this
  | 6,h =>
   exact h
  | 7,h =>
   rcases h with h | ⟨g',e,hl,h⟩
   ·exact .inl (done_of h)
   ·exact .inr ⟨g',e,hl,blk_apart h hq (.inl (by decide)) hg⟩
  | 8,h =>
   exact h
  | 9,h =>
   rcases h with h | ⟨h,h'⟩
   ·exact .inl (done_of h)
   ·exact .inr ⟨own_apart h hq (by decide) hg,h'⟩
  | 10,h =>
   exact h
  | 11,h =>
   obtain ⟨b,e,h⟩:=h
   exact ⟨b,e,blk_apart h hq (.inl (by decide)) hg⟩
  | 12,h =>
   exact ⟨⟨done_of h.1.1,done_of h.1.2⟩,own_apart h.2 hq (by decide) hg⟩
  | 13,h =>
   exfalso
   rcases hi with rfl | rfl
   ·have:=h.1.1; rw [hd] at this; cases this
   ·have:=h.1.2.1; rw [hd] at this; cases this
  | 14,h =>
   exfalso
   rcases hi with rfl | rfl
   ·have:=h.1.1; rw [hd] at this; cases this
   ·have:=h.1.2.1; rw [hd] at this; cases this
  | 15,h =>
   exfalso
   rcases hi with rfl | rfl
   ·have:=h.1.1; rw [hd] at this; cases this
   ·have:=h.1.2.1; rw [hd] at this; cases this
  | 16,h =>
   exact h
  | 17,h =>
   exfalso
   rcases hi with rfl | rfl
   ·have:=h.1.1; rw [hd] at this; cases this
   ·have:=h.1.2.1; rw [hd] at this; cases this
  | 18,h =>
   exact h
  | _+19,h=>exact trivial
 ·match j,h with
  | 0,h =>
   rcases h with h | ⟨g',e,hl,h⟩
   ·exact .inl (done_of h)
   ·exact .inr ⟨g',e,hl,blk_apart h hq (.inl (by decide)) hg⟩
  | 1,h =>
   exact h
  | 2,h =>
   rcases h with h | ⟨h,h'⟩
   ·exact .inl (done_of h)
   ·exact .inr ⟨own_apart h hq (by decide) hg,h'⟩
  | 3,h =>
   exact h
  | 4,h =>
   obtain ⟨b,e,h⟩:=h
   exact ⟨b,e,blk_apart h hq (.inl (by decide)) hg⟩
  | 5,h =>
   exact ⟨⟨done_of h.1.1,done_of h.1.2⟩,own_apart h.2 hq (by decide) hg⟩
  | 6,h =>
   exact h
  | 7,h =>
   rcases h with h | ⟨g',e,hl,h⟩
   ·exact .inl (done_of h)
   ·rcases hi with rfl | rfl
    ·exact .inl (done_at d 9)
    ·exact .inr ⟨g',e,hl,blk_apart h hq (.inr fun c=>by simp at c; have:=h0 (by simp [c]); simp at this) hg⟩
  | 8,h =>
   exact h
  | 9,h =>
   rcases h with h | h
   ·exact .inl (done_of h)
   ·rcases hi with rfl | rfl
    ·exact absurd rfl hne
    ·exact .inl (done_at d 12)
  | 10,h =>
   exact h
  | 11,h =>
   obtain ⟨b,e,h⟩:=h
   exact ⟨b,e,blk_apart h hq (.inr h1) hg⟩
  | 12,h =>
   exfalso
   rcases hi with rfl | rfl
   ·have:=h.1.1; rw [hd] at this; cases this
   ·have:=h.1.2; rw [hd] at this; cases this
  | 13,h =>
   exfalso
   rcases hi with rfl | rfl
   ·have:=h.1.2.2.1; rw [hd] at this; cases this
   ·have:=h.1.2.2.2; rw [hd] at this; cases this
  | 14,h =>
   exfalso
   rcases hi with rfl | rfl
   ·have:=h.1.2.2.1; rw [hd] at this; cases this
   ·have:=h.1.2.2.2; rw [hd] at this; cases this
  | 15,h =>
   exfalso
   rcases hi with rfl | rfl
   ·have:=h.1.2.2.1; rw [hd] at this; cases this
   ·have:=h.1.2.2.2; rw [hd] at this; cases this
  | 16,h =>
   exact h
  | 17,h =>
   exfalso
   rcases hi with rfl | rfl
   ·have:=h.1.2.2.1; rw [hd] at this; cases this
   ·have:=h.1.2.2.2; rw [hd] at this; cases this
  | 18,h =>
   exact h
  | _+19,h=>exact trivial
/-- Appending, as one of the region's operations. -/
theorem app7 {w:World} {lo:Nat} {t ty e:TypeId} {inf:TypeInfo} (z:Bool) (ht:Tryz.prog.underlying t=some (.slice e)) (hi:Tryz.prog.info? e=some inf) (hz:inf.zero=some (.slice none 0 0)) (hsize:inf.size=1) (hby:inf.bytes=24) {v:Value} {n:Nat} {xs:List Value} (hown:w.ownsRow lo e 1 v n xs) {ao:Option Addr} {m:Nat} (c:Nat) {news:List Value} (hr:Raw w ao m 1 news) (hnm:n+m≤1000) (hlo:lo≤w.heap.size) (hv:(∃ g,v = .slice (some ⟨g,0,none⟩) 0 0)∨(1≤n∧m=1)) (hz0:n+m=0→z=true) :
  ∃ v' w',(Builtin.append_ #[t,t] ty #[v,.slice ao m c]).run Tryz.prog w = .ok v' w'∧w'.ownsRow lo e 1 v' (n+m) (xs ++ news)∧(n+m=0→v'=v)∧(Below w.heap.size w w'∨Exc e lo z w w'):=by
 obtain ⟨v',w',h1,h2,h3,h4⟩:=run_app (P:=Tryz.prog) w lo t ty e inf _ 24 ht hi hz hsize hby rfl v n xs hown ao m c news hr (by unfold maxLen; omega) (by omega) hlo
 refine ⟨v',w',h1,h2,h3,?_⟩
 rcases h4 with h4 | ⟨g,cap,cs,ev,hroom,hq,hs,hg,hgr⟩
 ·exact .inl h4
 refine .inr ⟨g,cs,hg,hq,?_,?_,hgr⟩
 ·rcases hv with ⟨g',e'⟩ | ⟨h5,h6⟩
  ·rw [e'] at ev
   injection ev with _ _ e3
   omega
  ·omega
 ·intro h0
  exact hz0 (by omega)
theorem c7_next {w0 w w':World} {i:Nat} (h:Below w0.heap.size w0 w) (hg:g7 w0.heap.size i w w'):Below w0.heap.size w0 w':=by
 rcases hg with hb | ⟨_,g,cs,hlo,hq,_,_,hg⟩ | ⟨_,g,cs,hlo,hq,_,_,hg⟩
 ·exact chain h hb
 ·exact h.grown hg h.size (fun q hq=>by have:=Option.some.inj hq; omega)
 ·exact h.grown hg h.size (fun q hq=>by have:=Option.some.inj hq; omega)
end Go.Proofs.YtohjlfhmnmcndaaGreat
/- Opening arguments: numbers, values, expressions. -/
namespace Go.Proofs.YtohjlfhmnmcndaaGreat
open Go.ChangeShapes Go.WideShapes Go.ChangeAt Go.RowKit Go.Joins

set_option maxRecDepth 100000 in
theorem addr_addX (b off i:Nat):(⟨b,off,none⟩:Addr).add i=⟨b,off+i,none⟩:=by
 unfold Addr.add
 by_cases h:i=0 <;> simp [h]
theorem q3:Tryz.prog.cellsOf 3=1:=by kernel_rfl
theorem q2:Tryz.prog.cellsOf 2=1:=by kernel_rfl
theorem q9:Tryz.prog.cellsOf 9=1:=by kernel_rfl
theorem q24:Tryz.prog.cellsOf 24=3:=by kernel_rfl
theorem q25:Tryz.prog.cellsOf 25=1:=by kernel_rfl
theorem q27:Tryz.prog.cellsOf 27=6:=by kernel_rfl
set_option maxRecDepth 100000 in
theorem open_valT {H:Type} {enc:TypeId × Value→H} {W:World} {base:Nat} {sp:Nat→Bool} {hd:Bool} {fuel:Nat} {cs:List Value} {x:DataW H × List MemPlace}
  (h:DataW.trod enc Tryz.prog W base sp hd fuel 24 cs=some x):∃ v:Vl,cs = [.int .i64 v.1,.int .i64 v.2.1,.string v.2.2]:=by
 obtain ⟨y0,y1,y2,m,_,hlen,h0,h1,h2⟩:=Go.Deep.trod_struct3 Tryz.underlying24 h
 rw [q24] at hlen
 match cs,hlen with
 | [c0,c1,c2],_ =>
  simp only [q3,q2,q9] at h0 h1 h2
  obtain ⟨k,e0,_,_⟩:=DataW.trod_int Tryz.underlying3 h0
  obtain ⟨n,e1,_,_⟩:=DataW.trod_int Tryz.underlying2 h1
  obtain ⟨s,e2,_,_⟩:=DataW.trod_string Tryz.underlying9 h2
  simp at e0 e1 e2
  subst e0 e1 e2
  exact ⟨(k,n,s),rfl⟩
instance:Inhabited Ex:=⟨.mk 0 (0,0,⟨#[]⟩) 0 []⟩
/-- The kids' opening, at less fuel. -/
def KidsOpen {H:Type} (enc:TypeId × Value→H) (W:World) (hd:Bool) (m:Nat):Prop :=
 ∀ cs x,DataW.trod enc Tryz.prog W 0 (fun _=>true) hd m 25 cs=some x→∃ (a:Option Addr) (cap:Nat) (l:List Ex),cs = [.slice a l.length cap]∧KsAt W.heap.size W a l
set_option maxRecDepth 100000 in
theorem open_exprT {H:Type} {enc:TypeId × Value→H} {W:World} {hd:Bool} {fuel:Nat} (ih:∀ m,m<fuel→KidsOpen enc W hd m) {cs:List Value} {x:DataW H × List MemPlace}
  (h:DataW.trod enc Tryz.prog W 0 (fun _=>true) hd fuel 27 cs=some x) :
  ∃ (e:Ex) (a:Option Addr) (cap:Nat),cs = [.int .i64 e.k,.int .i64 e.v.1,.int .i64 e.v.2.1,.string e.v.2.2,.int .i64 e.c,.slice a e.ks.length cap]∧KsAt W.heap.size W a e.ks:=by
 obtain ⟨xs,n,hn,_,hl,hlen,hf⟩:=DataW.trod_struct Tryz.underlying27 h
 rw [q27] at hl
 match xs,hlen with
 | [y0,y1,y2,y3],_ =>
  have h0:=hf 0 _ rfl
  have h1:=hf 1 _ rfl
  have h2:=hf 2 _ rfl
  have h3:=hf 3 _ rfl
  match cs,hl with
  | [c0,c1,c2,c3,c4,c5],_ =>
   simp [q3,q24,q25] at h0 h1 h2 h3
   obtain ⟨k,e0,_,_⟩:=DataW.trod_int Tryz.underlying3 h0
   obtain ⟨v,e1⟩:=open_valT h1
   obtain ⟨c,e2,_,_⟩:=DataW.trod_int Tryz.underlying3 h2
   obtain ⟨a,cap,l,e3,hk⟩:=ih n (by omega) _ _ h3
   simp at e0 e1 e2 e3
   obtain ⟨r1,r2,r3⟩:=e1
   subst e0 r1 r2 r3 e2 e3
   exact ⟨.mk k v c l,a,cap,rfl,hk⟩
set_option maxRecDepth 100000 in
theorem kidsOpen {H:Type} (enc:TypeId × Value→H) (W:World) (hd:Bool) (fuel:Nat):KidsOpen enc W hd fuel:=by
 induction fuel using Nat.strongRecOn with
 | ind fuel ih =>
  intro cs x h
  rcases DataW.trod_slice Tryz.underlying25 h with ⟨hcs,_⟩ | ⟨a,len,cap,elems,rest,n,hn,hcs,_,_,_,_,hlen,hel,_,_⟩
  ·exact ⟨none,0,[],hcs,.nil _⟩
  ·rw [q27] at hel
   obtain ⟨f,hf⟩:=Go.Deep.choose_lt (α:=Ex × Option Addr × Nat) (n:=len) (p:=fun i (y:Ex × Option Addr × Nat) =>
     (W.cell? ((a.add (i*6)).add 0)=some (.int .i64 y.1.k)∧W.cell? ((a.add (i*6)).add 1)=some (.int .i64 y.1.v.1)∧W.cell? ((a.add (i*6)).add 2)=some (.int .i64 y.1.v.2.1)∧W.cell? ((a.add (i*6)).add 3)=some (.string y.1.v.2.2) ∧
      W.cell? ((a.add (i*6)).add 4)=some (.int .i64 y.1.c)∧W.cell? ((a.add (i*6)).add 5)=some (.slice y.2.1 y.1.ks.length y.2.2))∧KsAt W.heap.size W y.2.1 y.1.ks) (fun i hi=>by
    have key:=hel i hi
    rw [List.getElem?_eq_getElem (by omega)] at key
    obtain ⟨cs',h1,h2⟩:=Option.bind_eq_some_iff.1 key
    obtain ⟨_,hl6,hcell⟩:=World.cells?_some h1
    obtain ⟨e,ai,ci,rfl,hk⟩:=open_exprT (fun m hm=>ih m (by omega)) h2
    exact ⟨(e,ai,ci),⟨hcell 0 (by simp),hcell 1 (by simp),hcell 2 (by simp),hcell 3 (by simp),hcell 4 (by simp),hcell 5 (by simp)⟩,hk⟩)
   refine ⟨some a,cap,(List.range len).map fun i=>(f i).1,by simpa using hcs,?_⟩
   by_cases h0:len=0
   ·subst h0; exact .nil _
   ·obtain ⟨b,off,spot⟩:=a
    have hc:=(hf 0 (by omega)).1.1
    have hspot:spot=none:=by simpa [Addr.add] using World.cell?_spot hc
    subst hspot
    refine .some b off _ (fun i=>(f i).2.1) (fun i=>(f i).2.2) (World.block_lt_of_cell? W _ (by simpa [Addr.add] using hc)) (fun i hi=>?_) (fun i hi=>?_)
    ·have hi':i<len:=by simpa using hi
     have:=(hf i hi').1
     simp only [addr_addX] at this
     simp only [List.getElem_map,List.getElem_range]
     exact ⟨this.1,this.2.1,this.2.2.1,this.2.2.2.1,this.2.2.2.2.1,this.2.2.2.2.2⟩
    ·have hi':i<len:=by simpa using hi
     simp only [List.getElem_map,List.getElem_range]
     exact (hf i hi').2
end Go.Proofs.YtohjlfhmnmcndaaGreat
/- Opening lists of aggregates. -/
namespace Go.Proofs.YtohjlfhmnmcndaaGreat
open Go.ChangeShapes Go.WideShapes Go.ChangeAt Go.RowKit Go.Joins

theorem qAgg:Tryz.prog.cellsOf 133=7:=by kernel_rfl
set_option maxRecDepth 100000 in
theorem open_aggT {H:Type} {enc:TypeId × Value→H} {W:World} {hd:Bool} {fuel:Nat} {cs:List Value} {x:DataW H × List MemPlace}
  (h:DataW.trod enc Tryz.prog W 0 (fun _=>true) hd fuel 133 cs=some x) :
  ∃ (g:Ag) (a:Option Addr) (cap:Nat),cs = [.int .i64 g.1,.int .i64 g.2.k,.int .i64 g.2.v.1,.int .i64 g.2.v.2.1,.string g.2.v.2.2,.int .i64 g.2.c,.slice a g.2.ks.length cap]∧KsAt W.heap.size W a g.2.ks:=by
 obtain ⟨xs,n,hn,_,hl,hlen,hf⟩:=DataW.trod_struct Tryz.underlying133 h
 rw [qAgg] at hl
 match xs,hlen with
 | [y0,y1],_ =>
  have h0:=hf 0 _ rfl
  have h1:=hf 1 _ rfl
  match cs,hl with
  | [c0,c1,c2,c3,c4,c5,c6],_ =>
   simp [q3,q27] at h0 h1
   obtain ⟨k,e0,_,_⟩:=DataW.trod_int Tryz.underlying3 h0
   obtain ⟨e,a,cap,e1,hk⟩:=open_exprT (fun m _=>kidsOpen enc W hd m) h1
   simp at e0 e1
   obtain ⟨r1,r2,r3,r4,r5,r6⟩:=e1
   subst e0 r1 r2 r3 r4 r5 r6
   exact ⟨(k,e),a,cap,rfl,hk⟩
instance:Inhabited Ag:=⟨(0,.mk 0 (0,0,⟨#[]⟩) 0 [])⟩
theorem bytes_agg:8≤Tryz.prog.bytesOf 133:=by decide +kernel
end Go.Proofs.YtohjlfhmnmcndaaGreat
/- How long the lists of expressions may be that are read. -/
namespace Go.Proofs.YtohjlfhmnmcndaaGreat
open Go.ChangeShapes Go.WideShapes Go.ChangeAt Go.RowKit Go.Joins

theorem bytes_expr:8≤Tryz.prog.bytesOf 27:=by decide +kernel
end Go.Proofs.YtohjlfhmnmcndaaGreat
/- Opening arguments: slices of values, and slices of rows with weights. -/
namespace Go.Proofs.YtohjlfhmnmcndaaGreat
open Go.ChangeShapes Go.WideShapes Go.ChangeAt Go.RowKit Go.Joins

set_option maxRecDepth 100000 in
theorem addr_add (b off i:Nat):(⟨b,off,none⟩:Addr).add i=⟨b,off+i,none⟩:=by
 unfold Addr.add
 by_cases h:i=0 <;> simp [h]
set_option maxRecDepth 100000 in
theorem open_row {H:Type} {enc:TypeId × Value→H} {W:World} {base:Nat} {sp:Nat→Bool} {hd:Bool} {fuel:Nat} {cs:List Value} {x:DataW H × List MemPlace} {a:Addr}
  (hc:W.cells? base a 3=some cs) (h:DataW.trod enc Tryz.prog W base sp hd fuel 24 cs=some x) :
  ∃ v:Vl,W.cell? (a.add 0)=some (.int .i64 v.1)∧W.cell? (a.add 1)=some (.int .i64 v.2.1)∧W.cell? (a.add 2)=some (.string v.2.2):=by
 obtain ⟨_,hlen,hcell⟩:=World.cells?_some hc
 obtain ⟨y0,y1,y2,m,_,_,h0,h1,h2⟩:=Go.Deep.trod_struct3 Tryz.underlying24 h
 have q3:Tryz.prog.cellsOf 3=1:=by kernel_rfl
 have q2:Tryz.prog.cellsOf 2=1:=by kernel_rfl
 have q9:Tryz.prog.cellsOf 9=1:=by kernel_rfl
 match cs,hlen with
 | [c0,c1,c2],_ =>
  simp only [q3,q2,q9] at h0 h1 h2
  obtain ⟨k,e0,_,_⟩:=DataW.trod_int Tryz.underlying3 h0
  obtain ⟨n,e1,_,_⟩:=DataW.trod_int Tryz.underlying2 h1
  obtain ⟨s,e2,_,_⟩:=DataW.trod_string Tryz.underlying9 h2
  simp at e0 e1 e2
  subst e0 e1 e2
  exact ⟨(k,n,s),hcell 0 (by omega),hcell 1 (by omega),hcell 2 (by omega)⟩
set_option maxRecDepth 100000 in
theorem open_valsT {H:Type} {enc:TypeId × Value→H} {W:World} {hd:Bool} {fuel:Nat} {cs:List Value} {x:DataW H × List MemPlace}
  (hf:DataW.trod enc Tryz.prog W 0 (fun _=>true) hd fuel 56 cs=some x):∃ (a:Option Addr) (cap:Nat) (l:List Vl),cs = [.slice a l.length cap]∧SlAt W a l:=by
 rcases Go.Deep.open_slice Tryz.underlying56 hf with ⟨hcs,_⟩ | ⟨a,len,cap,m,n,D,Pl,hcs,_,hl,hm,hmm,_,hx⟩
 ·exact ⟨none,0,[],hcs,by simp,.inl rfl⟩
 ·have q:Tryz.prog.cellsOf 24=3:=by kernel_rfl
  rw [q] at hx
  simp only [if_true] at hmm
  obtain ⟨f,hf'⟩:=Go.Deep.choose_lt (α:=Vl) (n:=len) (p:=fun i (v:Vl)=>W.cell? ((a.add (i*3)).add 0)=some (.int .i64 v.1)∧W.cell? ((a.add (i*3)).add 1)=some (.int .i64 v.2.1)∧W.cell? ((a.add (i*3)).add 2)=some (.string v.2.2)) (fun i hi=>by
   obtain ⟨cs',h1,h2⟩:=hx i (by omega)
   exact open_row h1 h2)
  refine ⟨some a,cap,(List.range len).map f,by simpa using hcs,?_,?_⟩
  ·simp; omega
  by_cases h0:len=0
  ·left; simp [h0]
  ·right
   obtain ⟨b,off,spot⟩:=a
   have hc:=(hf' 0 (by omega)).1
   have hspot:spot=none:=by simpa [Addr.add] using World.cell?_spot hc
   subst hspot
   refine ⟨b,off,rfl,fun i hi=>?_,?_⟩
   ·have hi':i<len:=by simpa using hi
    have:=hf' i hi'
    simp only [addr_add] at this
    simp only [List.getElem_map,List.getElem_range]
    exact this
   ·exact World.block_lt_of_cell? W _ (by simpa [Addr.add] using hc)
set_option maxRecDepth 100000 in
theorem struct2 {P:Program} {H:Type} {enc:TypeId × Value→H} {w:World} {base:Nat} {spare:Nat→Bool} {held:Bool} {t:TypeId} {f0 f1:Field} {fuel:Nat} {cs:List Value} {x:DataW H × List MemPlace} (ht:P.underlying t=some (.struct #[f0,f1])) (h:DataW.trod enc P w base spare held fuel t cs=some x) :
  ∃ y0 y1 n,DataW.trod enc P w base spare held n f0.type ((cs.drop f0.offset).take (P.cellsOf f0.type))=some y0 ∧
   DataW.trod enc P w base spare held n f1.type ((cs.drop f1.offset).take (P.cellsOf f1.type))=some y1:=by
 obtain ⟨xs,n,_,rfl,hl,hlen,hf⟩:=DataW.trod_struct ht h
 match xs,hlen with
 | [y0,y1],_=>exact ⟨y0,y1,n,by simpa using hf 0 f0 rfl,by simpa using hf 1 f1 rfl⟩
set_option maxRecDepth 100000 in
theorem open_zrow {H:Type} {enc:TypeId × Value→H} {W:World} {hd:Bool} {fuel:Nat} {cs:List Value} {x:DataW H × List MemPlace} {a:Addr}
  (hc:W.cells? 0 a 2=some cs) (h:DataW.trod enc Tryz.prog W 0 (fun _=>true) hd fuel 58 cs=some x) :
  ∃ z:Zp,W.cell? (a.add 1)=some (.int .i64 z.2)∧∃ ai cap,W.cell? (a.add 0)=some (.slice ai z.1.length cap)∧SlAt W ai z.1:=by
 obtain ⟨_,hlen,hcell⟩:=World.cells?_some hc
 obtain ⟨y0,y1,n,h0,h1⟩:=struct2 Tryz.underlying58 h
 have q23:Tryz.prog.cellsOf 56=1:=by kernel_rfl
 have q2:Tryz.prog.cellsOf 2=1:=by kernel_rfl
 match cs,hlen with
 | [c0,c1],_ =>
  simp only [q23,q2] at h0 h1
  obtain ⟨ai,cap,l,e0,hs⟩:=open_valsT h0
  obtain ⟨k,e1,_,_⟩:=DataW.trod_int Tryz.underlying2 h1
  simp at e0 e1
  subst e0 e1
  exact ⟨(l,k),hcell 1 (by omega),ai,cap,hcell 0 (by omega),hs⟩
set_option maxRecDepth 100000 in
theorem open_zrows {H:Type} {enc:TypeId × Value→H} {W:World} {r:Reach} {b0:Nat} {v:Value} {d:DataW H} {p:List MemPlace}
  (hv:Value.okWide Tryz.prog W r b0 34 v) (h:DataW.Trod enc Tryz.prog W 0 (fun _=>true) true 34 v d p):∃ (a:Option Addr) (cap:Nat) (l:List Zp),v = .slice a l.length cap∧ZsAt W a l:=by
 obtain ⟨a0,len,cap,rfl⟩:=okWide_slice Tryz.underlying34 hv
 obtain ⟨fuel,hf⟩:=h
 rcases Go.Deep.open_slice Tryz.underlying34 hf with ⟨hcs,_⟩ | ⟨a,len',cap',m,n,D,Pl,hcs,_,hl,hm,hmm,_,hx⟩
 ·simp [Value.cells] at hcs
  obtain ⟨rfl,rfl,rfl⟩:=hcs
  exact ⟨none,0,[],rfl,by simp,.inl rfl⟩
 ·simp [Value.cells] at hcs
  obtain ⟨rfl,rfl,rfl⟩:=hcs
  have q:Tryz.prog.cellsOf 58=2:=by kernel_rfl
  rw [q] at hx
  simp only [if_true] at hmm
  obtain ⟨f,hf'⟩:=Go.Deep.choose_lt (α:=Zp) (n:=len) (p:=fun i (z:Zp)=>W.cell? ((a.add (i*2)).add 1)=some (.int .i64 z.2)∧∃ ai cap,W.cell? ((a.add (i*2)).add 0)=some (.slice ai z.1.length cap)∧SlAt W ai z.1) (fun i hi=>by
   obtain ⟨cs',h1,h2⟩:=hx i (by omega)
   exact open_zrow h1 h2)
  refine ⟨some a,cap,(List.range len).map f,by simp,?_,?_⟩
  ·simp; omega
  by_cases h0:len=0
  ·left; simp [h0]
  ·right
   obtain ⟨b,off,spot⟩:=a
   obtain ⟨_,_,hc,_⟩:=(hf' 0 (by omega)).2
   have hspot:spot=none:=by simpa [Addr.add] using World.cell?_spot hc
   subst hspot
   refine ⟨b,off,rfl,?_,fun i hi=>?_⟩
   ·exact World.block_lt_of_cell? W _ (by simpa [Addr.add] using hc)
   ·have hi':i<len:=by simpa using hi
    have:=hf' i hi'
    simp only [addr_add] at this
    simp only [List.getElem_map,List.getElem_range]
    exact this
end Go.Proofs.YtohjlfhmnmcndaaGreat
/- Opening arguments: slices of rows with weights; a nil one has no room. -/
namespace Go.Proofs.YtohjlfhmnmcndaaGreat
open Go.ChangeShapes Go.WideShapes Go.ChangeAt Go.RowKit Go.Joins

set_option maxRecDepth 100000 in
theorem open_zrows2 {H:Type} {enc:TypeId × Value→H} {W:World} {r:Reach} {b0:Nat} {v:Value} {d:DataW H} {p:List MemPlace}
  (hv:Value.okWide Tryz.prog W r b0 34 v) (h:DataW.Trod enc Tryz.prog W 0 (fun _=>true) true 34 v d p):∃ (a:Option Addr) (cap:Nat) (l:List Zp),v = .slice a l.length cap∧ZsAt W a l∧(a=none→cap=0):=by
 obtain ⟨a,cap,l,rfl,hz⟩:=open_zrows hv h
 refine ⟨a,cap,l,rfl,hz,?_⟩
 intro e
 subst e
 obtain ⟨fuel,hf⟩:=h
 rcases Go.Deep.open_slice Tryz.underlying34 hf with ⟨hcs,_⟩ | ⟨a,len',cap',m,n,D,Pl,hcs,_⟩
 ·simp [Value.cells] at hcs
  exact hcs.2
 ·simp [Value.cells] at hcs
end Go.Proofs.YtohjlfhmnmcndaaGreat
/- Opening plans, tables' columns and rows. -/
namespace Go.Proofs.YtohjlfhmnmcndaaGreat
open Go.ChangeShapes Go.WideShapes Go.ChangeAt Go.RowKit Go.Joins

/-- No part is larger than what can be reached. -/
def Light {H:Type} (t:TypeId) (d:DataW H):Prop:=∀ k ∈ d.weights Tryz.prog t,k≤reachBytes
theorem wf_i64 {n:Int} (h:(Lit.int .i64 n).wf=true):-9223372036854775808≤n∧n≤9223372036854775807:=by
 unfold Lit.wf at h
 rw [Bool.and_eq_true,decide_eq_true_eq,decide_eq_true_eq] at h
 exact h
theorem Light.part {H:Type} {t:TypeId} {fs:Array Field} {parts:List (DataW H)} (hu:Tryz.prog.underlying t=some (.struct fs)) (h:Light t (.agg parts)) {j:Nat} {f:Field} {d:DataW H} (hf:fs[j]? = some f) (hd:parts[j]? = some d):Light f.type d:=by
 intro k hk
 refine h k ?_
 rw [DataW.weights,hu]
 refine DataW.weights_mem_each (j:=j) (t:=f.type) ?_ hd k hk
 rw [List.getElem?_map,Array.getElem?_toList,hf]
 rfl
theorem weights_all {H:Type} {P:Program} {e:TypeId}:∀ {l:List (DataW H)} {d:DataW H},d ∈ l→∀ k ∈ d.weights P e,k ∈ DataW.weightsAll P e l
 | x :: l,d,hd,k,hk=>by
  rw [DataW.weightsAll,List.mem_append]
  rcases List.mem_cons.mp hd with rfl | hd
  ·exact .inl hk
  ·exact .inr (weights_all hd k hk)
theorem Light.elem {H:Type} {t e:TypeId} {l r:List (DataW H)} (hu:Tryz.prog.underlying t=some (.slice e)) (h:Light t (.slice l r)) {d:DataW H} (hd:d ∈ l):Light e d:=by
 intro k hk
 refine h k ?_
 rw [DataW.weights,hu]
 exact List.mem_cons_of_mem _ (List.mem_append_left _ (weights_all hd k hk))
theorem Light.len {H:Type} {enc:TypeId × Value→H} {W:World} {hd:Bool} {t e:TypeId} {fuel n cap:Nat} {a:Option Addr} {x:DataW H × List MemPlace} (hu:Tryz.prog.underlying t=some (.slice e)) (hb:8≤Tryz.prog.bytesOf e)
  (h:DataW.trod enc Tryz.prog W 0 (fun _=>true) hd fuel t [.slice a n cap]=some x) (hl:Light t x.1):n≤100000000000000:=by
 rcases DataW.trod_slice hu h with ⟨hcs,_⟩ | ⟨a',len,cap',elems,rest,m,hm,hcs,rfl,_,_,_,hlen,_⟩
 ·simp at hcs
  omega
 ·simp at hcs
  obtain ⟨rfl,rfl,rfl⟩:=hcs
  have h1:=hl ((elems.length+rest.length)*Tryz.prog.bytesOf e) (by rw [DataW.weights,hu]; simp)
  have h2:=reachBytes_lt
  have h4:n*8≤(elems.length+rest.length)*Tryz.prog.bytesOf e:=Nat.mul_le_mul (by omega) hb
  omega
set_option maxRecDepth 100000 in
theorem open_aggsT {H:Type} {enc:TypeId × Value→H} {W:World} {hd:Bool} {fuel:Nat} {cs:List Value} {x:DataW H × List MemPlace}
  (hf0:DataW.trod enc Tryz.prog W 0 (fun _=>true) hd fuel 28 cs=some x):∃ (a:Option Addr) (cap:Nat) (l:List Ag),cs = [.slice a l.length cap]∧AgAt W.heap.size W a l:=by
 rcases DataW.trod_slice Tryz.underlying28 hf0 with ⟨hcs,_⟩ | ⟨a,len,cap,elems,rest,n,hn,hcs,_,_,_,_,hlen,hel,_,_⟩
 ·exact ⟨none,0,[],hcs,.inl rfl⟩
 ·rw [qAgg] at hel
  obtain ⟨f,hf⟩:=Go.Deep.choose_lt (α:=Ag × Option Addr × Nat) (n:=len) (p:=fun i (y:Ag × Option Addr × Nat) =>
    (W.cell? ((a.add (i*7)).add 0)=some (.int .i64 y.1.1)∧W.cell? ((a.add (i*7)).add 1)=some (.int .i64 y.1.2.k)∧W.cell? ((a.add (i*7)).add 2)=some (.int .i64 y.1.2.v.1)∧W.cell? ((a.add (i*7)).add 3)=some (.int .i64 y.1.2.v.2.1)∧W.cell? ((a.add (i*7)).add 4)=some (.string y.1.2.v.2.2) ∧
     W.cell? ((a.add (i*7)).add 5)=some (.int .i64 y.1.2.c)∧W.cell? ((a.add (i*7)).add 6)=some (.slice y.2.1 y.1.2.ks.length y.2.2))∧KsAt W.heap.size W y.2.1 y.1.2.ks) (fun i hi=>by
   have key:=hel i hi
   rw [List.getElem?_eq_getElem (by omega)] at key
   obtain ⟨cs',h1,h2⟩:=Option.bind_eq_some_iff.1 key
   obtain ⟨_,hl6,hcell⟩:=World.cells?_some h1
   obtain ⟨e,ai,ci,rfl,hk⟩:=open_aggT h2
   exact ⟨(e,ai,ci),⟨hcell 0 (by simp),hcell 1 (by simp),hcell 2 (by simp),hcell 3 (by simp),hcell 4 (by simp),hcell 5 (by simp),hcell 6 (by simp)⟩,hk⟩)
  refine ⟨some a,cap,(List.range len).map fun i=>(f i).1,by simpa using hcs,?_⟩
  by_cases h0:len=0
  ·subst h0; exact .inl rfl
  ·obtain ⟨b,off,spot⟩:=a
   have hc:=(hf 0 (by omega)).1.1
   have hspot:spot=none:=by simpa [Addr.add] using World.cell?_spot hc
   subst hspot
   refine .inr ⟨b,off,fun i=>(f i).2.1,fun i=>(f i).2.2,rfl,World.block_lt_of_cell? W _ (by simpa [Addr.add] using hc),fun i hi=>?_⟩
   have hi':i<len:=by simpa using hi
   obtain ⟨⟨g0,g1,g2,g3,g4,g5,g6⟩,gk⟩:=hf i hi'
   simp only [addr_addX] at g0 g1 g2 g3 g4 g5 g6
   simp only [List.getElem_map,List.getElem_range]
   exact ⟨g0,⟨g1,g2,g3,g4,g5,g6⟩,gk⟩
theorem qPlan:Tryz.prog.cellsOf 31=11:=by kernel_rfl
theorem qXs:Tryz.prog.cellsOf 25=1:=by kernel_rfl
theorem qGs:Tryz.prog.cellsOf 28=1:=by kernel_rfl
theorem qKs:Tryz.prog.cellsOf 29=1:=by kernel_rfl
instance:Inhabited Pl:=⟨.mk 0 0 default [] [] []⟩
instance:Inhabited Pw:=⟨⟨none,0,none,0,none,0,none,0⟩⟩
/-- The cells of a plan. -/
def plO (p:Pl) (q:Pw):List Value:=[.int .i64 p.k,.int .i64 p.n,.int .i64 p.x.k,.int .i64 p.x.v.1,.int .i64 p.x.v.2.1,.string p.x.v.2.2,.int .i64 p.x.c,.slice q.xa p.x.ks.length q.xc,.slice q.sa p.xs.length q.sc,.slice q.ga p.gs.length q.gc,.slice q.ka p.ks.length q.kc]
def PlansOpen {H:Type} (enc:TypeId × Value→H) (W:World) (hd:Bool) (m:Nat):Prop :=
 ∀ cs x,DataW.trod enc Tryz.prog W 0 (fun _=>true) hd m 29 cs=some x→Light 29 x.1→∃ (a:Option Addr) (cap:Nat) (l:List Pl),cs = [.slice a l.length cap]∧PlAt W.heap.size W a l∧∀ p ∈ l,PlOk p
set_option maxRecDepth 100000 in
theorem open_planT {H:Type} {enc:TypeId × Value→H} {W:World} {hd:Bool} {fuel:Nat} (ih:∀ m,m<fuel→PlansOpen enc W hd m) {cs:List Value} {x:DataW H × List MemPlace}
  (h:DataW.trod enc Tryz.prog W 0 (fun _=>true) hd fuel 31 cs=some x) (hL:Light 31 x.1):∃ (p:Pl) (q:Pw),cs=plO p q∧PlB W.heap.size W p q∧PlOk p:=by
 obtain ⟨xs,n,hn,rfl,hl,hlen,hf⟩:=DataW.trod_struct Tryz.underlying31 h
 rw [qPlan] at hl
 match xs,hlen with
 | [y0,y1,y2,y3,y4,y5],_ =>
  have h0:=hf 0 _ rfl
  have h1:=hf 1 _ rfl
  have h2:=hf 2 _ rfl
  have h3:=hf 3 _ rfl
  have h4:=hf 4 _ rfl
  have h5:=hf 5 _ rfl
  have L3:=hL.part Tryz.underlying31 (j:=3) rfl rfl
  have L4:=hL.part Tryz.underlying31 (j:=4) rfl rfl
  have L5:=hL.part Tryz.underlying31 (j:=5) rfl rfl
  match cs,hl with
  | [c0,c1,c2,c3,c4,c5,c6,c7,c8,c9,c10],_ =>
   simp [q3,q27,qXs,qGs,qKs] at h0 h1 h2 h3 h4 h5
   obtain ⟨k,e0,_,_⟩:=DataW.trod_int Tryz.underlying3 h0
   obtain ⟨m,e1,_,hwf⟩:=DataW.trod_int Tryz.underlying3 h1
   obtain ⟨e,a2,cap2,e2,hk2⟩:=open_exprT (fun m _=>kidsOpen enc W hd m) h2
   obtain ⟨a3,cap3,l3,e3,hk3⟩:=kidsOpen enc W hd n _ _ h3
   obtain ⟨a4,cap4,l4,e4,hk4⟩:=open_aggsT h4
   obtain ⟨a5,cap5,l5,e5,hk5,hok5⟩:=ih n (by omega) _ _ h5 L5
   rw [e3] at h3
   rw [e4] at h4
   have b3:=Light.len Tryz.underlying25 bytes_expr h3 L3
   have b4:=Light.len Tryz.underlying28 bytes_agg h4 L4
   simp at e0 e1 e2 e3 e4 e5
   obtain ⟨r1,r2,r3,r4,r5,r6⟩:=e2
   subst e0 e1 r1 r2 r3 r4 r5 r6 e3 e4 e5
   exact ⟨.mk k m e l3 l4 l5,⟨a2,cap2,a3,cap3,a4,cap4,a5,cap5⟩,rfl,⟨hk2,hk3,hk4,hk5⟩,.mk _ _ _ _ _ _ (wf_i64 hwf) b3 b4 hok5⟩
set_option maxRecDepth 100000 in
theorem plansOpen {H:Type} (enc:TypeId × Value→H) (W:World) (hd:Bool) (fuel:Nat):PlansOpen enc W hd fuel:=by
 induction fuel using Nat.strongRecOn with
 | ind fuel ih =>
  intro cs x h hL
  rcases DataW.trod_slice Tryz.underlying29 h with ⟨hcs,_⟩ | ⟨a,len,cap,elems,rest,n,hn,hcs,rfl,_,_,_,hlen,hel,_,_⟩
  ·exact ⟨none,0,[],hcs,.nil _,fun p hp=>by cases hp⟩
  ·rw [qPlan] at hel
   obtain ⟨f,hf⟩:=Go.Deep.choose_lt (α:=Pl × Pw) (n:=len) (p:=fun i (y:Pl × Pw) =>
     (∀ j (hj:j<(plO y.1 y.2).length),W.cell? ((a.add (i*11)).add j)=some (plO y.1 y.2)[j])∧PlB W.heap.size W y.1 y.2∧PlOk y.1) (fun i hi=>by
    have key:=hel i hi
    rw [List.getElem?_eq_getElem (by omega)] at key
    obtain ⟨cs',h1,h2⟩:=Option.bind_eq_some_iff.1 key
    obtain ⟨_,hl6,hcell⟩:=World.cells?_some h1
    obtain ⟨p,q,rfl,hk,hok⟩:=open_planT (fun m hm=>ih m (by omega)) h2 (hL.elem Tryz.underlying29 (List.mem_map_of_mem (List.getElem_mem _)))
    exact ⟨(p,q),fun j hj=>(hcell j hj).trans (List.getElem?_eq_getElem hj),hk,hok⟩)
   refine ⟨some a,cap,(List.range len).map fun i=>(f i).1,by simpa using hcs,?_,?_⟩
   ·by_cases h0:len=0
    ·subst h0; exact .nil _
    ·obtain ⟨b,off,spot⟩:=a
     have hc:=(hf 0 (by omega)).1 0 (by simp [plO])
     have hspot:spot=none:=by simpa [Addr.add] using World.cell?_spot hc
     subst hspot
     have key:∀ i,i<len→Elv W b (off+i*11) (f i).1 (f i).2:=fun i hi=>by
      have g:=(hf i hi).1
      simp only [addr_addX] at g
      exact ⟨g 0 (by simp [plO]),g 1 (by simp [plO]),⟨g 2 (by simp [plO]),g 3 (by simp [plO]),g 4 (by simp [plO]),g 5 (by simp [plO]),g 6 (by simp [plO]),g 7 (by simp [plO])⟩,g 8 (by simp [plO]),g 9 (by simp [plO]),g 10 (by simp [plO])⟩
     refine .some b off _ (fun i=>(f i).2) (World.block_lt_of_cell? W _ (by simpa [Addr.add] using hc)) ?_ ?_ ?_ ?_ ?_ <;> (intro i hi; have hi':i<len:=by simpa using hi) <;> simp only [List.getElem_map,List.getElem_range]
     ·exact key i hi'
     ·exact (hf i hi').2.1.x
     ·exact (hf i hi').2.1.xs
     ·exact (hf i hi').2.1.gs
     ·exact (hf i hi').2.1.ks
   ·intro p hp
    obtain ⟨i,hi,rfl⟩:=List.mem_map.1 hp
    exact (hf i (by simpa using hi)).2.2
theorem light_arg {H:Type} {ts:List TypeId} {ds:List (DataW H)} {t:TypeId} {d:DataW H} (hs:(DataW.weightsEach Tryz.prog ts ds).all (· ≤ reachBytes)=true) {j:Nat} (ht:ts[j]? = some t) (hd:ds[j]? = some d):Light t d:=by
 intro k hk
 have:=List.all_eq_true.1 hs _ (DataW.weights_mem_each ht hd k hk)
 simpa using this
set_option maxRecDepth 100000 in
theorem open_plan {H:Type} {enc:TypeId × Value→H} {W:World} {r:Reach} {b0:Nat} {v:Value} {d:DataW H} {p:List MemPlace}
  (hv:Value.okWide Tryz.prog W r b0 31 v) (h:DataW.Trod enc Tryz.prog W 0 (fun _=>true) true 31 v d p) (hL:Light 31 d):∃ (e:Pl) (q:Pw),v=plV e q∧PlB W.heap.size W e q∧PlOk e:=by
 obtain ⟨cs,rfl,_⟩:=okWide_struct Tryz.underlying31 hv
 obtain ⟨fuel,hf⟩:=h
 obtain ⟨e,q,he,hk⟩:=open_planT (fun m _=>plansOpen enc W true m) hf hL
 refine ⟨e,q,?_,hk⟩
 have e':cs.toList=plO e q:=by simpa [Value.cells] using he
 exact congrArg Value.agg (Array.toList_inj.mp e')
end Go.Proofs.YtohjlfhmnmcndaaGreat
/- Opening tables' columns, tables' rows. -/
namespace Go.Proofs.YtohjlfhmnmcndaaGreat
open Go.ChangeShapes Go.WideShapes Go.ChangeAt Go.RowKit Go.Joins

theorem qZ:Tryz.prog.cellsOf 58=2:=by kernel_rfl
theorem qZs:Tryz.prog.cellsOf 34=1:=by kernel_rfl
theorem qIs:Tryz.prog.cellsOf 45=1:=by kernel_rfl
set_option maxRecDepth 100000 in
theorem open_zrowsT {H:Type} {enc:TypeId × Value→H} {W:World} {hd:Bool} {fuel:Nat} {cs:List Value} {x:DataW H × List MemPlace}
  (hf:DataW.trod enc Tryz.prog W 0 (fun _=>true) hd fuel 34 cs=some x):∃ (a:Option Addr) (cap:Nat) (l:List Zp),cs = [.slice a l.length cap]∧ZsAt W a l∧(a=none→cap=0):=by
 rcases Go.Deep.open_slice Tryz.underlying34 hf with ⟨hcs,_⟩ | ⟨a,len,cap,m,n,D,Pl,hcs,_,hl,hm,hmm,_,hx⟩
 ·exact ⟨none,0,[],hcs,⟨by simp,.inl rfl⟩,fun _=>rfl⟩
 ·rw [qZ] at hx
  simp only [if_true] at hmm
  obtain ⟨f,hf'⟩:=Go.Deep.choose_lt (α:=Zp) (n:=len) (p:=fun i (z:Zp)=>W.cell? ((a.add (i*2)).add 1)=some (.int .i64 z.2)∧∃ ai cap,W.cell? ((a.add (i*2)).add 0)=some (.slice ai z.1.length cap)∧SlAt W ai z.1) (fun i hi=>by
   obtain ⟨cs',h1,h2⟩:=hx i (by omega)
   exact open_zrow h1 h2)
  refine ⟨some a,cap,(List.range len).map f,by simpa using hcs,⟨?_,?_⟩,fun h=>by cases h⟩
  ·simp; omega
  by_cases h0:len=0
  ·left; simp [h0]
  ·right
   obtain ⟨b,off,spot⟩:=a
   obtain ⟨_,_,hc,_⟩:=(hf' 0 (by omega)).2
   have hspot:spot=none:=by simpa [Addr.add] using World.cell?_spot hc
   subst hspot
   refine ⟨b,off,rfl,?_,fun i hi=>?_⟩
   ·exact World.block_lt_of_cell? W _ (by simpa [Addr.add] using hc)
   ·have hi':i<len:=by simpa using hi
    have:=hf' i hi'
    simp only [addr_addX] at this
    simp only [List.getElem_map,List.getElem_range]
    exact this
set_option maxRecDepth 100000 in
theorem open_dataT {H:Type} {enc:TypeId × Value→H} {W:World} {hd:Bool} {fuel:Nat} {cs:List Value} {x:DataW H × List MemPlace}
  (hf:DataW.trod enc Tryz.prog W 0 (fun _=>true) hd fuel 32 cs=some x):∃ (a:Option Addr) (cap:Nat) (l:List (List Zp)),cs = [.slice a l.length cap]∧DtAt W a l:=by
 rcases Go.Deep.open_slice Tryz.underlying32 hf with ⟨hcs,_⟩ | ⟨a,len,cap,m,n,D,Pl,hcs,_,hl,hm,hmm,_,hx⟩
 ·exact ⟨none,0,[],hcs,.inl rfl⟩
 ·rw [qZs] at hx
  simp only [if_true] at hmm
  obtain ⟨f,hf'⟩:=Go.Deep.choose_lt (α:=List Zp × Option Addr × Nat) (n:=len) (p:=fun i y=>W.cell? ((a.add (i*1)).add 0)=some (.slice y.2.1 y.1.length y.2.2)∧ZsAt W y.2.1 y.1∧(y.2.1=none→y.2.2=0)) (fun i hi=>by
   obtain ⟨cs',h1,h2⟩:=hx i (by omega)
   obtain ⟨_,_,hcell⟩:=World.cells?_some h1
   obtain ⟨ai,ci,l,rfl,hz,hn⟩:=open_zrowsT h2
   exact ⟨(l,ai,ci),hcell 0 (by simp),hz,hn⟩)
  refine ⟨some a,cap,(List.range len).map fun i=>(f i).1,by simpa using hcs,?_⟩
  by_cases h0:len=0
  ·left; simp [h0]
  ·obtain ⟨b,off,spot⟩:=a
   have hc:=(hf' 0 (by omega)).1
   have hspot:spot=none:=by simpa [Addr.add] using World.cell?_spot hc
   subst hspot
   refine .inr ⟨b,off,fun i=>(f i).2.1,fun i=>(f i).2.2,rfl,World.block_lt_of_cell? W _ (by simpa [Addr.add] using hc),fun i hi=>?_⟩
   have hi':i<len:=by simpa using hi
   obtain ⟨g0,g1,g2⟩:=hf' i hi'
   simp only [addr_addX,Nat.mul_one,Nat.add_zero] at g0
   simp only [List.getElem_map,List.getElem_range]
   exact ⟨g0,g1,g2⟩
theorem bytes_set:24≤Tryz.prog.bytesOf 34:=by decide +kernel
theorem Light.len24 {H:Type} {enc:TypeId × Value→H} {W:World} {hd:Bool} {t e:TypeId} {fuel n cap:Nat} {a:Option Addr} {x:DataW H × List MemPlace} (hu:Tryz.prog.underlying t=some (.slice e)) (hb:24≤Tryz.prog.bytesOf e)
  (h:DataW.trod enc Tryz.prog W 0 (fun _=>true) hd fuel t [.slice a n cap]=some x) (hl:Light t x.1):n≤10000000000000:=by
 rcases DataW.trod_slice hu h with ⟨hcs,_⟩ | ⟨a',len,cap',elems,rest,m,hm,hcs,rfl,_,_,_,hlen,_⟩
 ·simp at hcs
  omega
 ·simp at hcs
  obtain ⟨rfl,rfl,rfl⟩:=hcs
  have h1:=hl ((elems.length+rest.length)*Tryz.prog.bytesOf e) (by rw [DataW.weights,hu]; simp)
  have h2:=reachBytes_lt
  have h4:n*24≤(elems.length+rest.length)*Tryz.prog.bytesOf e:=Nat.mul_le_mul (by omega) hb
  omega
set_option maxRecDepth 100000 in
theorem open_data {H:Type} {enc:TypeId × Value→H} {W:World} {r:Reach} {b0:Nat} {v:Value} {d:DataW H} {p:List MemPlace}
  (hv:Value.okWide Tryz.prog W r b0 32 v) (h:DataW.Trod enc Tryz.prog W 0 (fun _=>true) true 32 v d p) (hL:Light 32 d):∃ (a:Option Addr) (cap:Nat) (l:List (List Zp)),v = .slice a l.length cap∧DtAt W a l∧l.length≤10000000000000:=by
 obtain ⟨a0,len,cap,rfl⟩:=okWide_slice Tryz.underlying32 hv
 obtain ⟨fuel,hf⟩:=h
 obtain ⟨a,c,l,e,hs⟩:=open_dataT hf
 have e':Value.slice a0 len cap = .slice a l.length c:=by simpa [Value.cells] using e
 refine ⟨a,c,l,e',hs,?_⟩
 have hf2:DataW.trod enc Tryz.prog W 0 (fun _=>true) true fuel 32 [.slice a l.length c]=some (d,p):=by rw [← e']; exact hf
 exact Light.len24 Tryz.underlying32 bytes_set hf2 hL
set_option maxRecDepth 100000 in
theorem open_intsT {H:Type} {enc:TypeId × Value→H} {W:World} {hd:Bool} {fuel:Nat} {cs:List Value} {x:DataW H × List MemPlace}
  (hf:DataW.trod enc Tryz.prog W 0 (fun _=>true) hd fuel 45 cs=some x):∃ (a:Option Addr) (cap:Nat) (l:List Int),cs = [.slice a l.length cap]∧IsAt W.heap.size W a l:=by
 rcases Go.Deep.open_slice1 Tryz.underlying45 q3 hf with ⟨hcs,_⟩ | ⟨a,len,cap,m,n,V,D,Pl,hcs,_,hl,hm,hmm,_,hx⟩
 ·exact ⟨none,0,[],hcs,⟨by simp,.inl rfl⟩⟩
 ·simp only [if_true] at hmm
  obtain ⟨f,hf'⟩:=Go.Deep.choose_lt (α:=Int) (n:=len) (p:=fun i (k:Int)=>W.cell? (a.add i)=some (.int .i64 k)) (fun i hi=>by
   obtain ⟨h1,h2⟩:=hx i (by omega)
   obtain ⟨k,e0,_,_⟩:=DataW.trod_int Tryz.underlying3 h2
   simp at e0
   exact ⟨k,by rw [h1,e0]⟩)
  refine ⟨some a,cap,(List.range len).map f,by simpa using hcs,?_,?_⟩
  ·simp; omega
  by_cases h0:len=0
  ·left; simp [h0]
  ·right
   obtain ⟨b,off,spot⟩:=a
   have hc:=hf' 0 (by omega)
   have hspot:spot=none:=by simpa [Addr.add] using World.cell?_spot hc
   subst hspot
   refine ⟨b,off,rfl,World.block_lt_of_cell? W _ (by simpa [Addr.add] using hc),fun i hi=>?_⟩
   have hi':i<len:=by simpa using hi
   have:=hf' i hi'
   simp only [addr_addX] at this
   simp only [List.getElem_map,List.getElem_range]
   exact this
set_option maxRecDepth 100000 in
theorem open_tables {H:Type} {enc:TypeId × Value→H} {W:World} {r:Reach} {b0:Nat} {v:Value} {d:DataW H} {p:List MemPlace}
  (hv:Value.okWide Tryz.prog W r b0 22 v) (h:DataW.Trod enc Tryz.prog W 0 (fun _=>true) true 22 v d p):∃ (a:Option Addr) (cap:Nat) (l:List (List Int)),v = .slice a l.length cap∧TbAt W.heap.size W a l:=by
 obtain ⟨a0,len0,cap0,rfl⟩:=okWide_slice Tryz.underlying22 hv
 obtain ⟨fuel,hf⟩:=h
 rcases Go.Deep.open_slice Tryz.underlying22 hf with ⟨hcs,_⟩ | ⟨a,len,cap,m,n,D,Pl,hcs,_,hl,hm,hmm,_,hx⟩
 ·exact ⟨none,0,[],by simpa [Value.cells] using hcs,.inl rfl⟩
 ·rw [qIs] at hx
  simp only [if_true] at hmm
  obtain ⟨f,hf'⟩:=Go.Deep.choose_lt (α:=List Int × Option Addr × Nat) (n:=len) (p:=fun i y=>W.cell? ((a.add (i*1)).add 0)=some (.slice y.2.1 y.1.length y.2.2)∧IsAt W.heap.size W y.2.1 y.1) (fun i hi=>by
   obtain ⟨cs',h1,h2⟩:=hx i (by omega)
   obtain ⟨_,_,hcell⟩:=World.cells?_some h1
   obtain ⟨ai,ci,l,rfl,hz⟩:=open_intsT h2
   exact ⟨(l,ai,ci),hcell 0 (by simp),hz⟩)
  refine ⟨some a,cap,(List.range len).map fun i=>(f i).1,by simpa [Value.cells] using hcs,?_⟩
  by_cases h0:len=0
  ·left; simp [h0]
  ·obtain ⟨b,off,spot⟩:=a
   have hc:=(hf' 0 (by omega)).1
   have hspot:spot=none:=by simpa [Addr.add] using World.cell?_spot hc
   subst hspot
   refine .inr ⟨b,off,fun i=>(f i).2.1,fun i=>(f i).2.2,rfl,World.block_lt_of_cell? W _ (by simpa [Addr.add] using hc),fun i hi=>?_⟩
   have hi':i<len:=by simpa using hi
   obtain ⟨g0,g1⟩:=hf' i hi'
   simp only [addr_addX,Nat.mul_one,Nat.add_zero] at g0
   simp only [List.getElem_map,List.getElem_range]
   exact ⟨g0,g1⟩
end Go.Proofs.YtohjlfhmnmcndaaGreat
