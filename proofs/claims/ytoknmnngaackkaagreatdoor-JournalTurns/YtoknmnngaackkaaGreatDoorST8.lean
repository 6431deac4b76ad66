/- Together: DA, DB, DC, DD, DE, DF, DG, DH, CA. -/
import Derived.Lib.AppendStr
import Derived.Deep.AppendSrc
import Derived.Deep.DeepCutAuto
import Derived.Deep.CutBlock
import Derived.Shelf.Strconv.Itoa4
import Derived.Shelf.Strings.Replace
import Derived.Deep.LoopGhost
import Derived.Shelf.Lay
import Derived.Ground.NamesProg
import Derived.Lib.SmallJoins
import Derived.Lib.AppendIntMem
import Derived.Lib.SplitLaws
import Derived.Test.YtoknmnngaackkaaGreatDoorST7
import Derived.Test.YtoknmnngaackkaaGreatDoorST0
namespace Go.Proofs.YtoknmnngaackkaaGreatDoor
open Go.RowKit Go.Lib Go.Shelf
set_option maxRecDepth 100000
set_option maxHeartbeats 16000000
set_option maxRecDepth 100000
set_option maxHeartbeats 8000000
def jX (bs:List UInt8) (s:ByteArray):List UInt8:=bs ++ (if bs = [] then [] else [32]) ++ s.data.toList
def aE (bs:List UInt8) (ws:List ByteArray):List UInt8:=ws.foldl jX bs
def jC (bs:List UInt8):List Value:=bs.map fun b=>.int .u8 ((b.toNat:Nat):Int)
theorem Ao (bs:List UInt8) (s:ByteArray):bs.length≤(jX bs s).length:=by unfold jX; simp
theorem fX:∀ (ws:List ByteArray) (bs:List UInt8),bs.length≤(aE bs ws).length
 | [],_bs=>I6 _
 | s :: ws,bs=>Jj (Ao bs s) (fX ws (jX bs s))
theorem an (bs:List UInt8) (a b:List ByteArray):aE bs (a ++ b)=aE (aE bs a) b:=List.foldl_append ..
theorem yZ (bs:List UInt8) (ws:List ByteArray) (j:Nat) (h:j<ws.length):aE bs (ws.take (j+1))=jX (aE bs (ws.take j)) ws[j]:=by
 rw [JC,Je h,an];rfl
theorem Aa (bs:List UInt8) (ws:List ByteArray) (j:Nat):(aE bs (ws.take j)).length≤(aE bs ws).length:=by
 conv=>rhs; rw [← List.take_append_drop j ws,an]
 exact fX _ _
structure aF (W:World) (PB:Nat) (v:Value) (bs:List UInt8):Prop where
 q:W.heap[PB]? = some (.cells #[v] 81 (0,0))
 own:W.ownsRow (PB+1) 5 1 v bs.length (jC bs)
structure St (PB:Nat) (v:Value) (w:World) (v':Value) (w':World):Prop where
 jS:Below PB w w'
 aM:∀ k,k<w.heap.size→k≠PB→v.ownBlock≠some k→w'.heap[k]? = w.heap[k]?
 own:v'.ownBlock=v.ownBlock∨∃ g,w.heap.size≤g∧v'.ownBlock=some g
theorem St.refl (PB:Nat) (v:Value) (w:World):St PB v w v w:=⟨I8 _ _,fun _ _ _ _=>rfl,.inl rfl⟩
theorem St.of {PB:Nat} {v:Value} {w w':World} (h:Below w w w') (hp:PB<w.heap.size):St PB v w v w':=⟨h.mono (Jb hp),fun k hk _ _=>h.block k hk,.inl rfl⟩
theorem St.trans {PB:Nat} {v v1 v2:Value} {w w1 w2:World} (h:St PB v w v1 w1) (k:St PB v1 w1 v2 w2):St PB v w v2 w2:=by
 refine ⟨h.jS.trans k.jS,fun i hi hn ho=>(k.aM i (Ja hi h.jS.size) hn ?_).trans (h.aM i hi hn ho),?_⟩
 ·rcases h.own with e | ⟨g,hg,e⟩
  ·rw [e]; exact ho
  ·rw [e]; intro e2; have:=Jt e2; omega
 ·rcases k.own with e | ⟨g,hg,e⟩
  ·rw [e]; exact h.own
  ·exact .inr ⟨g,Jj h.jS.size hg,e⟩
theorem aF.lt {W:World} {PB:Nat} {v:Value} {bs:List UInt8} (h:aF W PB v bs):PB<W.heap.size:=lt_of_heap h.q
theorem aF.val {W:World} {PB:Nat} {v:Value} {bs:List UInt8} (h:aF W PB v bs):∃ a cap,v = .slice a bs.length cap:=by
 obtain ⟨_,⟨h1,h2⟩ | ⟨k,cap,cur,h1,_⟩⟩:=h.own
 ·exact ⟨none,0,by rw [h1,h2]⟩
 ·exact ⟨_,cap,h1⟩
theorem aF.next {W W':World} {PB:Nat} {v:Value} {bs:List UInt8} (h:aF W PB v bs) (hb:Below W W W'):aF W' PB v bs:=⟨(hb.block _ h.lt).trans h.q,jN h.own hb⟩
def bU (w:World) (PB:Nat) (v:Value) (bs:List UInt8) (e:Ending) (w':World):Prop:=e = .returned (.tuple #[])∧∃ v',aF w' PB v' bs∧St PB v w v' w'
theorem CK {W:World} {PB:Nat} {v u:Value} {n:Nat} {xs:List Value} (h:W.ownsRow (PB+1) 5 1 v n xs):(W.setCell (af PB 0) u).ownsRow (PB+1) 5 1 v n xs:=by
 obtain ⟨h0,h | ⟨k,cap,cur,e,hb,hq,hr⟩⟩:=h
 ·exact ⟨h0,.inl h⟩
 ·exact ⟨h0,.inr ⟨k,cap,cur,e,hb,(JD W (af PB 0) u k (by show k≠PB; omega)).trans hq,hr⟩⟩
theorem aF.put {w w1:World} {PB:Nat} {v v1:Value} {bs cs:List UInt8} (h:aF w PB v bs) (hg:w.grownBy w1 v.ownBlock) (ho:w1.ownsRow (PB+1) 5 1 v1 (bs.length+cs.length) (jC bs ++ jC cs)) (hd:v1.ownBlock=v.ownBlock∨v1.ownBlock=some w.heap.size) :
  aF (w1.setCell (af PB 0) v1) PB v1 (bs ++ cs)∧St PB v w v1 (w1.setCell (af PB 0) v1):=by
 have hlt:=h.lt;have hpb:v.ownBlock≠some PB:=fun e=>by have:=(h.own.lt PB e).1; omega
 have q1:=(hg.block PB hlt (fun e=>hpb e.symm)).trans h.q;refine ⟨⟨I5 w1 PB 0 _ _ _ q1,?_⟩,?_,fun k hk hn ho'=>(JD w1 (af PB 0) v1 k hn).trans (hg.block k hk (fun e=>ho' e.symm)),?_⟩
 ·have e:jC (bs ++ cs)=jC bs ++ jC cs:=by simp [jC]
  rw [Jf,e];exact CK ho
 ·exact ((I8 PB w).grown hg (Jb hlt) (fun k e=>by have:=(h.own.lt k e).1; omega)).setCell (p:=af PB 0) (I6 _) _
 ·rcases hd with e | e
  ·exact .inl e
  ·exact .inr ⟨_,I6 _,e⟩
def GV:jP ByteArray:=fun _ _ x cs=>cs = [.string x]
theorem IY:fW GV:=⟨fun _ h=>h,fun _ h=>h⟩
theorem oJ (w:World) (PB:Nat) (v:Value) (n:Nat) (xs:List Value) (hown:w.ownsRow (PB+1) 5 1 v n xs) (s:ByteArray) (ty:TypeId) (hb:n+s.size≤1099511627776) (hbase:PB+1≤w.heap.size) :
  ∃ v' w',(Builtin.append_ #[24,9] ty #[v,s]).run Tryz.prog w = .ok v' w'∧w'.ownsRow (PB+1) 5 1 v' (n+s.size) (xs ++ jC s.data.toList)∧w.grownBy w' v.ownBlock∧(v'.ownBlock=v.ownBlock∨v'.ownBlock=some w.heap.size):=by
 obtain ⟨i,hi,hz,hs,hby⟩:=info_parts sM;obtain ⟨v',w',hr,h1,h2,h3⟩:=run_append_own_string (P:=Tryz.prog) w (PB+1) 24 9 ty 5 i Tryz.underlying24 Tryz.underlying9 hi hz hs hby v n xs hown s (by unfold maxLen; omega) ak hbase;refine ⟨v',w',hr,h1,h2,?_⟩;have hxl:xs.length=n:=by simpa using hown.1
 obtain ⟨_,⟨e1,e2⟩ | ⟨g,cap,cur,e1,hgb,q,hc,hm,hcs,htk⟩⟩:=hown
 ·subst e1;by_cases hz0:s.size=0
  ·rw [h3.2 ⟨rfl,hz0⟩]; exact .inl rfl
  ·right;subst e2;have hg:=run_append_grow_src (P:=Tryz.prog) w 24 9 ty 5 i (.int .u8 0) Tryz.underlying24 hi hz none 0 0 [] (run_firstCells_none w.drew i.size 0 0 0) s s.size _ (hs ▸ _root_.Go.Src.ofString w Tryz.underlying9 s) ak ak (growslice_fits ak (by rw [hby]; omega));rw [hr] at hg;have:=(Result.ok.inj hg).1;rw [this];rfl
 ·subst e1;by_cases hroom:n+s.size≤cap
  ·left;have hg:=run_append_room_string (P:=Tryz.prog) w 24 9 ty 5 i Tryz.underlying24 Tryz.underlying9 hi hs g n cap cur q s hroom (by rw [hcs]; omega);rw [hr] at hg;have:=(Result.ok.inj hg).1;rw [this];rfl
  ·right;have hg:=run_append_grow_string (P:=Tryz.prog) w 24 9 ty 5 i (.int .u8 0) Tryz.underlying24 Tryz.underlying9 hi hz (af g 0) n cap xs (by rw [hs]; omega) (fun j u hj=>World.ownsRow.cells ⟨by simpa using hxl,.inr ⟨g,cap,cur,rfl,hgb,q,hc,hm,hcs,htk⟩⟩ rfl j u hj) s ak ak (growslice_fits ak (by rw [hby]; omega));rw [hr] at hg;have:=(Result.ok.inj hg).1;rw [this];rfl
theorem gG {ops:Array Oper} {rest:List Oper} {w:World} {o:Oper} {a:Act} {Q:Exit→Act→World→Prop} (hgd:o.guard=none) (x y:Operand)
  (ho:o.op = .call { callee:=.builtin .append,args:=#[x,y],argTypes:=#[24,9] }) {PB:Nat} {v:Value} {bs:List UInt8} (hs:a.eval x=v) (hown:w.ownsRow (PB+1) 5 1 v bs.length (jC bs)) (s:ByteArray) (hy:a.eval y = .string s) (hb:bs.length+s.size≤1099511627776) (hbase:PB+1≤w.heap.size)
  (h:∀ v' w',w'.ownsRow (PB+1) 5 1 v' (bs.length+s.data.toList.length) (jC bs ++ jC s.data.toList)→w.grownBy w' v.ownBlock→(v'.ownBlock=v.ownBlock∨v'.ownBlock=some w.heap.size)→wpList Tryz.prog ops Q rest (a.put o.dst v') w'):wpList Tryz.prog ops Q (o :: rest) a w:=by
 refine wpList_plain hgd fun K hK=>?_
 obtain ⟨v',w',hr,h1,h2,h3⟩:=oJ w PB v bs.length (jC bs) hown s o.type hb hbase;unfold Oper.wp;simp [execOp,ho,resolve,invoke,builtin,hs,hy,hr,Result.andThen];exact hK _ _ (h v' w' (by rw [show s.data.toList.length=s.size from Ji]; exact h1) h2 h3)
theorem vD (ws:List ByteArray) {a:Option Addr} {cap PB:Nat} {v:Value} {bs:List UInt8} {w:World} (hP:aF w PB v bs) (hl:bf GV 1 (fun b=>b≠PB∧v.ownBlock≠some b) w a ws) (hb:(aE bs ws).length≤1099511627776) (hn:ws.length≤1000):Calls Tryz.prog 57 #[af PB 0,.slice a ws.length cap] w (bU w PB v (aE bs ws)):=by
 obtain ⟨i0,hi0,hj0,hj1,hj2⟩:=info_parts sM;have HL:=ah hl;have HB:=ah hb;have HP:=ah hP;clear hl hb hP;go_enter Tryz.func57,Tryz.ntmps57;go_wp2_with fail
 go_loopw [8] (fun i wr=>∃ (j:Nat) (v':Value),j≤ws.length∧i = .int .i64 j∧Hid (aF wr PB v' (aE bs (ws.take j)))∧Hid (St PB v w v' wr)) (fun i _=>ws.length - (RowKit.intOf i).toNat)
 case atStart=>exact ⟨0,v,Jc _,rfl,HP,St.refl _ _ _⟩
 case round =>
  obtain ⟨j,v1,hj,rfl,hP1,hS1⟩:=hrel;by_cases hlt:j<ws.length
  ·have hk:=HL.out.aM IY ⟨hS1.out.jS.size,fun k hk hl=>hS1.out.aM k hl hk.1 hk.2⟩;obtain ⟨b,off,_,rfl,t1,rfl⟩:=hk.get hlt;have hne:b≠PB∧v1.ownBlock≠some b:=by
    rcases HL.out with h | ⟨b',off',e,h1,h2,_⟩
    ·rw [h] at hlt; simp at hlt
    ·have e:=Jt e;injection e with e1 _
     subst e1;refine ⟨h1.1,?_⟩;rcases hS1.out.own with e | ⟨g,hg,e⟩
     ·rw [e]; exact h1.2
     ·rw [e]; intro e2; have:=Jt e2; omega
   have y0:wr.cell? ⟨b,off+j,none⟩=some (.string ws[j]):=by have:=t1.2 0 _ rfl; simpa using this
   have hjz:(j:Int)<(ws.length:Int):=by omega
   have hle:=Aa bs ws (j+1);have hst:=yZ bs ws j hlt;rw [hst] at hle;have hB2:=Jj hle HB.out;have HST:=ah hst;generalize aE bs (ws.take j)=cs at *;generalize ws[j]=s at *;have hq:=hP1.out.q;obtain ⟨a1,c1,hv1⟩:=hP1.out.val;have p0:wr.cell? (af PB 0)=some (.slice a1 cs.length c1):=by rw [← hv1]; exact cell_of (i:=0) hq rfl
   have f0:=I0 wr PB 0 _ _ hq;have hlt1:=hP1.out.lt;have ho1:=hP1.out.own;clear hk t1 hst hle;subst hv1;by_cases hcs:cs = []
   ·have hl0:cs.length=0:=by rw [hcs]; rfl
    have es:jX cs s=cs ++ s.data.toList:=by rw [jX,if_pos hcs,List.append_nil]
    rw [es] at hB2 HST;have hbb:cs.length+s.size≤1099511627776:=by rw [Jf,show s.data.toList.length=s.size from Ji] at hB2; exact hB2
    have hz0:¬ (0:Int)<(cs.length:Int):=by omega
    clear hB2 es hcs hl0;go_wp2_with (first | (at_builtin; refine gG rfl _ _ rfl rfl ho1 s rfl hbb hlt1 ?_))
    intro v2 w2 o2 g2 d2;have q2:=(g2.block PB hlt1 (fun e=>by have:=(ho1.lt PB e.symm).1; omega)).trans hq;obtain ⟨P2,S2⟩:=hP1.out.put g2 o2 d2;have p2:=cell_of (i:=0) q2 rfl;have f2:=I0 w2 PB 0 _ _ q2;have HP2:Hid (aF (w2.setCell (af PB 0) v2) PB v2 (aE bs (ws.take (j+1)))):=by show aF _ _ _ _; rw [HST.out]; exact P2
    have HS2:=ah (hS1.out.trans S2);obtain ⟨a2,n2,c2,e2⟩:∃ a n c,v2 = .slice a n c:=by obtain ⟨a,c,e⟩:=P2.val; exact ⟨a,_,c,e⟩
    clear P2 S2 o2 g2 d2 ho1 p0 f0 hq hP1 hS1 y0;subst e2;go_wp2_with fail
    go_roundw
    case rel=>exact ⟨j+1,_,by omega,by go_num,HP2,HS2⟩
    case measure=>simp [RowKit.intOf]; omega
   ·have hl0:=List.length_pos_iff.2 hcs;have es:jX cs s=(cs ++ [32]) ++ s.data.toList:=by rw [jX,if_neg hcs]
    rw [es] at hB2 HST;have hbb:cs.length+1+s.size≤1099511627776:=by
     have:cs.length+(s.size+1)≤1099511627776:=by simpa using hB2
     omega
    have hz0:(0:Int)<(cs.length:Int):=by omega
    obtain ⟨hal,q4⟩:=dZ wr #[.int .u8 32] 5;have hPa:=hP1.out.next hal;have y1:=(hal.cell (p:=⟨b,off+j,none⟩) (jm y0)).trans y0;have hSa:=hS1.out.trans (St.of hal hlt1);have ho2:=hPa.own;have hq2:=hPa.q;have hlt2:=hPa.lt;clear hB2 es hcs hl0
    go_wp2_with (first | (at_builtin; refine aS rfl _ _ 24 rfl (PB+1) 5 i0 _ 1 1 Tryz.underlying24 hi0 hj0 hj1 hj2 rfl (by decide) _ _ _ rfl ho2 (af wr 0) 1 1 [.int .u8 32] rfl rfl ?Ac1 ?Ac2 ?Ac3 ?Ac4 ?Ac5 ?_))
    case Ac1 =>
     intro i u hu;rw [bG,Jm];exact cell_of (i:=i) q4 (by rw [← hu]; simp)
    case Ac2=>intro u hu; simp at hu; subst hu; rfl
    case Ac3=>unfold maxLen; omega
    case Ac4=>omega
    case Ac5=>omega
    intro v2 w2 o2 g2 d2;have q2:=(g2.block PB hlt2 (fun e=>by have:=(ho2.lt PB e.symm).1; omega)).trans hq2;obtain ⟨P2,S2⟩:=hPa.put (cs:=[32]) g2 o2 (by simpa using d2);have p2:=cell_of (i:=0) q2 rfl;have f2:=I0 w2 PB 0 _ _ q2;obtain ⟨a2,n2,c2,e2⟩:∃ a n c,v2 = .slice a n c:=by obtain ⟨a,c,e⟩:=P2.val; exact ⟨a,_,c,e⟩
    have S3:=hSa.trans S2;have hlt3:=P2.lt;have HP3:=ah P2;have y2:(w2.setCell (af PB 0) v2).cell? ⟨b,off+j,none⟩=some (.string s):=by
     rw [Jp (a:=⟨b,off+j,none⟩) (S2.aM b (jm y1) hne.1 hne.2)];exact y1
    clear S2 o2 g2 d2 ho1 ho2 p0 f0 hq hq2 hP1 hS1 y0 y1 hPa hSa q4 hal P2;subst e2;go_upto_region 5 with fail
    generalize w2.setCell _ _=w3 at *;obtain ⟨a3,c3,e3⟩:=HP3.out.val;injection e3 with e4 e5 e6
    have hq3:=HP3.out.q;have ho3:=HP3.out.own;have p3:=cell_of (i:=0) hq3 rfl;have f3:=I0 w3 PB 0 _ _ hq3;have hbb3:(cs ++ [32]).length+s.size≤1099511627776:=by simpa using hbb
    have HS3:=ah S3;clear e4 e5 e6 S3;go_wp2_with (first | (at_builtin; refine gG rfl _ _ rfl rfl ho3 s rfl hbb3 hlt3 ?_))
    intro v4 w4 o4 g4 d4;have q4:=(g4.block PB hlt3 (fun e=>by have:=(ho3.lt PB e.symm).1; omega)).trans hq3;obtain ⟨P4,S4⟩:=HP3.out.put (cs:=s.data.toList) g4 (by simpa using o4) d4;have p4:=cell_of (i:=0) q4 rfl;have f4:=I0 w4 PB 0 _ _ q4;have HP4:Hid (aF (w4.setCell (af PB 0) v4) PB v4 (aE bs (ws.take (j+1)))):=by show aF _ _ _ _; rw [HST.out]; exact P4
    have HS4:=ah (HS3.out.trans S4);obtain ⟨a4,n4,c4,e7⟩:∃ a n c,v4 = .slice a n c:=by obtain ⟨a,c,e⟩:=P4.val; exact ⟨a,_,c,e⟩
    clear P4 S4 o4 g4 d4 ho3 p3 f3 hq3 HP3 HS3 y2;subst e7;go_wp2_with fail
    go_roundw
    case rel=>exact ⟨j+1,_,by omega,by go_num,HP4,HS4⟩
    case measure=>simp [RowKit.intOf]; omega
  ·have e:ws.take j=ws:=Jx ak;rw [e] at hP1;go_wp2_with fail
   go_end0
   exact ⟨rfl,v1,hP1.out,hS1.out⟩
abbrev gZ:Nat:=1099511627776
theorem aF.yl {W:World} {PB:Nat} {v:Value} {bs:List UInt8} (h:aF W PB v bs) {g:Nat} (hg:W.heap.size≤g):v.ownBlock≠some g:=fun e=>by have:=(h.own.lt g e).2; omega
theorem St.yl {PB:Nat} {v v':Value} {w w':World} (h:St PB v w v' w') {g:Nat} (hg:g<w.heap.size) (hn:v.ownBlock≠some g):v'.ownBlock≠some g:=by
 rcases h.own with e | ⟨k,hk,e⟩
 ·rw [e]; exact hn
 ·rw [e]; intro e2; have:=Jt e2; omega
structure Bx (W:World) (PB:Nat) (v:Value) (g:Nat) (cs:Array Value) (T:TypeId):Prop where
 q:gB W g cs T
 ne:g≠PB
 no:v.ownBlock≠some g
theorem Bx.st {W W':World} {PB:Nat} {v v':Value} {g:Nat} {cs:Array Value} {T:TypeId} (h:Bx W PB v g cs T) (s:St PB v W v' W'):Bx W' PB v' g cs T:=⟨(s.aM g (lt_of_heap h.q) h.ne h.no).trans h.q,h.ne,s.yl (lt_of_heap h.q) h.no⟩
theorem Bx.nx {W W':World} {PB:Nat} {v:Value} {g:Nat} {cs:Array Value} {T:TypeId} (h:Bx W PB v g cs T) (hb:Below W W W'):Bx W' PB v g cs T:=⟨h.q.nx hb,h.ne,h.no⟩
theorem Bx.new {W:World} {PB:Nat} {v:Value} {bs:List UInt8} (h:aF W PB v bs) (cs:Array Value) (T:TypeId):Bx (W.alloc (.cells cs T)) PB v W cs T:=⟨aD W cs T,by have:=h.lt; omega,h.yl (I6 _)⟩
theorem Bx.c {W:World} {PB:Nat} {v:Value} {g:Nat} {cs:Array Value} {T:TypeId} (h:Bx W PB v g cs T) (i:Nat) {u:Value} (hu:cs[i]? = some u):W.cell? (af g i)=some u:=h.q.c i hu
theorem bf.cE {α:Type} {En:jP α} (ok:fW En) {size PB:Nat} {W W':World} {v v':Value} {a:Option Addr} {l:List α} (h:bf En size (fun b=>b<PB) W a l) (s:St PB v W v' W'):bf En size (fun b=>b<PB) W' a l:=h.aM ok ⟨s.jS.size,fun b hb _=>s.jS.block b hb⟩
theorem aJ.cE {PB:Nat} {W W':World} {v v':Value} {a:Option Addr} {l:List SX} (h:aJ (fun b=>b<PB) W a l) (s:St PB v W v' W'):aJ (fun b=>b<PB) W' a l:=aJ.aM ⟨s.jS.size,fun b hb _=>s.jS.block b hb⟩ h
theorem bq (ws:List ByteArray) {PB:Nat} {v:Value} {bs:List UInt8} {w:World} (hP:aF w PB v bs) (hb:(aE bs ws).length≤gZ) (hn:ws.length≤1000):Calls Tryz.prog 57 #[af PB 0,.slice (some (af w 0)) ws.length ws.length] (w.alloc (.cells (ws.map Value.string).toArray 9)) (bU w PB v (aE bs ws)):=by
 have hal:=bR w (.cells (ws.map Value.string).toArray 9);have hl:bf GV 1 (fun b=>b≠PB∧v.ownBlock≠some b) (w.alloc (.cells (ws.map Value.string).toArray 9)) (some (af w 0)) ws:=by
  refine .inr ⟨w.heap.size,0,rfl,⟨by have:=hP.lt; omega,hP.yl (I6 _)⟩,by simp,fun i hi=>⟨[.string ws[i]],rfl,fun j u hu=>?_,rfl⟩⟩
  match j,hu with
  | 0,hu =>
   cases hu;have:(0+i*1+0)=i:=by omega
   rw [this];exact cell_of (i:=i) (aD w _ _) (by simp [hi])
  | j+1,hu=>simp at hu
 refine (vD ws (cap:=ws.length) (hP.next hal) hl hb hn).mono ?_;rintro e w' ⟨rfl,v',P',S'⟩;exact ⟨rfl,v',P',(St.of hal hP.lt).trans S'⟩
theorem dU (has:Bool) (s:ByteArray) {PB:Nat} {v:Value} {bs:List UInt8} {w:World} (hP:aF w PB v bs) (hb:(aE bs (if has then [s] else [])).length≤gZ):Calls Tryz.prog 86 #[af PB 0,has,s] w (bU w PB v (aE bs (if has then [s] else []))):=by
 cases has
 ·have HP:=ah hP;clear hP hb;go_enter Tryz.func86,Tryz.ntmps86;go_wp2_with fail
  go_end0
  exact ⟨rfl,v,HP.out,St.refl _ _ _⟩
 ·have con:=bq [s] hP hb (by simp);clear hP hb;go_enter Tryz.func86,Tryz.ntmps86;go_wp2_with fail
  refine con.mono ?_;rintro e w1 ⟨rfl,v1,P1,S1⟩;have HE:Hid (∃ v',aF w1 PB v' (aE bs [s])∧St PB v w v' w1):=⟨v1,P1,S1⟩
  clear con P1 S1;go_wp2_with fail
  go_end0
  exact ⟨rfl,HE.out⟩
def kR (s:ByteArray):List ByteArray:=if s.size=0 then [] else [⟨#[97,115]⟩,s]
theorem jU (s:ByteArray) {PB:Nat} {v:Value} {bs:List UInt8} {w:World} (hP:aF w PB v bs) (hb:(aE bs (kR s)).length≤gZ):Calls Tryz.prog 143 #[af PB 0,s] w (bU w PB v (aE bs (kR s))):=by
 by_cases hs:s.size=0
 ·have es:s=⟨#[]⟩:=by
   apply ByteArray.ext;exact Array.eq_empty_of_size_eq_zero hs
  rw [kR,if_pos hs];subst es;have HP:=ah hP;clear hP hb;go_enter Tryz.func143,Tryz.ntmps143;go_wp2_with fail
  go_end0
  exact ⟨rfl,v,HP.out,St.refl _ _ _⟩
 ·rw [kR,if_neg hs] at hb ⊢;have con:=bq [⟨#[97,115]⟩,s] hP hb (by simp);have hne:s.toList.isEmpty=false:=by
   rw [Lib.toList_data];cases h:s.data.toList with
   | nil=>exact absurd (show s.data.size=0 by rw [← Ji (xs:=s.data),h]; rfl) hs
   | cons _ _=>rfl
  clear hP hb;go_enter Tryz.func143,Tryz.ntmps143;go_wp2_with fail
  refine con.mono ?_;rintro e w1 ⟨rfl,v1,P1,S1⟩;have HE:Hid (∃ v',aF w1 PB v' (aE bs [⟨#[97,115]⟩,s])∧St PB v w v' w1):=⟨v1,P1,S1⟩
  clear con P1 S1;go_wp2_with fail
  go_end0
  exact ⟨rfl,HE.out⟩
abbrev CD:Int × ByteArray × Int:=(0,⟨#[]⟩,0)
def kn (k:Int):List (Int × ByteArray × Int)→Int × ByteArray × Int
 | []=>CD
 | i :: r=>if i.1=k then i else kn k r
def eO (k:Int):Int × ByteArray × Int:=kn k dV
theorem Az (k:Int) (j:Nat) (h:j<dV.length):kn k (dV.drop j)=if dV[j].1=k then dV[j] else kn k (dV.drop (j+1)):=by
 rw [I9 h,kn]
abbrev AX (i:Int × ByteArray × Int):Array Value:=#[i.1,i.2.1,i.2.2]
theorem oR (kk:Int) {w:World} (hg:Gl w):Calls Tryz.prog 172 #[kk] w fun e w'=>e = .returned (.agg (AX (eO kk)))∧Below w w w':=by
 generalize hM:eO kk=M;have HM:=ah hM;have hal:=bR w (.cells #[aB,(),aB] 201);have hr:=(hg.next hal).range;have Q0:gB (w.alloc (.cells #[aB,(),aB] 201)) w #[aB,(),aB] 201:=aD w _ _;clear hM hg;go_enter Tryz.func172,Tryz.ntmps172;go_upto_region 1 with fail
 generalize w.alloc _=w1 at *;refine wp_region_lit ?_;refine wpList_load_mid rfl 232 _ rfl 1 0 rfl vU (.array 12 201) hr bm rfl bm ?_;simp only [Act.put,pA,pB,pC];go_wp2_with fail
 clear hr;go_loopw [6] (fun i wr=>∃ k:Nat,k≤12∧i = .int .i64 k∧Hid (kn kk (dV.drop k)=M)∧Below w1 w1 wr) (fun i _=>12 - (RowKit.intOf i).toNat)
 case atStart=>exact ⟨0,by omega,rfl,HM,I8 _ _⟩
 case round =>
  obtain ⟨k,hk,rfl,HK,hx⟩:=hrel;have Q1:=Q0.nx hx;by_cases hlt:k<12
  ·have hkz:(k:Int)<12:=by omega
   have hid:=xl k hlt wr;have hkl:k<dV.length:=by simpa [dV] using hlt
   have HG:=Az kk k hkl;have HG2:=ah (HG.symm.trans HK.out);clear HG HK;generalize dV[k]=e at *;have hal2:=bR wr (.cells #[e.1,e.2.1,e.2.2] 201);have hq:gB (wr.alloc (.cells #[e.1,e.2.1,e.2.2] 201)) wr #[e.1,e.2.1,e.2.2] 201:=aD wr _ _;have Q2:=Q1.nx hal2;rcases hl:e.1 == kk with _ | _
   ·have HG3:Hid (kn kk (dV.drop (k+1))=M):=by
     show _=_;rw [← HG2.out,if_neg (fun c=>by rw [c] at hl; simp at hl)]
    clear HG2;go_wp2_with fail
    go_roundw
    case rel=>exact ⟨k+1,by omega,by go_num,HG3,chain hx hal2⟩
    case measure=>simp [RowKit.intOf]; omega
   ·have hle:e.1=kk:=by simpa using hl
    have HG3:Hid (e=M):=by
     show _=_;rw [← HG2.out,if_pos hle]
    clear HG2 hl;subst hle;go_upto_region 4 with fail
    generalize wr.alloc _=w2 at *;have x0:=hq.c 0 rfl;have x1:=hq.c 1 rfl;have x2:=hq.c 2 rfl;obtain ⟨z0,z1,z2⟩:=bD Q2;obtain ⟨y0,y1,y2⟩:=iS Q2;go_wp2_with fail
    have QE:=fB Q2 e.1 e.2.1 e.2.2;have hbE:=ln (g:=w.heap.size) (chain hal (chain hx hal2)) (I6 _) e.1 e.2.1 e.2.2;generalize (((w2.setCell (af w 0) e.1).setCell (af w 1) e.2.1).setCell (af w 2) e.2.2)=wE at *;obtain ⟨u0,u1,u2⟩:=bD QE;exact I7 (v:=.agg #[e.1,e.2.1,e.2.2]) (by simp [results,Tryz.results172,go_sem,u0,u1,u2]) rfl ⟨by rw [← HG3.out],hbE⟩
  ·have e12:k=12:=by omega
   subst e12;have HG3:Hid (CD=M):=HK.out;obtain ⟨z0,z1,z2⟩:=bD Q1;obtain ⟨y0,y1,y2⟩:=iS Q1;clear HK;go_wp2_with fail
   have QE:=fB Q1 aB () aB;have hbE:=ln (g:=w.heap.size) (chain hal hx) (I6 _) aB () aB;generalize (((wr.setCell (af w 0) aB).setCell (af w 1) ()).setCell (af w 2) aB)=wE at *;obtain ⟨u0,u1,u2⟩:=bD QE;exact I7 (v:=.agg #[aB,(),aB]) (by simp [results,Tryz.results172,go_sem,u0,u1,u2]) rfl ⟨by rw [← HG3.out],hbE⟩
def bN (k:Int):Int:=if k=3 then 3 else if k=16 then 4 else if (eO k).2.2=0 then 8 else (eO k).2.2
theorem ox (k:Int) {w:World} (hg:Gl w):Calls Tryz.prog 145 #[k] w fun e w'=>e = .returned (.int .i64 (bN k))∧Below w w w':=by
 have con:=oR k hg;generalize hM:bN k=M;rw [bN] at hM;clear hg;by_cases h3:k=3
 ·rw [if_pos h3] at hM;subst hM;subst h3;clear con;go_enter Tryz.func145,Tryz.ntmps145;go_wp2_with fail
  exact fa rfl rfl ⟨fQ,I8 _ _⟩
 rw [if_neg h3] at hM;by_cases h16:k=16
 ·rw [if_pos h16] at hM;subst hM;subst h16;clear con;go_enter Tryz.func145,Tryz.ntmps145;go_wp2_with fail
  exact fa rfl rfl ⟨fQ,I8 _ _⟩
 rw [if_neg h16] at hM;have b3:(k == 3)=false:=by simpa using h3
 have b16:(k == 16)=false:=by simpa using h16
 generalize eO k=i at *;simp only [AX] at con;by_cases h0:i.2.2=0
 ·rw [if_pos h0] at hM;subst hM;have b0:(i.2.2 != 0)=false:=by simpa using h0
  clear h0 h3 h16;go_enter Tryz.func145,Tryz.ntmps145;go_wp2_with fail
  refine cR con fun w1 hb1=>?_;have hfd:(Instr.field 201 (.agg #[i.1,i.2.1,i.2.2]) 2).run Tryz.prog w1 = .ok i.2.2 w1:=by kernel_rfl
  go_wp2_with fail
  exact fa rfl rfl ⟨fQ,hb1⟩
 ·rw [if_neg h0] at hM;subst hM;have b0:(i.2.2 != 0)=true:=by simpa using h0
  clear h0 h3 h16;go_enter Tryz.func145,Tryz.ntmps145;go_wp2_with fail
  refine cR con fun w1 hb1=>?_;have hfd:(Instr.field 201 (.agg #[i.1,i.2.1,i.2.2]) 2).run Tryz.prog w1 = .ok i.2.2 w1:=by kernel_rfl
  go_wp2_with fail
  exact fa rfl rfl ⟨fQ,hb1⟩
theorem dx {bs:List UInt8} {a b:List ByteArray} (h:(aE bs (a ++ b)).length≤gZ):(aE bs a).length≤gZ:=by rw [an] at h; exact Jj (fX _ _) h
theorem oL {W W':World} (h:Lib.TabIs Tryz.prog W "internal/strconv.uint64pow10" .u64 Lib.pow10Tab) (hb:W'.heap[2]? = W.heap[2]?):Lib.TabIs Tryz.prog W' "internal/strconv.uint64pow10" .u64 Lib.pow10Tab:=by
 have hg:Tryz.prog.globalNamed "internal/strconv.uint64pow10" = some 2:=by kernel_rfl
 unfold Lib.TabIs World.var? at h ⊢;rw [hg] at h ⊢;simp only [Option.bind_some] at h ⊢;rw [hb];exact h
structure GP (W:World) (PB:Nat):Prop where
 gl:Gl W
 bp:Lib.TabIs Tryz.prog W "internal/strconv.uint64pow10" .u64 Lib.pow10Tab
 mx:∃ m,W.cell? ⟨3,0,none⟩=some (.int .i64 m)
 p:9<PB
theorem GP.nx {W W':World} {PB:Nat} (h:GP W PB) (hb:Below W W W') (hp:PB<W.heap.size):GP W' PB:=by
 have:=h.p;exact ⟨h.gl.next hb,oL h.bp (hb.block 2 ak),by obtain ⟨m,hm⟩:=h.mx; exact ⟨m,(Jp (a:=⟨3,0,none⟩) (hb.block 3 ak)).trans hm⟩,h.p⟩
theorem GP.st {W W':World} {PB:Nat} {v v':Value} (h:GP W PB) (s:St PB v W v' W'):GP W' PB:=by
 have:=h.p;exact ⟨⟨Ja h.gl.lt s.jS.size,fun j hj=>(Jp (a:=⟨1,j,none⟩) (s.jS.block 1 ak)).trans (h.gl.inf j hj),fun j hj=>(Jp (a:=⟨0,j,none⟩) (s.jS.block 0 ak)).trans (h.gl.sig j hj)⟩,oL h.bp (s.jS.block 2 ak),by obtain ⟨m,hm⟩:=h.mx; exact ⟨m,(Jp (a:=⟨3,0,none⟩) (s.jS.block 3 ak)).trans hm⟩,h.p⟩
def mP (t n:ByteArray):List ByteArray:=if t.size=0 then [n] else [t,⟨#[46]⟩] ++ [n]
theorem GH {s : ByteArray} (h : s.size = 0) : s.toList.isEmpty = true := by
  rw [Lib.toList_data]
  cases hc : s.data.toList with
  | nil => rfl
  | cons a l => have : s.data.toList.length = 0 := by rw [Ji]; exact h
                rw [hc] at this; simp at this
theorem DX {s:ByteArray} (h:s.size≠0):s.toList.isEmpty=false:=by
 rw [Lib.toList_data];cases hc:s.data.toList with
 | nil=>exact absurd (show s.data.size=0 by rw [← Ji (xs:=s.data),hc]; rfl) h
 | cons _ _=>rfl
theorem n8 (x:SX) (a:Option Addr) (c:Nat) {PB:Nat} {v:Value} {bs:List UInt8} {w:World} (hG:GP w PB) (hP:aF w PB v bs) (hb:(aE bs (mP x.bp x.name)).length≤gZ):Calls Tryz.prog 173 #[af PB 0,.agg (bE x a c)] w (bU w PB v (aE bs (mP x.bp x.name))):=by
 by_cases hs:x.bp.size=0
 ·rw [mP,if_pos hs] at hb ⊢;have he:=GH hs;have Hb:=ah hb;clear hb;have hal:=bR w (.cells (bE x a c) 55);have B0:=ah (Bx.new hP (bE x a c) 55);have P0:=ah (hP.next hal);have S0:Hid (St PB v w v (w.alloc (.cells (bE x a c) 55))):=St.of hal hP.lt;have G0:=ah (hG.nx hal hP.lt);clear hP hG hal;go_enter Tryz.func173,Tryz.ntmps173;go_upto_region 1 with fail
  generalize w.alloc _=w0 at *;have f1:=B0.out.c 4 rfl;have f2:=B0.out.c 5 rfl;have con3:=bq [x.name] P0.out (Hb.out) (by simp);go_wp2_with fail
  refine con3.mono ?_;rintro e w4 ⟨rfl,v5,P_,S_⟩;have P6:=ah P_;have S7:=ah (S0.out.trans S_);have G8:=ah (G0.out.st S_);have B9:=ah (B0.out.st S_);clear con3 P_ S_ f2 f1 P0 S0 G0 B0;go_wp2_with fail
  go_end0
  exact ⟨rfl,v5,P6.out,S7.out⟩
 ·rw [mP,if_neg hs] at hb ⊢;have he:=DX hs;have Hb:=ah hb;clear hb;have hal:=bR w (.cells (bE x a c) 55);have B0:=ah (Bx.new hP (bE x a c) 55);have P0:=ah (hP.next hal);have S0:Hid (St PB v w v (w.alloc (.cells (bE x a c) 55))):=St.of hal hP.lt;have G0:=ah (hG.nx hal hP.lt);clear hP hG hal;go_enter Tryz.func173,Tryz.ntmps173;go_upto_region 1 with fail
  generalize w.alloc _=w0 at *;have f10:=B0.out.c 4 rfl;have con11:=bq [x.bp,⟨#[46]⟩] P0.out (dx (Hb.out)) (by simp);go_wp2_with fail
  refine con11.mono ?_;rintro e w12 ⟨rfl,v13,P_,S_⟩;have P14:=ah P_;have S15:=ah (S0.out.trans S_);have G16:=ah (G0.out.st S_);have B17:=ah (B0.out.st S_);clear con11 P_ S_ f10 P0 S0 G0 B0;have f18:=B17.out.c 5 rfl
  have con19:=bq [x.name] P14.out (by rw [← an]; exact Hb.out) (by simp);go_wp2_with fail
  refine con19.mono ?_;rintro e w20 ⟨rfl,v21,P_,S_⟩;have P22:Hid (aF w20 PB v21 (aE bs ([x.bp,⟨#[46]⟩] ++ [x.name]))):=by show aF _ _ _ _; rw [an]; exact P_
  have S23:=ah (S15.out.trans S_);have G24:=ah (G16.out.st S_);have B25:=ah (B17.out.st S_);clear con19 P_ S_ f18 P14 S15 G16 B17;go_wp2_with fail
  go_end0
  exact ⟨rfl,v21,P22.out,S23.out⟩
def fJ (l:Int) (p:Int × List ByteArray):List ByteArray:=if l≤p.1 then p.2 else [⟨#[40]⟩] ++ p.2 ++ [⟨#[41]⟩]
def gi (bw:List ByteArray) (x:SX):Prop:=∀ (a:Option Addr) (c PB:Nat) (v:Value) (bs:List UInt8) (w:World),GP w PB→aF w PB v bs→aJ (fun b=>b<PB) w a x.ks→(aE bs bw).length≤gZ→Calls Tryz.prog 146 #[af PB 0,.agg (bE x a c)] w (bU w PB v (aE bs bw))
theorem gX (l:Int) (x:SX) (bw:List ByteArray) (hB:gi bw x) (a:Option Addr) (c:Nat) {PB:Nat} {v:Value} {bs:List UInt8} {w:World} (hG:GP w PB) (hP:aF w PB v bs) (hk:aJ (fun b=>b<PB) w a x.ks) (hb:(aE bs (fJ l (bN x.k,bw))).length≤gZ):Calls Tryz.prog 120 #[af PB 0,l,.agg (bE x a c)] w (bU w PB v (aE bs (fJ l (bN x.k,bw)))):=by
 have HBA:=ah hB;clear hB;by_cases hl:l≤bN x.k
 ·rw [fJ,if_pos hl] at hb ⊢;have Hb:=ah hb;clear hb;have hal:=bR w (.cells (bE x a c) 55);have B0:=ah (Bx.new hP (bE x a c) 55);have P0:=ah (hP.next hal);have S0:Hid (St PB v w v (w.alloc (.cells (bE x a c) 55))):=St.of hal hP.lt;have G0:=ah (hG.nx hal hP.lt);have L00:=ah (aJ.next hal hk)
  clear hP hG hal hk;go_enter Tryz.func120,Tryz.ntmps120;go_upto_region 1 with fail
  generalize w.alloc _=w0 at *;have f1:=B0.out.c 0 rfl;have con2:=ox x.k (G0.out).gl;go_wp2_with fail
  refine cR con2 fun w3 hb4=>?_;have P5:=ah (P0.out.next hb4);have S_:St PB v w0 v w3:=St.of hb4 P0.out.lt;have S6:=ah (S0.out.trans S_);have G7:=ah (G0.out.st S_);have B8:=ah (B0.out.st S_);have L9:=ah (aJ.cE L00.out S_);clear con2 S_ hb4 f1 P0 S0 G0 B0 L00;have f10:=B8.out.c 0 rfl;have f11:=B8.out.c 1 rfl
  have f12:=B8.out.c 2 rfl;have f13:=B8.out.c 3 rfl;have f14:=B8.out.c 4 rfl;have f15:=B8.out.c 5 rfl;have f16:=B8.out.c 6 rfl;have con17:=HBA.out a c PB v bs w3 (G7.out) (P5.out) L9.out (Hb.out);go_wp2_with fail
  refine con17.mono ?_;rintro e w18 ⟨rfl,v19,P_,S_⟩;have P20:=ah P_;have S21:=ah (S6.out.trans S_);have G22:=ah (G7.out.st S_);have B23:=ah (B8.out.st S_);have L24:=ah (aJ.cE L9.out S_);clear con17 P_ S_ f10 f11 f12 f13 f14 f15 f16 P5 S6 G7 B8 L9;go_wp2_with fail
  go_end0
  exact ⟨rfl,v19,P20.out,S21.out⟩
 ·rw [fJ,if_neg hl] at hb ⊢;have Hb:=ah hb;clear hb;have hal:=bR w (.cells (bE x a c) 55);have B0:=ah (Bx.new hP (bE x a c) 55);have P0:=ah (hP.next hal);have S0:Hid (St PB v w v (w.alloc (.cells (bE x a c) 55))):=St.of hal hP.lt;have G0:=ah (hG.nx hal hP.lt);have L00:=ah (aJ.next hal hk)
  clear hP hG hal hk;go_enter Tryz.func120,Tryz.ntmps120;go_upto_region 1 with fail
  generalize w.alloc _=w0 at *;have f25:=B0.out.c 0 rfl;have con26:=ox x.k (G0.out).gl;go_wp2_with fail
  refine cR con26 fun w27 hb28=>?_;have P29:=ah (P0.out.next hb28);have S_:St PB v w0 v w27:=St.of hb28 P0.out.lt;have S30:=ah (S0.out.trans S_);have G31:=ah (G0.out.st S_);have B32:=ah (B0.out.st S_);have L33:=ah (aJ.cE L00.out S_);clear con26 S_ hb28 f25 P0 S0 G0 B0 L00
  have con34:=bq [⟨#[40]⟩] P29.out (dx (dx (Hb.out))) (by simp);go_wp2_with fail
  refine con34.mono ?_;rintro e w35 ⟨rfl,v36,P_,S_⟩;have P37:=ah P_;have S38:=ah (S30.out.trans S_);have G39:=ah (G31.out.st S_);have B40:=ah (B32.out.st S_);have L41:=ah (aJ.cE L33.out S_);clear con34 P_ S_  P29 S30 G31 B32 L33;have f42:=B40.out.c 0 rfl;have f43:=B40.out.c 1 rfl
  have f44:=B40.out.c 2 rfl;have f45:=B40.out.c 3 rfl;have f46:=B40.out.c 4 rfl;have f47:=B40.out.c 5 rfl;have f48:=B40.out.c 6 rfl
  have con49:=HBA.out a c PB v36 _ w35 (G39.out) (P37.out) L41.out (by rw [← an]; exact dx (Hb.out));go_wp2_with fail
  refine con49.mono ?_;rintro e w50 ⟨rfl,v51,P_,S_⟩;have P52:Hid (aF w50 PB v51 (aE bs ([⟨#[40]⟩] ++ bw))):=by show aF _ _ _ _; rw [an]; exact P_
  have S53:=ah (S38.out.trans S_);have G54:=ah (G39.out.st S_);have B55:=ah (B40.out.st S_);have L56:=ah (aJ.cE L41.out S_);clear con49 P_ S_ f42 f43 f44 f45 f46 f47 f48 P37 S38 G39 B40 L41;have con57:=bq [⟨#[41]⟩] P52.out (by rw [← an]; exact Hb.out) (by simp);go_wp2_with fail
  refine con57.mono ?_;rintro e w58 ⟨rfl,v59,P_,S_⟩;have P60:Hid (aF w58 PB v59 (aE bs ([⟨#[40]⟩] ++ bw ++ [⟨#[41]⟩]))):=by show aF _ _ _ _; rw [an]; exact P_
  have S61:=ah (S53.out.trans S_);have G62:=ah (G54.out.st S_);have B63:=ah (B55.out.st S_);have L64:=ah (aJ.cE L56.out S_);clear con57 P_ S_  P52 S53 G54 B55 L56;go_wp2_with fail
  go_end0
  exact ⟨rfl,v59,P60.out,S61.out⟩
theorem xE (x:SX) (bw:List ByteArray) (hB:gi bw x) (a:Option Addr) (c:Nat) {PB:Nat} {v:Value} {bs:List UInt8} {w:World} (hG:GP w PB) (hP:aF w PB v bs) (hk:aJ (fun b=>b<PB) w a x.ks) (hb:(aE bs (fJ 1 (bN x.k,bw))).length≤gZ):Calls Tryz.prog 92 #[af PB 0,.agg (bE x a c)] w (bU w PB v (aE bs (fJ 1 (bN x.k,bw)))):=by
 have HBA:=ah hB;clear hB;have Hb:=ah hb;clear hb;have hal:=bR w (.cells (bE x a c) 55);have B0:=ah (Bx.new hP (bE x a c) 55);have P0:=ah (hP.next hal);have S0:Hid (St PB v w v (w.alloc (.cells (bE x a c) 55))):=St.of hal hP.lt;have G0:=ah (hG.nx hal hP.lt);have L00:=ah (aJ.next hal hk)
 clear hP hG hal hk;go_enter Tryz.func92,Tryz.ntmps92;go_upto_region 1 with fail
 generalize w.alloc _=w0 at *;have f1:=B0.out.c 0 rfl;have f2:=B0.out.c 1 rfl;have f3:=B0.out.c 2 rfl;have f4:=B0.out.c 3 rfl;have f5:=B0.out.c 4 rfl;have f6:=B0.out.c 5 rfl;have f7:=B0.out.c 6 rfl
 have con8:=gX 1 x bw HBA.out a c (G0.out) (P0.out) L00.out (Hb.out);go_wp2_with fail
 refine con8.mono ?_;rintro e w9 ⟨rfl,v10,P_,S_⟩;have P11:=ah P_;have S12:=ah (S0.out.trans S_);have G13:=ah (G0.out.st S_);have B14:=ah (B0.out.st S_);have L15:=ah (aJ.cE L00.out S_);clear con8 P_ S_ f1 f2 f3 f4 f5 f6 f7 P0 S0 G0 B0 L00;go_wp2_with fail
 go_end0
 exact ⟨rfl,v10,P11.out,S12.out⟩
abbrev pd:Int × List ByteArray:=(0,[])
def kg (ps:List (Int × List ByteArray)) (ss:List ByteArray):Nat→List ByteArray
 | 0=>[]
 | i+1=>kg ps ss i ++ [ss.getD i eB] ++ fJ 1 (ps.getD i pd)
def gm (ps:List (Int × List ByteArray)) (ss:List ByteArray):List ByteArray:=kg ps ss ps.length ++ [ss.getD ps.length eB]
theorem wQ (bs:List UInt8) (ps:List (Int × List ByteArray)) (ss:List ByteArray) (i:Nat):∀ n,i≤n→(aE bs (kg ps ss i)).length≤(aE bs (kg ps ss n)).length
 | 0,h=>by rw [Nat.le_zero.1 h]; exact I6 _
 | n+1,h=>by
  by_cases e:i=n+1
  ·rw [e]; exact I6 _
  ·refine Jj (wQ bs ps ss i n ak) ?_
   rw [kg,an,an]
   exact Jj (fX _ _) (fX _ _)
def rf (ps:List (Int × List ByteArray)) (l:List SX):Prop:=ps.length=l.length∧∀ (i:Nat) (h:i<l.length),∃ bw,ps.getD i pd=(bN l[i].k,bw)∧gi bw l[i]
theorem yL (l:List SX) (ps:List (Int × List ByteArray)) (hB:rf ps l) (hl3:l.length≤1000) (a:Option Addr) (c g:Nat) (ss:List ByteArray) (hss:l.length<ss.length) {PB:Nat} {v:Value} {bs:List UInt8} {w:World} (hG:GP w PB) (hP:aF w PB v bs) (hk:aJ (fun b=>b<PB) w a l) (hx:Bx w PB v g (ss.map Value.string).toArray 9) (hb:(aE bs (gm ps ss)).length≤gZ):Calls Tryz.prog 174 #[af PB 0,.slice a l.length c,.slice (some (af g 0)) ss.length ss.length] w (bU w PB v (aE bs (gm ps ss))):=by
 have HBL:=ah hB;have HX:=ah hx;have HG:=ah hG;have HP:=ah hP;have HK:=ah hk;have hn:=hB.1;rw [gm] at hb ⊢;rw [hn] at hb ⊢;have HB:Hid (∀ j,j<l.length→(aE bs (kg ps ss (j+1))).length≤gZ):=fun j hj=>Jj (wQ bs ps ss (j+1) l.length hj) (dx hb)
 have HT:=ah hb;clear hB hx hG hP hk hb;go_enter Tryz.func174,Tryz.ntmps174;go_wp2_with fail
 go_loopw [10] (fun i wr=>∃ (j:Nat) (v':Value),j≤l.length∧i = .int .i64 j∧Hid (aF wr PB v' (aE bs (kg ps ss j)))∧Hid (St PB v w v' wr)) (fun i _=>l.length - (RowKit.intOf i).toNat)
 case atStart=>exact ⟨0,v,Jc _,rfl,HP,St.refl _ _ _⟩
 case round =>
  obtain ⟨j,v1,hj,rfl,hP1,hS1⟩:=hrel;have hG1:=ah (HG.out.st hS1.out);have hX1:=ah (HX.out.st hS1.out);by_cases hlt:j<l.length
  ·have hBj:=HB.out j hlt;obtain ⟨b1,o1,ai,ci,rfl,_,_,sv,kk⟩:=(aJ.cE HK.out hS1.out).elem hlt;obtain ⟨bw,hbw,hba⟩:=HBL.out.2 j hlt;rw [kg,hbw] at hBj;have hgs:ss.getD j eB=ss[j]:=by simp [List.getD,show j<ss.length by omega]
   rw [hgs] at hBj;have HBJ:Hid (kg ps ss (j+1)=kg ps ss j ++ [ss[j]] ++ fJ 1 (bN l[j].k,bw)):=by show _=_; rw [kg,hbw,hgs]
   have y0:wr.cell? (af g j)=some (.string ss[j]):=hX1.out.c j (by simp [show j<ss.length by omega]);have hjz:(j:Int)<(l.length:Int):=by omega
   have hjs:(j:Int)<(ss.length:Int):=by omega
   generalize ss[j]=s at *;generalize l[j]=x at *;have Hb:=ah hBj;have HBA:=ah hba;have KK:=ah kk;clear hBj hbw hba hgs kk;have z0:=sv.c0;have z1:=sv.c1;have z2:=sv.c2;have z3:=sv.c3;have z4:=sv.c4;have z5:=sv.c5;have z6:=sv.c6;clear sv;have hal:=bR wr (.cells (bE x ai ci) 55);go_upto_region 3 with fail
   have B0:=ah (Bx.new hP1.out (bE x ai ci) 55);have P0:=ah (hP1.out.next hal);have S0:=ah (hS1.out.trans (St.of hal hP1.out.lt));have G0:=ah (hG1.out.nx hal hP1.out.lt);have L00:=ah (aJ.next hal KK.out)
   have y1:=(hal.cell (p:=af g j) (jm y0)).trans y0;clear hP1 hS1 hG1 hX1 KK y0 hal z0 z1 z2 z3 z4 z5 z6;generalize wr.alloc _=w0 at *;have con1:=bq [s] P0.out (by rw [← an]; exact dx (Hb.out)) (by simp);go_wp2_with fail
   refine con1.mono ?_;rintro e w2 ⟨rfl,v3,P_,S_⟩;have P4:Hid (aF w2 PB v3 (aE bs (kg ps ss j ++ [s]))):=by show aF _ _ _ _; rw [an]; exact P_
   have S5:=ah (S0.out.trans S_);have G6:=ah (G0.out.st S_);have B7:=ah (B0.out.st S_);have L8:=ah (aJ.cE L00.out S_);clear con1 P_ S_ y1 P0 S0 G0 B0 L00;have f9:=B7.out.c 0 rfl;have f10:=B7.out.c 1 rfl;have f11:=B7.out.c 2 rfl;have f12:=B7.out.c 3 rfl
   have f13:=B7.out.c 4 rfl;have f14:=B7.out.c 5 rfl;have f15:=B7.out.c 6 rfl;have con16:=xE x bw HBA.out ai ci (G6.out) (P4.out) L8.out (by rw [← an]; exact Hb.out);go_wp2_with fail
   refine con16.mono ?_;rintro e w17 ⟨rfl,v18,P_,S_⟩;have P19:Hid (aF w17 PB v18 (aE bs (kg ps ss j ++ [s] ++ fJ 1 (bN x.k,bw)))):=by show aF _ _ _ _; rw [an]; exact P_
   have S20:=ah (S5.out.trans S_);have G21:=ah (G6.out.st S_);have B22:=ah (B7.out.st S_);have L23:=ah (aJ.cE L8.out S_);clear con16 P_ S_ f9 f10 f11 f12 f13 f14 f15 P4 S5 G6 B7 L8;have PZ:Hid (aF w17 PB v18 (aE bs (kg ps ss (j+1)))):=by show aF _ _ _ _; rw [HBJ.out]; exact P19.out
   clear P19;go_wp2_with fail
   go_roundw
   case rel=>exact ⟨j+1,v18,by omega,by go_num,PZ,S20⟩
   case measure=>simp [RowKit.intOf]; omega
  ·have ej:j=l.length:=by omega
   subst ej;have hgs:ss.getD l.length eB=ss[l.length]:=by simp [List.getD,hss]
   have Hb:=ah HT.out;rw [hgs] at Hb;have y0:wr.cell? (af g l.length)=some (.string ss[l.length]):=hX1.out.c l.length (by simp [hss]);have hjs:(l.length:Int)<(ss.length:Int):=by omega
   generalize ss[l.length]=s at *;have HGS:=ah hgs;clear hgs HT hX1;have con24:=bq [s] hP1.out (by rw [← an]; exact Hb.out) (by simp);go_wp2_with fail
   refine con24.mono ?_;rintro e w25 ⟨rfl,v26,P_,S_⟩;have P27:Hid (aF w25 PB v26 (aE bs (kg ps ss l.length ++ [s]))):=by show aF _ _ _ _; rw [an]; exact P_
   have S28:=ah (hS1.out.trans S_);have G29:=ah (hG1.out.st S_);clear con24 P_ S_ y0 hP1 hS1 hG1;go_wp2_with fail
   go_end0
   exact ⟨rfl,v26,by rw [HGS.out]; exact P27.out,S28.out⟩
theorem aJ.Fy {S:Nat→Prop} {W:World} {b o:Nat} {l:List SX} (h:aJ S W (Option.some (af b o)) l) {k:Nat} (hk:k<l.length):b<W.heap.size∧∃ ai cap,qF W b (o+k*7) l[k] ai cap∧aJ S W ai l[k].ks:=by
 obtain ⟨b',o',ai,cap,e,_,h2,h3,h4⟩:=h.elem hk;have e:=Jt e;injection e with e1 e2
 subst e1 e2;exact ⟨h2,ai,cap,h3,h4⟩
theorem qF.IC {W:World} {b off:Nat} {x:SX} {a:Option Addr} {cap:Nat} (h:qF W b off x a cap) (hb:b<W.heap.size):ix W b off (mf x a cap):=⟨hb,fun j u hj=>by
 match j,hj with
 | 0,hj=>cases hj; exact h.c0
 | 1,hj=>cases hj; exact h.c1
 | 2,hj=>cases hj; exact h.c2
 | 3,hj=>cases hj; exact h.c3
 | 4,hj=>cases hj; exact h.c4
 | 5,hj=>cases hj; exact h.c5
 | 6,hj=>cases hj; exact h.c6
 | n+7,hj=>simp [mf] at hj⟩
theorem sw (k:Int):∀ l:List (Int × ByteArray × Int),(∀ i ∈ l,0≤i.2.2∧i.2.2≤7)→0≤(kn k l).2.2∧(kn k l).2.2≤7
 | [],_=>by simp [kn]
 | i :: l,h=>by
  rw [kn]
  split
  ·exact h i (by simp)
  ·exact sw k l fun i hi=>h i (by simp [hi])
theorem zV (k:Int):0≤(eO k).2.2∧(eO k).2.2≤7:=sw k dV (by intro i hi; simp only [dV,Jn,List.not_mem_nil,or_false] at hi; rcases hi with rfl | rfl | rfl | rfl | rfl | rfl | rfl | rfl | rfl | rfl | rfl | rfl <;> decide)
def uZ (l:Int):Int:=if l=4 then 5 else l
def mR (k:Int) (p q:Int × List ByteArray):List ByteArray:=fJ (uZ (eO k).2.2) p ++ [(eO k).2.1] ++ fJ ((eO k).2.2+1) q
theorem BU (x:SX) (u0 u1:List ByteArray) (hn2:x.ks.length=2) (hB0:gi u0 (x.ks[0]'ak)) (hB1:gi u1 (x.ks[1]'ak)) (a:Option Addr) (c:Nat) {PB:Nat} {v:Value} {bs:List UInt8} {w:World} (hG:GP w PB) (hP:aF w PB v bs) (hk:aJ (fun b=>b<PB) w a x.ks) (hb:(aE bs (mR x.k (bN (x.ks[0]'ak).k,u0) (bN (x.ks[1]'ak).k,u1))).length≤gZ):Calls Tryz.prog 176 #[af PB 0,.agg (bE x a c)] w (bU w PB v (aE bs (mR x.k (bN (x.ks[0]'ak).k,u0) (bN (x.ks[1]'ak).k,u1)))):=by
 have HB0:=ah hB0;have HB1:=ah hB1;clear hB0 hB1;obtain ⟨b1,o1,_,_,rfl,hbp,_,_,_⟩:=hk.elem (k:=0) ak;have HC:Hid (∀ W,Gl W→_):=fun W hg=>oR x.k (w:=W) hg
 obtain ⟨lo,hi⟩:=zV x.k;unfold mR at hb ⊢;generalize eO x.k=i at *;obtain ⟨ik,is,il⟩:=i;simp only [AX] at HC hb lo hi ⊢;by_cases h4:il=4
 ·have hlf:uZ il=5:=by rw [uZ,if_pos h4]
  rw [hlf] at hb ⊢;subst h4;have Hb:=ah hb;clear hb;have hal:=bR w (.cells #[x.k,x.v.1,x.v.2.1,x.v.2.2,x.bp,x.name,.slice (some (af b1 o1)) x.ks.length c] 55)
  have B0:=ah (Bx.new hP #[x.k,x.v.1,x.v.2.1,x.v.2.2,x.bp,x.name,.slice (some (af b1 o1)) x.ks.length c] 55)
  have P0:=ah (hP.next hal);have S0:Hid (St PB v w v (w.alloc (.cells #[x.k,x.v.1,x.v.2.1,x.v.2.2,x.bp,x.name,.slice (some (af b1 o1)) x.ks.length c] 55))):=St.of hal hP.lt;have G0:=ah (hG.nx hal hP.lt)
  have L00:=ah (aJ.next hal hk);clear hP hG hal hk;go_enter Tryz.func176,Tryz.ntmps176;go_upto_region 1 with fail
  generalize w.alloc _=w0 at *;have f1:=B0.out.c 0 rfl;have con2:=HC.out w0 G0.out.gl;go_wp2_with fail
  refine cR con2 fun w3 hb4=>?_;have hal2:=bR w3 (.cells #[ik,is,(4:Int)] 201);have hbb:=chain hb4 hal2;clear con2 f1;go_upto_region 2 with fail
  have S_:St PB v w0 v (w3.alloc (.cells #[ik,is,(4:Int)] 201)):=St.of hbb P0.out.lt;have PA:=ah (P0.out.next hbb);have SA:=ah (S0.out.trans S_);have GA:=ah (G0.out.st S_)
  have BA:=ah (B0.out.st S_);have BI:Hid (Bx (w3.alloc (.cells #[ik,is,(4:Int)] 201)) PB v w3 #[ik,is,(4:Int)] 201):=Bx.new (P0.out.next hb4) _ _;have LA:=ah (aJ.cE L00.out S_)
  clear S_ hb4 hal2 hbb P0 S0 G0 B0 L00;generalize w3.alloc _=wA at *;obtain ⟨hl0,a0,c0,sv0,kk0⟩:=LA.out.Fy (k:=0) (show 0<x.ks.length by omega);have y0:wA.cell? (af b1 o1)=some (.int .i64 x.ks[0].k):=by simpa using sv0.c0
  have y1:wA.cell? ⟨b1,o1+1,none⟩=some (.int .i64 x.ks[0].v.1):=by simpa using sv0.c1
  have y2:wA.cell? ⟨b1,o1+2,none⟩=some (.int .i64 x.ks[0].v.2.1):=by simpa using sv0.c2
  have y3:wA.cell? ⟨b1,o1+3,none⟩=some (.string x.ks[0].v.2.2):=by simpa using sv0.c3
  have y4:wA.cell? ⟨b1,o1+4,none⟩=some (.string x.ks[0].bp):=by simpa using sv0.c4
  have y5:wA.cell? ⟨b1,o1+5,none⟩=some (.string x.ks[0].name):=by simpa using sv0.c5
  have y6:wA.cell? ⟨b1,o1+6,none⟩=some (.slice a0 x.ks[0].ks.length c0):=by simpa using sv0.c6
  clear sv0 hl0;have f5:=BI.out.c 2 rfl;have f6:=BA.out.c 6 rfl;have con7:=gX 5 x.ks[0] u0 HB0.out a0 c0 (GA.out) (PA.out) kk0 (dx (dx (Hb.out)));go_wp2_with fail
  refine con7.mono ?_;rintro e w8 ⟨rfl,v9,P_,S_⟩;have P10:=ah P_;have S11:=ah (SA.out.trans S_);have G12:=ah (GA.out.st S_);have B13:=ah (BA.out.st S_);have B14:=ah (BI.out.st S_);have L15:=ah (aJ.cE LA.out S_)
  clear con7 P_ S_ f5 f6 y0 y1 y2 y3 y4 y5 y6 PA SA GA BA BI LA;have f16:=B14.out.c 1 rfl;have con17:=bq [is] P10.out (by rw [← an]; exact dx (Hb.out)) (by simp);go_wp2_with fail
  refine con17.mono ?_;rintro e w18 ⟨rfl,v19,P_,S_⟩;have P20:Hid (aF w18 PB v19 (aE bs (fJ 5 (bN x.ks[0].k,u0) ++ [is]))):=by show aF _ _ _ _; rw [an]; exact P_
  have S21:=ah (S11.out.trans S_);have G22:=ah (G12.out.st S_);have B23:=ah (B13.out.st S_);have B24:=ah (B14.out.st S_);have L25:=ah (aJ.cE L15.out S_);clear con17 P_ S_ f16 P10 S11 G12 B13 B14 L15;obtain ⟨hl1,a1,c1,sv1,kk1⟩:=L25.out.Fy (k:=1) (show 1<x.ks.length by omega)
  go_upto_region 7 with fail
  obtain ⟨C,hCC,hCP,hC0⟩:∃ C:World→Prop,(∀ W W':World,C W→Below W W W'→C W')∧(∀ W,C W↔gB W (w.heap.size) (bE x (some (af b1 o1)) c) 55∧gB W (w3.heap.size) #[ik,is,(4:Int)] 201∧ix W b1 (o1+7) (mf x.ks[1] a1 c1))∧C w18:=⟨fun W=>gB W (w.heap.size) (bE x (some (af b1 o1)) c) 55∧gB W (w3.heap.size) #[ik,is,(4:Int)] 201∧ix W b1 (o1+7) (mf x.ks[1] a1 c1),fun W W' h hb=>⟨h.1.nx hb,h.2.1.nx hb,h.2.2.nx hb⟩,fun _=>Iff.rfl,B23.out.q,B24.out.q,by have:=sv1.IC hl1; simpa using this⟩
  have hdr:Below w18 w18 w18.drew:=(I8 _ _).drew;have CW:=hCC _ _ hC0 hdr;clear hC0 sv1;refine bX C bm ?_;refine cT hCC 28 0 (af PB 0) (fun n hn=>?_) CW ?_
  ·go_simp
  simp only [Act.put,pA,pB,pC];refine cT hCC 29 1 (af w3 2) (fun n hn=>?_) CW ?_
  ·go_simp
  simp only [Act.put,pA,pB,pC];refine cT hCC 30 2 (4:Int) (fun n hn=>?_) CW ?_
  ·have z0:=((hCP n).1 hn).2.1.c 2 rfl;go_simp
  simp only [Act.put,pA,pB,pC];refine cT hCC 31 3 (.int .i64 (4+1)) (fun n hn=>?_) CW ?_
  ·go_simp;rfl
  simp only [Act.put,pA,pB,pC];refine cT hCC 32 4 (af w 6) (fun n hn=>?_) CW ?_
  ·go_simp
  simp only [Act.put,pA,pB,pC];refine cT hCC 33 5 (.slice (some (af b1 o1)) x.ks.length c) (fun n hn=>?_) CW ?_
  ·have z0:=((hCP n).1 hn).1.c 6 rfl;go_simp
  simp only [Act.put,pA,pB,pC];refine cT hCC 34 6 (.pointer (some ⟨b1,o1+7,none⟩)) (fun n hn=>?_) CW ?_
  ·go_simp
  simp only [Act.put,pA,pB,pC];refine eA hCC (some 35) (i:=7) (v:=.agg (bE x.ks[1] a1 c1)) rfl rfl bm bm bm (fun _ _ _ h=>h) (dA rfl 55 _ rfl b1 (o1+7) (mf x.ks[1] a1 c1) rfl Tryz.underlying55 rfl bm (fun n hn=>((hCP n).1 hn).2.2)) CW ?_;simp only [Act.put,pA,pB,pC];refine pN 8 bm fun w5 hb5=>?_
  have D5:=chain hdr hb5;have S5:St PB v19 w18 v19 w5:=St.of D5 P20.out.lt;have con:=gX (4+1) x.ks[1] u1 HB1.out a1 c1 (G22.out.st S5) (P20.out.next D5) (aJ.next D5 kk1) (by rw [← an]; exact Hb.out);refine wpOp_step rfl (fun K hK=>?_);go_simp;refine con.mono ?_;rintro e w6 ⟨rfl,v6,P6,S6⟩;refine hK _ _ ⟨(hCP _).2 ⟨((B23.out.st S5).st S6).q,((B24.out.st S5).st S6).q,by have h0:=((hCP _).1 (hCC _ _ CW hb5)).2.2; exact ⟨Ja h0.1 S6.jS.size,fun j u hj=>(Jp (a:=⟨b1,o1+7+j,none⟩) (S6.jS.block b1 hbp)).trans (h0.2 j u hj)⟩⟩,?_⟩
  refine eK bm ?_;intro w7 hb7;have PE:aF w7 PB v6 (aE bs (fJ 5 (bN x.ks[0].k,u0) ++ [is] ++ fJ (4+1) (bN x.ks[1].k,u1))):=by rw [an]; exact P6.next hb7
  have SE:=S21.out.trans (S5.trans (S6.trans (St.of hb7 P6.lt)));clear con hK CW hCC hCP;go_wp2_with fail
  go_end0
  exact ⟨rfl,v6,PE,SE⟩
 ·have hlf:uZ il=il:=by rw [uZ,if_neg h4]
  rw [hlf] at hb ⊢;have b4:(il == 4)=false:=by simpa using h4
  have Hb:=ah hb;clear hb;have hal:=bR w (.cells #[x.k,x.v.1,x.v.2.1,x.v.2.2,x.bp,x.name,.slice (some (af b1 o1)) x.ks.length c] 55)
  have B0:=ah (Bx.new hP #[x.k,x.v.1,x.v.2.1,x.v.2.2,x.bp,x.name,.slice (some (af b1 o1)) x.ks.length c] 55)
  have P0:=ah (hP.next hal);have S0:Hid (St PB v w v (w.alloc (.cells #[x.k,x.v.1,x.v.2.1,x.v.2.2,x.bp,x.name,.slice (some (af b1 o1)) x.ks.length c] 55))):=St.of hal hP.lt;have G0:=ah (hG.nx hal hP.lt)
  have L00:=ah (aJ.next hal hk);clear hP hG hal hk;go_enter Tryz.func176,Tryz.ntmps176;go_upto_region 1 with fail
  generalize w.alloc _=w0 at *;have f26:=B0.out.c 0 rfl;have con27:=HC.out w0 G0.out.gl;go_wp2_with fail
  refine cR con27 fun w28 hb29=>?_;have hal2:=bR w28 (.cells #[ik,is,il] 201);have hbb:=chain hb29 hal2;clear con27 f26;go_upto_region 2 with fail
  have S_:St PB v w0 v (w28.alloc (.cells #[ik,is,il] 201)):=St.of hbb P0.out.lt;have PA:=ah (P0.out.next hbb);have SA:=ah (S0.out.trans S_);have GA:=ah (G0.out.st S_)
  have BA:=ah (B0.out.st S_);have BI:Hid (Bx (w28.alloc (.cells #[ik,is,il] 201)) PB v w28 #[ik,is,il] 201):=Bx.new (P0.out.next hb29) _ _;have LA:=ah (aJ.cE L00.out S_)
  clear S_ hb29 hal2 hbb P0 S0 G0 B0 L00;generalize w28.alloc _=wA at *;obtain ⟨hl0,a0,c0,sv0,kk0⟩:=LA.out.Fy (k:=0) (show 0<x.ks.length by omega);have y0:wA.cell? (af b1 o1)=some (.int .i64 x.ks[0].k):=by simpa using sv0.c0
  have y1:wA.cell? ⟨b1,o1+1,none⟩=some (.int .i64 x.ks[0].v.1):=by simpa using sv0.c1
  have y2:wA.cell? ⟨b1,o1+2,none⟩=some (.int .i64 x.ks[0].v.2.1):=by simpa using sv0.c2
  have y3:wA.cell? ⟨b1,o1+3,none⟩=some (.string x.ks[0].v.2.2):=by simpa using sv0.c3
  have y4:wA.cell? ⟨b1,o1+4,none⟩=some (.string x.ks[0].bp):=by simpa using sv0.c4
  have y5:wA.cell? ⟨b1,o1+5,none⟩=some (.string x.ks[0].name):=by simpa using sv0.c5
  have y6:wA.cell? ⟨b1,o1+6,none⟩=some (.slice a0 x.ks[0].ks.length c0):=by simpa using sv0.c6
  clear sv0 hl0;have f30:=BI.out.c 2 rfl;have f31:=BA.out.c 6 rfl;have con32:=gX il x.ks[0] u0 HB0.out a0 c0 (GA.out) (PA.out) kk0 (dx (dx (Hb.out)));go_wp2_with fail
  refine con32.mono ?_;rintro e w33 ⟨rfl,v34,P_,S_⟩;have P35:=ah P_;have S36:=ah (SA.out.trans S_);have G37:=ah (GA.out.st S_);have B38:=ah (BA.out.st S_);have B39:=ah (BI.out.st S_);have L40:=ah (aJ.cE LA.out S_)
  clear con32 P_ S_ f30 f31 y0 y1 y2 y3 y4 y5 y6 PA SA GA BA BI LA;have f41:=B39.out.c 1 rfl;have con42:=bq [is] P35.out (by rw [← an]; exact dx (Hb.out)) (by simp);go_wp2_with fail
  refine con42.mono ?_;rintro e w43 ⟨rfl,v44,P_,S_⟩;have P45:Hid (aF w43 PB v44 (aE bs (fJ il (bN x.ks[0].k,u0) ++ [is]))):=by show aF _ _ _ _; rw [an]; exact P_
  have S46:=ah (S36.out.trans S_);have G47:=ah (G37.out.st S_);have B48:=ah (B38.out.st S_);have B49:=ah (B39.out.st S_);have L50:=ah (aJ.cE L40.out S_);clear con42 P_ S_ f41 P35 S36 G37 B38 B39 L40;obtain ⟨hl1,a1,c1,sv1,kk1⟩:=L50.out.Fy (k:=1) (show 1<x.ks.length by omega)
  go_upto_region 7 with fail
  obtain ⟨C,hCC,hCP,hC0⟩:∃ C:World→Prop,(∀ W W':World,C W→Below W W W'→C W')∧(∀ W,C W↔gB W (w.heap.size) (bE x (some (af b1 o1)) c) 55∧gB W (w28.heap.size) #[ik,is,il] 201∧ix W b1 (o1+7) (mf x.ks[1] a1 c1))∧C w43:=⟨fun W=>gB W (w.heap.size) (bE x (some (af b1 o1)) c) 55∧gB W (w28.heap.size) #[ik,is,il] 201∧ix W b1 (o1+7) (mf x.ks[1] a1 c1),fun W W' h hb=>⟨h.1.nx hb,h.2.1.nx hb,h.2.2.nx hb⟩,fun _=>Iff.rfl,B48.out.q,B49.out.q,by have:=sv1.IC hl1; simpa using this⟩
  have hdr:Below w43 w43 w43.drew:=(I8 _ _).drew;have CW:=hCC _ _ hC0 hdr;clear hC0 sv1;refine bX C bm ?_;refine cT hCC 28 0 (af PB 0) (fun n hn=>?_) CW ?_
  ·go_simp
  simp only [Act.put,pA,pB,pC];refine cT hCC 29 1 (af w28 2) (fun n hn=>?_) CW ?_
  ·go_simp
  simp only [Act.put,pA,pB,pC];refine cT hCC 30 2 il (fun n hn=>?_) CW ?_
  ·have z0:=((hCP n).1 hn).2.1.c 2 rfl;go_simp
  simp only [Act.put,pA,pB,pC];refine cT hCC 31 3 (.int .i64 (il+1)) (fun n hn=>?_) CW ?_
  ·go_simp;simp [IntKind.wrap,IntKind.signed,IntKind.bits]; omega
  simp only [Act.put,pA,pB,pC];refine cT hCC 32 4 (af w 6) (fun n hn=>?_) CW ?_
  ·go_simp
  simp only [Act.put,pA,pB,pC];refine cT hCC 33 5 (.slice (some (af b1 o1)) x.ks.length c) (fun n hn=>?_) CW ?_
  ·have z0:=((hCP n).1 hn).1.c 6 rfl;go_simp
  simp only [Act.put,pA,pB,pC];refine cT hCC 34 6 (.pointer (some ⟨b1,o1+7,none⟩)) (fun n hn=>?_) CW ?_
  ·go_simp
  simp only [Act.put,pA,pB,pC];refine eA hCC (some 35) (i:=7) (v:=.agg (bE x.ks[1] a1 c1)) rfl rfl bm bm bm (fun _ _ _ h=>h) (dA rfl 55 _ rfl b1 (o1+7) (mf x.ks[1] a1 c1) rfl Tryz.underlying55 rfl bm (fun n hn=>((hCP n).1 hn).2.2)) CW ?_;simp only [Act.put,pA,pB,pC];refine pN 8 bm fun w5 hb5=>?_
  have D5:=chain hdr hb5;have S5:St PB v44 w43 v44 w5:=St.of D5 P45.out.lt;have con:=gX (il+1) x.ks[1] u1 HB1.out a1 c1 (G47.out.st S5) (P45.out.next D5) (aJ.next D5 kk1) (by rw [← an]; exact Hb.out);refine wpOp_step rfl (fun K hK=>?_);go_simp;refine con.mono ?_;rintro e w6 ⟨rfl,v6,P6,S6⟩;refine hK _ _ ⟨(hCP _).2 ⟨((B48.out.st S5).st S6).q,((B49.out.st S5).st S6).q,by have h0:=((hCP _).1 (hCC _ _ CW hb5)).2.2; exact ⟨Ja h0.1 S6.jS.size,fun j u hj=>(Jp (a:=⟨b1,o1+7+j,none⟩) (S6.jS.block b1 hbp)).trans (h0.2 j u hj)⟩⟩,?_⟩
  refine eK bm ?_;intro w7 hb7;have PE:aF w7 PB v6 (aE bs (fJ il (bN x.ks[0].k,u0) ++ [is] ++ fJ (il+1) (bN x.ks[1].k,u1))):=by rw [an]; exact P6.next hb7
  have SE:=S46.out.trans (S5.trans (S6.trans (St.of hb7 P6.lt)));clear con hK CW hCC hCP;go_wp2_with fail
  go_end0
  exact ⟨rfl,v6,PE,SE⟩
end Go.Proofs.YtoknmnngaackkaaGreatDoor
namespace Go.Proofs
open Go.Shelf
set_option maxRecDepth 100000
set_option maxHeartbeats 16000000
shelf_lay LaysM.n173 Nm 173 at Tryz as Tryz.fmtI
shelf_lay Lays.n155 Nm 155 at Tryz as Tryz.repA
theorem Tryz.Hg:Builder.Extra Tryz.prog Tryz.repA_ren where
 sizeBuilder:=by kernel_rfl
 liesBuilder:=by kernel_rfl
 t5:=Tryz.repA.t5
 a5:=Tryz.repA.a5
 z5:=Tryz.repA.z5
 v5:=Tryz.repA.v5
 infoByte:=by kernel_rfl
 cellsByte:=by kernel_rfl
 sizeByte:=by kernel_rfl
 neB5:=by decide
end Go.Proofs
namespace Go.Proofs.YtoknmnngaackkaaGreatDoor
open Go.RowKit Go.Lib Go.Shelf
set_option maxRecDepth 100000
set_option maxHeartbeats 8000000
theorem xu (n:Int) (h0:-9223372036854775808≤n) (h1:n≤9223372036854775807) {w:World} {PB:Nat} (hG:GP w PB):Calls Tryz.prog 121 #[n,(10:Int)] w fun e w'=>e = .returned (.string ⟨(Lib.itoa n).toArray⟩)∧Below w w w':=by
 refine (Any.strconv_FormatInt_10 Tryz.fmtI n h0 h1 w hG.bp).mono ?_;rintro e w' ⟨rfl,k,os,rfl⟩;exact ⟨rfl,below_grow _ w (I6 _) k os⟩
theorem De (s:ByteArray) (hs:s.size≤4000) {w:World} {PB:Nat} (hG:GP w PB):Calls Tryz.prog 123 #[s,.string ⟨#[39]⟩,.string ⟨#[39,39]⟩] w fun e w'=>e = .returned (.string ⟨(Lib.replaceAll s.data.toList [39] [39,39]).toArray⟩)∧Below w w w':=by
 obtain ⟨m,hm⟩:=hG.mx;have:=Any.strings_ReplaceAll Tryz.repA Tryz.Hg s ⟨#[39]⟩ ⟨#[39,39]⟩ m w ak hm (by decide) (by have:=countB_le ⟨#[39]⟩ (by decide) s.size s (I6 _); show s.size+countB s ⟨#[39]⟩*2≤_; omega);exact this
theorem wP (b:Bool) (w:World):Calls Tryz.prog 122 #[b] w fun e w'=>e = .returned (.string (if b then ⟨#[116,114,117,101]⟩ else ⟨#[102,97,108,115,101]⟩))∧Below w w w':=by
 cases b
 all_goals go_enter Tryz.func122,Tryz.ntmps122
 all_goals go_wp2
 all_goals exact fa rfl rfl ⟨fQ,I8 _ _⟩
set_option maxHeartbeats 16000000
def gK (n:Int):ByteArray:=⟨(Lib.itoa n).toArray⟩
def j3 (n:Int):List ByteArray:=if n<0 then [⟨#[45]⟩] ++ [gK (-n)] else [gK n]
def vK (s:ByteArray):ByteArray:=⟨#[39]⟩ ++ ⟨(Lib.replaceAll s.data.toList [39] [39,39]).toArray⟩ ++ ⟨#[39]⟩
theorem sI (old new:List UInt8):∀ (k:Nat) (s:List UInt8),(Lib.replaceK old new k s).length≤s.length+k*new.length
 | 0,s=>by simp [Lib.replaceK]
 | k+1,s=>by
  rw [Lib.replaceK]
  split
  ·omega
  ·rw [Jf,Jf,Nat.add_mul,Nat.one_mul]
   have:=sI old new k (s.drop ((Lib.index s old).toNat+old.length))
   rw [Jz] at this
   have h2:(s.take (Lib.index s old).toNat).length≤(Lib.index s old).toNat:=by rw [Jr]; omega
   have h3:(s.take (Lib.index s old).toNat).length≤s.length:=by rw [Jr]; omega
   omega
theorem xM (s:ByteArray):(⟨(Lib.replaceAll s.data.toList [39] [39,39]).toArray⟩:ByteArray).size≤3*s.size:=by
 show (Lib.replaceAll s.data.toList [39] [39,39]).toArray.size≤_;rw [List.size_toArray,Lib.replaceAll,Lib.replace,if_neg (by decide)];have h1:Lib.count s.data.toList [39]≤s.size:=Lib.countB_le ⟨#[39]⟩ (by decide) s.size s (I6 _);have h2:=sI [39] [39,39] (Lib.replaceNum s.data.toList [39] (-1)) s.data.toList;have h3:Lib.replaceNum s.data.toList [39] (-1)=Lib.count s.data.toList [39]:=by rw [Lib.replaceNum,if_pos (.inl (by decide))]
 rw [h3] at h2 ⊢;rw [show s.data.toList.length=s.size from Ji] at h2;simp only [Jo,JQ] at h2;omega
def dK (x:Vl):List ByteArray:=if x.1=1 then [⟨#[110,117,108,108]⟩] else if x.1=2 then [if x.2.1 == 1 then ⟨#[116,114,117,101]⟩ else ⟨#[102,97,108,115,101]⟩] else if x.1=3 then j3 x.2.1 else if x.1=4 then [vK x.2.2] else []
theorem nQ (n:Int) {PB:Nat} {v:Value} {bs:List UInt8} {w:World} (hG:GP w PB) (hP:aF w PB v bs) (hlo:-1000000000000000≤n) (hhi:n≤1000000000000000) (hb:(aE bs (j3 n)).length≤gZ):Calls Tryz.prog 93 #[af PB 0,n] w (bU w PB v (aE bs (j3 n))):=by
 by_cases hn:n<0
 ·rw [j3,if_pos hn] at hb ⊢;have Hb:=ah hb;clear hb;have P0:=ah hP;have S0:Hid (St PB v w v w):=St.refl _ _ _;have G0:=ah hG;clear hP hG;go_enter Tryz.func93,Tryz.ntmps93;have con1:=bq [⟨#[45]⟩] P0.out (dx (Hb.out)) (by simp);go_wp2_with fail
  refine con1.mono ?_;rintro e w2 ⟨rfl,v3,P_,S_⟩;have P4:=ah P_;have S5:=ah (S0.out.trans S_);have G6:=ah (G0.out.st S_);clear con1 P_ S_  P0 S0 G0;have con7:=xu (-n) ak ak (G6.out);go_wp2_with fail
  refine cR con7 fun w8 hb9=>?_;have P10:=ah (P4.out.next hb9);have S_:St PB v3 w2 v3 w8:=St.of hb9 P4.out.lt;have S11:=ah (S5.out.trans S_);have G12:=ah (G6.out.st S_);clear con7 S_ hb9  P4 S5 G6;have con13:=bq [gK (-n)] P10.out (by rw [← an]; exact Hb.out) (by simp);go_wp2_with fail
  refine con13.mono ?_;rintro e w14 ⟨rfl,v15,P_,S_⟩;have P16:Hid (aF w14 PB v15 (aE bs ([⟨#[45]⟩] ++ [gK (-n)]))):=by show aF _ _ _ _; rw [an]; exact P_
  have S17:=ah (S11.out.trans S_);have G18:=ah (G12.out.st S_);clear con13 P_ S_  P10 S11 G12;go_wp2_with fail
  go_end0
  exact ⟨rfl,v15,P16.out,S17.out⟩
 ·rw [j3,if_neg hn] at hb ⊢;have Hb:=ah hb;clear hb;have P0:=ah hP;have S0:Hid (St PB v w v w):=St.refl _ _ _;have G0:=ah hG;clear hP hG;go_enter Tryz.func93,Tryz.ntmps93;have con19:=xu n ak ak (G0.out);go_wp2_with fail
  refine cR con19 fun w20 hb21=>?_;have P22:=ah (P0.out.next hb21);have S_:St PB v w v w20:=St.of hb21 P0.out.lt;have S23:=ah (S0.out.trans S_);have G24:=ah (G0.out.st S_);clear con19 S_ hb21  P0 S0 G0;have con25:=bq [gK n] P22.out (Hb.out) (by simp);go_wp2_with fail
  refine con25.mono ?_;rintro e w26 ⟨rfl,v27,P_,S_⟩;have P28:=ah P_;have S29:=ah (S23.out.trans S_);have G30:=ah (G24.out.st S_);clear con25 P_ S_  P22 S23 G24;go_wp2_with fail
  go_end0
  exact ⟨rfl,v27,P28.out,S29.out⟩
theorem mH (x:Vl) {PB:Nat} {v:Value} {bs:List UInt8} {w:World} (hG:GP w PB) (hP:aF w PB v bs) (hk1:1≤x.1) (hk4:x.1≤4) (h3:x.1=3 → -1000000000000000≤x.2.1∧x.2.1≤1000000000000000) (h4:x.1=4→x.2.2.size≤60) (hb:(aE bs (dK x)).length≤gZ):Calls Tryz.prog 95 #[af PB 0,.agg #[x.1,x.2.1,x.2.2]] w (bU w PB v (aE bs (dK x))):=by
 obtain ⟨k,n,s⟩:=x;simp only at hk1 hk4 h3 h4 hb ⊢;rcases (show k=1∨(k=2∧n=1)∨(k=2∧¬ n=1)∨k=3∨k=4 by omega) with hk | ⟨hk,hn1⟩ | ⟨hk,hn1⟩ | hk | hk
 ·subst hk;have ev:dK (1,n,s) = [⟨#[110,117,108,108]⟩]:=rfl;rw [ev] at hb ⊢;clear ev;have Hb:=ah hb;clear hb;have hal:=bR w (.cells #[(1:Int),n,s] 53);have B0:=ah (Bx.new hP #[(1:Int),n,s] 53);have P0:=ah (hP.next hal)
  have S0:Hid (St PB v w v (w.alloc (.cells #[(1:Int),n,s] 53))):=St.of hal hP.lt;have G0:=ah (hG.nx hal hP.lt);clear hP hG hal;go_enter Tryz.func95,Tryz.ntmps95;go_upto_region 1 with fail
  generalize w.alloc _=w0 at *;have f1:=B0.out.c 0 rfl;have con2:=bq [⟨#[110,117,108,108]⟩] P0.out (Hb.out) (by simp);go_wp2_with fail
  refine con2.mono ?_;rintro e w3 ⟨rfl,v4,P_,S_⟩;have P5:=ah P_;have S6:=ah (S0.out.trans S_);have G7:=ah (G0.out.st S_);have B8:=ah (B0.out.st S_);clear con2 P_ S_ f1 P0 S0 G0 B0;go_wp2_with fail
  go_end0
  exact ⟨rfl,v4,P5.out,S6.out⟩
 ·subst hk;obtain rfl:n=1:=hn1;have ev:dK (2,1,s) = [⟨#[116,114,117,101]⟩]:=rfl;rw [ev] at hb ⊢;clear ev;have Hb:=ah hb;clear hb;have hal:=bR w (.cells #[(2:Int),(1:Int),s] 53);have B0:=ah (Bx.new hP #[(2:Int),(1:Int),s] 53);have P0:=ah (hP.next hal)
  have S0:Hid (St PB v w v (w.alloc (.cells #[(2:Int),(1:Int),s] 53))):=St.of hal hP.lt;have G0:=ah (hG.nx hal hP.lt);clear hP hG hal;go_enter Tryz.func95,Tryz.ntmps95;go_upto_region 1 with fail
  generalize w.alloc _=w0 at *;have f9:=B0.out.c 0 rfl;have f10:=B0.out.c 1 rfl;have con11:=wP true w0;go_wp2_with fail
  refine cR con11 fun w12 hb13=>?_;have P14:=ah (P0.out.next hb13);have S_:St PB v w0 v w12:=St.of hb13 P0.out.lt;have S15:=ah (S0.out.trans S_);have G16:=ah (G0.out.st S_);have B17:=ah (B0.out.st S_);clear con11 S_ hb13 f9 f10 P0 S0 G0 B0
  have con18:=bq [⟨#[116,114,117,101]⟩] P14.out (Hb.out) (by simp);go_wp2_with fail
  refine con18.mono ?_;rintro e w19 ⟨rfl,v20,P_,S_⟩;have P21:=ah P_;have S22:=ah (S15.out.trans S_);have G23:=ah (G16.out.st S_);have B24:=ah (B17.out.st S_);clear con18 P_ S_  P14 S15 G16 B17;go_wp2_with fail
  go_end0
  exact ⟨rfl,v20,P21.out,S22.out⟩
 ·subst hk;have bn:(n == 1)=false:=by simpa using hn1
  have ev:dK (2,n,s) = [⟨#[102,97,108,115,101]⟩]:=by unfold dK; simp [hn1]
  rw [ev] at hb ⊢;clear ev;have Hb:=ah hb;clear hb;have hal:=bR w (.cells #[(2:Int),n,s] 53);have B0:=ah (Bx.new hP #[(2:Int),n,s] 53);have P0:=ah (hP.next hal);have S0:Hid (St PB v w v (w.alloc (.cells #[(2:Int),n,s] 53))):=St.of hal hP.lt
  have G0:=ah (hG.nx hal hP.lt);clear hP hG hal;go_enter Tryz.func95,Tryz.ntmps95;go_upto_region 1 with fail
  generalize w.alloc _=w0 at *;have f25:=B0.out.c 0 rfl;have f26:=B0.out.c 1 rfl;have con27:=wP false w0;go_wp2_with fail
  refine cR con27 fun w28 hb29=>?_;have P30:=ah (P0.out.next hb29);have S_:St PB v w0 v w28:=St.of hb29 P0.out.lt;have S31:=ah (S0.out.trans S_);have G32:=ah (G0.out.st S_);have B33:=ah (B0.out.st S_);clear con27 S_ hb29 f25 f26 P0 S0 G0 B0
  have con34:=bq [⟨#[102,97,108,115,101]⟩] P30.out (Hb.out) (by simp);go_wp2_with fail
  refine con34.mono ?_;rintro e w35 ⟨rfl,v36,P_,S_⟩;have P37:=ah P_;have S38:=ah (S31.out.trans S_);have G39:=ah (G32.out.st S_);have B40:=ah (B33.out.st S_);clear con34 P_ S_  P30 S31 G32 B33;go_wp2_with fail
  go_end0
  exact ⟨rfl,v36,P37.out,S38.out⟩
 ·subst hk;have ev:dK (3,n,s)=j3 n:=rfl;rw [ev] at hb ⊢;clear ev;have Hb:=ah hb;clear hb;have hal:=bR w (.cells #[(3:Int),n,s] 53);have B0:=ah (Bx.new hP #[(3:Int),n,s] 53);have P0:=ah (hP.next hal)
  have S0:Hid (St PB v w v (w.alloc (.cells #[(3:Int),n,s] 53))):=St.of hal hP.lt;have G0:=ah (hG.nx hal hP.lt);clear hP hG hal;go_enter Tryz.func95,Tryz.ntmps95;go_upto_region 1 with fail
  generalize w.alloc _=w0 at *;have f41:=B0.out.c 0 rfl;have f42:=B0.out.c 1 rfl;have con43:=nQ n (G0.out) (P0.out) (h3 rfl).1 (h3 rfl).2 (Hb.out);go_wp2_with fail
  refine con43.mono ?_;rintro e w44 ⟨rfl,v45,P_,S_⟩;have P46:=ah P_;have S47:=ah (S0.out.trans S_);have G48:=ah (G0.out.st S_);have B49:=ah (B0.out.st S_);clear con43 P_ S_ f41 f42 P0 S0 G0 B0;go_wp2_with fail
  go_end0
  exact ⟨rfl,v45,P46.out,S47.out⟩
 ·subst hk;have ev:dK (4,n,s) = [vK s]:=rfl;rw [ev] at hb ⊢;clear ev;have Hb:=ah hb;clear hb;have hal:=bR w (.cells #[(4:Int),n,s] 53);have B0:=ah (Bx.new hP #[(4:Int),n,s] 53);have P0:=ah (hP.next hal)
  have S0:Hid (St PB v w v (w.alloc (.cells #[(4:Int),n,s] 53))):=St.of hal hP.lt;have G0:=ah (hG.nx hal hP.lt);clear hP hG hal;go_enter Tryz.func95,Tryz.ntmps95;go_upto_region 1 with fail
  generalize w.alloc _=w0 at *;have hsz:=h4 rfl;have f50:=B0.out.c 0 rfl;have f51:=B0.out.c 2 rfl;have con52:=De s ak (G0.out);go_wp2_with fail
  refine cR con52 fun w53 hb54=>?_;have P55:=ah (P0.out.next hb54);have S_:St PB v w0 v w53:=St.of hb54 P0.out.lt;have S56:=ah (S0.out.trans S_);have G57:=ah (G0.out.st S_);have B58:=ah (B0.out.st S_);clear con52 S_ hb54 f50 f51 P0 S0 G0 B0;have hrl:=xM s;obtain ⟨tx,htx⟩:∃ tx,(⟨(Lib.replaceAll s.data.toList [39] [39,39]).toArray⟩:ByteArray)=tx:=⟨_,rfl⟩
  have HQ:Hid (vK s=⟨#[39]⟩ ++ tx ++ ⟨#[39]⟩):=by show _=_; rw [vK,htx]
  rw [htx] at hrl ⊢;have hrz:(tx.size:Int)≤180:=by omega
  clear htx;rw [HQ.out] at Hb;have con59:=bq [(⟨#[39]⟩:ByteArray) ++ tx ++ (⟨#[39]⟩:ByteArray)] P55.out (Hb.out) (by simp);go_wp2_with fail
  refine con59.mono ?_;rintro e w60 ⟨rfl,v61,P_,S_⟩;have P62:=ah P_;have S63:=ah (S56.out.trans S_);have G64:=ah (G57.out.st S_);have B65:=ah (B58.out.st S_);clear con59 P_ S_  P55 S56 G57 B58;go_wp2_with fail
  go_end0
  exact ⟨rfl,v61,by rw [HQ.out]; exact P62.out,S63.out⟩
end Go.Proofs.YtoknmnngaackkaaGreatDoor
namespace Go.Proofs.YtoknmnngaackkaaGreatDoor
set_option maxRecDepth 100000
set_option maxHeartbeats 16000000
set_option maxRecDepth 100000
set_option maxHeartbeats 1000000
def Dx (t u:Tk):Prop:=t.1=u.1∧t.2.1=u.2.1
def rF (ts:List Tk):Prop:=∃ e:Tk,e.1=5∧ts = [e]
inductive Al (q:List Tk):List Tk→List Tk→Prop
 | one {t u e:Tk}:Dx t u→t.1≠5→e.1=5→Al q [t,e] (u :: q)
 | cons {t u:Tk} {ts us:List Tk}:Dx t u→t.1≠5→Al q ts us→Al q (t :: ts) (u :: us)
theorem Al.now {q ts us:List Tk} (h:Al q ts us):Dx (cg ts) (cg us)∧(cg ts).1≠5:=by
 cases h with
 | one h1 h2 h3=>exact ⟨h1,h2⟩
 | cons h1 h2 h3=>exact ⟨h1,h2⟩
theorem Al.is {q ts us:List Tk} (h:Al q ts us) (s:ByteArray):bK s ts=bK s us:=by
 obtain ⟨⟨h1,h2⟩,_⟩:=h.now;unfold bK;rw [h1,h2]
theorem Al.pass {q ts us:List Tk} (h:Al q ts us):(rF (aC ts)∧aC us=q)∨Al q (aC ts) (aC us):=by
 cases h with
 | @one t u e h1 h2 h3 =>
  have h4:u.1≠5:=h1.1 ▸ h2;rw [aC,if_neg h2,aC,if_neg h4];exact .inl ⟨⟨e,h3,rfl⟩,rfl⟩
 | @cons t u ts us h1 h2 h3 =>
  have h4:u.1≠5:=h1.1 ▸ h2;rw [aC,if_neg h2,aC,if_neg h4];exact .inr h3
theorem rF.pass {ts:List Tk} (h:rF ts):rF (aC ts):=by
 obtain ⟨e,h1,rfl⟩:=h;rw [aC,if_pos h1];exact ⟨e,h1,rfl⟩
structure Loc (q:List Tk) {α:Type} (f:List Tk→PR α):Prop where
 e:∀ {ts x r},rF ts→f ts = .ok (x,r)→rF r
 a:∀ {ts us x r},Al q ts us→f ts = .ok (x,r)→rF r∨∃ us',Al q r us'∧f us = .ok (x,us')
 n:∀ {ts c},f ts = .error c→c.1≠0
section
variable {q:List Tk} {α β:Type}
theorem Loc.val {g:List Tk→α} (hg:∀ {ts us},Al q ts us→g ts=g us):Loc q (fun ts=>.ok (g ts,ts)) where
 e h H:=by cases H; exact h
 a h H:=by cases H; exact .inr ⟨_,h,by rw [hg h]⟩
 n H:=by cases H
theorem Loc.Dq {g:List Tk→α} (hg:∀ {ts us},Al q ts us→g ts=g us):Loc q (fun ts=>.ok (g ts,aC ts)) where
 e h H:=by cases H; exact h.pass
 a h H:=by
  cases H;rcases h.pass with hp | hp
  ·exact .inl hp.1
  ·exact .inr ⟨_,hp,by rw [hg h]⟩
 n H:=by cases H
theorem Loc.ok (x:α):Loc q (fun ts=>.ok (x,ts)):=.val fun _=>rfl
theorem Loc.DR (x:α):Loc q (fun ts=>.ok (x,aC ts)):=.Dq fun _=>rfl
theorem Loc.err {g:List Tk→Er} (hg:∀ ts,(g ts).1≠0:=by intro _; simp):Loc q (α:=α) (fun ts=>.error (g ts)) where
 e _ H:=by cases H
 a _ H:=by cases H
 n H:=by cases H; exact hg _
theorem Loc.pass {f:List Tk→PR α} (h:Loc q f):Loc q (fun ts=>f (aC ts)) where
 e h1 H:=h.e h1.pass H
 a h1 H:=by
  rcases h1.pass with hp | hp
  ·exact .inl (h.e hp.1 H)
  ·exact h.a hp H
 n H:=h.n H
theorem Loc.aK {f:List Tk→PR α} {k:α→List Tk→PR β} (h:Loc q f) (hk:∀ x,Loc q (k x)):Loc q (fun ts=>Go.Proofs.YtoknmnngaackkaaGreatDoor.aK (f ts) k) where
 e {ts x r} h1 H:=by
  rcases hf:f ts with e | ⟨y,r1⟩
  ·rw [hf] at H; cases H
  ·rw [hf] at H; exact (hk y).e (h.e h1 hf) H
 a {ts us x r} h1 H:=by
  rcases hf:f ts with e | ⟨y,r1⟩
  ·rw [hf] at H; cases H
  ·rw [hf] at H;rcases h.a h1 hf with hp | ⟨us1,hp,hu⟩
   ·exact .inl ((hk y).e hp H)
   ·rcases (hk y).a hp H with hp2 | ⟨us2,hp2,hu2⟩
    ·exact .inl hp2
    ·exact .inr ⟨us2,hp2,by simp only [hu]; exact hu2⟩
 n {ts c} H:=by
  rcases hf:f ts with e | ⟨y,r1⟩
  ·rw [hf] at H; cases H; exact h.n hf
  ·rw [hf] at H; exact (hk y).n H
theorem Loc.fM {c:List Tk→Prop} [DecidablePred c] {f g:List Tk→PR α} (hc:∀ {ts us},Al q ts us→(c ts↔c us)) (hf:Loc q f) (hg:Loc q g):Loc q (fun ts=>if c ts then f ts else g ts) where
 e {ts x r} h1 H:=by
  split at H
  ·exact hf.e h1 H
  ·exact hg.e h1 H
 a {ts us x r} h1 H:=by
  split at H
  ·rename_i hh; rw [if_pos ((hc h1).1 hh)]; exact hf.a h1 H
  ·rename_i hh; rw [if_neg (fun h=>hh ((hc h1).2 h))]; exact hg.a h1 H
 n {ts c} H:=by
  split at H
  ·exact hf.n H
  ·exact hg.n H
theorem Loc.is {s:ByteArray} {f g:List Tk→PR α} (hf:Loc q f) (hg:Loc q g):Loc q (fun ts=>if bK s ts then f ts else g ts):=.fM (fun h=>by rw [h.is s]) hf hg
theorem Loc.ite {c:Prop} [Decidable c] {f g:List Tk→PR α} (hf:Loc q f) (hg:Loc q g):Loc q (fun ts=>if c then f ts else g ts):=.fM (c:=fun _=>c) (fun _=>Iff.rfl) hf hg
theorem Loc.congr {f g:List Tk→PR α} (h:∀ ts x r,f ts = .ok (x,r)↔g ts = .ok (x,r)) (hn:∀ ts c,f ts = .error c→c.1≠0) (hg:Loc q g):Loc q f where
 e h1 H:=hg.e h1 ((h ..).1 H)
 a h1 H:=by
  rcases hg.a h1 ((h ..).1 H) with hp | ⟨us,hp,hu⟩
  ·exact .inl hp
  ·exact .inr ⟨us,hp,(h ..).2 hu⟩
 n H:=hn _ _ H
theorem Loc.of {f g:List Tk→PR α} (h:∀ ts,f ts=g ts) (hg:Loc q g):Loc q f:=(funext h:f=g) ▸ hg
theorem cx:∀ l,Loc q (aV l)
 | []=>.of (fun _=>rfl) (Loc.ok ())
 | s :: l=>.of (fun _=>rfl) (Loc.is (s:=s) (cx l).pass .err)
theorem Al.k {ts us:List Tk} (h:Al q ts us):(cg ts).1=(cg us).1:=h.now.1.1
theorem Al.t {ts us:List Tk} (h:Al q ts us):(cg ts).2.1=(cg us).2.1:=h.now.1.2
theorem gI:Loc q dt:=.of (fun _=>rfl) (Loc.fM (c:=fun ts=>(cg ts).1≠1) (fun h=>by rw [h.k]) .err (Loc.fM (c:=fun ts=>dF (cg ts).2.1=false) (fun h=>by rw [h.t]) .err (Loc.Dq (g:=fun ts=>(cg ts).2.1) fun h=>h.t)))
theorem pg:Loc q eH:=.of (fun _=>rfl) (Loc.is gI.pass (Loc.ok _))
def Gf (sg:Bool) (least most:Int) (ts:List Tk):PR Int :=
 if (cg ts).1≠2 then .error (2,0) else if (if sg then -bS (cg ts).2.1 else bS (cg ts).2.1)<least∨most<(if sg then -bS (cg ts).2.1 else bS (cg ts).2.1) then .error (2,0) else .ok (if sg then -bS (cg ts).2.1 else bS (cg ts).2.1,aC ts)
theorem tK (sg:Bool) (least most:Int):Loc q (Gf sg least most):=.of (fun _=>rfl) (Loc.fM (c:=fun ts=>(cg ts).1≠2) (fun h=>by rw [h.k]) (.err (g:=fun _=>(2,0))) (Loc.fM (c:=fun ts=>(if sg then -bS (cg ts).2.1 else bS (cg ts).2.1)<least∨most<(if sg then -bS (cg ts).2.1 else bS (cg ts).2.1)) (fun h=>by rw [h.t]) (.err (g:=fun _=>(2,0))) (Loc.Dq (g:=fun ts=>if sg then -bS (cg ts).2.1 else bS (cg ts).2.1) fun h=>by rw [h.t])))
theorem pH (least most:Int):Loc q (dv least most):=by
 refine .congr ?_ ?_ (Loc.is (s:=⟨#[45]⟩) (tK true least most).pass (tK false least most));rotate_left
 ·intro ts c h;unfold dv at h;simp only at h
  split at h
  ·split at h
   ·cases h; simp
   ·split at h
    ·cases h; simp
    ·cases h
  ·split at h
   ·cases h; simp
   ·split at h
    ·cases h; simp
    ·cases h
 intro ts x r;unfold dv Gf;by_cases h:bK ⟨#[45]⟩ ts=true
 ·simp only [h,if_true];by_cases h1:(cg (aC ts)).1≠2
  ·rw [if_pos h1,if_pos h1]; simp
  ·rw [if_neg h1,if_neg h1]
   split <;> simp
 ·simp only [h,if_false,Jd];by_cases h1:(cg ts).1≠2
  ·rw [if_pos h1,if_pos h1]; simp
  ·rw [if_neg h1,if_neg h1]
   split <;> simp
theorem qZ:Loc q cY:=.of (fun _=>rfl) (Loc.fM (c:=fun ts=>(cg ts).1=3) (fun h=>by rw [h.k]) (Loc.Dq (g:=fun ts=>((4,0,(cg ts).2.1):Vl)) fun h=>by rw [h.t]) (Loc.is (Loc.DR _) (Loc.is (Loc.DR _) (Loc.is (Loc.DR _) (Loc.aK (pH _ _) fun n=>Loc.ok _)))))
theorem ui {lvl:Int} {ts:List Tk} (h:rF ts):∀ l,dP lvl ts l=(0,ts)
 | []=>rfl
 | i :: l=>by
  obtain ⟨e,h1,rfl⟩:=h
  rw [dP,if_neg,ui ⟨e,h1,rfl⟩ l]
  rintro ⟨_,h2⟩
  simp [bK,cg,h1] at h2
theorem xz {lvl:Int} {ts us:List Tk} (h:Al q ts us):∀ l,(dP lvl ts l).1=(dP lvl us l).1∧(((dP lvl ts l).2=ts∧(dP lvl us l).2=us)∨((dP lvl ts l).2=aC ts∧(dP lvl us l).2=aC us))
 | []=>⟨rfl,.inl ⟨rfl,rfl⟩⟩
 | i :: l=>by
  rw [dP,dP,h.is i.2.1]
  split
  ·exact ⟨rfl,.inr ⟨rfl,rfl⟩⟩
  ·exact xz h l
theorem Cf (lvl:Int):Loc q (fun ts=>.ok (cC lvl ts)) where
 e {ts x r} h H:=by
  have:cC lvl ts=(x,r):=by injection H
  rw [cC,ui h] at this;cases this;exact h
 a {ts us x r} h H:=by
  have h0:cC lvl ts=(x,r):=by injection H
  rw [cC] at h0;obtain ⟨h1,h2⟩:=xz (lvl:=lvl) h dV;rw [h0] at h1 h2;have e1:cC lvl us=(x,(dP lvl us dV).2):=by rw [cC]; exact Prod.ext h1.symm rfl
  rcases h2 with ⟨h2,h3⟩ | ⟨h2,h3⟩
  ·simp only at h2;subst h2;exact .inr ⟨us,h,by rw [e1,h3]⟩
  ·simp only at h2;subst h2;rcases h.pass with hp | hp
   ·exact .inl hp.1
   ·exact .inr ⟨_,hp,by rw [e1,h3]⟩
 n H:=by cases H
theorem sign_zero {lvl:Int} {ts:List Tk}:∀ {l:List (Int × ByteArray × Int)},(∀ i ∈ l,i.1≠0)→(dP lvl ts l).1=0→(dP lvl ts l).2=ts
 | [],_,_=>rfl
 | i :: l,h,h0=>by
  rw [dP] at h0 ⊢
  split at h0
  ·exact absurd h0 (h i (by simp))
  ·rename_i hc
   rw [if_neg hc]
   exact sign_zero (fun i hi=>h i (by simp [hi])) h0
theorem yI {lvl:Int} {ts:List Tk} (h:(cC lvl ts).1=0):(cC lvl ts).2=ts:=sign_zero (by intro i hi; simp only [dV,Jn,List.not_mem_nil,or_false] at hi; rcases hi with rfl | rfl | rfl | rfl | rfl | rfl | rfl | rfl | rfl | rfl | rfl | rfl <;> decide) h
theorem Loc.signed {lvl:Int} {x:α} {k:Int→List Tk→PR α} (hk:∀ y,Loc q (k y)):Loc q (fun ts=>if (cC lvl ts).1=0 then .ok (x,ts) else k (cC lvl ts).1 (cC lvl ts).2):=by
 refine .of (fun ts=>?_) (Loc.aK (Cf lvl) (k:=fun y r=>if y=0 then .ok (x,r) else k y r) fun y=>Loc.ite (Loc.ok x) (hk y));show _=if (cC lvl ts).1=0 then Except.ok (x,(cC lvl ts).2) else k (cC lvl ts).1 (cC lvl ts).2
 split
 ·rename_i h; rw [yI h]
 ·rfl
theorem vf (x:SX):Loc q (fF x):=by
 refine .of (fun ts=>?_) (Loc.is (s:=⟨#[110,111,116]⟩) (Loc.aK (cx [⟨#[110,117,108,108]⟩]).pass fun _=>Loc.ok (nd 3 [nd 16 [x]])) (Loc.aK (cx [⟨#[110,117,108,108]⟩]) fun _=>Loc.ok (nd 16 [x])));unfold fF
 split <;> rfl
theorem ue:Loc q dD:=.of (fun _=>rfl) (Loc.aK gI fun _n=>Loc.is (Loc.aK gI.pass fun _m=>Loc.ok _) (Loc.ok _))
theorem yW {ts us:List Tk} (h:Al q ts us):dG ts=dG us:=by
 unfold dG;rw [h.k,h.is,h.is,h.is,h.is]
structure Im (q:List Tk) (n:Nat):Prop where
 expr:∀ o,Loc q (dy n o)
 level:∀ l o,Loc q (dj n l o)
 chain:∀ l o,Loc q (cd n l o)
 loop:∀ l o x,Loc q (fI n l o x)
 kM:∀ o,Loc q (cJ n o)
 kI:∀ o,Loc q (b7 n o)
 piece:∀ o,Loc q (cI n o)
 behind:∀ o l,Loc q (cB n o l)
 exprs:∀ o l acc,Loc q (dk n o l acc)
 agg:∀ k o,Loc q (ia n k o)
theorem Loc.fuel:Loc q (α:=α) (fun _=>eG):=.err
theorem Gi:∀ n,Im q n
 | 0=>by
  constructor <;> intros
  ·exact .of (fun _=>by rw [dy]) .fuel
  ·exact .of (fun _=>by rw [dj]) .fuel
  ·exact .of (fun _=>by rw [cd]) .fuel
  ·exact .of (fun _=>by rw [fI]) .fuel
  ·exact .of (fun _=>by rw [cJ]) .fuel
  ·exact .of (fun _=>by rw [b7]) .fuel
  ·exact .of (fun _=>by rw [cI]) .fuel
  ·exact .of (fun _=>by rw [cB]) .fuel
  ·exact .of (fun _=>by rw [dk]) .fuel
  ·exact .of (fun _=>by rw [ia]) .fuel
 | n+1=>by
  have ih:=Gi n
  constructor
  ·intro o; exact .of (fun _=>by rw [dy]) (Loc.ite .err (ih.chain _ _))
  ·intro l o; exact .of (fun _=>by rw [dj]) (Loc.ite (ih.kM _) (Loc.ite (ih.piece _) (ih.chain _ _)))
  ·intro l o; exact .of (fun _=>by rw [cd]) (Loc.aK (ih.level _ _) fun x=>ih.loop _ _ _)
  ·intro l o x; exact .of (fun _=>by rw [fI]) (Loc.signed (k:=fun kk r=>Go.Proofs.YtoknmnngaackkaaGreatDoor.aK (dj n (l+1) o r) fun y r=>fI n l o (nd kk [x,y]) r) fun kk=>Loc.aK (ih.level _ _) fun y=>ih.loop _ _ _)
  ·intro o; exact .of (fun _=>by rw [cJ]) (Loc.is (Loc.aK (Loc.ite .err (ih.kM _).pass) fun x=>Loc.ok _) (ih.kI _))
  ·intro o; exact .of (fun _=>by rw [b7]) (Loc.aK (ih.chain _ _) fun x=>Loc.is (vf x).pass (Loc.signed (k:=fun kk r=>Go.Proofs.YtoknmnngaackkaaGreatDoor.aK (cd n 5 o r) fun y r2=>.ok (nd kk [x,y],r2)) fun kk=>Loc.aK (ih.chain _ _) fun y=>Loc.ok _))
  ·intro o
   exact .of (fun _=>by rw [cI]) (Loc.fM (c:=fun ts=>dG ts=true) (fun h=>by rw [yW h]) (Loc.aK qZ fun v=>Loc.ok _) (Loc.is (Loc.aK (ih.expr _).pass fun x=>Loc.aK (cx _) fun _=>Loc.ok _) (Loc.is (Loc.aK (ih.behind _ _).pass fun x=>Loc.ok _) (Loc.is (Loc.aK (ih.behind _ _).pass fun x=>Loc.ok _) (Loc.is (ih.agg _ _).pass (Loc.is (ih.agg _ _).pass (Loc.is (ih.agg _ _).pass (Loc.is (ih.agg _ _).pass ue))))))))
  ·intro o l
   cases l with
   | nil=>exact .of (fun _=>by rw [cB]) .fuel
   | cons s l=>exact .of (fun _=>by rw [cB]) (Loc.aK (cx _) fun _=>ih.exprs _ _ _)
  ·intro o l acc
   cases l with
   | nil=>exact .of (fun _=>by rw [dk]) (Loc.ok _)
   | cons s l=>exact .of (fun _=>by rw [dk]) (Loc.aK (ih.expr _) fun x=>Loc.aK (cx _) fun _=>ih.exprs _ _ _)
  ·intro k o
   exact .of (fun _=>by rw [ia]) (Loc.aK (cx _) fun _=>Loc.fM (c:=fun ts=>k=20∧bK ⟨#[42]⟩ ts=true) (fun h=>by rw [h.is]) (Loc.aK (cx _).pass fun _=>Loc.ok _) (Loc.aK (ih.expr _) fun x=>Loc.aK (cx _) fun _=>Loc.ok _))
theorem n7:Loc q eP:=(Gi DZ).expr 0
theorem xa {one:List Tk→PR α} (h:Loc q one) (most:Int):∀ n acc,Loc q (bL one most n acc)
 | 0,acc=>.of (fun _=>by rw [bL]) .fuel
 | n+1,acc=>.of (fun _=>by rw [bL]) (Loc.is (Loc.ite (.err (g:=fun ts=>(5,iI (aC ts)))) (Loc.aK h.pass fun x=>xa h most n _)) (Loc.ok _))
theorem gT {one:List Tk→PR α} (h:Loc q one) (most:Int) (n:Nat):Loc q (cu one most n):=.of (fun _=>rfl) (Loc.aK h fun _x=>xa h most n _)
theorem ub:Loc q dE:=.of (fun _=>rfl) (Loc.is (Loc.DR _) (Loc.is (Loc.DR _) (Loc.is (Loc.DR _) .err)))
theorem CR:Loc q eD:=.of (fun _=>rfl) (Loc.aK gI fun _n=>Loc.aK ub fun _t=>Loc.ok _)
theorem CL:Loc q jJ:=.of (fun _=>rfl) (Loc.aK (cx _) fun _=>Loc.aK (gT qZ _ _) fun _l=>Loc.aK (cx _) fun _=>Loc.ok _)
theorem iR (s:ByteArray):Loc q (bO s):=.of (fun _=>rfl) (Loc.is (Loc.aK n7.pass fun _x=>Loc.ok _) (Loc.ok _))
theorem AI:Loc q gH:=.of (fun _=>rfl) (Loc.aK n7 fun _x=>Loc.aK pg fun _s=>Loc.ok _)
theorem og (k:Int):Loc q (fC k):=.of (fun _=>rfl) (Loc.aK gI fun _x=>Loc.aK pg fun _s=>Loc.ok _)
theorem vZ:Loc q dQ:=.of (fun _=>rfl) (Loc.is (Loc.DR _) (Loc.is (Loc.aK (cx _).pass fun _=>Loc.ok _) (Loc.is (Loc.aK (cx _).pass fun _=>Loc.ok _) (Loc.is (Loc.aK (cx _).pass fun _=>Loc.ok _) (Loc.ok _)))))
theorem ni:∀ n acc,Loc q (cz n acc)
 | 0,acc=>.of (fun _=>by rw [cz]) .fuel
 | n+1,acc=>.of (fun _=>by rw [cz]) (Loc.aK vZ fun k=>Loc.ite (Loc.ok _) (Loc.ite (.err (g:=fun r=>(5,iI r))) (Loc.aK (og k) fun s=>Loc.aK (cx _) fun _=>Loc.aK n7 fun x=>ni n _)))
theorem tW:Loc q ez:=.of (fun _=>rfl) (Loc.aK (og 1) fun s=>ni 5 [s])
theorem yV:Loc q gV:=.of (fun _=>rfl) (Loc.is (Loc.aK (cx _).pass fun _=>gT n7 _ _) (Loc.ok _))
theorem ym (st:Bool):Loc q (gU st):=.of (fun _=>rfl) (Loc.ite (Loc.ok _) (gT AI _ _))
def Bm (s:ByteArray) (ts:List Tk):PR Bool:=if bK s ts then .ok (true,aC ts) else .ok (false,ts)
theorem nM (s:ByteArray):Loc q (Bm s):=.of (fun _=>rfl) (Loc.is (Loc.DR _) (Loc.ok _))
theorem xv {s:ByteArray} {ts:List Tk} {k:Bool→List Tk→PR α}:Go.Proofs.YtoknmnngaackkaaGreatDoor.aK (Bm s ts) k=k (bK s ts) (if bK s ts then aC ts else ts):=by
 unfold Bm;cases bK s ts <;> rfl
theorem ml:Loc q db:=by
 refine .of (fun ts=>?_) (Loc.aK (cx [⟨#[115,101,108,101,99,116]⟩]) fun _=>Loc.aK (nM ⟨#[100,105,115,116,105,110,99,116]⟩) fun di=>Loc.aK (nM ⟨#[42]⟩) fun st=>Loc.aK (ym st) fun its=>Loc.aK (cx [⟨#[102,114,111,109]⟩]) fun _=>Loc.aK tW fun fs=>Loc.aK (iR ⟨#[119,104,101,114,101]⟩) fun hw=>Loc.aK yV fun gs=>Loc.aK (iR ⟨#[104,97,118,105,110,103]⟩) fun hh=>Loc.ok ⟨di,st,its,fs,hw.1,hh.1,hw.2,hh.2,gs⟩);unfold db;simp only [xv]
def Gd (ts:List Tk):PR Int :=
 if bK ⟨#[117,110,105,111,110]⟩ ts then aK (Bm ⟨#[97,108,108]⟩ (aC ts)) fun b r=>.ok (if b then 1 else 2,r)
 else if bK ⟨#[101,120,99,101,112,116]⟩ ts then aK (Bm ⟨#[97,108,108]⟩ (aC ts)) fun b r=>.ok (if b then 3 else 4,r)
 else .ok (0,ts)
theorem Fk (ts:List Tk):.ok (bo ts)=Gd ts:=by
 unfold Gd bo;simp only [xv]
 split
 ·cases bK ⟨#[97,108,108]⟩ (aC ts) <;> rfl
 ·split
  ·cases bK ⟨#[97,108,108]⟩ (aC ts) <;> rfl
  ·rfl
theorem uQ:Loc q (fun ts=>.ok (bo ts)):=.of Fk (.of (fun _=>rfl) (Loc.is (Loc.aK (nM _).pass fun _b=>Loc.ok _) (Loc.is (Loc.aK (nM _).pass fun _b=>Loc.ok _) (Loc.ok _))))
theorem zB {ts:List Tk} (h:(bo ts).1=0):(bo ts).2=ts:=by
 unfold bo at h ⊢
 split at h
 ·split at h <;> cases h
 ·split at h
  ·split at h <;> cases h
  ·rename_i h1 h2; rw [if_neg h1,if_neg h2]
theorem rj:∀ n ps ops,Loc q (cD n ps ops)
 | 0,_,_=>.of (fun _=>by rw [cD]) .fuel
 | n+1,ps,ops=>by
  refine .of (fun ts=>?_) (Loc.aK uQ (k:=fun y r=>if y=0 then .ok ((ps,ops),r) else if (ps.length:Int) ≥ 4 then .error (5,iI r) else aK (db r) fun s r=>cD n (ps ++ [s]) (ops ++ [y]) r) fun y=>Loc.ite (Loc.ok _) (Loc.ite (.err (g:=fun r=>(5,iI r))) (Loc.aK ml fun s=>rj n _ _)))
  rw [cD]
  show _=if (bo ts).1=0 then Except.ok ((ps,ops),(bo ts).2) else _
  split
  ·rename_i h; rw [zB h]
  ·rfl
theorem qC:Loc q gn:=.of (fun _=>rfl) (Loc.aK ml fun _s=>Loc.aK (rj _ _ _) fun _po=>Loc.is (Loc.aK (cx _).pass fun _=>Loc.aK (gT n7 _ _) fun _l=>Loc.aK (cx _) fun _=>Loc.aK (pH _ _) fun _n=>Loc.ok _) (Loc.ok _))
theorem ud:Loc q fZ:=.of (fun _=>rfl) (Loc.is (Loc.aK gI.pass fun _n=>Loc.aK (cx _) fun _=>Loc.aK qC fun _x=>Loc.ok _) (Loc.aK (cx _) fun _=>Loc.aK gI fun _n=>Loc.aK (cx _) fun _=>Loc.aK (gT CR _ _) fun _l=>Loc.aK (cx _) fun _=>Loc.ok _))
theorem sn:Loc q fD:=.of (fun _=>rfl) (Loc.aK (cx _) fun _=>Loc.aK gI fun _n=>Loc.aK (cx _) fun _=>Loc.aK (gT CL _ _) fun _l=>Loc.ok _)
theorem sS:Loc q gL:=.of (fun _=>rfl) (Loc.aK (cx _) fun _=>Loc.aK gI fun _n=>Loc.aK (iR _) fun _hw=>Loc.ok _)
theorem p8:Loc q cZ:=.of (fun _=>rfl) (Loc.is ud.pass (Loc.is sn.pass (Loc.is sS.pass (Loc.is (Loc.aK qC.pass fun x=>Loc.ok _) .err))))
theorem xd:∀ (n:Nat) (acc:List cM) (ts:List Tk) {c:Er},bM n acc ts = .error c→c.1≠0
 | 0,acc,ts,c,h=>by rw [bM] at h; cases h; simp
 | n+1,acc,ts,c,h=>by
  rw [bM] at h
  split at h
  ·cases h
  ·split at h
   ·cases h; simp
   ·rcases hf:cZ ts with e | ⟨s,r1⟩
    ·rw [hf] at h; cases h; exact (p8 (q:=[])).n hf
    ·rw [hf] at h
     have h:aK (aV [⟨#[59]⟩] r1) (fun _ r2=>bM n (acc ++ [s]) r2) = .error c:=h
     rcases hm:aV [⟨#[59]⟩] r1 with e | ⟨u,r2⟩
     ·rw [hm] at h; cases h; exact (cx (q:=[]) _).n hm
     ·rw [hm] at h; exact xd n _ _ h
end
end Go.Proofs.YtoknmnngaackkaaGreatDoor
