/- Together: CE, CF, DA, JO2, JO3, JO4, JG1, RTa, DB. -/
import Derived.Deep.LoopGhost
import Derived.Deep.MidRow
import Derived.Lib.AppendStr
import Derived.Deep.AppendSrc
import Derived.Lib.Replace
import Derived.Lib.SplitLaws
import Derived.Deep.DeepCutAuto
import Derived.Deep.CutBlock
import Derived.Test.YtoknmnngaackkaaGreatDoorJQ4
import Derived.Test.YtoknmnngaackkaaGreatDoorJQ7
import Derived.Test.YtoknmnngaackkaaGreatDoorJQ5
namespace Go.Proofs.YtoknmnngaackkaaGreatDoor
open Go.RowKit Go.Lib Go.Shelf
set_option maxRecDepth 100000
set_option maxHeartbeats 16000000
section
variable {P:Program} {md:Region.Mode} {ops:Array Oper} {Q:Exit→Act→World→Prop} {C:World→Prop}
structure Cx (P:Program) (ops:Array Oper) (i j k l d0 d1 t0 t1:Nat) (T:TypeId):Prop where
 a0:∃ o,ops[i]? = some o∧o.guard=none∧o.op = .alloc T∧o.dst=some d0
 a1:∃ o,ops[j]? = some o∧o.guard=none∧o.op = .alloc T∧o.dst=some d1
 s0:∃ o,ops[k]? = some o∧o.guard=none∧o.op = .store T (.tmp d0) (.tmp t0)∧o.dst=none
 s1:∃ o,ops[l]? = some o∧o.guard=none∧o.op = .store T (.tmp d1) (.tmp t1)∧o.dst=none
 ne:d0≠d1∧t0≠d0∧t0≠d1∧t1≠d0∧t1≠d1
end
set_option maxHeartbeats 8000000
def j4 (W:World) (g:Nat) (cs:Array Value) (T:TypeId):Prop:=W.heap[g]? = some (.cells cs T (0,0))
theorem j4.nx {W W':World} {g:Nat} {cs:Array Value} {T:TypeId} (h:j4 W g cs T) (hb:Below W.heap.size W W'):j4 W' g cs T:=(hb.block _ (lt_of_heap h)).trans h
theorem j4.c {W:World} {g:Nat} {cs:Array Value} {T:TypeId} (h:j4 W g cs T) (i:Nat) {u:Value} (hu:cs[i]? = some u):W.cell? ⟨g,i,none⟩=some u:=cell_of (i:=i) h hu
def sC (W:World) (b off:Nat) (cs:List Value):Prop:=b<W.heap.size∧∀ j u,cs[j]? = some u→W.cell? ⟨b,off+j,none⟩=some u
theorem sC.nx {W W':World} {b off:Nat} {cs:List Value} (h:sC W b off cs) (hb:Below W.heap.size W W'):sC W' b off cs:=⟨Dg h.1 hb.size,fun j u hj=>(hb.cell (p:=⟨b,off+j,none⟩) h.1).trans (h.2 j u hj)⟩
theorem aI.get {α:Type} {En:ir α} {size:Nat} {S:Nat→Prop} {W:World} {a:Option Addr} {l:List α} (h:aI En size S W a l) {i:Nat} (hi:i<l.length):∃ b off cs,a=some ⟨b,off,none⟩∧sC W b (off+i*size) cs∧En S W l[i] cs:=by
 rcases h with rfl | ⟨b,off,e,_,h2,h3⟩
 ·simp at hi
 ·obtain ⟨cs,_,c2,c3⟩:=h3 i hi;exact ⟨b,off,cs,e,⟨h2,c2⟩,c3⟩
theorem aI.nx {α:Type} {En:ir α} (ok:fi En) {size:Nat} {S:Nat→Prop} {W W':World} {a:Option Addr} {l:List α} (h:aI En size S W a l) (hb:Below W.heap.size W W'):aI En size S W' a l:=h.bz ok (ay.of hb)
structure AN {α:Type} (En:ir α) (size:Nat) (W:World) (a b:Option Addr) (l:List α):Prop where
 one:aI En size (fun _=>True) W a l
 two:aI En size (fun _=>True) W b l
theorem AN.nx {α:Type} {En:ir α} (ok:fi En) {size:Nat} {W W':World} {a b:Option Addr} {l:List α} (h:AN En size W a b l) (hb:Below W.heap.size W W'):AN En size W' a b l:=⟨h.1.nx ok hb,h.2.nx ok hb⟩
structure BU (W:World) (a b:Option Addr) (l:List SX):Prop where
 one:aD (fun _=>True) W a l
 two:aD (fun _=>True) W b l
theorem BU.nx {W W':World} {a b:Option Addr} {l:List SX} (h:BU W a b l) (hb:Below W.heap.size W W'):BU W' a b l:=⟨aD.next hb h.1,aD.next hb h.2⟩
theorem AN.ss {W:World} {a b:Option Addr} {l:List SX} (h:AN bO 7 W a b l):BU W a b l:=⟨h.1.zE,h.2.zE⟩
theorem sC.pre {W:World} {b off:Nat} {cs:List Value} (h:sC W b off cs) (n:Nat):sC W b off (cs.take n):=⟨h.1,fun j u hj=>h.2 j u (by
 rw [List.getElem?_take] at hj
 split at hj
 ·exact hj
 ·cases hj)⟩
theorem mb {P:Program} {ops:Array Oper} {C:World→Prop} {o:Oper} {a:Act} (hw:Region.wanted o (yielded ops a.tmps)=true) (ty:TypeId) (x:Operand) (ho:o.op = .load ty x) (b off:Nat) (cs:List Value) (hx:a.eval x = .pointer (some ⟨b,off,none⟩)) {d:TypeDesc} (hu:P.underlying ty=some d) (hd:d.isRow=true) (hi:(P.info? ty).map (·.size)=some cs.length) (h:∀ n,C n→sC n b off cs):gg P ops C o (.agg cs.toArray) a:=Or.inl ⟨hw,fun n hn=>by
 have hr:=run_loadAt_mid (P:=P) n b off ty cs d (h n hn).2 hu hd hi
 unfold execOp
 simp only [ho,hx,hr,Sem.run_bind,Sem.run_pure,Result.andThen_ok]
 exact ⟨rfl,rfl⟩⟩
def iu (bs:List UInt8) (s:ByteArray):List UInt8:=bs ++ (if bs = [] then [] else [32]) ++ s.data.toList
def an (bs:List UInt8) (ws:List ByteArray):List UInt8:=ws.foldl iu bs
def gW (bs:List UInt8):List Value:=bs.map fun b=>.int .u8 ((b.toNat:Nat):Int)
theorem vh (bs:List UInt8) (s:ByteArray):bs.length≤(iu bs s).length:=by unfold iu; simp
theorem fp:∀ (ws:List ByteArray) (bs:List UInt8),bs.length≤(an bs ws).length
 | [],_bs=>CX _
 | s :: ws,bs=>Dt (vh bs s) (fp ws (iu bs s))
theorem ak (bs:List UInt8) (a b:List ByteArray):an bs (a ++ b)=an (an bs a) b:=List.foldl_append ..
theorem uo (bs:List UInt8) (ws:List ByteArray) (j:Nat) (h:j<ws.length):an bs (ws.take (j+1))=iu (an bs (ws.take j)) ws[j]:=by
 rw [List.take_add_one,Dj h,ak];rfl
theorem vR (bs:List UInt8) (ws:List ByteArray) (j:Nat):(an bs (ws.take j)).length≤(an bs ws).length:=by
 conv=>rhs; rw [← List.take_append_drop j ws,ak]
 exact fp _ _
structure ax (W:World) (PB:Nat) (v:Value) (bs:List UInt8):Prop where
 q:W.heap[PB]? = some (.cells #[v] 81 (0,0))
 own:W.ownsRow (PB+1) 5 1 v bs.length (gW bs)
structure St (PB:Nat) (v:Value) (w:World) (v':Value) (w':World):Prop where
 kD:Below PB w w'
 bz:∀ k,k<w.heap.size→k≠PB→v.ownBlock≠some k→w'.heap[k]? = w.heap[k]?
 own:v'.ownBlock=v.ownBlock∨∃ g,w.heap.size≤g∧v'.ownBlock=some g
theorem St.refl (PB:Nat) (v:Value) (w:World):St PB v w v w:=⟨CY _ _,fun _ _ _ _=>rfl,.inl rfl⟩
theorem St.of {PB:Nat} {v:Value} {w w':World} (h:Below w.heap.size w w') (hp:PB<w.heap.size):St PB v w v w':=⟨h.mono (Dd hp),fun k hk _ _=>h.block k hk,.inl rfl⟩
theorem St.trans {PB:Nat} {v v1 v2:Value} {w w1 w2:World} (h:St PB v w v1 w1) (k:St PB v1 w1 v2 w2):St PB v w v2 w2:=by
 refine ⟨h.kD.trans k.kD,fun i hi hn ho=>(k.bz i (Dg hi h.kD.size) hn ?_).trans (h.bz i hi hn ho),?_⟩
 ·rcases h.own with e | ⟨g,hg,e⟩
  ·rw [e]; exact ho
  ·rw [e]; intro e2; have:=Du e2; omega
 ·rcases k.own with e | ⟨g,hg,e⟩
  ·rw [e]; exact h.own
  ·exact .inr ⟨g,Dt h.kD.size hg,e⟩
theorem ax.lt {W:World} {PB:Nat} {v:Value} {bs:List UInt8} (h:ax W PB v bs):PB<W.heap.size:=lt_of_heap h.q
theorem ax.val {W:World} {PB:Nat} {v:Value} {bs:List UInt8} (h:ax W PB v bs):∃ a cap,v = .slice a bs.length cap:=by
 obtain ⟨_,⟨h1,h2⟩ | ⟨k,cap,cur,h1,_⟩⟩:=h.own
 ·exact ⟨none,0,by rw [h1,h2]⟩
 ·exact ⟨_,cap,h1⟩
theorem ax.next {W W':World} {PB:Nat} {v:Value} {bs:List UInt8} (h:ax W PB v bs) (hb:Below W.heap.size W W'):ax W' PB v bs:=⟨(hb.block _ h.lt).trans h.q,iH h.own hb⟩
def aC (w:World) (PB:Nat) (v:Value) (bs:List UInt8) (e:Ending) (w':World):Prop:=e = .returned (.tuple #[])∧∃ v',ax w' PB v' bs∧St PB v w v' w'
theorem yQ {W:World} {PB:Nat} {v u:Value} {n:Nat} {xs:List Value} (h:W.ownsRow (PB+1) 5 1 v n xs):(W.setCell ⟨PB,0,none⟩ u).ownsRow (PB+1) 5 1 v n xs:=by
 obtain ⟨h0,h | ⟨k,cap,cur,e,hb,hq,hr⟩⟩:=h
 ·exact ⟨h0,.inl h⟩
 ·exact ⟨h0,.inr ⟨k,cap,cur,e,hb,(DN W ⟨PB,0,none⟩ u k (by show k≠PB; omega)).trans hq,hr⟩⟩
theorem ax.put {w w1:World} {PB:Nat} {v v1:Value} {bs cs:List UInt8} (h:ax w PB v bs) (hg:w.grownBy w1 v.ownBlock) (ho:w1.ownsRow (PB+1) 5 1 v1 (bs.length+cs.length) (gW bs ++ gW cs)) (hd:v1.ownBlock=v.ownBlock∨v1.ownBlock=some w.heap.size) :
  ax (w1.setCell ⟨PB,0,none⟩ v1) PB v1 (bs ++ cs)∧St PB v w v1 (w1.setCell ⟨PB,0,none⟩ v1):=by
 have hlt:=h.lt;have hpb:v.ownBlock≠some PB:=fun e=>by have:=(h.own.lt PB e).1; omega
 have q1:=(hg.block PB hlt (fun e=>hpb e.symm)).trans h.q;refine ⟨⟨C1 w1 PB 0 _ _ _ q1,?_⟩,?_,fun k hk hn ho'=>(DN w1 ⟨PB,0,none⟩ v1 k hn).trans (hg.block k hk (fun e=>ho' e.symm)),?_⟩
 ·have e:gW (bs ++ cs)=gW bs ++ gW cs:=by simp [gW]
  rw [Dk,e];exact yQ ho
 ·exact ((CY PB w).grown hg (Dd hlt) (fun k e=>by have:=(h.own.lt k e).1; omega)).setCell (p:=⟨PB,0,none⟩) (CX _) _
 ·rcases hd with e | e
  ·exact .inl e
  ·exact .inr ⟨_,CX _,e⟩
def AI:ir ByteArray:=fun _ _ x cs=>cs = [.string x]
theorem CL:fi AI:=⟨fun _ h=>h,fun _ h=>h⟩
theorem mO (w:World) (PB:Nat) (v:Value) (n:Nat) (xs:List Value) (hown:w.ownsRow (PB+1) 5 1 v n xs) (s:ByteArray) (ty:TypeId) (hb:n+s.size≤1099511627776) (hbase:PB+1≤w.heap.size) :
  ∃ v' w',(Builtin.append_ #[24,9] ty #[v,.string s]).run Tryz.prog w = .ok v' w'∧w'.ownsRow (PB+1) 5 1 v' (n+s.size) (xs ++ gW s.data.toList)∧w.grownBy w' v.ownBlock∧(v'.ownBlock=v.ownBlock∨v'.ownBlock=some w.heap.size):=by
 obtain ⟨i,hi,hz,hs,hby⟩:=info_parts nY;obtain ⟨v',w',hr,h1,h2,h3⟩:=run_append_own_string (P:=Tryz.prog) w (PB+1) 24 9 ty 5 i Tryz.underlying24 Tryz.underlying9 hi hz hs hby v n xs hown s (by unfold maxLen; omega) (by omega) hbase;refine ⟨v',w',hr,h1,h2,?_⟩;have hxl:xs.length=n:=by simpa using hown.1
 obtain ⟨_,⟨e1,e2⟩ | ⟨g,cap,cur,e1,hgb,q,hc,hm,hcs,htk⟩⟩:=hown
 ·subst e1;by_cases hz0:s.size=0
  ·rw [h3.2 ⟨rfl,hz0⟩]; exact .inl rfl
  ·right;subst e2;have hg:=run_append_grow_src (P:=Tryz.prog) w 24 9 ty 5 i (.int .u8 0) Tryz.underlying24 hi hz none 0 0 [] (run_firstCells_none w.drew i.size 0 0 0) (.string s) s.size _ (hs ▸ _root_.Go.Src.ofString w Tryz.underlying9 s) (by omega) (by omega) (growslice_fits (by omega) (by rw [hby]; omega));rw [hr] at hg;have:=(Result.ok.inj hg).1;rw [this];rfl
 ·subst e1;by_cases hroom:n+s.size≤cap
  ·left;have hg:=run_append_room_string (P:=Tryz.prog) w 24 9 ty 5 i Tryz.underlying24 Tryz.underlying9 hi hs g n cap cur q s hroom (by rw [hcs]; omega);rw [hr] at hg;have:=(Result.ok.inj hg).1;rw [this];rfl
  ·right;have hg:=run_append_grow_string (P:=Tryz.prog) w 24 9 ty 5 i (.int .u8 0) Tryz.underlying24 Tryz.underlying9 hi hz ⟨g,0,none⟩ n cap xs (by rw [hs]; omega) (fun j u hj=>World.ownsRow.cells ⟨by simpa using hxl,.inr ⟨g,cap,cur,rfl,hgb,q,hc,hm,hcs,htk⟩⟩ rfl j u hj) s (by omega) (by omega) (growslice_fits (by omega) (by rw [hby]; omega));rw [hr] at hg;have:=(Result.ok.inj hg).1;rw [this];rfl
theorem fU {ops:Array Oper} {rest:List Oper} {w:World} {o:Oper} {a:Act} {Q:Exit→Act→World→Prop} (hgd:o.guard=none) (x y:Operand)
  (ho:o.op = .call { callee:=.builtin .append,args:=#[x,y],argTypes:=#[24,9] }) {PB:Nat} {v:Value} {bs:List UInt8} (hs:a.eval x=v) (hown:w.ownsRow (PB+1) 5 1 v bs.length (gW bs)) (s:ByteArray) (hy:a.eval y = .string s) (hb:bs.length+s.size≤1099511627776) (hbase:PB+1≤w.heap.size)
  (h:∀ v' w',w'.ownsRow (PB+1) 5 1 v' (bs.length+s.data.toList.length) (gW bs ++ gW s.data.toList)→w.grownBy w' v.ownBlock→(v'.ownBlock=v.ownBlock∨v'.ownBlock=some w.heap.size)→wpList Tryz.prog ops Q rest (a.put o.dst v') w'):wpList Tryz.prog ops Q (o :: rest) a w:=by
 refine wpList_plain hgd fun K hK=>?_
 obtain ⟨v',w',hr,h1,h2,h3⟩:=mO w PB v bs.length (gW bs) hown s o.type hb hbase;unfold Oper.wp;simp [execOp,ho,resolve,invoke,builtin,hs,hy,hr,Result.andThen];exact hK _ _ (h v' w' (by rw [show s.data.toList.length=s.size from Dl]; exact h1) h2 h3)
theorem lf (ws:List ByteArray) {a:Option Addr} {cap PB:Nat} {v:Value} {bs:List UInt8} {w:World} (hP:ax w PB v bs) (hl:aI AI 1 (fun b=>b≠PB∧v.ownBlock≠some b) w a ws) (hb:(an bs ws).length≤1099511627776) (hn:ws.length≤1000):Calls Tryz.prog 57 #[.pointer (some ⟨PB,0,none⟩),.slice a ws.length cap] w (aC w PB v (an bs ws)):=by
 obtain ⟨i0,hi0,hj0,hj1,hj2⟩:=info_parts nY;have HL:Hid (aI AI 1 (fun b=>b≠PB∧v.ownBlock≠some b) w a ws):=hl;have HB:Hid ((an bs ws).length≤1099511627776):=hb;have HP:Hid (ax w PB v bs):=hP;clear hl hb hP;go_enter Tryz.func57,Tryz.ntmps57;go_wp2_with fail
 go_loopw [8] (fun i wr=>∃ (j:Nat) (v':Value),j≤ws.length∧i = .int .i64 j∧Hid (ax wr PB v' (an bs (ws.take j)))∧Hid (St PB v w v' wr)) (fun i _=>ws.length - (RowKit.intOf i).toNat)
 case atStart=>exact ⟨0,v,Dm _,rfl,HP,St.refl _ _ _⟩
 case round =>
  obtain ⟨j,v1,hj,rfl,hP1,hS1⟩:=hrel;by_cases hlt:j<ws.length
  ·have hk:aI AI 1 (fun b=>b≠PB∧v.ownBlock≠some b) wr a ws:=HL.out.bz CL ⟨hS1.out.kD.size,fun k hk hl=>hS1.out.bz k hl hk.1 hk.2⟩;obtain ⟨b,off,_,rfl,t1,rfl⟩:=hk.get hlt;have hne:b≠PB∧v1.ownBlock≠some b:=by
    rcases HL.out with h | ⟨b',off',e,h1,h2,_⟩
    ·rw [h] at hlt; simp at hlt
    ·have e:=Du e;injection e with e1 _
     subst e1;refine ⟨h1.1,?_⟩;rcases hS1.out.own with e | ⟨g,hg,e⟩
     ·rw [e]; exact h1.2
     ·rw [e]; intro e2; have:=Du e2; omega
   have y0:wr.cell? ⟨b,off+j,none⟩=some (.string ws[j]):=by have:=t1.2 0 _ rfl; simpa using this
   have hjz:(j:Int)<(ws.length:Int):=by omega
   have hle:=vR bs ws (j+1);have hst:=uo bs ws j hlt;rw [hst] at hle;have hB2:(iu (an bs (ws.take j)) ws[j]).length≤1099511627776:=Dt hle HB.out;have HST:Hid (an bs (ws.take (j+1))=iu (an bs (ws.take j)) ws[j]):=hst;generalize an bs (ws.take j)=cs at *;generalize ws[j]=s at *;have hq:=hP1.out.q;obtain ⟨a1,c1,hv1⟩:=hP1.out.val;have p0:wr.cell? ⟨PB,0,none⟩=some (.slice a1 cs.length c1):=by rw [← hv1]; exact cell_of (i:=0) hq rfl
   have f0:=C3 wr PB 0 _ _ hq;have hlt1:=hP1.out.lt;have ho1:=hP1.out.own;clear hk t1 hst hle;subst hv1;by_cases hcs:cs = []
   ·have hl0:cs.length=0:=by rw [hcs]; rfl
    have es:iu cs s=cs ++ s.data.toList:=by rw [iu,if_pos hcs,List.append_nil]
    rw [es] at hB2 HST;have hbb:cs.length+s.size≤1099511627776:=by rw [Dk,show s.data.toList.length=s.size from Dl] at hB2; exact hB2
    have hz0:¬ (0:Int)<(cs.length:Int):=by omega
    clear hB2 es hcs hl0;go_wp2_with (first | (at_builtin; refine fU rfl _ _ rfl rfl ho1 s rfl hbb hlt1 ?_))
    intro v2 w2 o2 g2 d2;have q2:=(g2.block PB hlt1 (fun e=>by have:=(ho1.lt PB e.symm).1; omega)).trans hq;obtain ⟨P2,S2⟩:=hP1.out.put g2 o2 d2;have p2:w2.cell? ⟨PB,0,none⟩=some (.slice a1 cs.length c1):=cell_of (i:=0) q2 rfl;have f2:=C3 w2 PB 0 _ _ q2;have HP2:Hid (ax (w2.setCell ⟨PB,0,none⟩ v2) PB v2 (an bs (ws.take (j+1)))):=by show ax _ _ _ _; rw [HST.out]; exact P2
    have HS2:Hid (St PB v w v2 (w2.setCell ⟨PB,0,none⟩ v2)):=hS1.out.trans S2;obtain ⟨a2,n2,c2,e2⟩:∃ a n c,v2 = .slice a n c:=by obtain ⟨a,c,e⟩:=P2.val; exact ⟨a,_,c,e⟩
    clear P2 S2 o2 g2 d2 ho1 p0 f0 hq hP1 hS1 y0;subst e2;go_wp2_with fail
    go_roundw
    case rel=>exact ⟨j+1,_,by omega,by go_num,HP2,HS2⟩
    case measure=>simp [RowKit.intOf]; omega
   ·have hl0:0<cs.length:=List.length_pos_iff.2 hcs;have es:iu cs s=(cs ++ [32]) ++ s.data.toList:=by rw [iu,if_neg hcs]
    rw [es] at hB2 HST;have hbb:cs.length+1+s.size≤1099511627776:=by
     have:cs.length+(s.size+1)≤1099511627776:=by simpa using hB2
     omega
    have hz0:(0:Int)<(cs.length:Int):=by omega
    have hal:=ab wr (.cells #[.int .u8 32] 5);have q4:=ar wr #[.int .u8 32] 5;have hPa:=hP1.out.next hal;have y1:=(hal.cell (p:=⟨b,off+j,none⟩) (hJ y0)).trans y0;have hSa:St PB v w _ (wr.alloc (.cells #[.int .u8 32] 5)):=hS1.out.trans (St.of hal hlt1);have ho2:=hPa.own;have hq2:=hPa.q;have hlt2:=hPa.lt;clear hB2 es hcs hl0
    go_wp2_with (first | (at_builtin; refine aX rfl _ _ 24 rfl (PB+1) 5 i0 _ 1 1 Tryz.underlying24 hi0 hj0 hj1 hj2 rfl (by decide) _ _ _ rfl ho2 ⟨wr.heap.size,0,none⟩ 1 1 [.int .u8 32] rfl rfl ?Ac1 ?Ac2 ?Ac3 ?Ac4 ?Ac5 ?_))
    case Ac1 =>
     intro i u hu;rw [bF,Dr];exact cell_of (i:=i) q4 (by rw [← hu]; simp)
    case Ac2=>intro u hu; simp at hu; subst hu; rfl
    case Ac3=>unfold maxLen; omega
    case Ac4=>omega
    case Ac5=>omega
    intro v2 w2 o2 g2 d2;have q2:=(g2.block PB hlt2 (fun e=>by have:=(ho2.lt PB e.symm).1; omega)).trans hq2;obtain ⟨P2,S2⟩:=hPa.put (cs:=[32]) g2 o2 (by simpa using d2);have p2:w2.cell? ⟨PB,0,none⟩=some (.slice a1 cs.length c1):=cell_of (i:=0) q2 rfl;have f2:=C3 w2 PB 0 _ _ q2;obtain ⟨a2,n2,c2,e2⟩:∃ a n c,v2 = .slice a n c:=by obtain ⟨a,c,e⟩:=P2.val; exact ⟨a,_,c,e⟩
    have S3:=hSa.trans S2;have hlt3:=P2.lt;have HP3:Hid _:=P2;have y2:(w2.setCell ⟨PB,0,none⟩ v2).cell? ⟨b,off+j,none⟩=some (.string s):=by
     rw [Dq (a:=⟨b,off+j,none⟩) (S2.bz b (hJ y1) hne.1 hne.2)];exact y1
    clear S2 o2 g2 d2 ho1 ho2 p0 f0 hq hq2 hP1 hS1 y0 y1 hPa hSa q4 hal P2;subst e2;go_upto_region 5 with fail
    generalize w2.setCell ⟨PB,0,none⟩ (.slice a2 n2 c2)=w3 at *;obtain ⟨a3,c3,e3⟩:=HP3.out.val;injection e3 with e4 e5 e6
    have hq3:=HP3.out.q;have ho3:=HP3.out.own;have p3:w3.cell? ⟨PB,0,none⟩=some (.slice a2 n2 c2):=cell_of (i:=0) hq3 rfl;have f3:=C3 w3 PB 0 _ _ hq3;have hbb3:(cs ++ [32]).length+s.size≤1099511627776:=by simpa using hbb
    have HS3:Hid _:=S3;clear e4 e5 e6 S3;go_wp2_with (first | (at_builtin; refine fU rfl _ _ rfl rfl ho3 s rfl hbb3 hlt3 ?_))
    intro v4 w4 o4 g4 d4;have q4:=(g4.block PB hlt3 (fun e=>by have:=(ho3.lt PB e.symm).1; omega)).trans hq3;obtain ⟨P4,S4⟩:=HP3.out.put (cs:=s.data.toList) g4 (by simpa using o4) d4;have p4:w4.cell? ⟨PB,0,none⟩=some (.slice a2 n2 c2):=cell_of (i:=0) q4 rfl;have f4:=C3 w4 PB 0 _ _ q4;have HP4:Hid (ax (w4.setCell ⟨PB,0,none⟩ v4) PB v4 (an bs (ws.take (j+1)))):=by show ax _ _ _ _; rw [HST.out]; exact P4
    have HS4:Hid (St PB v w v4 (w4.setCell ⟨PB,0,none⟩ v4)):=HS3.out.trans S4;obtain ⟨a4,n4,c4,e7⟩:∃ a n c,v4 = .slice a n c:=by obtain ⟨a,c,e⟩:=P4.val; exact ⟨a,_,c,e⟩
    clear P4 S4 o4 g4 d4 ho3 p3 f3 hq3 HP3 HS3 y2;subst e7;go_wp2_with fail
    go_roundw
    case rel=>exact ⟨j+1,_,by omega,by go_num,HP4,HS4⟩
    case measure=>simp [RowKit.intOf]; omega
  ·have e:ws.take j=ws:=List.take_of_length_le (by omega);rw [e] at hP1;go_wp2_with fail
   go_end0
   exact ⟨rfl,v1,hP1.out,hS1.out⟩
set_option maxHeartbeats 4000000
def kW (n:Nat):List UInt8:=[UInt8.ofNat (n / 256),UInt8.ofNat n]
def fY (bs:List UInt8):Nat:=(bs.getD 0 0).toNat*256+(bs.getD 1 0).toNat
theorem yL (bs:List UInt8):fY bs<65536:=by
 have:=UInt8.toNat_lt (bs.getD 0 0);have:=UInt8.toNat_lt (bs.getD 1 0);unfold fY;omega
theorem mj {n:Nat} (h:n<65536) (r:List UInt8):fY (kW n ++ r)=n:=by
 show (UInt8.ofNat (n / 256)).toNat*256+(UInt8.ofNat n).toNat=n;rw [UInt8.toNat_ofNat',UInt8.toNat_ofNat'];omega
theorem nS {n:Nat} (h:n<65536):[Value.int .u8 ((n:Int) / 256),.int .u8 ((n:Int) % 256)]=gW (kW n):=by
 show _ = [Value.int .u8 (((UInt8.ofNat (n / 256)).toNat:Nat):Int),.int .u8 (((UInt8.ofNat n).toNat:Nat):Int)]
 rw [UInt8.toNat_ofNat',UInt8.toNat_ofNat'];have h1:(n:Int) / 256=((n / 256 % 2 ^ 8:Nat):Int):=by omega
 have h2:(n:Int) % 256=((n % 2 ^ 8:Nat):Int):=by omega
 rw [h1,h2]
def Bk (base:Nat) (w:World) (v:Value) (bs:List UInt8) (e:Ending) (w':World):Prop:=∃ v',e = .returned v'∧w'.ownsRow base 5 1 v' bs.length (gW bs)∧w.grownBy w' v.ownBlock∧(v'.ownBlock=v.ownBlock∨∃ g,w.heap.size≤g∧v'.ownBlock=some g)
theorem nH (bs:List UInt8) (a:Option Addr) (cap:Nat) (S:Nat→Prop) {w:World} (hl:aI jQ 1 S w a bs) (h2:2≤bs.length):Calls Tryz.prog 54 #[.slice a bs.length cap] w fun e w'=>e = .returned (.int .u16 (fY bs:Nat))∧Below w.heap.size w w':=by
 obtain ⟨b,off,rfl,y0⟩:=hl.oD (i:=0) (by omega);obtain ⟨b',off',e,y1⟩:=hl.oD (i:=1) (by omega);cases e;have e0:bs[0]=bs.getD 0 0:=by simp [List.getD,show 0<bs.length by omega]
 have e1:bs[1]=bs.getD 1 0:=by simp [List.getD,show 1<bs.length by omega]
 rw [e0,DJ] at y0;rw [e1] at y1;have y0d:w.drew.cell? ⟨b,off,none⟩=_:=y0;have y1d:w.drew.cell? ⟨b,off+1,none⟩=_:=y1;have l0:=UInt8.toNat_lt (bs.getD 0 0);have l1:=UInt8.toNat_lt (bs.getD 1 0);have hM:fY bs=(bs.getD 0 0).toNat*256+(bs.getD 1 0).toNat:=rfl;generalize fY bs=M at *;generalize (bs.getD 0 0).toNat=x at *;generalize (bs.getD 1 0).toNat=y at *;have HM:Hid (M=x*256+y):=hM;have h20:0<bs.length:=by omega
 have h21:1<bs.length:=by omega
 have h22:(1:Int)<(bs.length:Int):=by omega
 clear e0 e1 hl hM h2;go_enter Tryz.func54,Tryz.ntmps54;go_upto_region 1 with fail
 go_region
 have e3:bits BinOp.or IntKind.u16 ((x:Int)*256) (y:Int)=(M:Int):=by
  have:=u16_or_nat (x*256) y (by omega) (by omega)
  push_cast at this
  rw [this,HM.out];have h4:=nat_join 8 (x*256) y (by omega) (by omega);rw [h4]
 rw [e3];go_wp2_with fail
 go_ret;exact ⟨rfl,(CY _ _).drew⟩
theorem jI {base:Nat} {v:Value} {bs:List UInt8} {w:World} (n:Nat) (hn:n<65536) (ho:w.ownsRow base 5 1 v bs.length (gW bs)) (hb:base≤w.heap.size) (hl:bs.length≤1099511627000):Calls Tryz.prog 52 #[v,.int .u16 n] w (Bk base w v (bs ++ kW n)):=by
 obtain ⟨i0,hi0,hj0,hj1,hj2⟩:=info_parts nY;have hal:=ab w (.cells (gW (kW n)).toArray 5);have q1:=ar w (gW (kW n)).toArray 5;have o1:=iH ho hal;rw [← nS hn] at hal q1 o1;go_enter Tryz.func52,Tryz.ntmps52;have HN:Hid (n<65536):=hn;have HL:Hid (bs.length≤1099511627000):=hl;obtain ⟨va,vc,rfl⟩:∃ a c,v = .slice a bs.length c:=by
  obtain ⟨_,⟨h1,h2⟩ | ⟨k,cap,cur,h1,_⟩⟩:=ho
  ·exact ⟨none,0,by rw [h1,h2]⟩
  ·exact ⟨_,cap,h1⟩
 go_wp2_with (first | (at_builtin; refine aX rfl _ _ 24 rfl base 5 i0 _ 1 1 Tryz.underlying24 hi0 hj0 hj1 hj2 rfl (by decide) _ _ _ rfl o1 ⟨w.heap.size,0,none⟩ 2 2 [.int .u8 ((n:Int) / 256),.int .u8 ((n:Int) % 256)] rfl rfl ?Ac1 ?Ac2 ?Ac3 ?Ac4 ?Ac5 ?_))
 case Ac1 =>
  intro i u hu;rw [bF,Dr];exact cell_of (i:=i) q1 (by rw [← hu]; simp)
 case Ac2=>intro u hu; simp at hu; rcases hu with rfl | rfl <;> rfl
 case Ac3=>unfold maxLen; have:=HL.out; omega
 case Ac4=>have:=HL.out; omega
 case Ac5=>simp; omega
 intro v2 w2 o2 g2 d2;have e2:gW bs ++ [Value.int .u8 ((n:Int) / 256),.int .u8 ((n:Int) % 256)]=gW (bs ++ kW n):=by rw [nS HN.out]; simp [gW]
 rw [e2] at o2;have HO:Hid (w2.ownsRow base 5 1 v2 (bs ++ kW n).length (gW (bs ++ kW n))):=by show w2.ownsRow _ _ _ _ _ _; rw [Dk]; exact o2
 have HG:Hid (w.grownBy w2 (Value.slice va bs.length vc).ownBlock):=(jn hal _).trans g2;have HD:Hid (v2.ownBlock=(Value.slice va bs.length vc).ownBlock∨∃ g,w.heap.size≤g∧v2.ownBlock=some g):=by
  rcases d2 with d | d
  ·exact .inl d
  ·exact .inr ⟨_,by have:=hal.size; omega,d⟩
 clear o2 g2 d2 e2;obtain ⟨a2,n2,c2,e2⟩:∃ a n c,v2 = .slice a n c:=by
  obtain ⟨_,⟨h1,h2⟩ | ⟨k,cap,cur,h1,_⟩⟩:=HO.out
  ·exact ⟨none,0,0,h1⟩
  ·exact ⟨_,_,cap,h1⟩
 subst e2;go_wp2_with fail
 go_ret;exact ⟨_,rfl,HO.out,HG.out,HD.out⟩
def ft (t:ByteArray):List UInt8:=kW t.size ++ t.data.toList
def df (t:ByteArray):List UInt8:=ft t ++ kW (dL 7439 (ft t))
theorem j7:∀ (bs:List UInt8) (s:Nat),s<65536→dL s bs<65536
 | [],_,h=>h
 | _ :: r,s,_=>by
  rw [dL]
  exact j7 r _ iW
theorem iO (t:ByteArray):(ft t).length=t.size+2:=by
 unfold ft;rw [Dk,show t.data.toList.length=t.size from Dl];show 2+t.size=_;omega
theorem iG (t:ByteArray):(df t).length=t.size+4:=by
 unfold df;rw [Dk,iO];rfl
theorem sY {W:World} {base:Nat} {v:Value} {bs:List UInt8} (h:W.ownsRow base 5 1 v bs.length (gW bs)):∃ a cap,v = .slice a bs.length cap∧aI jQ 1 (fun b=>base≤b) W a bs:=by
 have cells:=fun g hg i u hu=>World.ownsRow.cells h (g:=g) hg i u hu
 have hlt:=h.lt;obtain ⟨hx,⟨e1,e2⟩ | ⟨k,cap,cur,e1,h4⟩⟩:=h
 ·exact ⟨none,0,by rw [e1,e2],.inl (List.length_eq_zero_iff.1 e2)⟩
 ·subst e1;have:=hlt k rfl;refine ⟨_,cap,rfl,.inr ⟨k,0,rfl,this.1,this.2,fun i hi=>⟨[.int .u8 ((bs[i].toNat:Nat):Int)],rfl,fun j u hu=>?_,rfl⟩⟩⟩
  match j,hu with
  | 0,hu =>
   have:=cells k rfl i (.int .u8 ((bs[i].toNat:Nat):Int)) (by simp [gW,hi]);cases hu;rw [bF,Dr] at this
   simpa using this
  | j+1,hu=>simp at hu
theorem kM {W:World} {base n:Nat} {v:Value} {xs:List Value} (h:W.ownsRow base 5 1 v n xs):∃ a cap,v = .slice a n cap:=by
 obtain ⟨_,⟨h1,h2⟩ | ⟨k,cap,cur,h1,_⟩⟩:=h
 ·exact ⟨none,0,by rw [h1,h2]⟩
 ·exact ⟨_,cap,h1⟩
theorem uN (t:ByteArray) (ht:t.size≤4000) {w:World} (h0:1≤w.heap.size):Calls Tryz.prog 24 #[.string t] w fun e w'=>Below w.heap.size w w'∧∃ v,e = .returned v∧w'.ownsRow w.heap.size 5 1 v (df t).length (gW (df t)):=by
 obtain ⟨PB,hPB⟩:∃ PB,w.heap.size=PB+1:=⟨w.heap.size - 1,by omega⟩
 have con1:=jI (base:=w.heap.size) (v:=.slice none 0 0) (bs:=[]) (w:=w) t.size (by omega) (by simpa [gW] using World.ownsRow_nil _ _ _ _) (CX _) (by simp);have hz:(t.size:Int)<65536:=by omega
 have HT:Hid (t.size≤4000):=ht;have HB:Hid (w.heap.size=PB+1):=hPB;have el:(kW t.size).length=2:=rfl;have hh:ft t=kW t.size ++ t.data.toList:=rfl;have HH:Hid (ft t=kW t.size ++ t.data.toList):=hh;have hr:df t=ft t ++ kW (dL 7439 (ft t)):=rfl;have HR:Hid (df t=ft t ++ kW (dL 7439 (ft t))):=hr;clear hh hr ht h0 hPB;rw [Ds] at con1;generalize df t=R at *;go_enter Tryz.func24,Tryz.ntmps24;go_wp2_with fail
 refine con1.mono ?_;rintro e w1 ⟨v1,rfl,o1,g1,d1⟩;have hb1:Below w.heap.size w w1:=(CY _ _).grown g1 (CX _) (fun k e=>by cases e);have hs1:=hb1.size;generalize kW t.size=p1 at *;obtain ⟨a1,c1,e1⟩:=kM o1;have O1:Hid (w1.ownsRow (PB+1) 5 1 v1 p1.length (gW p1)):=by show World.ownsRow _ _ _ _ _ _ _; rw [← HB.out]; exact o1
 have HE:Hid (p1.length=2):=el;have HB1:Hid (Below w.heap.size w w1):=hb1;have o1':=O1.out;subst e1;clear con1 o1 g1 d1 el hb1;have hbb:p1.length+t.size≤1099511627776:=by have:=HE.out; have:=HT.out; omega
 have hlt1:PB+1≤w1.heap.size:=by have:=HB.out; omega
 go_wp2_with (first | (at_builtin; refine fU rfl _ _ rfl rfl o1' t rfl hbb hlt1 ?_))
 intro v2 w2 o2 g2 d2;have hb2:Below w.heap.size w w2:=HB1.out.grown g2 hs1 (fun k e=>by have:=(O1.out.lt k e).1; have:=HB.out; omega);have e2:gW p1 ++ gW t.data.toList=gW (ft t):=by rw [HH.out]; simp [gW]
 have e3:p1.length+t.size=(ft t).length:=by rw [iO]; have:=HE.out; omega
 rw [e2,e3,← HB.out] at o2;have hl3:=iO t;generalize ft t=H at *;have HL3:Hid (H.length=t.size+2):=hl3;have hs2:=hb2.size;have O2:Hid (w2.ownsRow w.heap.size 5 1 v2 H.length (gW H)):=o2;have HB2:Hid (Below w.heap.size w w2):=hb2;obtain ⟨a2,c2,e4,L2⟩:=sY o2;subst e4;clear O1 o1' hbb hlt1 o2 g2 d2 e2 e3 hl3 hb2 HE HH HB1;have con2:=lF H a2 c2 _ L2 (by have:=HL3.out; have:=HT.out; omega);have hcr:=j7 H 7439 (by decide);generalize dL 7439 H=ck at *;have HCK:Hid (ck<65536):=hcr;go_wp2_with fail
 refine con2.mono ?_;rintro e w3 ⟨rfl,rfl⟩;have con3:=jI (base:=w.heap.size) (w:=w3) ck HCK.out O2.out hs2 (by have:=HL3.out; have:=HT.out; omega);clear con2 L2;go_wp2_with fail
 refine con3.mono ?_;rintro e w4 ⟨v4,rfl,o4,g4,d4⟩;have hb4:Below w.heap.size w w4:=HB2.out.grown g4 hs2 (fun k e=>(O2.out.lt k e).1);rw [← HR.out] at o4;have O4:Hid _:=o4;have HB4:Hid _:=hb4;obtain ⟨a4,c4,e4⟩:=kM o4;subst e4;clear con3 o4 g4 d4 hb4;go_wp2_with fail
 go_ret;exact ⟨HB4.out,_,rfl,O4.out⟩
def dr (bs:List UInt8):ByteArray × Nat :=
 if bs.length<2 then (eB,0) else if bs.length<2+fY bs+2 then (eB,0) else if fY (bs.drop (2+fY bs))=dL 7439 (bs.take (2+fY bs)) then (⟨((bs.drop 2).take (fY bs)).toArray⟩,2+fY bs+2) else (eB,0)
theorem aI.vF {S:Nat→Prop} {W:World} {b off:Nat} {bs:List UInt8} (h:aI jQ 1 S W (some ⟨b,off,none⟩) bs) (k:Nat):aI jQ 1 S W (some ⟨b,off+k,none⟩) (bs.drop k):=by
 rcases h with rfl | ⟨b',off',e,h1,h2,h3⟩
 ·exact .inl (by simp)
 ·cases e;refine .inr ⟨b,off+k,rfl,h1,h2,fun i hi=>?_⟩;rw [DA] at hi;obtain ⟨cs,c1,c2,c3⟩:=h3 (k+i) (by omega);refine ⟨cs,c1,fun j u hu=>?_,by rw [List.getElem_drop]; exact c3⟩;have:=c2 j u hu
  rwa [show off+(k+i)*1+j=off+k+i*1+j by omega] at this
theorem aI.zr {S:Nat→Prop} {W:World} {a:Option Addr} {bs:List UInt8} (h:aI jQ 1 S W a bs) (k:Nat):aI jQ 1 S W a (bs.take k):=by
 rcases h with rfl | ⟨b,off,e,h1,h2,h3⟩
 ·exact .inl (by simp)
 ·refine .inr ⟨b,off,e,h1,h2,fun i hi=>?_⟩;rw [Dz] at hi;obtain ⟨cs,c1,c2,c3⟩:=h3 i (by omega);exact ⟨cs,c1,c2,by rw [List.getElem_take]; exact c3⟩
theorem aI.By {S:Nat→Prop} {W:World} {b off n cap:Nat} {bs:List UInt8} (h:aI jQ 1 S W (some ⟨b,off,none⟩) bs) (hn:n=bs.length):(convert 24 9 (.slice (some ⟨b,off,none⟩) n cap)).run Tryz.prog W = .ok (.string ⟨bs.toArray⟩) W:=by
 subst hn;refine run_convert_bytes_back W _ _ 5 ⟨b,off,none⟩ cap bs (by kernel_rfl) (by kernel_rfl) (by kernel_rfl) (fun j hj=>?_);obtain ⟨b',off',e,y⟩:=h.oD hj;cases e;rw [bF];exact y
theorem lD (bs:List UInt8) (a:Option Addr) (cap:Nat) (S:Nat→Prop) {w:World} (hl:aI jQ 1 S w a bs) (hc:bs.length≤cap) (hn:bs.length≤100000):Calls Tryz.prog 25 #[.slice a bs.length cap] w fun e w'=>e = .returned (.tuple #[.string (dr bs).1,.int .i64 ((dr bs).2:Nat)])∧Below w.heap.size w w':=by
 generalize hM:dr bs=M;unfold dr at hM;by_cases h2:bs.length<2
 ·rw [if_pos h2] at hM;subst hM;have h2z:(bs.length:Int)<2:=by omega
  clear hl h2;go_enter Tryz.func25,Tryz.ntmps25;go_wp2_with fail
  exact C0 (v:=.tuple #[.string eB,.int .i64 0]) (by simp [results,Tryz.results25,go_sem]) rfl ⟨rfl,CY _ _⟩
 ·rw [if_neg h2] at hM;obtain ⟨b,off,rfl,_⟩:=hl.oD (i:=0) (by omega);have con1:=nH bs _ cap _ hl (by omega);have hm:=yL bs;generalize fY bs=m at *;have HM:Hid _:=hM;have HL:Hid (aI jQ 1 S w (some ⟨b,off,none⟩) bs):=hl;have h2z:¬ (bs.length:Int)<2:=by omega
  clear hM hl;by_cases h3:bs.length<2+m+2
  ·have e:M=(eB,0):=by rw [← HM.out,if_pos h3]
   subst e;have h3z:(bs.length:Int)<2+(m:Int)+2:=by omega
   clear HM;go_enter Tryz.func25,Tryz.ntmps25;go_wp2_with fail
   refine con1.mono ?_;rintro e w1 ⟨rfl,hb1⟩;go_upto_region 4 with fail
   go_region
   go_wp2_with fail
   exact C0 (v:=.tuple #[.string eB,.int .i64 0]) (by simp [results,Tryz.results25,go_sem]) rfl ⟨rfl,hb1.drew⟩
  ·have h3z:¬ (bs.length:Int)<2+(m:Int)+2:=by omega
   obtain ⟨x,hx⟩:∃ x,2+m=x:=⟨_,rfl⟩
   have HX:Hid (2+m=x):=hx;have hM2:=HM.out;rw [if_neg h3,hx] at hM2;have HM2:Hid _:=hM2;have LD:=HL.out.vF x;have LT:=HL.out.zr x;clear HM hM2;go_enter Tryz.func25,Tryz.ntmps25;go_wp2_with fail
   refine con1.mono ?_;rintro e w1 ⟨rfl,hb1⟩;have hxz:(2:Int)+(m:Int)=(x:Int):=by omega
   clear h3z;have h3z:¬ (bs.length:Int)<(x:Int)+2:=by omega
   go_upto_region 4 with fail
   have hle1:x≤bs.length:=by omega
   have hle2:x≤cap:=by omega
   have h0:0≤x:=by omega
   have cP:∀ n:qY w1,Calls Tryz.prog 54 #[.slice (some ⟨b,off+x,none⟩) (bs.length - x) (cap - x)] n.now fun e w'=>e = .returned (.int .u16 (fY (bs.drop x):Nat))∧Below n.now.heap.size n.now w':=fun n=>by
    have:=nH (bs.drop x) (some ⟨b,off+x,none⟩) (cap - x) S (w:=n.now) (LD.bz pq (ay.of (chain hb1 n.ok))) (by rw [DA]; omega)
    rwa [DA] at this
   have cS:∀ n:qY w1,Calls Tryz.prog 53 #[.slice (some ⟨b,off,none⟩) x cap] n.now fun e w'=>e = .returned (.int .u16 (dL 7439 (bs.take x):Nat))∧Below n.now.heap.size n.now w':=fun n=>by
    have:=lF (bs.take x) (some ⟨b,off,none⟩) cap S (w:=n.now) (LT.bz pq (ay.of (chain hb1 n.ok))) (by rw [Dz]; omega);rw [Dz,Nat.min_eq_left hle1] at this;exact this.mono fun e w' ⟨h1,h2⟩=>⟨h1,by rw [h2]; exact CY _ _⟩
   have hdz:decide ((bs.length:Int)<(x:Int)+2)=false:=by rw [decide_eq_false_iff_not]; omega
   clear con1 hx hxz;refine mS (by kernel_rfl) (by kernel_rfl) ?_
   repeat (go_big_quiet_step (first | (go_at_call 54; exact sQ (cP _)) | (go_at_call 53; exact sQ (cS _)) | rfl))
   refine wpQuiet_nil ?_;rintro w3 ⟨⟨v3,hb3⟩,h3⟩;obtain rfl:w3=v3:=h3;have LV:=(HL.out.vF 2).zr m;have hlv:((bs.drop 2).take m).length=x - 2:=by rw [Dz,DA]; have:=HX.out; omega
   have hcv:=(LV.bz pq (ay.of (chain hb1 hb3))).By (n:=x - 2) (cap:=cap - 2) hlv.symm;clear LV hlv LD LT cP cS hdz;have hbe:=chain hb1 hb3;generalize fY (bs.drop x)=p at *;generalize dL 7439 (bs.take x)=s at *;generalize (bs.drop 2).take m=t at *;by_cases e:p=s
   ·have hz:((p:Int) != (s:Int))=false:=by rw [bne_eq_false_iff_eq,e]
    have HE:Hid (M=(⟨t.toArray⟩,x+2)):=by show M=_; rw [← HM2.out,if_pos e]
    have hx2:(2:Int)≤(x:Int):=by have:=HX.out; omega
    clear e HM2;go_wp2_with fail
    exact C0 (v:=.tuple #[.string ⟨t.toArray⟩,.int .i64 ((x:Int)+2)]) (by simp [results,Tryz.results25,go_sem]) rfl ⟨by rw [HE.out]; rfl,hbe⟩
   ·have hz:((p:Int) != (s:Int))=true:=by rw [bne_iff_ne]; omega
    have e2:M=(eB,0):=by rw [← HM2.out,if_neg e]
    subst e2;clear e HM2;go_wp2_with fail
    exact C0 (v:=.tuple #[.string eB,.int .i64 0]) (by simp [results,Tryz.results25,go_sem]) rfl ⟨rfl,hbe⟩
theorem pE (a b n:Nat):(a ^^^ b) / 2 ^ n=a / 2 ^ n ^^^ b / 2 ^ n:=by
 rw [← Nat.shiftRight_eq_div_pow,← Nat.shiftRight_eq_div_pow,← Nat.shiftRight_eq_div_pow,Nat.shiftRight_xor_distrib]
theorem zL (a b:Nat):((a ^^^ b)*2) % 65536=(a*2 % 65536) ^^^ (b*2 % 65536):=by
 have h:(a ^^^ b)*2=(a*2) ^^^ (b*2):=by
  have:=Nat.shiftLeft_xor_distrib (a:=a) (b:=b) (i:=1)
  simpa [Nat.shiftLeft_eq] using this
 rw [h];exact Nat.xor_mod_two_pow (a:=a*2) (b:=b*2) (n:=16)
theorem yv (c d i:Nat):((c ^^^ d) / 2 ^ i) % 2=((c / 2 ^ i) % 2) ^^^ ((d / 2 ^ i) % 2):=by
 rw [pE];exact Nat.xor_mod_two_pow (a:=c / 2 ^ i) (b:=d / 2 ^ i) (n:=1)
theorem ly {a b:Nat} (h:a ^^^ b=0):a=b:=by
 have:(a ^^^ b) ^^^ b=b:=by rw [h,Nat.zero_xor]
 rwa [DU,Nat.xor_self,Nat.xor_zero] at this
theorem jz {x:Nat} (h:x<2):x=0∨x=1:=by omega
theorem xz {s t:Nat} (hs:s<65536) (ht:t<65536) (c d i:Nat):iK (s ^^^ t) (c ^^^ d) i=iK s c i ^^^ iK t d i:=by
 unfold iK;have e1:=pE s t 15;have e2:=zL s t;rw [yv,show (32768:Nat)=2 ^ 15 from rfl,e1,e2];have b1:s / 2 ^ 15<2:=by omega
 have b2:t / 2 ^ 15<2:=by omega
 have b3:c / 2 ^ i % 2<2:=Nat.mod_lt _ (by decide);have b4:d / 2 ^ i % 2<2:=Nat.mod_lt _ (by decide);generalize s*2 % 65536=S;generalize t*2 % 65536=T;generalize s / 2 ^ 15=a at *;generalize t / 2 ^ 15=b at *;generalize c / 2 ^ i % 2=x at *;generalize d / 2 ^ i % 2=y at *;have l1:S ^^^ T ^^^ 4129=S ^^^ (T ^^^ 4129):=DU ..;have l2:S ^^^ T ^^^ 4129=S ^^^ 4129 ^^^ T:=by rw [DU,Nat.xor_comm T,← DU]
 have l3:S ^^^ T=S ^^^ 4129 ^^^ (T ^^^ 4129):=by
  rw [DU S,← DU 4129,Nat.xor_comm 4129 T,DU T,Nat.xor_self,Nat.xor_zero]
 rcases jz b1 with rfl | rfl <;> rcases jz b2 with rfl | rfl <;> rcases jz b3 with rfl | rfl <;> rcases jz b4 with rfl | rfl
 all_goals first
  | (simp; done)
  | (simp; exact l1)
  | (simp; exact l2)
  | (simp; exact l3)
theorem lQ (c:Nat):∀ (k s:Nat),s<65536→ek c k s<65536
 | 0,_,h=>h
 | k+1,_s,_=>lQ c k _ iW
theorem qF (c d:Nat):∀ (k:Nat) {s t:Nat},s<65536→t<65536→ek (c ^^^ d) k (s ^^^ t)=ek c k s ^^^ ek d k t
 | 0,_,_,_,_=>rfl
 | k+1,s,t,hs,ht=>by
  rw [ek,ek,ek,xz hs ht,qF c d k iW iW]
def gz:List UInt8→List UInt8→List UInt8
 | x :: a,y :: b=>(x ^^^ y) :: gz a b
 | _,_=>[]
theorem lR:∀ (a b:List UInt8) {s t:Nat},a.length=b.length→s<65536→t<65536→dL (s ^^^ t) (gz a b)=dL s a ^^^ dL t b
 | [],[],_,_,_,_,_=>rfl
 | [],y :: b,_,_,h,_,_=>by simp at h
 | x :: a,[],_,_,h,_,_=>by simp at h
 | x :: a,y :: b,s,t,h,hs,ht=>by
  rw [gz,dL,dL,dL,UInt8.toNat_xor,qF _ _ 8 hs ht]
  exact lR a b (by simpa using h) (lQ _ _ _ hs) (lQ _ _ _ ht)
theorem jf:∀ (a b:List UInt8) (s:Nat),dL s (a ++ b)=dL (dL s a) b
 | [],_,_=>rfl
 | x :: a,b,s=>by rw [Dw,dL,dL,jf a b]
theorem tP {u:Nat} (_h:u<65536) (i:Nat) (e:iK u 0 i=0):u=0:=by
 unfold iK at e;rw [Nat.zero_div,Nat.zero_mod] at e;by_cases h0:0=u / 32768
 ·rw [if_pos h0] at e; omega
 ·rw [if_neg h0] at e;have:=ly e;omega
theorem xm (i:Nat):iK 0 0 i=0:=by unfold iK; rw [Nat.zero_div,Nat.zero_mod]; rfl
theorem om:∀ (k:Nat) {u:Nat},u<65536→ek 0 k u=0→u=0
 | 0,_,_,e=>e
 | k+1,_,h,e=>tP h k (om k iW e)
theorem qI:∀ k,ek 0 k 0=0
 | 0=>rfl
 | k+1=>by rw [ek,xm,qI k]
theorem lg:∀ (n:Nat) {u:Nat},u<65536→dL u (List.replicate n 0)=0→u=0
 | 0,_,_,e=>e
 | n+1,u,h,e=>by
  rw [List.replicate_succ,dL] at e
  exact om 8 h (lg n (lQ _ _ _ h) e)
theorem qk:∀ n,dL 0 (List.replicate n 0)=0
 | 0=>rfl
 | n+1=>by rw [List.replicate_succ,dL]; show dL (ek 0 8 0) _=0; rw [qI,qk n]
theorem dW {s c k:Nat} (h:c / 2 ^ k % 2=s / 32768):iK s c k=s*2 % 65536:=by unfold iK; rw [if_pos h]
theorem ke {v:Nat} (h:v<65536):dL v (kW v)=0:=by
 have e1:(UInt8.ofNat (v / 256)).toNat=v / 256:=by rw [UInt8.toNat_ofNat']; omega
 have e2:(UInt8.ofNat v).toNat=v % 256:=by rw [UInt8.toNat_ofNat']
 show dL (ek (UInt8.ofNat v).toNat 8 (ek (UInt8.ofNat (v / 256)).toNat 8 v)) []=0;rw [e1,e2];have a:ek (v / 256) 8 v=v*256 % 65536:=by
  rw [ek,dW (by omega),ek,dW (by omega),ek,dW (by omega),ek,dW (by omega),ek,dW (by omega),ek,dW (by omega),ek,dW (by omega),ek,dW (by omega),ek];omega
 rw [a];have b:ek (v % 256) 8 (v*256 % 65536)=0:=by
  rw [ek,dW (by omega),ek,dW (by omega),ek,dW (by omega),ek,dW (by omega),ek,dW (by omega),ek,dW (by omega),ek,dW (by omega),ek,dW (by omega),ek];omega
 rw [b];rfl
theorem kS:∀ a:List UInt8,gz a (List.replicate a.length 0)=a
 | []=>rfl
 | x :: a=>by
  rw [Dn,List.replicate_succ,gz,kS a]
  congr 1
  exact UInt8.xor_zero
theorem yR {v u:Nat} (hv:v<65536) (hu:u<65536):dL v (kW u)=0↔v=u:=by
 constructor
 ·intro e;have h:=lR (kW u) (List.replicate 2 0) (s:=u) (t:=v ^^^ u) rfl hu (Nat.xor_lt_two_pow (n:=16) hv hu);have e1:gz (kW u) (List.replicate 2 0)=kW u:=kS (kW u);have e2:u ^^^ (v ^^^ u)=v:=by rw [Nat.xor_comm v u,← DU,Nat.xor_self,Nat.zero_xor]
  rw [e1,e2,e,ke hu,Nat.zero_xor] at h;have:=lg 2 (Nat.xor_lt_two_pow (n:=16) hv hu) h.symm;exact ly this
 ·rintro rfl;exact ke hv
theorem vA (a b:UInt8):[a,b]=kW (a.toNat*256+b.toNat):=by
 have h1:=UInt8.toNat_lt a;have h2:=UInt8.toNat_lt b;show [a,b] = [UInt8.ofNat ((a.toNat*256+b.toNat) / 256),UInt8.ofNat (a.toNat*256+b.toNat)]
 have e1:(a.toNat*256+b.toNat) / 256=a.toNat:=by omega
 rw [e1]
 congr 1
 ·exact (UInt8.ofNat_toNat).symm
 ·congr 1
  apply UInt8.toNat_inj.1;rw [UInt8.toNat_ofNat'];omega
theorem yi {a b:UInt8} (h:a≠0∨b≠0):dL 0 [a,b]≠0:=by
 intro e;rw [vA] at e;have h1:=UInt8.toNat_lt a;have h2:=UInt8.toNat_lt b;have:=(yR (v:=0) (by decide) (by omega)).1 e;have ha:a.toNat=0:=by omega
 have hb:b.toNat=0:=by omega
 rcases h with h | h
 ·exact h (UInt8.toNat_inj.1 ha)
 ·exact h (UInt8.toNat_inj.1 hb)
theorem tZ {s:Nat} (hs:s<65536) {M:List UInt8} (hM:dL s M=0) {i j:Nat} {a b:UInt8} (hab:a≠0∨b≠0) (hl:M.length=i+2+j):dL s (gz M (List.replicate i 0 ++ ([a,b] ++ List.replicate j 0)))≠0:=by
 have h:=lR M (List.replicate i 0 ++ ([a,b] ++ List.replicate j 0)) (s:=s) (t:=0) (by simp; omega) hs (by decide);rw [Nat.xor_zero] at h;rw [h,hM,Nat.zero_xor,jf,qk,jf];intro e;exact yi hab (lg j (j7 _ _ (by decide)) e)
def fF (ws:List ByteArray):List UInt8:=ws.flatMap fun w=>32 :: w.data.toList
theorem nT:∀ (ws:List ByteArray) (bs:List UInt8),bs ≠ []→an bs ws=bs ++ fF ws
 | [],bs,_=>by simp [an,fF]
 | w :: r,bs,h=>by
  have e:iu bs w=bs ++ (32 :: w.data.toList):=by simp [iu,h]
  show an (iu bs w) r=_
  rw [e,nT r _ (by simp)]
  simp [fF]
def eW:List ByteArray→List UInt8
 | []=>[]
 | w :: r=>w.data.toList ++ fF r
theorem tJ {w:ByteArray} {r:List ByteArray} (h:w.data.toList ≠ []):an [] (w :: r)=eW (w :: r):=by
 show an (iu [] w) r=_;have e:iu [] w=w.data.toList:=by simp [iu]
 rw [e,nT r _ h,eW]
def iw:List UInt8→List UInt8
 | []=>[]
 | c :: r=>if c=39 then 39 :: 39 :: iw r else c :: iw r
def zw:List UInt8→Nat
 | []=>0
 | c :: r=>if c=39 then zw r+1 else zw r
theorem wj (r:List UInt8):Lib.index (39 :: r) [39]=0:=by rw [Lib.index,if_pos (by simp [List.isPrefixOf])]
theorem oo {c:UInt8} (h:c≠39) (r:List UInt8):Lib.index (c :: r) [39]=if Lib.index r [39] == -1 then -1 else Lib.index r [39]+1:=by
 rw [Lib.index,if_neg (by simp [List.isPrefixOf]; exact fun e=>h e.symm)]
theorem jc:∀ (s:List UInt8) (k:Nat),zw s≤k→Lib.replaceK [39] [39,39] k s=iw s
 | [],k,_=>by
  cases k with
  | zero=>rfl
  | succ k=>rw [Lib.replaceK,if_pos (by rfl)]; rfl
 | c :: r,k,h=>by
  by_cases e:c=39
  ·subst e
   rw [zw,if_pos rfl] at h
   cases k with
   | zero=>omega
   | succ k=>rw [Lib.replaceK_hit _ _ _ _ 0 (wj r),iw,if_pos rfl]; simp only [List.take_zero,Ds,Dn,DQ,Dr,List.drop_succ_cons,DL,Dw]; rw [jc r k (by omega)]
  ·rw [zw,if_neg e] at h
   rw [iw,if_neg e,← jc r k h]
   cases k with
   | zero=>rfl
   | succ k =>
    by_cases hm:Lib.index r [39] = -1
    ·rw [Lib.replaceK,if_pos (by rw [oo e,hm]; rfl),Lib.replaceK,if_pos (by rw [hm]; rfl)]
    ·have hg:=Lib.index_ge r [39]
     obtain ⟨i,hi⟩:∃ i:Nat,Lib.index r [39]=i:=⟨(Lib.index r [39]).toNat,by omega⟩
     have h2:Lib.index (c :: r) [39]=((i+1:Nat):Int):=by rw [oo e,if_neg (by rw [beq_iff_eq]; exact hm),hi]; rfl
     rw [Lib.replaceK_hit _ _ _ _ _ h2,Lib.replaceK_hit _ _ _ _ _ hi]
     simp
theorem vS:∀ s:List UInt8,zw s=s.count 39
 | []=>rfl
 | c :: r=>by
  rw [zw,List.count_cons,vS r]
  by_cases e:c=39
  ·rw [if_pos e,if_pos (by rw [beq_iff_eq]; exact e)]
  ·rw [if_neg e,if_neg (by rw [beq_iff_eq]; exact e)]; rfl
theorem qM (s:List UInt8):Lib.replaceAll s [39] [39,39]=iw s:=by
 unfold Lib.replaceAll Lib.replace;rw [if_neg (by decide)];refine jc s _ ?_;unfold Lib.replaceNum;rw [if_pos (.inl (by decide)),Lib.count_one,vS];exact CX _
def quo (s:ByteArray):ByteArray:=⟨(39 :: (iw s.data.toList ++ [39])).toArray⟩
def tL:Nat→List UInt8→List UInt8
 | 0,_=>[]
 | _+1,[]=>[]
 | n+1,c :: r=>if c=39 then (if r.headD 0=39 then 39 :: tL n r.tail else []) else c :: tL n r
theorem oY:∀ (s:List UInt8) (n:Nat),s.length<n→tL n (iw s ++ [39])=s
 | [],n,h=>by
  obtain ⟨m,rfl⟩:∃ m,n=m+1:=⟨n - 1,by simp at h; omega⟩
  rfl
 | c :: r,n,h=>by
  simp only [Dn] at h
  obtain ⟨m,rfl⟩:∃ m,n=m+1:=⟨n - 1,by omega⟩
  rw [iw]
  by_cases e:c=39
  ·rw [if_pos e,Dw,Dw,tL,if_pos rfl,List.headD_cons,if_pos rfl,List.tail_cons,oY r m (by omega),e]
  ·rw [if_neg e,Dw,tL,if_neg e,oY r m (by omega)]
def wk (w:ByteArray):Int × ByteArray :=
 if gK (((w.data.toList.headD 0).toNat:Nat):Int) then (1,w) else if fx (((w.data.toList.headD 0).toNat:Nat):Int) then (2,w) else if w.data.toList.headD 0=39 then (3,eJ (tL (w.size+1) w.data.toList.tail)) else (4,w)
def rq (f:Int→Bool) (w:ByteArray):Prop:=∀ c ∈ w.data.toList,f ((c.toNat:Nat):Int)=true
inductive GW:ByteArray→Prop
 | word {w:ByteArray}:gK (((w.data.toList.headD 0).toNat:Nat):Int)=true→rq gd w→GW w
 | num {w:ByteArray}:1≤w.size→w.size≤16→rq fx w→GW w
 | text {s:ByteArray}:s.size≤60→GW (quo s)
 | sign {w:ByteArray}:w.data.toList ∈ gB→GW w
theorem yH (w:ByteArray):eJ w.data.toList=w:=rfl
theorem dC (w:ByteArray):w.data.toList.length=w.size:=Dl
theorem yM (s:List UInt8):s.length≤(iw s).length:=by
 induction s with
 | nil=>exact CX _
 | cons c r ih=>rw [iw]; split <;> simp <;> omega
theorem pj (s:ByteArray):wk (quo s)=(3,s):=by
 have h1:(quo s).data.toList=39 :: (iw s.data.toList ++ [39]):=rfl;unfold wk;rw [h1,List.headD_cons,if_neg (by decide),if_neg (by decide),if_pos rfl,List.tail_cons,oY]
 ·rfl
 ·rw [← dC (quo s),h1]; have:=yM s.data.toList; have:=dC s; simp; omega
theorem iE (f:Int→Bool):∀ (l r:List UInt8),(∀ c ∈ l,f ((c.toNat:Nat):Int)=true)→(r = []∨∃ c t,r=c :: t∧f ((c.toNat:Nat):Int)=false)→dQ f (l ++ r)=l.length
 | [],r,_,hr=>by
  rcases hr with rfl | ⟨c,t,rfl,h⟩
  ·rfl
  ·show eM f (_ :: _)=0
   rw [eM,if_neg (by rw [h]; decide)]
 | c :: l,r,hl,hr=>by
  show eM f (_ :: _)=_
  rw [eM,if_pos (hl c (by simp))]
  have:=iE f l r (fun d hd=>hl d (by simp [hd])) hr
  exact congrArg (· + 1) this
def AM (r:List UInt8):Prop:=r = []∨∃ t,r=32 :: t
theorem AM.cls {r:List UInt8} (h:AM r) {f:Int→Bool} (hf:f 32=false):r = []∨∃ c t,r=c :: t∧f ((c.toNat:Nat):Int)=false:=by
 rcases h with rfl | ⟨t,rfl⟩
 ·exact .inl rfl
 ·exact .inr ⟨32,t,rfl,hf⟩
theorem ox (p:Int) {r:List UInt8} (hr:AM r):∀ (s:List UInt8) (k:Nat) (out:List UInt8),dt p (iw s ++ 39 :: r) k out=jL p (k+(iw s).length) (out ++ s)
 | [],k,out=>by
  rcases hr with rfl | ⟨t,rfl⟩
  ·simp [iw,dt]
  ·simp [iw,dt]
 | c :: s,k,out=>by
  have ih:=fun k out=>ox p hr s k out
  rw [iw]
  by_cases e:c=39
  ·subst e
   rw [if_pos rfl,Dw,Dw,dt,if_pos rfl,if_pos rfl,ih]
   congr 1
   ·simp; omega
   ·simp
  ·rw [if_neg e,Dw]
   obtain ⟨d,u,hd⟩:∃ d u,iw s ++ 39 :: r=d :: u:=by
    cases h:iw s with
    | nil=>exact ⟨39,r,rfl⟩
    | cons a b=>exact ⟨a,b ++ 39 :: r,rfl⟩
   rw [hd,dt,if_neg e,← hd,ih]
   congr 1
   ·simp; omega
   ·simp
theorem vP:∀ l ∈ gB,∀ (r:List UInt8),AM r→∀ p:Int,ff (l ++ r) p = .ok ((4,eJ l,p),l.length):=by
 intro l hl r hr p;simp only [gB,Dv,List.not_mem_nil,or_false] at hl;rcases hr with rfl | ⟨t,rfl⟩
 all_goals
  rcases hl with rfl | rfl | rfl | rfl | rfl | rfl | rfl | rfl | rfl | rfl | rfl | rfl | rfl | rfl | rfl
 all_goals rfl
theorem sI:∀ l ∈ gB,wk (eJ l)=(4,eJ l)∧∃ c t,l=c :: t∧ez ((c.toNat:Nat):Int)=false:=by
 intro l hl;simp only [gB,Dv,List.not_mem_nil,or_false] at hl;rcases hl with rfl | rfl | rfl | rfl | rfl | rfl | rfl | rfl | rfl | rfl | rfl | rfl | rfl | rfl | rfl
 all_goals exact ⟨rfl,_,_,rfl,rfl⟩
theorem zf {c:Int} (h:gK c=true):ez c=false:=by
 simp only [gK,Bool.or_eq_true,Dx,decide_eq_true_eq,beq_iff_eq] at h;simp only [ez,Bool.or_eq_false_iff,beq_eq_false_iff_ne];omega
theorem oF {c:Int} (h:fx c=true):ez c=false∧gK c=false:=by
 simp only [fx,Dx,decide_eq_true_eq] at h;simp only [ez,gK,Bool.or_eq_false_iff,beq_eq_false_iff_ne,Bool.and_eq_false_iff,decide_eq_false_iff_not];omega
theorem GW.head {w:ByteArray} (h:GW w):∃ c t,w.data.toList=c :: t∧ez ((c.toNat:Nat):Int)=false:=by
 cases h with
 | word h1 h2 =>
  cases e:w.data.toList with
  | nil=>rw [e] at h1; exact absurd h1 (by decide)
  | cons c t=>rw [e] at h1; exact ⟨c,t,rfl,zf h1⟩
 | num h1 h2 h3 =>
  cases e:w.data.toList with
  | nil=>have:=dC w; rw [e] at this; simp at this; omega
  | cons c t=>exact ⟨c,t,rfl,(oF (h3 c (by rw [e]; simp))).1⟩
 | @text s h1=>exact ⟨39,_,rfl,rfl⟩
 | sign h1=>exact (sI _ h1).2
theorem GW.tok {w:ByteArray} (h:GW w) {r:List UInt8} (hr:AM r) (p:Int):ff (w.data.toList ++ r) p = .ok (((wk w).1,(wk w).2,p),w.size):=by
 obtain ⟨c,t,hc,_⟩:=h.head;cases h with
 | word h1 h2 =>
  have hh:(w.data.toList ++ r).headD 0=w.data.toList.headD 0:=by rw [hc]; rfl
  have hs:=iE gd _ r h2 (hr.cls rfl);rw [ff,hh,if_pos h1,hs,List.take_left,dC,wk,if_pos h1];rfl
 | num h1 h2 h3 =>
  have hd:fx (((w.data.toList.headD 0).toNat:Nat):Int)=true:=by rw [hc]; exact h3 c (by rw [hc]; simp)
  have hl:=(oF hd).2;have hh:(w.data.toList ++ r).headD 0=w.data.toList.headD 0:=by rw [hc]; rfl
  have hs:=iE fx _ r h3 (hr.cls rfl);rw [ff,hh,if_neg (by rw [hl]; decide),if_pos hd,hI,hs,dC,if_neg (by omega),← dC,List.take_left,wk,if_neg (by rw [hl]; decide),if_pos hd];rfl
 | @text s h1 =>
  rw [pj];have e:(quo s).data.toList ++ r=39 :: (iw s.data.toList ++ 39 :: r):=by simp [quo]
  rw [e,ff,List.headD_cons,if_neg (by decide),if_neg (by decide),if_pos rfl,List.tail_cons,ox p hr,jL,Ds,dC,if_neg (by omega)];have e2:(quo s).size=1+(iw s.data.toList).length+1:=by rw [← dC]; simp [quo]; omega
  rw [e2];rfl
 | sign h1 =>
  rw [vP _ h1 r hr p,dC];have:=(sI _ h1).1;rw [yH] at this;rw [this];rfl
def strip (t:Tk):Int × ByteArray:=(t.1,t.2.1)
def TW (ws:List ByteArray) (ts:List Tk):Prop:=ts.map strip=ws.map wk
theorem wz (r:List ByteArray):AM (fF r):=by
 cases r with
 | nil=>exact .inl rfl
 | cons a b=>exact .inr ⟨_,rfl⟩
theorem wy:∀ {r:List ByteArray},(∀ w ∈ r,GW w)→(fF r).drop (dQ ez (fF r))=eW r
 | [],_=>rfl
 | w :: r,h=>by
  obtain ⟨c,t,hc,hb⟩:=(h w (by simp)).head
  have e:fF (w :: r) = [32] ++ (eW (w :: r)):=by simp [fF,eW]
  have:dQ ez (fF (w :: r))=1:=by
   rw [e];refine iE ez [32] _ (by simp; decide) (.inr ⟨c,t ++ fF r,?_,hb⟩);rw [eW,hc]; rfl
  rw [this,e];rfl
theorem lY:∀ (ws:List ByteArray) (n:Nat) (p:Int),(∀ w ∈ ws,GW w)→ws.length<n→∃ ts q,jd n (eW ws) p = .ok (ts ++ [(5,eB,q)])∧TW ws ts
 | [],n,p,_,h=>by
  obtain ⟨m,rfl⟩:∃ m,n=m+1:=⟨n - 1,by simp at h; omega⟩
  exact ⟨[],p,rfl,rfl⟩
 | w :: r,n,p,hw,h=>by
  simp only [Dn] at h
  obtain ⟨m,rfl⟩:∃ m,n=m+1:=⟨n - 1,by omega⟩
  have hg:=hw w (by simp)
  obtain ⟨c,t,hc,hb⟩:=hg.head
  have hne:eW (w :: r) ≠ []:=by rw [eW,hc]; simp
  have htk:=hg.tok (wz r) p
  obtain ⟨ts,q,e1,e2⟩:=lY r m (p+w.size+dQ ez (fF r)) (fun x hx=>hw x (by simp [hx])) (by omega)
  refine ⟨((wk w).1,(wk w).2,p) :: ts,q,?_,?_⟩
  ·rw [show eW (w :: r)=w.data.toList ++ fF r from rfl] at hne ⊢
   rw [jd,if_neg hne,htk]
   simp only
   have hd:(w.data.toList ++ fF r).drop w.size=fF r:=by rw [← dC,List.drop_left]
   rw [hd,wy (fun x hx=>hw x (by simp [hx])),e1]
   rfl
  ·show _ :: _=_ :: _
   rw [show ts.map strip=r.map wk from e2]
   rfl
theorem wW:∀ {ws:List ByteArray},(∀ w ∈ ws,GW w)→ws.length≤(eW ws).length
 | [],_=>CX _
 | w :: r,h=>by
  obtain ⟨c,t,hc,_⟩:=(h w (by simp)).head
  rw [eW,hc]
  have:r.length≤(fF r).length:=by
   clear h hc
   induction r with
   | nil=>exact CX _
   | cons a b ih =>
    have e:fF (a :: b)=(32 :: a.data.toList) ++ fF b:=rfl;rw [e]; simp; omega
  simp; omega
theorem ny {ws:List ByteArray} (h:∀ w ∈ ws,GW w):∃ ts q,jb ⟨(eW ws).toArray⟩ = .ok (ts ++ [(5,eB,q)])∧TW ws ts:=by
 have e0:dQ ez (eW ws)=0:=by
  cases ws with
  | nil=>rfl
  | cons w r =>
   obtain ⟨c,t,hc,hb⟩:=(h w (by simp)).head;refine iE ez [] _ (by simp) (.inr ⟨c,t ++ fF r,?_,hb⟩);show w.data.toList ++ fF r=_;rw [hc]; rfl
 obtain ⟨ts,q,h1,h2⟩:=lY ws ((eW ws).length+1) 0 h (Nat.lt_succ_of_le (wW h));refine ⟨ts,q,?_,h2⟩;show jd ((eW ws).toArray.size+1) ((eW ws).drop (dQ ez (eW ws))) (dQ ez (eW ws):Int)=_;rw [e0]
 simpa using h1
abbrev fW:Nat:=1099511627776
theorem ax.oU {W:World} {PB:Nat} {v:Value} {bs:List UInt8} (h:ax W PB v bs) {g:Nat} (hg:W.heap.size≤g):v.ownBlock≠some g:=fun e=>by have:=(h.own.lt g e).2; omega
theorem St.oU {PB:Nat} {v v':Value} {w w':World} (h:St PB v w v' w') {g:Nat} (hg:g<w.heap.size) (hn:v.ownBlock≠some g):v'.ownBlock≠some g:=by
 rcases h.own with e | ⟨k,hk,e⟩
 ·rw [e]; exact hn
 ·rw [e]; intro e2; have:=Du e2; omega
structure Bx (W:World) (PB:Nat) (v:Value) (g:Nat) (cs:Array Value) (T:TypeId):Prop where
 q:j4 W g cs T
 ne:g≠PB
 no:v.ownBlock≠some g
theorem Bx.st {W W':World} {PB:Nat} {v v':Value} {g:Nat} {cs:Array Value} {T:TypeId} (h:Bx W PB v g cs T) (s:St PB v W v' W'):Bx W' PB v' g cs T:=⟨(s.bz g (lt_of_heap h.q) h.ne h.no).trans h.q,h.ne,s.oU (lt_of_heap h.q) h.no⟩
theorem Bx.nx {W W':World} {PB:Nat} {v:Value} {g:Nat} {cs:Array Value} {T:TypeId} (h:Bx W PB v g cs T) (hb:Below W.heap.size W W'):Bx W' PB v g cs T:=⟨h.q.nx hb,h.ne,h.no⟩
theorem Bx.new {W:World} {PB:Nat} {v:Value} {bs:List UInt8} (h:ax W PB v bs) (cs:Array Value) (T:TypeId):Bx (W.alloc (.cells cs T)) PB v W.heap.size cs T:=⟨ar W cs T,by have:=h.lt; omega,h.oU (CX _)⟩
theorem Bx.c {W:World} {PB:Nat} {v:Value} {g:Nat} {cs:Array Value} {T:TypeId} (h:Bx W PB v g cs T) (i:Nat) {u:Value} (hu:cs[i]? = some u):W.cell? ⟨g,i,none⟩=some u:=h.q.c i hu
theorem aI.bJ {α:Type} {En:ir α} (ok:fi En) {size PB:Nat} {W W':World} {v v':Value} {a:Option Addr} {l:List α} (h:aI En size (fun b=>b<PB) W a l) (s:St PB v W v' W'):aI En size (fun b=>b<PB) W' a l:=h.bz ok ⟨s.kD.size,fun b hb _=>s.kD.block b hb⟩
theorem aD.bJ {PB:Nat} {W W':World} {v v':Value} {a:Option Addr} {l:List SX} (h:aD (fun b=>b<PB) W a l) (s:St PB v W v' W'):aD (fun b=>b<PB) W' a l:=aD.bz ⟨s.kD.size,fun b hb _=>s.kD.block b hb⟩ h
theorem aW (ws:List ByteArray) {PB:Nat} {v:Value} {bs:List UInt8} {w:World} (hP:ax w PB v bs) (hb:(an bs ws).length≤fW) (hn:ws.length≤1000):Calls Tryz.prog 57 #[.pointer (some ⟨PB,0,none⟩),.slice (some ⟨w.heap.size,0,none⟩) ws.length ws.length] (w.alloc (.cells (ws.map Value.string).toArray 9)) (aC w PB v (an bs ws)):=by
 have hal:=ab w (.cells (ws.map Value.string).toArray 9);have hl:aI AI 1 (fun b=>b≠PB∧v.ownBlock≠some b) (w.alloc (.cells (ws.map Value.string).toArray 9)) (some ⟨w.heap.size,0,none⟩) ws:=by
  refine .inr ⟨w.heap.size,0,rfl,⟨by have:=hP.lt; omega,hP.oU (CX _)⟩,by simp,fun i hi=>⟨[.string ws[i]],rfl,fun j u hu=>?_,rfl⟩⟩
  match j,hu with
  | 0,hu =>
   cases hu;have:(0+i*1+0)=i:=by omega
   rw [this];exact cell_of (i:=i) (ar w _ _) (by simp [hi])
  | j+1,hu=>simp at hu
 refine (lf ws (cap:=ws.length) (hP.next hal) hl hb hn).mono ?_;rintro e w' ⟨rfl,v',P',S'⟩;exact ⟨rfl,v',P',(St.of hal hP.lt).trans S'⟩
theorem dd (has:Bool) (s:ByteArray) {PB:Nat} {v:Value} {bs:List UInt8} {w:World} (hP:ax w PB v bs) (hb:(an bs (if has then [s] else [])).length≤fW):Calls Tryz.prog 86 #[.pointer (some ⟨PB,0,none⟩),.bool has,.string s] w (aC w PB v (an bs (if has then [s] else []))):=by
 cases has
 ·have HP:Hid (ax w PB v bs):=hP;clear hP hb;go_enter Tryz.func86,Tryz.ntmps86;go_wp2_with fail
  go_end0
  exact ⟨rfl,v,HP.out,St.refl _ _ _⟩
 ·have con:Calls Tryz.prog 57 #[.pointer (some ⟨PB,0,none⟩),.slice (some ⟨w.heap.size,0,none⟩) 1 1] (w.alloc (.cells #[.string s] 9)) (aC w PB v (an bs [s])):=aW [s] hP hb (by simp);clear hP hb;go_enter Tryz.func86,Tryz.ntmps86;go_wp2_with fail
  refine con.mono ?_;rintro e w1 ⟨rfl,v1,P1,S1⟩;have HE:Hid (∃ v',ax w1 PB v' (an bs [s])∧St PB v w v' w1):=⟨v1,P1,S1⟩
  clear con P1 S1;go_wp2_with fail
  go_end0
  exact ⟨rfl,HE.out⟩
def iP (s:ByteArray):List ByteArray:=if s.size=0 then [] else [⟨#[97,115]⟩,s]
theorem iQ (s:ByteArray) {PB:Nat} {v:Value} {bs:List UInt8} {w:World} (hP:ax w PB v bs) (hb:(an bs (iP s)).length≤fW):Calls Tryz.prog 143 #[.pointer (some ⟨PB,0,none⟩),.string s] w (aC w PB v (an bs (iP s))):=by
 by_cases hs:s.size=0
 ·have es:s=⟨#[]⟩:=by
   apply ByteArray.ext;exact Array.eq_empty_of_size_eq_zero hs
  rw [iP,if_pos hs];subst es;have HP:Hid (ax w PB v bs):=hP;clear hP hb;go_enter Tryz.func143,Tryz.ntmps143;go_wp2_with fail
  go_end0
  exact ⟨rfl,v,HP.out,St.refl _ _ _⟩
 ·rw [iP,if_neg hs] at hb ⊢;have con:Calls Tryz.prog 57 #[.pointer (some ⟨PB,0,none⟩),.slice (some ⟨w.heap.size,0,none⟩) 2 2] (w.alloc (.cells #[.string ⟨#[97,115]⟩,.string s] 9)) (aC w PB v (an bs [⟨#[97,115]⟩,s])):=aW [⟨#[97,115]⟩,s] hP hb (by simp);have hne:s.toList.isEmpty=false:=by
   rw [Lib.toList_data];cases h:s.data.toList with
   | nil=>exact absurd (show s.data.size=0 by rw [← Dl (xs:=s.data),h]; rfl) hs
   | cons _ _=>rfl
  clear hP hb;go_enter Tryz.func143,Tryz.ntmps143;go_wp2_with fail
  refine con.mono ?_;rintro e w1 ⟨rfl,v1,P1,S1⟩;have HE:Hid (∃ v',ax w1 PB v' (an bs [⟨#[97,115]⟩,s])∧St PB v w v' w1):=⟨v1,P1,S1⟩
  clear con P1 S1;go_wp2_with fail
  go_end0
  exact ⟨rfl,HE.out⟩
end Go.Proofs.YtoknmnngaackkaaGreatDoor
