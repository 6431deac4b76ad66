/- The walk of tidelaw7.KeepBack. -/
import Derived.Test.YtoefpglknaiaeaaGreatE9
import Derived.Test.YtoefpglknaiaeaaGreatE10
import Derived.Test.YtoefpglknaiaeaaGreatE0
namespace Go.Proofs.YtoefpglknaiaeaaGreat
open Go.RowKit Go.Lib Go.Shelf

def negL (ch:List (List Zp)):List (List Zp):=ch.map (setZ fun w=>-w)
theorem back_fact {ts:List (List Int)} {p:Pl} {data ch:List (List Zp)} (h:KOk ts p data [ch,negL ch]):evZ ts (keepD data [ch,negL ch] 2) p=evZ ts data p:=by
 have a1:=apply_ok (h.step 0 (by simp)).app
 have a2:=apply_ok (h.step 1 (by simp)).app
 have e2:=h.evs 2 (by simp)
 obtain ⟨_,_,_,x1⟩:=ev_inv h.ev
 obtain ⟨_,_,_,x2⟩:=ev_inv e2
 rw [x1,x2]
 refine congrArg Prod.snd (evalQ_same (fun i=>canon_congr fun k=>?_) p)
 simp only [keepD,List.getElem_cons_zero,List.getElem_cons_succ,List.getD_cons_zero,List.getD_cons_succ] at a1 a2 ⊢
 rw [a2.wt,a1.wt]
 by_cases hi:i<ch.length
 ·have hd:i<data.length:=by rw [← a1.len]; exact hi
  have hw:=(both_inv (a1.err i hd hi)).2.1
  have e:(negL ch).getD i []=setZ (fun w=>-w) (ch.getD i []):=by
   rw [List.getD_eq_getElem?_getD,List.getD_eq_getElem?_getD,negL,List.getElem?_map,List.getElem?_eq_getElem hi]
   rfl
  have ec:ch.getD i []=ch[i]:=by rw [List.getD_eq_getElem?_getD,List.getElem?_eq_getElem hi]; rfl
  rw [e,ec,(setZ_own (by simp) hw).2]
  omega
 ·have e:(negL ch).getD i [] = []:=by
   rw [List.getD_eq_getElem?_getD,negL,List.getElem?_eq_none (by simpa using hi)]
   rfl
  have ec:ch.getD i [] = []:=by rw [List.getD_eq_getElem?_getD,List.getElem?_eq_none (by omega)]; rfl
  rw [e,ec]
  simp [wt]
/-- Sets in a list that may be empty yet. -/
structure KN (base:Nat) (W:World) (v:Value) (zs:List (List Zp)) (cs:List Value):Prop where
 own:W.ownsRow base 38 1 v zs.length cs
 at_:∀ (i:Nat) (h:i<zs.length),∃ B a c,cs[i]? = some (.slice a zs[i].length c)∧OwnZ B W (.slice a zs[i].length c) zs[i]∧(a=none→c=0)
theorem OwnZ.grown {W W1:World} {B base n:Nat} {v x:Value} {cs:List Value} {l:List Zp} (h:OwnZ B W x l) (ho:W.ownsRow base 38 1 v n cs) (hg:W.grownBy W1 v.ownBlock):OwnZ B W1 x l:=by
 obtain ⟨_,⟨rfl,_⟩ | ⟨g,cap,cur,rfl,_,hh,_⟩⟩:=ho
 ·exact h.next ⟨hg.os,hg.tape,hg.output,hg.size,fun k hk=>hg.block k hk (by intro e; cases e)⟩
 ·exact h.stays hh (by decide) (by decide) W1 (grown_X hg (lt_of_heap hh))
theorem KN.next {base:Nat} {W W1:World} {v:Value} {zs:List (List Zp)} {cs:List Value} (h:KN base W v zs cs) (hb:Below W.heap.size W W1):KN base W1 v zs cs :=
 ⟨own_next h.own hb,fun i hi=>by
  obtain ⟨B,a,c,h1,h2,h3⟩:=h.at_ i hi
  exact ⟨B,a,c,h1,h2.next hb,h3⟩⟩
theorem KN.push {base:Nat} {W W1:World} {v v':Value} {zs:List (List Zp)} {cs:List Value} (h:KN base W v zs cs) {B:Nat} {a:Option Addr} {z:List Zp} {c:Nat} (hz:OwnZ B W (.slice a z.length c) z) (hn:a=none→c=0)
  (ho:W1.ownsRow base 38 1 v' (zs.length+1) (cs ++ [.slice a z.length c])) (hg:W.grownBy W1 v.ownBlock):KN base W1 v' (zs ++ [z]) (cs ++ [.slice a z.length c]):=by
 have hcl:cs.length=zs.length:=by have:=h.own.1; omega
 refine ⟨by rw [List.length_append]; exact ho,fun i hi=>?_⟩
 by_cases e:i<zs.length
 ·obtain ⟨B',a',c',h1,h2,h3⟩:=h.at_ i e
  rw [List.getElem_append_left e]
  exact ⟨B',a',c',by rw [List.getElem?_append_left (by omega)]; exact h1,h2.grown h.own hg,h3⟩
 ·have e:i=zs.length:=by simp at hi; omega
  subst e
  refine ⟨B,a,c,by rw [List.getElem?_append_right (by omega)]; simp [hcl],?_,hn⟩
  simpa using hz.grown h.own hg
theorem KN.dt {base:Nat} {W:World} {v:Value} {zs:List (List Zp)} {cs:List Value} (h:KN base W v zs cs):∃ a c,v = .slice a zs.length c∧DtAt W a zs:=by
 have ho:=h.own
 obtain ⟨hx,⟨rfl,h0⟩ | ⟨g,cap,cur,rfl,hg,hh,hr⟩⟩:=ho
 ·exact ⟨none,0,by rw [h0],.inl (List.eq_nil_of_length_eq_zero h0)⟩
 refine ⟨some ⟨g,0,none⟩,cap,rfl,?_⟩
 have key:∀ (i:Nat) (hi:i<zs.length),∃ (y:Option Addr × Nat),W.cell? ⟨g,i,none⟩=some (.slice y.1 zs[i].length y.2)∧ZsAt W y.1 zs[i]∧(y.1=none→y.2=0):=fun i hi=>by
  obtain ⟨B,a,c,h1,h2,h3⟩:=h.at_ i hi
  obtain ⟨a',c',e',hz',_⟩:=h2.zs2
  injection e' with e1 _ _
  subst e1
  have:=World.ownsRow.cells h.own (g:=g) rfl i _ h1
  rw [addr_addX,Nat.zero_add] at this
  exact ⟨(a,c),this,hz',h3⟩
 obtain ⟨f,hf⟩:=Go.Deep.choose_lt (α:=Option Addr × Nat) (n:=zs.length) (p:=fun i y=>∃ hi:i<zs.length,W.cell? ⟨g,i,none⟩=some (.slice y.1 zs[i].length y.2)∧ZsAt W y.1 zs[i]∧(y.1=none→y.2=0)) (fun i hi=>by obtain ⟨y,hy⟩:=key i hi; exact ⟨y,hi,hy⟩)
 refine .inr ⟨g,0,fun i=>(f i).1,fun i=>(f i).2,rfl,lt_of_heap hh,fun i hi=>?_⟩
 obtain ⟨_,h1⟩:=hf i hi
 rw [Nat.zero_add]
 exact h1

set_option maxRecDepth 100000 in
set_option maxHeartbeats 16000000 in
theorem keepBack_walk (ta:Option Addr) (tc:Nat) (ts:List (List Int)) (p:Pl) (q:Pw) (da:Option Addr) (dc:Nat) (data:List (List Zp)) (ha:Option Addr) (hc:Nat) (ch:List (List Zp)) (w:World) (hT:TbAt w.heap.size w ta ts) (hp:PlB w.heap.size w p q) (hk:PlOk p) (hD:DtAt w da data) (_hn:data.length≤10000000000000) (hH:DtAt w ha ch) (hnH:ch.length*24≤140737488351232) :
  Calls Tryz.prog 14 #[.slice ta ts.length tc,plV p q,.slice da data.length dc,.slice ha ch.length hc] w fun e w'=>e = .returned (.bool true)∧Below w.heap.size w w':=by
 have TX:TbX w ta ts:=hT
 have PX:PlX w p q:=hp
 have DX:=hD
 have HK:Hid (PlOk p):=hk
 clear hT hp hD hk
 have HX:=hH
 clear hH
 obtain ⟨i0,hi,hj0,hj1,hj2⟩:=info_parts infoS
 have hA:Below w.heap.size w w:=Below.refl _ _
 have hb:Below w.heap.size w (w.alloc (.cells #[.int .i64 p.k,.int .i64 p.n,.int .i64 p.x.k,.int .i64 p.x.v.1,.int .i64 p.x.v.2.1,.string p.x.v.2.2,.int .i64 p.x.c,.slice q.xa p.x.ks.length q.xc,.slice q.sa p.xs.length q.sc,.slice q.ga p.gs.length q.gc,.slice q.ka p.ks.length q.kc] 31)):=(Below.refl _ _).alloc (Nat.le_refl _) _
 replace TX:=TX.next hb
 replace PX:=PX.next hb
 replace DX:=DX.next hb
 replace HX:=HX.next hb
 replace hA:=chain hA hb
 have EL:ElX (w.alloc (.cells #[.int .i64 p.k,.int .i64 p.n,.int .i64 p.x.k,.int .i64 p.x.v.1,.int .i64 p.x.v.2.1,.string p.x.v.2.2,.int .i64 p.x.c,.slice q.xa p.x.ks.length q.xc,.slice q.sa p.xs.length q.sc,.slice q.ga p.gs.length q.gc,.slice q.ka p.ks.length q.kc] 31)) w.heap.size p q:=⟨Elv.new w p q 31,by simp⟩
 unfold plV
 go_enter Tryz.func14,Tryz.ntmps14
 go_upto_region 1 with fail
 generalize w.alloc (.cells #[.int .i64 p.k,.int .i64 p.n,.int .i64 p.x.k,.int .i64 p.x.v.1,.int .i64 p.x.v.2.1,.string p.x.v.2.2,.int .i64 p.x.c,.slice q.xa p.x.ks.length q.xc,.slice q.sa p.xs.length q.sc,.slice q.ga p.gs.length q.gc,.slice q.ka p.ks.length q.kc] 31)=w1 at *
 clear hb
 have con:=alive7_at w1
 go_wp2_with fail
 refine con.mono ?_
 rintro e w2 ⟨rfl,hb⟩
 clear con
 replace TX:=TX.next hb
 replace PX:=PX.next hb
 replace DX:=DX.next hb
 replace HX:=HX.next hb
 replace EL:=EL.next hb
 replace hA:=chain hA hb
 clear hb
 dsimp only
 go_wp2_with fail
 go_loopw [9,23] (fun v i wr=>∃ (j:Nat) (cs:List Value),j≤ch.length∧i = .int .i64 j∧KN w2.heap.size wr v (negL (ch.take j)) cs∧Below w2.heap.size w2 wr) (fun _ i _=>ch.length - (intOf i).toNat)
 case atStart=>exact ⟨0,[],Nat.zero_le _,rfl,⟨by simpa [negL] using World.ownsRow_nil _ _ _ _,fun i hi=>by simp [negL] at hi⟩,Below.refl _ _⟩
 case round =>
  obtain ⟨j,cs,hj,rfl,KJ,hb⟩:=hrel
  have hA5:=chain hA hb
  by_cases hlt:j<ch.length
  ·obtain ⟨b,off,ai,ci,rfl,hbl,x0,zX,_⟩:=(HX.next hb).elem hlt
   have hjz:(j:Int)<(ch.length:Int):=by omega
   have con:=neg_at ai ci ch[j] wr zX
   have HN:Hid (negL (ch.take (j+1))=negL (ch.take j) ++ [setZ (fun w=>-w) ch[j]]):=by
    show _=_
    unfold negL
    rw [List.take_succ_eq_append_getElem hlt,List.map_append]
    rfl
   have HLn:Hid ((negL (ch.take j)).length=j):=by
    show _=_
    unfold negL
    rw [List.length_map,List.length_take]
    omega
   generalize setZ (fun w=>-w) ch[j]=zn at *
   generalize wrongZ ch[j]=en at *
   go_wp2_with fail
   refine con.mono ?_
   rintro e w5 ⟨v5,rfl,O5,hbb⟩
   clear con x0
   obtain ⟨a5,c5,rfl,_,n5⟩:=O5.zs2
   have hA6:=chain hA5 hbb
   dsimp only
   by_cases h0:en=0
   rotate_left
   ·have hb0:(en != 0)=true:=by simpa using h0
    clear KJ O5
    go_wp2_with fail
    go_ret
    exact ⟨rfl,hA6⟩
   subst h0
   have hal:Below w5.heap.size w5 (w5.alloc (.cells #[.slice a5 zn.length c5] 38)):=(Below.refl _ _).alloc (Nat.le_refl _) _
   have q6:=cell_of (i:=0) (heap_new w5 #[.slice a5 zn.length c5] 38) rfl
   have RW:Raw (w5.alloc (.cells #[.slice a5 zn.length c5] 38)) (some ⟨w5.heap.size,0,none⟩) 1 1 [.slice a5 zn.length c5]:=⟨rfl,fun u hu=>(by simp only [List.mem_singleton] at hu; subst hu; rfl),fun h=>(by cases h),fun ad e jj u hu=>(by
    have e:=Option.some.inj e
    subst e
    rw [addr_addX]
    cases jj with
    | zero=>exact q6.trans hu
    | succ n=>simp at hu)⟩
   have K6:=(KJ.next hbb).next hal
   have O6:=O5.next hal
   have hb6:=chain hb (chain hbb hal)
   have o6:=K6.own
   rw [HLn.out] at o6
   clear KJ O5 hbb hal
   have hbase:=hb6.size
   go_upto_region 11 with (at_builtin; refine wpList_append_raw rfl _ _ 32 rfl w2.heap.size 38 i0 _ 1 24 Tryz.underlying32 hi hj0 hj1 hj2 rfl (by decide) _ _ _ rfl o6 _ _ _ _ rfl RW (by unfold maxLen; omega) (by omega) hbase ?_; intro v7 w7 ho7 hg7)
   have K7:=K6.push O6 n5 (by rw [HLn.out]; exact ho7) hg7
   rw [← HN.out] at K7
   have hb7:=hb6.grown hg7 hb6.size (fun k hk=>(o6.lt k hk).1)
   clear K6 O6 ho7 hg7 hb6 o6 RW q6
   go_wp2_with fail
   go_roundw
   case rel=>exact ⟨j+1,_,by omega,by go_num,K7,hb7⟩
   case measure=>simp [intOf]; omega
  ·have e:j=ch.length:=by omega
   have hjn:¬ (j:Int)<(ch.length:Int):=by omega
   subst e
   rw [List.take_length] at KJ
   obtain ⟨ka,kc,rfl,KX⟩:=KJ.dt
   have hLn:(negL ch).length=ch.length:=by unfold negL; rw [List.length_map]
   have HLn:Hid ((negL ch).length=ch.length):=hLn
   clear KJ hA5 hLn
   replace TX:=TX.next hb
   replace PX:=PX.next hb
   replace DX:=DX.next hb
   replace HX:=HX.next hb
   replace EL:=EL.next hb
   replace hA:=chain hA hb
   clear hb
   have hb:Below wr.heap.size wr (wr.alloc (.cells #[.slice ha ch.length hc,.slice ka (negL ch).length kc] 32)):=(Below.refl _ _).alloc (Nat.le_refl _) _
   have CX:ChAt (wr.alloc (.cells #[.slice ha ch.length hc,.slice ka (negL ch).length kc] 32)) (some ⟨wr.heap.size,0,none⟩) [ch,negL ch]:=ch_two HX KX
   go_upto_region 13 with fail
   replace TX:=TX.next hb
   replace PX:=PX.next hb
   replace DX:=DX.next hb
   replace HX:=HX.next hb
   replace EL:=EL.next hb
   replace KX:=KX.next hb
   replace hA:=chain hA hb
   generalize wr.alloc (.cells #[.slice ha ch.length hc,.slice ka (negL ch).length kc] 32)=w21 at *
   clear hb
   generalize hgc:wr.heap.size=gc at *
   clear hgc
   have con:=all_at ts p q data [ch,negL ch] ta tc da dc (some ⟨gc,0,none⟩) 2 w21 TX PX HK.out DX CX
   try unfold plV at con
   obtain ⟨y0,y1,⟨y2,y3,y4,y5,y6,y7⟩,y8,y9,y10⟩:=EL.el
   simp only [Nat.zero_add] at y1 y2 y3 y4 y5 y6 y7 y8 y9 y10
   go_wp2_with fail
   refine con.mono ?_
   rintro e w22 ⟨v1,b1,rfl,A1,hb⟩
   clear con
   clear y0 y1 y2 y3 y4 y5 y6 y7 y8 y9 y10
   replace TX:=TX.next hb
   replace PX:=PX.next hb
   replace DX:=DX.next hb
   replace HX:=HX.next hb
   replace EL:=EL.next hb
   replace KX:=KX.next hb
   replace CX:=CX.next hb
   replace hA:=chain hA hb
   clear hb
   cases b1 with
   | false =>
    clear A1
    go_wp2_with fail
    go_ret
    exact ⟨rfl,hA⟩
   | true =>
    have OK1:Hid (KOk ts p data [ch,negL ch]):=(A1 rfl).1
    clear A1
    have con:=keep_at ts p q data [ch,negL ch] ta tc da dc (some ⟨gc,0,none⟩) 2 w22 TX PX HK.out DX CX OK1.out
    try unfold plV at con
    obtain ⟨y0,y1,⟨y2,y3,y4,y5,y6,y7⟩,y8,y9,y10⟩:=EL.el
    simp only [Nat.zero_add] at y1 y2 y3 y4 y5 y6 y7 y8 y9 y10
    go_wp2_with fail
    refine con.mono ?_
    rintro e w23 ⟨gk1,cap1,base1,cs1,rfl,K1,hb⟩
    clear con
    clear y0 y1 y2 y3 y4 y5 y6 y7 y8 y9 y10
    replace TX:=TX.next hb
    replace PX:=PX.next hb
    replace DX:=DX.next hb
    replace HX:=HX.next hb
    replace EL:=EL.next hb
    replace KX:=KX.next hb
    replace CX:=CX.next hb
    replace hA:=chain hA hb
    clear hb
    have hb:Below w23.heap.size w23 (w23.alloc (.cells #[.int .i64 0,.int .i64 0] 67)):=(Below.refl _ _).alloc (Nat.le_refl _) _
    have F1:=cell_of (i:=0) (heap_new w23 #[.int .i64 0,.int .i64 0] 67) rfl
    have lf1:w23.heap.size<(w23.alloc (.cells #[.int .i64 0,.int .i64 0] 67)).heap.size:=by simp
    replace K1:=K1.next hb
    replace TX:=TX.next hb
    replace PX:=PX.next hb
    replace DX:=DX.next hb
    replace HX:=HX.next hb
    replace EL:=EL.next hb
    replace KX:=KX.next hb
    replace CX:=CX.next hb
    replace hA:=chain hA hb
    go_upto_region 17 with fail
    generalize w23.alloc (.cells #[.int .i64 0,.int .i64 0] 67)=w24 at *
    clear hb
    generalize hgf:w23.heap.size=gf1 at *
    clear hgf
    have ez:=back_fact OK1.out
    obtain ⟨x1,y1,r1,Y1,_⟩:=K1.read (i:=0) (by rw [keepZ_len]; simp)
    obtain ⟨x2,y2,r2,Y2,_⟩:=K1.read (i:=2) (by rw [keepZ_len]; simp)
    rw [keepZ_get] at r1 Y1 r2 Y2
    rw [ez] at r2 Y2
    rw [keepD] at r1 Y1
    generalize evZ ts data p=zf at *
    try simp only [List.length_cons,List.length_nil,Nat.zero_add,Nat.reduceAdd]
    clear ez K1 OK1 CX
    have con:∀ n:Past w24,Calls Tryz.prog 21 #[.slice x1 zf.length y1,.slice x2 zf.length y2] n.now fun e w'=>e = .returned (.bool true)∧Below n.now.heap.size n.now w':=fun n=>same_eq x1 x2 y1 y2 zf n.now (Y1.next n.ok) (Y2.next n.ok)
    have p1:=past_cell r1
    have p2:=past_cell r2
    have p3:=past_cell F1
    haveI:Nonempty (Past w24):=⟨⟨_,Below.refl _ _⟩⟩
    clear r1 r2 F1 Y1 Y2
    refine wp_region_past (by kernel_rfl) (by kernel_rfl) ?_
    repeat (go_big_quiet_step (first | (go_at_call 21; exact in_past (con _))))
    refine wpQuiet_nil ?_
    rintro wz ⟨⟨vz,hbz⟩,hz⟩
    obtain rfl:wz=vz:=hz
    clear p1 p2 p3 this con
    replace hA:=chain hA hbz
    go_wp2_with fail
    go_ret
    exact ⟨rfl,hA⟩
end Go.Proofs.YtoefpglknaiaeaaGreat
