/- Together: NI, D1, NJ, D2, D3, LP, LD, LE, XOpen. -/
import Derived.Laws.MakeOwn
import Derived.Shelf.Abstract
import Derived.Deep.Slices
import Derived.Deep.Strs
import Derived.ProofKit
import Derived.OpenShut
import Derived.ChangeOld
import Derived.Lib.SmallJoins
import Derived.Test.YtoefpglknaiaeaaGreatB13
import Derived.Test.YtoefpglknaiaeaaGreatB12
import Derived.Test.YtoefpglknaiaeaaGreatB4
/- query's Eval. -/
namespace Go.Proofs.YtoefpglknaiaeaaGreat
open Go.RowKit Go.Lib Go.Shelf

theorem eval_all (ts:List (List Int)) (hts:tabsE ts=0) (data:List (List Zp)) (hD:DOk ts data):∀ p,EvalAt ts data p:=Pl.ind fun k n x xs gs ks ih=>eval_at ts hts data hD (.mk k n x xs gs ks) ih
theorem ownZ_nil (B:Nat) (W:World):OwnZ B W (.slice none 0 0) []:=⟨[],by simpa using World.ownsRow_nil _ _ _ _,⟨rfl,fun i hi=>by simp at hi⟩⟩

set_option maxRecDepth 100000 in
set_option maxHeartbeats 16000000 in
theorem evalT_at (ts:List (List Int)) (data:List (List Zp)) (p:Pl) (q:Pw) (ta:Option Addr) (tc:Nat) (da:Option Addr) (dc:Nat) (w:World) (hT:TbAt w.heap.size w ta ts) (hD:DtAt w da data) (hp:PlB w.heap.size w p q) (hk:PlOk p) :
  Calls Tryz.prog 19 #[.slice ta ts.length tc,plV p q,.slice da data.length dc] w fun e w'=>∃ v,e = .returned (.tuple #[v,.int .i64 (evE ts data p)])∧OwnZ w.heap.size w' v (evZ ts data p)∧Below w.heap.size w w':=by
 have hA:Below w.heap.size w (w.alloc (.cells #[.int .i64 p.k,.int .i64 p.n,.int .i64 p.x.k,.int .i64 p.x.v.1,.int .i64 p.x.v.2.1,.string p.x.v.2.2,.int .i64 p.x.c,.slice q.xa p.x.ks.length q.xc,.slice q.sa p.xs.length q.sc,.slice q.ga p.gs.length q.gc,.slice q.ka p.ks.length q.kc] 31)):=(Below.refl _ _).alloc (Nat.le_refl _) _
 have EL:=Elv.new w p q 31
 have con:=looked_at ts p q ta tc (w.alloc (.cells #[.int .i64 p.k,.int .i64 p.n,.int .i64 p.x.k,.int .i64 p.x.v.1,.int .i64 p.x.v.2.1,.string p.x.v.2.2,.int .i64 p.x.c,.slice q.xa p.x.ks.length q.xc,.slice q.sa p.xs.length q.sc,.slice q.ga p.gs.length q.gc,.slice q.ka p.ks.length q.kc] 31)) ((hT.next hA (Nat.le_refl _)).up hA.size) ((hp.next hA (Nat.le_refl _)).up hA.size) hk
 have HK:Hid (PlOk p):=hk
 generalize hee:evE ts data p=ee
 generalize hez:evZ ts data p=ez
 have HE:Hid (evE ts data p=ee):=hee
 have HZ:Hid (evZ ts data p=ez):=hez
 generalize hle:lookE ts p=le at con
 have HLe:Hid (lookE ts p=le):=hle
 clear hk hee hez hle
 obtain ⟨y0,y1,⟨y2,y3,y4,y5,y6,y7⟩,y8,y9,y10⟩:=EL
 simp only [Nat.zero_add] at y1 y2 y3 y4 y5 y6 y7 y8 y9 y10
 unfold plV at con ⊢
 go_enter Tryz.func19,Tryz.ntmps19
 go_upto_region 1 with fail
 generalize w.alloc (.cells #[.int .i64 p.k,.int .i64 p.n,.int .i64 p.x.k,.int .i64 p.x.v.1,.int .i64 p.x.v.2.1,.string p.x.v.2.2,.int .i64 p.x.c,.slice q.xa p.x.ks.length q.xc,.slice q.sa p.xs.length q.sc,.slice q.ga p.gs.length q.gc,.slice q.ka p.ks.length q.kc] 31)=wA at *
 go_wp2_with fail
 refine con.mono ?_
 rintro e w1 ⟨⟨v1,rfl,hv0,hv1⟩,hb1⟩
 clear con y0 y1 y2 y3 y4 y5 y6 y7 y8 y9 y10
 have hA1:=chain hA hb1
 by_cases he:le=0
 rotate_left
 ·have e0:=hv1 he
  obtain ⟨e1,e2⟩:=evE_look (data:=data) (show ¬ lookE ts p=0 by rw [HLe.out]; exact he)
  rw [HE.out,HLe.out] at e1
  rw [HZ.out] at e2
  subst e0 e1 e2
  have hal:Below w1.heap.size w1 (w1.alloc (.cells #[.int .i64 0,.int .i64 0,.int .i64 0,.int .i64 0,.int .i64 0,.string ⟨#[]⟩,.int .i64 0,.slice none 0 0,.slice none 0 0,.slice none 0 0,.slice none 0 0,.slice none 0 0,.slice none 0 0] 79)):=(Below.refl _ _).alloc (Nat.le_refl _) _
  have hA2:=chain hA1 hal
  have heb:(ee != 0)=true:=by simpa using he
  clear hv0 hv1 HE HZ HLe
  unfold nd0
  go_upto_region 2 with fail
  generalize w1.alloc (.cells #[.int .i64 0,.int .i64 0,.int .i64 0,.int .i64 0,.int .i64 0,.string ⟨#[]⟩,.int .i64 0,.slice none 0 0,.slice none 0 0,.slice none 0 0,.slice none 0 0,.slice none 0 0,.slice none 0 0] 79)=w2 at *
  go_wp2_with fail
  exact bodyPost_ret (v:=.tuple #[.slice none 0 0,.int .i64 ee]) (by simp [results,Tryz.results19,go_sem]) rfl ⟨_,rfl,ownZ_nil _ _,hA2⟩
 obtain ⟨ca,cc,na,nc,e0,ND⟩:=hv0 he
 have HL0:Hid (lookE ts p=0):=by show _=_; rw [HLe.out,he]
 subst e0
 clear hv0 hv1 HLe
 subst he
 have hal:Below w1.heap.size w1 (w1.alloc (.cells #[.int .i64 p.k,.int .i64 p.n,.int .i64 p.x.k,.int .i64 p.x.v.1,.int .i64 p.x.v.2.1,.string p.x.v.2.2,.int .i64 p.x.c,.slice q.xa p.x.ks.length q.xc,.slice q.sa p.xs.length q.sc,.slice q.ga p.gs.length q.gc,.slice q.ka p.ks.length q.kc,.slice ca (colsP ts p).length cc,.slice na p.ks.length nc] 79)):=(Below.refl _ _).alloc (Nat.le_refl _) _
 have hA2:=chain hA1 hal
 have Qk:=heap_new w1 #[.int .i64 p.k,.int .i64 p.n,.int .i64 p.x.k,.int .i64 p.x.v.1,.int .i64 p.x.v.2.1,.string p.x.v.2.2,.int .i64 p.x.c,.slice q.xa p.x.ks.length q.xc,.slice q.sa p.xs.length q.sc,.slice q.ga p.gs.length q.gc,.slice q.ka p.ks.length q.kc,.slice ca (colsP ts p).length cc,.slice na p.ks.length nc] 79
 have lk:=lt_of_heap Qk
 have hsA:=hb1.size
 unfold ndV
 go_upto_region 2 with fail
 generalize w1.alloc (.cells #[.int .i64 p.k,.int .i64 p.n,.int .i64 p.x.k,.int .i64 p.x.v.1,.int .i64 p.x.v.2.1,.string p.x.v.2.2,.int .i64 p.x.c,.slice q.xa p.x.ks.length q.xc,.slice q.sa p.xs.length q.sc,.slice q.ga p.gs.length q.gc,.slice q.ka p.ks.length q.kc,.slice ca (colsP ts p).length cc,.slice na p.ks.length nc] 79)=w2 at *
 have h8:ts.length≤8:=tabsL (lookE_ok HL0.out).1
 have con:=wrongQ_at ts data ta tc da dc w2 ((hT.next hA2 (Nat.le_refl _)).up hA2.size) (hD.next hA2) h8
 generalize hde:dataE ts data=de at con
 have HDe:Hid (dataE ts data=de):=hde
 clear hde
 go_wp2_with fail
 refine con.mono ?_
 rintro e w3 ⟨rfl,hb3⟩
 clear con
 have hA3:=chain hA2 hb3
 dsimp only
 by_cases hd:de=0
 rotate_left
 ·obtain ⟨e1,e2⟩:=evE_data (data:=data) HL0.out (show ¬ dataE ts data=0 by rw [HDe.out]; exact hd)
  rw [HE.out,HDe.out] at e1
  rw [HZ.out] at e2
  subst e1 e2
  have heb:(ee != 0)=true:=by simpa using hd
  clear HE HZ HDe HL0
  go_wp2_with fail
  exact bodyPost_ret (v:=.tuple #[.slice none 0 0,.int .i64 ee]) (by simp [results,Tryz.results19,go_sem]) rfl ⟨_,rfl,ownZ_nil _ _,hA3⟩
 have HD0:Hid (dataE ts data=0):=by show _=_; rw [HDe.out,hd]
 clear HDe
 subst hd
 have Q3:=(hb3.block _ lk).trans Qk
 have hk3:Kept wA.heap.size wA.heap.size w1 w3:=Kept.of (chain hal hb3) hsA
 have con:=eval_all ts (lookE_ok HL0.out).1 data (dataE_dok HD0.out) p wA.heap.size wA.heap.size q ca cc na nc da dc 0 1 w3 (lookE_ok HL0.out).2 (ND.next hk3) (Nat.le_trans hsA (chain hal hb3).size) (hD.next hA3) HK.out
 obtain ⟨e1,e2⟩:=evE_own (p:=p) HL0.out HD0.out
 rw [HE.out] at e1
 rw [HZ.out] at e2
 rw [← e1,← e2] at con
 unfold ndV at con
 clear e1 e2 HE HZ HL0 HD0 ND hk3
 have z0:=cell_of (i:=0) Q3 rfl
 have z1:=cell_of (i:=1) Q3 rfl
 have z2:=cell_of (i:=2) Q3 rfl
 have z3:=cell_of (i:=3) Q3 rfl
 have z4:=cell_of (i:=4) Q3 rfl
 have z5:=cell_of (i:=5) Q3 rfl
 have z6:=cell_of (i:=6) Q3 rfl
 have z7:=cell_of (i:=7) Q3 rfl
 have z8:=cell_of (i:=8) Q3 rfl
 have z9:=cell_of (i:=9) Q3 rfl
 have z10:=cell_of (i:=10) Q3 rfl
 have z11:=cell_of (i:=11) Q3 rfl
 have z12:=cell_of (i:=12) Q3 rfl
 go_wp2_with fail
 refine con.mono ?_
 rintro e w4 ⟨v4,rfl,O4,hb4⟩
 clear con z0 z1 z2 z3 z4 z5 z6 z7 z8 z9 z10 z11 z12
 have O4':=O4.mono hA3.size
 go_wp2_with fail
 exact bodyPost_ret (v:=.tuple #[v4,.int .i64 ee]) (by simp [results,Tryz.results19,go_sem]) rfl ⟨_,rfl,O4',chain hA3 hb4⟩
end Go.Proofs.YtoefpglknaiaeaaGreat
/- delta's Apply. -/
namespace Go.Proofs.YtoefpglknaiaeaaGreat
open Go.RowKit Go.Lib Go.Shelf

theorem infoS:(Tryz.prog.info? 38).map (fun i=>(i.zero,i.size,i.bytes))=some (some (.slice none 0 0),1,24):=by kernel_rfl
theorem make_setsN {n:Nat} (h:n≤10000000000000) (w:World):∃ c:Array Value,c.size=n∧(Instr.makeSlice 32 (.int .i64 n) (.int .i64 n)).run Tryz.prog w = .ok (.slice (some ⟨w.heap.size,0,none⟩) n n) (w.alloc (.cells c 38)):=by
 obtain ⟨i0,hi,hj0,hj1,hj2⟩:=info_parts infoS
 have hr:=run_make (P:=Tryz.prog) w 32 38 i0 _ Tryz.underlying32 hi hj0 .i64 .i64 n n (by omega) (by omega) (by rw [hj2]; omega) (by omega)
 rw [Int.toNat_natCast] at hr
 exact ⟨_,by rw [size_madeCells,hj1,Nat.mul_one],hr⟩
theorem STo.newN (w:World) (c:Array Value):STo (w.alloc (.cells c 38)) w.heap.size c.size []:=by
 have q:=heap_new w c 38
 exact ⟨⟨_,_,q⟩,fun o ho=>⟨c[o],cell_of (i:=o) q (by simp [ho])⟩,fun o=>frozen_of_row _ w.heap.size o _ _ q,fun i hi=>by cases hi⟩
theorem STo.dt {W:World} {g n:Nat} {zs:List (List Zp)} (h:STo W g n zs):DtAt W (some ⟨g,0,none⟩) zs:=by
 have key:∀ (i:Nat) (hi:i<zs.length),∃ (y:Option Addr × Nat),W.cell? ⟨g,i,none⟩=some (.slice y.1 zs[i].length y.2)∧ZsAt W y.1 zs[i]∧(y.1=none→y.2=0):=fun i hi=>by
  obtain ⟨v,base,_,h2,h3⟩:=h.laid i hi
  obtain ⟨a,c,rfl,h4,h5⟩:=h3.zs2
  exact ⟨(a,c),h2,h4,h5⟩
 obtain ⟨f,hf⟩:=Go.Deep.choose_lt (α:=Option Addr × Nat) (n:=zs.length) (p:=fun i y=>∃ hi:i<zs.length,W.cell? ⟨g,i,none⟩=some (.slice y.1 zs[i].length y.2)∧ZsAt W y.1 zs[i]∧(y.1=none→y.2=0)) (fun i hi=>by obtain ⟨y,hy⟩:=key i hi; exact ⟨y,hi,hy⟩)
 refine .inr ⟨g,0,fun i=>(f i).1,fun i=>(f i).2,rfl,h.lt,fun i hi=>?_⟩
 obtain ⟨_,h1⟩:=hf i hi
 rw [Nat.zero_add]
 exact h1

set_option maxRecDepth 100000 in
set_option maxHeartbeats 8000000 in
theorem applyT_at (data more:List (List Zp)) (da:Option Addr) (dc:Nat) (ma:Option Addr) (mc:Nat) (w:World) (hD:DtAt w da data) (hM:DtAt w ma more) (hn:data.length≤10000000000000) :
  Calls Tryz.prog 28 #[.slice da data.length dc,.slice ma more.length mc] w fun e w'=>∃ a c,e = .returned (.tuple #[.slice a (applyZ data more).length c,.int .i64 (applyE data more)])∧DtAt w' a (applyZ data more)∧Below w.heap.size w w':=by
 generalize hr:applyE data more=r
 generalize hz:applyZ data more=z
 have HR:Hid (applyE data more=r):=hr
 have HZ:Hid (applyZ data more=z):=hz
 clear hr hz
 obtain ⟨cs,hcs,hmk⟩:=make_setsN hn w
 have S0:=STo.newN w cs
 rw [hcs] at S0
 go_enter Tryz.func28,Tryz.ntmps28
 by_cases hl:data.length=more.length
 rotate_left
 ·have hne:((data.length:Int) != (more.length:Int))=true:=by simp; omega
  have e:r=8:=by rw [← HR.out]; unfold applyE; rw [if_pos hl]
  have e':z = []:=by rw [← HZ.out]; unfold applyZ; rw [HR.out,e,if_neg (by decide)]
  subst e e'
  go_wp2_with fail
  exact bodyPost_ret (v:=.tuple #[.slice none 0 0,.int .i64 8]) (by simp [results,Tryz.results28,go_sem]) rfl ⟨none,0,rfl,.inl rfl,Below.refl _ _⟩
 have hne:((data.length:Int) != (more.length:Int))=false:=by simp; omega
 have HR':Hid (r=applE (data.drop 0) (more.drop 0)):=by show _=_; rw [← HR.out]; unfold applyE; rw [if_neg (by simpa using hl)]; rfl
 have HZ':Hid (z=if r=0 then applL data more else []):=by show _=_; rw [← HZ.out,← HR.out]; rfl
 have HLn:Hid ((applL data more).length=data.length):=applL_len hl
 have hl1:data.length≤more.length:=by omega
 have hl2:more.length≤data.length:=by omega
 clear HR HZ hl hcs
 have hal:Below w.heap.size w (w.alloc (.cells cs 38)):=(Below.refl _ _).alloc (Nat.le_refl _) _
 go_upto_region 4 with fail
 clear hne hmk
 generalize w.alloc (.cells cs 38)=w1 at *
 go_wp2_with fail
 go_loopw [21] (fun i wr=>∃ j:Nat,j≤data.length∧i = .int .i64 j∧Hid (r=applE (data.drop j) (more.drop j))∧STo wr w.heap.size data.length ((applL data more).take j)∧Below w.heap.size w wr) (fun i _=>data.length - (intOf i).toNat)
 case atStart=>exact ⟨0,Nat.zero_le _,rfl,HR',by simpa using S0,hal⟩
 case round =>
  obtain ⟨j,hj,rfl,HT,hS,hb⟩:=hrel
  clear S0 HR' hal
  by_cases hlt:j<data.length
  ·have hlt':j<more.length:=by omega
   obtain ⟨b1,o1,ai,ci,rfl,hb1,c1,hz1,hn1⟩:=(hD.next hb).elem hlt
   obtain ⟨b2,o2,zi,zc,rfl,hb2,c2,hz2,_⟩:=(hM.next hb).elem hlt'
   have hjz:(j:Int)<(data.length:Int):=by omega
   have hjt:(j:Int)<(more.length:Int):=by omega
   have hj0:(0:Int)≤(j:Int):=by omega
   have hgl:=hS.lt
   have HBad:Hid (¬ bothE 1 data[j] more[j]=0→r=bothE 1 data[j] more[j]):=fun c=>HT.out.trans (applE_bad hlt hlt' c)
   have HOk:Hid (bothE 1 data[j] more[j]=0→r=applE (data.drop (j+1)) (more.drop (j+1))):=fun c=>HT.out.trans (applE_next hlt hlt' c)
   have HTk:Hid ((applL data more).take (j+1)=(applL data more).take j ++ [bothZ 1 data[j] more[j]]):=applL_take hlt hlt'
   have con:=add_at ai zi ci zc data[j] more[j] wr hz1 hz2 hn1
   clear HT
   generalize bothE 1 data[j] more[j]=er at *
   generalize bothZ 1 data[j] more[j]=zr at *
   go_wp2_with fail
   refine con.mono ?_
   rintro e w5 ⟨v5,rfl,O5,hb5⟩
   clear con c1 c2
   obtain ⟨a5,c5,ev,_,_⟩:=O5.zs2
   subst ev
   have hA5:=chain hb hb5
   dsimp only
   by_cases h0:er=0
   ·have HT':Hid (r=applE (data.drop (j+1)) (more.drop (j+1))):=HOk.out h0
    subst h0
    have S5:=hS.next hb5
    have hlen:((applL data more).take j).length=j:=by rw [List.length_take,HLn.out]; omega
    have S6:=S5.store (by rw [hlen]; exact hlt) O5 hgl
    rw [hlen,← HTk.out] at S6
    obtain ⟨u5,r5⟩:=S5.room j hlt
    have f5:=S5.fz j
    have hA6:=hA5.setCell (p:=⟨w.heap.size,j,none⟩) (Nat.le_refl _) (.slice a5 zr.length c5)
    clear HBad HOk HTk S5 hlen hS O5
    go_wp2_with fail
    go_roundw
    case rel=>exact ⟨j+1,by omega,by go_num,HT',S6,hA6⟩
    case measure=>simp [intOf]; omega
   ·have e:r=er:=HBad.out h0
    have h0b:(er != 0)=true:=by simpa using h0
    have e':z = []:=by rw [HZ'.out,if_neg (by rw [e]; exact h0)]
    subst e e'
    clear HBad HOk HTk hS O5 HZ'
    go_wp2_with fail
    exact bodyPost_ret (v:=.tuple #[.slice none 0 0,.int .i64 r]) (by simp [results,Tryz.results28,go_sem]) rfl ⟨none,0,rfl,.inl rfl,hA5⟩
  ·have e:r=0:=by rw [HT.out,applE_end (by omega)]
   have ej:j=data.length:=by omega
   have hjn:¬ (j:Int)<(data.length:Int):=by omega
   have e':z=applL data more:=by rw [HZ'.out,if_pos e]
   have hd:=hS.dt
   rw [ej,← HLn.out,List.take_length,← e'] at hd
   have hzl:(data.length:Nat)=z.length:=by rw [e']; exact HLn.out.symm
   have HZl:Hid ((data.length:Nat)=z.length):=hzl
   subst e
   clear HT HZ' e' hS ej hzl
   go_wp2_with fail
   exact bodyPost_ret (v:=.tuple #[.slice (some ⟨w.heap.size,0,none⟩) data.length data.length,.int .i64 0]) (by simp [results,Tryz.results28,go_sem]) rfl ⟨some ⟨w.heap.size,0,none⟩,⟨data.length,by rw [← HZl.out]⟩,hd,hb⟩
end Go.Proofs.YtoefpglknaiaeaaGreat
/- query's Cols. -/
namespace Go.Proofs.YtoefpglknaiaeaaGreat
open Go.RowKit Go.Lib Go.Shelf

theorem eql_nil {P:Program} (w:World) (t e:TypeId) (a:Option Addr) (l c:Nat) (h:P.underlying t=some (.slice e)):(binOp .eql t (.slice a l c) (.slice none 0 0)).run P w = .ok (.bool a.isNone) w:=by
 simp only [binOp]
 simp [run_equal_slice_nil w t e a l c h]

set_option maxRecDepth 100000 in
set_option maxHeartbeats 4000000 in
theorem cloneI_at (a:Option Addr) (cap:Nat) (l:List Int) (w:World) (h:IsAt w.heap.size w a l) (hl:l.length≤1000) :
  Calls Tryz.prog 45 #[.slice a l.length cap] w fun e w'=>∃ a' c,e = .returned (.slice a' l.length c)∧IsAt w'.heap.size w' a' l∧Below w.heap.size w w':=by
 obtain ⟨i0,hi,hj0,hj1,hj2⟩:=info_parts infoI
 have R:=raw_ints h
 cases a with
 | none =>
  have e:l = []:=List.eq_nil_of_length_eq_zero (R.nil rfl)
  subst e
  have heq:=eql_nil (P:=Tryz.prog) w 33 3 none 0 cap Tryz.underlying33
  go_enter Tryz.func45,Tryz.ntmps45
  go_wp2_with fail
  go_ret
  exact ⟨none,0,rfl,⟨by simp,.inl rfl⟩,Below.refl _ _⟩
 | some ad =>
  have hal:Below w.heap.size w (w.alloc (.cells #[] 3)):=(Below.refl _ _).alloc (Nat.le_refl _) _
  have R1:=R.next hal
  have ho:(w.alloc (.cells #[] 3)).ownsRow w.heap.size 3 1 (.slice (some ⟨w.heap.size,0,none⟩) 0 0) 0 []:=World.ownsRow_made w #[] 0 (Nat.le_refl _) (by decide) rfl
  have heq:=eql_nil (P:=Tryz.prog) w 33 3 (some ad) l.length cap Tryz.underlying33
  go_enter Tryz.func45,Tryz.ntmps45
  go_upto_region 3 with fail
  go_wp2_with (at_builtin; refine wpList_append_raw rfl _ _ 33 rfl w.heap.size 3 i0 _ 1 8 Tryz.underlying33 hi hj0 hj1 hj2 rfl (by decide) _ _ _ rfl ho _ _ _ _ rfl R1 (by unfold maxLen; omega) (by omega) (by simp) ?_)
  intro v' w5 ho5 hg5
  have hb5:Below w.heap.size w w5:=hal.grown hg5 (by simp) (fun q hq=>(ho.lt q hq).1)
  obtain ⟨a5,c5,rfl,it⟩:=own_intsT (B:=0) (lo:=0) ho5 rfl (Nat.zero_le _)
  go_wp2_with fail
  go_ret
  exact ⟨a5,c5,rfl,it.at,hb5⟩
/-- The columns that Cols tells. -/
def colsT (ts:List (List Int)) (p:Pl):List Int:=if lookE ts p=0 then colsP ts p else []

set_option maxRecDepth 100000 in
set_option maxHeartbeats 16000000 in
theorem colsQ_at (ts:List (List Int)) (p:Pl) (q:Pw) (ta:Option Addr) (tc:Nat) (w:World) (hT:TbAt w.heap.size w ta ts) (hp:PlB w.heap.size w p q) (hk:PlOk p) :
  Calls Tryz.prog 16 #[.slice ta ts.length tc,plV p q] w fun e w'=>∃ a c,e = .returned (.tuple #[.slice a (colsT ts p).length c,.int .i64 (lookE ts p)])∧IsAt w'.heap.size w' a (colsT ts p)∧Below w.heap.size w w':=by
 have hA:Below w.heap.size w (w.alloc (.cells #[.int .i64 p.k,.int .i64 p.n,.int .i64 p.x.k,.int .i64 p.x.v.1,.int .i64 p.x.v.2.1,.string p.x.v.2.2,.int .i64 p.x.c,.slice q.xa p.x.ks.length q.xc,.slice q.sa p.xs.length q.sc,.slice q.ga p.gs.length q.gc,.slice q.ka p.ks.length q.kc] 31)):=(Below.refl _ _).alloc (Nat.le_refl _) _
 have EL:=Elv.new w p q 31
 have con:=looked_at ts p q ta tc (w.alloc (.cells #[.int .i64 p.k,.int .i64 p.n,.int .i64 p.x.k,.int .i64 p.x.v.1,.int .i64 p.x.v.2.1,.string p.x.v.2.2,.int .i64 p.x.c,.slice q.xa p.x.ks.length q.xc,.slice q.sa p.xs.length q.sc,.slice q.ga p.gs.length q.gc,.slice q.ka p.ks.length q.kc] 31)) ((hT.next hA (Nat.le_refl _)).up hA.size) ((hp.next hA (Nat.le_refl _)).up hA.size) hk
 have h8:Hid (lookE ts p=0→(colsP ts p).length≤8):=fun h=>cols8 (lookE_ok h).1 p 0 1 (lookE_ok h).2
 generalize hez:colsT ts p=ez
 have HZ:Hid (colsT ts p=ez):=hez
 generalize hle:lookE ts p=le at con
 have HLe:Hid (lookE ts p=le):=hle
 clear hk hez hle
 obtain ⟨y0,y1,⟨y2,y3,y4,y5,y6,y7⟩,y8,y9,y10⟩:=EL
 simp only [Nat.zero_add] at y1 y2 y3 y4 y5 y6 y7 y8 y9 y10
 unfold plV at con ⊢
 go_enter Tryz.func16,Tryz.ntmps16
 go_upto_region 1 with fail
 generalize w.alloc (.cells #[.int .i64 p.k,.int .i64 p.n,.int .i64 p.x.k,.int .i64 p.x.v.1,.int .i64 p.x.v.2.1,.string p.x.v.2.2,.int .i64 p.x.c,.slice q.xa p.x.ks.length q.xc,.slice q.sa p.xs.length q.sc,.slice q.ga p.gs.length q.gc,.slice q.ka p.ks.length q.kc] 31)=wA at *
 go_wp2_with fail
 refine con.mono ?_
 rintro e w1 ⟨⟨v1,rfl,hv0,hv1⟩,hb1⟩
 clear con y0 y1 y2 y3 y4 y5 y6 y7 y8 y9 y10
 have hA1:=chain hA hb1
 by_cases he:le=0
 rotate_left
 ·have e0:=hv1 he
  have e2:ez = []:=by rw [← HZ.out]; unfold colsT; rw [HLe.out,if_neg he]
  subst e0 e2
  have hal:Below w1.heap.size w1 (w1.alloc (.cells #[.int .i64 0,.int .i64 0,.int .i64 0,.int .i64 0,.int .i64 0,.string ⟨#[]⟩,.int .i64 0,.slice none 0 0,.slice none 0 0,.slice none 0 0,.slice none 0 0,.slice none 0 0,.slice none 0 0] 79)):=(Below.refl _ _).alloc (Nat.le_refl _) _
  have hA2:=chain hA1 hal
  have heb:(le != 0)=true:=by simpa using he
  clear hv0 hv1 HZ HLe h8
  unfold nd0
  go_upto_region 2 with fail
  generalize w1.alloc (.cells #[.int .i64 0,.int .i64 0,.int .i64 0,.int .i64 0,.int .i64 0,.string ⟨#[]⟩,.int .i64 0,.slice none 0 0,.slice none 0 0,.slice none 0 0,.slice none 0 0,.slice none 0 0,.slice none 0 0] 79)=w2 at *
  go_wp2_with fail
  exact bodyPost_ret (v:=.tuple #[.slice none 0 0,.int .i64 le]) (by simp [results,Tryz.results16,go_sem]) rfl ⟨none,0,rfl,⟨by simp,.inl rfl⟩,hA2⟩
 obtain ⟨ca,cc,na,nc,e0,ND⟩:=hv0 he
 have e2:Hid (colsP ts p=ez):=by show _=_; rw [← HZ.out]; unfold colsT; rw [HLe.out,if_pos he]
 have g8:(colsP ts p).length≤8:=h8.out (by rw [HLe.out,he])
 subst e0
 clear hv0 hv1 HLe h8 HZ
 subst he
 have IC:=ND.cols.at
 have hal:Below w1.heap.size w1 (w1.alloc (.cells #[.int .i64 p.k,.int .i64 p.n,.int .i64 p.x.k,.int .i64 p.x.v.1,.int .i64 p.x.v.2.1,.string p.x.v.2.2,.int .i64 p.x.c,.slice q.xa p.x.ks.length q.xc,.slice q.sa p.xs.length q.sc,.slice q.ga p.gs.length q.gc,.slice q.ka p.ks.length q.kc,.slice ca (colsP ts p).length cc,.slice na p.ks.length nc] 79)):=(Below.refl _ _).alloc (Nat.le_refl _) _
 have hA2:=chain hA1 hal
 have z11:=cell_of (i:=11) (heap_new w1 #[.int .i64 p.k,.int .i64 p.n,.int .i64 p.x.k,.int .i64 p.x.v.1,.int .i64 p.x.v.2.1,.string p.x.v.2.2,.int .i64 p.x.c,.slice q.xa p.x.ks.length q.xc,.slice q.sa p.xs.length q.sc,.slice q.ga p.gs.length q.gc,.slice q.ka p.ks.length q.kc,.slice ca (colsP ts p).length cc,.slice na p.ks.length nc] 79) rfl
 have IC2:=(IC.next hal (Nat.le_refl _)).up hal.size
 clear ND IC
 unfold ndV
 go_upto_region 2 with fail
 generalize w1.alloc (.cells #[.int .i64 p.k,.int .i64 p.n,.int .i64 p.x.k,.int .i64 p.x.v.1,.int .i64 p.x.v.2.1,.string p.x.v.2.2,.int .i64 p.x.c,.slice q.xa p.x.ks.length q.xc,.slice q.sa p.xs.length q.sc,.slice q.ga p.gs.length q.gc,.slice q.ka p.ks.length q.kc,.slice ca (colsP ts p).length cc,.slice na p.ks.length nc] 79)=w2 at *
 rw [e2.out] at z11 IC2 g8
 have con:=cloneI_at ca cc ez w2 IC2 (by omega)
 go_wp2_with fail
 refine con.mono ?_
 rintro e w3 ⟨a3,c3,rfl,I3,hb3⟩
 clear con z11
 go_wp2_with fail
 exact bodyPost_ret (v:=.tuple #[.slice a3 ez.length c3,.int .i64 0]) (by simp [results,Tryz.results16,go_sem]) rfl ⟨a3,c3,rfl,I3,chain hA2 hb3⟩
end Go.Proofs.YtoefpglknaiaeaaGreat
/- delta's Of. -/
namespace Go.Proofs.YtoefpglknaiaeaaGreat
open Go.RowKit Go.Lib Go.Shelf

set_option maxRecDepth 100000 in
set_option maxHeartbeats 8000000 in
theorem wrongD_at (ts:List (List Int)) (p:Pl) (q:Pw) (data more:List (List Zp)) (ta:Option Addr) (tc:Nat) (da:Option Addr) (dc:Nat) (ma:Option Addr) (mc:Nat) (w:World) (hT:TbAt w.heap.size w ta ts) (hp:PlB w.heap.size w p q) (hk:PlOk p) (hD:DtAt w da data) (hM:DtAt w ma more) :
  Calls Tryz.prog 56 #[.slice ta ts.length tc,plV p q,.slice da data.length dc,.slice ma more.length mc] w fun e w'=>e = .returned (.int .i64 (wrongD ts p data more))∧Below w.heap.size w w':=by
 have hA:Below w.heap.size w (w.alloc (.cells #[.int .i64 p.k,.int .i64 p.n,.int .i64 p.x.k,.int .i64 p.x.v.1,.int .i64 p.x.v.2.1,.string p.x.v.2.2,.int .i64 p.x.c,.slice q.xa p.x.ks.length q.xc,.slice q.sa p.xs.length q.sc,.slice q.ga p.gs.length q.gc,.slice q.ka p.ks.length q.kc] 31)):=(Below.refl _ _).alloc (Nat.le_refl _) _
 have EL:=Elv.new w p q 31
 have con:=colsQ_at ts p q ta tc (w.alloc (.cells #[.int .i64 p.k,.int .i64 p.n,.int .i64 p.x.k,.int .i64 p.x.v.1,.int .i64 p.x.v.2.1,.string p.x.v.2.2,.int .i64 p.x.c,.slice q.xa p.x.ks.length q.xc,.slice q.sa p.xs.length q.sc,.slice q.ga p.gs.length q.gc,.slice q.ka p.ks.length q.kc] 31)) ((hT.next hA (Nat.le_refl _)).up hA.size) ((hp.next hA (Nat.le_refl _)).up hA.size) hk
 have h8:Hid (lookE ts p=0→ts.length≤8):=fun h=>tabsL (lookE_ok h).1
 generalize hee:wrongD ts p data more=r
 have HE:Hid (wrongD ts p data more=r):=hee
 generalize hez:colsT ts p=ez at con
 generalize hle:lookE ts p=le at con
 have HLe:Hid (lookE ts p=le):=hle
 clear hk hee hez hle
 obtain ⟨y0,y1,⟨y2,y3,y4,y5,y6,y7⟩,y8,y9,y10⟩:=EL
 simp only [Nat.zero_add] at y1 y2 y3 y4 y5 y6 y7 y8 y9 y10
 unfold plV at con ⊢
 go_enter Tryz.func56,Tryz.ntmps56
 go_upto_region 1 with fail
 generalize w.alloc (.cells #[.int .i64 p.k,.int .i64 p.n,.int .i64 p.x.k,.int .i64 p.x.v.1,.int .i64 p.x.v.2.1,.string p.x.v.2.2,.int .i64 p.x.c,.slice q.xa p.x.ks.length q.xc,.slice q.sa p.xs.length q.sc,.slice q.ga p.gs.length q.gc,.slice q.ka p.ks.length q.kc] 31)=wA at *
 go_wp2_with fail
 refine con.mono ?_
 rintro e w1 ⟨a1,c1,rfl,_,hb1⟩
 clear con y0 y1 y2 y3 y4 y5 y6 y7 y8 y9 y10
 have hA1:=chain hA hb1
 by_cases he:le=0
 rotate_left
 ·have e1:r=le:=by rw [← HE.out]; unfold wrongD; rw [HLe.out,if_pos he]
  subst e1
  have heb:(r != 0)=true:=by simpa using he
  clear HE HLe h8
  go_wp2_with fail
  go_ret
  exact ⟨rfl,hA1⟩
 have g8:=h8.out (by rw [HLe.out,he])
 have con:=wrongQ_at ts data ta tc da dc w1 ((hT.next hA1 (Nat.le_refl _)).up hA1.size) (hD.next hA1) g8
 generalize hde:dataE ts data=de at con
 have HDe:Hid (dataE ts data=de):=hde
 have HL0:Hid (lookE ts p=0):=by show _=_; rw [HLe.out,he]
 clear hde HLe h8
 subst he
 go_wp2_with fail
 refine con.mono ?_
 rintro e w3 ⟨rfl,hb3⟩
 clear con
 have hA3:=chain hA1 hb3
 dsimp only
 by_cases hd:de=0
 rotate_left
 ·have e1:r=de:=by rw [← HE.out]; unfold wrongD; rw [HL0.out,HDe.out,if_neg (by simp),if_pos hd]
  subst e1
  have heb:(r != 0)=true:=by simpa using hd
  clear HE HDe HL0
  go_wp2_with fail
  go_ret
  exact ⟨rfl,hA3⟩
 have con:=wrongQ_at ts more ta tc ma mc w3 ((hT.next hA3 (Nat.le_refl _)).up hA3.size) (hM.next hA3) g8
 have e1:dataE ts more=r:=by rw [← HE.out]; unfold wrongD; rw [HL0.out,HDe.out,hd,if_neg (by simp),if_neg (by simp)]
 rw [e1] at con
 clear HE HDe HL0 e1
 subst hd
 go_wp2_with fail
 refine con.mono ?_
 rintro e w4 ⟨rfl,hb4⟩
 clear con
 go_wp2_with fail
 go_ret
 exact ⟨rfl,chain hA3 hb4⟩
end Go.Proofs.YtoefpglknaiaeaaGreat
/- delta's Of. -/
namespace Go.Proofs.YtoefpglknaiaeaaGreat
open Go.RowKit Go.Lib Go.Shelf

/-- A function value asks something of sets, in whatever world that has grown out of this one. -/
def AsksQ (g:Nat) (cb:Array Value) (fE:List (List Zp)→Int) (fZ:List (List Zp)→List Zp) (w:World):Prop :=
 ∀ (data:List (List Zp)) (da:Option Addr) (dc:Nat) (W:World),DtAt W da data→Below w.heap.size w W→Calls Tryz.prog g (#[.slice da data.length dc] ++ cb) W fun e w'=>∃ v,e = .returned (.tuple #[v,.int .i64 (fE data)])∧OwnZ W.heap.size w' v (fZ data)∧Below W.heap.size W w'
theorem of1_at (ts:List (List Int)) (p:Pl) (q:Pw) (ta:Option Addr) (tc:Nat) (B1 B2:Nat) (w:World) (hB1:w.cell? ⟨B1,0,none⟩=some (.slice ta ts.length tc)) (hB2:Elv w B2 0 p q) (hT:TbAt w.heap.size w ta ts) (hp:PlB w.heap.size w p q) (hk:PlOk p) :
  AsksQ 58 #[.pointer (some ⟨B1,0,none⟩),.pointer (some ⟨B2,0,none⟩)] (fun data=>evE ts data p) (fun data=>evZ ts data p) w:=by
 intro data da dc W hD hb
 have hc:=(hb.cell (p:=⟨B1,0,none⟩) (World.block_lt_of_cell? _ _ hB1)).trans hB1
 have EL:=hB2.next hb (World.block_lt_of_cell? _ _ hB2.c0)
 have con:=evalT_at ts data p q ta tc da dc W ((hT.next hb (Nat.le_refl _)).up hb.size) hD ((hp.next hb (Nat.le_refl _)).up hb.size) hk
 dsimp only
 generalize evE ts data p=ee at *
 generalize evZ ts data p=ez at *
 clear hB1 hB2 hT hp hk hD
 obtain ⟨y0,y1,⟨y2,y3,y4,y5,y6,y7⟩,y8,y9,y10⟩:=EL
 simp only [Nat.zero_add] at y1 y2 y3 y4 y5 y6 y7 y8 y9 y10
 unfold plV at con
 show Calls Tryz.prog 58 #[.slice da data.length dc,.pointer (some ⟨B1,0,none⟩),.pointer (some ⟨B2,0,none⟩)] W _
 go_enter Tryz.func58,Tryz.ntmps58
 go_wp2_with fail
 refine con.mono ?_
 rintro e w1 ⟨v1,rfl,O1,hb1⟩
 clear con
 go_wp2_with fail
 exact bodyPost_ret (v:=.tuple #[v1,.int .i64 ee]) (by simp [results,Tryz.results58,go_sem]) rfl ⟨_,rfl,O1,hb1⟩
/-- What is asked of two, less the second. -/
def betE (fE:List (List Zp)→Int) (fZ:List (List Zp)→List Zp) (a b:List (List Zp)):Int:=if fE b≠0 then fE b else if fE a≠0 then fE a else bothE (-1) (fZ b) (fZ a)
def betZ (fE:List (List Zp)→Int) (fZ:List (List Zp)→List Zp) (a b:List (List Zp)):List Zp:=if fE b≠0∨fE a≠0 then [] else bothZ (-1) (fZ b) (fZ a)

set_option maxRecDepth 100000 in
set_option maxHeartbeats 4000000 in
theorem between_at (g:Nat) (cb:Array Value) (fE:List (List Zp)→Int) (fZ:List (List Zp)→List Zp) (a b:List (List Zp)) (aa:Option Addr) (ac:Nat) (ba:Option Addr) (bc:Nat) (w:World) (eg:∀ args w,(callFunc g args).run Tryz.prog w = .ok (.enter g args) w) (hm:AsksQ g cb fE fZ w) (hA:DtAt w aa a) (hB:DtAt w ba b) :
  Calls Tryz.prog 57 #[.slice aa a.length ac,.slice ba b.length bc,.func (.func g) #[] cb] w fun e w'=>∃ v,e = .returned (.tuple #[v,.int .i64 (betE fE fZ a b)])∧OwnZ w.heap.size w' v (betZ fE fZ a b)∧Below w.heap.size w w':=by
 generalize hee:betE fE fZ a b=ee
 generalize hez:betZ fE fZ a b=ez
 have HE:Hid (betE fE fZ a b=ee):=hee
 have HZ:Hid (betZ fE fZ a b=ez):=hez
 have HM:Hid (AsksQ g cb fE fZ w):=hm
 have con:=hm b ba bc w hB (Below.refl _ _)
 generalize hfb:fE b=eb at con
 generalize hzb:fZ b=zb at con
 have HFb:Hid (fE b=eb):=hfb
 have HZb:Hid (fZ b=zb):=hzb
 clear hee hez hfb hzb hm
 go_enter Tryz.func57,Tryz.ntmps57
 go_upto_region 2 with (go_at_fn g; refine con.mono ?_; rintro e w1 ⟨v1,rfl,O1,hb1⟩)
 clear con
 obtain ⟨a1,c1,rfl,zs1,n1⟩:=O1.zs2
 by_cases h0:eb=0
 rotate_left
 ·have e1:ee=eb:=by rw [← HE.out]; unfold betE; rw [HFb.out,if_pos h0]
  have e2:ez = []:=by rw [← HZ.out]; unfold betZ; rw [HFb.out,if_pos (.inl h0)]
  subst e1 e2
  have hb0:(ee != 0)=true:=by simpa using h0
  clear HE HZ HM HFb HZb O1 zs1
  go_wp2_with fail
  exact bodyPost_ret (v:=.tuple #[.slice none 0 0,.int .i64 ee]) (by simp [results,Tryz.results57,go_sem]) rfl ⟨_,rfl,ownZ_nil _ _,hb1⟩
 have con:=HM.out a aa ac w1 (hA.next hb1) hb1
 generalize hfa:fE a=ea at con
 generalize hza:fZ a=za at con
 have HFa:Hid (fE a=ea):=hfa
 have HZa:Hid (fZ a=za):=hza
 have HFb0:Hid (fE b=0):=by show _=_; rw [HFb.out,h0]
 clear hfa hza HM HFb O1
 subst h0
 go_upto_region 5 with (go_at_fn g; refine con.mono ?_; rintro e w2 ⟨v2,rfl,O2,hb2⟩)
 clear con
 obtain ⟨a2,c2,rfl,zs2,n2⟩:=O2.zs2
 have hA2:=chain hb1 hb2
 have zs1:=zs1.next hb2
 by_cases h0:ea=0
 rotate_left
 ·have e1:ee=ea:=by rw [← HE.out]; unfold betE; rw [HFb0.out,HFa.out,if_neg (by simp),if_pos h0]
  have e2:ez = []:=by rw [← HZ.out]; unfold betZ; rw [HFa.out,if_pos (.inr h0)]
  subst e1 e2
  have hb0:(ee != 0)=true:=by simpa using h0
  clear HE HZ HFb0 HZb HFa HZa O2 zs2 zs1
  go_wp2_with fail
  exact bodyPost_ret (v:=.tuple #[.slice none 0 0,.int .i64 ee]) (by simp [results,Tryz.results57,go_sem]) rfl ⟨_,rfl,ownZ_nil _ _,hA2⟩
 have e1:ee=bothE (-1) zb za:=by rw [← HE.out]; unfold betE; rw [HFb0.out,HFa.out,h0,HZb.out,HZa.out,if_neg (by simp),if_neg (by simp)]
 have e2:ez=bothZ (-1) zb za:=by rw [← HZ.out]; unfold betZ; rw [HFb0.out,HFa.out,h0,HZb.out,HZa.out,if_neg (by simp)]
 have con:=sub_at a1 a2 c1 c2 zb za w2 zs1 zs2 n1
 rw [← e1,← e2] at con
 clear HE HZ HFb0 HZb HFa HZa O2 e1 e2
 subst h0
 go_wp2_with fail
 refine con.mono ?_
 rintro e w3 ⟨v3,rfl,O3,hb3⟩
 clear con
 have O3':=O3.mono hA2.size
 go_wp2_with fail
 exact bodyPost_ret (v:=.tuple #[v3,.int .i64 ee]) (by simp [results,Tryz.results57,go_sem]) rfl ⟨_,rfl,O3',chain hA2 hb3⟩

theorem egOf:∀ args w,(callFunc 58 args).run Tryz.prog w = .ok (.enter 58 args) w:=enters_of Tryz.func58 (by kernel_rfl) rfl

set_option maxRecDepth 100000 in
set_option maxHeartbeats 8000000 in
theorem ofD_at (ts:List (List Int)) (p:Pl) (q:Pw) (data more:List (List Zp)) (ta:Option Addr) (tc:Nat) (da:Option Addr) (dc:Nat) (ma:Option Addr) (mc:Nat) (w:World) (hT:TbAt w.heap.size w ta ts) (hp:PlB w.heap.size w p q) (hk:PlOk p) (hD:DtAt w da data) (hM:DtAt w ma more) :
  Calls Tryz.prog 30 #[.slice ta ts.length tc,plV p q,.slice da data.length dc,.slice ma more.length mc] w fun e w'=>∃ v,e = .returned (.tuple #[v,.int .i64 (ofDE ts p data more)])∧OwnZ w.heap.size w' v (ofDZ ts p data more)∧Below w.heap.size w w':=by
 have hA:Below w.heap.size w ((w.alloc (.cells #[.slice ta ts.length tc] 22)).alloc (.cells #[.int .i64 p.k,.int .i64 p.n,.int .i64 p.x.k,.int .i64 p.x.v.1,.int .i64 p.x.v.2.1,.string p.x.v.2.2,.int .i64 p.x.c,.slice q.xa p.x.ks.length q.xc,.slice q.sa p.xs.length q.sc,.slice q.ga p.gs.length q.gc,.slice q.ka p.ks.length q.kc] 31)):=((Below.refl _ _).alloc (Nat.le_refl _) _).alloc (by simp) _
 have zA:(w.alloc (.cells #[.slice ta ts.length tc] 22)).heap.size=w.heap.size+1:=by simp
 have EL:=Elv.new (w.alloc (.cells #[.slice ta ts.length tc] 22)) p q 31
 rw [zA] at EL
 have cB:((w.alloc (.cells #[.slice ta ts.length tc] 22)).alloc (.cells #[.int .i64 p.k,.int .i64 p.n,.int .i64 p.x.k,.int .i64 p.x.v.1,.int .i64 p.x.v.2.1,.string p.x.v.2.2,.int .i64 p.x.c,.slice q.xa p.x.ks.length q.xc,.slice q.sa p.xs.length q.sc,.slice q.ga p.gs.length q.gc,.slice q.ka p.ks.length q.kc] 31)).cell? ⟨w.heap.size,0,none⟩=some (.slice ta ts.length tc):=by simp
 generalize hee:ofDE ts p data more=ee
 generalize hez:ofDZ ts p data more=ez
 have HE:Hid (ofDE ts p data more=ee):=hee
 have HZ:Hid (ofDZ ts p data more=ez):=hez
 have HK:Hid (PlOk p):=hk
 have con:=wrongD_at ts p q data more ta tc da dc ma mc ((w.alloc (.cells #[.slice ta ts.length tc] 22)).alloc (.cells #[.int .i64 p.k,.int .i64 p.n,.int .i64 p.x.k,.int .i64 p.x.v.1,.int .i64 p.x.v.2.1,.string p.x.v.2.2,.int .i64 p.x.c,.slice q.xa p.x.ks.length q.xc,.slice q.sa p.xs.length q.sc,.slice q.ga p.gs.length q.gc,.slice q.ka p.ks.length q.kc] 31)) ((hT.next hA (Nat.le_refl _)).up hA.size) ((hp.next hA (Nat.le_refl _)).up hA.size) hk (hD.next hA) (hM.next hA)
 generalize hwd:wrongD ts p data more=wd at con
 have HW:Hid (wrongD ts p data more=wd):=hwd
 clear hee hez hk hwd zA
 have HEL:Hid (Elv ((w.alloc (.cells #[.slice ta ts.length tc] 22)).alloc (.cells #[.int .i64 p.k,.int .i64 p.n,.int .i64 p.x.k,.int .i64 p.x.v.1,.int .i64 p.x.v.2.1,.string p.x.v.2.2,.int .i64 p.x.c,.slice q.xa p.x.ks.length q.xc,.slice q.sa p.xs.length q.sc,.slice q.ga p.gs.length q.gc,.slice q.ka p.ks.length q.kc] 31)) (w.heap.size+1) 0 p q):=EL
 obtain ⟨y0,y1,⟨y2,y3,y4,y5,y6,y7⟩,y8,y9,y10⟩:=EL
 simp only [Nat.zero_add] at y1 y2 y3 y4 y5 y6 y7 y8 y9 y10
 unfold plV at con ⊢
 go_enter Tryz.func30,Tryz.ntmps30
 go_upto_region 1 with fail
 generalize (w.alloc (.cells #[.slice ta ts.length tc] 22)).alloc (.cells #[.int .i64 p.k,.int .i64 p.n,.int .i64 p.x.k,.int .i64 p.x.v.1,.int .i64 p.x.v.2.1,.string p.x.v.2.2,.int .i64 p.x.c,.slice q.xa p.x.ks.length q.xc,.slice q.sa p.xs.length q.sc,.slice q.ga p.gs.length q.gc,.slice q.ka p.ks.length q.kc] 31)=wA at *
 go_wp2_with fail
 refine con.mono ?_
 rintro e w1 ⟨rfl,hb1⟩
 clear con y0 y1 y2 y3 y4 y5 y6 y7 y8 y9 y10
 have hA1:=chain hA hb1
 dsimp only
 by_cases h0:wd=0
 rotate_left
 ·have e1:ee=wd:=by rw [← HE.out]; unfold ofDE; rw [HW.out,if_pos h0]
  have e2:ez = []:=by rw [← HZ.out]; unfold ofDZ; rw [HW.out,if_pos (.inl h0)]
  subst e1 e2
  have hb0:(ee != 0)=true:=by simpa using h0
  clear HE HZ HW HEL
  go_wp2_with fail
  exact bodyPost_ret (v:=.tuple #[.slice none 0 0,.int .i64 ee]) (by simp [results,Tryz.results30,go_sem]) rfl ⟨_,rfl,ownZ_nil _ _,hA1⟩
 have HW0:Hid (wrongD ts p data more=0):=by show _=_; rw [HW.out,h0]
 clear HW
 subst h0
 have hlen:data.length≤10000000000000:=by
  have:=wrongD_len HW0.out
  omega
 have con:=applyT_at data more da dc ma mc w1 (hD.next hA1) (hM.next hA1) hlen
 generalize hae:applyE data more=ae at con
 generalize haz:applyZ data more=az at con
 have HAe:Hid (applyE data more=ae):=hae
 have HAz:Hid (applyZ data more=az):=haz
 clear hae haz hlen
 go_wp2_with fail
 refine con.mono ?_
 rintro e w2 ⟨a2,c2,rfl,D2,hb2⟩
 clear con
 have hA2:=chain hA1 hb2
 have hW2:=chain hb1 hb2
 dsimp only
 by_cases h0:ae=0
 rotate_left
 ·have e1:ee=ae:=by rw [← HE.out]; unfold ofDE; rw [HW0.out,HAe.out,if_neg (by simp),if_pos h0]
  have e2:ez = []:=by rw [← HZ.out]; unfold ofDZ; rw [HAe.out,if_pos (.inr (.inl h0))]
  subst e1 e2
  have hb0:(ee != 0)=true:=by simpa using h0
  clear HE HZ HW0 HEL HAe HAz D2
  go_wp2_with fail
  exact bodyPost_ret (v:=.tuple #[.slice none 0 0,.int .i64 ee]) (by simp [results,Tryz.results30,go_sem]) rfl ⟨_,rfl,ownZ_nil _ _,hA2⟩
 have e1:betE (fun data=>evE ts data p) (fun data=>evZ ts data p) data az=ee:=by rw [← HE.out]; unfold ofDE betE; rw [HW0.out,HAe.out,HAz.out,h0]; simp only [ne_eq,not_true_eq_false,if_false]
 have e2:betZ (fun data=>evE ts data p) (fun data=>evZ ts data p) data az=ez:=by rw [← HZ.out]; unfold ofDZ betZ; rw [HW0.out,HAe.out,HAz.out,h0]; simp only [ne_eq,not_true_eq_false,false_or]
 have lA:w.heap.size<wA.heap.size:=World.block_lt_of_cell? _ _ cB
 have hm:=of1_at ts p q ta tc w.heap.size (w.heap.size+1) w2 ((hW2.cell (p:=⟨w.heap.size,0,none⟩) lA).trans cB) (HEL.out.next hW2 (World.block_lt_of_cell? _ _ HEL.out.c0)) ((hT.next hA2 (Nat.le_refl _)).up hA2.size) ((hp.next hA2 (Nat.le_refl _)).up hA2.size) HK.out
 have con:=between_at _ _ _ _ data az da dc a2 c2 w2 egOf hm (hD.next hA2) D2
 rw [e1,e2] at con
 clear e1 e2 hm HE HZ HW0 HAe HAz HEL cB
 subst h0
 go_wp2_with fail
 refine con.mono ?_
 rintro e w3 ⟨v3,rfl,O3,hb3⟩
 clear con
 have O3':=O3.mono hA2.size
 go_wp2_with fail
 exact bodyPost_ret (v:=.tuple #[v3,.int .i64 ee]) (by simp [results,Tryz.results30,go_sem]) rfl ⟨_,rfl,O3',chain hA2 hb3⟩
end Go.Proofs.YtoefpglknaiaeaaGreat
/- Small tables, plainly. -/
namespace Go.Proofs.YtoefpglknaiaeaaGreat
open Go.RowKit Go.Lib Go.Shelf

theorem both_nil (t:Int) {z:List Zp} (h:wrongZ z=0) (hs:IsSet z):bothE t z []=0∧bothZ t z []=z:=both_of h wrong_nil hs h fun k=>by simp [wt]
theorem nil_both {z:List Zp} (h:wrongZ z=0) (hs:IsSet z):bothE 1 [] z=0∧bothZ 1 [] z=z:=both_of wrong_nil h hs h fun k=>by simp [wt]
theorem data_nil1:dataE [[3]] [[]]=0:=data_nils (ts:=[[3]]) tabs_one
theorem ev_add0:evE [[3]] [[]] addP=0∧evZ [[3]] [[]] addP = []:=by
 obtain ⟨e1,e2⟩:=evE_own (p:=addP) look_add data_nil1
 have g:=gather_right wrong_nil set_nil
 have b:=both_nil 1 wrong_nil set_nil
 have e:evalQ [[3]] [[]] addP=(0,[]):=by
  simp [addP,onP,tabP,evalQ,evalsQ,nodeZ,colsPs,g.1,g.2,b.1,b.2]
 rw [e1,e2,e]
 exact ⟨rfl,rfl⟩
theorem apply_one:applyE [[]] [zB 2]=0∧applyZ [[]] [zB 2] = [zB 2]:=by
 have b:=nil_both (wrong_zB (n:=2) (by decide) (by decide)) (set_zB (by decide))
 have e:applyE [[]] [zB 2]=0:=by simp [applyE,applE,b.1]
 exact ⟨e,by unfold applyZ; rw [if_pos e]; simp [applL,b.2]⟩
end Go.Proofs.YtoefpglknaiaeaaGreat
/- The walk of tidelaw6.alive. -/
namespace Go.Proofs.YtoefpglknaiaeaaGreat
open Go.RowKit Go.Lib Go.Shelf

theorem of_add:ofDE [[3]] addP [[]] [zB 2]=0∧ofDZ [[3]] addP [[]] [zB 2]=zB 4:=by
 have w0:wrongD [[3]] addP [[]] [zB 2]=0:=by unfold wrongD; rw [look_add,data_nil1,data_one (by decide) (by decide)]; simp
 have b:=both_nil (-1) (wrong_zB (n:=4) (by decide) (by decide)) (set_zB (by decide))
 refine ⟨?_,?_⟩
 ·unfold ofDE
  rw [w0,apply_one.1,apply_one.2,ev_add.1,ev_add0.1,ev_add.2,ev_add0.2,b.1]
  simp
 ·unfold ofDZ
  rw [w0,apply_one.1,apply_one.2,ev_add.1,ev_add0.1,ev_add.2,ev_add0.2,b.2]
  simp

set_option maxRecDepth 100000 in
set_option maxHeartbeats 8000000 in
theorem alive6_at (w:World) :
  Calls Tryz.prog 33 #[] w fun e w'=>e = .returned (.bool true)∧Below w.heap.size w w':=by
 have hA:Below w.heap.size w w:=Below.refl _ _
 go_enter Tryz.func33,Tryz.ntmps33
 go_upto_region 3 with fail
 have hb:Below w.heap.size w (w.alloc (.cells #[.int .i64 3,.int .i64 7,.string ⟨#[]⟩] 24)):=(Below.refl _ _).alloc (Nat.le_refl _) _
 have s1:SlAt (w.alloc (.cells #[.int .i64 3,.int .i64 7,.string ⟨#[]⟩] 24)) (some ⟨w.heap.size,0,none⟩) [(3,7,⟨#[]⟩)]:=sl_one w (3,7,⟨#[]⟩)
 replace hA:=chain hA hb
 have zz:(w.alloc (.cells #[.int .i64 3,.int .i64 7,.string ⟨#[]⟩] 24)).heap.size=w.heap.size+1:=by simp
 generalize w.alloc (.cells #[.int .i64 3,.int .i64 7,.string ⟨#[]⟩] 24)=w1 at *
 have zprev:w1.heap.size=w.heap.size+1:=zz
 clear zz hb
 have hb:Below w1.heap.size w1 (w1.alloc (.cells #[.slice (some ⟨w.heap.size,0,none⟩) 1 1,.int .i64 2] 47)):=(Below.refl _ _).alloc (Nat.le_refl _) _
 have zs:ZsAt (w1.alloc (.cells #[.slice (some ⟨w.heap.size,0,none⟩) 1 1,.int .i64 2] 47)) (some ⟨w1.heap.size,0,none⟩) (zB 2):=zs_one (cap:=1) s1 2
 replace s1:=s1.next hb
 replace hA:=chain hA hb
 have zz:(w1.alloc (.cells #[.slice (some ⟨w.heap.size,0,none⟩) 1 1,.int .i64 2] 47)).heap.size=w1.heap.size+1:=by simp
 generalize w1.alloc (.cells #[.slice (some ⟨w.heap.size,0,none⟩) 1 1,.int .i64 2] 47)=w2 at *
 rw [zprev] at zs
 replace zprev:w2.heap.size=w.heap.size+1+1:=by omega
 clear zz hb
 have hb:Below w2.heap.size w2 (w2.alloc (.cells #[.int .i64 1,.int .i64 0,.int .i64 0,.int .i64 0,.int .i64 0,.string ⟨#[]⟩,.int .i64 0,.slice none 0 0,.slice none 0 0,.slice none 0 0,.slice none 0 0] 31)):=(Below.refl _ _).alloc (Nat.le_refl _) _
 have EL:ElX (w2.alloc (.cells #[.int .i64 1,.int .i64 0,.int .i64 0,.int .i64 0,.int .i64 0,.string ⟨#[]⟩,.int .i64 0,.slice none 0 0,.slice none 0 0,.slice none 0 0,.slice none 0 0] 31)) w2.heap.size (tabP 0) pw0:=⟨Elv.new w2 (tabP 0) pw0 31,by simp⟩
 replace s1:=s1.next hb
 replace zs:=zs.next hb
 replace hA:=chain hA hb
 have zz:(w2.alloc (.cells #[.int .i64 1,.int .i64 0,.int .i64 0,.int .i64 0,.int .i64 0,.string ⟨#[]⟩,.int .i64 0,.slice none 0 0,.slice none 0 0,.slice none 0 0,.slice none 0 0] 31)).heap.size=w2.heap.size+1:=by simp
 generalize w2.alloc (.cells #[.int .i64 1,.int .i64 0,.int .i64 0,.int .i64 0,.int .i64 0,.string ⟨#[]⟩,.int .i64 0,.slice none 0 0,.slice none 0 0,.slice none 0 0,.slice none 0 0] 31)=w3 at *
 rw [zprev] at EL
 replace zprev:w3.heap.size=w.heap.size+1+1+1:=by omega
 clear zz hb
 clear zprev
 clear s1
 have hb1:Below w3.heap.size w3 (w3.alloc (.cells #[.int .i64 3] 3)):=(Below.refl _ _).alloc (Nat.le_refl _) _
 have hb2:Below (w3.alloc (.cells #[.int .i64 3] 3)).heap.size (w3.alloc (.cells #[.int .i64 3] 3)) ((w3.alloc (.cells #[.int .i64 3] 3)).alloc (.cells #[.slice (some ⟨w3.heap.size,0,none⟩) 1 1] 33)):=(Below.refl _ _).alloc (Nat.le_refl _) _
 have EL2:=(EL.next hb1).next hb2
 clear hb1 hb2
 obtain ⟨y0,y1,⟨y2,y3,y4,y5,y6,y7⟩,y8,y9,y10⟩:=EL2.el
 clear EL2
 simp only [Nat.zero_add,tabP,pw0,ex0,vl0,Pl.k,Pl.n,Pl.x,Pl.xs,Pl.gs,Pl.ks,Ex.k,Ex.v,Ex.c,Ex.ks,List.length_nil] at y0 y1 y2 y3 y4 y5 y6 y7 y8 y9 y10
 go_wp2_with fail
 clear y0 y1 y2 y3 y4 y5 y6 y7 y8 y9 y10
 have hb:Below w3.heap.size w3 (w3.alloc (.cells #[.int .i64 3] 3)):=(Below.refl _ _).alloc (Nat.le_refl _) _
 have I1:IX (w3.alloc (.cells #[.int .i64 3] 3)) (some ⟨w3.heap.size,0,none⟩) [3]:=IX.one w3 3
 replace zs:=zs.next hb
 replace EL:=EL.next hb
 replace hA:=chain hA hb
 have zz:(w3.alloc (.cells #[.int .i64 3] 3)).heap.size=w3.heap.size+1:=by simp
 generalize w3.alloc (.cells #[.int .i64 3] 3)=w4 at *
 have zprev:w4.heap.size=w3.heap.size+1:=zz
 clear zz hb
 have hb:Below w4.heap.size w4 (w4.alloc (.cells #[.slice (some ⟨w3.heap.size,0,none⟩) 1 1] 33)):=(Below.refl _ _).alloc (Nat.le_refl _) _
 have TX:TbX (w4.alloc (.cells #[.slice (some ⟨w3.heap.size,0,none⟩) 1 1] 33)) (some ⟨w4.heap.size,0,none⟩) [[3]]:=TbX.one 1 I1
 replace zs:=zs.next hb
 replace EL:=EL.next hb
 replace I1:=I1.next hb
 replace hA:=chain hA hb
 have zz:(w4.alloc (.cells #[.slice (some ⟨w3.heap.size,0,none⟩) 1 1] 33)).heap.size=w4.heap.size+1:=by simp
 generalize w4.alloc (.cells #[.slice (some ⟨w3.heap.size,0,none⟩) 1 1] 33)=w5 at *
 rw [zprev] at TX
 replace zprev:w5.heap.size=w3.heap.size+1+1:=by omega
 clear zz hb
 have hb:Below w5.heap.size w5 (w5.alloc (.cells #[.int .i64 1,.int .i64 0,.int .i64 0,.int .i64 0,.int .i64 0,.string ⟨#[]⟩,.int .i64 0,.slice none 0 0,.slice none 0 0,.slice none 0 0,.slice none 0 0,.int .i64 1,.int .i64 0,.int .i64 0,.int .i64 0,.int .i64 0,.string ⟨#[]⟩,.int .i64 0,.slice none 0 0,.slice none 0 0,.slice none 0 0,.slice none 0 0] 31)):=(Below.refl _ _).alloc (Nat.le_refl _) _
 have KX:PsX (w5.alloc (.cells #[.int .i64 1,.int .i64 0,.int .i64 0,.int .i64 0,.int .i64 0,.string ⟨#[]⟩,.int .i64 0,.slice none 0 0,.slice none 0 0,.slice none 0 0,.slice none 0 0,.int .i64 1,.int .i64 0,.int .i64 0,.int .i64 0,.int .i64 0,.string ⟨#[]⟩,.int .i64 0,.slice none 0 0,.slice none 0 0,.slice none 0 0,.slice none 0 0] 31)) (some ⟨w5.heap.size,0,none⟩) [tabP 0,tabP 0]:=PsX.two w5 (p:=tabP 0) (p':=tabP 0) (q:=pw0) (q':=pw0) (tabB _ _ 0) (tabB _ _ 0)
 replace zs:=zs.next hb
 replace EL:=EL.next hb
 replace I1:=I1.next hb
 replace TX:=TX.next hb
 replace hA:=chain hA hb
 have zz:(w5.alloc (.cells #[.int .i64 1,.int .i64 0,.int .i64 0,.int .i64 0,.int .i64 0,.string ⟨#[]⟩,.int .i64 0,.slice none 0 0,.slice none 0 0,.slice none 0 0,.slice none 0 0,.int .i64 1,.int .i64 0,.int .i64 0,.int .i64 0,.int .i64 0,.string ⟨#[]⟩,.int .i64 0,.slice none 0 0,.slice none 0 0,.slice none 0 0,.slice none 0 0] 31)).heap.size=w5.heap.size+1:=by simp
 generalize w5.alloc (.cells #[.int .i64 1,.int .i64 0,.int .i64 0,.int .i64 0,.int .i64 0,.string ⟨#[]⟩,.int .i64 0,.slice none 0 0,.slice none 0 0,.slice none 0 0,.slice none 0 0,.int .i64 1,.int .i64 0,.int .i64 0,.int .i64 0,.int .i64 0,.string ⟨#[]⟩,.int .i64 0,.slice none 0 0,.slice none 0 0,.slice none 0 0,.slice none 0 0] 31)=w6 at *
 rw [zprev] at KX
 replace zprev:w6.heap.size=w3.heap.size+1+1+1:=by omega
 clear zz hb
 have hb:Below w6.heap.size w6 (w6.alloc (.cells #[.slice none 0 0] 38)):=(Below.refl _ _).alloc (Nat.le_refl _) _
 have DX:DtAt (w6.alloc (.cells #[.slice none 0 0] 38)) (some ⟨w6.heap.size,0,none⟩) [[]]:=dt_one (z:=[]) (cap:=0) ⟨by simp,.inl rfl⟩ (fun _=>rfl)
 replace zs:=zs.next hb
 replace EL:=EL.next hb
 replace I1:=I1.next hb
 replace TX:=TX.next hb
 replace KX:=KX.next hb
 replace hA:=chain hA hb
 have zz:(w6.alloc (.cells #[.slice none 0 0] 38)).heap.size=w6.heap.size+1:=by simp
 generalize w6.alloc (.cells #[.slice none 0 0] 38)=w7 at *
 rw [zprev] at DX
 replace zprev:w7.heap.size=w3.heap.size+1+1+1+1:=by omega
 clear zz hb
 have hb:Below w7.heap.size w7 (w7.alloc (.cells #[.slice (some ⟨w.heap.size+1,0,none⟩) 1 1] 38)):=(Below.refl _ _).alloc (Nat.le_refl _) _
 have MX:DtAt (w7.alloc (.cells #[.slice (some ⟨w.heap.size+1,0,none⟩) 1 1] 38)) (some ⟨w7.heap.size,0,none⟩) [zB 2]:=dt_one (z:=zB 2) (cap:=1) zs (fun h=>by cases h)
 replace zs:=zs.next hb
 replace EL:=EL.next hb
 replace I1:=I1.next hb
 replace TX:=TX.next hb
 replace KX:=KX.next hb
 replace DX:=DX.next hb
 replace hA:=chain hA hb
 have zz:(w7.alloc (.cells #[.slice (some ⟨w.heap.size+1,0,none⟩) 1 1] 38)).heap.size=w7.heap.size+1:=by simp
 generalize w7.alloc (.cells #[.slice (some ⟨w.heap.size+1,0,none⟩) 1 1] 38)=w8 at *
 rw [zprev] at MX
 replace zprev:w8.heap.size=w3.heap.size+1+1+1+1+1:=by omega
 clear zz hb
 clear zprev
 have con:=ofD_at [[3]] addP (pwK (some ⟨w3.heap.size+1+1,0,none⟩) 2) [[]] [zB 2] (some ⟨w3.heap.size+1,0,none⟩) 1 (some ⟨w3.heap.size+1+1+1,0,none⟩) 1 (some ⟨w3.heap.size+1+1+1+1,0,none⟩) 1 w8 TX (onB 2 KX) (onOk fun p hp=>by simp only [List.mem_cons,List.not_mem_nil,or_false,or_self] at hp; subst hp; exact tabOk (by omega)) DX MX
 rw [of_add.1,of_add.2] at con
 unfold addP at con
 rw [onV] at con
 refine con.mono ?_
 rintro e w9 ⟨v,rfl,O,hb⟩
 clear con TX KX DX MX I1 zs EL
 obtain ⟨a,c,rfl,Z,_⟩:=O.zs2
 replace hA:=chain hA hb
 obtain ⟨b,off,rfl,hlt,x1,_⟩:=Z.elem (k:=0) (by simp [zB])
 simp only [Nat.zero_mul,Nat.add_zero,zB,List.getElem_cons_zero] at x1
 clear Z O
 simp only [zB,List.length_cons,List.length_nil]
 go_wp2_with fail
 go_ret
 exact ⟨rfl,hA⟩
end Go.Proofs.YtoefpglknaiaeaaGreat
/- The walk of tidelaw5.alive. -/
namespace Go.Proofs.YtoefpglknaiaeaaGreat
open Go.RowKit Go.Lib Go.Shelf

set_option maxRecDepth 100000 in
set_option maxHeartbeats 8000000 in
theorem alive5_at (w:World) :
  Calls Tryz.prog 22 #[] w fun e w'=>e = .returned (.bool true)∧Below w.heap.size w w':=by
 have hA:Below w.heap.size w w:=Below.refl _ _
 go_enter Tryz.func22,Tryz.ntmps22
 go_upto_region 2 with fail
 have hb:Below w.heap.size w (w.alloc (.cells #[.int .i64 3,.int .i64 7,.string ⟨#[]⟩] 24)):=(Below.refl _ _).alloc (Nat.le_refl _) _
 have s1:SlAt (w.alloc (.cells #[.int .i64 3,.int .i64 7,.string ⟨#[]⟩] 24)) (some ⟨w.heap.size,0,none⟩) [(3,7,⟨#[]⟩)]:=sl_one w (3,7,⟨#[]⟩)
 replace hA:=chain hA hb
 have zz:(w.alloc (.cells #[.int .i64 3,.int .i64 7,.string ⟨#[]⟩] 24)).heap.size=w.heap.size+1:=by simp
 generalize w.alloc (.cells #[.int .i64 3,.int .i64 7,.string ⟨#[]⟩] 24)=w1 at *
 have zprev:w1.heap.size=w.heap.size+1:=zz
 clear zz hb
 have hb:Below w1.heap.size w1 (w1.alloc (.cells #[.slice (some ⟨w.heap.size,0,none⟩) 1 1,.int .i64 2] 47)):=(Below.refl _ _).alloc (Nat.le_refl _) _
 have zs:ZsAt (w1.alloc (.cells #[.slice (some ⟨w.heap.size,0,none⟩) 1 1,.int .i64 2] 47)) (some ⟨w1.heap.size,0,none⟩) (zB 2):=zs_one (cap:=1) s1 2
 replace s1:=s1.next hb
 replace hA:=chain hA hb
 have zz:(w1.alloc (.cells #[.slice (some ⟨w.heap.size,0,none⟩) 1 1,.int .i64 2] 47)).heap.size=w1.heap.size+1:=by simp
 generalize w1.alloc (.cells #[.slice (some ⟨w.heap.size,0,none⟩) 1 1,.int .i64 2] 47)=w2 at *
 rw [zprev] at zs
 replace zprev:w2.heap.size=w.heap.size+1+1:=by omega
 clear zz hb
 clear zprev
 clear s1
 go_wp2_with fail
 have hb:Below w2.heap.size w2 (w2.alloc (.cells #[.int .i64 3] 3)):=(Below.refl _ _).alloc (Nat.le_refl _) _
 have I1:IX (w2.alloc (.cells #[.int .i64 3] 3)) (some ⟨w2.heap.size,0,none⟩) [3]:=IX.one w2 3
 replace zs:=zs.next hb
 replace hA:=chain hA hb
 have zz:(w2.alloc (.cells #[.int .i64 3] 3)).heap.size=w2.heap.size+1:=by simp
 generalize w2.alloc (.cells #[.int .i64 3] 3)=w3 at *
 have zprev:w3.heap.size=w2.heap.size+1:=zz
 clear zz hb
 have hb:Below w3.heap.size w3 (w3.alloc (.cells #[.slice (some ⟨w2.heap.size,0,none⟩) 1 1] 33)):=(Below.refl _ _).alloc (Nat.le_refl _) _
 have TX:TbX (w3.alloc (.cells #[.slice (some ⟨w2.heap.size,0,none⟩) 1 1] 33)) (some ⟨w3.heap.size,0,none⟩) [[3]]:=TbX.one 1 I1
 replace zs:=zs.next hb
 replace I1:=I1.next hb
 replace hA:=chain hA hb
 have zz:(w3.alloc (.cells #[.slice (some ⟨w2.heap.size,0,none⟩) 1 1] 33)).heap.size=w3.heap.size+1:=by simp
 generalize w3.alloc (.cells #[.slice (some ⟨w2.heap.size,0,none⟩) 1 1] 33)=w4 at *
 rw [zprev] at TX
 replace zprev:w4.heap.size=w2.heap.size+1+1:=by omega
 clear zz hb
 clear zprev
 clear I1
 refine (table_at 0 w4).mono ?_
 rintro e w5 ⟨rfl,hb⟩
 replace zs:=zs.next hb
 replace TX:=TX.next hb
 replace hA:=chain hA hb
 clear hb
 go_wp2_with fail
 refine (table_at 0 w5).mono ?_
 rintro e w6 ⟨rfl,hb⟩
 replace zs:=zs.next hb
 replace TX:=TX.next hb
 replace hA:=chain hA hb
 clear hb
 go_wp2_with fail
 have hb:Below w6.heap.size w6 (w6.alloc (.cells #[.int .i64 1,.int .i64 0,.int .i64 0,.int .i64 0,.int .i64 0,.string ⟨#[]⟩,.int .i64 0,.slice none 0 0,.slice none 0 0,.slice none 0 0,.slice none 0 0,.int .i64 1,.int .i64 0,.int .i64 0,.int .i64 0,.int .i64 0,.string ⟨#[]⟩,.int .i64 0,.slice none 0 0,.slice none 0 0,.slice none 0 0,.slice none 0 0] 31)):=(Below.refl _ _).alloc (Nat.le_refl _) _
 have KX:PsX (w6.alloc (.cells #[.int .i64 1,.int .i64 0,.int .i64 0,.int .i64 0,.int .i64 0,.string ⟨#[]⟩,.int .i64 0,.slice none 0 0,.slice none 0 0,.slice none 0 0,.slice none 0 0,.int .i64 1,.int .i64 0,.int .i64 0,.int .i64 0,.int .i64 0,.string ⟨#[]⟩,.int .i64 0,.slice none 0 0,.slice none 0 0,.slice none 0 0,.slice none 0 0] 31)) (some ⟨w6.heap.size,0,none⟩) [tabP 0,tabP 0]:=PsX.two w6 (p:=tabP 0) (p':=tabP 0) (q:=pw0) (q':=pw0) (tabB _ _ 0) (tabB _ _ 0)
 replace zs:=zs.next hb
 replace TX:=TX.next hb
 replace hA:=chain hA hb
 have zz:(w6.alloc (.cells #[.int .i64 1,.int .i64 0,.int .i64 0,.int .i64 0,.int .i64 0,.string ⟨#[]⟩,.int .i64 0,.slice none 0 0,.slice none 0 0,.slice none 0 0,.slice none 0 0,.int .i64 1,.int .i64 0,.int .i64 0,.int .i64 0,.int .i64 0,.string ⟨#[]⟩,.int .i64 0,.slice none 0 0,.slice none 0 0,.slice none 0 0,.slice none 0 0] 31)).heap.size=w6.heap.size+1:=by simp
 generalize w6.alloc (.cells #[.int .i64 1,.int .i64 0,.int .i64 0,.int .i64 0,.int .i64 0,.string ⟨#[]⟩,.int .i64 0,.slice none 0 0,.slice none 0 0,.slice none 0 0,.slice none 0 0,.int .i64 1,.int .i64 0,.int .i64 0,.int .i64 0,.int .i64 0,.string ⟨#[]⟩,.int .i64 0,.slice none 0 0,.slice none 0 0,.slice none 0 0,.slice none 0 0] 31)=w7 at *
 have zprev:w7.heap.size=w6.heap.size+1:=zz
 clear zz hb
 clear zprev
 refine (on_at 8 (some ⟨w6.heap.size,0,none⟩) 2 2 w7).mono ?_
 rintro e w8 ⟨rfl,hb⟩
 replace zs:=zs.next hb
 replace TX:=TX.next hb
 replace KX:=KX.next hb
 replace hA:=chain hA hb
 clear hb
 go_wp2_with fail
 have hb:Below w8.heap.size w8 (w8.alloc (.cells #[.slice (some ⟨w.heap.size+1,0,none⟩) 1 1] 38)):=(Below.refl _ _).alloc (Nat.le_refl _) _
 have DX:DtAt (w8.alloc (.cells #[.slice (some ⟨w.heap.size+1,0,none⟩) 1 1] 38)) (some ⟨w8.heap.size,0,none⟩) [zB 2]:=dt_one (z:=zB 2) (cap:=1) zs (fun h=>by cases h)
 replace zs:=zs.next hb
 replace TX:=TX.next hb
 replace KX:=KX.next hb
 replace hA:=chain hA hb
 have zz:(w8.alloc (.cells #[.slice (some ⟨w.heap.size+1,0,none⟩) 1 1] 38)).heap.size=w8.heap.size+1:=by simp
 generalize w8.alloc (.cells #[.slice (some ⟨w.heap.size+1,0,none⟩) 1 1] 38)=w9 at *
 have zprev:w9.heap.size=w8.heap.size+1:=zz
 clear zz hb
 clear zprev
 have con:=evalT_at [[3]] [zB 2] addP (pwK (some ⟨w6.heap.size,0,none⟩) 2) (some ⟨w2.heap.size+1,0,none⟩) 1 (some ⟨w8.heap.size,0,none⟩) 1 w9 TX DX (onB 2 KX) (onOk fun p hp=>by simp only [List.mem_cons,List.not_mem_nil,or_false,or_self] at hp; subst hp; exact tabOk (by omega))
 rw [ev_add.1,ev_add.2] at con
 unfold addP at con
 rw [onV] at con
 refine con.mono ?_
 rintro e w10 ⟨v,rfl,O,hb⟩
 clear con TX KX DX zs
 obtain ⟨a,c,rfl,Z,_⟩:=O.zs2
 replace hA:=chain hA hb
 obtain ⟨b,off,rfl,hlt,x1,_⟩:=Z.elem (k:=0) (by simp [zB])
 simp only [Nat.zero_mul,Nat.add_zero,zB,List.getElem_cons_zero] at x1
 clear Z O
 simp only [zB,List.length_cons,List.length_nil]
 go_wp2_with fail
 go_ret
 exact ⟨rfl,hA⟩
end Go.Proofs.YtoefpglknaiaeaaGreat
/- Opening arguments: numbers, values, expressions. -/
namespace Go.Proofs.YtoefpglknaiaeaaGreat
open Go.ChangeShapes Go.WideShapes Go.ChangeAt Go.RowKit Go.Joins

set_option maxRecDepth 100000 in
theorem addr_addX (b off i:Nat):(⟨b,off,none⟩:Addr).add i=⟨b,off+i,none⟩:=by
 unfold Addr.add
 by_cases h:i=0 <;> simp [h]
theorem q3:Tryz.prog.cellsOf 3=1:=by kernel_rfl
theorem q2:Tryz.prog.cellsOf 2=1:=by kernel_rfl
theorem q9:Tryz.prog.cellsOf 9=1:=by kernel_rfl
theorem q24:Tryz.prog.cellsOf 24=3:=by kernel_rfl
theorem q25:Tryz.prog.cellsOf 25=1:=by kernel_rfl
theorem q27:Tryz.prog.cellsOf 27=6:=by kernel_rfl
set_option maxRecDepth 100000 in
theorem open_valT {H:Type} {enc:TypeId × Value→H} {W:World} {base:Nat} {sp:Nat→Bool} {hd:Bool} {fuel:Nat} {cs:List Value} {x:DataW H × List MemPlace}
  (h:DataW.trod enc Tryz.prog W base sp hd fuel 24 cs=some x):∃ v:Vl,cs = [.int .i64 v.1,.int .i64 v.2.1,.string v.2.2]:=by
 obtain ⟨y0,y1,y2,m,_,hlen,h0,h1,h2⟩:=Go.Deep.trod_struct3 Tryz.underlying24 h
 rw [q24] at hlen
 match cs,hlen with
 | [c0,c1,c2],_ =>
  simp only [q3,q2,q9] at h0 h1 h2
  obtain ⟨k,e0,_,_⟩:=DataW.trod_int Tryz.underlying3 h0
  obtain ⟨n,e1,_,_⟩:=DataW.trod_int Tryz.underlying2 h1
  obtain ⟨s,e2,_,_⟩:=DataW.trod_string Tryz.underlying9 h2
  simp at e0 e1 e2
  subst e0 e1 e2
  exact ⟨(k,n,s),rfl⟩
instance:Inhabited Ex:=⟨.mk 0 (0,0,⟨#[]⟩) 0 []⟩
/-- The kids' opening, at less fuel. -/
def KidsOpen {H:Type} (enc:TypeId × Value→H) (W:World) (hd:Bool) (m:Nat):Prop :=
 ∀ cs x,DataW.trod enc Tryz.prog W 0 (fun _=>true) hd m 25 cs=some x→∃ (a:Option Addr) (cap:Nat) (l:List Ex),cs = [.slice a l.length cap]∧KsAt W.heap.size W a l
set_option maxRecDepth 100000 in
theorem open_exprT {H:Type} {enc:TypeId × Value→H} {W:World} {hd:Bool} {fuel:Nat} (ih:∀ m,m<fuel→KidsOpen enc W hd m) {cs:List Value} {x:DataW H × List MemPlace}
  (h:DataW.trod enc Tryz.prog W 0 (fun _=>true) hd fuel 27 cs=some x) :
  ∃ (e:Ex) (a:Option Addr) (cap:Nat),cs = [.int .i64 e.k,.int .i64 e.v.1,.int .i64 e.v.2.1,.string e.v.2.2,.int .i64 e.c,.slice a e.ks.length cap]∧KsAt W.heap.size W a e.ks:=by
 obtain ⟨xs,n,hn,_,hl,hlen,hf⟩:=DataW.trod_struct Tryz.underlying27 h
 rw [q27] at hl
 match xs,hlen with
 | [y0,y1,y2,y3],_ =>
  have h0:=hf 0 _ rfl
  have h1:=hf 1 _ rfl
  have h2:=hf 2 _ rfl
  have h3:=hf 3 _ rfl
  match cs,hl with
  | [c0,c1,c2,c3,c4,c5],_ =>
   simp [q3,q24,q25] at h0 h1 h2 h3
   obtain ⟨k,e0,_,_⟩:=DataW.trod_int Tryz.underlying3 h0
   obtain ⟨v,e1⟩:=open_valT h1
   obtain ⟨c,e2,_,_⟩:=DataW.trod_int Tryz.underlying3 h2
   obtain ⟨a,cap,l,e3,hk⟩:=ih n (by omega) _ _ h3
   simp at e0 e1 e2 e3
   obtain ⟨r1,r2,r3⟩:=e1
   subst e0 r1 r2 r3 e2 e3
   exact ⟨.mk k v c l,a,cap,rfl,hk⟩
set_option maxRecDepth 100000 in
theorem kidsOpen {H:Type} (enc:TypeId × Value→H) (W:World) (hd:Bool) (fuel:Nat):KidsOpen enc W hd fuel:=by
 induction fuel using Nat.strongRecOn with
 | ind fuel ih =>
  intro cs x h
  rcases DataW.trod_slice Tryz.underlying25 h with ⟨hcs,_⟩ | ⟨a,len,cap,elems,rest,n,hn,hcs,_,_,_,_,hlen,hel,_,_⟩
  ·exact ⟨none,0,[],hcs,.nil _⟩
  ·rw [q27] at hel
   obtain ⟨f,hf⟩:=Go.Deep.choose_lt (α:=Ex × Option Addr × Nat) (n:=len) (p:=fun i (y:Ex × Option Addr × Nat) =>
     (W.cell? ((a.add (i*6)).add 0)=some (.int .i64 y.1.k)∧W.cell? ((a.add (i*6)).add 1)=some (.int .i64 y.1.v.1)∧W.cell? ((a.add (i*6)).add 2)=some (.int .i64 y.1.v.2.1)∧W.cell? ((a.add (i*6)).add 3)=some (.string y.1.v.2.2) ∧
      W.cell? ((a.add (i*6)).add 4)=some (.int .i64 y.1.c)∧W.cell? ((a.add (i*6)).add 5)=some (.slice y.2.1 y.1.ks.length y.2.2))∧KsAt W.heap.size W y.2.1 y.1.ks) (fun i hi=>by
    have key:=hel i hi
    rw [List.getElem?_eq_getElem (by omega)] at key
    obtain ⟨cs',h1,h2⟩:=Option.bind_eq_some_iff.1 key
    obtain ⟨_,hl6,hcell⟩:=World.cells?_some h1
    obtain ⟨e,ai,ci,rfl,hk⟩:=open_exprT (fun m hm=>ih m (by omega)) h2
    exact ⟨(e,ai,ci),⟨hcell 0 (by simp),hcell 1 (by simp),hcell 2 (by simp),hcell 3 (by simp),hcell 4 (by simp),hcell 5 (by simp)⟩,hk⟩)
   refine ⟨some a,cap,(List.range len).map fun i=>(f i).1,by simpa using hcs,?_⟩
   by_cases h0:len=0
   ·subst h0; exact .nil _
   ·obtain ⟨b,off,spot⟩:=a
    have hc:=(hf 0 (by omega)).1.1
    have hspot:spot=none:=by simpa [Addr.add] using World.cell?_spot hc
    subst hspot
    refine .some b off _ (fun i=>(f i).2.1) (fun i=>(f i).2.2) (World.block_lt_of_cell? W _ (by simpa [Addr.add] using hc)) (fun i hi=>?_) (fun i hi=>?_)
    ·have hi':i<len:=by simpa using hi
     have:=(hf i hi').1
     simp only [addr_addX] at this
     simp only [List.getElem_map,List.getElem_range]
     exact ⟨this.1,this.2.1,this.2.2.1,this.2.2.2.1,this.2.2.2.2.1,this.2.2.2.2.2⟩
    ·have hi':i<len:=by simpa using hi
     simp only [List.getElem_map,List.getElem_range]
     exact (hf i hi').2
end Go.Proofs.YtoefpglknaiaeaaGreat
