/- Together: NJ, E3, E4, E5, E6, E6b, E7, E8, FX. -/
import Derived.Shelf.Abstract
import Derived.Test.YtohjlfhmnmcndaaGreatD13
import Derived.Test.YtohjlfhmnmcndaaGreatD12
import Derived.Test.YtohjlfhmnmcndaaGreatD8
/- query's Cols. -/
namespace Go.Proofs.YtohjlfhmnmcndaaGreat
open Go.RowKit Go.Lib Go.Shelf

theorem eql_nil {P:Program} (w:World) (t e:TypeId) (a:Option Addr) (l c:Nat) (h:P.underlying t=some (.slice e)):(binOp .eql t (.slice a l c) (.slice none 0 0)).run P w = .ok (.bool a.isNone) w:=by
 simp only [binOp];simp [run_equal_slice_nil w t e a l c h]
set_option maxRecDepth 100000 in
set_option maxHeartbeats 4000000 in
theorem cloneI_at (a:Option Addr) (cap:Nat) (l:List Int) (w:World) (h:IsAt w.heap.size w a l) (hl:l.length≤1000) :
  Calls Tryz.prog 39 #[.slice a l.length cap] w fun e w'=>∃ a' c,e = .returned (.slice a' l.length c)∧IsAt w'.heap.size w' a' l∧Below w.heap.size w w':=by
 obtain ⟨i0,hi,hj0,hj1,hj2⟩:=info_parts infoI;have R:=raw_ints h;cases a with
 | none =>
  have e:l = []:=List.eq_nil_of_length_eq_zero (R.nil rfl);subst e;have heq:=eql_nil (P:=Tryz.prog) w 45 3 none 0 cap Tryz.underlying45;go_enter Tryz.func39,Tryz.ntmps39;go_wp2
  go_ret;exact ⟨none,0,rfl,⟨by simp,.inl rfl⟩,Below.refl _ _⟩
 | some ad =>
  have hal:Below w.heap.size w (w.alloc (.cells #[] 3)):=(Below.refl _ _).alloc (Nat.le_refl _) _;have R1:=R.next hal;have ho:(w.alloc (.cells #[] 3)).ownsRow w.heap.size 3 1 (.slice (some ⟨w.heap.size,0,none⟩) 0 0) 0 []:=World.ownsRow_made w #[] 0 (Nat.le_refl _) (by decide) rfl;have heq:=eql_nil (P:=Tryz.prog) w 45 3 (some ad) l.length cap Tryz.underlying45;go_enter Tryz.func39,Tryz.ntmps39;go_upto_region 3 with fail
  go_wp2_with (at_builtin; refine wpList_append_raw rfl _ _ 45 rfl w.heap.size 3 i0 _ 1 8 Tryz.underlying45 hi hj0 hj1 hj2 rfl (by decide) _ _ _ rfl ho _ _ _ _ rfl R1 (by unfold maxLen; omega) (by omega) (by simp) ?_)
  intro v' w5 ho5 hg5;have hb5:Below w.heap.size w w5:=hal.grown hg5 (by simp) (fun q hq=>(ho.lt q hq).1);obtain ⟨a5,c5,rfl,it⟩:=own_intsT (B:=0) (lo:=0) ho5 rfl (Nat.zero_le _);go_wp2
  go_ret;exact ⟨a5,c5,rfl,it.at,hb5⟩
/-- The columns that Cols tells. -/
def colsT (ts:List (List Int)) (p:Pl):List Int:=if lookE ts p=0 then colsP ts p else []

set_option maxRecDepth 100000 in
set_option maxHeartbeats 16000000 in
theorem colsQ_at (ts:List (List Int)) (p:Pl) (q:Pw) (ta:Option Addr) (tc:Nat) (w:World) (hT:TbAt w.heap.size w ta ts) (hp:PlB w.heap.size w p q) (hk:PlOk p) :
  Calls Tryz.prog 15 #[.slice ta ts.length tc,plV p q] w fun e w'=>∃ a c,e = .returned (.tuple #[.slice a (colsT ts p).length c,.int .i64 (lookE ts p)])∧IsAt w'.heap.size w' a (colsT ts p)∧Below w.heap.size w w':=by
 have hA:Below w.heap.size w (w.alloc (.cells (pvA p q) 31)):=(Below.refl _ _).alloc (Nat.le_refl _) _;have EL:=Elv.new w p q 31;have con:=looked_at ts p q ta tc (w.alloc (.cells (pvA p q) 31)) ((hT.next hA (Nat.le_refl _)).up hA.size) ((hp.next hA (Nat.le_refl _)).up hA.size) hk;have h8:Hid (lookE ts p=0→(colsP ts p).length≤8):=fun h=>cols8 (lookE_ok h).1 p 0 1 (lookE_ok h).2
 generalize hez:colsT ts p=ez;have HZ:Hid (colsT ts p=ez):=hez;generalize hle:lookE ts p=le at con;have HLe:Hid (lookE ts p=le):=hle;clear hk hez hle;obtain ⟨y0,y1,⟨y2,y3,y4,y5,y6,y7⟩,y8,y9,y10⟩:=EL;simp only [Nat.zero_add] at y1 y2 y3 y4 y5 y6 y7 y8 y9 y10;unfold plV at con ⊢;go_enter Tryz.func15,Tryz.ntmps15;go_upto_region 1 with fail
 generalize w.alloc (.cells (pvA p q) 31)=wA at *;go_wp2_with fail
 refine con.mono ?_;rintro e w1 ⟨⟨v1,rfl,hv0,hv1⟩,hb1⟩;clear con y0 y1 y2 y3 y4 y5 y6 y7 y8 y9 y10;have hA1:=chain hA hb1;by_cases he:le=0;rotate_left
 ·have e0:=hv1 he;have e2:ez = []:=by rw [← HZ.out]; unfold colsT; rw [HLe.out,if_neg he]
  subst e0 e2;have hal:Below w1.heap.size w1 (w1.alloc (.cells #[.int .i64 0,.int .i64 0,.int .i64 0,.int .i64 0,.int .i64 0,.string ⟨#[]⟩,.int .i64 0,.slice none 0 0,.slice none 0 0,.slice none 0 0,.slice none 0 0,.slice none 0 0,.slice none 0 0] 73)):=(Below.refl _ _).alloc (Nat.le_refl _) _;have hA2:=chain hA1 hal;have heb:(le != 0)=true:=by simpa using he
  clear hv0 hv1 HZ HLe h8;unfold nd0;go_upto_region 2 with fail
  generalize w1.alloc (.cells #[.int .i64 0,.int .i64 0,.int .i64 0,.int .i64 0,.int .i64 0,.string ⟨#[]⟩,.int .i64 0,.slice none 0 0,.slice none 0 0,.slice none 0 0,.slice none 0 0,.slice none 0 0,.slice none 0 0] 73)=w2 at *;go_wp2_with fail
  exact bodyPost_ret (v:=.tuple #[.slice none 0 0,.int .i64 le]) (by simp [results,Tryz.results15,go_sem]) rfl ⟨none,0,rfl,⟨by simp,.inl rfl⟩,hA2⟩
 obtain ⟨ca,cc,na,nc,e0,ND⟩:=hv0 he;have e2:Hid (colsP ts p=ez):=by show _=_; rw [← HZ.out]; unfold colsT; rw [HLe.out,if_pos he]
 have g8:(colsP ts p).length≤8:=h8.out (by rw [HLe.out,he]);subst e0;clear hv0 hv1 HLe h8 HZ;subst he;have IC:=ND.cols.at;have hal:Below w1.heap.size w1 (w1.alloc (.cells (ndX p q ca (colsP ts p).length cc na p.ks.length nc) 73)):=(Below.refl _ _).alloc (Nat.le_refl _) _;have hA2:=chain hA1 hal;have z11:=cell_of (i:=11) (heap_new w1 (ndX p q ca (colsP ts p).length cc na p.ks.length nc) 73) rfl;have IC2:=(IC.next hal (Nat.le_refl _)).up hal.size;clear ND IC;unfold ndV;go_upto_region 2 with fail
 generalize w1.alloc (.cells (ndX p q ca (colsP ts p).length cc na p.ks.length nc) 73)=w2 at *;rw [e2.out] at z11 IC2 g8;have con:=cloneI_at ca cc ez w2 IC2 (by omega);go_wp2_with fail
 refine con.mono ?_;rintro e w3 ⟨a3,c3,rfl,I3,hb3⟩;clear con z11;go_wp2_with fail
 exact bodyPost_ret (v:=.tuple #[.slice a3 ez.length c3,.int .i64 0]) (by simp [results,Tryz.results15,go_sem]) rfl ⟨a3,c3,rfl,I3,chain hA2 hb3⟩

/-- A plan's cells. -/
abbrev plA (p:Pl) (q:Pw):Array Value:=#[.int .i64 p.k,.int .i64 p.n,.int .i64 p.x.k,.int .i64 p.x.v.1,.int .i64 p.x.v.2.1,.string p.x.v.2.2,.int .i64 p.x.c,.slice q.xa p.x.ks.length q.xc,.slice q.sa p.xs.length q.sc,.slice q.ga p.gs.length q.gc,.slice q.ka p.ks.length q.kc]
abbrev plBx (p:Pl) (q:Pw):Obj:=.cells (plA p q) 31
theorem plBx_below (w:World) (p:Pl) (q:Pw):Below w.heap.size w (w.alloc (plBx p q)):=(Below.refl _ _).alloc (Nat.le_refl _) _
theorem plBx_el (w:World) (p:Pl) (q:Pw):ElX (w.alloc (plBx p q)) w.heap.size p q:=⟨Elv.new w p q 31,by simp⟩
/-- Each row once, of what a plan comes to. -/
def dstZ (ts:List (List Int)) (data:List (List Zp)) (p:Pl):List Zp:=setZ oneF (evZ ts data p)
def uniZ (a b:List Zp):List Zp:=setZ oneF (bothZ 1 a b)
theorem dstZ_bad {ts:List (List Int)} {data:List (List Zp)} {p:Pl} (h:¬ evE ts data p=0):dstZ ts data p = []:=by unfold dstZ; rw [ev_none h]; rfl
theorem uniZ_bad {a b:List Zp} (h:¬ bothE 1 a b=0):uniZ a b = []:=by unfold uniZ bothZ; rw [if_neg h]; rfl

set_option maxRecDepth 100000 in
set_option maxHeartbeats 4000000 in
theorem fdist_at (ts:List (List Int)) (data:List (List Zp)) (p:Pl) (q:Pw) (ta:Option Addr) (tc:Nat) (da:Option Addr) (dc:Nat) (w:World) (hT:TbAt w.heap.size w ta ts) (hD:DtAt w da data) (hp:PlB w.heap.size w p q) (hk:PlOk p) :
  Calls Tryz.prog 26 #[.slice ta ts.length tc,plV p q,.slice da data.length dc] w fun e w'=>∃ v,e = .returned (.tuple #[v,.int .i64 (evE ts data p)])∧OwnZ w.heap.size w' v (dstZ ts data p)∧Below w.heap.size w w':=by
 have hA:=plBx_below w p q;have EL:=plBx_el w p q;have con:=evalT_at ts data p q ta tc da dc (w.alloc (plBx p q)) ((hT.next hA (Nat.le_refl _)).up hA.size) (hD.next hA) ((hp.next hA (Nat.le_refl _)).up hA.size) hk;have HZ:Hid (dstZ ts data p=setZ oneF (evZ ts data p)):=rfl;have HB:Hid (¬ evE ts data p=0→dstZ ts data p = []):=dstZ_bad;have HW:Hid (evE ts data p=0→wrongZ (evZ ts data p)=0):=fun h=>(ev_ok h).right
 generalize evE ts data p=ee at *;generalize evZ ts data p=ez at *;generalize dstZ ts data p=dz at *;clear hk hT hD hp;obtain ⟨y0,y1,⟨y2,y3,y4,y5,y6,y7⟩,y8,y9,y10⟩:=EL.el;simp only [Nat.zero_add] at y1 y2 y3 y4 y5 y6 y7 y8 y9 y10;clear EL;unfold plV at con ⊢;go_enter Tryz.func26,Tryz.ntmps26;go_upto_region 1 with fail
 generalize w.alloc (plBx p q)=wA at *;go_wp2_with fail
 refine con.mono ?_;rintro e w1 ⟨v1,rfl,O1,hb1⟩;clear con y0 y1 y2 y3 y4 y5 y6 y7 y8 y9 y10;obtain ⟨a1,c1,rfl,Z1,n1⟩:=O1.zs2;have hA1:=chain hA hb1;by_cases he:ee=0;rotate_left
 ·have e2:=HB.out he;subst e2;have hb0:(ee != 0)=true:=by simpa using he
  clear HZ HB HW O1 Z1;go_wp2_with fail
  exact bodyPost_ret (v:=.tuple #[.slice none 0 0,.int .i64 ee]) (by simp [results,Tryz.results26,go_sem]) rfl ⟨_,rfl,ownZ_nil _ _,hA1⟩
 have con:=distinct_at a1 c1 ez w1 Z1;rw [HW.out he,← HZ.out] at con;subst he;clear HZ HB HW O1 Z1;go_wp2_with fail
 refine con.mono ?_;rintro e w2 ⟨v2,rfl,O2,hb2⟩;clear con;have O2':=O2.mono hA1.size;go_wp2_with fail
 exact bodyPost_ret (v:=.tuple #[v2,.int .i64 0]) (by simp [results,Tryz.results26,go_sem]) rfl ⟨_,rfl,O2',chain hA1 hb2⟩
set_option maxRecDepth 100000 in
set_option maxHeartbeats 4000000 in
theorem united_at (a b:Option Addr) (ca cb:Nat) (l l':List Zp) (w:World) (h:ZsAt w a l) (h':ZsAt w b l') (hn:a=none→ca=0) :
  Calls Tryz.prog 55 #[.slice a l.length ca,.slice b l'.length cb] w fun e w'=>∃ v,e = .returned (.tuple #[v,.int .i64 (bothE 1 l l')])∧OwnZ w.heap.size w' v (uniZ l l')∧Below w.heap.size w w':=by
 have con:=add_at a b ca cb l l' w h h' hn;have HZ:Hid (uniZ l l'=setZ oneF (bothZ 1 l l')):=rfl;have HB:Hid (¬ bothE 1 l l'=0→uniZ l l' = []):=uniZ_bad;have HW:Hid (bothE 1 l l'=0→wrongZ (bothZ 1 l l')=0):=fun h=>(both_inv h).2.2.2.1
 generalize bothE 1 l l'=ee at *;generalize bothZ 1 l l'=ez at *;generalize uniZ l l'=dz at *;clear h h';go_enter Tryz.func55,Tryz.ntmps55;go_wp2_with fail
 refine con.mono ?_;rintro e w1 ⟨v1,rfl,O1,hb1⟩;clear con;obtain ⟨a1,c1,rfl,Z1,n1⟩:=O1.zs2;by_cases he:ee=0;rotate_left
 ·have e2:=HB.out he;subst e2;have hb0:(ee != 0)=true:=by simpa using he
  clear HZ HB HW O1 Z1;go_wp2_with fail
  exact bodyPost_ret (v:=.tuple #[.slice none 0 0,.int .i64 ee]) (by simp [results,Tryz.results55,go_sem]) rfl ⟨_,rfl,ownZ_nil _ _,hb1⟩
 have con:=distinct_at a1 c1 ez w1 Z1;rw [HW.out he,← HZ.out] at con;subst he;clear HZ HB HW O1 Z1;go_wp2_with fail
 refine con.mono ?_;rintro e w2 ⟨v2,rfl,O2,hb2⟩;clear con;have O2':=O2.mono hb1.size;go_wp2_with fail
 exact bodyPost_ret (v:=.tuple #[v2,.int .i64 0]) (by simp [results,Tryz.results55,go_sem]) rfl ⟨_,rfl,O2',chain hb1 hb2⟩
/-- A function value takes something of a set, in whatever world that has grown out of this one. -/
def TakesQ (g:Nat) (cb:Array Value) (fE:List Zp→Int) (fZ:List Zp→List Zp) (w:World):Prop :=
 ∀ (z:List Zp) (za:Option Addr) (zc:Nat) (W:World),ZsAt W za z→(za=none→zc=0)→Below w.heap.size w W→Calls Tryz.prog g (#[.slice za z.length zc] ++ cb) W fun e w'=>∃ v,e = .returned (.tuple #[v,.int .i64 (fE z)])∧OwnZ W.heap.size w' v (fZ z)∧Below W.heap.size W w'

theorem TakesQ.next {g:Nat} {cb:Array Value} {fE:List Zp→Int} {fZ:List Zp→List Zp} {w w1:World} (h:TakesQ g cb fE fZ w) (hb:Below w.heap.size w w1):TakesQ g cb fE fZ w1:=fun z za zc W hz hn hW=>h z za zc W hz hn (chain hb hW)

set_option maxRecDepth 100000 in
set_option maxHeartbeats 4000000 in
theorem taking1_at (wide:List (List Int)) (p:Pl) (q:Pw) (data:List (List Zp)) (ta:Option Addr) (tc:Nat) (da:Option Addr) (dc:Nat) (B1 B2 B3:Nat) (w:World) (hB1:w.cell? ⟨B1,0,none⟩=some (.slice ta wide.length tc)) (hB2:ElX w B2 p q) (hB3:w.cell? ⟨B3,0,none⟩=some (.slice da data.length dc)) (hT:TbX w ta wide) (hp:PlX w p q) (hk:PlOk p) (hD:DtAt w da data) (hl:data.length≤8) :
  TakesQ 53 #[.pointer (some ⟨B1,0,none⟩),.pointer (some ⟨B2,0,none⟩),.pointer (some ⟨B3,0,none⟩)] (fun z=>evE wide (data ++ [z]) p) (fun z=>dstZ wide (data ++ [z]) p) w:=by
 intro z za zc W hz hn hb;have HK:Hid (PlOk p):=hk;have hCC:∀ W W':World,(W.cell? ⟨B1,0,none⟩=some (.slice ta wide.length tc)∧ElX W B2 p q∧W.cell? ⟨B3,0,none⟩=some (.slice da data.length dc))→Below W.heap.size W W'→(W'.cell? ⟨B1,0,none⟩=some (.slice ta wide.length tc)∧ElX W' B2 p q∧W'.cell? ⟨B3,0,none⟩=some (.slice da data.length dc)):=fun W W' h hb=>⟨(hb.cell (p:=⟨B1,0,none⟩) (World.block_lt_of_cell? _ _ h.1)).trans h.1,h.2.1.next hb,(hb.cell (p:=⟨B3,0,none⟩) (World.block_lt_of_cell? _ _ h.2.2)).trans h.2.2⟩
 have C0:=hCC _ _ ⟨hB1,hB2,hB3⟩ hb;have TX:=hT.next hb;have PX:=hp.next hb;have DX:=hD.next hb;have HN:Hid (za=none→zc=0):=hn;dsimp only;generalize hee:evE wide (data ++ [z]) p=ee;generalize hez:dstZ wide (data ++ [z]) p=ez;have HE:Hid (evE wide (data ++ [z]) p=ee):=hee;have HZ:Hid (dstZ wide (data ++ [z]) p=ez):=hez;clear hB1 hB2 hB3 hT hp hk hD hb hee hez hn w;show Calls Tryz.prog 53 #[.slice za z.length zc,.pointer (some ⟨B1,0,none⟩),.pointer (some ⟨B2,0,none⟩),.pointer (some ⟨B3,0,none⟩)] W _;go_enter Tryz.func53,Tryz.ntmps53;go_upto_region 1 with fail
 have hdr:Below W.heap.size W W.drew:=(Below.refl _ _).drew;have CW:=hCC _ _ C0 hdr;clear C0;refine wp_region_cls (fun W=>W.cell? ⟨B1,0,none⟩=some (.slice ta wide.length tc)∧ElX W B2 p q∧W.cell? ⟨B3,0,none⟩=some (.slice da data.length dc)) (by kernel_rfl) ?_;refine wpY_take hCC (some 7) (i:=0) (v:=.slice ta wide.length tc) rfl rfl (by kernel_rfl) (by kernel_rfl) (by kernel_rfl) (fun _ _ _ h=>h) (Or.inl ⟨rfl,fun n hn=>?_⟩) CW ?_
 ·have hc:=hn.1;clear hn CW hCC;go_simp
 simp only [Act.put,pA,pB,pC];refine wpY_take hCC (some 8) (i:=1) (v:=.agg (plA p q)) rfl rfl (by kernel_rfl) (by kernel_rfl) (by kernel_rfl) (fun _ _ _ h=>h) (Or.inl ⟨rfl,fun n hn=>?_⟩) CW ?_
 ·obtain ⟨y0,y1,⟨y2,y3,y4,y5,y6,y7⟩,y8,y9,y10⟩:=hn.2.1.el;simp only [Nat.zero_add] at y1 y2 y3 y4 y5 y6 y7 y8 y9 y10;clear hn CW hCC;go_simp
 simp only [Act.put,pA,pB,pC];refine wpY_take hCC (some 9) (i:=2) (v:=.slice da data.length dc) rfl rfl (by kernel_rfl) (by kernel_rfl) (by kernel_rfl) (fun _ _ _ h=>h) (Or.inl ⟨rfl,fun n hn=>?_⟩) CW ?_
 ·have hc:=hn.2.2;clear hn CW hCC;go_simp
 simp only [Act.put,pA,pB,pC];refine wpY_take hCC (some 10) (i:=3) (v:=.slice za z.length zc) rfl rfl (by kernel_rfl) (by kernel_rfl) (by kernel_rfl) (fun _ _ _ h=>h) (Or.inl ⟨rfl,fun n hn=>?_⟩) CW ?_
 ·clear hn CW hCC;go_simp
 simp only [Act.put,pA,pB,pC];refine wpY_step (rs:=[4]) (by kernel_rfl) (by simp) ?_;intro w4 hb4 jj hj;obtain rfl:jj=4:=by simpa using hj
 clear hj;have D4:=chain hdr hb4;have CW4:=hCC _ _ CW hb4;have hal4:Below w4.heap.size w4 (w4.alloc (.cells #[.slice za z.length zc] 34)):=(Below.refl _ _).alloc (Nat.le_refl _) _;have R4:=raw_one w4 (.slice za z.length zc) rfl 34;have D5:=chain D4 hal4;have CW5:=hCC _ _ CW4 hal4;refine wpOp_step rfl (fun K hK=>?_);go_simp;refine hK _ _ ⟨CW5,?_⟩;clear hK K CW CW4 hal4 hb4 D4;generalize w4.heap.size=g4 at *;generalize w4.alloc (.cells #[.slice za z.length zc] 34)=w5 at *;refine wpY_step (rs:=[5]) (by kernel_rfl) (by simp) ?_;intro w6 hb6 jj hj;obtain rfl:jj=5:=by simpa using hj
 clear hj;have D6:=chain D5 hb6;have CW6:=hCC _ _ CW5 hb6;obtain ⟨f,RD,hf⟩:=(DX.next D6).raw;have PC:=PairC.new dc 1 RD (R4.next hb6) 32;have hal6:Below w6.heap.size w6 (w6.alloc (.cells #[.slice da data.length dc,.slice (some ⟨g4,0,none⟩) 1 1] 32)):=(Below.refl _ _).alloc (Nat.le_refl _) _;have D7:=chain D6 hal6;have CW7:=hCC _ _ CW6 hal6;refine wpOp_step rfl (fun K hK=>?_);go_simp;refine hK _ _ ⟨CW7,?_⟩;clear hK K CW5 CW6 R4 RD hb6
 have HF:Hid (∀ (i:Nat) (hi:i<data.length),∃ ai ci,f i = .slice ai data[i].length ci∧ZsAt (w6.alloc (.cells #[.slice da data.length dc,.slice (some ⟨g4,0,none⟩) 1 1] 32)) ai data[i]∧(ai=none→ci=0)):=fun i hi=>by
  obtain ⟨ai,ci,e,h,k⟩:=hf i hi;exact ⟨ai,ci,e,h.next hal6,k⟩
 clear hf hal6;generalize w6.heap.size=g6 at *;generalize w6.alloc (.cells #[.slice da data.length dc,.slice (some ⟨g4,0,none⟩) 1 1] 32)=w7 at *;refine wpY_step (rs:=[6]) (by kernel_rfl) (by simp) ?_;intro w8 hb8 jj hj;obtain rfl:jj=6:=by simpa using hj
 clear hj;have D8:=chain D7 hb8;have CW8:=hCC _ _ CW7 hb8;have con:=concatD_at g6 _ _ _ _ w8 (PC.next hb8) (by omega);refine wpOp_step rfl (fun K hK=>?_);go_simp;refine con.mono ?_;rintro e w9 ⟨v9,rfl,O9,hb9⟩;have D9:=chain D8 hb9;have CW9:=hCC _ _ CW8 hb9;obtain ⟨a9,c9,rfl,DT⟩:∃ a c,v9 = .slice a (data.length+1) c∧DtAt w9 a (data ++ [z]):=by
  rcases own_sls O9 with ⟨h0,_⟩ | ⟨g,cap,rfl,hg,hc⟩
  ·omega
  refine ⟨_,cap,rfl,dt_snoc rfl hg hc (fun i hi=>?_) (hz.next D9) HN.out⟩;obtain ⟨ai,ci,e,h,k⟩:=HF.out i hi;exact ⟨ai,ci,e,h.next (chain hb8 hb9),k⟩
 refine hK _ _ ⟨CW9,?_⟩;clear hK K con O9 CW7 CW8 PC HF;refine wpY_step (rs:=[7]) (by kernel_rfl) (by simp) ?_;intro wA hbA jj hj;obtain rfl:jj=7:=by simpa using hj
 clear hj;have DA:=chain D9 hbA;have CWA:=hCC _ _ CW9 hbA;have con:=fdist_at wide (data ++ [z]) p q ta tc a9 c9 wA (TX.next DA) (DT.next hbA) (PX.next DA) HK.out;rw [HE.out,HZ.out,List.length_append,List.length_singleton] at con;unfold plV at con;refine wpOp_step rfl (fun K hK=>?_);go_simp;refine con.mono ?_;rintro e wB ⟨vB,rfl,OB,hbB⟩;clear con;have DB:=chain DA hbB;have CWB:=hCC _ _ CWA hbB;have OB':=OB.mono DA.size;refine hK _ _ ⟨CWB,?_⟩;clear hK K CW9 CWA OB
 refine wpY_take hCC (some 15) (i:=8) (v:=vB) rfl rfl (by kernel_rfl) (by kernel_rfl) (by kernel_rfl) (fun _ _ _ h=>h) (Or.inl ⟨rfl,fun n hn=>?_⟩) CWB ?_
 ·clear hn;go_simp
 simp only [Act.put,pA,pB,pC];refine wpY_take hCC (some 16) (i:=9) (v:=.int .i64 ee) rfl rfl (by kernel_rfl) (by kernel_rfl) (by kernel_rfl) (fun _ _ _ h=>h) (Or.inl ⟨rfl,fun n hn=>?_⟩) CWB ?_
 ·clear hn;go_simp
 simp only [Act.put,pA,pB,pC];refine wpY_take hCC (some 5) (i:=10) (v:=vB) rfl rfl (by kernel_rfl) (by kernel_rfl) (by kernel_rfl) (fun _ _ _ h=>h) (Or.inl ⟨rfl,fun n hn=>?_⟩) CWB ?_
 ·clear hn;go_simp
 simp only [Act.put,pA,pB,pC];refine wpY_take hCC (some 6) (i:=11) (v:=.int .i64 ee) rfl rfl (by kernel_rfl) (by kernel_rfl) (by kernel_rfl) (fun _ _ _ h=>h) (Or.inl ⟨rfl,fun n hn=>?_⟩) CWB ?_
 ·clear hn;go_simp
 simp only [Act.put,pA,pB,pC];refine wpY_done (by kernel_rfl) ?_;intro wC hbC;have OC:=OB'.next hbC;have DC:=chain DB hbC;clear CWB OB';go_wp2
 exact bodyPost_ret (v:=.tuple #[vB,.int .i64 ee]) (by simp [results,Tryz.results53,go_sem]) rfl ⟨_,rfl,OC,DC⟩

/-- A function value finds something of two sets, in whatever world that has grown out of this one. -/
def FindsQ (g:Nat) (cb:Array Value) (fE:List Zp→List Zp→Int) (fZ:List Zp→List Zp→List Zp) (w:World):Prop :=
 ∀ (x y:List Zp) (xa:Option Addr) (xc:Nat) (ya:Option Addr) (yc:Nat) (W:World),ZsAt W xa x→(xa=none→xc=0)→ZsAt W ya y→(ya=none→yc=0)→Below w.heap.size w W→Calls Tryz.prog g (#[.slice xa x.length xc,.slice ya y.length yc] ++ cb) W fun e w'=>∃ v,e = .returned (.tuple #[v,.int .i64 (fE x y)])∧OwnZ W.heap.size w' v (fZ x y)∧Below W.heap.size W w'
/-- What is found of all rows, and of those that were new, until nothing is new. -/
def grP (fE:List Zp→List Zp→Int) (fZ:List Zp→List Zp→List Zp):Nat→Int→List Zp→List Zp→List Zp × Int × Int
 | 0,_,_,_=>([],0,10)
 | n+1,r,x,y=>if fE x y≠0 then ([],0,fE x y) else if bothE 1 x (fZ x y)≠0 then ([],0,bothE 1 x (fZ x y)) else if (uniZ x (fZ x y)).length=x.length then (uniZ x (fZ x y),r+1,0)
  else if bothE (-1) (uniZ x (fZ x y)) x≠0 then ([],0,bothE (-1) (uniZ x (fZ x y)) x) else grP fE fZ n (r+1) (uniZ x (fZ x y)) (bothZ (-1) (uniZ x (fZ x y)) x)

set_option maxRecDepth 100000 in
set_option maxHeartbeats 8000000 in
theorem grown_at (g:Nat) (cb:Array Value) (fE:List Zp→List Zp→Int) (fZ:List Zp→List Zp→List Zp) (z0:List Zp) (za:Option Addr) (zc:Nat) (w:World) (eg:∀ args w,(callFunc g args).run Tryz.prog w = .ok (.enter g args) w) (hm:FindsQ g cb fE fZ w) (hz:ZsAt w za z0) (hn:za=none→zc=0) :
  Calls Tryz.prog 28 #[.slice za z0.length zc,.func (.func g) #[] cb] w fun e w'=>∃ v,e = .returned (.tuple #[v,.int .i64 (grP fE fZ 50 0 z0 z0).2.1,.int .i64 (grP fE fZ 50 0 z0 z0).2.2])∧OwnZ w.heap.size w' v (grP fE fZ 50 0 z0 z0).1∧Below w.heap.size w w':=by
 have HM:Hid (FindsQ g cb fE fZ w):=hm;generalize hR:grP fE fZ 50 0 z0 z0=R;have HR:Hid (R=grP fE fZ (50 - 0) ((0:Nat):Int) z0 z0):=hR.symm;clear hR hm;go_enter Tryz.func28,Tryz.ntmps28;go_wp2_with fail
 go_loopw [0,7,13] (fun va vf i wr=>∃ (k:Nat) (x y:List Zp) (xa ya:Option Addr) (xc yc:Nat),k≤50∧i = .int .i64 k∧va = .slice xa x.length xc∧vf = .slice ya y.length yc∧Hid (xa=none→xc=0)∧Hid (ya=none→yc=0)∧ZsAt wr xa x∧ZsAt wr ya y∧Hid (R=grP fE fZ (50 - k) (k:Int) x y)∧Below w.heap.size w wr) (fun _ _ i _=>50 - (intOf i).toNat)
 case atStart=>exact ⟨0,z0,z0,za,za,zc,zc,by omega,rfl,rfl,rfl,hn,hn,hz,hz,HR,Below.refl _ _⟩
 case round =>
  clear HR hz hn;obtain ⟨k,x,y,xa,ya,xc,yc,hk,rfl,rfl,rfl,nx,ny,zx,zy,HR,hb⟩:=hrel;by_cases hlt:k<50;rotate_left
  ·have e:k=50:=by omega
   subst e;have e:R=([],0,10):=HR.out;subst e;clear HR;go_wp2_with fail
   exact bodyPost_ret (v:=.tuple #[.slice none 0 0,.int .i64 0,.int .i64 10]) (by simp [results,Tryz.results28,go_sem]) rfl ⟨_,rfl,ownZ_nil _ _,hb⟩
  have hkz:(k:Int)<50:=by omega
  have HR':Hid (R=grP fE fZ (50 - (k+1)+1) (k:Int) x y):=by show _=_; rw [show 50 - (k+1)+1=50 - k by omega]; exact HR.out
  clear HR;have con:=HM.out x y xa xc ya yc wr zx nx.out zy ny.out hb;generalize hfe:fE x y=fe at con;generalize hfz:fZ x y=fz at con;have HFE:Hid (fE x y=fe):=hfe;have HFZ:Hid (fZ x y=fz):=hfz;clear hfe hfz zy ny;go_upto_region 6 with (go_at_fn g; refine con.mono ?_; rintro e w1 ⟨v1,rfl,O1,hb1⟩)
  clear con;obtain ⟨a1,c1,rfl,Z1,n1⟩:=O1.zs2;have hA1:=chain hb hb1;by_cases h0:fe=0;rotate_left
  ·have e:R=([],0,fe):=by rw [HR'.out,grP,HFE.out,if_pos h0]
   subst e;have hb0:(fe != 0)=true:=by simpa using h0
   clear HR' HFE HFZ O1 Z1 zx;go_wp2_with fail
   exact bodyPost_ret (v:=.tuple #[.slice none 0 0,.int .i64 0,.int .i64 fe]) (by simp [results,Tryz.results28,go_sem]) rfl ⟨_,rfl,ownZ_nil _ _,hA1⟩
  have HR1:Hid (R=if bothE 1 x fz≠0 then ([],0,bothE 1 x fz) else if (uniZ x fz).length=x.length then (uniZ x fz,(k:Int)+1,0)
    else if bothE (-1) (uniZ x fz) x≠0 then ([],0,bothE (-1) (uniZ x fz) x) else grP fE fZ (50 - (k+1)) ((k:Int)+1) (uniZ x fz) (bothZ (-1) (uniZ x fz) x)):=by
   show _=_;rw [HR'.out,grP,HFE.out,HFZ.out,h0];simp only [ne_eq,not_true_eq_false,if_false]
  subst h0;clear HR' HFE HFZ O1;have con:=united_at xa a1 xc c1 x fz w1 (zx.next hb1) Z1 nx.out;generalize bothE 1 x fz=be at *;generalize uniZ x fz=uz at *;go_upto_region 9 with (refine con.mono ?_; rintro e w2 ⟨v2,rfl,O2,hb2⟩)
  clear con;obtain ⟨a2,c2,rfl,Z2,n2⟩:=O2.zs2;have hA2:=chain hA1 hb2;by_cases h0:be=0;rotate_left
  ·have e:R=([],0,be):=by rw [HR1.out,if_pos h0]
   subst e;have hb0:(be != 0)=true:=by simpa using h0
   clear HR1 O2 Z1 Z2 zx;go_wp2_with fail
   exact bodyPost_ret (v:=.tuple #[.slice none 0 0,.int .i64 0,.int .i64 be]) (by simp [results,Tryz.results28,go_sem]) rfl ⟨_,rfl,ownZ_nil _ _,hA2⟩
  have HR2:Hid (R=if uz.length=x.length then (uz,(k:Int)+1,0) else if bothE (-1) uz x≠0 then ([],0,bothE (-1) uz x) else grP fE fZ (50 - (k+1)) ((k:Int)+1) uz (bothZ (-1) uz x)):=by
   show _=_;rw [HR1.out,if_neg (by simpa using h0)]
  subst h0;clear HR1 Z1;by_cases hll:uz.length=x.length
  ·have e:R=(uz,(k:Int)+1,0):=by rw [HR2.out,if_pos hll]
   subst e;have hbl:((uz.length:Int) == (x.length:Int))=true:=by simp [hll]
   have O2':=O2.mono hA1.size;clear HR2 hll Z2 zx O2;go_wp2_with fail
   exact bodyPost_ret (v:=.tuple #[.slice a2 uz.length c2,.int .i64 ((k:Int)+1),.int .i64 0]) (by simp [results,Tryz.results28,go_sem]) rfl ⟨_,rfl,O2',hA2⟩
  have HR3:Hid (R=if bothE (-1) uz x≠0 then ([],0,bothE (-1) uz x) else grP fE fZ (50 - (k+1)) ((k:Int)+1) uz (bothZ (-1) uz x)):=by
   show _=_;rw [HR2.out,if_neg hll]
  have hbl:((uz.length:Int) == (x.length:Int))=false:=by simp; omega
  clear HR2 hll O2;have con:=sub_at a2 xa c2 xc uz x w2 Z2 (zx.next (chain hb1 hb2)) n2;generalize bothE (-1) uz x=se at *;generalize bothZ (-1) uz x=sz at *;go_upto_region 14 with (refine con.mono ?_; rintro e w3 ⟨v3,rfl,O3,hb3⟩)
  clear con hbl;obtain ⟨a3,c3,rfl,Z3,n3⟩:=O3.zs2;have hA3:=chain hA2 hb3;by_cases h0:se=0;rotate_left
  ·have e:R=([],0,se):=by rw [HR3.out,if_pos h0]
   subst e;have hb0:(se != 0)=true:=by simpa using h0
   clear HR3 O3 Z3 Z2 zx;go_wp2_with fail
   exact bodyPost_ret (v:=.tuple #[.slice none 0 0,.int .i64 0,.int .i64 se]) (by simp [results,Tryz.results28,go_sem]) rfl ⟨_,rfl,ownZ_nil _ _,hA3⟩
  have HR4:Hid (R=grP fE fZ (50 - (k+1)) ((k:Int)+1) uz sz):=by
   show _=_;rw [HR3.out,if_neg (by simpa using h0)]
  subst h0;have Z2':=Z2.next hb3;clear HR3 Z2 zx O3;go_wp2_with fail
  go_roundw
  case rel=>exact ⟨k+1,uz,sz,a2,a3,c2,c3,by omega,by go_num,rfl,rfl,n2,n3,Z2',Z3,HR4,hA3⟩
  case measure=>simp [intOf]; omega

theorem tkW_below (w:World) (ta:Option Addr) (n tc:Nat) (p:Pl) (q:Pw) (da:Option Addr) (m dc:Nat):Below w.heap.size w (((w.alloc (.cells #[.slice ta n tc] 22)).alloc (plBx p q)).alloc (.cells #[.slice da m dc] 32)):=(((Below.refl _ _).alloc (Nat.le_refl _) _).alloc (by simp) _).alloc (by simp; omega) _
theorem tkW_1 (w:World) (ta:Option Addr) (n tc:Nat) (p:Pl) (q:Pw) (da:Option Addr) (m dc:Nat):(((w.alloc (.cells #[.slice ta n tc] 22)).alloc (plBx p q)).alloc (.cells #[.slice da m dc] 32)).cell? ⟨w.heap.size,0,none⟩=some (.slice ta n tc):=by
 have h1:(w.alloc (.cells #[.slice ta n tc] 22)).cell? ⟨w.heap.size,0,none⟩=some (.slice ta n tc):=cell_of (i:=0) (heap_new w #[.slice ta n tc] 22) rfl;have hb:Below (w.alloc (.cells #[.slice ta n tc] 22)).heap.size (w.alloc (.cells #[.slice ta n tc] 22)) (((w.alloc (.cells #[.slice ta n tc] 22)).alloc (plBx p q)).alloc (.cells #[.slice da m dc] 32)):=((Below.refl _ _).alloc (Nat.le_refl _) _).alloc (by simp) _;exact (hb.cell (p:=⟨w.heap.size,0,none⟩) (by simp)).trans h1
theorem tkW_2 (w:World) (ta:Option Addr) (n tc:Nat) (p:Pl) (q:Pw) (da:Option Addr) (m dc:Nat):ElX (((w.alloc (.cells #[.slice ta n tc] 22)).alloc (plBx p q)).alloc (.cells #[.slice da m dc] 32)) (w.heap.size+1) p q:=by
 have h:=plBx_el (w.alloc (.cells #[.slice ta n tc] 22)) p q;rw [show (w.alloc (.cells #[.slice ta n tc] 22)).heap.size=w.heap.size+1 by simp] at h;exact h.next ((Below.refl _ _).alloc (Nat.le_refl _) _)
theorem tkW_3 (w:World) (ta:Option Addr) (n tc:Nat) (p:Pl) (q:Pw) (da:Option Addr) (m dc:Nat):(((w.alloc (.cells #[.slice ta n tc] 22)).alloc (plBx p q)).alloc (.cells #[.slice da m dc] 32)).cell? ⟨w.heap.size+2,0,none⟩=some (.slice da m dc):=by
 have h:=cell_of (i:=0) (heap_new ((w.alloc (.cells #[.slice ta n tc] 22)).alloc (plBx p q)) #[.slice da m dc] 32) rfl
 rwa [show ((w.alloc (.cells #[.slice ta n tc] 22)).alloc (plBx p q)).heap.size=w.heap.size+2 by simp] at h
set_option maxRecDepth 100000 in
set_option maxHeartbeats 4000000 in
theorem taking_at (wide:List (List Int)) (p:Pl) (q:Pw) (data:List (List Zp)) (ta:Option Addr) (tc:Nat) (da:Option Addr) (dc:Nat) (w:World) (hT:TbX w ta wide) (hp:PlX w p q) (hk:PlOk p) (hD:DtAt w da data) (hl:data.length≤8) :
  Calls Tryz.prog 27 #[.slice ta wide.length tc,plV p q,.slice da data.length dc] w fun e w'=>e = .returned (.func (.func 53) #[] #[.pointer (some ⟨w.heap.size,0,none⟩),.pointer (some ⟨w.heap.size+1,0,none⟩),.pointer (some ⟨w.heap.size+2,0,none⟩)])∧TakesQ 53 #[.pointer (some ⟨w.heap.size,0,none⟩),.pointer (some ⟨w.heap.size+1,0,none⟩),.pointer (some ⟨w.heap.size+2,0,none⟩)] (fun z=>evE wide (data ++ [z]) p) (fun z=>dstZ wide (data ++ [z]) p) w'∧Below w.heap.size w w':=by
 have hA:=tkW_below w ta wide.length tc p q da data.length dc;have T:=taking1_at wide p q data ta tc da dc w.heap.size (w.heap.size+1) (w.heap.size+2) _ (tkW_1 w ta wide.length tc p q da data.length dc) (tkW_2 w ta wide.length tc p q da data.length dc) (tkW_3 w ta wide.length tc p q da data.length dc) (hT.next hA) (hp.next hA) hk (hD.next hA) hl
 have HT:Hid (TakesQ 53 #[.pointer (some ⟨w.heap.size,0,none⟩),.pointer (some ⟨w.heap.size+1,0,none⟩),.pointer (some ⟨w.heap.size+2,0,none⟩)] (fun z=>evE wide (data ++ [z]) p) (fun z=>dstZ wide (data ++ [z]) p) (((w.alloc (.cells #[.slice ta wide.length tc] 22)).alloc (plBx p q)).alloc (.cells #[.slice da data.length dc] 32))):=T;clear T hT hp hk hD;unfold plV;go_enter Tryz.func27,Tryz.ntmps27;go_upto_region 1 with fail
 generalize ((w.alloc (.cells #[.slice ta wide.length tc] 22)).alloc (plBx p q)).alloc (.cells #[.slice da data.length dc] 32)=wA at *;go_wp2
 go_ret;exact ⟨rfl,HT.out,hA⟩
theorem egTk:∀ args w,(callFunc 53 args).run Tryz.prog w = .ok (.enter 53 args) w:=enters_of Tryz.func53 (by kernel_rfl) rfl
theorem egFx:∀ args w,(callFunc 29 args).run Tryz.prog w = .ok (.enter 29 args) w:=enters_of Tryz.func29 (by kernel_rfl) rfl

set_option maxRecDepth 100000 in
set_option maxHeartbeats 4000000 in
theorem fix1_at (g:Nat) (cb:Array Value) (fE:List Zp→Int) (fZ:List Zp→List Zp) (B:Nat) (w:World) (eg:∀ args w,(callFunc g args).run Tryz.prog w = .ok (.enter g args) w) (hm:TakesQ g cb fE fZ w) (hB:w.cell? ⟨B,0,none⟩=some (.func (.func g) #[] cb)) :
  FindsQ 29 #[.pointer (some ⟨B,0,none⟩)] (fun x _=>fE x) (fun x _=>fZ x) w:=by
 intro x y xa xc ya yc W zx nx zy ny hb;have con:=hm x xa xc W zx nx hb;have hc:=(hb.cell (p:=⟨B,0,none⟩) (World.block_lt_of_cell? _ _ hB)).trans hB;clear hm hB zx zy hb nx ny;dsimp only;generalize fE x=ee at *;generalize fZ x=ez at *;show Calls Tryz.prog 29 #[.slice xa x.length xc,.slice ya y.length yc,.pointer (some ⟨B,0,none⟩)] W _;go_enter Tryz.func29,Tryz.ntmps29;go_wp2_with (go_at_fn g; refine con.mono ?_; rintro e w1 ⟨v1,rfl,O1,hb1⟩)
 exact bodyPost_ret (v:=.tuple #[v1,.int .i64 ee]) (by simp [results,Tryz.results29,go_sem]) rfl ⟨_,rfl,O1,hb1⟩
/-- What is wrong with what is given. -/
def widL (ts:List (List Int)) (seed:Pl):List (List Int):=ts ++ [colsT ts seed]
def widE (ts:List (List Int)) (seed step:Pl) (data:List (List Zp)):Int:=if lookE ts seed≠0 then lookE ts seed else if lookE (widL ts seed) step≠0 then lookE (widL ts seed) step else if (colsT (widL ts seed) step).length≠(colsT ts seed).length then 8 else if colsT (widL ts seed) step≠colsT ts seed then 9 else dataE ts data
theorem twW_below (w:World) (p:Pl) (q:Pw) (p':Pl) (q':Pw):Below w.heap.size w ((w.alloc (plBx p q)).alloc (plBx p' q')):=((Below.refl _ _).alloc (Nat.le_refl _) _).alloc (by simp) _
theorem twW_1 (w:World) (p:Pl) (q:Pw) (p':Pl) (q':Pw):ElX ((w.alloc (plBx p q)).alloc (plBx p' q')) w.heap.size p q:=(plBx_el w p q).next (plBx_below _ p' q')
theorem twW_2 (w:World) (p:Pl) (q:Pw) (p':Pl) (q':Pw):ElX ((w.alloc (plBx p q)).alloc (plBx p' q')) (w.heap.size+1) p' q':=by
 have h:=plBx_el (w.alloc (plBx p q)) p' q'
 rwa [show (w.alloc (plBx p q)).heap.size=w.heap.size+1 by simp] at h
def WideR (we:Int) (wide:List (List Int)) (w':World) (e:Ending):Prop:=(we=0→∃ a c,e = .returned (.tuple #[.slice a wide.length c,.int .i64 0])∧TbX w' a wide)∧(¬ we=0→e = .returned (.tuple #[.slice none 0 0,.int .i64 we]))
theorem colsT_8 {ts:List (List Int)} {p:Pl} (h:lookE ts p=0):(colsT ts p).length≤8:=by
 unfold colsT;rw [if_pos h];exact cols8 (lookE_ok h).1 p 0 1 (lookE_ok h).2
set_option maxRecDepth 100000 in
set_option maxHeartbeats 16000000 in
theorem fwide_at (ts:List (List Int)) (p:Pl) (q:Pw) (p':Pl) (q':Pw) (data:List (List Zp)) (ta:Option Addr) (tc:Nat) (da:Option Addr) (dc:Nat) (w:World) (hT:TbX w ta ts) (hp:PlX w p q) (hk:PlOk p) (hp':PlX w p' q') (hk':PlOk p') (hD:DtAt w da data) :
  Calls Tryz.prog 25 #[.slice ta ts.length tc,plV p q,plV p' q',.slice da data.length dc] w fun e w'=>WideR (widE ts p p' data) (widL ts p) w' e∧Below w.heap.size w w':=by
 have hA:=twW_below w p q p' q';have EL:=twW_1 w p q p' q';have ER:=twW_2 w p q p' q';have HK:Hid (PlOk p):=hk;have HK':Hid (PlOk p'):=hk';have TX:=hT.next hA;have PX:=hp.next hA;have PX':=hp'.next hA;have DX:=hD.next hA;have hwl:Hid (widL ts p=ts ++ [colsT ts p]):=rfl;generalize hwe:widE ts p p' data=we;have HWE:Hid (widE ts p p' data=we):=hwe;have con:=colsQ_at ts p q ta tc _ TX PX hk;have HC8:Hid (lookE ts p=0→(colsT ts p).length≤8∧ts.length≤8):=fun h=>⟨colsT_8 h,tabsL (lookE_ok h).1⟩
 generalize hle:lookE ts p=le at con;generalize hcs:colsT ts p=cs at con;have HLE:Hid (lookE ts p=le):=hle;have HCS:Hid (colsT ts p=cs):=hcs;clear hk hk' hT hp hp' hD hwe hle hcs;obtain ⟨y0,y1,⟨y2,y3,y4,y5,y6,y7⟩,y8,y9,y10⟩:=EL.el;simp only [Nat.zero_add] at y1 y2 y3 y4 y5 y6 y7 y8 y9 y10;unfold plV at con ⊢;go_enter Tryz.func25,Tryz.ntmps25;go_upto_region 1 with fail
 generalize (w.alloc (plBx p q)).alloc (plBx p' q')=wA at *;go_wp2_with fail
 refine con.mono ?_;rintro e w1 ⟨a1,c1,rfl,I1,hb1⟩;clear con y0 y1 y2 y3 y4 y5 y6 y7 y8 y9 y10 EL;have hA1:=chain hA hb1;by_cases h0:le=0;rotate_left
 ·have e1:we=le:=by rw [← HWE.out]; unfold widE; rw [HLE.out,if_pos h0]
  subst e1;have hb0:(we != 0)=true:=by simpa using h0
  clear HWE HLE HCS HC8 I1;go_wp2_with fail
  exact bodyPost_ret (v:=.tuple #[.slice none 0 0,.int .i64 we]) (by simp [results,Tryz.results25,go_sem]) rfl ⟨⟨fun h=>absurd h h0,fun _=>rfl⟩,hA1⟩
 have c8:=(HC8.out (by rw [HLE.out]; exact h0))
 rw [HCS.out] at c8;obtain ⟨c8,t8⟩:=c8;replace TX:=TX.next hb1;replace PX':=PX'.next hb1;replace DX:=DX.next hb1;replace ER:=ER.next hb1;have HL0:Hid (lookE ts p=0):=by show _=_; rw [HLE.out,h0]
 subst h0;clear HLE HC8 PX;have con:=wideT_at ts cs ta tc a1 c1 w1 TX I1 t8;have hwl':Hid (widL ts p=ts ++ [cs]):=by show _=_; rw [hwl.out,HCS.out]
 rw [← hwl'.out] at con;go_wp2_with fail
 refine con.mono ?_;rintro e w2 ⟨a2,c2,rfl,T2,hb2⟩;clear con;have hA2:=chain hA1 hb2;replace TX:=TX.next hb2;replace PX':=PX'.next hb2;replace DX:=DX.next hb2;replace ER:=ER.next hb2;have I2:=IX.next I1 hb2;have con:=colsQ_at (widL ts p) p' q' a2 c2 w2 T2 PX' HK'.out;generalize hle:lookE (widL ts p) p'=le2 at con;generalize hcs:colsT (widL ts p) p'=cs2 at con;have HLE:Hid (lookE (widL ts p) p'=le2):=hle;have HCS2:Hid (colsT (widL ts p) p'=cs2):=hcs;clear hle hcs I1 PX';generalize hwi:widL ts p=wide at *;obtain ⟨y0,y1,⟨y2,y3,y4,y5,y6,y7⟩,y8,y9,y10⟩:=ER.el
 simp only [Nat.zero_add] at y1 y2 y3 y4 y5 y6 y7 y8 y9 y10;unfold plV at con;go_wp2_with fail
 refine con.mono ?_;rintro e w3 ⟨a3,c3,rfl,I3,hb3⟩;clear con y0 y1 y2 y3 y4 y5 y6 y7 y8 y9 y10 ER;have hA3:=chain hA2 hb3;by_cases h0:le2=0;rotate_left
 ·have e1:we=le2:=by rw [← HWE.out]; unfold widE; rw [HL0.out,hwi,HLE.out,if_neg (by simp),if_pos h0]
  subst e1;have hb0:(we != 0)=true:=by simpa using h0
  clear HWE HLE HCS HCS2 HL0 hwl hwl' I3;go_wp2_with fail
  exact bodyPost_ret (v:=.tuple #[.slice none 0 0,.int .i64 we]) (by simp [results,Tryz.results25,go_sem]) rfl ⟨⟨fun h=>absurd h h0,fun _=>rfl⟩,hA3⟩
 replace TX:=TX.next hb3;replace DX:=DX.next hb3;replace T2:=TbX.next T2 hb3;replace I2:=IX.next I2 hb3;have HW2:Hid (we=if cs2.length≠cs.length then 8 else if cs2≠cs then 9 else dataE ts data):=by
  show _=_;rw [← HWE.out]; unfold widE; rw [HL0.out,hwi,HLE.out,h0,HCS2.out,HCS.out];simp only [ne_eq,not_true_eq_false,if_false]
 subst h0;clear HWE HLE HCS HCS2 HL0 hwl hwl';have HWI:Hid (widL ts p=wide):=hwi;clear hwi;by_cases hll:cs2.length=cs.length;rotate_left
 ·have e1:we=8:=by rw [HW2.out,if_pos hll]
  subst e1;have hbl:((cs2.length:Int) != (cs.length:Int))=true:=by simp; omega
  clear HW2 hll;go_wp2_with fail
  exact bodyPost_ret (v:=.tuple #[.slice none 0 0,.int .i64 8]) (by simp [results,Tryz.results25,go_sem]) rfl ⟨⟨fun h=>(by cases h),fun _=>rfl⟩,hA3⟩
 have HW3:Hid (we=if cs2≠cs then 9 else dataE ts data):=by show _=_; rw [HW2.out,if_neg (by simpa using hll)]
 have con:=equalI_at cs2 cs a3 c3 a1 c1 w3 I3 I2 (show Hid _ from hll.symm) (by omega);have hbl:((cs2.length:Int) != (cs.length:Int))=false:=by simp; omega
 clear HW2 hll;generalize hbb:decide (cs2=cs)=bb at con;have HBB:Hid (decide (cs2=cs)=bb):=hbb;clear hbb;go_upto_region 10 with fail
 clear hbl;have HW4:Hid (bb=false→we=9):=fun h=>by rw [HW3.out,if_pos (by rw [h] at HBB; exact of_decide_eq_false HBB.out)]
 have HW5:Hid (bb=true→we=dataE ts data):=fun h=>by rw [HW3.out,if_neg (by rw [h] at HBB; simpa using of_decide_eq_true HBB.out)]
 clear HW3 HBB I3;cases bb with
 | false =>
  have e1:=HW4.out rfl;subst e1;clear HW4 HW5;go_wp2_with (refine con.mono ?_; rintro e w4 ⟨rfl,hb4⟩)
  exact bodyPost_ret (v:=.tuple #[.slice none 0 0,.int .i64 9]) (by simp [results,Tryz.results25,go_sem]) rfl ⟨⟨fun h=>(by cases h),fun _=>rfl⟩,chain hA3 hb4⟩
 | true =>
  have e1:=HW5.out rfl;have HW6:Hid (we=dataE ts data):=e1;clear HW4 HW5 e1;go_wp2_with fail
  refine con.mono ?_;rintro e w4 ⟨rfl,hb4⟩;clear con;have hA4:=chain hA3 hb4;replace T2:=TbX.next T2 hb4;have con:=wrongQ_at ts data ta tc da dc w4 (TX.next hb4) (DX.next hb4) t8;rw [← HW6.out] at con;go_wp2_with fail
  refine con.mono ?_;rintro e w5 ⟨rfl,hb5⟩;clear con;have hA5:=chain hA4 hb5;replace T2:=TbX.next T2 hb5;by_cases h0:we=0
  ·subst h0;clear HW6;go_wp2_with fail
   exact bodyPost_ret (v:=.tuple #[.slice a2 wide.length c2,.int .i64 0]) (by simp [results,Tryz.results25,go_sem]) rfl ⟨⟨fun _=>⟨a2,c2,by rw [HWI.out],by rw [HWI.out]; exact T2⟩,fun h=>absurd rfl h⟩,hA5⟩
  ·have hb0:(we != 0)=true:=by simpa using h0
   clear HW6;go_wp2_with fail
   exact bodyPost_ret (v:=.tuple #[.slice none 0 0,.int .i64 we]) (by simp [results,Tryz.results25,go_sem]) rfl ⟨⟨fun h=>absurd h h0,fun _=>rfl⟩,hA5⟩

/-- What Fix tells. -/
def fixR (ts:List (List Int)) (p p':Pl) (data:List (List Zp)):List Zp × Int × Int:=if widE ts p p' data≠0 then ([],0,widE ts p p' data) else if evE ts data p≠0 then ([],0,evE ts data p) else grP (fun x _=>evE (widL ts p) (data ++ [x]) p') (fun x _=>dstZ (widL ts p) (data ++ [x]) p') 50 0 (dstZ ts data p) (dstZ ts data p)
theorem wid_ok {ts:List (List Int)} {p p':Pl} {data:List (List Zp)} (h:widE ts p p' data=0):lookE ts p=0∧lookE (widL ts p) p'=0∧colsT (widL ts p) p'=colsT ts p∧dataE ts data=0:=by
 unfold widE at h;by_cases h1:lookE ts p=0
 ·rw [if_neg (by simpa using h1)] at h;by_cases h2:lookE (widL ts p) p'=0
  ·rw [if_neg (by simpa using h2)] at h;by_cases h3:(colsT (widL ts p) p').length=(colsT ts p).length
   ·rw [if_neg (by simpa using h3)] at h;by_cases h4:colsT (widL ts p) p'=colsT ts p
    ·rw [if_neg (by simpa using h4)] at h;exact ⟨h1,h2,h4,h⟩
    ·rw [if_pos h4] at h; cases h
   ·rw [if_pos h3] at h; cases h
  ·rw [if_pos h2] at h; exact absurd h h2
 ·rw [if_pos h1] at h; exact absurd h h1
theorem wid_len {ts:List (List Int)} {p p':Pl} {data:List (List Zp)} (h:widE ts p p' data=0):data.length≤8:=by
 obtain ⟨h1,_,_,h4⟩:=wid_ok h;rw [(dataE_ok h4).1];exact tabsL (lookE_ok h1).1
set_option maxRecDepth 100000 in
set_option maxHeartbeats 16000000 in
theorem fix_at (ts:List (List Int)) (p:Pl) (q:Pw) (p':Pl) (q':Pw) (data:List (List Zp)) (ta:Option Addr) (tc:Nat) (da:Option Addr) (dc:Nat) (w:World) (hT:TbX w ta ts) (hp:PlX w p q) (hk:PlOk p) (hp':PlX w p' q') (hk':PlOk p') (hD:DtAt w da data) :
  Calls Tryz.prog 9 #[.slice ta ts.length tc,plV p q,plV p' q',.slice da data.length dc] w fun e w'=>∃ v,e = .returned (.tuple #[v,.int .i64 (fixR ts p p' data).2.1,.int .i64 (fixR ts p p' data).2.2])∧OwnZ w.heap.size w' v (fixR ts p p' data).1∧Below w.heap.size w w':=by
 have hA:=twW_below w p q p' q';have EL:=twW_1 w p q p' q';have ER:=twW_2 w p q p' q';have HK:Hid (PlOk p):=hk;have HK':Hid (PlOk p'):=hk';have TX:=hT.next hA;have PX:=hp.next hA;have PX':=hp'.next hA;have DX:=hD.next hA;generalize hR:fixR ts p p' data=R;have HR:Hid (fixR ts p p' data=R):=hR;have con:=fwide_at ts p q p' q' data ta tc da dc _ TX PX hk PX' hk' DX;have HWL:Hid (widE ts p p' data=0→data.length≤8):=wid_len;generalize hwe:widE ts p p' data=we at con;have HWE:Hid (widE ts p p' data=we):=hwe;clear hk hk' hT hp hp' hD hwe hR;obtain ⟨y0,y1,⟨y2,y3,y4,y5,y6,y7⟩,y8,y9,y10⟩:=EL.el
 obtain ⟨z0,z1,⟨z2,z3,z4,z5,z6,z7⟩,z8,z9,z10⟩:=ER.el;simp only [Nat.zero_add] at y1 y2 y3 y4 y5 y6 y7 y8 y9 y10 z1 z2 z3 z4 z5 z6 z7 z8 z9 z10;unfold plV at con ⊢;go_enter Tryz.func9,Tryz.ntmps9;go_upto_region 1 with fail
 generalize (w.alloc (plBx p q)).alloc (plBx p' q')=wA at *;by_cases h0:we=0;rotate_left
 ·have e1:R=([],0,we):=by rw [← HR.out]; unfold fixR; rw [HWE.out,if_pos h0]
  subst e1;have hb0:(we != 0)=true:=by simpa using h0
  clear HR HWE HWL;go_wp2_with fail
  refine con.mono ?_;rintro e w1 ⟨⟨_,hre⟩,hb1⟩;obtain rfl:=hre h0;go_wp2_with fail
  exact bodyPost_ret (v:=.tuple #[.slice none 0 0,.int .i64 0,.int .i64 we]) (by simp [results,Tryz.results9,go_sem]) rfl ⟨_,rfl,ownZ_nil _ _,chain hA hb1⟩
 have HW0:Hid (widE ts p p' data=0):=by show _=_; rw [HWE.out,h0]
 have d8:=HWL.out HW0.out;subst h0;clear HWE HWL;generalize hwi:widL ts p=wide at con;have HWI:Hid (widL ts p=wide):=hwi;clear hwi;go_wp2_with fail
 refine con.mono ?_;rintro e w1 ⟨⟨hre,_⟩,hb1⟩;obtain ⟨a1,c1,rfl,T1⟩:=hre rfl;clear con y0 y1 y2 y3 y4 y5 y6 y7 y8 y9 y10 z0 z1 z2 z3 z4 z5 z6 z7 z8 z9 z10;have hA1:=chain hA hb1;replace TX:=TX.next hb1;replace PX:=PX.next hb1;replace PX':=PX'.next hb1;replace DX:=DX.next hb1;replace EL:=EL.next hb1;replace ER:=ER.next hb1;have con:=fdist_at ts data p q ta tc da dc w1 TX DX PX HK.out;generalize hee:evE ts data p=ee at con;generalize hdz:dstZ ts data p=dz at con;have HEE:Hid (evE ts data p=ee):=hee;have HDZ:Hid (dstZ ts data p=dz):=hdz;clear hee hdz
 obtain ⟨y0,y1,⟨y2,y3,y4,y5,y6,y7⟩,y8,y9,y10⟩:=EL.el;simp only [Nat.zero_add] at y1 y2 y3 y4 y5 y6 y7 y8 y9 y10;unfold plV at con;go_wp2_with fail
 refine con.mono ?_;rintro e w2 ⟨v2,rfl,O2,hb2⟩;clear con y0 y1 y2 y3 y4 y5 y6 y7 y8 y9 y10 EL PX;obtain ⟨a2,c2,rfl,Z2,n2⟩:=O2.zs2;have hA2:=chain hA1 hb2;by_cases h0:ee=0;rotate_left
 ·have e1:R=([],0,ee):=by rw [← HR.out]; unfold fixR; rw [HW0.out,HEE.out,if_neg (by simp),if_pos h0]
  subst e1;have hb0:(ee != 0)=true:=by simpa using h0
  clear HR HEE HDZ O2 Z2 HW0;go_wp2_with fail
  exact bodyPost_ret (v:=.tuple #[.slice none 0 0,.int .i64 0,.int .i64 ee]) (by simp [results,Tryz.results9,go_sem]) rfl ⟨_,rfl,ownZ_nil _ _,hA2⟩
 have HR1:Hid (R=grP (fun x _=>evE wide (data ++ [x]) p') (fun x _=>dstZ wide (data ++ [x]) p') 50 0 dz dz):=by
  show _=_;rw [← HR.out]; unfold fixR; rw [HW0.out,HEE.out,h0,HWI.out,HDZ.out];simp only [ne_eq,not_true_eq_false,if_false]
 subst h0;clear HR HEE HDZ HW0 HWI O2;replace T1:=TbX.next T1 hb2;replace PX':=PX'.next hb2;replace DX:=DX.next hb2;replace ER:=ER.next hb2;have con:=taking_at wide p' q' data a1 c1 da dc w2 T1 PX' HK'.out DX d8;obtain ⟨z0,z1,⟨z2,z3,z4,z5,z6,z7⟩,z8,z9,z10⟩:=ER.el;simp only [Nat.zero_add] at z1 z2 z3 z4 z5 z6 z7 z8 z9 z10;unfold plV at con;go_wp2_with fail
 refine con.mono ?_;rintro e w3 ⟨rfl,TK,hb3⟩;clear con z0 z1 z2 z3 z4 z5 z6 z7 z8 z9 z10 ER PX';have hal:Below w3.heap.size w3 (w3.alloc (.cells #[.func (.func 53) #[] #[.pointer (some ⟨w2.heap.size,0,none⟩),.pointer (some ⟨w2.heap.size+1,0,none⟩),.pointer (some ⟨w2.heap.size+2,0,none⟩)]] 49)):=(Below.refl _ _).alloc (Nat.le_refl _) _
 have F4:(w3.alloc (.cells #[.func (.func 53) #[] #[.pointer (some ⟨w2.heap.size,0,none⟩),.pointer (some ⟨w2.heap.size+1,0,none⟩),.pointer (some ⟨w2.heap.size+2,0,none⟩)]] 49)).cell? ⟨w3.heap.size,0,none⟩=some (.func (.func 53) #[] #[.pointer (some ⟨w2.heap.size,0,none⟩),.pointer (some ⟨w2.heap.size+1,0,none⟩),.pointer (some ⟨w2.heap.size+2,0,none⟩)]):=cell_of (i:=0) (heap_new w3 #[.func (.func 53) #[] #[.pointer (some ⟨w2.heap.size,0,none⟩),.pointer (some ⟨w2.heap.size+1,0,none⟩),.pointer (some ⟨w2.heap.size+2,0,none⟩)]] 49) rfl;have FD:=fix1_at 53 _ _ _ w3.heap.size _ egTk (TK.next hal) F4
 have con:=grown_at 29 #[.pointer (some ⟨w3.heap.size,0,none⟩)] _ _ dz a2 c2 _ egFx FD (Z2.next (chain hb3 hal)) n2;rw [← HR1.out] at con;have hA4:=chain hA2 (chain hb3 hal);clear HR1 FD TK hb3 F4 Z2;go_upto_region 8 with fail
 generalize w3.alloc (.cells #[.func (.func 53) #[] #[.pointer (some ⟨w2.heap.size,0,none⟩),.pointer (some ⟨w2.heap.size+1,0,none⟩),.pointer (some ⟨w2.heap.size+2,0,none⟩)]] 49)=w4 at *;go_wp2_with fail
 refine con.mono ?_;rintro e w5 ⟨v5,rfl,O5,hb5⟩;clear con;have O5':=O5.mono hA4.size;go_wp2_with fail
 exact bodyPost_ret (v:=.tuple #[v5,.int .i64 R.2.1,.int .i64 R.2.2]) (by simp [results,Tryz.results9,go_sem]) rfl ⟨_,rfl,O5',chain hA4 hb5⟩
end Go.Proofs.YtohjlfhmnmcndaaGreat
namespace Go.Proofs.YtohjlfhmnmcndaaGreat

theorem wt_neg:∀ (l:List Zp) (q:List Vl),wt (l.map fun x=>(x.1,-x.2)) q = - wt l q
 | [],_=>rfl
 | x :: r,q=>by
  rw [List.map_cons,wt,wt,wt_neg r q]
  split <;> omega
theorem set_nonneg {z:List Zp} (h:Rise z) (hw:∀ q,0≤wt z q):∀ x ∈ z,0≤x.2:=fun x hx=>by
 rw [← wt_mem h x hx]
 exact hw _
theorem tot_nonneg {g:List Vl→Int} (g0:∀ r,0≤g r):∀ {z:List Zp},(∀ x ∈ z,0≤x.2)→0≤tot g z
 | [],_=>Int.le_refl _
 | x :: r,h=>by
  rw [tot]
  have h1:=tot_nonneg g0 (z:=r) fun y hy=>h y (by simp [hy])
  have h2:=Int.mul_nonneg (g0 x.1) (h x (by simp))
  omega
theorem tot_mono {a b:List Zp} {g:List Vl→Int} (hg:Resp g) (g0:∀ r,0≤g r) (h:∀ q,wt a q≤wt b q):tot g a≤tot g b:=by
 have e:∀ q,wt b q=wt a q+wt (canon (b ++ a.map fun x=>(x.1,-x.2))) q:=fun q=>by
  rw [canon_wt,wt_append,wt_neg]; omega
 have hs:=canon_set (b ++ a.map fun x=>(x.1,-x.2));have h1:=tot_nonneg g0 (set_nonneg hs.rise fun q=>by have:=e q; have:=h q; omega);have:=tot_lin e hg;omega
theorem tot_le {g g':List Vl→Int} (hg:∀ r,g r≤g' r):∀ {z:List Zp},(∀ x ∈ z,0≤x.2)→tot g z≤tot g' z
 | [],_=>Int.le_refl _
 | x :: r,h=>by
  rw [tot,tot]
  have h1:=tot_le hg (z:=r) fun y hy=>h y (by simp [hy])
  have h2:=Int.mul_le_mul_of_nonneg_right (hg x.1) (h x (by simp))
  omega
theorem tot_pos {g:List Vl→Int} (hg:Resp g) (g0:∀ r,0≤g r) {a:List Zp} (h:∀ q,0≤wt a q):0≤tot g a:=by
 rw [← tot_canon hg];exact tot_nonneg g0 (set_nonneg (canon_set a).rise fun q=>by rw [canon_wt]; exact h q)
theorem ite01 (p:Prop) [Decidable p]:(0:Int)≤if p then 1 else 0:=by split <;> decide
theorem join_mono {x:Ex} {a b a' b':List Zp} (h0:∀ q,0≤wt a q) (h1:∀ q,wt a q≤wt a' q) (h2:∀ q,0≤wt b q) (h3:∀ q,wt b q≤wt b' q) (q:List Vl):0≤wt (joinL x a b) q∧wt (joinL x a b) q≤wt (joinL x a' b') q:=by
 have hn:=set_nonneg (canon_set a).rise fun q=>by rw [canon_wt]; exact h0 q
 constructor
 ·rw [join_tot];exact tot_pos (resp_pair2 x q b) (fun r=>tot_pos (resp_pair1 x q r) (fun _=>ite01 _) h2) h0
 ·rw [join_tot,join_tot];refine Int.le_trans ?_ (tot_mono (resp_pair2 x q b') (fun r=>tot_pos (resp_pair1 x q r) (fun _=>ite01 _) fun k=>Int.le_trans (h2 k) (h3 k)) h1);rw [← tot_canon (resp_pair2 x q b) a,← tot_canon (resp_pair2 x q b') a];exact tot_le (fun r=>tot_mono (resp_pair1 x q r) (fun _=>ite01 _) h3) hn
theorem wt_posAt:∀ {l:List Zp} {q:List Vl},0<wt l q→∃ x ∈ l,cmpL x.1 q=0∧0<x.2
 | [],_,h=>by simp [wt] at h
 | x :: r,q,h=>by
  rw [wt] at h
  by_cases hc:cmpL x.1 q=0∧0<x.2
  ·exact ⟨x,by simp,hc⟩
  ·have:0<wt r q:=by
    split at h
    ·rename_i c
     have:¬ 0<x.2:=fun k=>hc ⟨c,k⟩
     omega
    ·omega
   obtain ⟨y,hy,h2⟩:=wt_posAt this;exact ⟨y,by simp [hy],h2⟩
theorem wrong_rise {z:List Zp} (h:wrongZ z=0):Rise z:=((wrongZ_iff z).1 h).2.2
theorem setZ_wt {f:Int→Int} (f0:f 0=0) {z:List Zp} (h:wrongZ z=0) (q:List Vl):wt (setZ f z) q=f (wt z q):=by
 unfold setZ;rw [if_pos h];exact weighL_wt f f0 q z (wrong_rise h)
theorem posF_mono {x y:Int} (h:x≤y):0≤posF x∧posF x≤posF y:=by unfold posF; split <;> split <;> omega
theorem oneF_mono {x y:Int} (h:x≤y):0≤oneF x∧oneF x≤oneF y:=by unfold oneF; split <;> split <;> omega

/-- A right set of rows that are there once. -/
structure One (z:List Zp):Prop where
 right:wrongZ z=0
 set:IsSet z
 wt01:∀ q,wt z q=0∨wt z q=1
theorem one_set {z:List Zp} (h:wrongZ z=0):One (setZ oneF z):=by
 have hw:=(wrongZ_iff z).1 h;have e:setZ oneF z=weighL oneF z:=by unfold setZ; rw [if_pos h]
 have hs:=weighL_set oneF z hw.2.2;refine ⟨?_,by rw [e]; exact hs,fun q=>?_⟩
 ·rw [e,wrongZ_iff];refine ⟨Nat.le_trans (weighL_len oneF z) hw.1,fun y hy=>?_,hs.rise⟩;obtain ⟨x,hx,rfl,h0⟩:=weighL_mem oneF z y hy;exact ⟨(wrongRow_bare _).2 (hw.2.1 x hx).1,h0,oneF_in (hw.2.1 x hx).2.2⟩
 ·rw [setZ_wt rfl h];unfold oneF
  split <;> simp
theorem one_dst {ts:List (List Int)} {data:List (List Zp)} {p:Pl} (h:evE ts data p=0):One (dstZ ts data p):=one_set (ev_ok h).right
theorem one_uni {a b:List Zp} (h:bothE 1 a b=0):One (uniZ a b):=one_set (both_inv h).2.2.2.1
theorem uni_wt {a b:List Zp} (h:bothE 1 a b=0) (q:List Vl):wt (uniZ a b) q=oneF (wt a q+wt b q):=by
 unfold uniZ;rw [setZ_wt rfl (both_inv h).2.2.2.1,(both_inv h).2.2.2.2]
 congr 1
 omega
theorem dst_wt {ts:List (List Int)} {data:List (List Zp)} {p:Pl} (h:evE ts data p=0) (q:List Vl):wt (dstZ ts data p) q=oneF (wt (evZ ts data p) q):=setZ_wt rfl (ev_ok h).right q
theorem One.nonneg {z:List Zp} (h:One z) (q:List Vl):0≤wt z q:=by have:=h.wt01 q; omega
/-- A set whose rows all stand in another one has no more rows; as many, and they are the same. -/
theorem sub_len:∀ {b a:List Zp},Rise a→Rise b→(∀ x ∈ a,x ∈ b)→a.length≤b.length∧(a.length=b.length→a=b)
 | [],a,_,_,h=>by
  have:a = []:=List.eq_nil_iff_forall_not_mem.2 fun x hx=>by simpa using h x hx
  subst this
  exact ⟨Nat.le_refl _,fun _=>rfl⟩
 | y :: b,[],_,_,_=>⟨Nat.zero_le _,fun e=>by simp at e⟩
 | y :: b,x :: a,ha,hb,h=>by
  have ha':=List.pairwise_cons.1 ha
  have hb':=List.pairwise_cons.1 hb
  rcases List.mem_cons.1 (h x (by simp)) with e | hx
  ·subst e
   have:=sub_len (b:=b) (a:=a) ha'.2 hb'.2 fun z hz=>by
    rcases List.mem_cons.1 (h z (by simp [hz])) with e | hz'
    ·subst e
     have:=ha'.1 z hz
     rw [cmpL_refl] at this
     omega
    ·exact hz'
   exact ⟨by simpa using this.1,fun e=>by rw [this.2 (by simpa using e)]⟩
  ·have:=sub_len (b:=b) (a:=x :: a) ha hb'.2 fun z hz=>by
    rcases List.mem_cons.1 (h z hz) with e | hz'
    ·subst e
     exfalso
     have h1:=hb'.1 x hx
     rcases List.mem_cons.1 hz with e | hz''
     ·subst e
      rw [cmpL_refl] at h1
      omega
     ·have h2:=ha'.1 z hz''
      have h3:=cmpL_neg x.1 z.1
      omega
    ·exact hz'
   simp only [List.length_cons] at this ⊢
   exact ⟨by omega,fun e=>by omega⟩
theorem One.mem {a:List Zp} (ha:One a) {x:Zp} (hx:x ∈ a):x.2=1∧wt a x.1=1:=by
 have h1:=wt_mem ha.set.rise x hx;have h2:=ha.set.ne x hx;have h3:=ha.wt01 x.1;omega
theorem One.sub {a b:List Zp} (ha:One a) (hb:One b) (h:∀ q,wt a q≤wt b q):∀ x ∈ a,x ∈ b:=fun x hx=>by
 obtain ⟨h1,h2⟩:=ha.mem hx
 have h3:=h x.1
 obtain ⟨y,hy,c,_⟩:=wt_posAt (l:=b) (q:=x.1) (by omega)
 have h4:=(hb.mem hy).1
 have h5:=bareL_of c
 rw [hb.set.bare y hy,ha.set.bare x hx] at h5
 have:y=x:=Prod.ext h5 (by omega)
 rw [← this]
 exact hy
theorem One.same {a b:List Zp} (ha:One a) (hb:One b) (h:∀ q,wt a q≤wt b q) (hl:b.length=a.length):a=b:=(sub_len ha.set.rise hb.set.rise (ha.sub hb h)).2 hl.symm
theorem uni_more {a b:List Zp} (ha:One a) (h:bothE 1 a b=0) (h0:∀ q,0≤wt b q) (q:List Vl):wt a q≤wt (uniZ a b) q:=by
 rw [uni_wt h];have:=ha.wt01 q;have:=h0 q;unfold oneF
 split <;> omega
/-- What Fix tells: rows x that a step adds nothing to. -/
structure FixOk (ts:List (List Int)) (p p':Pl) (data:List (List Zp)) (P:List Zp→Prop):Prop where
 wid:widE ts p p' data=0
 seed:evE ts data p=0
 one:One (fixR ts p p' data).1
 ev:evE (widL ts p) (data ++ [(fixR ts p p' data).1]) p'=0
 prop:P (fixR ts p p' data).1
 step:∀ q,wt (dstZ (widL ts p) (data ++ [(fixR ts p p' data).1]) p') q≤wt (fixR ts p p' data).1 q
end Go.Proofs.YtohjlfhmnmcndaaGreat
namespace Go.Proofs.YtohjlfhmnmcndaaGreat
open Go.RowKit

section
variable {P:Program} {ops:Array Oper} {Q:Exit→Act→World→Prop} {md:Region.Mode} {C:World→Prop} {Φ:Nat→World→Value→Prop} {I:Act→World→Prop}

/-- Nothing but the region's own temporaries has changed since. -/
structure Same (ops:Array Oper) (a0 a:Act):Prop where
 size:a.tmps.size=a0.tmps.size
 defers:a.defers=a0.defers
 tmps:∀ t:Tmp,(ops.all fun o=>o.dst != some t)=true→a.tmps.getD t undef=a0.tmps.getD t undef

def FactOf (ops:Array Oper) (Φ:Nat→World→Value→Prop) (i:Nat) (a:Act) (w:World):Prop :=
 ∀ o d,ops[i]? = some o→o.dst=some d→Φ i w (a.tmps.getD d undef)

/-- One operation, in whatever world, by the facts of what it stands behind. -/
def StepOf (P:Program) (md:Region.Mode) (ops:Array Oper) (Q:Exit→Act→World→Prop) (C:World→Prop) (Φ:Nat→World→Value→Prop) (I:Act→World→Prop) (a0:Act) (i:Nat) (o:Oper):Prop :=
 ∀ a w,C w→Same ops a0 a→I a w→(∀ e ∈ o.after,Region.binds md e=true→FactOf ops Φ e.on a w) →
  wpOp P ops Q i (fun a' w'=>∃ v,a'=a.put o.dst v∧Below w.heap.size w w'∧Φ i w' v∧I (a.put o.dst v) w') a w

def StepsOf (P:Program) (md:Region.Mode) (ops:Array Oper) (Q:Exit→Act→World→Prop) (C:World→Prop) (Φ:Nat→World→Value→Prop) (I:Act→World→Prop) (a0:Act):Nat→List Oper→Prop
 | _,[]=>True
 | i,o :: os=>StepOf P md ops Q C Φ I a0 i o∧StepsOf P md ops Q C Φ I a0 (i+1) os

theorem StepsOf.get {a0:Act}:∀ {l:List Oper} {k:Nat},StepsOf P md ops Q C Φ I a0 k l→∀ {i:Nat} {o:Oper},l[i]? = some o→StepOf P md ops Q C Φ I a0 (k+i) o
 | [],_,_,i,o,h=>by simp at h
 | o' :: l,k,H,0,o,h=>by simp at h; subst h; exact H.1
 | o' :: l,k,H,i+1,o,h=>by
  have:=StepsOf.get H.2 (i:=i) (by simpa using h)
  rw [show k+1+i=k+(i+1) by omega] at this
  exact this

/-- The region's text: each operation has a temporary of its own that is there, and stands behind earlier ones alone. -/
def tidy (md:Region.Mode) (ops:Array Oper) (n:Nat):Bool :=
 (List.range ops.size).all fun i=>match ops[i]? with
  | none=>true
  | some o=>(o.after.all fun e=>!Region.binds md e || decide (e.on<i)) && (match o.dst with
   | none=>true
   | some d=>decide (d<n) && (List.range ops.size).all fun j=>match ops[j]? with
    | none=>true
    | some o'=>decide (j=i) || (o'.dst != some d))

theorem tidy_spec {n:Nat} (h:tidy md ops n=true) {i:Nat} {o:Oper} (hi:ops[i]? = some o) :
  (∀ e ∈ o.after,Region.binds md e=true→e.on<i)∧∀ d,o.dst=some d→d<n∧∀ j o',ops[j]? = some o'→j≠i→o'.dst≠some d:=by
 have hlt:i<ops.size:=(Array.getElem?_eq_some_iff.1 hi).1;have h1:=List.all_eq_true.1 h i (List.mem_range.2 hlt);simp only [hi,Bool.and_eq_true] at h1;obtain ⟨h1,h2⟩:=h1;refine ⟨fun e he hb=>?_,fun d hd=>?_⟩
 ·have:=Array.all_eq_true_iff_forall_mem.1 h1 e he
  simpa [hb] using this
 ·simp only [hd,Bool.and_eq_true,decide_eq_true_eq] at h2;refine ⟨h2.1,fun j o' hj hne=>?_⟩;have hl:j<ops.size:=(Array.getElem?_eq_some_iff.1 hj).1;have:=List.all_eq_true.1 h2.2 j (List.mem_range.2 hl)
  simpa [hj,hne] using this
theorem put_same {a0 a:Act} {i:Nat} {o:Oper} {v:Value} (hi:ops[i]? = some o) (h:Same ops a0 a):Same ops a0 (a.put o.dst v):=by
 unfold Act.put;cases hd:o.dst with
 | none=>exact h
 | some d =>
  refine ⟨by simpa using h.size,h.defers,fun t ht=>?_⟩;have hne:d≠t:=fun e=>by
   have hlt:i<ops.size:=(Array.getElem?_eq_some_iff.1 hi).1;have:=Array.all_eq_true_iff_forall_mem.1 ht o (Array.mem_of_getElem? hi);rw [hd,e] at this;simp at this
  have:=h.tmps t ht;rw [← this];simp [Array.getD_eq_getD_getElem?,Array.getElem?_setIfInBounds_ne hne]
/-- Whatever is listed, so is what it stands behind. -/
def Closed (md:Region.Mode) (ops:Array Oper) (listed:Array Bool):Prop :=
 ∀ i o,ops[i]? = some o→listed.getD i false=true→∀ e ∈ o.after,Region.binds md e=true→listed.getD e.on false=true

theorem getD_lt {listed:Array Bool} {i:Nat} (h:i<listed.size) (d:Bool):listed.getD i d=listed[i]:=by simp [Array.getD,h]

end
end Go.Proofs.YtohjlfhmnmcndaaGreat
