/- Together: NJ, E3, E4, E5, E6, E6b, E7, E8, EH. -/
import Derived.Shelf.Abstract
import Derived.Test.YtohjlfhmnmcndaaGreatM13
import Derived.Test.YtohjlfhmnmcndaaGreatM12
namespace Go.Proofs.YtohjlfhmnmcndaaGreat
open Go.RowKit Go.Lib Go.Shelf
set_option maxRecDepth 100000
set_option maxHeartbeats 16000000
theorem BO {P:Program} (w:World) (t e:TypeId) (a:Option Addr) (l c:Nat) (h:P.underlying t=some (.slice e)):(binOp .eql t (.slice a l c) (.slice none 0 0)).run P w = .ok (.bool a.isNone) w:=by
 simp only [binOp];simp [run_equal_slice_nil w t e a l c h]
theorem EG (a:Option Addr) (cap:Nat) (l:List Int) (w:World) (h:bc w.heap.size w a l) (hl:l.length≤1000) :
  Calls Tryz.prog 39 #[.slice a l.length cap] w fun e w'=>∃ a' c,e = .returned (.slice a' l.length c)∧bc w'.heap.size w' a' l∧Below w.heap.size w w':=by
 obtain ⟨i0,hi,hj0,hj1,hj2⟩:=info_parts sM;have R:=dN h;cases a with
 | none =>
  have e:l = []:=Nu (R.nil rfl);subst e;have heq:=BO (P:=Tryz.prog) w 45 3 none 0 cap Tryz.underlying45;go_enter Tryz.func39,Tryz.ntmps39;go_wp2
  go_ret;exact ⟨none,0,rfl,⟨by simp,.inl rfl⟩,Nk _ _⟩
 | some ad =>
  have hal:=aa w (.cells #[] 3);have R1:=R.next hal;have ho:(w.alloc (.cells #[] 3)).ownsRow w.heap.size 3 1 (.slice (some ⟨w.heap.size,0,none⟩) 0 0) 0 []:=Oq w #[] 0 (Nj _) (by decide) rfl;have heq:=BO (P:=Tryz.prog) w 45 3 (some ad) l.length cap Tryz.underlying45;go_enter Tryz.func39,Tryz.ntmps39;go_upto_region 3 with fail
  go_wp2_with (at_builtin; refine bo rfl _ _ 45 rfl w.heap.size 3 i0 _ 1 8 Tryz.underlying45 hi hj0 hj1 hj2 rfl (by decide) _ _ _ rfl ho _ _ _ _ rfl R1 (by unfold maxLen; omega) (by omega) (by simp) ?_)
  intro v' w5 ho5 hg5;have hb5:Below w.heap.size w w5:=hal.grown hg5 (by simp) (fun q hq=>(ho.lt q hq).1);obtain ⟨a5,c5,rfl,it⟩:=iH (B:=0) (lo:=0) ho5 rfl (Nr _);go_wp2
  go_ret;exact ⟨a5,c5,rfl,it.at,hb5⟩
def dh (ts:List (List Int)) (p:Pl):List Int:=if aX ts p=0 then ah ts p else []
theorem yi (ts:List (List Int)) (p:Pl) (q:Pw) (ta:Option Addr) (tc:Nat) (w:World) (hT:fy w.heap.size w ta ts) (hp:ja w.heap.size w p q) (hk:cz p) :
  Calls Tryz.prog 15 #[.slice ta ts.length tc,bP p q] w fun e w'=>∃ a c,e = .returned (.tuple #[.slice a (dh ts p).length c,.int .i64 (aX ts p)])∧bc w'.heap.size w' a (dh ts p)∧Below w.heap.size w w':=by
 have hA:=aa w (.cells (eS p q) 31);have EL:=gY.new w p q 31;have con:=uY ts p q ta tc (w.alloc (.cells (eS p q) 31)) ((hT.next hA (Nj _)).up hA.size) ((hp.next hA (Nj _)).up hA.size) hk;have h8:Hid (aX ts p=0→(ah ts p).length≤8):=fun h=>iu (cD h).1 p 0 1 (cD h).2
 generalize hez:dh ts p=ez;have HZ:Hid (dh ts p=ez):=hez;generalize hle:aX ts p=le at con;have HLe:Hid (aX ts p=le):=hle;clear hk hez hle;obtain ⟨y0,y1,⟨y2,y3,y4,y5,y6,y7⟩,y8,y9,y10⟩:=EL;simp only [Np] at y1 y2 y3 y4 y5 y6 y7 y8 y9 y10;unfold bP at con ⊢;go_enter Tryz.func15,Tryz.ntmps15;go_upto_region 1 with fail
 generalize w.alloc (.cells (eS p q) 31)=wA at *;go_wp2_with fail
 refine con.mono ?_;rintro e w1 ⟨⟨v1,rfl,hv0,hv1⟩,hb1⟩;clear con y0 y1 y2 y3 y4 y5 y6 y7 y8 y9 y10;have hA1:=chain hA hb1;by_cases he:le=0;rotate_left
 ·have e0:=hv1 he;have e2:ez = []:=by rw [← HZ.out]; unfold dh; rw [HLe.out,if_neg he]
  subst e0 e2;have hal:=aa w1 (.cells #[.int .i64 0,.int .i64 0,.int .i64 0,.int .i64 0,.int .i64 0,.string ⟨#[]⟩,.int .i64 0,.slice none 0 0,.slice none 0 0,.slice none 0 0,.slice none 0 0,.slice none 0 0,.slice none 0 0] 73);have hA2:=chain hA1 hal;have heb:(le != 0)=true:=by simpa using he
  clear hv0 hv1 HZ HLe h8;unfold lI;go_upto_region 2 with fail
  generalize w1.alloc (.cells #[.int .i64 0,.int .i64 0,.int .i64 0,.int .i64 0,.int .i64 0,.string ⟨#[]⟩,.int .i64 0,.slice none 0 0,.slice none 0 0,.slice none 0 0,.slice none 0 0,.slice none 0 0,.slice none 0 0] 73)=w2 at *;go_wp2_with fail
  exact Nl (v:=.tuple #[.slice none 0 0,.int .i64 le]) (by simp [results,Tryz.results15,go_sem]) rfl ⟨none,0,rfl,⟨by simp,.inl rfl⟩,hA2⟩
 obtain ⟨ca,cc,na,nc,e0,ND⟩:=hv0 he;have e2:Hid (ah ts p=ez):=by show _=_; rw [← HZ.out]; unfold dh; rw [HLe.out,if_pos he]
 have g8:(ah ts p).length≤8:=h8.out (by rw [HLe.out,he]);subst e0;clear hv0 hv1 HLe h8 HZ;subst he;have IC:=ND.cols.at;have hal:=aa w1 (.cells (pd p q ca (ah ts p).length cc na p.ks.length nc) 73);have hA2:=chain hA1 hal;have z11:=cell_of (i:=11) (aw w1 (pd p q ca (ah ts p).length cc na p.ks.length nc) 73) rfl;have IC2:=(IC.next hal (Nj _)).up hal.size;clear ND IC;unfold oI;go_upto_region 2 with fail
 generalize w1.alloc (.cells (pd p q ca (ah ts p).length cc na p.ks.length nc) 73)=w2 at *;rw [e2.out] at z11 IC2 g8;have con:=EG ca cc ez w2 IC2 (by omega);go_wp2_with fail
 refine con.mono ?_;rintro e w3 ⟨a3,c3,rfl,I3,hb3⟩;clear con z11;go_wp2_with fail
 exact Nl (v:=.tuple #[.slice a3 ez.length c3,.int .i64 0]) (by simp [results,Tryz.results15,go_sem]) rfl ⟨a3,c3,rfl,I3,chain hA2 hb3⟩
abbrev xE (p:Pl) (q:Pw):Array Value:=#[.int .i64 p.k,.int .i64 p.n,.int .i64 p.x.k,.int .i64 p.x.v.1,.int .i64 p.x.v.2.1,.string p.x.v.2.2,.int .i64 p.x.c,.slice q.xa p.x.ks.length q.xc,.slice q.sa p.xs.length q.sc,.slice q.ga p.gs.length q.gc,.slice q.ka p.ks.length q.kc]
abbrev bK (p:Pl) (q:Pw):Obj:=.cells (xE p q) 31
theorem bT (w:World) (p:Pl) (q:Pw):Below w.heap.size w (w.alloc (bK p q)):=(Nk _ _).alloc (Nj _) _
theorem dI (w:World) (p:Pl) (q:Pw):oZ (w.alloc (bK p q)) w.heap.size p q:=⟨gY.new w p q 31,by simp⟩
def dE (ts:List (List Int)) (data:List (List Zp)) (p:Pl):List Zp:=gS fg (yr ts data p)
def fk (a b:List Zp):List Zp:=gS fg (cM 1 a b)
theorem Hq {ts:List (List Int)} {data:List (List Zp)} {p:Pl} (h:¬ hM ts data p=0):dE ts data p = []:=by unfold dE; rw [IK h]; rfl
theorem Ia {a b:List Zp} (h:¬ bh 1 a b=0):fk a b = []:=by unfold fk cM; rw [if_neg h]; rfl
theorem sW (ts:List (List Int)) (data:List (List Zp)) (p:Pl) (q:Pw) (ta:Option Addr) (tc:Nat) (da:Option Addr) (dc:Nat) (w:World) (hT:fy w.heap.size w ta ts) (hD:gL w da data) (hp:ja w.heap.size w p q) (hk:cz p) :
  Calls Tryz.prog 26 #[.slice ta ts.length tc,bP p q,.slice da data.length dc] w fun e w'=>∃ v,e = .returned (.tuple #[v,.int .i64 (hM ts data p)])∧bZ w.heap.size w' v (dE ts data p)∧Below w.heap.size w w':=by
 have hA:=bT w p q;have EL:=dI w p q;have con:=GS ts data p q ta tc da dc (w.alloc (bK p q)) ((hT.next hA (Nj _)).up hA.size) (hD.next hA) ((hp.next hA (Nj _)).up hA.size) hk;have HZ:Hid (dE ts data p=gS fg (yr ts data p)):=rfl;have HB:Hid (¬ hM ts data p=0→dE ts data p = []):=Hq;have HW:Hid (hM ts data p=0→aF (yr ts data p)=0):=fun h=>(Ij h).right
 generalize hM ts data p=ee at *;generalize yr ts data p=ez at *;generalize dE ts data p=dz at *;clear hk hT hD hp;obtain ⟨y0,y1,⟨y2,y3,y4,y5,y6,y7⟩,y8,y9,y10⟩:=EL.el;simp only [Np] at y1 y2 y3 y4 y5 y6 y7 y8 y9 y10;clear EL;unfold bP at con ⊢;go_enter Tryz.func26,Tryz.ntmps26;go_upto_region 1 with fail
 generalize w.alloc (bK p q)=wA at *;go_wp2_with fail
 refine con.mono ?_;rintro e w1 ⟨v1,rfl,O1,hb1⟩;clear con y0 y1 y2 y3 y4 y5 y6 y7 y8 y9 y10;obtain ⟨a1,c1,rfl,Z1,n1⟩:=O1.xK;have hA1:=chain hA hb1;by_cases he:ee=0;rotate_left
 ·have e2:=HB.out he;subst e2;have hb0:(ee != 0)=true:=by simpa using he
  clear HZ HB HW O1 Z1;go_wp2_with fail
  exact Nl (v:=.tuple #[.slice none 0 0,.int .i64 ee]) (by simp [results,Tryz.results26,go_sem]) rfl ⟨_,rfl,dY _ _,hA1⟩
 have con:=mc a1 c1 ez w1 Z1;rw [HW.out he,← HZ.out] at con;subst he;clear HZ HB HW O1 Z1;go_wp2_with fail
 refine con.mono ?_;rintro e w2 ⟨v2,rfl,O2,hb2⟩;clear con;have O2':=O2.mono hA1.size;go_wp2_with fail
 exact Nl (v:=.tuple #[v2,.int .i64 0]) (by simp [results,Tryz.results26,go_sem]) rfl ⟨_,rfl,O2',chain hA1 hb2⟩
theorem Fb (a b:Option Addr) (ca cb:Nat) (l l':List Zp) (w:World) (h:aL w a l) (h':aL w b l') (hn:a=none→ca=0) :
  Calls Tryz.prog 55 #[.slice a l.length ca,.slice b l'.length cb] w fun e w'=>∃ v,e = .returned (.tuple #[v,.int .i64 (bh 1 l l')])∧bZ w.heap.size w' v (fk l l')∧Below w.heap.size w w':=by
 have con:=HX a b ca cb l l' w h h' hn;have HZ:Hid (fk l l'=gS fg (cM 1 l l')):=rfl;have HB:Hid (¬ bh 1 l l'=0→fk l l' = []):=Ia;have HW:Hid (bh 1 l l'=0→aF (cM 1 l l')=0):=fun h=>(hZ h).2.2.2.1
 generalize bh 1 l l'=ee at *;generalize cM 1 l l'=ez at *;generalize fk l l'=dz at *;clear h h';go_enter Tryz.func55,Tryz.ntmps55;go_wp2_with fail
 refine con.mono ?_;rintro e w1 ⟨v1,rfl,O1,hb1⟩;clear con;obtain ⟨a1,c1,rfl,Z1,n1⟩:=O1.xK;by_cases he:ee=0;rotate_left
 ·have e2:=HB.out he;subst e2;have hb0:(ee != 0)=true:=by simpa using he
  clear HZ HB HW O1 Z1;go_wp2_with fail
  exact Nl (v:=.tuple #[.slice none 0 0,.int .i64 ee]) (by simp [results,Tryz.results55,go_sem]) rfl ⟨_,rfl,dY _ _,hb1⟩
 have con:=mc a1 c1 ez w1 Z1;rw [HW.out he,← HZ.out] at con;subst he;clear HZ HB HW O1 Z1;go_wp2_with fail
 refine con.mono ?_;rintro e w2 ⟨v2,rfl,O2,hb2⟩;clear con;have O2':=O2.mono hb1.size;go_wp2_with fail
 exact Nl (v:=.tuple #[v2,.int .i64 0]) (by simp [results,Tryz.results55,go_sem]) rfl ⟨_,rfl,O2',chain hb1 hb2⟩
def lQ (g:Nat) (cb:Array Value) (fE:List Zp→Int) (fZ:List Zp→List Zp) (w:World):Prop :=
 ∀ (z:List Zp) (za:Option Addr) (zc:Nat) (W:World),aL W za z→(za=none→zc=0)→Below w.heap.size w W→Calls Tryz.prog g (#[.slice za z.length zc] ++ cb) W fun e w'=>∃ v,e = .returned (.tuple #[v,.int .i64 (fE z)])∧bZ W.heap.size w' v (fZ z)∧Below W.heap.size W w'
theorem lQ.next {g:Nat} {cb:Array Value} {fE:List Zp→Int} {fZ:List Zp→List Zp} {w w1:World} (h:lQ g cb fE fZ w) (hb:Below w.heap.size w w1):lQ g cb fE fZ w1:=fun z za zc W hz hn hW=>h z za zc W hz hn (chain hb hW)
theorem AR (wide:List (List Int)) (p:Pl) (q:Pw) (data:List (List Zp)) (ta:Option Addr) (tc:Nat) (da:Option Addr) (dc:Nat) (B1 B2 B3:Nat) (w:World) (hB1:w.cell? ⟨B1,0,none⟩=some (.slice ta wide.length tc)) (hB2:oZ w B2 p q) (hB3:w.cell? ⟨B3,0,none⟩=some (.slice da data.length dc)) (hT:rB w ta wide) (hp:pM w p q) (hk:cz p) (hD:gL w da data) (hl:data.length≤8) :
  lQ 53 #[.pointer (some ⟨B1,0,none⟩),.pointer (some ⟨B2,0,none⟩),.pointer (some ⟨B3,0,none⟩)] (fun z=>hM wide (data ++ [z]) p) (fun z=>dE wide (data ++ [z]) p) w:=by
 intro z za zc W hz hn hb;have HK:Hid (cz p):=hk;have hCC:∀ W W':World,(W.cell? ⟨B1,0,none⟩=some (.slice ta wide.length tc)∧oZ W B2 p q∧W.cell? ⟨B3,0,none⟩=some (.slice da data.length dc))→Below W.heap.size W W'→(W'.cell? ⟨B1,0,none⟩=some (.slice ta wide.length tc)∧oZ W' B2 p q∧W'.cell? ⟨B3,0,none⟩=some (.slice da data.length dc)):=fun W W' h hb=>⟨(hb.cell (p:=⟨B1,0,none⟩) (Nt _ _ h.1)).trans h.1,h.2.1.next hb,(hb.cell (p:=⟨B3,0,none⟩) (Nt _ _ h.2.2)).trans h.2.2⟩
 have C0:=hCC _ _ ⟨hB1,hB2,hB3⟩ hb;have TX:=hT.next hb;have PX:=hp.next hb;have DX:=hD.next hb;have HN:Hid (za=none→zc=0):=hn;dsimp only;generalize hee:hM wide (data ++ [z]) p=ee;generalize hez:dE wide (data ++ [z]) p=ez;have HE:Hid (hM wide (data ++ [z]) p=ee):=hee;have HZ:Hid (dE wide (data ++ [z]) p=ez):=hez;clear hB1 hB2 hB3 hT hp hk hD hb hee hez hn w;show Calls Tryz.prog 53 #[.slice za z.length zc,.pointer (some ⟨B1,0,none⟩),.pointer (some ⟨B2,0,none⟩),.pointer (some ⟨B3,0,none⟩)] W _;go_enter Tryz.func53,Tryz.ntmps53;go_upto_region 1 with fail
 have hdr:Below W.heap.size W W.drew:=(Nk _ _).drew;have CW:=hCC _ _ C0 hdr;clear C0;refine aK (fun W=>W.cell? ⟨B1,0,none⟩=some (.slice ta wide.length tc)∧oZ W B2 p q∧W.cell? ⟨B3,0,none⟩=some (.slice da data.length dc)) (by kernel_rfl) ?_;refine ab hCC 7 (i:=0) (v:=.slice ta wide.length tc) (fun n hn=>?_) CW ?_
 ·have hc:=hn.1;clear hn CW hCC;go_simp
 simp only [Act.put,pA,pB,pC];refine ab hCC 8 (i:=1) (v:=.agg (xE p q)) (fun n hn=>?_) CW ?_
 ·obtain ⟨y0,y1,⟨y2,y3,y4,y5,y6,y7⟩,y8,y9,y10⟩:=hn.2.1.el;simp only [Np] at y1 y2 y3 y4 y5 y6 y7 y8 y9 y10;clear hn CW hCC;go_simp
 simp only [Act.put,pA,pB,pC];refine ab hCC 9 (i:=2) (v:=.slice da data.length dc) (fun n hn=>?_) CW ?_
 ·have hc:=hn.2.2;clear hn CW hCC;go_simp
 simp only [Act.put,pA,pB,pC];refine ab hCC 10 (i:=3) (v:=.slice za z.length zc) (fun n hn=>?_) CW ?_
 ·clear hn CW hCC;go_simp
 simp only [Act.put,pA,pB,pC];refine az (rs:=[4]) (by kernel_rfl) (by simp) ?_;intro w4 hb4 jj hj;obtain rfl:jj=4:=by simpa using hj
 clear hj;have D4:=chain hdr hb4;have CW4:=hCC _ _ CW hb4;have hal4:=aa w4 (.cells #[.slice za z.length zc] 34);have R4:=BX w4 (.slice za z.length zc) rfl 34;have D5:=chain D4 hal4;have CW5:=hCC _ _ CW4 hal4;refine wpOp_step rfl (fun K hK=>?_);go_simp;refine hK _ _ ⟨CW5,?_⟩;clear hK K CW CW4 hal4 hb4 D4;generalize w4.heap.size=g4 at *;generalize w4.alloc (.cells #[.slice za z.length zc] 34)=w5 at *;refine az (rs:=[5]) (by kernel_rfl) (by simp) ?_;intro w6 hb6 jj hj;obtain rfl:jj=5:=by simpa using hj
 clear hj;have D6:=chain D5 hb6;have CW6:=hCC _ _ CW5 hb6;obtain ⟨f,RD,hf⟩:=(DX.next D6).raw;have PC:=gA.new dc 1 RD (R4.next hb6) 32;have hal6:=aa w6 (.cells #[.slice da data.length dc,.slice (some ⟨g4,0,none⟩) 1 1] 32);have D7:=chain D6 hal6;have CW7:=hCC _ _ CW6 hal6;refine wpOp_step rfl (fun K hK=>?_);go_simp;refine hK _ _ ⟨CW7,?_⟩;clear hK K CW5 CW6 R4 RD hb6
 have HF:Hid (∀ (i:Nat) (hi:i<data.length),∃ ai ci,f i = .slice ai data[i].length ci∧aL (w6.alloc (.cells #[.slice da data.length dc,.slice (some ⟨g4,0,none⟩) 1 1] 32)) ai data[i]∧(ai=none→ci=0)):=fun i hi=>by
  obtain ⟨ai,ci,e,h,k⟩:=hf i hi;exact ⟨ai,ci,e,h.next hal6,k⟩
 clear hf hal6;generalize w6.heap.size=g6 at *;generalize w6.alloc (.cells #[.slice da data.length dc,.slice (some ⟨g4,0,none⟩) 1 1] 32)=w7 at *;refine az (rs:=[6]) (by kernel_rfl) (by simp) ?_;intro w8 hb8 jj hj;obtain rfl:jj=6:=by simpa using hj
 clear hj;have D8:=chain D7 hb8;have CW8:=hCC _ _ CW7 hb8;have con:=A9 g6 _ _ _ _ w8 (PC.next hb8) (by omega);refine wpOp_step rfl (fun K hK=>?_);go_simp;refine con.mono ?_;rintro e w9 ⟨v9,rfl,O9,hb9⟩;have D9:=chain D8 hb9;have CW9:=hCC _ _ CW8 hb9;obtain ⟨a9,c9,rfl,DT⟩:∃ a c,v9 = .slice a (data.length+1) c∧gL w9 a (data ++ [z]):=by
  rcases wR O9 with ⟨h0,_⟩ | ⟨g,cap,rfl,hg,hc⟩
  ·omega
  refine ⟨_,cap,rfl,ID rfl hg hc (fun i hi=>?_) (hz.next D9) HN.out⟩;obtain ⟨ai,ci,e,h,k⟩:=HF.out i hi;exact ⟨ai,ci,e,h.next (chain hb8 hb9),k⟩
 refine hK _ _ ⟨CW9,?_⟩;clear hK K con O9 CW7 CW8 PC HF;refine az (rs:=[7]) (by kernel_rfl) (by simp) ?_;intro wA hbA jj hj;obtain rfl:jj=7:=by simpa using hj
 clear hj;have DA:=chain D9 hbA;have CWA:=hCC _ _ CW9 hbA;have con:=sW wide (data ++ [z]) p q ta tc a9 c9 wA (TX.next DA) (DT.next hbA) (PX.next DA) HK.out;rw [HE.out,HZ.out,Nx,Pd] at con;unfold bP at con;refine wpOp_step rfl (fun K hK=>?_);go_simp;refine con.mono ?_;rintro e wB ⟨vB,rfl,OB,hbB⟩;clear con;have DB:=chain DA hbB;have CWB:=hCC _ _ CWA hbB;have OB':=OB.mono DA.size;refine hK _ _ ⟨CWB,?_⟩;clear hK K CW9 CWA OB
 refine ab hCC 15 (i:=8) (v:=vB) (fun n hn=>?_) CWB ?_
 ·clear hn;go_simp
 simp only [Act.put,pA,pB,pC];refine ab hCC 16 (i:=9) (v:=.int .i64 ee) (fun n hn=>?_) CWB ?_
 ·clear hn;go_simp
 simp only [Act.put,pA,pB,pC];refine ab hCC 5 (i:=10) (v:=vB) (fun n hn=>?_) CWB ?_
 ·clear hn;go_simp
 simp only [Act.put,pA,pB,pC];refine ab hCC 6 (i:=11) (v:=.int .i64 ee) (fun n hn=>?_) CWB ?_
 ·clear hn;go_simp
 simp only [Act.put,pA,pB,pC];refine bL (by kernel_rfl) ?_;intro wC hbC;have OC:=OB'.next hbC;have DC:=chain DB hbC;clear CWB OB';go_wp2
 exact Nl (v:=.tuple #[vB,.int .i64 ee]) (by simp [results,Tryz.results53,go_sem]) rfl ⟨_,rfl,OC,DC⟩
def wz (g:Nat) (cb:Array Value) (fE:List Zp→List Zp→Int) (fZ:List Zp→List Zp→List Zp) (w:World):Prop :=
 ∀ (x y:List Zp) (xa:Option Addr) (xc:Nat) (ya:Option Addr) (yc:Nat) (W:World),aL W xa x→(xa=none→xc=0)→aL W ya y→(ya=none→yc=0)→Below w.heap.size w W→Calls Tryz.prog g (#[.slice xa x.length xc,.slice ya y.length yc] ++ cb) W fun e w'=>∃ v,e = .returned (.tuple #[v,.int .i64 (fE x y)])∧bZ W.heap.size w' v (fZ x y)∧Below W.heap.size W w'
def nG (fE:List Zp→List Zp→Int) (fZ:List Zp→List Zp→List Zp):Nat→Int→List Zp→List Zp→List Zp × Int × Int
 | 0,_,_,_=>([],0,10)
 | n+1,r,x,y=>if fE x y≠0 then ([],0,fE x y) else if bh 1 x (fZ x y)≠0 then ([],0,bh 1 x (fZ x y)) else if (fk x (fZ x y)).length=x.length then (fk x (fZ x y),r+1,0)
  else if bh (-1) (fk x (fZ x y)) x≠0 then ([],0,bh (-1) (fk x (fZ x y)) x) else nG fE fZ n (r+1) (fk x (fZ x y)) (cM (-1) (fk x (fZ x y)) x)
theorem yL (g:Nat) (cb:Array Value) (fE:List Zp→List Zp→Int) (fZ:List Zp→List Zp→List Zp) (z0:List Zp) (za:Option Addr) (zc:Nat) (w:World) (eg:∀ args w,(callFunc g args).run Tryz.prog w = .ok (.enter g args) w) (hm:wz g cb fE fZ w) (hz:aL w za z0) (hn:za=none→zc=0) :
  Calls Tryz.prog 28 #[.slice za z0.length zc,.func (.func g) #[] cb] w fun e w'=>∃ v,e = .returned (.tuple #[v,.int .i64 (nG fE fZ 50 0 z0 z0).2.1,.int .i64 (nG fE fZ 50 0 z0 z0).2.2])∧bZ w.heap.size w' v (nG fE fZ 50 0 z0 z0).1∧Below w.heap.size w w':=by
 have HM:Hid (wz g cb fE fZ w):=hm;generalize hR:nG fE fZ 50 0 z0 z0=R;have HR:Hid (R=nG fE fZ (50 - 0) ((0:Nat):Int) z0 z0):=hR.symm;clear hR hm;go_enter Tryz.func28,Tryz.ntmps28;go_wp2_with fail
 go_loopw [0,7,13] (fun va vf i wr=>∃ (k:Nat) (x y:List Zp) (xa ya:Option Addr) (xc yc:Nat),k≤50∧i = .int .i64 k∧va = .slice xa x.length xc∧vf = .slice ya y.length yc∧Hid (xa=none→xc=0)∧Hid (ya=none→yc=0)∧aL wr xa x∧aL wr ya y∧Hid (R=nG fE fZ (50 - k) (k:Int) x y)∧Below w.heap.size w wr) (fun _ _ i _=>50 - (intOf i).toNat)
 case atStart=>exact ⟨0,z0,z0,za,za,zc,zc,by omega,rfl,rfl,rfl,hn,hn,hz,hz,HR,Nk _ _⟩
 case round =>
  clear HR hz hn;obtain ⟨k,x,y,xa,ya,xc,yc,hk,rfl,rfl,rfl,nx,ny,zx,zy,HR,hb⟩:=hrel;by_cases hlt:k<50;rotate_left
  ·have e:k=50:=by omega
   subst e;have e:R=([],0,10):=HR.out;subst e;clear HR;go_wp2_with fail
   exact Nl (v:=.tuple #[.slice none 0 0,.int .i64 0,.int .i64 10]) (by simp [results,Tryz.results28,go_sem]) rfl ⟨_,rfl,dY _ _,hb⟩
  have hkz:(k:Int)<50:=by omega
  have HR':Hid (R=nG fE fZ (50 - (k+1)+1) (k:Int) x y):=by show _=_; rw [show 50 - (k+1)+1=50 - k by omega]; exact HR.out
  clear HR;have con:=HM.out x y xa xc ya yc wr zx nx.out zy ny.out hb;generalize hfe:fE x y=fe at con;generalize hfz:fZ x y=fz at con;have HFE:Hid (fE x y=fe):=hfe;have HFZ:Hid (fZ x y=fz):=hfz;clear hfe hfz zy ny;go_upto_region 6 with (go_at_fn g; refine con.mono ?_; rintro e w1 ⟨v1,rfl,O1,hb1⟩)
  clear con;obtain ⟨a1,c1,rfl,Z1,n1⟩:=O1.xK;have hA1:=chain hb hb1;by_cases h0:fe=0;rotate_left
  ·have e:R=([],0,fe):=by rw [HR'.out,nG,HFE.out,if_pos h0]
   subst e;have hb0:(fe != 0)=true:=by simpa using h0
   clear HR' HFE HFZ O1 Z1 zx;go_wp2_with fail
   exact Nl (v:=.tuple #[.slice none 0 0,.int .i64 0,.int .i64 fe]) (by simp [results,Tryz.results28,go_sem]) rfl ⟨_,rfl,dY _ _,hA1⟩
  have HR1:Hid (R=if bh 1 x fz≠0 then ([],0,bh 1 x fz) else if (fk x fz).length=x.length then (fk x fz,(k:Int)+1,0)
    else if bh (-1) (fk x fz) x≠0 then ([],0,bh (-1) (fk x fz) x) else nG fE fZ (50 - (k+1)) ((k:Int)+1) (fk x fz) (cM (-1) (fk x fz) x)):=by
   show _=_;rw [HR'.out,nG,HFE.out,HFZ.out,h0];simp only [ne_eq,not_true_eq_false,if_false]
  subst h0;clear HR' HFE HFZ O1;have con:=Fb xa a1 xc c1 x fz w1 (zx.next hb1) Z1 nx.out;generalize bh 1 x fz=be at *;generalize fk x fz=uz at *;go_upto_region 9 with (refine con.mono ?_; rintro e w2 ⟨v2,rfl,O2,hb2⟩)
  clear con;obtain ⟨a2,c2,rfl,Z2,n2⟩:=O2.xK;have hA2:=chain hA1 hb2;by_cases h0:be=0;rotate_left
  ·have e:R=([],0,be):=by rw [HR1.out,if_pos h0]
   subst e;have hb0:(be != 0)=true:=by simpa using h0
   clear HR1 O2 Z1 Z2 zx;go_wp2_with fail
   exact Nl (v:=.tuple #[.slice none 0 0,.int .i64 0,.int .i64 be]) (by simp [results,Tryz.results28,go_sem]) rfl ⟨_,rfl,dY _ _,hA2⟩
  have HR2:Hid (R=if uz.length=x.length then (uz,(k:Int)+1,0) else if bh (-1) uz x≠0 then ([],0,bh (-1) uz x) else nG fE fZ (50 - (k+1)) ((k:Int)+1) uz (cM (-1) uz x)):=by
   show _=_;rw [HR1.out,if_neg (by simpa using h0)]
  subst h0;clear HR1 Z1;by_cases hll:uz.length=x.length
  ·have e:R=(uz,(k:Int)+1,0):=by rw [HR2.out,if_pos hll]
   subst e;have hbl:((uz.length:Int) == (x.length:Int))=true:=by simp [hll]
   have O2':=O2.mono hA1.size;clear HR2 hll Z2 zx O2;go_wp2_with fail
   exact Nl (v:=.tuple #[.slice a2 uz.length c2,.int .i64 ((k:Int)+1),.int .i64 0]) (by simp [results,Tryz.results28,go_sem]) rfl ⟨_,rfl,O2',hA2⟩
  have HR3:Hid (R=if bh (-1) uz x≠0 then ([],0,bh (-1) uz x) else nG fE fZ (50 - (k+1)) ((k:Int)+1) uz (cM (-1) uz x)):=by
   show _=_;rw [HR2.out,if_neg hll]
  have hbl:((uz.length:Int) == (x.length:Int))=false:=by simp; omega
  clear HR2 hll O2;have con:=Hl a2 xa c2 xc uz x w2 Z2 (zx.next (chain hb1 hb2)) n2;generalize bh (-1) uz x=se at *;generalize cM (-1) uz x=sz at *;go_upto_region 14 with (refine con.mono ?_; rintro e w3 ⟨v3,rfl,O3,hb3⟩)
  clear con hbl;obtain ⟨a3,c3,rfl,Z3,n3⟩:=O3.xK;have hA3:=chain hA2 hb3;by_cases h0:se=0;rotate_left
  ·have e:R=([],0,se):=by rw [HR3.out,if_pos h0]
   subst e;have hb0:(se != 0)=true:=by simpa using h0
   clear HR3 O3 Z3 Z2 zx;go_wp2_with fail
   exact Nl (v:=.tuple #[.slice none 0 0,.int .i64 0,.int .i64 se]) (by simp [results,Tryz.results28,go_sem]) rfl ⟨_,rfl,dY _ _,hA3⟩
  have HR4:Hid (R=nG fE fZ (50 - (k+1)) ((k:Int)+1) uz sz):=by
   show _=_;rw [HR3.out,if_neg (by simpa using h0)]
  subst h0;have Z2':=Z2.next hb3;clear HR3 Z2 zx O3;go_wp2_with fail
  go_roundw
  case rel=>exact ⟨k+1,uz,sz,a2,a3,c2,c3,by omega,by go_num,rfl,rfl,n2,n3,Z2',Z3,HR4,hA3⟩
  case measure=>simp [intOf]; omega
theorem Dl (w:World) (ta:Option Addr) (n tc:Nat) (p:Pl) (q:Pw) (da:Option Addr) (m dc:Nat):Below w.heap.size w (((w.alloc (.cells #[.slice ta n tc] 22)).alloc (bK p q)).alloc (.cells #[.slice da m dc] 32)):=(((Nk _ _).alloc (Nj _) _).alloc (by simp) _).alloc (by simp; omega) _
theorem Mq (w:World) (ta:Option Addr) (n tc:Nat) (p:Pl) (q:Pw) (da:Option Addr) (m dc:Nat):(((w.alloc (.cells #[.slice ta n tc] 22)).alloc (bK p q)).alloc (.cells #[.slice da m dc] 32)).cell? ⟨w.heap.size,0,none⟩=some (.slice ta n tc):=by
 have h1:(w.alloc (.cells #[.slice ta n tc] 22)).cell? ⟨w.heap.size,0,none⟩=some (.slice ta n tc):=cell_of (i:=0) (aw w #[.slice ta n tc] 22) rfl;have hb:Below (w.alloc (.cells #[.slice ta n tc] 22)).heap.size (w.alloc (.cells #[.slice ta n tc] 22)) (((w.alloc (.cells #[.slice ta n tc] 22)).alloc (bK p q)).alloc (.cells #[.slice da m dc] 32)):=((Nk _ _).alloc (Nj _) _).alloc (by simp) _;exact (hb.cell (p:=⟨w.heap.size,0,none⟩) (by simp)).trans h1
theorem Mg (w:World) (ta:Option Addr) (n tc:Nat) (p:Pl) (q:Pw) (da:Option Addr) (m dc:Nat):oZ (((w.alloc (.cells #[.slice ta n tc] 22)).alloc (bK p q)).alloc (.cells #[.slice da m dc] 32)) (w.heap.size+1) p q:=by
 have h:=dI (w.alloc (.cells #[.slice ta n tc] 22)) p q;rw [show (w.alloc (.cells #[.slice ta n tc] 22)).heap.size=w.heap.size+1 by simp] at h;exact h.next ((Nk _ _).alloc (Nj _) _)
theorem Mp (w:World) (ta:Option Addr) (n tc:Nat) (p:Pl) (q:Pw) (da:Option Addr) (m dc:Nat):(((w.alloc (.cells #[.slice ta n tc] 22)).alloc (bK p q)).alloc (.cells #[.slice da m dc] 32)).cell? ⟨w.heap.size+2,0,none⟩=some (.slice da m dc):=by
 have h:=cell_of (i:=0) (aw ((w.alloc (.cells #[.slice ta n tc] 22)).alloc (bK p q)) #[.slice da m dc] 32) rfl
 rwa [show ((w.alloc (.cells #[.slice ta n tc] 22)).alloc (bK p q)).heap.size=w.heap.size+2 by simp] at h
theorem uC (wide:List (List Int)) (p:Pl) (q:Pw) (data:List (List Zp)) (ta:Option Addr) (tc:Nat) (da:Option Addr) (dc:Nat) (w:World) (hT:rB w ta wide) (hp:pM w p q) (hk:cz p) (hD:gL w da data) (hl:data.length≤8) :
  Calls Tryz.prog 27 #[.slice ta wide.length tc,bP p q,.slice da data.length dc] w fun e w'=>e = .returned (.func (.func 53) #[] #[.pointer (some ⟨w.heap.size,0,none⟩),.pointer (some ⟨w.heap.size+1,0,none⟩),.pointer (some ⟨w.heap.size+2,0,none⟩)])∧lQ 53 #[.pointer (some ⟨w.heap.size,0,none⟩),.pointer (some ⟨w.heap.size+1,0,none⟩),.pointer (some ⟨w.heap.size+2,0,none⟩)] (fun z=>hM wide (data ++ [z]) p) (fun z=>dE wide (data ++ [z]) p) w'∧Below w.heap.size w w':=by
 have hA:=Dl w ta wide.length tc p q da data.length dc;have T:=AR wide p q data ta tc da dc w.heap.size (w.heap.size+1) (w.heap.size+2) _ (Mq w ta wide.length tc p q da data.length dc) (Mg w ta wide.length tc p q da data.length dc) (Mp w ta wide.length tc p q da data.length dc) (hT.next hA) (hp.next hA) hk (hD.next hA) hl
 have HT:Hid (lQ 53 #[.pointer (some ⟨w.heap.size,0,none⟩),.pointer (some ⟨w.heap.size+1,0,none⟩),.pointer (some ⟨w.heap.size+2,0,none⟩)] (fun z=>hM wide (data ++ [z]) p) (fun z=>dE wide (data ++ [z]) p) (((w.alloc (.cells #[.slice ta wide.length tc] 22)).alloc (bK p q)).alloc (.cells #[.slice da data.length dc] 32))):=T;clear T hT hp hk hD;unfold bP;go_enter Tryz.func27,Tryz.ntmps27;go_upto_region 1 with fail
 generalize ((w.alloc (.cells #[.slice ta wide.length tc] 22)).alloc (bK p q)).alloc (.cells #[.slice da data.length dc] 32)=wA at *;go_wp2
 go_ret;exact ⟨rfl,HT.out,hA⟩
theorem Mr:∀ args w,(callFunc 53 args).run Tryz.prog w = .ok (.enter 53 args) w:=enters_of Tryz.func53 (by kernel_rfl) rfl
theorem MM:∀ args w,(callFunc 29 args).run Tryz.prog w = .ok (.enter 29 args) w:=enters_of Tryz.func29 (by kernel_rfl) rfl
theorem Jn (g:Nat) (cb:Array Value) (fE:List Zp→Int) (fZ:List Zp→List Zp) (B:Nat) (w:World) (eg:∀ args w,(callFunc g args).run Tryz.prog w = .ok (.enter g args) w) (hm:lQ g cb fE fZ w) (hB:w.cell? ⟨B,0,none⟩=some (.func (.func g) #[] cb)) :
  wz 29 #[.pointer (some ⟨B,0,none⟩)] (fun x _=>fE x) (fun x _=>fZ x) w:=by
 intro x y xa xc ya yc W zx nx zy ny hb;have con:=hm x xa xc W zx nx hb;have hc:=(hb.cell (p:=⟨B,0,none⟩) (Nt _ _ hB)).trans hB;clear hm hB zx zy hb nx ny;dsimp only;generalize fE x=ee at *;generalize fZ x=ez at *;show Calls Tryz.prog 29 #[.slice xa x.length xc,.slice ya y.length yc,.pointer (some ⟨B,0,none⟩)] W _;go_enter Tryz.func29,Tryz.ntmps29;go_wp2_with (go_at_fn g; refine con.mono ?_; rintro e w1 ⟨v1,rfl,O1,hb1⟩)
 exact Nl (v:=.tuple #[v1,.int .i64 ee]) (by simp [results,Tryz.results29,go_sem]) rfl ⟨_,rfl,O1,hb1⟩
def bN (ts:List (List Int)) (qJ:Pl):List (List Int):=ts ++ [dh ts qJ]
def eA (ts:List (List Int)) (qJ step:Pl) (data:List (List Zp)):Int:=if aX ts qJ≠0 then aX ts qJ else if aX (bN ts qJ) step≠0 then aX (bN ts qJ) step else if (dh (bN ts qJ) step).length≠(dh ts qJ).length then 8 else if dh (bN ts qJ) step≠dh ts qJ then 9 else bG ts data
theorem jM (w:World) (p:Pl) (q:Pw) (p':Pl) (q':Pw):Below w.heap.size w ((w.alloc (bK p q)).alloc (bK p' q')):=((Nk _ _).alloc (Nj _) _).alloc (by simp) _
theorem zL (w:World) (p:Pl) (q:Pw) (p':Pl) (q':Pw):oZ ((w.alloc (bK p q)).alloc (bK p' q')) w.heap.size p q:=(dI w p q).next (bT _ p' q')
theorem yO (w:World) (p:Pl) (q:Pw) (p':Pl) (q':Pw):oZ ((w.alloc (bK p q)).alloc (bK p' q')) (w.heap.size+1) p' q':=by
 have h:=dI (w.alloc (bK p q)) p' q'
 rwa [show (w.alloc (bK p q)).heap.size=w.heap.size+1 by simp] at h
def Mi (we:Int) (wide:List (List Int)) (w':World) (e:Ending):Prop:=(we=0→∃ a c,e = .returned (.tuple #[.slice a wide.length c,.int .i64 0])∧rB w' a wide)∧(¬ we=0→e = .returned (.tuple #[.slice none 0 0,.int .i64 we]))
theorem CE {ts:List (List Int)} {p:Pl} (h:aX ts p=0):(dh ts p).length≤8:=by
 unfold dh;rw [if_pos h];exact iu (cD h).1 p 0 1 (cD h).2
theorem yj (ts:List (List Int)) (p:Pl) (q:Pw) (p':Pl) (q':Pw) (data:List (List Zp)) (ta:Option Addr) (tc:Nat) (da:Option Addr) (dc:Nat) (w:World) (hT:rB w ta ts) (hp:pM w p q) (hk:cz p) (hp':pM w p' q') (hk':cz p') (hD:gL w da data) :
  Calls Tryz.prog 25 #[.slice ta ts.length tc,bP p q,bP p' q',.slice da data.length dc] w fun e w'=>Mi (eA ts p p' data) (bN ts p) w' e∧Below w.heap.size w w':=by
 have hA:=jM w p q p' q';have EL:=zL w p q p' q';have ER:=yO w p q p' q';have HK:Hid (cz p):=hk;have HK':Hid (cz p'):=hk';have TX:=hT.next hA;have PX:=hp.next hA;have PX':=hp'.next hA;have DX:=hD.next hA;have hwl:Hid (bN ts p=ts ++ [dh ts p]):=rfl;generalize hwe:eA ts p p' data=we;have HWE:Hid (eA ts p p' data=we):=hwe;have con:=yi ts p q ta tc _ TX PX hk;have HC8:Hid (aX ts p=0→(dh ts p).length≤8∧ts.length≤8):=fun h=>⟨CE h,Ci (cD h).1⟩
 generalize hle:aX ts p=le at con;generalize hcs:dh ts p=cs at con;have HLE:Hid (aX ts p=le):=hle;have HCS:Hid (dh ts p=cs):=hcs;clear hk hk' hT hp hp' hD hwe hle hcs;obtain ⟨y0,y1,⟨y2,y3,y4,y5,y6,y7⟩,y8,y9,y10⟩:=EL.el;simp only [Np] at y1 y2 y3 y4 y5 y6 y7 y8 y9 y10;unfold bP at con ⊢;go_enter Tryz.func25,Tryz.ntmps25;go_upto_region 1 with fail
 generalize (w.alloc (bK p q)).alloc (bK p' q')=wA at *;go_wp2_with fail
 refine con.mono ?_;rintro e w1 ⟨a1,c1,rfl,I1,hb1⟩;clear con y0 y1 y2 y3 y4 y5 y6 y7 y8 y9 y10 EL;have hA1:=chain hA hb1;by_cases h0:le=0;rotate_left
 ·have e1:we=le:=by rw [← HWE.out]; unfold eA; rw [HLE.out,if_pos h0]
  subst e1;have hb0:(we != 0)=true:=by simpa using h0
  clear HWE HLE HCS HC8 I1;go_wp2_with fail
  exact Nl (v:=.tuple #[.slice none 0 0,.int .i64 we]) (by simp [results,Tryz.results25,go_sem]) rfl ⟨⟨fun h=>absurd h h0,fun _=>rfl⟩,hA1⟩
 have c8:=(HC8.out (by rw [HLE.out]; exact h0))
 rw [HCS.out] at c8;obtain ⟨c8,t8⟩:=c8;replace TX:=TX.next hb1;replace PX':=PX'.next hb1;replace DX:=DX.next hb1;replace ER:=ER.next hb1;have HL0:Hid (aX ts p=0):=by show _=_; rw [HLE.out,h0]
 subst h0;clear HLE HC8 PX;have con:=Fw ts cs ta tc a1 c1 w1 TX I1 t8;have hwl':Hid (bN ts p=ts ++ [cs]):=by show _=_; rw [hwl.out,HCS.out]
 rw [← hwl'.out] at con;go_wp2_with fail
 refine con.mono ?_;rintro e w2 ⟨a2,c2,rfl,T2,hb2⟩;clear con;have hA2:=chain hA1 hb2;replace TX:=TX.next hb2;replace PX':=PX'.next hb2;replace DX:=DX.next hb2;replace ER:=ER.next hb2;have I2:=IX.next I1 hb2;have con:=yi (bN ts p) p' q' a2 c2 w2 T2 PX' HK'.out;generalize hle:aX (bN ts p) p'=le2 at con;generalize hcs:dh (bN ts p) p'=cs2 at con;have HLE:Hid (aX (bN ts p) p'=le2):=hle;have HCS2:Hid (dh (bN ts p) p'=cs2):=hcs;clear hle hcs I1 PX';generalize hwi:bN ts p=wide at *;obtain ⟨y0,y1,⟨y2,y3,y4,y5,y6,y7⟩,y8,y9,y10⟩:=ER.el
 simp only [Np] at y1 y2 y3 y4 y5 y6 y7 y8 y9 y10;unfold bP at con;go_wp2_with fail
 refine con.mono ?_;rintro e w3 ⟨a3,c3,rfl,I3,hb3⟩;clear con y0 y1 y2 y3 y4 y5 y6 y7 y8 y9 y10 ER;have hA3:=chain hA2 hb3;by_cases h0:le2=0;rotate_left
 ·have e1:we=le2:=by rw [← HWE.out]; unfold eA; rw [HL0.out,hwi,HLE.out,if_neg (by simp),if_pos h0]
  subst e1;have hb0:(we != 0)=true:=by simpa using h0
  clear HWE HLE HCS HCS2 HL0 hwl hwl' I3;go_wp2_with fail
  exact Nl (v:=.tuple #[.slice none 0 0,.int .i64 we]) (by simp [results,Tryz.results25,go_sem]) rfl ⟨⟨fun h=>absurd h h0,fun _=>rfl⟩,hA3⟩
 replace TX:=TX.next hb3;replace DX:=DX.next hb3;replace T2:=rB.next T2 hb3;replace I2:=IX.next I2 hb3;have HW2:Hid (we=if cs2.length≠cs.length then 8 else if cs2≠cs then 9 else bG ts data):=by
  show _=_;rw [← HWE.out]; unfold eA; rw [HL0.out,hwi,HLE.out,h0,HCS2.out,HCS.out];simp only [ne_eq,not_true_eq_false,if_false]
 subst h0;clear HWE HLE HCS HCS2 HL0 hwl hwl';have HWI:Hid (bN ts p=wide):=hwi;clear hwi;by_cases hll:cs2.length=cs.length;rotate_left
 ·have e1:we=8:=by rw [HW2.out,if_pos hll]
  subst e1;have hbl:((cs2.length:Int) != (cs.length:Int))=true:=by simp; omega
  clear HW2 hll;go_wp2_with fail
  exact Nl (v:=.tuple #[.slice none 0 0,.int .i64 8]) (by simp [results,Tryz.results25,go_sem]) rfl ⟨⟨fun h=>(by cases h),fun _=>rfl⟩,hA3⟩
 have HW3:Hid (we=if cs2≠cs then 9 else bG ts data):=by show _=_; rw [HW2.out,if_neg (by simpa using hll)]
 have con:=EZ cs2 cs a3 c3 a1 c1 w3 I3 I2 (show Hid _ from hll.symm) (by omega);have hbl:((cs2.length:Int) != (cs.length:Int))=false:=by simp; omega
 clear HW2 hll;generalize hbb:decide (cs2=cs)=bb at con;have HBB:Hid (decide (cs2=cs)=bb):=hbb;clear hbb;go_upto_region 10 with fail
 clear hbl;have HW4:Hid (bb=false→we=9):=fun h=>by rw [HW3.out,if_pos (by rw [h] at HBB; exact of_decide_eq_false HBB.out)]
 have HW5:Hid (bb=true→we=bG ts data):=fun h=>by rw [HW3.out,if_neg (by rw [h] at HBB; simpa using of_decide_eq_true HBB.out)]
 clear HW3 HBB I3;cases bb with
 | false =>
  have e1:=HW4.out rfl;subst e1;clear HW4 HW5;go_wp2_with (refine con.mono ?_; rintro e w4 ⟨rfl,hb4⟩)
  exact Nl (v:=.tuple #[.slice none 0 0,.int .i64 9]) (by simp [results,Tryz.results25,go_sem]) rfl ⟨⟨fun h=>(by cases h),fun _=>rfl⟩,chain hA3 hb4⟩
 | true =>
  have e1:=HW5.out rfl;have HW6:Hid (we=bG ts data):=e1;clear HW4 HW5 e1;go_wp2_with fail
  refine con.mono ?_;rintro e w4 ⟨rfl,hb4⟩;clear con;have hA4:=chain hA3 hb4;replace T2:=rB.next T2 hb4;have con:=vY ts data ta tc da dc w4 (TX.next hb4) (DX.next hb4) t8;rw [← HW6.out] at con;go_wp2_with fail
  refine con.mono ?_;rintro e w5 ⟨rfl,hb5⟩;clear con;have hA5:=chain hA4 hb5;replace T2:=rB.next T2 hb5;by_cases h0:we=0
  ·subst h0;clear HW6;go_wp2_with fail
   exact Nl (v:=.tuple #[.slice a2 wide.length c2,.int .i64 0]) (by simp [results,Tryz.results25,go_sem]) rfl ⟨⟨fun _=>⟨a2,c2,by rw [HWI.out],by rw [HWI.out]; exact T2⟩,fun h=>absurd rfl h⟩,hA5⟩
  ·have hb0:(we != 0)=true:=by simpa using h0
   clear HW6;go_wp2_with fail
   exact Nl (v:=.tuple #[.slice none 0 0,.int .i64 we]) (by simp [results,Tryz.results25,go_sem]) rfl ⟨⟨fun h=>absurd h h0,fun _=>rfl⟩,hA5⟩
def eW (ts:List (List Int)) (p p':Pl) (data:List (List Zp)):List Zp × Int × Int:=if eA ts p p' data≠0 then ([],0,eA ts p p' data) else if hM ts data p≠0 then ([],0,hM ts data p) else nG (fun x _=>hM (bN ts p) (data ++ [x]) p') (fun x _=>dE (bN ts p) (data ++ [x]) p') 50 0 (dE ts data p) (dE ts data p)
theorem pk {ts:List (List Int)} {p p':Pl} {data:List (List Zp)} (h:eA ts p p' data=0):aX ts p=0∧aX (bN ts p) p'=0∧dh (bN ts p) p'=dh ts p∧bG ts data=0:=by
 unfold eA at h;by_cases h1:aX ts p=0
 ·rw [if_neg (by simpa using h1)] at h;by_cases h2:aX (bN ts p) p'=0
  ·rw [if_neg (by simpa using h2)] at h;by_cases h3:(dh (bN ts p) p').length=(dh ts p).length
   ·rw [if_neg (by simpa using h3)] at h;by_cases h4:dh (bN ts p) p'=dh ts p
    ·rw [if_neg (by simpa using h4)] at h;exact ⟨h1,h2,h4,h⟩
    ·rw [if_pos h4] at h; cases h
   ·rw [if_pos h3] at h; cases h
  ·rw [if_pos h2] at h; exact absurd h h2
 ·rw [if_pos h1] at h; exact absurd h h1
theorem wh {ts:List (List Int)} {p p':Pl} {data:List (List Zp)} (h:eA ts p p' data=0):data.length≤8:=by
 obtain ⟨h1,_,_,h4⟩:=pk h;rw [(j8 h4).1];exact Ci (cD h1).1
theorem GM (ts:List (List Int)) (p:Pl) (q:Pw) (p':Pl) (q':Pw) (data:List (List Zp)) (ta:Option Addr) (tc:Nat) (da:Option Addr) (dc:Nat) (w:World) (hT:rB w ta ts) (hp:pM w p q) (hk:cz p) (hp':pM w p' q') (hk':cz p') (hD:gL w da data) :
  Calls Tryz.prog 9 #[.slice ta ts.length tc,bP p q,bP p' q',.slice da data.length dc] w fun e w'=>∃ v,e = .returned (.tuple #[v,.int .i64 (eW ts p p' data).2.1,.int .i64 (eW ts p p' data).2.2])∧bZ w.heap.size w' v (eW ts p p' data).1∧Below w.heap.size w w':=by
 have hA:=jM w p q p' q';have EL:=zL w p q p' q';have ER:=yO w p q p' q';have HK:Hid (cz p):=hk;have HK':Hid (cz p'):=hk';have TX:=hT.next hA;have PX:=hp.next hA;have PX':=hp'.next hA;have DX:=hD.next hA;generalize hR:eW ts p p' data=R;have HR:Hid (eW ts p p' data=R):=hR;have con:=yj ts p q p' q' data ta tc da dc _ TX PX hk PX' hk' DX;have HWL:Hid (eA ts p p' data=0→data.length≤8):=wh;generalize hwe:eA ts p p' data=we at con;have HWE:Hid (eA ts p p' data=we):=hwe;clear hk hk' hT hp hp' hD hwe hR;obtain ⟨y0,y1,⟨y2,y3,y4,y5,y6,y7⟩,y8,y9,y10⟩:=EL.el
 obtain ⟨z0,z1,⟨z2,z3,z4,z5,z6,z7⟩,z8,z9,z10⟩:=ER.el;simp only [Np] at y1 y2 y3 y4 y5 y6 y7 y8 y9 y10 z1 z2 z3 z4 z5 z6 z7 z8 z9 z10;unfold bP at con ⊢;go_enter Tryz.func9,Tryz.ntmps9;go_upto_region 1 with fail
 generalize (w.alloc (bK p q)).alloc (bK p' q')=wA at *;by_cases h0:we=0;rotate_left
 ·have e1:R=([],0,we):=by rw [← HR.out]; unfold eW; rw [HWE.out,if_pos h0]
  subst e1;have hb0:(we != 0)=true:=by simpa using h0
  clear HR HWE HWL;go_wp2_with fail
  refine con.mono ?_;rintro e w1 ⟨⟨_,hre⟩,hb1⟩;obtain rfl:=hre h0;go_wp2_with fail
  exact Nl (v:=.tuple #[.slice none 0 0,.int .i64 0,.int .i64 we]) (by simp [results,Tryz.results9,go_sem]) rfl ⟨_,rfl,dY _ _,chain hA hb1⟩
 have HW0:Hid (eA ts p p' data=0):=by show _=_; rw [HWE.out,h0]
 have d8:=HWL.out HW0.out;subst h0;clear HWE HWL;generalize hwi:bN ts p=wide at con;have HWI:Hid (bN ts p=wide):=hwi;clear hwi;go_wp2_with fail
 refine con.mono ?_;rintro e w1 ⟨⟨hre,_⟩,hb1⟩;obtain ⟨a1,c1,rfl,T1⟩:=hre rfl;clear con y0 y1 y2 y3 y4 y5 y6 y7 y8 y9 y10 z0 z1 z2 z3 z4 z5 z6 z7 z8 z9 z10;have hA1:=chain hA hb1;replace TX:=TX.next hb1;replace PX:=PX.next hb1;replace PX':=PX'.next hb1;replace DX:=DX.next hb1;replace EL:=EL.next hb1;replace ER:=ER.next hb1;have con:=sW ts data p q ta tc da dc w1 TX DX PX HK.out;generalize hee:hM ts data p=ee at con;generalize hdz:dE ts data p=dz at con;have HEE:Hid (hM ts data p=ee):=hee;have HDZ:Hid (dE ts data p=dz):=hdz;clear hee hdz
 obtain ⟨y0,y1,⟨y2,y3,y4,y5,y6,y7⟩,y8,y9,y10⟩:=EL.el;simp only [Np] at y1 y2 y3 y4 y5 y6 y7 y8 y9 y10;unfold bP at con;go_wp2_with fail
 refine con.mono ?_;rintro e w2 ⟨v2,rfl,O2,hb2⟩;clear con y0 y1 y2 y3 y4 y5 y6 y7 y8 y9 y10 EL PX;obtain ⟨a2,c2,rfl,Z2,n2⟩:=O2.xK;have hA2:=chain hA1 hb2;by_cases h0:ee=0;rotate_left
 ·have e1:R=([],0,ee):=by rw [← HR.out]; unfold eW; rw [HW0.out,HEE.out,if_neg (by simp),if_pos h0]
  subst e1;have hb0:(ee != 0)=true:=by simpa using h0
  clear HR HEE HDZ O2 Z2 HW0;go_wp2_with fail
  exact Nl (v:=.tuple #[.slice none 0 0,.int .i64 0,.int .i64 ee]) (by simp [results,Tryz.results9,go_sem]) rfl ⟨_,rfl,dY _ _,hA2⟩
 have HR1:Hid (R=nG (fun x _=>hM wide (data ++ [x]) p') (fun x _=>dE wide (data ++ [x]) p') 50 0 dz dz):=by
  show _=_;rw [← HR.out]; unfold eW; rw [HW0.out,HEE.out,h0,HWI.out,HDZ.out];simp only [ne_eq,not_true_eq_false,if_false]
 subst h0;clear HR HEE HDZ HW0 HWI O2;replace T1:=rB.next T1 hb2;replace PX':=PX'.next hb2;replace DX:=DX.next hb2;replace ER:=ER.next hb2;have con:=uC wide p' q' data a1 c1 da dc w2 T1 PX' HK'.out DX d8;obtain ⟨z0,z1,⟨z2,z3,z4,z5,z6,z7⟩,z8,z9,z10⟩:=ER.el;simp only [Np] at z1 z2 z3 z4 z5 z6 z7 z8 z9 z10;unfold bP at con;go_wp2_with fail
 refine con.mono ?_;rintro e w3 ⟨rfl,TK,hb3⟩;clear con z0 z1 z2 z3 z4 z5 z6 z7 z8 z9 z10 ER PX';have hal:=aa w3 (.cells #[.func (.func 53) #[] #[.pointer (some ⟨w2.heap.size,0,none⟩),.pointer (some ⟨w2.heap.size+1,0,none⟩),.pointer (some ⟨w2.heap.size+2,0,none⟩)]] 49)
 have F4:(w3.alloc (.cells #[.func (.func 53) #[] #[.pointer (some ⟨w2.heap.size,0,none⟩),.pointer (some ⟨w2.heap.size+1,0,none⟩),.pointer (some ⟨w2.heap.size+2,0,none⟩)]] 49)).cell? ⟨w3.heap.size,0,none⟩=some (.func (.func 53) #[] #[.pointer (some ⟨w2.heap.size,0,none⟩),.pointer (some ⟨w2.heap.size+1,0,none⟩),.pointer (some ⟨w2.heap.size+2,0,none⟩)]):=cell_of (i:=0) (aw w3 #[.func (.func 53) #[] #[.pointer (some ⟨w2.heap.size,0,none⟩),.pointer (some ⟨w2.heap.size+1,0,none⟩),.pointer (some ⟨w2.heap.size+2,0,none⟩)]] 49) rfl;have FD:=Jn 53 _ _ _ w3.heap.size _ Mr (TK.next hal) F4
 have con:=yL 29 #[.pointer (some ⟨w3.heap.size,0,none⟩)] _ _ dz a2 c2 _ MM FD (Z2.next (chain hb3 hal)) n2;rw [← HR1.out] at con;have hA4:=chain hA2 (chain hb3 hal);clear HR1 FD TK hb3 F4 Z2;go_upto_region 8 with fail
 generalize w3.alloc (.cells #[.func (.func 53) #[] #[.pointer (some ⟨w2.heap.size,0,none⟩),.pointer (some ⟨w2.heap.size+1,0,none⟩),.pointer (some ⟨w2.heap.size+2,0,none⟩)]] 49)=w4 at *;go_wp2_with fail
 refine con.mono ?_;rintro e w5 ⟨v5,rfl,O5,hb5⟩;clear con;have O5':=O5.mono hA4.size;go_wp2_with fail
 exact Nl (v:=.tuple #[v5,.int .i64 R.2.1,.int .i64 R.2.2]) (by simp [results,Tryz.results9,go_sem]) rfl ⟨_,rfl,O5',chain hA4 hb5⟩
end Go.Proofs.YtohjlfhmnmcndaaGreat
namespace Go.Proofs.YtohjlfhmnmcndaaGreat
set_option maxRecDepth 100000
set_option maxHeartbeats 16000000
theorem Hj:∀ (l:List Zp) (q:List Vl),wt (l.map fun x=>(x.1,-x.2)) q = - wt l q
 | [],_=>rfl
 | x :: r,q=>by
  rw [NO,wt,wt,Hj r q]
  split <;> omega
theorem mZ {z:List Zp} (h:fL z) (hw:∀ q,0≤wt z q):∀ x ∈ z,0≤x.2:=fun x hx=>by
 rw [← xf h x hx]
 exact hw _
theorem nB {g:List Vl→Int} (g0:∀ r,0≤g r):∀ {z:List Zp},(∀ x ∈ z,0≤x.2)→0≤fK g z
 | [],_=>Oo _
 | x :: r,h=>by
  rw [fK]
  have h1:=nB g0 (z:=r) fun y hy=>h y (by simp [hy])
  have h2:=Int.mul_nonneg (g0 x.1) (h x (by simp))
  omega
theorem zK {a b:List Zp} {g:List Vl→Int} (hg:qC g) (g0:∀ r,0≤g r) (h:∀ q,wt a q≤wt b q):fK g a≤fK g b:=by
 have e:∀ q,wt b q=wt a q+wt (canon (b ++ a.map fun x=>(x.1,-x.2))) q:=fun q=>by
  rw [dO,dG,Hj]; omega
 have hs:=dH (b ++ a.map fun x=>(x.1,-x.2));have h1:=nB g0 (mZ hs.gj fun q=>by have:=e q; have:=h q; omega);have:=rm e hg;omega
theorem GL {g g':List Vl→Int} (hg:∀ r,g r≤g' r):∀ {z:List Zp},(∀ x ∈ z,0≤x.2)→fK g z≤fK g' z
 | [],_=>Oo _
 | x :: r,h=>by
  rw [fK,fK]
  have h1:=GL hg (z:=r) fun y hy=>h y (by simp [hy])
  have h2:=Int.mul_le_mul_of_nonneg_right (hg x.1) (h x (by simp))
  omega
theorem kD {g:List Vl→Int} (hg:qC g) (g0:∀ r,0≤g r) {a:List Zp} (h:∀ q,0≤wt a q):0≤fK g a:=by
 rw [← ke hg];exact nB g0 (mZ (dH a).gj fun q=>by rw [dO]; exact h q)
theorem sE (p:Prop) [Decidable p]:(0:Int)≤if p then 1 else 0:=by split <;> decide
theorem join_mono {x:Ex} {a b a' b':List Zp} (h0:∀ q,0≤wt a q) (h1:∀ q,wt a q≤wt a' q) (h2:∀ q,0≤wt b q) (h3:∀ q,wt b q≤wt b' q) (q:List Vl):0≤wt (bH x a b) q∧wt (bH x a b) q≤wt (bH x a' b') q:=by
 have hn:=mZ (dH a).gj fun q=>by rw [dO]; exact h0 q
 constructor
 ·rw [gf];exact kD (je x q b) (fun r=>kD (kt x q r) (fun _=>sE _) h2) h0
 ·rw [gf,gf];refine Int.le_trans ?_ (zK (je x q b') (fun r=>kD (kt x q r) (fun _=>sE _) fun k=>Int.le_trans (h2 k) (h3 k)) h1);rw [← ke (je x q b) a,← ke (je x q b') a];exact GL (fun r=>zK (kt x q r) (fun _=>sE _) h3) hn
theorem yY:∀ {l:List Zp} {q:List Vl},0<wt l q→∃ x ∈ l,aG x.1 q=0∧0<x.2
 | [],_,h=>by simp [wt] at h
 | x :: r,q,h=>by
  rw [wt] at h
  by_cases hc:aG x.1 q=0∧0<x.2
  ·exact ⟨x,by simp,hc⟩
  ·have:0<wt r q:=by
    split at h
    ·rename_i c
     have:¬ 0<x.2:=fun k=>hc ⟨c,k⟩
     omega
    ·omega
   obtain ⟨y,hy,h2⟩:=yY this;exact ⟨y,by simp [hy],h2⟩
theorem AH {z:List Zp} (h:aF z=0):fL z:=((bD z).1 h).2.2
theorem om {f:Int→Int} (f0:f 0=0) {z:List Zp} (h:aF z=0) (q:List Vl):wt (gS f z) q=f (wt z q):=by
 unfold gS;rw [if_pos h];exact j6 f f0 q z (AH h)
theorem DS {x y:Int} (h:x≤y):0≤lL x∧lL x≤lL y:=by unfold lL; split <;> split <;> omega
theorem vt {x y:Int} (h:x≤y):0≤fg x∧fg x≤fg y:=by unfold fg; split <;> split <;> omega
structure One (z:List Zp):Prop where
 right:aF z=0
 set:gG z
 qP:∀ q,wt z q=0∨wt z q=1
theorem one_set {z:List Zp} (h:aF z=0):One (gS fg z):=by
 have hw:=(bD z).1 h;have e:gS fg z=aR fg z:=by unfold gS; rw [if_pos h]
 have hs:=kH fg z hw.2.2;refine ⟨?_,by rw [e]; exact hs,fun q=>?_⟩
 ·rw [e,bD];refine ⟨Nw (iV fg z) hw.1,fun y hy=>?_,hs.gj⟩;obtain ⟨x,hx,rfl,h0⟩:=eF fg z y hy;exact ⟨(gZ _).2 (hw.2.1 x hx).1,h0,Ct (hw.2.1 x hx).2.2⟩
 ·rw [om rfl h];unfold fg
  split <;> simp
theorem jv {ts:List (List Int)} {data:List (List Zp)} {p:Pl} (h:hM ts data p=0):One (dE ts data p):=one_set (Ij h).right
theorem oe {a b:List Zp} (h:bh 1 a b=0):One (fk a b):=one_set (hZ h).2.2.2.1
theorem rN {a b:List Zp} (h:bh 1 a b=0) (q:List Vl):wt (fk a b) q=fg (wt a q+wt b q):=by
 unfold fk;rw [om rfl (hZ h).2.2.2.1,(hZ h).2.2.2.2]
 congr 1
 omega
theorem Af {ts:List (List Int)} {data:List (List Zp)} {p:Pl} (h:hM ts data p=0) (q:List Vl):wt (dE ts data p) q=fg (wt (yr ts data p) q):=om rfl (Ij h).right q
theorem One.kN {z:List Zp} (h:One z) (q:List Vl):0≤wt z q:=by have:=h.qP q; omega
theorem xj:∀ {b a:List Zp},fL a→fL b→(∀ x ∈ a,x ∈ b)→a.length≤b.length∧(a.length=b.length→a=b)
 | [],a,_,_,h=>by
  have:a = []:=List.eq_nil_iff_forall_not_mem.2 fun x hx=>by simpa using h x hx
  subst this
  exact ⟨Nj _,fun _=>rfl⟩
 | y :: b,[],_,_,_=>⟨Nr _,fun e=>by simp at e⟩
 | y :: b,x :: a,ha,hb,h=>by
  have ha':=List.pairwise_cons.1 ha
  have hb':=List.pairwise_cons.1 hb
  rcases List.mem_cons.1 (h x (by simp)) with e | hx
  ·subst e
   have:=xj (b:=b) (a:=a) ha'.2 hb'.2 fun z hz=>by
    rcases List.mem_cons.1 (h z (by simp [hz])) with e | hz'
    ·subst e
     have:=ha'.1 z hz
     rw [dF] at this
     omega
    ·exact hz'
   exact ⟨by simpa using this.1,fun e=>by rw [this.2 (by simpa using e)]⟩
  ·have:=xj (b:=b) (a:=x :: a) ha hb'.2 fun z hz=>by
    rcases List.mem_cons.1 (h z hz) with e | hz'
    ·subst e
     exfalso
     have h1:=hb'.1 x hx
     rcases List.mem_cons.1 hz with e | hz''
     ·subst e
      rw [dF] at h1
      omega
     ·have h2:=ha'.1 z hz''
      have h3:=aZ x.1 z.1
      omega
    ·exact hz'
   simp only [N4] at this ⊢
   exact ⟨by omega,fun e=>by omega⟩
theorem One.mem {a:List Zp} (ha:One a) {x:Zp} (hx:x ∈ a):x.2=1∧wt a x.1=1:=by
 have h1:=xf ha.set.gj x hx;have h2:=ha.set.ne x hx;have h3:=ha.qP x.1;omega
theorem One.sub {a b:List Zp} (ha:One a) (hb:One b) (h:∀ q,wt a q≤wt b q):∀ x ∈ a,x ∈ b:=fun x hx=>by
 obtain ⟨h1,h2⟩:=ha.mem hx
 have h3:=h x.1
 obtain ⟨y,hy,c,_⟩:=yY (l:=b) (q:=x.1) (by omega)
 have h4:=(hb.mem hy).1
 have h5:=jK c
 rw [hb.set.bare y hy,ha.set.bare x hx] at h5
 have:y=x:=Prod.ext h5 (by omega)
 rw [← this]
 exact hy
theorem One.same {a b:List Zp} (ha:One a) (hb:One b) (h:∀ q,wt a q≤wt b q) (hl:b.length=a.length):a=b:=(xj ha.set.gj hb.set.gj (ha.sub hb h)).2 hl.symm
theorem zv {a b:List Zp} (ha:One a) (h:bh 1 a b=0) (h0:∀ q,0≤wt b q) (q:List Vl):wt a q≤wt (fk a b) q:=by
 rw [rN h];have:=ha.qP q;have:=h0 q;unfold fg
 split <;> omega
theorem GJ {fE:List Zp→Int} {fZ:List Zp→List Zp} {P:List Zp→Prop} (hP:∀ x,P x→fE x=0→bh 1 x (fZ x)=0→P (fk x (fZ x))):∀ (n:Nat) (r:Int) (x y:List Zp),P x→(nG (fun x _=>fE x) (fun x _=>fZ x) n r x y).2.2=0 →
  ∃ x',P x'∧fE x'=0∧bh 1 x' (fZ x')=0∧(fk x' (fZ x')).length=x'.length∧(nG (fun x _=>fE x) (fun x _=>fZ x) n r x y).1=fk x' (fZ x')
 | 0,r,x,y,_,h=>by rw [nG] at h; simp at h
 | n+1,r,x,y,hx,h=>by
  rw [nG] at h ⊢
  by_cases h1:fE x=0
  ·rw [if_neg (by simpa using h1)] at h ⊢
   by_cases h2:bh 1 x (fZ x)=0
   ·rw [if_neg (by simpa using h2)] at h ⊢
    by_cases h3:(fk x (fZ x)).length=x.length
    ·rw [if_pos h3]
     exact ⟨x,hx,h1,h2,h3,rfl⟩
    ·rw [if_neg h3] at h ⊢
     by_cases h4:bh (-1) (fk x (fZ x)) x=0
     ·rw [if_neg (by simpa using h4)] at h ⊢
      exact GJ hP n (r+1) _ _ (hP x hx h1 h2) h
     ·rw [if_pos h4] at h
      exact absurd h h4
   ·rw [if_pos h2] at h
    exact absurd h h2
  ·rw [if_pos h1] at h
   exact absurd h h1
structure Mo (ts:List (List Int)) (p p':Pl) (data:List (List Zp)) (P:List Zp→Prop):Prop where
 wid:eA ts p p' data=0
 qJ:hM ts data p=0
 one:One (eW ts p p' data).1
 ev:hM (bN ts p) (data ++ [(eW ts p p' data).1]) p'=0
 prop:P (eW ts p p' data).1
 step:∀ q,wt (dE (bN ts p) (data ++ [(eW ts p p' data).1]) p') q≤wt (eW ts p p' data).1 q
theorem KO {ts:List (List Int)} {p p':Pl} {data:List (List Zp)} {P:List Zp→Prop} (h:(eW ts p p' data).2.2=0) (h0:hM ts data p=0→P (dE ts data p)) (hP:∀ x,One x→P x→hM (bN ts p) (data ++ [x]) p'=0→bh 1 x (dE (bN ts p) (data ++ [x]) p')=0→P (fk x (dE (bN ts p) (data ++ [x]) p'))):Mo ts p p' data P:=by
 unfold eW at h;by_cases h1:eA ts p p' data=0;rotate_left
 ·rw [if_pos h1] at h;exact absurd h h1
 rw [if_neg (by simpa using h1)] at h;by_cases h2:hM ts data p=0;rotate_left
 ·rw [if_pos h2] at h;exact absurd h h2
 rw [if_neg (by simpa using h2)] at h;obtain ⟨x,⟨hx,px⟩,e1,e2,e3,e4⟩:=GJ (fE:=fun x=>hM (bN ts p) (data ++ [x]) p') (fZ:=fun x=>dE (bN ts p) (data ++ [x]) p') (P:=fun x=>One x∧P x) (fun x hx a b=>⟨oe b,hP x hx.1 hx.2 a b⟩) 50 0 _ _ ⟨jv h2,h0 h2⟩ h;have ed:=jv e1;have em:x=fk x (dE (bN ts p) (data ++ [x]) p'):=hx.same (oe e2) (zv hx e2 ed.kN) e3;have ez:(eW ts p p' data).1=x:=by
  unfold eW;rw [if_neg (by simpa using h1),if_neg (by simpa using h2),e4];exact em.symm
 refine ⟨h1,h2,by rw [ez]; exact hx,by rw [ez]; exact e1,by rw [ez]; exact px,fun q=>?_⟩;rw [ez];have hu:=rN e2 q;rw [← em] at hu;have a1:=ed.qP q;have a2:=hx.qP q;rw [hu];unfold fg
 split <;> omega
end Go.Proofs.YtohjlfhmnmcndaaGreat
namespace Go.Proofs.YtohjlfhmnmcndaaGreat
open Go.RowKit Go.Lib Go.Shelf
set_option maxRecDepth 100000
set_option maxHeartbeats 16000000
def kg (z:List Zp):Bool:=z.all fun r=>decide (1≤r.2)
def ij (l:List (List Zp)):Bool:=l.all kg
theorem F2 {l:List (List Zp)} {j:Nat} (h:j<l.length):ij (l.drop j)=(kg l[j] && ij (l.drop (j+1))):=by unfold ij; rw [Nq h,Pc]
theorem Jw {l:List (List Zp)} {j:Nat} (h:l.length≤j):ij (l.drop j)=true:=by unfold ij; rw [NI h]; rfl
theorem DG {l:List Zp} {j:Nat} (h:j<l.length):kg (l.drop j)=(decide (1≤l[j].2) && kg (l.drop (j+1))):=by unfold kg; rw [Nq h,Pc]
theorem GB {l:List Zp} {j:Nat} (h:l.length≤j):kg (l.drop j)=true:=by unfold kg; rw [NI h]; rfl
theorem GP (l:List (List Zp)) (a:Option Addr) (ac:Nat) (w:World) (h:gL w a l) (hz:l.length≤1000000000000) :
  Calls Tryz.prog 13 #[.slice a l.length ac] w fun e w'=>e = .returned (.bool (ij l))∧Below w.heap.size w w':=by
 generalize hR:ij l=R;have HR:Hid (R=ij (l.drop 0)):=hR.symm;clear hR;go_enter Tryz.func13,Tryz.ntmps13;go_wp2_with fail
 go_loopw [9] (fun i wr=>∃ k:Nat,k≤l.length∧i = .int .i64 k∧Hid (R=ij (l.drop k))∧Below w.heap.size w wr) (fun i _=>l.length - (intOf i).toNat)
 case atStart=>exact ⟨0,Nr _,rfl,HR,Nk _ _⟩
 case round =>
  clear HR;obtain ⟨k,hk,rfl,HT,hb⟩:=hrel;by_cases hlt:k<l.length;rotate_left
  ·have e:R=true:=by rw [HT.out,Jw (by omega)]
   have hjn:¬ (k:Int)<(l.length:Int):=by omega
   subst e;clear HT;go_wp2_with fail
   go_ret;exact ⟨rfl,hb⟩
  obtain ⟨bb,off,ak,ck,rfl,hbl,c0,zk,_⟩:=(h.next hb).elem hlt;have i1:(k:Int)<(l.length:Int):=by omega
  have zl:l[k].length≤9223372036854775807:=by have:=zk.1; unfold maxLen at this; omega
  have HN:Hid (R=(kg (l[k].drop 0) && ij (l.drop (k+1)))):=by show _=_; rw [HT.out,F2 hlt]; rfl
  generalize l[k]=z at *;clear HT;go_wp2_with fail
  clear c0;generalize hw0:wr=w0 at *;have HW0:Hid (wr=w0):=hw0;clear hw0;go_loopw [15] (fun i ws=>∃ j:Nat,j≤z.length∧i = .int .i64 j∧Hid (R=(kg (z.drop j) && ij (l.drop (k+1))))∧Below w0.heap.size w0 ws) (fun i _=>z.length - (intOf i).toNat)
  case atStart=>exact ⟨0,Nr _,rfl,HN,Nk _ _⟩
  case round =>
   clear HN;obtain ⟨j,hj,rfl,HT,hb2⟩:=hrel;have hA2:=chain hb hb2;by_cases hlj:j<z.length;rotate_left
   ·have HT':Hid (R=ij (l.drop (k+1))):=by show _=_; rw [HT.out,GB (by omega)]; rfl
    have hjn:¬ (j:Int)<(z.length:Int):=by omega
    clear HT;go_wp2_with fail
    go_roundw
    case rel=>exact ⟨k+1,by omega,by go_num,HT',hA2⟩
    case measure=>simp [intOf]; omega
   obtain ⟨bb2,off2,rfl,hbl2,c1,ar,cr,c0,sr⟩:=(zk.next hb2).elem hlj;have hal:=aa wr (.cells #[.slice ar z[j].1.length cr,.int .i64 z[j].2] 58);have q0:=aw wr #[.slice ar z[j].1.length cr,.int .i64 z[j].2] 58;have i2:(j:Int)<(z.length:Int):=by omega
   have HN:Hid (R=(decide (1≤z[j].2) && kg (z.drop (j+1)) && ij (l.drop (k+1)))):=by show _=_; rw [HT.out,DG hlj]
   clear HT sr;generalize z[j]=zj at *;go_upto_region 7 with fail
   clear c0 c1;generalize wr.alloc (.cells #[.slice ar zj.1.length cr,.int .i64 zj.2] 58)=wk at *;have c0:=cell_of (i:=0) q0 rfl;have c1:=cell_of (i:=1) q0 rfl;clear q0;by_cases h1:1≤zj.2
   ·have hb1:¬ zj.2<1:=by omega
    have HT':Hid (R=(kg (z.drop (j+1)) && ij (l.drop (k+1)))):=by show _=_; rw [HN.out,decide_eq_true h1]; rfl
    clear HN;go_wp2_with fail
    go_roundw
    case rel=>exact ⟨j+1,by omega,by go_num,HT',chain hb2 hal⟩
    case measure=>simp [intOf]; omega
   ·have hb1:zj.2<1:=by omega
    have e:R=false:=by rw [HN.out,decide_eq_false h1]; rfl
    subst e;clear HN;go_wp2_with fail
    go_ret;exact ⟨rfl,chain hA2 hal⟩
end Go.Proofs.YtohjlfhmnmcndaaGreat
