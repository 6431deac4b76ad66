/- Together: AN, AO, AP, AQ, AR, AS, AT, AU, AV. -/
import Derived.Test.YtoknmnngaackkaaGreatDoorJJ2
import Derived.Test.YtoknmnngaackkaaGreatDoorJJ0
/- Pieces. -/
namespace Go.Proofs.YtoknmnngaackkaaGreatDoor
open Go.RowKit Go.Lib Go.Shelf
set_option maxRecDepth 100000
set_option maxHeartbeats 8000000

theorem StrAt.of {W:World} {g:Nat} {l:List ByteArray} {T:TypeId} (h:W.heap[g]? = some (.cells (l.map Value.string).toArray T (0,0))):StrAt W g 0 l :=
 ⟨lt_of_heap h,fun i hi=>by rw [Nat.zero_add]; exact cell_of (i:=i) h (by simp [hi])⟩
def agL:List (Int × ByteArray):=[(20,⟨#[99,111,117,110,116]⟩),(21,⟨#[115,117,109]⟩),(22,⟨#[109,105,110]⟩),(23,⟨#[109,97,120]⟩)]
def agSel (n:Nat) (o:Int) (ts:List Tk):List (Int × ByteArray)→PR SX
 | []=>columnNameP ts
 | a :: r=>if isP a.2 ts then aggP n a.1 o (passP ts) else agSel n o ts r
abbrev agC:Array Value:=#[.int .i64 20,.string ⟨#[99,111,117,110,116]⟩,.int .i64 21,.string ⟨#[115,117,109]⟩,.int .i64 22,.string ⟨#[109,105,110]⟩,.int .i64 23,.string ⟨#[109,97,120]⟩]
theorem aggs_at (w:World):Calls Tryz.prog 175 #[] w fun e w'=>e = .returned (.slice (some ⟨w.heap.size,0,none⟩) 4 4)∧w'=w.alloc (.cells agC 168):=by
 go_enter Tryz.func175,Tryz.ntmps175;go_wp2_with fail
 exact bodyPost_ret (results_tmp rfl _ _ _) rfl ⟨by first | rfl | trivial,by first | rfl | trivial⟩
theorem agC_at {W:World} {g:Nat} {T:TypeId} (h:W.heap[g]? = some (.cells agC T (0,0))) (k:Nat) (hk:k<agL.length):W.cell? ⟨g,k*2,none⟩=some (.int .i64 agL[k].1)∧W.cell? ⟨g,k*2+1,none⟩=some (.string agL[k].2):=by
 have hk4:k<4:=hk;obtain rfl | rfl | rfl | rfl:k=0∨k=1∨k=2∨k=3:=by omega
 ·exact ⟨cell_of (i:=0) h rfl,cell_of (i:=1) h rfl⟩
 ·exact ⟨cell_of (i:=2) h rfl,cell_of (i:=3) h rfl⟩
 ·exact ⟨cell_of (i:=4) h rfl,cell_of (i:=5) h rfl⟩
 ·exact ⟨cell_of (i:=6) h rfl,cell_of (i:=7) h rfl⟩
theorem piece_step {n:Nat} {o:Int} (he:CtE 164 [] (exprP n o) o) (hes:∀ m,m+1≤n→∀ k,k≤m→CtE 164 [] (exprP k o) o) (hag:∀ kind,CtE 246 [.int .i64 kind] (aggP n kind o) o):CtE 234 [] (pieceP (n+1) o) o:=by
 intro w R tb ts h hf;rw [pieceP] at hf ⊢;have hltR:=h.lt;have hltT:=h.ltb;have hal:Below w.heap.size w (w.alloc (.cells z7A 55)):=(Below.refl _ _).alloc (Nat.le_refl _) _;have QZ0:=heap_new w z7A 55;have hz0:w.heap.size<(w.alloc (.cells z7A 55)).heap.size:=lt_of_heap QZ0;have con:=begins_at (h.next hal);have H1:Hid (RdAt (w.alloc (.cells z7A 55)) R tb ts o):=h.next hal;have HE:Hid (CtE 164 [] (exprP n o) o):=he;have HES:Hid (∀ m,m+1≤n→∀ k,k≤m→CtE 164 [] (exprP k o) o):=hes;have HAG:Hid (∀ kind,CtE 246 [.int .i64 kind] (aggP n kind o) o):=hag;clear he hes hag h;rcases ib:beginsP ts with _ | _
 case true =>
  rw [ib] at con;simp only [ib,if_true] at hf ⊢;generalize hM:bnd (valueP ts) (fun v r=>Except.ok (SX.mk 1 v eB eB [],r))=M at *;have HM:Hid (bnd (valueP ts) (fun v r=>Except.ok (SX.mk 1 v eB eB [],r))=M):=hM;clear hM hf;go_enter Tryz.func234,Tryz.ntmps234;go_wp2_with fail
  generalize w.alloc (.cells z7A 55)=w1 at *;refine con.mono ?_;rintro e w2 ⟨rfl,hb2⟩;have con2:=value_at (H1.out.next hb2);have QZ2:=(hb2.block _ (lt_of_heap QZ0)).trans QZ0;have hx2:BelowX R w w2:=(BelowX.of hal (by omega)).trans (.of hb2 (by omega));generalize valueP ts=L at *;clear con;go_wp2_with fail
  refine con2.mono ?_;rintro e w3 ⟨hb3,hW⟩;have hx3:=hx2.trans hb3;have QZ:=(hb3.2 _ (lt_of_heap QZ2) (by omega)).trans QZ2;clear con2;rcases L with ce | ⟨lv,rs⟩
  ·obtain ⟨rfl,us,hE⟩:=hW;have HEr:Hid (RdAt w3 R tb us o):=hE;clear hE;have e:M = .error ce:=HM.out.symm;subst e;clear HM;go_wp2_with fail
   exact ⟨rfl,Ends.err rfl hx3 HEr.out⟩
  obtain ⟨v,rfl,rfl,hR3⟩:=hW;have HR3:Hid (RdAt w3 R tb rs o):=hR3;have e:M = .ok (SX.mk 1 lv eB eB [],rs):=HM.out.symm;subst e;obtain ⟨z0,z1,z2,z3,z4,z5,z6⟩:=cells7 QZ;obtain ⟨y0,y1,y2,y3,y4,y5,y6⟩:=froz7 QZ;clear HM hR3;go_wp2_with fail
  obtain ⟨QE,hRE,hKE,hbE⟩:=st7_all (w:=w) (x:=.mk 1 lv eB eB []) (a:=none) (cap:=0) (B:=w.heap.size+1) QZ HR3.out (SsS.nil _) hx3 (Nat.le_refl _) (by omega) hltR hltT;change (((((((w3.setCell ⟨w.heap.size,0,none⟩ (.int .i64 1)).setCell ⟨w.heap.size,1,none⟩ (.int .i64 lv.1)).setCell ⟨w.heap.size,2,none⟩ (.int .i64 lv.2.1)).setCell ⟨w.heap.size,3,none⟩ (.string lv.2.2)).setCell ⟨w.heap.size,4,none⟩ (.string ⟨#[]⟩)).setCell ⟨w.heap.size,5,none⟩ (.string ⟨#[]⟩)).setCell ⟨w.heap.size,6,none⟩ (.slice none 0 0)).heap[w.heap.size]? = _ at QE
  change RdAt (((((((w3.setCell ⟨w.heap.size,0,none⟩ (.int .i64 1)).setCell ⟨w.heap.size,1,none⟩ (.int .i64 lv.1)).setCell ⟨w.heap.size,2,none⟩ (.int .i64 lv.2.1)).setCell ⟨w.heap.size,3,none⟩ (.string lv.2.2)).setCell ⟨w.heap.size,4,none⟩ (.string ⟨#[]⟩)).setCell ⟨w.heap.size,5,none⟩ (.string ⟨#[]⟩)).setCell ⟨w.heap.size,6,none⟩ (.slice none 0 0)) R tb rs o at hRE
  change SsAt _ (((((((w3.setCell ⟨w.heap.size,0,none⟩ (.int .i64 1)).setCell ⟨w.heap.size,1,none⟩ (.int .i64 lv.1)).setCell ⟨w.heap.size,2,none⟩ (.int .i64 lv.2.1)).setCell ⟨w.heap.size,3,none⟩ (.string lv.2.2)).setCell ⟨w.heap.size,4,none⟩ (.string ⟨#[]⟩)).setCell ⟨w.heap.size,5,none⟩ (.string ⟨#[]⟩)).setCell ⟨w.heap.size,6,none⟩ (.slice none 0 0)) _ _ at hKE
  change BelowX R w (((((((w3.setCell ⟨w.heap.size,0,none⟩ (.int .i64 1)).setCell ⟨w.heap.size,1,none⟩ (.int .i64 lv.1)).setCell ⟨w.heap.size,2,none⟩ (.int .i64 lv.2.1)).setCell ⟨w.heap.size,3,none⟩ (.string lv.2.2)).setCell ⟨w.heap.size,4,none⟩ (.string ⟨#[]⟩)).setCell ⟨w.heap.size,5,none⟩ (.string ⟨#[]⟩)).setCell ⟨w.heap.size,6,none⟩ (.slice none 0 0)) at hbE
  generalize (((((((w3.setCell ⟨w.heap.size,0,none⟩ (.int .i64 1)).setCell ⟨w.heap.size,1,none⟩ (.int .i64 lv.1)).setCell ⟨w.heap.size,2,none⟩ (.int .i64 lv.2.1)).setCell ⟨w.heap.size,3,none⟩ (.string lv.2.2)).setCell ⟨w.heap.size,4,none⟩ (.string ⟨#[]⟩)).setCell ⟨w.heap.size,5,none⟩ (.string ⟨#[]⟩)).setCell ⟨w.heap.size,6,none⟩ (.slice none 0 0))=wE at *;obtain ⟨x0,x1,x2,x3,x4,x5,x6⟩:=cells7 QE;exact bodyPost_ret (v:=.agg (sxA (.mk 1 lv eB eB []) none 0)) (by simp [results,Tryz.results234,go_sem,x0,x1,x2,x3,x4,x5,x6]) rfl (Ends.good rfl hbE ⟨_,0,rfl,hKE.mono (by omega)⟩ hRE)
 rw [ib] at con;simp only [ib,Bool.false_eq_true,if_false] at hf ⊢;rcases i0:isP ⟨#[40]⟩ ts with _ | _
 case true =>
  simp only [i0,if_true] at hf ⊢;have hne:exprP n o (passP ts)≠fuelE:=fun hc=>hf (by rw [hc]; rfl)
  generalize hM:bnd (exprP n o (passP ts)) _=M at *;have HM:Hid (bnd (exprP n o (passP ts)) (fun x r=>bnd (mustP [⟨#[41]⟩] r) fun _ r2=>.ok (x,r2))=M):=hM;clear hM hf;go_enter Tryz.func234,Tryz.ntmps234;go_wp2_with fail
  generalize w.alloc (.cells z7A 55)=w1 at *;refine con.mono ?_;rintro e w2 ⟨rfl,hb2⟩;have HT0:Hid (RdAt w2 R tb ts o):=H1.out.next hb2;have QT0:=(hb2.block _ (lt_of_heap QZ0)).trans QZ0;have hxt0:BelowX R w w2:=(BelowX.of hal (by omega)).trans (.of hb2 (by omega));have hzt0:=lt_of_heap QT0;clear con;have ct0:=took_at HT0.out ⟨#[40]⟩;rw [i0,tookP_t i0] at ct0;go_wp2_with fail
  refine ct0.mono ?_;rintro e wt1 ⟨rfl,ht,hbt1⟩;have HT1:Hid (RdAt wt1 R tb (passP ts) o):=ht;have QT1:=(hbt1.2 _ (lt_of_heap QT0) (by omega)).trans QT0;have hxt1:=hxt0.trans hbt1;have hzt1:=lt_of_heap QT1;clear ct0 ht;have con3:=HE.out wt1 R tb (passP ts) HT1.out hne;generalize exprP n o (passP ts)=L at *;clear hne;go_wp2_with fail
  refine con3.mono ?_;rintro e w4 ⟨hb4,hW⟩;have hx4:=hxt1.trans hb4;have QZ4:=(hb4.2 _ (lt_of_heap QT1) (by omega)).trans QT1;have hz4:=lt_of_heap QZ4;clear con3;rcases L with ce | ⟨x,rs⟩
  ·obtain ⟨rfl,us,hE⟩:=hW;have HEr:Hid (RdAt w4 R tb us o):=hE;clear hE;have e:M = .error ce:=HM.out.symm;subst e;clear HM;go_wp2_with fail
   exact ⟨rfl,Ends.err rfl hx4 HEr.out⟩
  obtain ⟨v,rfl,⟨a,c,rfl,hks⟩,hR4⟩:=hW;have HL:Hid (bnd (mustP [⟨#[41]⟩] rs) (fun _ r2=>.ok (x,r2))=M):=HM.out;have hal5:Below w4.heap.size w4 (w4.alloc (.cells (sxA x a c) 55)):=(Below.refl _ _).alloc (Nat.le_refl _) _;have QX5:=heap_new w4 (sxA x a c) 55;have QZ5:=(hal5.block _ (lt_of_heap QZ4)).trans QZ4;have h5:=hR4.next hal5;have HK5:Hid (SsAt (w.heap.size+1) (w4.alloc (.cells (sxA x a c) 55)) a x.ks):=SsAt.next hal5 (SsAt.mono (by omega) hks)
  have hal6:Below (w4.alloc (.cells (sxA x a c) 55)).heap.size (w4.alloc (.cells (sxA x a c) 55)) ((w4.alloc (.cells (sxA x a c) 55)).alloc (.cells #[.string ⟨#[41]⟩] 9)):=(Below.refl _ _).alloc (Nat.le_refl _) _;have hst:StrAt ((w4.alloc (.cells (sxA x a c) 55)).alloc (.cells #[.string ⟨#[41]⟩] 9)) (w4.heap.size+1) 0 [⟨#[41]⟩]:=by
   have:=StrAt.one (w4.alloc (.cells (sxA x a c) 55)) ⟨#[41]⟩ 9;rw [show (w4.alloc (.cells (sxA x a c) 55)).heap.size=w4.heap.size+1 by simp] at this;exact this
  have con6:=must_at (cap:=1) (h5.next hal6) hst (by omega) (by simp);have hx5:BelowX R w (w4.alloc (.cells (sxA x a c) 55)):=hx4.trans (.of hal5 (by omega));have hz5:=lt_of_heap QX5;generalize mustP [⟨#[41]⟩] rs=L2 at *;clear HM hR4 hks h5 hst;go_wp2_with fail
  generalize (w4.alloc (.cells (sxA x a c) 55)).alloc (.cells #[.string ⟨#[41]⟩] 9)=w6 at *;generalize w4.alloc (.cells (sxA x a c) 55)=w5 at *;refine con6.mono ?_;rintro e w7 ⟨hb7,hW⟩;have hx57:BelowX R w5 w7:=(BelowX.of hal6 (by omega)).trans hb7;have hx7:=hx5.trans hx57;have QX7:=(hx57.2 _ (lt_of_heap QX5) (by omega)).trans QX5;have QZ:=(hx57.2 _ (lt_of_heap QZ5) (by omega)).trans QZ5;have HK7:Hid (SsAt (w.heap.size+1) w7 a x.ks):=SsAt.k1 hx57.k1 (by omega) HK5.out;clear con6;rcases L2 with ce | ⟨u2,r2⟩
  ·obtain ⟨rfl,us,hE⟩:=hW;have HEr:Hid (RdAt w7 R tb us o):=hE;clear hE;have e:M = .error ce:=HL.out.symm;subst e;clear HL;go_wp2_with fail
   exact ⟨rfl,Ends.err rfl hx7 HEr.out⟩
  obtain ⟨v,rfl,rfl,hR7⟩:=hW;have HR7:Hid (RdAt w7 R tb r2 o):=hR7;have e:M = .ok (x,r2):=HL.out.symm;subst e;obtain ⟨u0,u1,u2,u3,u4,u5,u6⟩:=cells7 QX7;obtain ⟨z0,z1,z2,z3,z4,z5,z6⟩:=cells7 QZ;obtain ⟨y0,y1,y2,y3,y4,y5,y6⟩:=froz7 QZ;clear HL hR7;go_wp2_with fail
  obtain ⟨QE,hRE,hKE,hbE⟩:=st7_all (w:=w) (cap:=c) QZ HR7.out HK7.out hx7 (Nat.le_refl _) (by omega) hltR hltT;generalize (((((((w7.setCell ⟨w.heap.size,0,none⟩ (.int .i64 x.k)).setCell ⟨w.heap.size,1,none⟩ (.int .i64 x.v.1)).setCell ⟨w.heap.size,2,none⟩ (.int .i64 x.v.2.1)).setCell ⟨w.heap.size,3,none⟩ (.string x.v.2.2)).setCell ⟨w.heap.size,4,none⟩ (.string x.tab)).setCell ⟨w.heap.size,5,none⟩ (.string x.name)).setCell ⟨w.heap.size,6,none⟩ (.slice a x.ks.length c))=wE at *;obtain ⟨x0,x1,x2,x3,x4,x5,x6⟩:=cells7 QE
  exact bodyPost_ret (v:=.agg (sxA x a c)) (by simp [results,Tryz.results234,go_sem,x0,x1,x2,x3,x4,x5,x6]) rfl (Ends.good rfl hbE ⟨a,c,rfl,hKE.mono (by omega)⟩ hRE)
 simp only [i0,Bool.false_eq_true,if_false] at hf ⊢;rcases i1:isP ⟨#[99,97,115,101]⟩ ts with _ | _
 case true =>
  simp only [i1,if_true] at hf ⊢;have hne:behindP n o [⟨#[119,104,101,110]⟩,⟨#[116,104,101,110]⟩,⟨#[101,108,115,101]⟩,⟨#[101,110,100]⟩] (passP ts)≠fuelE:=fun hc=>hf (by rw [hc]; rfl)
  obtain ⟨m,rfl⟩:∃ m,n=m+1:=by
   cases n with
   | zero=>exact absurd (by rw [behindP]) hne
   | succ m=>exact ⟨m,rfl⟩
  generalize hM:bnd (behindP (m+1) o [⟨#[119,104,101,110]⟩,⟨#[116,104,101,110]⟩,⟨#[101,108,115,101]⟩,⟨#[101,110,100]⟩] (passP ts)) _=M at *;have HM:Hid (bnd (behindP (m+1) o [⟨#[119,104,101,110]⟩,⟨#[116,104,101,110]⟩,⟨#[101,108,115,101]⟩,⟨#[101,110,100]⟩] (passP ts)) (fun l r=>.ok (nd 17 l,r))=M):=hM;clear hM hf;go_enter Tryz.func234,Tryz.ntmps234;go_wp2_with fail
  generalize w.alloc (.cells z7A 55)=w1 at *;refine con.mono ?_;rintro e w2 ⟨rfl,hb2⟩;have HT0:Hid (RdAt w2 R tb ts o):=H1.out.next hb2;have QT0:=(hb2.block _ (lt_of_heap QZ0)).trans QZ0;have hxt0:BelowX R w w2:=(BelowX.of hal (by omega)).trans (.of hb2 (by omega));have hzt0:=lt_of_heap QT0;clear con;have ct0:=took_at HT0.out ⟨#[40]⟩;rw [i0,tookP_f i0] at ct0;go_wp2_with fail
  refine ct0.mono ?_;rintro e wt1 ⟨rfl,ht,hbt1⟩;have HT1:Hid (RdAt wt1 R tb (ts) o):=ht;have QT1:=(hbt1.2 _ (lt_of_heap QT0) (by omega)).trans QT0;have hxt1:=hxt0.trans hbt1;have hzt1:=lt_of_heap QT1;clear ct0 ht;have ct1:=took_at HT1.out ⟨#[99,97,115,101]⟩;rw [i1,tookP_t i1] at ct1;go_wp2_with fail
  refine ct1.mono ?_;rintro e wt2 ⟨rfl,ht,hbt2⟩;have HT2:Hid (RdAt wt2 R tb (passP ts) o):=ht;have QT2:=(hbt2.2 _ (lt_of_heap QT1) (by omega)).trans QT1;have hxt2:=hxt1.trans hbt2;have hzt2:=lt_of_heap QT2;clear ct1 ht;have hal3:Below wt2.heap.size wt2 (wt2.alloc (.cells #[.string ⟨#[119,104,101,110]⟩,.string ⟨#[116,104,101,110]⟩,.string ⟨#[101,108,115,101]⟩,.string ⟨#[101,110,100]⟩] 9)):=(Below.refl _ _).alloc (Nat.le_refl _) _
  have hst:StrAt (wt2.alloc (.cells #[.string ⟨#[119,104,101,110]⟩,.string ⟨#[116,104,101,110]⟩,.string ⟨#[101,108,115,101]⟩,.string ⟨#[101,110,100]⟩] 9)) wt2.heap.size 0 (⟨#[119,104,101,110]⟩ :: [⟨#[116,104,101,110]⟩,⟨#[101,108,115,101]⟩,⟨#[101,110,100]⟩]):=StrAt.of (heap_new wt2 _ _);have con3:=behind_step (n:=m) (cap:=4) (fun k hk=>HES.out m (Nat.le_refl _) k hk) (HT2.out.next hal3) hst (by omega) (by simp) (by simp) hne
  have hx3:BelowX R w (wt2.alloc (.cells #[.string ⟨#[119,104,101,110]⟩,.string ⟨#[116,104,101,110]⟩,.string ⟨#[101,108,115,101]⟩,.string ⟨#[101,110,100]⟩] 9)):=hxt2.trans (.of hal3 (by omega));have QZ3:=(hal3.block _ (lt_of_heap QT2)).trans QT2;have hz3:=lt_of_heap QZ3;generalize behindP (m+1) o [⟨#[119,104,101,110]⟩,⟨#[116,104,101,110]⟩,⟨#[101,108,115,101]⟩,⟨#[101,110,100]⟩] (passP ts)=L at *;clear hne hst;go_wp2_with fail
  generalize wt2.alloc (.cells #[.string ⟨#[119,104,101,110]⟩,.string ⟨#[116,104,101,110]⟩,.string ⟨#[101,108,115,101]⟩,.string ⟨#[101,110,100]⟩] 9)=w3 at *;refine con3.mono ?_;rintro e w4 ⟨hb4,hW⟩;have hx4:=hx3.trans hb4;have QZ4:=(hb4.2 _ (lt_of_heap QZ3) (by omega)).trans QZ3;have hz4:=lt_of_heap QZ4;clear con3;rcases L with ce | ⟨l,rs⟩
  ·obtain ⟨rfl,us,hE⟩:=hW;have HEr:Hid (RdAt w4 R tb us o):=hE;clear hE;have e:M = .error ce:=HM.out.symm;subst e;clear HM;go_wp2_with fail
   exact ⟨rfl,Ends.err rfl hx4 HEr.out⟩
  obtain ⟨v,rfl,⟨a,c,rfl,hks⟩,hR4⟩:=hW;have HR4:Hid (RdAt w4 R tb rs o):=hR4;have HK4:Hid (SsAt w3.heap.size w4 a l):=hks;have e:M = .ok (nd 17 l,rs):=HM.out.symm;subst e;have con5:=node_at 17 a l.length c w4;clear HM hR4 hks;go_wp2_with fail
  refine con5.mono ?_;rintro e w6 ⟨rfl,hb6⟩;have QZ:=(hb6.block _ (lt_of_heap QZ4)).trans QZ4;have hx6:BelowX R w w6:=hx4.trans (.of hb6 (by omega));have HR6:Hid (RdAt w6 R tb rs o):=HR4.out.next hb6;have HK6:Hid (SsAt (w.heap.size+1) w6 a l):=SsAt.next hb6 (SsAt.mono (by omega) HK4.out);obtain ⟨z0,z1,z2,z3,z4,z5,z6⟩:=cells7 QZ;obtain ⟨y0,y1,y2,y3,y4,y5,y6⟩:=froz7 QZ;clear con5;go_wp2_with fail
  obtain ⟨QE,hRE,hKE,hbE⟩:=st7_all (w:=w) (x:=nd 17 l) (a:=a) (cap:=c) QZ HR6.out HK6.out hx6 (Nat.le_refl _) (by omega) hltR hltT;change (((((((w6.setCell ⟨w.heap.size,0,none⟩ (.int .i64 17)).setCell ⟨w.heap.size,1,none⟩ (.int .i64 0)).setCell ⟨w.heap.size,2,none⟩ (.int .i64 0)).setCell ⟨w.heap.size,3,none⟩ (.string ⟨#[]⟩)).setCell ⟨w.heap.size,4,none⟩ (.string ⟨#[]⟩)).setCell ⟨w.heap.size,5,none⟩ (.string ⟨#[]⟩)).setCell ⟨w.heap.size,6,none⟩ (.slice a l.length c)).heap[w.heap.size]? = _ at QE
  change RdAt (((((((w6.setCell ⟨w.heap.size,0,none⟩ (.int .i64 17)).setCell ⟨w.heap.size,1,none⟩ (.int .i64 0)).setCell ⟨w.heap.size,2,none⟩ (.int .i64 0)).setCell ⟨w.heap.size,3,none⟩ (.string ⟨#[]⟩)).setCell ⟨w.heap.size,4,none⟩ (.string ⟨#[]⟩)).setCell ⟨w.heap.size,5,none⟩ (.string ⟨#[]⟩)).setCell ⟨w.heap.size,6,none⟩ (.slice a l.length c)) R tb rs o at hRE
  change SsAt _ (((((((w6.setCell ⟨w.heap.size,0,none⟩ (.int .i64 17)).setCell ⟨w.heap.size,1,none⟩ (.int .i64 0)).setCell ⟨w.heap.size,2,none⟩ (.int .i64 0)).setCell ⟨w.heap.size,3,none⟩ (.string ⟨#[]⟩)).setCell ⟨w.heap.size,4,none⟩ (.string ⟨#[]⟩)).setCell ⟨w.heap.size,5,none⟩ (.string ⟨#[]⟩)).setCell ⟨w.heap.size,6,none⟩ (.slice a l.length c)) _ _ at hKE
  change BelowX R w (((((((w6.setCell ⟨w.heap.size,0,none⟩ (.int .i64 17)).setCell ⟨w.heap.size,1,none⟩ (.int .i64 0)).setCell ⟨w.heap.size,2,none⟩ (.int .i64 0)).setCell ⟨w.heap.size,3,none⟩ (.string ⟨#[]⟩)).setCell ⟨w.heap.size,4,none⟩ (.string ⟨#[]⟩)).setCell ⟨w.heap.size,5,none⟩ (.string ⟨#[]⟩)).setCell ⟨w.heap.size,6,none⟩ (.slice a l.length c)) at hbE
  generalize (((((((w6.setCell ⟨w.heap.size,0,none⟩ (.int .i64 17)).setCell ⟨w.heap.size,1,none⟩ (.int .i64 0)).setCell ⟨w.heap.size,2,none⟩ (.int .i64 0)).setCell ⟨w.heap.size,3,none⟩ (.string ⟨#[]⟩)).setCell ⟨w.heap.size,4,none⟩ (.string ⟨#[]⟩)).setCell ⟨w.heap.size,5,none⟩ (.string ⟨#[]⟩)).setCell ⟨w.heap.size,6,none⟩ (.slice a l.length c))=wE at *;obtain ⟨x0,x1,x2,x3,x4,x5,x6⟩:=cells7 QE;exact bodyPost_ret (v:=.agg (sxA (nd 17 l) a c)) (by simp [results,Tryz.results234,go_sem,x0,x1,x2,x3,x4,x5,x6]) rfl (Ends.good rfl hbE ⟨a,c,rfl,hKE.mono (by omega)⟩ hRE)
 simp only [i1,Bool.false_eq_true,if_false] at hf ⊢;rcases i2:isP ⟨#[99,111,97,108,101,115,99,101]⟩ ts with _ | _
 case true =>
  simp only [i2,if_true] at hf ⊢;have hne:behindP n o [⟨#[40]⟩,⟨#[44]⟩,⟨#[41]⟩] (passP ts)≠fuelE:=fun hc=>hf (by rw [hc]; rfl)
  obtain ⟨m,rfl⟩:∃ m,n=m+1:=by
   cases n with
   | zero=>exact absurd (by rw [behindP]) hne
   | succ m=>exact ⟨m,rfl⟩
  generalize hM:bnd (behindP (m+1) o [⟨#[40]⟩,⟨#[44]⟩,⟨#[41]⟩] (passP ts)) _=M at *;have HM:Hid (bnd (behindP (m+1) o [⟨#[40]⟩,⟨#[44]⟩,⟨#[41]⟩] (passP ts)) (fun l r=>.ok (nd 18 l,r))=M):=hM;clear hM hf;go_enter Tryz.func234,Tryz.ntmps234;go_wp2_with fail
  generalize w.alloc (.cells z7A 55)=w1 at *;refine con.mono ?_;rintro e w2 ⟨rfl,hb2⟩;have HT0:Hid (RdAt w2 R tb ts o):=H1.out.next hb2;have QT0:=(hb2.block _ (lt_of_heap QZ0)).trans QZ0;have hxt0:BelowX R w w2:=(BelowX.of hal (by omega)).trans (.of hb2 (by omega));have hzt0:=lt_of_heap QT0;clear con;have ct0:=took_at HT0.out ⟨#[40]⟩;rw [i0,tookP_f i0] at ct0;go_wp2_with fail
  refine ct0.mono ?_;rintro e wt1 ⟨rfl,ht,hbt1⟩;have HT1:Hid (RdAt wt1 R tb (ts) o):=ht;have QT1:=(hbt1.2 _ (lt_of_heap QT0) (by omega)).trans QT0;have hxt1:=hxt0.trans hbt1;have hzt1:=lt_of_heap QT1;clear ct0 ht;have ct1:=took_at HT1.out ⟨#[99,97,115,101]⟩;rw [i1,tookP_f i1] at ct1;go_wp2_with fail
  refine ct1.mono ?_;rintro e wt2 ⟨rfl,ht,hbt2⟩;have HT2:Hid (RdAt wt2 R tb (ts) o):=ht;have QT2:=(hbt2.2 _ (lt_of_heap QT1) (by omega)).trans QT1;have hxt2:=hxt1.trans hbt2;have hzt2:=lt_of_heap QT2;clear ct1 ht;have ct2:=took_at HT2.out ⟨#[99,111,97,108,101,115,99,101]⟩;rw [i2,tookP_t i2] at ct2;go_wp2_with fail
  refine ct2.mono ?_;rintro e wt3 ⟨rfl,ht,hbt3⟩;have HT3:Hid (RdAt wt3 R tb (passP ts) o):=ht;have QT3:=(hbt3.2 _ (lt_of_heap QT2) (by omega)).trans QT2;have hxt3:=hxt2.trans hbt3;have hzt3:=lt_of_heap QT3;clear ct2 ht;have hal3:Below wt3.heap.size wt3 (wt3.alloc (.cells #[.string ⟨#[40]⟩,.string ⟨#[44]⟩,.string ⟨#[41]⟩] 9)):=(Below.refl _ _).alloc (Nat.le_refl _) _;have hst:StrAt (wt3.alloc (.cells #[.string ⟨#[40]⟩,.string ⟨#[44]⟩,.string ⟨#[41]⟩] 9)) wt3.heap.size 0 (⟨#[40]⟩ :: [⟨#[44]⟩,⟨#[41]⟩]):=StrAt.of (heap_new wt3 _ _)
  have con3:=behind_step (n:=m) (cap:=3) (fun k hk=>HES.out m (Nat.le_refl _) k hk) (HT3.out.next hal3) hst (by omega) (by simp) (by simp) hne;have hx3:BelowX R w (wt3.alloc (.cells #[.string ⟨#[40]⟩,.string ⟨#[44]⟩,.string ⟨#[41]⟩] 9)):=hxt3.trans (.of hal3 (by omega));have QZ3:=(hal3.block _ (lt_of_heap QT3)).trans QT3;have hz3:=lt_of_heap QZ3;generalize behindP (m+1) o [⟨#[40]⟩,⟨#[44]⟩,⟨#[41]⟩] (passP ts)=L at *;clear hne hst;go_wp2_with fail
  generalize wt3.alloc (.cells #[.string ⟨#[40]⟩,.string ⟨#[44]⟩,.string ⟨#[41]⟩] 9)=w3 at *;refine con3.mono ?_;rintro e w4 ⟨hb4,hW⟩;have hx4:=hx3.trans hb4;have QZ4:=(hb4.2 _ (lt_of_heap QZ3) (by omega)).trans QZ3;have hz4:=lt_of_heap QZ4;clear con3;rcases L with ce | ⟨l,rs⟩
  ·obtain ⟨rfl,us,hE⟩:=hW;have HEr:Hid (RdAt w4 R tb us o):=hE;clear hE;have e:M = .error ce:=HM.out.symm;subst e;clear HM;go_wp2_with fail
   exact ⟨rfl,Ends.err rfl hx4 HEr.out⟩
  obtain ⟨v,rfl,⟨a,c,rfl,hks⟩,hR4⟩:=hW;have HR4:Hid (RdAt w4 R tb rs o):=hR4;have HK4:Hid (SsAt w3.heap.size w4 a l):=hks;have e:M = .ok (nd 18 l,rs):=HM.out.symm;subst e;have con5:=node_at 18 a l.length c w4;clear HM hR4 hks;go_wp2_with fail
  refine con5.mono ?_;rintro e w6 ⟨rfl,hb6⟩;have QZ:=(hb6.block _ (lt_of_heap QZ4)).trans QZ4;have hx6:BelowX R w w6:=hx4.trans (.of hb6 (by omega));have HR6:Hid (RdAt w6 R tb rs o):=HR4.out.next hb6;have HK6:Hid (SsAt (w.heap.size+1) w6 a l):=SsAt.next hb6 (SsAt.mono (by omega) HK4.out);obtain ⟨z0,z1,z2,z3,z4,z5,z6⟩:=cells7 QZ;obtain ⟨y0,y1,y2,y3,y4,y5,y6⟩:=froz7 QZ;clear con5;go_wp2_with fail
  obtain ⟨QE,hRE,hKE,hbE⟩:=st7_all (w:=w) (x:=nd 18 l) (a:=a) (cap:=c) QZ HR6.out HK6.out hx6 (Nat.le_refl _) (by omega) hltR hltT;change (((((((w6.setCell ⟨w.heap.size,0,none⟩ (.int .i64 18)).setCell ⟨w.heap.size,1,none⟩ (.int .i64 0)).setCell ⟨w.heap.size,2,none⟩ (.int .i64 0)).setCell ⟨w.heap.size,3,none⟩ (.string ⟨#[]⟩)).setCell ⟨w.heap.size,4,none⟩ (.string ⟨#[]⟩)).setCell ⟨w.heap.size,5,none⟩ (.string ⟨#[]⟩)).setCell ⟨w.heap.size,6,none⟩ (.slice a l.length c)).heap[w.heap.size]? = _ at QE
  change RdAt (((((((w6.setCell ⟨w.heap.size,0,none⟩ (.int .i64 18)).setCell ⟨w.heap.size,1,none⟩ (.int .i64 0)).setCell ⟨w.heap.size,2,none⟩ (.int .i64 0)).setCell ⟨w.heap.size,3,none⟩ (.string ⟨#[]⟩)).setCell ⟨w.heap.size,4,none⟩ (.string ⟨#[]⟩)).setCell ⟨w.heap.size,5,none⟩ (.string ⟨#[]⟩)).setCell ⟨w.heap.size,6,none⟩ (.slice a l.length c)) R tb rs o at hRE
  change SsAt _ (((((((w6.setCell ⟨w.heap.size,0,none⟩ (.int .i64 18)).setCell ⟨w.heap.size,1,none⟩ (.int .i64 0)).setCell ⟨w.heap.size,2,none⟩ (.int .i64 0)).setCell ⟨w.heap.size,3,none⟩ (.string ⟨#[]⟩)).setCell ⟨w.heap.size,4,none⟩ (.string ⟨#[]⟩)).setCell ⟨w.heap.size,5,none⟩ (.string ⟨#[]⟩)).setCell ⟨w.heap.size,6,none⟩ (.slice a l.length c)) _ _ at hKE
  change BelowX R w (((((((w6.setCell ⟨w.heap.size,0,none⟩ (.int .i64 18)).setCell ⟨w.heap.size,1,none⟩ (.int .i64 0)).setCell ⟨w.heap.size,2,none⟩ (.int .i64 0)).setCell ⟨w.heap.size,3,none⟩ (.string ⟨#[]⟩)).setCell ⟨w.heap.size,4,none⟩ (.string ⟨#[]⟩)).setCell ⟨w.heap.size,5,none⟩ (.string ⟨#[]⟩)).setCell ⟨w.heap.size,6,none⟩ (.slice a l.length c)) at hbE
  generalize (((((((w6.setCell ⟨w.heap.size,0,none⟩ (.int .i64 18)).setCell ⟨w.heap.size,1,none⟩ (.int .i64 0)).setCell ⟨w.heap.size,2,none⟩ (.int .i64 0)).setCell ⟨w.heap.size,3,none⟩ (.string ⟨#[]⟩)).setCell ⟨w.heap.size,4,none⟩ (.string ⟨#[]⟩)).setCell ⟨w.heap.size,5,none⟩ (.string ⟨#[]⟩)).setCell ⟨w.heap.size,6,none⟩ (.slice a l.length c))=wE at *;obtain ⟨x0,x1,x2,x3,x4,x5,x6⟩:=cells7 QE;exact bodyPost_ret (v:=.agg (sxA (nd 18 l) a c)) (by simp [results,Tryz.results234,go_sem,x0,x1,x2,x3,x4,x5,x6]) rfl (Ends.good rfl hbE ⟨a,c,rfl,hKE.mono (by omega)⟩ hRE)
 simp only [i2,Bool.false_eq_true,if_false] at hf ⊢;change agSel n o ts agL≠fuelE at hf;change Calls _ _ _ _ (Ends R tb o w (VX w.heap.size) (agSel n o ts agL));generalize hM:agSel n o ts agL=M at *;have HM:Hid (agSel n o ts agL=M):=hM;have HF:Hid (M≠fuelE):=hf;clear hM hf;go_enter Tryz.func234,Tryz.ntmps234;go_wp2_with fail
 generalize w.alloc (.cells z7A 55)=w1 at *;refine con.mono ?_;rintro e w2 ⟨rfl,hb2⟩;have HT0:Hid (RdAt w2 R tb ts o):=H1.out.next hb2;have QT0:=(hb2.block _ (lt_of_heap QZ0)).trans QZ0;have hxt0:BelowX R w w2:=(BelowX.of hal (by omega)).trans (.of hb2 (by omega));have hzt0:=lt_of_heap QT0;clear con;have ct0:=took_at HT0.out ⟨#[40]⟩;rw [i0,tookP_f i0] at ct0;go_wp2_with fail
 refine ct0.mono ?_;rintro e wt1 ⟨rfl,ht,hbt1⟩;have HT1:Hid (RdAt wt1 R tb (ts) o):=ht;have QT1:=(hbt1.2 _ (lt_of_heap QT0) (by omega)).trans QT0;have hxt1:=hxt0.trans hbt1;have hzt1:=lt_of_heap QT1;clear ct0 ht;have ct1:=took_at HT1.out ⟨#[99,97,115,101]⟩;rw [i1,tookP_f i1] at ct1;go_wp2_with fail
 refine ct1.mono ?_;rintro e wt2 ⟨rfl,ht,hbt2⟩;have HT2:Hid (RdAt wt2 R tb (ts) o):=ht;have QT2:=(hbt2.2 _ (lt_of_heap QT1) (by omega)).trans QT1;have hxt2:=hxt1.trans hbt2;have hzt2:=lt_of_heap QT2;clear ct1 ht;have ct2:=took_at HT2.out ⟨#[99,111,97,108,101,115,99,101]⟩;rw [i2,tookP_f i2] at ct2;go_wp2_with fail
 refine ct2.mono ?_;rintro e wt3 ⟨rfl,ht,hbt3⟩;have HT3:Hid (RdAt wt3 R tb (ts) o):=ht;have QT3:=(hbt3.2 _ (lt_of_heap QT2) (by omega)).trans QT2;have hxt3:=hxt2.trans hbt3;have hzt3:=lt_of_heap QT3;clear ct2 ht;have ca:=aggs_at wt3;have hal4:Below wt3.heap.size wt3 (wt3.alloc (.cells agC 168)):=(Below.refl _ _).alloc (Nat.le_refl _) _;have QA4:=heap_new wt3 agC 168;have QZ4:=(hal4.block _ (lt_of_heap QT3)).trans QT3;have hx4:BelowX R w (wt3.alloc (.cells agC 168)):=hxt3.trans (.of hal4 (by omega));have H4:Hid (RdAt (wt3.alloc (.cells agC 168)) R tb ts o):=HT3.out.next hal4;go_wp2_with fail
 refine ca.mono ?_;rintro e w4 ⟨rfl,rfl⟩;generalize wt3.alloc (.cells agC 168)=w4 at *;clear ca;go_wp2_with fail
 go_loopw [37] (fun i wr=>∃ k:Nat,k≤4∧i = .int .i64 k∧Hid (agSel n o ts (agL.drop k)=M)∧BelowX R w wr∧Hid (RdAt wr R tb ts o)∧wr.heap[w.heap.size]? = some (.cells z7A 55 (0,0))∧wr.heap[wt3.heap.size]? = some (.cells agC 168 (0,0))) (fun i _=>4 - (RowKit.intOf i).toNat)
 case atStart=>exact ⟨0,by omega,rfl,HM,hx4,H4,QZ4,QA4⟩
 case round =>
  clear HM hx4 H4 QZ4 QA4;obtain ⟨k,hk,rfl,HL,hx,HR,QZr,QA⟩:=hrel;have hzr:=lt_of_heap QA;by_cases hlt:k<4
  ·have hkz:(k:Int)<4:=by omega
   have hkl:k<agL.length:=hlt;obtain ⟨c0,c1⟩:=agC_at QA k hkl;have HL2:Hid ((if isP agL[k].2 ts=true then aggP n agL[k].1 o (passP ts) else agSel n o ts (agL.drop (k+1)))=M):=by
    have:=HL.out;rw [List.drop_eq_getElem_cons hkl,agSel] at this;exact this
   clear HL;generalize agL[k]=a at *;have hal5:Below wr.heap.size wr (wr.alloc (.cells #[.int .i64 a.1,.string a.2] 168)):=(Below.refl _ _).alloc (Nat.le_refl _) _;have QC:=heap_new wr #[.int .i64 a.1,.string a.2] 168;have con5:=took_at (HR.out.next hal5) a.2;rcases hi:isP a.2 ts with _ | _
   ·rw [hi,tookP_f hi] at con5;have HL3:Hid (agSel n o ts (agL.drop (k+1))=M):=by have:=HL2.out; rw [hi] at this; exact this
    clear HL2;go_wp2_with fail
    refine con5.mono ?_;rintro e w6 ⟨rfl,h6,hb6⟩;have hxr6:BelowX R wr w6:=(BelowX.of hal5 (by omega)).trans hb6;have H6:Hid (RdAt w6 R tb ts o):=h6;have QZ6:=(hxr6.2 _ (lt_of_heap QZr) (by omega)).trans QZr;have QA6:=(hxr6.2 _ (lt_of_heap QA) (by omega)).trans QA;clear con5 h6 c0 c1;go_wp2_with fail
    go_roundw
    case rel=>exact ⟨k+1,by omega,by go_num,HL3,hx.trans hxr6,H6,QZ6,QA6⟩
    case measure=>simp [RowKit.intOf]; omega
   ·rw [hi,tookP_t hi] at con5;have e:aggP n a.1 o (passP ts)=M:=by have:=HL2.out; rw [hi] at this; exact this
    clear HL2;go_wp2_with fail
    refine con5.mono ?_;rintro e' w6 ⟨rfl,h6,hb6⟩;have hxr6:BelowX R wr w6:=(BelowX.of hal5 (by omega)).trans hb6;have QZ6:=(hxr6.2 _ (lt_of_heap QZr) (by omega)).trans QZr;have QC6:=(hb6.2 _ (lt_of_heap QC) (by omega)).trans QC;have k0:w6.cell? ⟨wr.heap.size,0,none⟩=some (.int .i64 a.1):=cell_of (i:=0) QC6 rfl;have con7:=HAG.out a.1 w6 R tb (passP ts) h6 (by rw [e]; exact HF.out);rw [e] at con7;have hx6:=hx.trans hxr6;have hz6:=lt_of_heap QZ6;clear con5 h6 c0 c1 e;go_wp2_with fail
    refine con7.mono ?_;rintro e' w7 ⟨hb7,hW⟩;have QZ:=(hb7.2 _ (lt_of_heap QZ6) (by omega)).trans QZ6;clear con7;rcases M with c | ⟨x,rs⟩
    ·obtain ⟨rfl,us,hE⟩:=hW;have HE:Hid (RdAt w7 R tb us o):=hE;clear hE;go_wp2_with fail
     exact ⟨rfl,Ends.err rfl (hx6.trans hb7) HE.out⟩
    ·obtain ⟨v,rfl,⟨a,cap,rfl,hks⟩,hRW⟩:=hW;obtain ⟨z0,z1,z2,z3,z4,z5,z6⟩:=cells7 QZ;obtain ⟨y0,y1,y2,y3,y4,y5,y6⟩:=froz7 QZ;have HRW:Hid (RdAt w7 R tb rs o):=hRW;have HKW:Hid (SsAt _ w7 a x.ks):=hks;clear hRW hks;go_wp2_with fail
     obtain ⟨QE,hRE,hKE,hbE⟩:=st7_all (w:=w) (cap:=cap) QZ HRW.out HKW.out (hx6.trans hb7) (by omega) (by omega) hltR hltT;generalize (((((((w7.setCell ⟨w.heap.size,0,none⟩ (.int .i64 x.k)).setCell ⟨w.heap.size,1,none⟩ (.int .i64 x.v.1)).setCell ⟨w.heap.size,2,none⟩ (.int .i64 x.v.2.1)).setCell ⟨w.heap.size,3,none⟩ (.string x.v.2.2)).setCell ⟨w.heap.size,4,none⟩ (.string x.tab)).setCell ⟨w.heap.size,5,none⟩ (.string x.name)).setCell ⟨w.heap.size,6,none⟩ (.slice a x.ks.length cap))=wE at *;obtain ⟨x0,x1,x2,x3,x4,x5,x6⟩:=cells7 QE
     exact bodyPost_ret (v:=.agg (sxA x a cap)) (by simp [results,Tryz.results234,go_sem,x0,x1,x2,x3,x4,x5,x6]) rfl (Ends.good rfl hbE ⟨a,cap,rfl,hKE.mono (by omega)⟩ hRE)
  ·have hkz:¬ (k:Int)<4:=by omega
   have e:columnNameP ts=M:=by have:=HL.out; rw [List.drop_eq_nil_of_le (show agL.length≤k by show 4≤k; omega),agSel] at this; exact this
   have con7:=columnName_at HR.out;rw [e] at con7;clear HL e;go_wp2_with fail
   refine con7.mono ?_;rintro e' w7 ⟨hb7,hW⟩;have QZ:=(hb7.2 _ (lt_of_heap QZr) (by omega)).trans QZr;clear con7;rcases M with c | ⟨x,rs⟩
   ·obtain ⟨rfl,us,hE⟩:=hW;have HE:Hid (RdAt w7 R tb us o):=hE;clear hE;go_wp2_with fail
    exact ⟨rfl,Ends.err rfl (hx.trans hb7) HE.out⟩
   ·obtain ⟨v,rfl,⟨a,cap,rfl,hks⟩,hRW⟩:=hW;obtain ⟨z0,z1,z2,z3,z4,z5,z6⟩:=cells7 QZ;obtain ⟨y0,y1,y2,y3,y4,y5,y6⟩:=froz7 QZ;have HRW:Hid (RdAt w7 R tb rs o):=hRW;have HKW:Hid (SsAt _ w7 a x.ks):=hks;clear hRW hks;go_wp2_with fail
    obtain ⟨QE,hRE,hKE,hbE⟩:=st7_all (w:=w) (cap:=cap) QZ HRW.out HKW.out (hx.trans hb7) (by omega) (by omega) hltR hltT;generalize (((((((w7.setCell ⟨w.heap.size,0,none⟩ (.int .i64 x.k)).setCell ⟨w.heap.size,1,none⟩ (.int .i64 x.v.1)).setCell ⟨w.heap.size,2,none⟩ (.int .i64 x.v.2.1)).setCell ⟨w.heap.size,3,none⟩ (.string x.v.2.2)).setCell ⟨w.heap.size,4,none⟩ (.string x.tab)).setCell ⟨w.heap.size,5,none⟩ (.string x.name)).setCell ⟨w.heap.size,6,none⟩ (.slice a x.ks.length cap))=wE at *;obtain ⟨x0,x1,x2,x3,x4,x5,x6⟩:=cells7 QE
    exact bodyPost_ret (v:=.agg (sxA x a cap)) (by simp [results,Tryz.results234,go_sem,x0,x1,x2,x3,x4,x5,x6]) rfl (Ends.good rfl hbE ⟨a,cap,rfl,hKE.mono (by omega)⟩ hRE)

structure AllE (n:Nat):Prop where
 ex:∀ o,0≤o∧o≤100→CtE 164 [] (exprP n o) o
 lv:∀ lvl o,2≤lvl∧lvl≤8→0≤o∧o≤100→CtE 219 [.int .i64 lvl] (levelP n lvl o) o
 ch:∀ lvl o,1≤lvl∧lvl≤7→0≤o∧o≤100→CtE 197 [.int .i64 lvl] (chainP n lvl o) o
 dn:∀ o,0≤o∧o≤100→CtE 233 [] (deniedP n o) o
 cm:∀ o,0≤o∧o≤100→CtE 243 [] (comparedP n o) o
 pc:∀ o,0≤o∧o≤100→CtE 234 [] (pieceP n o) o
 ag:∀ kind o,0≤o∧o≤100→CtE 246 [.int .i64 kind] (aggP n kind o) o
theorem allE (n:Nat):AllE n:=by
 induction n using Nat.strongRecOn with
 | _ n ih =>
  cases n with
  | zero =>
   refine ⟨fun o _ w R tb ts h hf=>?_,fun lvl o _ _ w R tb ts h hf=>?_,fun lvl o _ _ w R tb ts h hf=>?_,fun o _ w R tb ts h hf=>?_,fun o _ w R tb ts h hf=>?_,fun o _ w R tb ts h hf=>?_,fun kind o _ w R tb ts h hf=>?_⟩
   ·exact absurd (by rw [exprP]) hf
   ·exact absurd (by rw [levelP]) hf
   ·exact absurd (by rw [chainP]) hf
   ·exact absurd (by rw [deniedP]) hf
   ·exact absurd (by rw [comparedP]) hf
   ·exact absurd (by rw [pieceP]) hf
   ·exact absurd (by rw [aggP]) hf
  | succ n =>
   have A:=fun m (h:m≤n)=>ih m (by omega)
   exact ⟨fun o ho=>expr_step ho (fun h=>(A n (Nat.le_refl _)).ch 1 (o+1) (by omega) (by omega)),
    fun lvl o hl ho=>level_step (fun _=>(A n (Nat.le_refl _)).dn o ho) (fun _=>(A n (Nat.le_refl _)).pc o ho) (fun h3 h8=>(A n (Nat.le_refl _)).ch lvl o (by omega) ho),
    fun lvl o hl ho=>chain_step hl (fun m hm=>(A m hm).lv (lvl+1) o (by omega) ho),
    fun o ho=>denied_step ho (fun h=>(A n (Nat.le_refl _)).dn (o+1) (by omega)) ((A n (Nat.le_refl _)).cm o ho),
    fun o ho=>compared_step ((A n (Nat.le_refl _)).ch 5 o (by omega) ho),
    fun o ho=>piece_step ((A n (Nat.le_refl _)).ex o ho) (fun m hm k hk=>(A k (by omega)).ex o ho) (fun kind=>(A n (Nat.le_refl _)).ag kind o ho),
    fun kind o ho=>agg_step ((A n (Nat.le_refl _)).ex o ho)⟩
end Go.Proofs.YtoknmnngaackkaaGreatDoor
namespace Go.Proofs.YtoknmnngaackkaaGreatDoor

/-- It is no end of the fuel, and fewer than L tokens are left. -/
def Gs {α:Type} (L:Nat) (r:PR α):Prop :=
 match r with
 | .error e=>e≠(-1,0)
 | .ok (_,t)=>t.length<L
theorem Gs.bnd {α β:Type} {L1 L2:Nat} {r:PR α} {k:α→List Tk→PR β} (h:Gs L1 r) (hk:∀ x t,t.length<L1→Gs L2 (k x t)):Gs L2 (bnd r k):=by
 rcases r with e | ⟨x,t⟩
 ·exact h
 ·exact hk x t h
theorem Gs.mono {α:Type} {L1 L2:Nat} {r:PR α} (h:Gs L1 r) (hl:L1≤L2):Gs L2 r:=by
 rcases r with e | ⟨x,t⟩
 ·exact h
 ·exact Nat.lt_of_lt_of_le (show t.length<L1 from h) hl
theorem Gs.ne {α:Type} {L:Nat} {r:PR α} (h:Gs L r):r≠fuelE:=by
 rintro rfl;exact h rfl
theorem passP_le (ts:List Tk):(passP ts).length≤ts.length:=by
 cases ts with
 | nil=>exact Nat.le_refl _
 | cons t r=>rw [passP]; split <;> simp
theorem passP_lt {ts:List Tk} (h:(nowP ts).1≠5):(passP ts).length<ts.length:=by
 cases ts with
 | nil=>exact absurd rfl h
 | cons t r=>rw [passP,if_neg (show ¬ t.1=5 from h)]; simp
theorem isP_lt {s:ByteArray} {ts:List Tk} (h:isP s ts=true):(passP ts).length<ts.length:=by
 refine passP_lt fun h5=>?_
 simp [isP,h5] at h
theorem mustP_g:∀ (l:List ByteArray) (ts:List Tk),Gs (ts.length+1) (mustP l ts)
 | [],ts=>Nat.lt_succ_self _
 | s :: l,ts=>by
  rw [mustP]
  split
  ·exact (mustP_g l (passP ts)).mono (Nat.succ_le_succ (passP_le ts))
  ·show (_:Int × Int)≠_; simp
theorem nameP_g (ts:List Tk):Gs ts.length (nameP ts):=by
 rw [nameP]
 split
 ·show (_:Int × Int)≠_; simp
 ·rename_i h
  split
  ·show (_:Int × Int)≠_; simp
  ·exact passP_lt (by simp at h; omega)
theorem numberP_g (a b:Int) (ts:List Tk):Gs ts.length (numberP a b ts):=by
 unfold numberP;simp only;have hle:(if isP ⟨#[45]⟩ ts=true then passP ts else ts).length≤ts.length:=by split; exact passP_le _; exact Nat.le_refl _
 generalize (if isP ⟨#[45]⟩ ts=true then passP ts else ts)=ts1 at *;generalize (if isP ⟨#[45]⟩ ts=true then -digitsP (nowP ts1).2.1 else digitsP (nowP ts1).2.1)=m
 split
 ·show (_:Int × Int)≠_; simp
 ·rename_i h
  split
  ·show (_:Int × Int)≠_; simp
  ·exact Nat.lt_of_lt_of_le (passP_lt (by simp at h; omega)) hle
theorem valueP_g (ts:List Tk):Gs ts.length (valueP ts):=by
 rw [valueP]
 split
 ·rename_i h; exact passP_lt (by omega)
 ·split
  ·rename_i h; exact isP_lt h
  ·split
   ·rename_i h; exact isP_lt h
   ·split
    ·rename_i h; exact isP_lt h
    ·exact (numberP_g _ _ ts).bnd fun x t h=>h
theorem signF_lt (lvl:Int) (ts:List Tk):∀ l:List (Int × ByteArray × Int),(signF lvl ts l).1≠0→(signF lvl ts l).2.length<ts.length
 | [],h=>absurd rfl h
 | i :: r,h=>by
  rw [signF] at h ⊢
  split
  ·rename_i hc; exact isP_lt hc.2
  ·rename_i hc; rw [if_neg hc] at h; exact signF_lt lvl ts r h
theorem isNullP_g (x:SX) (ts:List Tk):Gs (ts.length+1) (isNullP x ts):=by
 have hle:(if isP ⟨#[110,111,116]⟩ ts=true then passP ts else ts).length≤ts.length:=by split; exact passP_le _; exact Nat.le_refl _
 exact ((mustP_g _ _).mono (Nat.succ_le_succ hle)).bnd fun _ t h=>h
theorem columnNameP_g (ts:List Tk):Gs ts.length (columnNameP ts):=by
 refine (nameP_g ts).bnd fun n r h=>?_
 try simp only
 split
 ·exact ((nameP_g (passP r)).mono (Nat.le_trans (passP_le r) (Nat.le_of_lt h))).bnd fun m r2 h2=>h2
 ·exact h
def chR (lvl:Int):Nat:=if lvl=1 then 13 else if lvl=2 then 11 else if lvl=5 then 7 else if lvl=6 then 5 else 3
def lvR (lvl:Int):Nat:=if lvl=2 then 12 else if lvl=3 then 10 else if lvl=6 then 6 else if lvl=7 then 4 else 2
structure Fl (n:Nat):Prop where
 ex:∀ o (ts:List Tk),20*ts.length+14≤n→Gs ts.length (exprP n o ts)
 lv:∀ lvl o (ts:List Tk),lvl=2∨lvl=3∨lvl=6∨lvl=7∨lvl=8→20*ts.length+lvR lvl≤n→Gs ts.length (levelP n lvl o ts)
 ch:∀ lvl o (ts:List Tk),lvl=1∨lvl=2∨lvl=5∨lvl=6∨lvl=7→20*ts.length+chR lvl≤n→Gs ts.length (chainP n lvl o ts)
 lp:∀ lvl o x (ts:List Tk),lvl=1∨lvl=2∨lvl=5∨lvl=6∨lvl=7→20*ts.length+1≤n→Gs (ts.length+1) (loopP n lvl o x ts)
 dn:∀ o (ts:List Tk),20*ts.length+9≤n→Gs ts.length (deniedP n o ts)
 cm:∀ o (ts:List Tk),20*ts.length+8≤n→Gs ts.length (comparedP n o ts)
 pc:∀ o (ts:List Tk),20*ts.length+1≤n→Gs ts.length (pieceP n o ts)
 bh:∀ o s l (ts:List Tk),20*ts.length+16≤n→Gs (ts.length+1) (behindP n o (s :: l) ts)
 es:∀ o l acc (ts:List Tk),20*ts.length+15≤n→Gs (ts.length+1) (exprsP n o l acc ts)
 ag:∀ kind o (ts:List Tk),20*ts.length+15≤n→Gs (ts.length+1) (aggP n kind o ts)
theorem fl (n:Nat):Fl n:=by
 induction n with
 | zero=>exact ⟨fun _ _ h=>by omega,fun lvl _ _ hl h=>by rcases hl with rfl | rfl | rfl | rfl | rfl <;> simp [lvR] at h,fun lvl _ _ hl h=>by rcases hl with rfl | rfl | rfl | rfl | rfl <;> simp [chR] at h,fun _ _ _ _ _ h=>by omega,fun _ _ h=>by omega,fun _ _ h=>by omega,fun _ _ h=>by omega,fun _ _ _ _ h=>by omega,fun _ _ _ _ h=>by omega,fun _ _ _ h=>by omega⟩
 | succ n A =>
  have hch:∀ lvl:Int,lvl=1∨lvl=2∨lvl=5∨lvl=6∨lvl=7→(lvl+1=2∨lvl+1=3∨lvl+1=6∨lvl+1=7∨lvl+1=8)∧lvR (lvl+1)+1=chR lvl∧lvR (lvl+1)≤12:=by
   rintro lvl (rfl | rfl | rfl | rfl | rfl) <;> simp [lvR,chR]
  refine ⟨fun o ts h=>?_,fun lvl o ts hl h=>?_,fun lvl o ts hl h=>?_,fun lvl o x ts hl h=>?_,fun o ts h=>?_,fun o ts h=>?_,fun o ts h=>?_,fun o s l ts h=>?_,fun o l acc ts h=>?_,fun kind o ts h=>?_⟩
  ·rw [exprP]
   split
   ·show (_:Int × Int)≠_; simp
   ·exact A.ch 1 _ ts (.inl rfl) (by simp [chR]; omega)
  ·rw [levelP]
   split
   ·rename_i h3; subst h3; exact A.dn o ts (by simp [lvR] at h; omega)
   ·split
    ·rename_i h8; subst h8; exact A.pc o ts (by simp [lvR] at h; omega)
    ·rcases hl with rfl | rfl | rfl | rfl | rfl
     ·exact A.ch 2 o ts (by omega) (by simp [lvR] at h; simp [chR]; omega)
     ·contradiction
     ·exact A.ch 6 o ts (by omega) (by simp [lvR] at h; simp [chR]; omega)
     ·exact A.ch 7 o ts (by omega) (by simp [lvR] at h; simp [chR]; omega)
     ·contradiction
  ·rw [chainP];obtain ⟨h1,h2,h3⟩:=hch lvl hl;exact (A.lv (lvl+1) o ts h1 (by omega)).bnd fun x r hr=>(A.lp lvl o x r hl (by omega)).mono (by omega)
  ·rw [loopP];obtain ⟨h1,h2,h3⟩:=hch lvl hl
   split
   ·exact Nat.lt_succ_self _
   ·rename_i hs
    have hlt:=signF_lt lvl ts infL hs;have hlt':(signP lvl ts).2.length<ts.length:=hlt;exact (A.lv (lvl+1) o _ h1 (by omega)).bnd fun y r hr=>(A.lp lvl o _ r hl (by omega)).mono (by omega)
  ·rw [deniedP]
   split
   ·rename_i hi
    have hlt:=isP_lt hi;refine Gs.bnd (L1:=ts.length) ?_ fun x r hr=>hr
    split
    ·show (_:Int × Int)≠_; simp
    ·exact (A.dn _ _ (by omega)).mono (by omega)
   ·exact A.cm o ts (by omega)
  ·rw [comparedP];refine (A.ch 5 o ts (by omega) (by simp [chR]; omega)).bnd fun x r hr=>?_
   try simp only
   split
   ·exact (isNullP_g x (passP r)).mono (by have:=passP_le r; omega)
   ·split
    ·exact hr
    ·rename_i hs
     have hlt:(signP 4 r).2.length<r.length:=signF_lt 4 r infL hs;exact (A.ch 5 o _ (by omega) (by simp [chR]; omega)).bnd fun y r2 h2=>by show r2.length<_; omega
  ·rw [pieceP]
   split
   ·exact (valueP_g ts).bnd fun v r h=>h
   ·split
    ·rename_i hi
     have hlt:=isP_lt hi;exact (A.ex o _ (by omega)).bnd fun x r hr=>((mustP_g _ r).mono (show r.length+1≤ts.length by omega)).bnd fun _ r2 h2=>h2
    ·split
     ·rename_i hi
      have hlt:=isP_lt hi;exact ((A.bh o _ _ _ (by omega)).mono (show _≤ts.length by omega)).bnd fun l r hr=>hr
     ·split
      ·rename_i hi
       have hlt:=isP_lt hi;exact ((A.bh o _ _ _ (by omega)).mono (show _≤ts.length by omega)).bnd fun l r hr=>hr
      ·split
       ·rename_i hi; have hlt:=isP_lt hi; exact (A.ag 20 o _ (by omega)).mono (by omega)
       ·split
        ·rename_i hi; have hlt:=isP_lt hi; exact (A.ag 21 o _ (by omega)).mono (by omega)
        ·split
         ·rename_i hi; have hlt:=isP_lt hi; exact (A.ag 22 o _ (by omega)).mono (by omega)
         ·split
          ·rename_i hi; have hlt:=isP_lt hi; exact (A.ag 23 o _ (by omega)).mono (by omega)
          ·exact columnNameP_g ts
  ·rw [behindP];exact (mustP_g _ ts).bnd fun _ r hr=>(A.es o l [] r (by omega)).mono (by omega)
  ·cases l with
   | nil=>rw [exprsP]; exact Nat.lt_succ_self _
   | cons s l =>
    rw [exprsP];exact (A.ex o ts (by omega)).bnd fun x r hr=>(mustP_g _ r).bnd fun _ r2 h2=>(A.es o l _ r2 (by omega)).mono (by omega)
  ·rw [aggP];refine (mustP_g _ ts).bnd fun _ r hr=>?_
   try simp only
   split
   ·exact ((mustP_g _ (passP r)).mono (show _≤ts.length+1 by have:=passP_le r; omega)).bnd fun _ r2 h2=>h2
   ·exact (A.ex o r (by omega)).bnd fun x r2 h2=>((mustP_g _ r2).mono (show _≤ts.length+1 by omega)).bnd fun _ r3 h3=>h3
theorem eP_g {ts:List Tk} (h:ts.length≤4001):Gs ts.length (eP ts):=(fl exF).ex 0 ts (by unfold exF; omega)
end Go.Proofs.YtoknmnngaackkaaGreatDoor
namespace Go.Proofs.YtoknmnngaackkaaGreatDoor
open Go.RowKit Go.Lib Go.Shelf
set_option maxRecDepth 100000
set_option maxHeartbeats 8000000

theorem eP_at {w:World} {R tb:Nat} {ts:List Tk} (h:RdAt w R tb ts 0):Calls Tryz.prog 164 #[.pointer (some ⟨R,0,none⟩)] w (Ends R tb 0 w (VX w.heap.size) (eP ts)) :=
 (allE exF).ex 0 (by omega) w R tb ts h (eP_g h.small).ne
/-- A truth and an expression, as they are told. -/
def VBx (B:Nat) (W:World) (v:Value) (x:Bool × SX):Prop:=∃ a cap,v = .tuple #[.bool x.1,.agg (sxA x.2 a cap)]∧SsAt B W a x.2.ks
theorem exprBehind_at {w:World} {R tb:Nat} {ts:List Tk} (h:RdAt w R tb ts 0) (s:ByteArray):Calls Tryz.prog 160 #[.pointer (some ⟨R,0,none⟩),.string s] w (Ends R tb 0 w (VBx w.heap.size) (exprBehindP s ts)):=by
 have hltR:=h.lt;have hltT:=h.ltb;have hal:Below w.heap.size w (w.alloc (.cells z7A 55)):=(Below.refl _ _).alloc (Nat.le_refl _) _;have QZ0:=heap_new w z7A 55;have hz0:w.heap.size<(w.alloc (.cells z7A 55)).heap.size:=lt_of_heap QZ0;have con:=took_at (h.next hal) s;generalize hM:exprBehindP s ts=M;have HM:Hid ((if isP s ts=true then bnd (eP (passP ts)) fun x r=>.ok ((true,x),r) else .ok ((false,sx0),ts))=M):=hM;clear h hM;rcases hi:isP s ts with _ | _
 ·rw [hi,tookP_f hi] at con;have e:M = .ok ((false,sx0),ts):=by rw [← HM.out,hi]; rfl
  subst e;clear HM;go_enter Tryz.func160,Tryz.ntmps160;go_wp2_with fail
  generalize w.alloc (.cells z7A 55)=w1 at *;refine con.mono ?_;rintro e w2 ⟨rfl,h2,hb2⟩;have QZ:=(hb2.2 _ (lt_of_heap QZ0) (by omega)).trans QZ0;have hx2:BelowX R w w2:=(BelowX.of hal (by omega)).trans hb2;have H2:Hid (RdAt w2 R tb ts 0):=h2;obtain ⟨z0,z1,z2,z3,z4,z5,z6⟩:=cells7 QZ;obtain ⟨y0,y1,y2,y3,y4,y5,y6⟩:=froz7 QZ;clear con h2;go_wp2_with fail
  obtain ⟨QE,hRE,hKE,hbE⟩:=st7_all (w:=w) (x:=sx0) (a:=none) (cap:=0) (B:=w.heap.size+1) QZ H2.out (SsS.nil _) hx2 (Nat.le_refl _) (by omega) hltR hltT;change (((((((w2.setCell ⟨w.heap.size,0,none⟩ (.int .i64 0)).setCell ⟨w.heap.size,1,none⟩ (.int .i64 0)).setCell ⟨w.heap.size,2,none⟩ (.int .i64 0)).setCell ⟨w.heap.size,3,none⟩ (.string ⟨#[]⟩)).setCell ⟨w.heap.size,4,none⟩ (.string ⟨#[]⟩)).setCell ⟨w.heap.size,5,none⟩ (.string ⟨#[]⟩)).setCell ⟨w.heap.size,6,none⟩ (.slice none 0 0)).heap[w.heap.size]? = _ at QE
  change RdAt (((((((w2.setCell ⟨w.heap.size,0,none⟩ (.int .i64 0)).setCell ⟨w.heap.size,1,none⟩ (.int .i64 0)).setCell ⟨w.heap.size,2,none⟩ (.int .i64 0)).setCell ⟨w.heap.size,3,none⟩ (.string ⟨#[]⟩)).setCell ⟨w.heap.size,4,none⟩ (.string ⟨#[]⟩)).setCell ⟨w.heap.size,5,none⟩ (.string ⟨#[]⟩)).setCell ⟨w.heap.size,6,none⟩ (.slice none 0 0)) R tb ts 0 at hRE
  change BelowX R w (((((((w2.setCell ⟨w.heap.size,0,none⟩ (.int .i64 0)).setCell ⟨w.heap.size,1,none⟩ (.int .i64 0)).setCell ⟨w.heap.size,2,none⟩ (.int .i64 0)).setCell ⟨w.heap.size,3,none⟩ (.string ⟨#[]⟩)).setCell ⟨w.heap.size,4,none⟩ (.string ⟨#[]⟩)).setCell ⟨w.heap.size,5,none⟩ (.string ⟨#[]⟩)).setCell ⟨w.heap.size,6,none⟩ (.slice none 0 0)) at hbE
  change SsAt _ (((((((w2.setCell ⟨w.heap.size,0,none⟩ (.int .i64 0)).setCell ⟨w.heap.size,1,none⟩ (.int .i64 0)).setCell ⟨w.heap.size,2,none⟩ (.int .i64 0)).setCell ⟨w.heap.size,3,none⟩ (.string ⟨#[]⟩)).setCell ⟨w.heap.size,4,none⟩ (.string ⟨#[]⟩)).setCell ⟨w.heap.size,5,none⟩ (.string ⟨#[]⟩)).setCell ⟨w.heap.size,6,none⟩ (.slice none 0 0)) _ _ at hKE
  generalize (((((((w2.setCell ⟨w.heap.size,0,none⟩ (.int .i64 0)).setCell ⟨w.heap.size,1,none⟩ (.int .i64 0)).setCell ⟨w.heap.size,2,none⟩ (.int .i64 0)).setCell ⟨w.heap.size,3,none⟩ (.string ⟨#[]⟩)).setCell ⟨w.heap.size,4,none⟩ (.string ⟨#[]⟩)).setCell ⟨w.heap.size,5,none⟩ (.string ⟨#[]⟩)).setCell ⟨w.heap.size,6,none⟩ (.slice none 0 0))=wE at *;obtain ⟨x0,x1,x2,x3,x4,x5,x6⟩:=cells7 QE;exact bodyPost_ret (v:=.tuple #[.bool false,.agg (sxA sx0 none 0)]) (by simp [results,Tryz.results160,go_sem,x0,x1,x2,x3,x4,x5,x6]) rfl (Ends.good rfl hbE ⟨none,0,rfl,hKE.mono (by omega)⟩ hRE)
 ·rw [hi,tookP_t hi] at con;have HM2:Hid (bnd (eP (passP ts)) (fun x r=>.ok ((true,x),r))=M):=by have:=HM.out; rw [hi] at this; exact this
  clear HM;go_enter Tryz.func160,Tryz.ntmps160;go_wp2_with fail
  generalize w.alloc (.cells z7A 55)=w1 at *;refine con.mono ?_;rintro e w2 ⟨rfl,h2,hb2⟩;have QZ2:=(hb2.2 _ (lt_of_heap QZ0) (by omega)).trans QZ0;have hx2:BelowX R w w2:=(BelowX.of hal (by omega)).trans hb2;have con2:=eP_at h2;have hz2:=lt_of_heap QZ2;generalize eP (passP ts)=L at *;clear con h2;go_wp2_with fail
  refine con2.mono ?_;rintro e w3 ⟨hb3,hW⟩;have hx3:=hx2.trans hb3;have QZ:=(hb3.2 _ (lt_of_heap QZ2) (by omega)).trans QZ2;clear con2;rcases L with ce | ⟨x,rs⟩
  ·obtain ⟨rfl,us,hE⟩:=hW;have HEr:Hid (RdAt w3 R tb us 0):=hE;clear hE;have e:M = .error ce:=HM2.out.symm;subst e;clear HM2;go_wp2_with fail
   exact ⟨rfl,Ends.err rfl hx3 HEr.out⟩
  obtain ⟨v,rfl,⟨a,c,rfl,hks⟩,hR3⟩:=hW;have e:M = .ok ((true,x),rs):=HM2.out.symm;subst e;have HR3:Hid (RdAt w3 R tb rs 0):=hR3;have HK3:Hid (SsAt w2.heap.size w3 a x.ks):=hks;obtain ⟨z0,z1,z2,z3,z4,z5,z6⟩:=cells7 QZ;obtain ⟨y0,y1,y2,y3,y4,y5,y6⟩:=froz7 QZ;clear HM2 hR3 hks;go_wp2_with fail
  obtain ⟨QE,hRE,hKE,hbE⟩:=st7_all (w:=w) (cap:=c) QZ HR3.out HK3.out hx3 (Nat.le_refl _) (by omega) hltR hltT;generalize (((((((w3.setCell ⟨w.heap.size,0,none⟩ (.int .i64 x.k)).setCell ⟨w.heap.size,1,none⟩ (.int .i64 x.v.1)).setCell ⟨w.heap.size,2,none⟩ (.int .i64 x.v.2.1)).setCell ⟨w.heap.size,3,none⟩ (.string x.v.2.2)).setCell ⟨w.heap.size,4,none⟩ (.string x.tab)).setCell ⟨w.heap.size,5,none⟩ (.string x.name)).setCell ⟨w.heap.size,6,none⟩ (.slice a x.ks.length c))=wE at *;obtain ⟨x0,x1,x2,x3,x4,x5,x6⟩:=cells7 QE
  exact bodyPost_ret (v:=.tuple #[.bool true,.agg (sxA x a c)]) (by simp [results,Tryz.results160,go_sem,x0,x1,x2,x3,x4,x5,x6]) rfl (Ends.good rfl hbE ⟨a,c,rfl,hKE.mono (by omega)⟩ hRE)
theorem ofAll_at {w:World} {R tb:Nat} {ts:List Tk} {o:Int} (h:RdAt w R tb ts o) (all each:Int):Calls Tryz.prog 194 #[.pointer (some ⟨R,0,none⟩),.int .i64 all,.int .i64 each] w fun e w'=>e = .returned (.int .i64 (if isP ⟨#[97,108,108]⟩ ts then all else each))∧RdAt w' R tb (tookP ⟨#[97,108,108]⟩ ts) o∧BelowX R w w':=by
 have con:=took_at h ⟨#[97,108,108]⟩;clear h;rcases hi:isP ⟨#[97,108,108]⟩ ts with _ | _ <;> rw [hi] at con
 all_goals (
  go_enter Tryz.func194,Tryz.ntmps194;go_wp2_with fail
  refine con.mono ?_;rintro e w1 ⟨rfl,h1,hb1⟩;have H1:Hid (RdAt w1 R tb (tookP ⟨#[97,108,108]⟩ ts) o):=h1;clear con h1;go_wp2_with fail
  exact bodyPost_ret (results_tmp rfl _ _ _) rfl ⟨by first | rfl | trivial,H1.out,hb1⟩)
theorem between_at {w:World} {R tb:Nat} {ts:List Tk} {o:Int} (h:RdAt w R tb ts o):Calls Tryz.prog 162 #[.pointer (some ⟨R,0,none⟩)] w fun e w'=>e = .returned (.int .i64 (betweenP ts).1)∧RdAt w' R tb (betweenP ts).2 o∧BelowX R w w':=by
 have con:=took_at h ⟨#[117,110,105,111,110]⟩;generalize hM:betweenP ts=M;have HM:Hid (betweenP ts=M):=hM;clear h hM;rcases hi:isP ⟨#[117,110,105,111,110]⟩ ts with _ | _
 case true =>
  rw [hi,tookP_t hi] at con;have e:M=((if isP ⟨#[97,108,108]⟩ (passP ts) then 1 else 2),tookP ⟨#[97,108,108]⟩ (passP ts)):=by
   rw [← HM.out,betweenP,hi,tookP];cases isP ⟨#[97,108,108]⟩ (passP ts) <;> rfl
  subst e;clear HM;generalize hm:(if isP ⟨#[97,108,108]⟩ (passP ts)=true then (1:Int) else 2)=m;have Hm:Hid ((if isP ⟨#[97,108,108]⟩ (passP ts)=true then (1:Int) else 2)=m):=hm;clear hm;go_enter Tryz.func162,Tryz.ntmps162;go_wp2_with fail
  refine con.mono ?_;rintro e w1 ⟨rfl,h1,hb1⟩;have con2:=ofAll_at h1 1 2;clear con h1;rw [Hm.out] at con2;go_wp2_with fail
  refine con2.mono ?_;rintro e w2 ⟨rfl,h2,hb2⟩;have H2:Hid (RdAt w2 R tb (tookP ⟨#[97,108,108]⟩ (passP ts)) o):=h2;clear con2 h2;go_wp2_with fail
  exact bodyPost_ret (results_tmp rfl _ _ _) rfl ⟨by first | rfl | trivial,H2.out,hb1.trans hb2⟩
 rw [hi,tookP_f hi] at con;rcases hj:isP ⟨#[101,120,99,101,112,116]⟩ ts with _ | _
 case true =>
  have e:M=((if isP ⟨#[97,108,108]⟩ (passP ts) then 3 else 4),tookP ⟨#[97,108,108]⟩ (passP ts)):=by
   rw [← HM.out,betweenP,hi,hj,tookP];cases isP ⟨#[97,108,108]⟩ (passP ts) <;> rfl
  subst e;clear HM;generalize hm:(if isP ⟨#[97,108,108]⟩ (passP ts)=true then (3:Int) else 4)=m;have Hm:Hid ((if isP ⟨#[97,108,108]⟩ (passP ts)=true then (3:Int) else 4)=m):=hm;clear hm;go_enter Tryz.func162,Tryz.ntmps162;go_wp2_with fail
  refine con.mono ?_;rintro e w1 ⟨rfl,h1,hb1⟩;have con1:=took_at h1 ⟨#[101,120,99,101,112,116]⟩;rw [hj,tookP_t hj] at con1;clear con h1;go_wp2_with fail
  refine con1.mono ?_;rintro e w3 ⟨rfl,h3,hb3⟩;have con2:=ofAll_at h3 3 4;clear con1 h3;rw [Hm.out] at con2;go_wp2_with fail
  refine con2.mono ?_;rintro e w2 ⟨rfl,h2,hb2⟩;have H2:Hid (RdAt w2 R tb (tookP ⟨#[97,108,108]⟩ (passP ts)) o):=h2;clear con2 h2;go_wp2_with fail
  exact bodyPost_ret (results_tmp rfl _ _ _) rfl ⟨by first | rfl | trivial,H2.out,(hb1.trans hb3).trans hb2⟩
 have e:M=(0,ts):=by rw [← HM.out,betweenP,hi,hj]; rfl
 subst e;clear HM;go_enter Tryz.func162,Tryz.ntmps162;go_wp2_with fail
 refine con.mono ?_;rintro e w1 ⟨rfl,h1,hb1⟩;have con1:=took_at h1 ⟨#[101,120,99,101,112,116]⟩;rw [hj,tookP_f hj] at con1;clear con h1;go_wp2_with fail
 refine con1.mono ?_;rintro e w3 ⟨rfl,h3,hb3⟩;have H3:Hid (RdAt w3 R tb ts o):=h3;clear con1 h3;go_wp2_with fail
 exact bodyPost_ret (results_tmp rfl _ _ _) rfl ⟨by first | rfl | trivial,H3.out,hb1.trans hb3⟩

def tyL:List (Int × ByteArray):=[(2,⟨#[98,111,111,108]⟩),(3,⟨#[105,110,116]⟩),(4,⟨#[116,101,120,116]⟩)]
def tySel (ts:List Tk):List (Int × ByteArray)→PR Int
 | []=>.error (2,atP ts)
 | a :: r=>if isP a.2 ts then .ok (a.1,passP ts) else tySel ts r
abbrev tyC:Array Value:=#[.int .i64 2,.string ⟨#[98,111,111,108]⟩,.int .i64 3,.string ⟨#[105,110,116]⟩,.int .i64 4,.string ⟨#[116,101,120,116]⟩]
theorem types_at (w:World):Calls Tryz.prog 88 #[] w fun e w'=>e = .returned (.slice (some ⟨w.heap.size,0,none⟩) 3 3)∧w'=w.alloc (.cells tyC 168):=by
 go_enter Tryz.func88,Tryz.ntmps88;go_wp2_with fail
 exact bodyPost_ret (results_tmp rfl _ _ _) rfl ⟨by first | rfl | trivial,by first | rfl | trivial⟩
theorem tyC_at {W:World} {g:Nat} {T:TypeId} (h:W.heap[g]? = some (.cells tyC T (0,0))) (k:Nat) (hk:k<tyL.length):W.cell? ⟨g,k*2,none⟩=some (.int .i64 tyL[k].1)∧W.cell? ⟨g,k*2+1,none⟩=some (.string tyL[k].2):=by
 have hk3:k<3:=hk;obtain rfl | rfl | rfl:k=0∨k=1∨k=2:=by omega
 ·exact ⟨cell_of (i:=0) h rfl,cell_of (i:=1) h rfl⟩
 ·exact ⟨cell_of (i:=2) h rfl,cell_of (i:=3) h rfl⟩
 ·exact ⟨cell_of (i:=4) h rfl,cell_of (i:=5) h rfl⟩
theorem columnType_at {w:World} {R tb:Nat} {ts:List Tk} {o:Int} (h:RdAt w R tb ts o):Calls Tryz.prog 188 #[.pointer (some ⟨R,0,none⟩)] w (Ends R tb o w VInt (columnTypeP ts)):=by
 have hltR:=h.lt;change Calls _ _ _ _ (Ends R tb o w VInt (tySel ts tyL));generalize hM:tySel ts tyL=M;have HM:Hid (tySel ts tyL=M):=hM;have ca:=types_at w;have hal4:Below w.heap.size w (w.alloc (.cells tyC 168)):=(Below.refl _ _).alloc (Nat.le_refl _) _;have QA4:=heap_new w tyC 168;have H4:Hid (RdAt (w.alloc (.cells tyC 168)) R tb ts o):=h.next hal4;clear h hM;go_enter Tryz.func188,Tryz.ntmps188;go_wp2_with fail
 refine ca.mono ?_;rintro e w4 ⟨rfl,rfl⟩;generalize w.alloc (.cells tyC 168)=w4 at *;have hx4:BelowX R w w4:=.of hal4 (by omega);clear ca;go_wp2_with fail
 go_loopw [7] (fun i wr=>∃ k:Nat,k≤3∧i = .int .i64 k∧Hid (tySel ts (tyL.drop k)=M)∧BelowX R w wr∧Hid (RdAt wr R tb ts o)∧wr.heap[w.heap.size]? = some (.cells tyC 168 (0,0))) (fun i _=>3 - (RowKit.intOf i).toNat)
 case atStart=>exact ⟨0,by omega,rfl,HM,hx4,H4,QA4⟩
 case round =>
  clear HM hx4 H4 QA4;obtain ⟨k,hk,rfl,HL,hx,HR,QA⟩:=hrel;have hzr:=lt_of_heap QA;by_cases hlt:k<3
  ·have hkz:(k:Int)<3:=by omega
   have hkl:k<tyL.length:=hlt;obtain ⟨c0,c1⟩:=tyC_at QA k hkl;have HL2:Hid ((if isP tyL[k].2 ts=true then .ok (tyL[k].1,passP ts) else tySel ts (tyL.drop (k+1)))=M):=by
    have:=HL.out;rw [List.drop_eq_getElem_cons hkl,tySel] at this;exact this
   clear HL;generalize tyL[k]=a at *;have hal5:Below wr.heap.size wr (wr.alloc (.cells #[.int .i64 a.1,.string a.2] 168)):=(Below.refl _ _).alloc (Nat.le_refl _) _;have QC:=heap_new wr #[.int .i64 a.1,.string a.2] 168;have con5:=took_at (HR.out.next hal5) a.2;rcases hi:isP a.2 ts with _ | _
   ·rw [hi,tookP_f hi] at con5;have HL3:Hid (tySel ts (tyL.drop (k+1))=M):=by have:=HL2.out; rw [hi] at this; exact this
    clear HL2;go_wp2_with fail
    refine con5.mono ?_;rintro e w6 ⟨rfl,h6,hb6⟩;have hxr6:BelowX R wr w6:=(BelowX.of hal5 (by omega)).trans hb6;have H6:Hid (RdAt w6 R tb ts o):=h6;have QA6:=(hxr6.2 _ (lt_of_heap QA) (by omega)).trans QA;clear con5 h6 c0 c1;go_wp2_with fail
    go_roundw
    case rel=>exact ⟨k+1,by omega,by go_num,HL3,hx.trans hxr6,H6,QA6⟩
    case measure=>simp [RowKit.intOf]; omega
   ·rw [hi,tookP_t hi] at con5;have e:M = .ok (a.1,passP ts):=by rw [← HL2.out,hi]; rfl
    subst e;clear HL2;go_wp2_with fail
    refine con5.mono ?_;rintro e' w6 ⟨rfl,h6,hb6⟩;have hxr6:BelowX R wr w6:=(BelowX.of hal5 (by omega)).trans hb6;have QC6:=(hb6.2 _ (lt_of_heap QC) (by omega)).trans QC;have k0:w6.cell? ⟨wr.heap.size,0,none⟩=some (.int .i64 a.1):=cell_of (i:=0) QC6 rfl;have H6:Hid (RdAt w6 R tb (passP ts) o):=h6;clear con5 h6 c0 c1;go_wp2_with fail
    refine bodyPost_ret (v:=.int .i64 a.1) (by simp [results,Tryz.results188,go_sem]) rfl ?_;exact Ends.good rfl (hx.trans hxr6) rfl H6.out
  ·have hkz:¬ (k:Int)<3:=by omega
   have e:M = .error (2,atP ts):=by have:=HL.out; rw [List.drop_eq_nil_of_le (show tyL.length≤k by show 3≤k; omega),tySel] at this; exact this.symm
   subst e;obtain ⟨t,r,rfl⟩:=HR.out.toks.ne;have con7:=rfault_at HR.out 2;clear HL;go_wp2_with fail
   refine con7.mono ?_;rintro e' w7 ⟨rfl,hb7⟩;go_wp2_with fail
   exact ⟨rfl,Ends.err (c:=(2,t.2.2)) rfl (hx.trans (.of hb7 (by have:=hx.size; omega))) (HR.out.next hb7)⟩

def jnL:List (Int × ByteArray):=[(3,⟨#[115,101,109,105]⟩),(4,⟨#[97,110,116,105]⟩),(5,⟨#[108,101,102,116]⟩)]
def jnSel (ts:List Tk):List (Int × ByteArray)→PR Int
 | []=>.ok (0,ts)
 | a :: r=>if isP a.2 ts then bnd (mustP [⟨#[106,111,105,110]⟩] (passP ts)) (fun _ r=>.ok (a.1,r)) else jnSel ts r
abbrev jnC:Array Value:=#[.int .i64 3,.string ⟨#[115,101,109,105]⟩,.int .i64 4,.string ⟨#[97,110,116,105]⟩,.int .i64 5,.string ⟨#[108,101,102,116]⟩]
theorem joins_at (w:World):Calls Tryz.prog 144 #[] w fun e w'=>e = .returned (.slice (some ⟨w.heap.size,0,none⟩) 3 3)∧w'=w.alloc (.cells jnC 168):=by
 go_enter Tryz.func144,Tryz.ntmps144;go_wp2_with fail
 exact bodyPost_ret (results_tmp rfl _ _ _) rfl ⟨by first | rfl | trivial,by first | rfl | trivial⟩
theorem jnC_at {W:World} {g:Nat} {T:TypeId} (h:W.heap[g]? = some (.cells jnC T (0,0))) (k:Nat) (hk:k<jnL.length):W.cell? ⟨g,k*2,none⟩=some (.int .i64 jnL[k].1)∧W.cell? ⟨g,k*2+1,none⟩=some (.string jnL[k].2):=by
 have hk3:k<3:=hk;obtain rfl | rfl | rfl:k=0∨k=1∨k=2:=by omega
 ·exact ⟨cell_of (i:=0) h rfl,cell_of (i:=1) h rfl⟩
 ·exact ⟨cell_of (i:=2) h rfl,cell_of (i:=3) h rfl⟩
 ·exact ⟨cell_of (i:=4) h rfl,cell_of (i:=5) h rfl⟩
theorem joined_at {w:World} {R tb:Nat} {ts:List Tk} {o:Int} (h:RdAt w R tb ts o):Calls Tryz.prog 217 #[.pointer (some ⟨R,0,none⟩)] w (Ends R tb o w VInt (joinedP ts)):=by
 have hltR:=h.lt;have con0:=took_at h ⟨#[106,111,105,110]⟩;rcases h0:isP ⟨#[106,111,105,110]⟩ ts with _ | _
 case true =>
  rw [h0,tookP_t h0] at con0;generalize hM:joinedP ts=M;have e:M = .ok (2,passP ts):=by rw [← hM,joinedP,h0]; rfl
  subst e;clear hM h;go_enter Tryz.func217,Tryz.ntmps217;go_wp2_with fail
  refine con0.mono ?_;rintro e w1 ⟨rfl,h1,hb1⟩;have H1:Hid (RdAt w1 R tb (passP ts) o):=h1;clear con0 h1;go_wp2_with fail
  refine bodyPost_ret (v:=.int .i64 2) (by simp [results,Tryz.results217,go_sem]) rfl ?_;exact Ends.good rfl hb1 rfl H1.out
 rw [h0,tookP_f h0] at con0;have hM0:joinedP ts=jnSel ts jnL:=by rw [joinedP,h0]; rfl
 rw [hM0];generalize hM:jnSel ts jnL=M;have HM:Hid (jnSel ts jnL=M):=hM;clear h hM hM0;go_enter Tryz.func217,Tryz.ntmps217;go_wp2_with fail
 refine con0.mono ?_;rintro e w0 ⟨rfl,h1,hb1⟩;have ca:=joins_at w0;have hal4:Below w0.heap.size w0 (w0.alloc (.cells jnC 168)):=(Below.refl _ _).alloc (Nat.le_refl _) _;have QA4:=heap_new w0 jnC 168;have H4:Hid (RdAt (w0.alloc (.cells jnC 168)) R tb ts o):=h1.next hal4;have hz1:=hb1.size;clear con0 h1;go_wp2_with fail
 refine ca.mono ?_;rintro e w4 ⟨rfl,rfl⟩;generalize w0.alloc (.cells jnC 168)=w4 at *;have hx4:BelowX R w w4:=hb1.trans (.of hal4 (by omega));clear ca;go_wp2_with fail
 go_loopw [9] (fun i wr=>∃ k:Nat,k≤3∧i = .int .i64 k∧Hid (jnSel ts (jnL.drop k)=M)∧BelowX R w wr∧Hid (RdAt wr R tb ts o)∧wr.heap[w0.heap.size]? = some (.cells jnC 168 (0,0))) (fun i _=>3 - (RowKit.intOf i).toNat)
 case atStart=>exact ⟨0,by omega,rfl,HM,hx4,H4,QA4⟩
 case round =>
  clear HM hx4 H4 QA4;obtain ⟨k,hk,rfl,HL,hx,HR,QA⟩:=hrel;have hzr:=lt_of_heap QA;by_cases hlt:k<3
  ·have hkz:(k:Int)<3:=by omega
   have hkl:k<jnL.length:=hlt;obtain ⟨c0,c1⟩:=jnC_at QA k hkl;have HL2:Hid ((if isP jnL[k].2 ts=true then bnd (mustP [⟨#[106,111,105,110]⟩] (passP ts)) (fun _ r=>.ok (jnL[k].1,r)) else jnSel ts (jnL.drop (k+1)))=M):=by
    have:=HL.out;rw [List.drop_eq_getElem_cons hkl,jnSel] at this;exact this
   clear HL;generalize jnL[k]=a at *;have hal5:Below wr.heap.size wr (wr.alloc (.cells #[.int .i64 a.1,.string a.2] 168)):=(Below.refl _ _).alloc (Nat.le_refl _) _;have QC:=heap_new wr #[.int .i64 a.1,.string a.2] 168;have con5:=took_at (HR.out.next hal5) a.2;rcases hi:isP a.2 ts with _ | _
   ·rw [hi,tookP_f hi] at con5;have HL3:Hid (jnSel ts (jnL.drop (k+1))=M):=by have:=HL2.out; rw [hi] at this; exact this
    clear HL2;go_wp2_with fail
    refine con5.mono ?_;rintro e w6 ⟨rfl,h6,hb6⟩;have hxr6:BelowX R wr w6:=(BelowX.of hal5 (by omega)).trans hb6;have H6:Hid (RdAt w6 R tb ts o):=h6;have QA6:=(hxr6.2 _ (lt_of_heap QA) (by omega)).trans QA;clear con5 h6 c0 c1;go_wp2_with fail
    go_roundw
    case rel=>exact ⟨k+1,by omega,by go_num,HL3,hx.trans hxr6,H6,QA6⟩
    case measure=>simp [RowKit.intOf]; omega
   ·rw [hi,tookP_t hi] at con5;have HL3:Hid (bnd (mustP [⟨#[106,111,105,110]⟩] (passP ts)) (fun _ r=>.ok (a.1,r))=M):=by have:=HL2.out; rw [hi] at this; exact this
    clear HL2;go_wp2_with fail
    refine con5.mono ?_;rintro e' w6 ⟨rfl,h6,hb6⟩;have hxr6:BelowX R wr w6:=(BelowX.of hal5 (by omega)).trans hb6;have QC6:=(hb6.2 _ (lt_of_heap QC) (by omega)).trans QC;have hal7:Below w6.heap.size w6 (w6.alloc (.cells #[.string ⟨#[106,111,105,110]⟩] 9)):=(Below.refl _ _).alloc (Nat.le_refl _) _;have con7:=must_at (cap:=1) (h6.next hal7) (StrAt.one w6 ⟨#[106,111,105,110]⟩ 9) (by have:=h6.lt; omega) (by simp);have hz6:=lt_of_heap QC6;generalize mustP [⟨#[106,111,105,110]⟩] (passP ts)=L at *;clear con5 h6 c0 c1;go_wp2_with fail
    generalize w6.alloc (.cells #[.string ⟨#[106,111,105,110]⟩] 9)=w7 at *;refine con7.mono ?_;rintro e' w8 ⟨hb8,hW⟩;have hx68:BelowX R w6 w8:=(BelowX.of hal7 (by omega)).trans hb8;have hx8:=(hx.trans hxr6).trans hx68;have QC8:=(hx68.2 _ (lt_of_heap QC6) (by omega)).trans QC6;have k0:w8.cell? ⟨wr.heap.size,0,none⟩=some (.int .i64 a.1):=cell_of (i:=0) QC8 rfl;clear con7;rcases L with ce | ⟨u,r8⟩
    ·obtain ⟨rfl,us,hE⟩:=hW;have HEr:Hid (RdAt w8 R tb us o):=hE;clear hE;have e:M = .error ce:=HL3.out.symm;subst e;clear HL3;go_wp2_with fail
     exact ⟨rfl,Ends.err rfl hx8 HEr.out⟩
    obtain ⟨v,rfl,rfl,hR8⟩:=hW;have HR8:Hid (RdAt w8 R tb r8 o):=hR8;have e:M = .ok (a.1,r8):=HL3.out.symm;subst e;clear HL3 hR8;go_wp2_with fail
    refine bodyPost_ret (v:=.int .i64 a.1) (by simp [results,Tryz.results217,go_sem]) rfl ?_;exact Ends.good rfl hx8 rfl HR8.out
  ·have hkz:¬ (k:Int)<3:=by omega
   have e:M = .ok (0,ts):=by have:=HL.out; rw [List.drop_eq_nil_of_le (show jnL.length≤k by show 3≤k; omega),jnSel] at this; exact this.symm
   subst e;clear HL;go_wp2_with fail
   refine bodyPost_ret (v:=.int .i64 0) (by simp [results,Tryz.results217,go_sem]) rfl ?_;exact Ends.good rfl hx rfl HR.out

theorem cells2 {W:World} {g:Nat} {T:TypeId} {c0 c1:Value} (h:W.heap[g]? = some (.cells #[c0,c1] T (0,0))):W.cell? ⟨g,0,none⟩=some c0∧W.cell? ⟨g,1,none⟩=some c1 :=
 ⟨cell_of (i:=0) h rfl,cell_of (i:=1) h rfl⟩
theorem froz2 {W:World} {g:Nat} {T:TypeId} {c0 c1:Value} (h:W.heap[g]? = some (.cells #[c0,c1] T (0,0))):W.frozen? ⟨g,0,none⟩=false∧W.frozen? ⟨g,1,none⟩=false :=
 ⟨frozen_of_row W g 0 _ _ h,frozen_of_row W g 1 _ _ h⟩
theorem st2_heap {W:World} {g:Nat} {T:TypeId} {c0 c1:Value} (h:W.heap[g]? = some (.cells #[c0,c1] T (0,0))) (v0 v1:Value):((W.setCell ⟨g,0,none⟩ v0).setCell ⟨g,1,none⟩ v1).heap[g]? = some (.cells #[v0,v1] T (0,0)):=by
 have h:(W.setCell ⟨g,0,none⟩ v0).heap[g]? = some (.cells #[v0,c1] T (0,0)):=heap_setCell_same W g 0 _ _ v0 h;generalize W.setCell ⟨g,0,none⟩ v0=W0 at h ⊢;have h:(W0.setCell ⟨g,1,none⟩ v1).heap[g]? = some (.cells #[v0,v1] T (0,0)):=heap_setCell_same W0 g 1 _ _ v1 h;generalize W0.setCell ⟨g,1,none⟩ v1=W1 at h ⊢;exact h
theorem st2_x {t g:Nat} {W0 W:World} (h:BelowX t W0 W) (hg:W0.heap.size≤g) (ht:t≤W0.heap.size) (v0 v1:Value):BelowX t W0 ((W.setCell ⟨g,0,none⟩ v0).setCell ⟨g,1,none⟩ v1) :=
 ((h.setNew g 0 v0 hg ht).setNew g 1 v1 hg ht)
theorem st2_b {g:Nat} {W0 W:World} (h:Below W0.heap.size W0 W) (hg:W0.heap.size≤g) (v0 v1:Value):Below W0.heap.size W0 ((W.setCell ⟨g,0,none⟩ v0).setCell ⟨g,1,none⟩ v1) :=
 ((h.setCell (p:=⟨g,0,none⟩) hg v0).setCell (p:=⟨g,1,none⟩) hg v1)
theorem st2_all {w W:World} {R tb g:Nat} {rs:List Tk} {o:Int} {T:TypeId} {c0 c1:Value} (Q:W.heap[g]? = some (.cells #[c0,c1] T (0,0))) (hR:RdAt W R tb rs o) (hb:BelowX R w W) (h1:w.heap.size≤g) (h3:R<w.heap.size) (h4:tb<w.heap.size) (v0 v1:Value) :
  ((W.setCell ⟨g,0,none⟩ v0).setCell ⟨g,1,none⟩ v1).heap[g]? = some (.cells #[v0,v1] T (0,0))∧RdAt ((W.setCell ⟨g,0,none⟩ v0).setCell ⟨g,1,none⟩ v1) R tb rs o∧BelowX R w ((W.setCell ⟨g,0,none⟩ v0).setCell ⟨g,1,none⟩ v1)∧Keeps1 g W ((W.setCell ⟨g,0,none⟩ v0).setCell ⟨g,1,none⟩ v1):=by
 have hk1:Keeps1 g W ((W.setCell ⟨g,0,none⟩ v0).setCell ⟨g,1,none⟩ v1):=(((Keeps1.refl _ _).set 0 v0).set 1 v1)
 exact ⟨st2_heap Q v0 v1,hR.k1 hk1 (by omega) (by omega) (by have:=hR.r2; omega),st2_x hb h1 (by omega) v0 v1,hk1⟩
theorem cells10 {W:World} {g:Nat} {T:TypeId} {c0 c1 c2 c3 c4 c5 c6 c7 c8 c9:Value} (h:W.heap[g]? = some (.cells #[c0,c1,c2,c3,c4,c5,c6,c7,c8,c9] T (0,0))):W.cell? ⟨g,0,none⟩=some c0∧W.cell? ⟨g,1,none⟩=some c1∧W.cell? ⟨g,2,none⟩=some c2∧W.cell? ⟨g,3,none⟩=some c3∧W.cell? ⟨g,4,none⟩=some c4∧W.cell? ⟨g,5,none⟩=some c5∧W.cell? ⟨g,6,none⟩=some c6∧W.cell? ⟨g,7,none⟩=some c7∧W.cell? ⟨g,8,none⟩=some c8∧W.cell? ⟨g,9,none⟩=some c9 :=
 ⟨cell_of (i:=0) h rfl,cell_of (i:=1) h rfl,cell_of (i:=2) h rfl,cell_of (i:=3) h rfl,cell_of (i:=4) h rfl,cell_of (i:=5) h rfl,cell_of (i:=6) h rfl,cell_of (i:=7) h rfl,cell_of (i:=8) h rfl,cell_of (i:=9) h rfl⟩
theorem froz10 {W:World} {g:Nat} {T:TypeId} {c0 c1 c2 c3 c4 c5 c6 c7 c8 c9:Value} (h:W.heap[g]? = some (.cells #[c0,c1,c2,c3,c4,c5,c6,c7,c8,c9] T (0,0))):W.frozen? ⟨g,0,none⟩=false∧W.frozen? ⟨g,1,none⟩=false∧W.frozen? ⟨g,2,none⟩=false∧W.frozen? ⟨g,3,none⟩=false∧W.frozen? ⟨g,4,none⟩=false∧W.frozen? ⟨g,5,none⟩=false∧W.frozen? ⟨g,6,none⟩=false∧W.frozen? ⟨g,7,none⟩=false∧W.frozen? ⟨g,8,none⟩=false∧W.frozen? ⟨g,9,none⟩=false :=
 ⟨frozen_of_row W g 0 _ _ h,frozen_of_row W g 1 _ _ h,frozen_of_row W g 2 _ _ h,frozen_of_row W g 3 _ _ h,frozen_of_row W g 4 _ _ h,frozen_of_row W g 5 _ _ h,frozen_of_row W g 6 _ _ h,frozen_of_row W g 7 _ _ h,frozen_of_row W g 8 _ _ h,frozen_of_row W g 9 _ _ h⟩
theorem st10_heap {W:World} {g:Nat} {T:TypeId} {c0 c1 c2 c3 c4 c5 c6 c7 c8 c9:Value} (h:W.heap[g]? = some (.cells #[c0,c1,c2,c3,c4,c5,c6,c7,c8,c9] T (0,0))) (v0 v1 v2 v3 v4 v5 v6 v7 v8 v9:Value):((((((((((W.setCell ⟨g,0,none⟩ v0).setCell ⟨g,1,none⟩ v1).setCell ⟨g,2,none⟩ v2).setCell ⟨g,3,none⟩ v3).setCell ⟨g,4,none⟩ v4).setCell ⟨g,5,none⟩ v5).setCell ⟨g,6,none⟩ v6).setCell ⟨g,7,none⟩ v7).setCell ⟨g,8,none⟩ v8).setCell ⟨g,9,none⟩ v9).heap[g]? = some (.cells #[v0,v1,v2,v3,v4,v5,v6,v7,v8,v9] T (0,0)):=by
 have h:(W.setCell ⟨g,0,none⟩ v0).heap[g]? = some (.cells #[v0,c1,c2,c3,c4,c5,c6,c7,c8,c9] T (0,0)):=heap_setCell_same W g 0 _ _ v0 h;generalize W.setCell ⟨g,0,none⟩ v0=W0 at h ⊢;have h:(W0.setCell ⟨g,1,none⟩ v1).heap[g]? = some (.cells #[v0,v1,c2,c3,c4,c5,c6,c7,c8,c9] T (0,0)):=heap_setCell_same W0 g 1 _ _ v1 h;generalize W0.setCell ⟨g,1,none⟩ v1=W1 at h ⊢;have h:(W1.setCell ⟨g,2,none⟩ v2).heap[g]? = some (.cells #[v0,v1,v2,c3,c4,c5,c6,c7,c8,c9] T (0,0)):=heap_setCell_same W1 g 2 _ _ v2 h;generalize W1.setCell ⟨g,2,none⟩ v2=W2 at h ⊢
 have h:(W2.setCell ⟨g,3,none⟩ v3).heap[g]? = some (.cells #[v0,v1,v2,v3,c4,c5,c6,c7,c8,c9] T (0,0)):=heap_setCell_same W2 g 3 _ _ v3 h;generalize W2.setCell ⟨g,3,none⟩ v3=W3 at h ⊢;have h:(W3.setCell ⟨g,4,none⟩ v4).heap[g]? = some (.cells #[v0,v1,v2,v3,v4,c5,c6,c7,c8,c9] T (0,0)):=heap_setCell_same W3 g 4 _ _ v4 h;generalize W3.setCell ⟨g,4,none⟩ v4=W4 at h ⊢;have h:(W4.setCell ⟨g,5,none⟩ v5).heap[g]? = some (.cells #[v0,v1,v2,v3,v4,v5,c6,c7,c8,c9] T (0,0)):=heap_setCell_same W4 g 5 _ _ v5 h;generalize W4.setCell ⟨g,5,none⟩ v5=W5 at h ⊢
 have h:(W5.setCell ⟨g,6,none⟩ v6).heap[g]? = some (.cells #[v0,v1,v2,v3,v4,v5,v6,c7,c8,c9] T (0,0)):=heap_setCell_same W5 g 6 _ _ v6 h;generalize W5.setCell ⟨g,6,none⟩ v6=W6 at h ⊢;have h:(W6.setCell ⟨g,7,none⟩ v7).heap[g]? = some (.cells #[v0,v1,v2,v3,v4,v5,v6,v7,c8,c9] T (0,0)):=heap_setCell_same W6 g 7 _ _ v7 h;generalize W6.setCell ⟨g,7,none⟩ v7=W7 at h ⊢;have h:(W7.setCell ⟨g,8,none⟩ v8).heap[g]? = some (.cells #[v0,v1,v2,v3,v4,v5,v6,v7,v8,c9] T (0,0)):=heap_setCell_same W7 g 8 _ _ v8 h;generalize W7.setCell ⟨g,8,none⟩ v8=W8 at h ⊢
 have h:(W8.setCell ⟨g,9,none⟩ v9).heap[g]? = some (.cells #[v0,v1,v2,v3,v4,v5,v6,v7,v8,v9] T (0,0)):=heap_setCell_same W8 g 9 _ _ v9 h;generalize W8.setCell ⟨g,9,none⟩ v9=W9 at h ⊢;exact h
theorem st10_x {t g:Nat} {W0 W:World} (h:BelowX t W0 W) (hg:W0.heap.size≤g) (ht:t≤W0.heap.size) (v0 v1 v2 v3 v4 v5 v6 v7 v8 v9:Value):BelowX t W0 ((((((((((W.setCell ⟨g,0,none⟩ v0).setCell ⟨g,1,none⟩ v1).setCell ⟨g,2,none⟩ v2).setCell ⟨g,3,none⟩ v3).setCell ⟨g,4,none⟩ v4).setCell ⟨g,5,none⟩ v5).setCell ⟨g,6,none⟩ v6).setCell ⟨g,7,none⟩ v7).setCell ⟨g,8,none⟩ v8).setCell ⟨g,9,none⟩ v9) :=
 ((((((((((h.setNew g 0 v0 hg ht).setNew g 1 v1 hg ht).setNew g 2 v2 hg ht).setNew g 3 v3 hg ht).setNew g 4 v4 hg ht).setNew g 5 v5 hg ht).setNew g 6 v6 hg ht).setNew g 7 v7 hg ht).setNew g 8 v8 hg ht).setNew g 9 v9 hg ht)
theorem st10_all {w W:World} {R tb g:Nat} {rs:List Tk} {o:Int} {T:TypeId} {c0 c1 c2 c3 c4 c5 c6 c7 c8 c9:Value} (Q:W.heap[g]? = some (.cells #[c0,c1,c2,c3,c4,c5,c6,c7,c8,c9] T (0,0))) (hR:RdAt W R tb rs o) (hb:BelowX R w W) (h1:w.heap.size≤g) (h3:R<w.heap.size) (h4:tb<w.heap.size) (v0 v1 v2 v3 v4 v5 v6 v7 v8 v9:Value) :
  ((((((((((W.setCell ⟨g,0,none⟩ v0).setCell ⟨g,1,none⟩ v1).setCell ⟨g,2,none⟩ v2).setCell ⟨g,3,none⟩ v3).setCell ⟨g,4,none⟩ v4).setCell ⟨g,5,none⟩ v5).setCell ⟨g,6,none⟩ v6).setCell ⟨g,7,none⟩ v7).setCell ⟨g,8,none⟩ v8).setCell ⟨g,9,none⟩ v9).heap[g]? = some (.cells #[v0,v1,v2,v3,v4,v5,v6,v7,v8,v9] T (0,0))∧RdAt ((((((((((W.setCell ⟨g,0,none⟩ v0).setCell ⟨g,1,none⟩ v1).setCell ⟨g,2,none⟩ v2).setCell ⟨g,3,none⟩ v3).setCell ⟨g,4,none⟩ v4).setCell ⟨g,5,none⟩ v5).setCell ⟨g,6,none⟩ v6).setCell ⟨g,7,none⟩ v7).setCell ⟨g,8,none⟩ v8).setCell ⟨g,9,none⟩ v9) R tb rs o∧BelowX R w ((((((((((W.setCell ⟨g,0,none⟩ v0).setCell ⟨g,1,none⟩ v1).setCell ⟨g,2,none⟩ v2).setCell ⟨g,3,none⟩ v3).setCell ⟨g,4,none⟩ v4).setCell ⟨g,5,none⟩ v5).setCell ⟨g,6,none⟩ v6).setCell ⟨g,7,none⟩ v7).setCell ⟨g,8,none⟩ v8).setCell ⟨g,9,none⟩ v9)∧Keeps1 g W ((((((((((W.setCell ⟨g,0,none⟩ v0).setCell ⟨g,1,none⟩ v1).setCell ⟨g,2,none⟩ v2).setCell ⟨g,3,none⟩ v3).setCell ⟨g,4,none⟩ v4).setCell ⟨g,5,none⟩ v5).setCell ⟨g,6,none⟩ v6).setCell ⟨g,7,none⟩ v7).setCell ⟨g,8,none⟩ v8).setCell ⟨g,9,none⟩ v9):=by
 have hk1:Keeps1 g W ((((((((((W.setCell ⟨g,0,none⟩ v0).setCell ⟨g,1,none⟩ v1).setCell ⟨g,2,none⟩ v2).setCell ⟨g,3,none⟩ v3).setCell ⟨g,4,none⟩ v4).setCell ⟨g,5,none⟩ v5).setCell ⟨g,6,none⟩ v6).setCell ⟨g,7,none⟩ v7).setCell ⟨g,8,none⟩ v8).setCell ⟨g,9,none⟩ v9):=(((((((((((Keeps1.refl _ _).set 0 v0).set 1 v1).set 2 v2).set 3 v3).set 4 v4).set 5 v5).set 6 v6).set 7 v7).set 8 v8).set 9 v9)
 exact ⟨st10_heap Q v0 v1 v2 v3 v4 v5 v6 v7 v8 v9,hR.k1 hk1 (by omega) (by omega) (by have:=hR.r2; omega),st10_x hb h1 (by omega) v0 v1 v2 v3 v4 v5 v6 v7 v8 v9,hk1⟩
theorem cells8 {W:World} {g:Nat} {T:TypeId} {c0 c1 c2 c3 c4 c5 c6 c7:Value} (h:W.heap[g]? = some (.cells #[c0,c1,c2,c3,c4,c5,c6,c7] T (0,0))):W.cell? ⟨g,0,none⟩=some c0∧W.cell? ⟨g,1,none⟩=some c1∧W.cell? ⟨g,2,none⟩=some c2∧W.cell? ⟨g,3,none⟩=some c3∧W.cell? ⟨g,4,none⟩=some c4∧W.cell? ⟨g,5,none⟩=some c5∧W.cell? ⟨g,6,none⟩=some c6∧W.cell? ⟨g,7,none⟩=some c7 :=
 ⟨cell_of (i:=0) h rfl,cell_of (i:=1) h rfl,cell_of (i:=2) h rfl,cell_of (i:=3) h rfl,cell_of (i:=4) h rfl,cell_of (i:=5) h rfl,cell_of (i:=6) h rfl,cell_of (i:=7) h rfl⟩
theorem froz8 {W:World} {g:Nat} {T:TypeId} {c0 c1 c2 c3 c4 c5 c6 c7:Value} (h:W.heap[g]? = some (.cells #[c0,c1,c2,c3,c4,c5,c6,c7] T (0,0))):W.frozen? ⟨g,0,none⟩=false∧W.frozen? ⟨g,1,none⟩=false∧W.frozen? ⟨g,2,none⟩=false∧W.frozen? ⟨g,3,none⟩=false∧W.frozen? ⟨g,4,none⟩=false∧W.frozen? ⟨g,5,none⟩=false∧W.frozen? ⟨g,6,none⟩=false∧W.frozen? ⟨g,7,none⟩=false :=
 ⟨frozen_of_row W g 0 _ _ h,frozen_of_row W g 1 _ _ h,frozen_of_row W g 2 _ _ h,frozen_of_row W g 3 _ _ h,frozen_of_row W g 4 _ _ h,frozen_of_row W g 5 _ _ h,frozen_of_row W g 6 _ _ h,frozen_of_row W g 7 _ _ h⟩
theorem st8_heap {W:World} {g:Nat} {T:TypeId} {c0 c1 c2 c3 c4 c5 c6 c7:Value} (h:W.heap[g]? = some (.cells #[c0,c1,c2,c3,c4,c5,c6,c7] T (0,0))) (v0 v1 v2 v3 v4 v5 v6 v7:Value):((((((((W.setCell ⟨g,0,none⟩ v0).setCell ⟨g,1,none⟩ v1).setCell ⟨g,2,none⟩ v2).setCell ⟨g,3,none⟩ v3).setCell ⟨g,4,none⟩ v4).setCell ⟨g,5,none⟩ v5).setCell ⟨g,6,none⟩ v6).setCell ⟨g,7,none⟩ v7).heap[g]? = some (.cells #[v0,v1,v2,v3,v4,v5,v6,v7] T (0,0)):=by
 have h:(W.setCell ⟨g,0,none⟩ v0).heap[g]? = some (.cells #[v0,c1,c2,c3,c4,c5,c6,c7] T (0,0)):=heap_setCell_same W g 0 _ _ v0 h;generalize W.setCell ⟨g,0,none⟩ v0=W0 at h ⊢;have h:(W0.setCell ⟨g,1,none⟩ v1).heap[g]? = some (.cells #[v0,v1,c2,c3,c4,c5,c6,c7] T (0,0)):=heap_setCell_same W0 g 1 _ _ v1 h;generalize W0.setCell ⟨g,1,none⟩ v1=W1 at h ⊢;have h:(W1.setCell ⟨g,2,none⟩ v2).heap[g]? = some (.cells #[v0,v1,v2,c3,c4,c5,c6,c7] T (0,0)):=heap_setCell_same W1 g 2 _ _ v2 h;generalize W1.setCell ⟨g,2,none⟩ v2=W2 at h ⊢
 have h:(W2.setCell ⟨g,3,none⟩ v3).heap[g]? = some (.cells #[v0,v1,v2,v3,c4,c5,c6,c7] T (0,0)):=heap_setCell_same W2 g 3 _ _ v3 h;generalize W2.setCell ⟨g,3,none⟩ v3=W3 at h ⊢;have h:(W3.setCell ⟨g,4,none⟩ v4).heap[g]? = some (.cells #[v0,v1,v2,v3,v4,c5,c6,c7] T (0,0)):=heap_setCell_same W3 g 4 _ _ v4 h;generalize W3.setCell ⟨g,4,none⟩ v4=W4 at h ⊢;have h:(W4.setCell ⟨g,5,none⟩ v5).heap[g]? = some (.cells #[v0,v1,v2,v3,v4,v5,c6,c7] T (0,0)):=heap_setCell_same W4 g 5 _ _ v5 h;generalize W4.setCell ⟨g,5,none⟩ v5=W5 at h ⊢
 have h:(W5.setCell ⟨g,6,none⟩ v6).heap[g]? = some (.cells #[v0,v1,v2,v3,v4,v5,v6,c7] T (0,0)):=heap_setCell_same W5 g 6 _ _ v6 h;generalize W5.setCell ⟨g,6,none⟩ v6=W6 at h ⊢;have h:(W6.setCell ⟨g,7,none⟩ v7).heap[g]? = some (.cells #[v0,v1,v2,v3,v4,v5,v6,v7] T (0,0)):=heap_setCell_same W6 g 7 _ _ v7 h;generalize W6.setCell ⟨g,7,none⟩ v7=W7 at h ⊢;exact h
theorem st8_x {t g:Nat} {W0 W:World} (h:BelowX t W0 W) (hg:W0.heap.size≤g) (ht:t≤W0.heap.size) (v0 v1 v2 v3 v4 v5 v6 v7:Value):BelowX t W0 ((((((((W.setCell ⟨g,0,none⟩ v0).setCell ⟨g,1,none⟩ v1).setCell ⟨g,2,none⟩ v2).setCell ⟨g,3,none⟩ v3).setCell ⟨g,4,none⟩ v4).setCell ⟨g,5,none⟩ v5).setCell ⟨g,6,none⟩ v6).setCell ⟨g,7,none⟩ v7) :=
 ((((((((h.setNew g 0 v0 hg ht).setNew g 1 v1 hg ht).setNew g 2 v2 hg ht).setNew g 3 v3 hg ht).setNew g 4 v4 hg ht).setNew g 5 v5 hg ht).setNew g 6 v6 hg ht).setNew g 7 v7 hg ht)
theorem st8_all {w W:World} {R tb g:Nat} {rs:List Tk} {o:Int} {T:TypeId} {c0 c1 c2 c3 c4 c5 c6 c7:Value} (Q:W.heap[g]? = some (.cells #[c0,c1,c2,c3,c4,c5,c6,c7] T (0,0))) (hR:RdAt W R tb rs o) (hb:BelowX R w W) (h1:w.heap.size≤g) (h3:R<w.heap.size) (h4:tb<w.heap.size) (v0 v1 v2 v3 v4 v5 v6 v7:Value) :
  ((((((((W.setCell ⟨g,0,none⟩ v0).setCell ⟨g,1,none⟩ v1).setCell ⟨g,2,none⟩ v2).setCell ⟨g,3,none⟩ v3).setCell ⟨g,4,none⟩ v4).setCell ⟨g,5,none⟩ v5).setCell ⟨g,6,none⟩ v6).setCell ⟨g,7,none⟩ v7).heap[g]? = some (.cells #[v0,v1,v2,v3,v4,v5,v6,v7] T (0,0))∧RdAt ((((((((W.setCell ⟨g,0,none⟩ v0).setCell ⟨g,1,none⟩ v1).setCell ⟨g,2,none⟩ v2).setCell ⟨g,3,none⟩ v3).setCell ⟨g,4,none⟩ v4).setCell ⟨g,5,none⟩ v5).setCell ⟨g,6,none⟩ v6).setCell ⟨g,7,none⟩ v7) R tb rs o∧BelowX R w ((((((((W.setCell ⟨g,0,none⟩ v0).setCell ⟨g,1,none⟩ v1).setCell ⟨g,2,none⟩ v2).setCell ⟨g,3,none⟩ v3).setCell ⟨g,4,none⟩ v4).setCell ⟨g,5,none⟩ v5).setCell ⟨g,6,none⟩ v6).setCell ⟨g,7,none⟩ v7)∧Keeps1 g W ((((((((W.setCell ⟨g,0,none⟩ v0).setCell ⟨g,1,none⟩ v1).setCell ⟨g,2,none⟩ v2).setCell ⟨g,3,none⟩ v3).setCell ⟨g,4,none⟩ v4).setCell ⟨g,5,none⟩ v5).setCell ⟨g,6,none⟩ v6).setCell ⟨g,7,none⟩ v7):=by
 have hk1:Keeps1 g W ((((((((W.setCell ⟨g,0,none⟩ v0).setCell ⟨g,1,none⟩ v1).setCell ⟨g,2,none⟩ v2).setCell ⟨g,3,none⟩ v3).setCell ⟨g,4,none⟩ v4).setCell ⟨g,5,none⟩ v5).setCell ⟨g,6,none⟩ v6).setCell ⟨g,7,none⟩ v7):=(((((((((Keeps1.refl _ _).set 0 v0).set 1 v1).set 2 v2).set 3 v3).set 4 v4).set 5 v5).set 6 v6).set 7 v7)
 exact ⟨st8_heap Q v0 v1 v2 v3 v4 v5 v6 v7,hR.k1 hk1 (by omega) (by omega) (by have:=hR.r2; omega),st8_x hb h1 (by omega) v0 v1 v2 v3 v4 v5 v6 v7,hk1⟩
/-- A column as it is told. -/
def VCol (_:World) (v:Value) (x:Col):Prop:=v = .agg #[.string x.1,.int .i64 x.2]
/-- A source as it is told, ahead of its condition. -/
def VSr0 (_:World) (v:Value) (x:Src):Prop:=x.on=sx0∧v = .agg #[.int .i64 x.kind,.string x.name,.string x.alias,.int .i64 0,.int .i64 0,.int .i64 0,.string ⟨#[]⟩,.string ⟨#[]⟩,.string ⟨#[]⟩,.slice none 0 0]
/-- An item as it is told. -/
def VItm (B:Nat) (W:World) (v:Value) (x:Itm):Prop:=∃ a c,v = .agg #[.int .i64 x.1.k,.int .i64 x.1.v.1,.int .i64 x.1.v.2.1,.string x.1.v.2.2,.string x.1.tab,.string x.1.name,.slice a x.1.ks.length c,.string x.2]∧SsAt B W a x.1.ks
theorem column_at {w:World} {R tb:Nat} {ts:List Tk} {o:Int} (h:RdAt w R tb ts o):Calls Tryz.prog 157 #[.pointer (some ⟨R,0,none⟩)] w (Ends R tb o w VCol (columnP ts)):=by
 have hltR:=h.lt;have hltT:=h.ltb;have hal:Below w.heap.size w (w.alloc (.cells #[.string ⟨#[]⟩,.int .i64 0] 69)):=(Below.refl _ _).alloc (Nat.le_refl _) _;have QZ0:=heap_new w #[.string ⟨#[]⟩,.int .i64 0] 69;have hz0:w.heap.size<(w.alloc (.cells #[.string ⟨#[]⟩,.int .i64 0] 69)).heap.size:=lt_of_heap QZ0;have con:=name_at (h.next hal);generalize hM:columnP ts=M;have HM:Hid (bnd (nameP ts) (fun nn r=>bnd (columnTypeP r) fun tt r2=>.ok ((nn,tt),r2))=M):=hM;generalize nameP ts=L at *;clear h hM;go_enter Tryz.func157,Tryz.ntmps157;go_wp2_with fail
 generalize w.alloc (.cells #[.string ⟨#[]⟩,.int .i64 0] 69)=w1 at *;refine con.mono ?_;rintro e w2 ⟨hb2,hW⟩;have hx2:BelowX R w w2:=(BelowX.of hal (by omega)).trans hb2;have QZ2:=(hb2.2 _ (lt_of_heap QZ0) (by omega)).trans QZ0;have hz2:=lt_of_heap QZ2;clear con;rcases L with ce | ⟨nn,r⟩
 ·obtain ⟨rfl,us,hE⟩:=hW;have HEr:Hid (RdAt w2 R tb us o):=hE;clear hE;have e:M = .error ce:=HM.out.symm;subst e;clear HM;go_wp2_with fail
  exact ⟨rfl,Ends.err rfl hx2 HEr.out⟩
 obtain ⟨v,rfl,rfl,hR2⟩:=hW;have HM2:Hid (bnd (columnTypeP r) (fun tt r2=>.ok ((nn,tt),r2))=M):=HM.out;have con3:=columnType_at hR2;generalize columnTypeP r=L2 at *;clear HM hR2;go_wp2_with fail
 refine con3.mono ?_;rintro e w4 ⟨hb4,hW⟩;have hx4:=hx2.trans hb4;have QZ:=(hb4.2 _ (lt_of_heap QZ2) (by omega)).trans QZ2;clear con3;rcases L2 with ce | ⟨tt,r2⟩
 ·obtain ⟨rfl,us,hE⟩:=hW;have HEr:Hid (RdAt w4 R tb us o):=hE;clear hE;have e:M = .error ce:=HM2.out.symm;subst e;clear HM2;go_wp2_with fail
  exact ⟨rfl,Ends.err rfl hx4 HEr.out⟩
 obtain ⟨v,rfl,rfl,hR4⟩:=hW;have HR4:Hid (RdAt w4 R tb r2 o):=hR4;have e:M = .ok ((nn,tt),r2):=HM2.out.symm;subst e;obtain ⟨z0,z1⟩:=cells2 QZ;obtain ⟨y0,y1⟩:=froz2 QZ;clear HM2 hR4;go_wp2_with fail
 obtain ⟨QE,hRE,hbE,hkE⟩:=st2_all (w:=w) QZ HR4.out hx4 (Nat.le_refl _) hltR hltT (.string nn) (.int .i64 tt);generalize ((w4.setCell ⟨w.heap.size,0,none⟩ (.string nn)).setCell ⟨w.heap.size,1,none⟩ (.int .i64 tt))=wE at *;obtain ⟨x0,x1⟩:=cells2 QE;exact bodyPost_ret (v:=.agg #[.string nn,.int .i64 tt]) (by simp [results,Tryz.results157,go_sem,x0,x1]) rfl (Ends.good (x:=(nn,tt)) rfl hbE rfl hRE)
theorem source_at {w:World} {R tb:Nat} {ts:List Tk} {o:Int} (h:RdAt w R tb ts o) (kind:Int):Calls Tryz.prog 216 #[.pointer (some ⟨R,0,none⟩),.int .i64 kind] w (Ends R tb o w VSr0 (sourceP kind ts)):=by
 have hltR:=h.lt;have hltT:=h.ltb;have hal:Below w.heap.size w (w.alloc (.cells #[.int .i64 0,.string ⟨#[]⟩,.string ⟨#[]⟩,.int .i64 0,.int .i64 0,.int .i64 0,.string ⟨#[]⟩,.string ⟨#[]⟩,.string ⟨#[]⟩,.slice none 0 0] 105)):=(Below.refl _ _).alloc (Nat.le_refl _) _;have QZ0:=heap_new w #[.int .i64 0,.string ⟨#[]⟩,.string ⟨#[]⟩,.int .i64 0,.int .i64 0,.int .i64 0,.string ⟨#[]⟩,.string ⟨#[]⟩,.string ⟨#[]⟩,.slice none 0 0] 105
 have hz0:w.heap.size<(w.alloc (.cells #[.int .i64 0,.string ⟨#[]⟩,.string ⟨#[]⟩,.int .i64 0,.int .i64 0,.int .i64 0,.string ⟨#[]⟩,.string ⟨#[]⟩,.string ⟨#[]⟩,.slice none 0 0] 105)).heap.size:=lt_of_heap QZ0;have con:=name_at (h.next hal);generalize hM:sourceP kind ts=M;have HM:Hid (bnd (nameP ts) (fun nn r=>bnd (byNameP r) fun aa r2=>.ok ((⟨kind,nn,aa,sx0⟩:Src),r2))=M):=hM;generalize nameP ts=L at *;clear h hM;go_enter Tryz.func216,Tryz.ntmps216;go_wp2_with fail
 generalize w.alloc (.cells #[.int .i64 0,.string ⟨#[]⟩,.string ⟨#[]⟩,.int .i64 0,.int .i64 0,.int .i64 0,.string ⟨#[]⟩,.string ⟨#[]⟩,.string ⟨#[]⟩,.slice none 0 0] 105)=w1 at *;refine con.mono ?_;rintro e w2 ⟨hb2,hW⟩;have hx2:BelowX R w w2:=(BelowX.of hal (by omega)).trans hb2;have QZ2:=(hb2.2 _ (lt_of_heap QZ0) (by omega)).trans QZ0;have hz2:=lt_of_heap QZ2;clear con;rcases L with ce | ⟨nn,r⟩
 ·obtain ⟨rfl,us,hE⟩:=hW;have HEr:Hid (RdAt w2 R tb us o):=hE;clear hE;have e:M = .error ce:=HM.out.symm;subst e;clear HM;go_wp2_with fail
  exact ⟨rfl,Ends.err rfl hx2 HEr.out⟩
 obtain ⟨v,rfl,rfl,hR2⟩:=hW;have HM2:Hid (bnd (byNameP r) (fun aa r2=>.ok ((⟨kind,nn,aa,sx0⟩:Src),r2))=M):=HM.out;have con3:=byName_at hR2;generalize byNameP r=L2 at *;clear HM hR2;go_wp2_with fail
 refine con3.mono ?_;rintro e w4 ⟨hb4,hW⟩;have hx4:=hx2.trans hb4;have QZ:=(hb4.2 _ (lt_of_heap QZ2) (by omega)).trans QZ2;clear con3;rcases L2 with ce | ⟨aa,r2⟩
 ·obtain ⟨rfl,us,hE⟩:=hW;have HEr:Hid (RdAt w4 R tb us o):=hE;clear hE;have e:M = .error ce:=HM2.out.symm;subst e;clear HM2;go_wp2_with fail
  exact ⟨rfl,Ends.err rfl hx4 HEr.out⟩
 obtain ⟨v,rfl,rfl,hR4⟩:=hW;have HR4:Hid (RdAt w4 R tb r2 o):=hR4;have e:M = .ok ((⟨kind,nn,aa,sx0⟩:Src),r2):=HM2.out.symm;subst e;obtain ⟨z0,z1,z2,z3,z4,z5,z6,z7,z8,z9⟩:=cells10 QZ;obtain ⟨y0,y1,y2,y3,y4,y5,y6,y7,y8,y9⟩:=froz10 QZ;clear HM2 hR4;go_wp2_with fail
 obtain ⟨QE,hRE,hbE,hkE⟩:=st10_all (w:=w) QZ HR4.out hx4 (Nat.le_refl _) hltR hltT (.int .i64 kind) (.string nn) (.string aa) (.int .i64 0) (.int .i64 0) (.int .i64 0) (.string ⟨#[]⟩) (.string ⟨#[]⟩) (.string ⟨#[]⟩) (.slice none 0 0)
 generalize ((((((((((w4.setCell ⟨w.heap.size,0,none⟩ (.int .i64 kind)).setCell ⟨w.heap.size,1,none⟩ (.string nn)).setCell ⟨w.heap.size,2,none⟩ (.string aa)).setCell ⟨w.heap.size,3,none⟩ (.int .i64 0)).setCell ⟨w.heap.size,4,none⟩ (.int .i64 0)).setCell ⟨w.heap.size,5,none⟩ (.int .i64 0)).setCell ⟨w.heap.size,6,none⟩ (.string ⟨#[]⟩)).setCell ⟨w.heap.size,7,none⟩ (.string ⟨#[]⟩)).setCell ⟨w.heap.size,8,none⟩ (.string ⟨#[]⟩)).setCell ⟨w.heap.size,9,none⟩ (.slice none 0 0))=wE at *;obtain ⟨x0,x1,x2,x3,x4,x5,x6,x7,x8,x9⟩:=cells10 QE
 exact bodyPost_ret (v:=.agg #[.int .i64 kind,.string nn,.string aa,.int .i64 0,.int .i64 0,.int .i64 0,.string ⟨#[]⟩,.string ⟨#[]⟩,.string ⟨#[]⟩,.slice none 0 0]) (by simp [results,Tryz.results216,go_sem,x0,x1,x2,x3,x4,x5,x6,x7,x8,x9]) rfl (Ends.good (x:=(⟨kind,nn,aa,sx0⟩:Src)) rfl hbE ⟨rfl,rfl⟩ hRE)
theorem item_at {w:World} {R tb:Nat} {ts:List Tk}  (h:RdAt w R tb ts 0):Calls Tryz.prog 192 #[.pointer (some ⟨R,0,none⟩)] w (Ends R tb 0 w (VItm w.heap.size) (itemP ts)):=by
 have hltR:=h.lt;have hltT:=h.ltb;have hal:Below w.heap.size w (w.alloc (.cells #[.int .i64 0,.int .i64 0,.int .i64 0,.string ⟨#[]⟩,.string ⟨#[]⟩,.string ⟨#[]⟩,.slice none 0 0,.string ⟨#[]⟩] 75)):=(Below.refl _ _).alloc (Nat.le_refl _) _;have QZ0:=heap_new w #[.int .i64 0,.int .i64 0,.int .i64 0,.string ⟨#[]⟩,.string ⟨#[]⟩,.string ⟨#[]⟩,.slice none 0 0,.string ⟨#[]⟩] 75;have hz0:w.heap.size<(w.alloc (.cells #[.int .i64 0,.int .i64 0,.int .i64 0,.string ⟨#[]⟩,.string ⟨#[]⟩,.string ⟨#[]⟩,.slice none 0 0,.string ⟨#[]⟩] 75)).heap.size:=lt_of_heap QZ0;have con:=eP_at (h.next hal)
 generalize hM:itemP ts=M;have HM:Hid (bnd (eP ts) (fun x r=>bnd (byNameP r) fun aa r2=>.ok (((x,aa):Itm),r2))=M):=hM;generalize eP ts=L at *;clear h hM;go_enter Tryz.func192,Tryz.ntmps192;go_wp2_with fail
 generalize w.alloc (.cells #[.int .i64 0,.int .i64 0,.int .i64 0,.string ⟨#[]⟩,.string ⟨#[]⟩,.string ⟨#[]⟩,.slice none 0 0,.string ⟨#[]⟩] 75)=w1 at *;refine con.mono ?_;rintro e w2 ⟨hb2,hW⟩;have hx2:BelowX R w w2:=(BelowX.of hal (by omega)).trans hb2;have QZ2:=(hb2.2 _ (lt_of_heap QZ0) (by omega)).trans QZ0;have hz2:=lt_of_heap QZ2;clear con;rcases L with ce | ⟨x,r⟩
 ·obtain ⟨rfl,us,hE⟩:=hW;have HEr:Hid (RdAt w2 R tb us 0):=hE;clear hE;have e:M = .error ce:=HM.out.symm;subst e;clear HM;go_wp2_with fail
  exact ⟨rfl,Ends.err rfl hx2 HEr.out⟩
 obtain ⟨v,rfl,⟨a,c,rfl,hks⟩,hR2⟩:=hW;have HM2:Hid (bnd (byNameP r) (fun aa r2=>.ok (((x,aa):Itm),r2))=M):=HM.out;have con3:=byName_at hR2;have HK2:Hid (SsAt w1.heap.size w2 a x.ks):=hks;generalize byNameP r=L2 at *;clear HM hR2;go_wp2_with fail
 refine con3.mono ?_;rintro e w4 ⟨hb4,hW⟩;have hx4:=hx2.trans hb4;have QZ:=(hb4.2 _ (lt_of_heap QZ2) (by omega)).trans QZ2;have HK4:Hid (SsAt w1.heap.size w4 a x.ks):=SsAt.k1 hb4.k1 (by omega) HK2.out;clear con3;rcases L2 with ce | ⟨aa,r2⟩
 ·obtain ⟨rfl,us,hE⟩:=hW;have HEr:Hid (RdAt w4 R tb us 0):=hE;clear hE;have e:M = .error ce:=HM2.out.symm;subst e;clear HM2;go_wp2_with fail
  exact ⟨rfl,Ends.err rfl hx4 HEr.out⟩
 obtain ⟨v,rfl,rfl,hR4⟩:=hW;have HR4:Hid (RdAt w4 R tb r2 0):=hR4;have e:M = .ok (((x,aa):Itm),r2):=HM2.out.symm;subst e;obtain ⟨z0,z1,z2,z3,z4,z5,z6,z7⟩:=cells8 QZ;obtain ⟨y0,y1,y2,y3,y4,y5,y6,y7⟩:=froz8 QZ;clear HM2 hR4;go_wp2_with fail
 obtain ⟨QE,hRE,hbE,hkE⟩:=st8_all (w:=w) QZ HR4.out hx4 (Nat.le_refl _) hltR hltT (.int .i64 x.k) (.int .i64 x.v.1) (.int .i64 x.v.2.1) (.string x.v.2.2) (.string x.tab) (.string x.name) (.slice a x.ks.length c) (.string aa)
 generalize ((((((((w4.setCell ⟨w.heap.size,0,none⟩ (.int .i64 x.k)).setCell ⟨w.heap.size,1,none⟩ (.int .i64 x.v.1)).setCell ⟨w.heap.size,2,none⟩ (.int .i64 x.v.2.1)).setCell ⟨w.heap.size,3,none⟩ (.string x.v.2.2)).setCell ⟨w.heap.size,4,none⟩ (.string x.tab)).setCell ⟨w.heap.size,5,none⟩ (.string x.name)).setCell ⟨w.heap.size,6,none⟩ (.slice a x.ks.length c)).setCell ⟨w.heap.size,7,none⟩ (.string aa))=wE at *;obtain ⟨x0,x1,x2,x3,x4,x5,x6,x7⟩:=cells8 QE
 exact bodyPost_ret (v:=.agg #[.int .i64 x.k,.int .i64 x.v.1,.int .i64 x.v.2.1,.string x.v.2.2,.string x.tab,.string x.name,.slice a x.ks.length c,.string aa]) (by simp [results,Tryz.results192,go_sem,x0,x1,x2,x3,x4,x5,x6,x7]) rfl (Ends.good (x:=((x,aa):Itm)) rfl hbE ⟨a,c,rfl,SsAt.mono (by omega) (SsAt.k1 hkE (by omega) HK4.out)⟩ hRE)

abbrev EnT (α:Type):Type:=(Nat→Prop)→World→α→List Value→Prop
/-- Elements of 'size' cells each, in blocks of S. -/
def LsE {α:Type} (En:EnT α) (size:Nat) (S:Nat→Prop) (W:World) (a:Option Addr) (l:List α):Prop :=
 l = []∨∃ b off,a=some ⟨b,off,none⟩∧S b∧b<W.heap.size∧∀ (i:Nat) (h:i<l.length),∃ cs,cs.length=size∧(∀ j u,cs[j]? = some u→W.cell? ⟨b,off+i*size+j,none⟩=some u)∧En S W l[i] cs
theorem LsE.keep {α:Type} {En:EnT α} (ok:EnOk En) {size:Nat} {S:Nat→Prop} {W W':World} {a:Option Addr} {l:List α} (hk:Keeps' S W W') (h:LsE En size S W a l):LsE En size S W' a l:=by
 rcases h with h | ⟨b,off,e,h1,h2,h3⟩
 ·exact .inl h
 ·refine .inr ⟨b,off,e,h1,Nat.lt_of_lt_of_le h2 hk.1,fun i hi=>?_⟩;obtain ⟨cs,c1,c2,c3⟩:=h3 i hi;exact ⟨cs,c1,fun j u hu=>hk.cell h1 (c2 j u hu),ok.next hk c3⟩
theorem LsE.mono {α:Type} {En:EnT α} (ok:EnOk En) {size:Nat} {S S':Nat→Prop} {W:World} {a:Option Addr} {l:List α} (hs:∀ b,S b→b<W.heap.size→S' b) (h:LsE En size S W a l):LsE En size S' W a l:=by
 rcases h with h | ⟨b,off,e,h1,h2,h3⟩
 ·exact .inl h
 ·refine .inr ⟨b,off,e,hs b h1 h2,h2,fun i hi=>?_⟩;obtain ⟨cs,c1,c2,c3⟩:=h3 i hi;exact ⟨cs,c1,c2,ok.mono hs c3⟩
/-- A list as an element. -/
def EnL {α:Type} (En:EnT α) (size:Nat):EnT (List α):=fun S W x cs=>∃ a c,cs = [.slice a x.length c]∧LsE En size S W a x
theorem enL {α:Type} {En:EnT α} (ok:EnOk En) (size:Nat):EnOk (EnL En size) :=
 ⟨fun hk ⟨a,c,e,h⟩=>⟨a,c,e,h.keep ok hk⟩,fun hs ⟨a,c,e,h⟩=>⟨a,c,e,h.mono ok hs⟩⟩
theorem OwnE.ls {α:Type} {En:EnT α} (ok:EnOk En) {e size base:Nat} {S:Nat→Prop} {W:World} {v:Value} {l:List α} (h:OwnE En e size base S W v l) (hs:∀ b,base≤b→S b):∃ a cap,v = .slice a l.length cap∧LsE En size S W a l:=by
 rcases h.fin ok with ⟨rfl,rfl⟩ | ⟨g,cap,rfl,h1,h2,h3⟩
 ·exact ⟨none,0,rfl,.inl rfl⟩
 ·exact ⟨_,cap,rfl,.inr ⟨g,0,rfl,hs g h1,h2,fun i hi=>by simpa using h3 i hi⟩⟩
/-- A block of one's own of one element. -/
theorem OwnE.one {α:Type} {En:EnT α} (ok:EnOk En) {e size base:Nat} {S:Nat→Prop} {w:World} {x:α} {ca:Array Value} (h:En S w x ca.toList) (hl:ca.size=size) (hb:base≤w.heap.size) :
  OwnE En e size base S (w.alloc (.cells ca e)) (.slice (some ⟨w.heap.size,0,none⟩) 1 1) [x]:=by
 have hal:Below w.heap.size w (w.alloc (.cells ca e)):=(Below.refl _ _).alloc (Nat.le_refl _) _;refine ⟨ca.toList,⟨by simp [hl],.inr ⟨w.heap.size,1,ca,rfl,hb,heap_new _ _ _,Nat.le_refl _,by unfold maxLen; decide,by simp [hl],?_⟩⟩,fun i hi=>?_⟩
 ·rw [List.take_of_length_le (by simp [hl])]
 ·obtain rfl:i=0:=by simpa using hi
  refine ⟨ca.toList,by simpa using hl,fun j _=>by simp,?_⟩;have h1:En (fun b=>S b∧b<w.heap.size) w x ca.toList:=ok.mono (fun b h1 h2=>⟨h1,h2⟩) h;have h2:=ok.next (Keeps'.of hal) h1;exact ok.mono (fun b hb hl=>⟨hb.1,hl,fun e=>by
   have h3:=Option.some.inj e;have h4:=hb.2;change w.heap.size=b at h3;omega⟩) h2
/-- Columns, values. -/
def En2:EnT Col:=fun _ _ x cs=>cs = [.string x.1,.int .i64 x.2]
theorem en2:EnOk En2:=⟨fun _ h=>h,fun _ h=>h⟩
def En3:EnT Vl:=fun _ _ x cs=>cs = [.int .i64 x.1,.int .i64 x.2.1,.string x.2.2]
theorem en3:EnOk En3:=⟨fun _ h=>h,fun _ h=>h⟩
/-- Items: an expression and a name. -/
def En8:EnT Itm:=fun S W x cs=>∃ a c,cs = [.int .i64 x.1.k,.int .i64 x.1.v.1,.int .i64 x.1.v.2.1,.string x.1.v.2.2,.string x.1.tab,.string x.1.name,.slice a x.1.ks.length c,.string x.2]∧SsS S W a x.1.ks
theorem en8:EnOk En8:=⟨fun hk ⟨a,c,e,h⟩=>⟨a,c,e,h.keep hk⟩,fun hs ⟨a,c,e,h⟩=>⟨a,c,e,SsS.mono hs h⟩⟩
/-- Lists as they are told. -/
def VLs {α:Type} (En:EnT α) (size B:Nat) (W:World) (v:Value) (l:List α):Prop:=∃ a cap,v = .slice a l.length cap∧LsE En size (fun b=>B≤b) W a l
theorem LsE.sxs {S:Nat→Prop} {W:World} {a:Option Addr} {l:List SX} (h:LsE En7 7 S W a l):SsS S W a l:=by
 rcases h with rfl | ⟨g,off,rfl,h1,h2,h3⟩
 ·exact .nil _
 ·have:∀ i:Nat,∃ (a:Option Addr) (c:Nat),∀ h:i<l.length,Sev W g (off+i*7) l[i] a c∧SsS S W a l[i].ks:=fun i=>by
   by_cases hi:i<l.length
   ·obtain ⟨cs,_,c2,a,c,rfl,hk⟩:=h3 i hi;exact ⟨a,c,fun _=>⟨sev_of c2,hk⟩⟩
   ·exact ⟨none,0,fun h=>absurd h hi⟩
  obtain ⟨ai,ha⟩:=Classical.axiomOfChoice this;obtain ⟨ci,hc⟩:=Classical.axiomOfChoice ha;exact .some g off l ai ci h1 h2 (fun i hi=>(hc i hi).1) (fun i hi=>(hc i hi).2)

theorem infoC:(Tryz.prog.info? 69).map (fun i=>(i.zero,i.size,i.bytes))=some (some (.agg #[.string ⟨#[]⟩,.int .i64 0]),2,24):=by kernel_rfl
theorem commasC_at {w:World} {R tb:Nat} {ts:List Tk} {o:Int} (h:RdAt w R tb ts o):Calls Tryz.prog 156 #[.pointer (some ⟨R,0,none⟩),.int .i64 8,.func (.func 157) #[.pointer (some ⟨R,0,none⟩)] #[]] w (Ends R tb o w (VLs En2 2 w.heap.size) (commasP columnP 8 9 ts)):=by
 obtain ⟨i0,hi,hj0,hj1,hj2⟩:=info_parts infoC;have hltR:=h.lt;have hltT:=h.ltb;have con:=column_at h;generalize hM:commasP columnP 8 9 ts=M;have HM:Hid (bnd (columnP ts) (fun x r=>comLoopP columnP 8 9 [x] r)=M):=hM;generalize columnP ts=L at *;clear h hM;go_enter Tryz.func156,Tryz.ntmps156;go_wp2_with fail
 refine con.mono ?_;rintro e w2 ⟨hb2,hW⟩;clear con;rcases L with ce | ⟨x,rs⟩
 ·obtain ⟨rfl,us,hE⟩:=hW;have HE:Hid (RdAt w2 R tb us o):=hE;clear hE;have e:M = .error ce:=HM.out.symm;subst e;clear HM;go_wp2_with fail
  exact ⟨rfl,Ends.err rfl hb2 HE.out⟩
 obtain ⟨v,rfl,rfl,hR2⟩:=hW;have HL:Hid (comLoopP columnP 8 9 [x] rs=M):=HM.out;have hz2:=hb2.size;have HKA:Hid (En2 (fun b=>w.heap.size≤b) w2 x [.string x.1,.int .i64 x.2]):=rfl;have hal2:Below w2.heap.size w2 (w2.alloc (.cells #[.string x.1,.int .i64 x.2] 69)):=(Below.refl _ _).alloc (Nat.le_refl _) _;have HR2:Hid (RdAt (w2.alloc (.cells #[.string x.1,.int .i64 x.2] 69)) R tb rs o):=hR2.next hal2
 have HO2:Hid (OwnE En2 69 2 w.heap.size (fun b=>w.heap.size≤b) (w2.alloc (.cells #[.string x.1,.int .i64 x.2] 69)) (.slice (some ⟨w2.heap.size,0,none⟩) 1 1) [x]):=OwnE.one en2 (ca:=#[.string x.1,.int .i64 x.2]) HKA.out rfl (by omega);have hxA:BelowX R w (w2.alloc (.cells #[.string x.1,.int .i64 x.2] 69)):=hb2.trans (.of hal2 (by omega));clear HM hR2 HKA;go_wp2_with fail
 generalize w2.alloc (.cells #[.string x.1,.int .i64 x.2] 69)=wA at *;go_loopg [7] 9 (fun m ow wr=>∃ (ov:Value) (acc:List _) (us:List Tk),ov=ow∧Hid (m+acc.length=10)∧Hid (1≤acc.length∧acc.length≤8)∧Hid (comLoopP columnP 8 m acc us=M)∧BelowX R w wr∧Hid (RdAt wr R tb us o)∧Hid (OwnE En2 69 2 w.heap.size (fun b=>w.heap.size≤b) wr ov acc))
 case atStart=>exact ⟨_,[x],rs,rfl,by show _=_; simp,by show _∧_; simp,HL,hxA,HR2,HO2⟩
 case round =>
  clear HL hxA HR2 HO2;obtain ⟨ov,acc,us,rfl,hn,hacc,HL,hx,HR,HO⟩:=hrel;obtain ⟨m,rfl⟩:∃ m,gk=m+1:=⟨gk - 1,by have:=hn.out; have:=hacc.out; omega⟩
  have hzr:=hx.size;have HL2:=HL.out;rw [comLoopP] at HL2;have con0:=took_at HR.out ⟨#[44]⟩;clear HL HR;rcases hi':isP ⟨#[44]⟩ us with _ | _
  ·rw [hi',tookP_f hi'] at con0;rw [hi',if_neg (by decide)] at HL2;subst HL2;go_wp2_with fail
   refine con0.mono ?_;rintro e w3 ⟨rfl,h3,hb3⟩;have O3:OwnE En2 69 2 w.heap.size (fun b=>w.heap.size≤b) w3 ov acc:=HO.out.keep en2 (fun _ h=>h) (hb3.k1.k (by show ¬ w.heap.size≤R; omega));obtain ⟨av,cv,rfl,hls⟩:=O3.ls en2 (fun _ h=>h);have HK:Hid (LsE En2 2 (fun b=>w.heap.size≤b) w3 av acc):=hls;have H3:Hid (RdAt w3 R tb us o):=h3;clear O3 hls h3 HO con0;go_wp2_with fail
   refine bodyPost_ret (v:=.slice av acc.length cv) (by simp [results,Tryz.results156,go_sem]) rfl ?_;exact Ends.good rfl (hx.trans hb3) ⟨av,cv,rfl,HK.out⟩ H3.out
  ·rw [hi',tookP_t hi'] at con0;rw [hi',if_pos rfl] at HL2;have HL3:Hid ((if (acc.length:Int) ≥ 8 then .error (5,atP (passP us)) else bnd (columnP (passP us)) fun x r=>comLoopP columnP 8 m (acc ++ [x]) r)=M):=HL2;obtain ⟨a0,c0,e0⟩:=HO.out.len;clear HL2;go_wp2_with fail
   refine con0.mono ?_;rintro e w1 ⟨rfl,h1,hb1⟩;have hx1:=hx.trans hb1;have hz1:=hb1.size;have H1:Hid (RdAt w1 R tb (passP us) o):=h1;have HO1:Hid (OwnE En2 69 2 w.heap.size (fun b=>w.heap.size≤b) w1 ov acc):=HO.out.keep en2 (fun _ h=>h) (hb1.k1.k (by show ¬ w.heap.size≤R; omega));subst e0;clear con0;by_cases hbig:(acc.length:Int) ≥ 8
   ·have con1:=room_full h1 hbig;have e:M = .error (5,atP (passP us)):=by rw [← HL3.out,if_pos hbig]
    subst e;clear HL3 h1 HO hbig;go_wp2_with fail
    refine con1.mono ?_;rintro e w5 ⟨rfl,hb5⟩;go_wp2_with fail
    exact ⟨rfl,Ends.err rfl (hx1.trans (.of hb5 (by omega))) (H1.out.next hb5)⟩
   have con1:=room_ok (w:=w1) (R:=R) (n:=(acc.length:Int)) (most:=8) (by omega);have HL4:Hid (bnd (columnP (passP us)) (fun x r=>comLoopP columnP 8 m (acc ++ [x]) r)=M):=by have:=HL3.out; rw [if_neg hbig] at this; exact this
   have HB:Hid (¬ (acc.length:Int) ≥ 8):=hbig;clear h1 HO hbig HL3;go_wp2_with fail
   refine con1.mono ?_;rintro e w5 ⟨rfl,hb5⟩;have hx5:=hx1.trans (.of hb5 (by omega));have hz5:=hb5.size;clear con1;have HO5:Hid (OwnE En2 69 2 w.heap.size (fun b=>w.heap.size≤b) w5 (.slice a0 acc.length c0) acc):=HO1.out.next en2 hb5;have hR5:=H1.out.next hb5;have con2:=column_at hR5;generalize columnP (passP us)=L at *;clear hR5 HO1 H1;go_wp2_with fail
   refine con2.mono ?_;rintro e w3 ⟨hb3,hW⟩;have hx3:=hx5.trans hb3;have hz3:=hb3.size;clear con2;rcases L with ce | ⟨x,r3⟩
   ·obtain ⟨rfl,us',hE⟩:=hW;have HE:Hid (RdAt w3 R tb us' o):=hE;clear hE;have e:M = .error ce:=HL4.out.symm;subst e;clear HL4;go_wp2_with fail
    exact ⟨rfl,Ends.err rfl hx3 HE.out⟩
   obtain ⟨v,rfl,rfl,hR3⟩:=hW;have HR3:Hid (RdAt w3 R tb r3 o):=hR3;have HL5:Hid (comLoopP columnP 8 m (acc ++ [x]) r3=M):=HL4.out;have hal4:Below w3.heap.size w3 (w3.alloc (.cells #[.string x.1,.int .i64 x.2] 69)):=(Below.refl _ _).alloc (Nat.le_refl _) _;have q4:=heap_new w3 #[.string x.1,.int .i64 x.2] 69;have O3:OwnE En2 69 2 w.heap.size (fun b=>w.heap.size≤b) w3 (.slice a0 acc.length c0) acc:=HO5.out.keep en2 (fun _ h=>h) (hb3.k1.k (by show ¬ w.heap.size≤R; omega));have hnb:=HO5.out.lt;obtain ⟨ys,o4,en4⟩:=O3.next en2 hal4
   have HKS:Hid (En2 (fun b=>w5.heap.size≤b) (w3.alloc (.cells #[.string x.1,.int .i64 x.2] 69)) x [.string x.1,.int .i64 x.2]):=en2.next (Keeps'.of hal4) (rfl);have EN4:Hid (∀ (i:Nat) (h:i<acc.length),∃ cs,cs.length=2∧(∀ j,j<2→ys[i*2+j]? = cs[j]?)∧En2 (SXb (fun b=>w.heap.size≤b) (.slice a0 acc.length c0) (w3.alloc (.cells #[.string x.1,.int .i64 x.2] 69))) (w3.alloc (.cells #[.string x.1,.int .i64 x.2] 69)) acc[i] cs):=en4;clear hR3 HL4 O3 en4
   go_wp2_with (first | (at_builtin; refine wpList_append_at rfl _ _ 45 rfl w.heap.size 69 i0 _ 2 24 Tryz.underlying45 hi hj0 hj1 hj2 rfl (by decide) _ _ _ rfl o4 ⟨w3.heap.size,0,none⟩ 1 1 [.string x.1,.int .i64 x.2] rfl rfl ?Ac1 ?Ac2 ?Ac3 ?Ac4 ?Ac5 ?_))
   case Ac1 =>
    intro i u hu;rw [addr_addS,Nat.zero_add];exact cell_of (i:=i) q4 (by rw [← hu]; simp)
   case Ac2=>intro u hu; simp at hu; rcases hu with rfl | rfl <;> rfl
   case Ac3=>unfold maxLen; have:=hacc.out; omega
   case Ac4=>have:=hacc.out; omega
   case Ac5=>have:=hal4.size; omega
   intro v' w6 o5 g5 hd5;have z5:=g5.size;have hz4:=hal4.size;have O5:Hid (OwnE En2 69 2 w.heap.size (fun b=>w.heap.size≤b) w6 v' (acc ++ [x])):=OwnE.push en2 o4 EN4.out rfl (en2.mono (fun b h1 h2=>⟨by have:w5.heap.size≤b:=h1; show w.heap.size≤b; omega,h2,fun e=>by have:=(hnb b e).2; have:w5.heap.size≤b:=h1; omega⟩) HKS.out) o5 g5 (by simpa using hd5);have D5:Below w.heap.size w3 w6:=(hal4.mono (by omega)).trans ((Below.refl _ _).grown g5 (by omega) (fun q hq=>by have:=(hnb q hq).1; omega));have hx6:BelowX R w w6:=hx3.low D5 (Nat.le_refl _) (by omega)
   have H6:Hid (RdAt w6 R tb r3 o):=HR3.out.low D5 hltR hltT;clear o4 EN4 o5 g5 hd5 HKS q4 HR3 hal4;go_wp2_with fail
   go_roundg m
   case measure=>omega
   case rel=>exact ⟨_,acc ++ [x],r3,rfl,by show _=_; have:=hn.out; simp; omega,by show _∧_; have:=hacc.out; have:=HB.out; simp; omega,HL5,hx6,H6,O5⟩
theorem infoV:(Tryz.prog.info? 53).map (fun i=>(i.zero,i.size,i.bytes))=some (some (.agg #[.int .i64 0,.int .i64 0,.string ⟨#[]⟩]),3,32):=by kernel_rfl
theorem commasV_at {w:World} {R tb:Nat} {ts:List Tk} {o:Int} (h:RdAt w R tb ts o):Calls Tryz.prog 189 #[.pointer (some ⟨R,0,none⟩),.int .i64 8,.func (.func 190) #[.pointer (some ⟨R,0,none⟩)] #[]] w (Ends R tb o w (VLs En3 3 w.heap.size) (commasP valueP 8 9 ts)):=by
 obtain ⟨i0,hi,hj0,hj1,hj2⟩:=info_parts infoV;have hltR:=h.lt;have hltT:=h.ltb;have con:=value_at h;generalize hM:commasP valueP 8 9 ts=M;have HM:Hid (bnd (valueP ts) (fun x r=>comLoopP valueP 8 9 [x] r)=M):=hM;generalize valueP ts=L at *;clear h hM;go_enter Tryz.func189,Tryz.ntmps189;go_wp2_with fail
 refine con.mono ?_;rintro e w2 ⟨hb2,hW⟩;clear con;rcases L with ce | ⟨x,rs⟩
 ·obtain ⟨rfl,us,hE⟩:=hW;have HE:Hid (RdAt w2 R tb us o):=hE;clear hE;have e:M = .error ce:=HM.out.symm;subst e;clear HM;go_wp2_with fail
  exact ⟨rfl,Ends.err rfl hb2 HE.out⟩
 obtain ⟨v,rfl,rfl,hR2⟩:=hW;have HL:Hid (comLoopP valueP 8 9 [x] rs=M):=HM.out;have hz2:=hb2.size;have HKA:Hid (En3 (fun b=>w.heap.size≤b) w2 x [.int .i64 x.1,.int .i64 x.2.1,.string x.2.2]):=rfl;have hal2:Below w2.heap.size w2 (w2.alloc (.cells #[.int .i64 x.1,.int .i64 x.2.1,.string x.2.2] 53)):=(Below.refl _ _).alloc (Nat.le_refl _) _;have HR2:Hid (RdAt (w2.alloc (.cells #[.int .i64 x.1,.int .i64 x.2.1,.string x.2.2] 53)) R tb rs o):=hR2.next hal2
 have HO2:Hid (OwnE En3 53 3 w.heap.size (fun b=>w.heap.size≤b) (w2.alloc (.cells #[.int .i64 x.1,.int .i64 x.2.1,.string x.2.2] 53)) (.slice (some ⟨w2.heap.size,0,none⟩) 1 1) [x]):=OwnE.one en3 (ca:=#[.int .i64 x.1,.int .i64 x.2.1,.string x.2.2]) HKA.out rfl (by omega);have hxA:BelowX R w (w2.alloc (.cells #[.int .i64 x.1,.int .i64 x.2.1,.string x.2.2] 53)):=hb2.trans (.of hal2 (by omega));clear HM hR2 HKA;go_wp2_with fail
 generalize w2.alloc (.cells #[.int .i64 x.1,.int .i64 x.2.1,.string x.2.2] 53)=wA at *;go_loopg [7] 9 (fun m ow wr=>∃ (ov:Value) (acc:List _) (us:List Tk),ov=ow∧Hid (m+acc.length=10)∧Hid (1≤acc.length∧acc.length≤8)∧Hid (comLoopP valueP 8 m acc us=M)∧BelowX R w wr∧Hid (RdAt wr R tb us o)∧Hid (OwnE En3 53 3 w.heap.size (fun b=>w.heap.size≤b) wr ov acc))
 case atStart=>exact ⟨_,[x],rs,rfl,by show _=_; simp,by show _∧_; simp,HL,hxA,HR2,HO2⟩
 case round =>
  clear HL hxA HR2 HO2;obtain ⟨ov,acc,us,rfl,hn,hacc,HL,hx,HR,HO⟩:=hrel;obtain ⟨m,rfl⟩:∃ m,gk=m+1:=⟨gk - 1,by have:=hn.out; have:=hacc.out; omega⟩
  have hzr:=hx.size;have HL2:=HL.out;rw [comLoopP] at HL2;have con0:=took_at HR.out ⟨#[44]⟩;clear HL HR;rcases hi':isP ⟨#[44]⟩ us with _ | _
  ·rw [hi',tookP_f hi'] at con0;rw [hi',if_neg (by decide)] at HL2;subst HL2;go_wp2_with fail
   refine con0.mono ?_;rintro e w3 ⟨rfl,h3,hb3⟩;have O3:OwnE En3 53 3 w.heap.size (fun b=>w.heap.size≤b) w3 ov acc:=HO.out.keep en3 (fun _ h=>h) (hb3.k1.k (by show ¬ w.heap.size≤R; omega));obtain ⟨av,cv,rfl,hls⟩:=O3.ls en3 (fun _ h=>h);have HK:Hid (LsE En3 3 (fun b=>w.heap.size≤b) w3 av acc):=hls;have H3:Hid (RdAt w3 R tb us o):=h3;clear O3 hls h3 HO con0;go_wp2_with fail
   refine bodyPost_ret (v:=.slice av acc.length cv) (by simp [results,Tryz.results189,go_sem]) rfl ?_;exact Ends.good rfl (hx.trans hb3) ⟨av,cv,rfl,HK.out⟩ H3.out
  ·rw [hi',tookP_t hi'] at con0;rw [hi',if_pos rfl] at HL2;have HL3:Hid ((if (acc.length:Int) ≥ 8 then .error (5,atP (passP us)) else bnd (valueP (passP us)) fun x r=>comLoopP valueP 8 m (acc ++ [x]) r)=M):=HL2;obtain ⟨a0,c0,e0⟩:=HO.out.len;clear HL2;go_wp2_with fail
   refine con0.mono ?_;rintro e w1 ⟨rfl,h1,hb1⟩;have hx1:=hx.trans hb1;have hz1:=hb1.size;have H1:Hid (RdAt w1 R tb (passP us) o):=h1;have HO1:Hid (OwnE En3 53 3 w.heap.size (fun b=>w.heap.size≤b) w1 ov acc):=HO.out.keep en3 (fun _ h=>h) (hb1.k1.k (by show ¬ w.heap.size≤R; omega));subst e0;clear con0;by_cases hbig:(acc.length:Int) ≥ 8
   ·have con1:=room_full h1 hbig;have e:M = .error (5,atP (passP us)):=by rw [← HL3.out,if_pos hbig]
    subst e;clear HL3 h1 HO hbig;go_wp2_with fail
    refine con1.mono ?_;rintro e w5 ⟨rfl,hb5⟩;go_wp2_with fail
    exact ⟨rfl,Ends.err rfl (hx1.trans (.of hb5 (by omega))) (H1.out.next hb5)⟩
   have con1:=room_ok (w:=w1) (R:=R) (n:=(acc.length:Int)) (most:=8) (by omega);have HL4:Hid (bnd (valueP (passP us)) (fun x r=>comLoopP valueP 8 m (acc ++ [x]) r)=M):=by have:=HL3.out; rw [if_neg hbig] at this; exact this
   have HB:Hid (¬ (acc.length:Int) ≥ 8):=hbig;clear h1 HO hbig HL3;go_wp2_with fail
   refine con1.mono ?_;rintro e w5 ⟨rfl,hb5⟩;have hx5:=hx1.trans (.of hb5 (by omega));have hz5:=hb5.size;clear con1;have HO5:Hid (OwnE En3 53 3 w.heap.size (fun b=>w.heap.size≤b) w5 (.slice a0 acc.length c0) acc):=HO1.out.next en3 hb5;have hR5:=H1.out.next hb5;have con2:=value_at hR5;generalize valueP (passP us)=L at *;clear hR5 HO1 H1;go_wp2_with fail
   refine con2.mono ?_;rintro e w3 ⟨hb3,hW⟩;have hx3:=hx5.trans hb3;have hz3:=hb3.size;clear con2;rcases L with ce | ⟨x,r3⟩
   ·obtain ⟨rfl,us',hE⟩:=hW;have HE:Hid (RdAt w3 R tb us' o):=hE;clear hE;have e:M = .error ce:=HL4.out.symm;subst e;clear HL4;go_wp2_with fail
    exact ⟨rfl,Ends.err rfl hx3 HE.out⟩
   obtain ⟨v,rfl,rfl,hR3⟩:=hW;have HR3:Hid (RdAt w3 R tb r3 o):=hR3;have HL5:Hid (comLoopP valueP 8 m (acc ++ [x]) r3=M):=HL4.out;have hal4:Below w3.heap.size w3 (w3.alloc (.cells #[.int .i64 x.1,.int .i64 x.2.1,.string x.2.2] 53)):=(Below.refl _ _).alloc (Nat.le_refl _) _;have q4:=heap_new w3 #[.int .i64 x.1,.int .i64 x.2.1,.string x.2.2] 53;have O3:OwnE En3 53 3 w.heap.size (fun b=>w.heap.size≤b) w3 (.slice a0 acc.length c0) acc:=HO5.out.keep en3 (fun _ h=>h) (hb3.k1.k (by show ¬ w.heap.size≤R; omega));have hnb:=HO5.out.lt;obtain ⟨ys,o4,en4⟩:=O3.next en3 hal4
   have HKS:Hid (En3 (fun b=>w5.heap.size≤b) (w3.alloc (.cells #[.int .i64 x.1,.int .i64 x.2.1,.string x.2.2] 53)) x [.int .i64 x.1,.int .i64 x.2.1,.string x.2.2]):=en3.next (Keeps'.of hal4) (rfl);have EN4:Hid (∀ (i:Nat) (h:i<acc.length),∃ cs,cs.length=3∧(∀ j,j<3→ys[i*3+j]? = cs[j]?)∧En3 (SXb (fun b=>w.heap.size≤b) (.slice a0 acc.length c0) (w3.alloc (.cells #[.int .i64 x.1,.int .i64 x.2.1,.string x.2.2] 53))) (w3.alloc (.cells #[.int .i64 x.1,.int .i64 x.2.1,.string x.2.2] 53)) acc[i] cs):=en4;clear hR3 HL4 O3 en4
   go_wp2_with (first | (at_builtin; refine wpList_append_at rfl _ _ 70 rfl w.heap.size 53 i0 _ 3 32 Tryz.underlying70 hi hj0 hj1 hj2 rfl (by decide) _ _ _ rfl o4 ⟨w3.heap.size,0,none⟩ 1 1 [.int .i64 x.1,.int .i64 x.2.1,.string x.2.2] rfl rfl ?Ac1 ?Ac2 ?Ac3 ?Ac4 ?Ac5 ?_))
   case Ac1 =>
    intro i u hu;rw [addr_addS,Nat.zero_add];exact cell_of (i:=i) q4 (by rw [← hu]; simp)
   case Ac2=>intro u hu; simp at hu; rcases hu with rfl | rfl | rfl <;> rfl
   case Ac3=>unfold maxLen; have:=hacc.out; omega
   case Ac4=>have:=hacc.out; omega
   case Ac5=>have:=hal4.size; omega
   intro v' w6 o5 g5 hd5;have z5:=g5.size;have hz4:=hal4.size;have O5:Hid (OwnE En3 53 3 w.heap.size (fun b=>w.heap.size≤b) w6 v' (acc ++ [x])):=OwnE.push en3 o4 EN4.out rfl (en3.mono (fun b h1 h2=>⟨by have:w5.heap.size≤b:=h1; show w.heap.size≤b; omega,h2,fun e=>by have:=(hnb b e).2; have:w5.heap.size≤b:=h1; omega⟩) HKS.out) o5 g5 (by simpa using hd5);have D5:Below w.heap.size w3 w6:=(hal4.mono (by omega)).trans ((Below.refl _ _).grown g5 (by omega) (fun q hq=>by have:=(hnb q hq).1; omega));have hx6:BelowX R w w6:=hx3.low D5 (Nat.le_refl _) (by omega)
   have H6:Hid (RdAt w6 R tb r3 o):=HR3.out.low D5 hltR hltT;clear o4 EN4 o5 g5 hd5 HKS q4 HR3 hal4;go_wp2_with fail
   go_roundg m
   case measure=>omega
   case rel=>exact ⟨_,acc ++ [x],r3,rfl,by show _=_; have:=hn.out; simp; omega,by show _∧_; have:=hacc.out; have:=HB.out; simp; omega,HL5,hx6,H6,O5⟩
theorem infoX:(Tryz.prog.info? 55).map (fun i=>(i.zero,i.size,i.bytes))=some (some (.agg z7A),7,96):=by kernel_rfl
theorem commasX_at {w:World} {R tb:Nat} {ts:List Tk} (h:RdAt w R tb ts 0):Calls Tryz.prog 163 #[.pointer (some ⟨R,0,none⟩),.int .i64 8,.func (.func 164) #[.pointer (some ⟨R,0,none⟩)] #[]] w (Ends R tb 0 w (VLs En7 7 w.heap.size) (commasP eP 8 9 ts)):=by
 obtain ⟨i0,hi,hj0,hj1,hj2⟩:=info_parts infoX;have hltR:=h.lt;have hltT:=h.ltb;have con:=eP_at h;generalize hM:commasP eP 8 9 ts=M;have HM:Hid (bnd (eP ts) (fun x r=>comLoopP eP 8 9 [x] r)=M):=hM;generalize eP ts=L at *;clear h hM;go_enter Tryz.func163,Tryz.ntmps163;go_wp2_with fail
 refine con.mono ?_;rintro e w2 ⟨hb2,hW⟩;clear con;rcases L with ce | ⟨x,rs⟩
 ·obtain ⟨rfl,us,hE⟩:=hW;have HE:Hid (RdAt w2 R tb us 0):=hE;clear hE;have e:M = .error ce:=HM.out.symm;subst e;clear HM;go_wp2_with fail
  exact ⟨rfl,Ends.err rfl hb2 HE.out⟩
 obtain ⟨v,rfl,⟨a,c,rfl,hks⟩,hR2⟩:=hW;have HL:Hid (comLoopP eP 8 9 [x] rs=M):=HM.out;have hz2:=hb2.size;have HKA:Hid (En7 (fun b=>w.heap.size≤b) w2 x [.int .i64 x.k,.int .i64 x.v.1,.int .i64 x.v.2.1,.string x.v.2.2,.string x.tab,.string x.name,.slice a x.ks.length c]):=⟨a,c,rfl,SsS.mono (fun b h _=>by have:_≤b:=h; show _≤b; omega) hks⟩
 have hal2:Below w2.heap.size w2 (w2.alloc (.cells #[.int .i64 x.k,.int .i64 x.v.1,.int .i64 x.v.2.1,.string x.v.2.2,.string x.tab,.string x.name,.slice a x.ks.length c] 55)):=(Below.refl _ _).alloc (Nat.le_refl _) _;have HR2:Hid (RdAt (w2.alloc (.cells #[.int .i64 x.k,.int .i64 x.v.1,.int .i64 x.v.2.1,.string x.v.2.2,.string x.tab,.string x.name,.slice a x.ks.length c] 55)) R tb rs 0):=hR2.next hal2
 have HO2:Hid (OwnE En7 55 7 w.heap.size (fun b=>w.heap.size≤b) (w2.alloc (.cells #[.int .i64 x.k,.int .i64 x.v.1,.int .i64 x.v.2.1,.string x.v.2.2,.string x.tab,.string x.name,.slice a x.ks.length c] 55)) (.slice (some ⟨w2.heap.size,0,none⟩) 1 1) [x]):=OwnE.one en7 (ca:=#[.int .i64 x.k,.int .i64 x.v.1,.int .i64 x.v.2.1,.string x.v.2.2,.string x.tab,.string x.name,.slice a x.ks.length c]) HKA.out rfl (by omega)
 have hxA:BelowX R w (w2.alloc (.cells #[.int .i64 x.k,.int .i64 x.v.1,.int .i64 x.v.2.1,.string x.v.2.2,.string x.tab,.string x.name,.slice a x.ks.length c] 55)):=hb2.trans (.of hal2 (by omega));clear HM hR2 HKA hks;go_wp2_with fail
 generalize w2.alloc (.cells #[.int .i64 x.k,.int .i64 x.v.1,.int .i64 x.v.2.1,.string x.v.2.2,.string x.tab,.string x.name,.slice a x.ks.length c] 55)=wA at *;go_loopg [7] 9 (fun m ow wr=>∃ (ov:Value) (acc:List _) (us:List Tk),ov=ow∧Hid (m+acc.length=10)∧Hid (1≤acc.length∧acc.length≤8)∧Hid (comLoopP eP 8 m acc us=M)∧BelowX R w wr∧Hid (RdAt wr R tb us 0)∧Hid (OwnE En7 55 7 w.heap.size (fun b=>w.heap.size≤b) wr ov acc))
 case atStart=>exact ⟨_,[x],rs,rfl,by show _=_; simp,by show _∧_; simp,HL,hxA,HR2,HO2⟩
 case round =>
  clear HL hxA HR2 HO2;obtain ⟨ov,acc,us,rfl,hn,hacc,HL,hx,HR,HO⟩:=hrel;obtain ⟨m,rfl⟩:∃ m,gk=m+1:=⟨gk - 1,by have:=hn.out; have:=hacc.out; omega⟩
  have hzr:=hx.size;have HL2:=HL.out;rw [comLoopP] at HL2;have con0:=took_at HR.out ⟨#[44]⟩;clear HL HR;rcases hi':isP ⟨#[44]⟩ us with _ | _
  ·rw [hi',tookP_f hi'] at con0;rw [hi',if_neg (by decide)] at HL2;subst HL2;go_wp2_with fail
   refine con0.mono ?_;rintro e w3 ⟨rfl,h3,hb3⟩;have O3:OwnE En7 55 7 w.heap.size (fun b=>w.heap.size≤b) w3 ov acc:=HO.out.keep en7 (fun _ h=>h) (hb3.k1.k (by show ¬ w.heap.size≤R; omega));obtain ⟨av,cv,rfl,hls⟩:=O3.ls en7 (fun _ h=>h);have HK:Hid (LsE En7 7 (fun b=>w.heap.size≤b) w3 av acc):=hls;have H3:Hid (RdAt w3 R tb us 0):=h3;clear O3 hls h3 HO con0;go_wp2_with fail
   refine bodyPost_ret (v:=.slice av acc.length cv) (by simp [results,Tryz.results163,go_sem]) rfl ?_;exact Ends.good rfl (hx.trans hb3) ⟨av,cv,rfl,HK.out⟩ H3.out
  ·rw [hi',tookP_t hi'] at con0;rw [hi',if_pos rfl] at HL2;have HL3:Hid ((if (acc.length:Int) ≥ 8 then .error (5,atP (passP us)) else bnd (eP (passP us)) fun x r=>comLoopP eP 8 m (acc ++ [x]) r)=M):=HL2;obtain ⟨a0,c0,e0⟩:=HO.out.len;clear HL2;go_wp2_with fail
   refine con0.mono ?_;rintro e w1 ⟨rfl,h1,hb1⟩;have hx1:=hx.trans hb1;have hz1:=hb1.size;have H1:Hid (RdAt w1 R tb (passP us) 0):=h1;have HO1:Hid (OwnE En7 55 7 w.heap.size (fun b=>w.heap.size≤b) w1 ov acc):=HO.out.keep en7 (fun _ h=>h) (hb1.k1.k (by show ¬ w.heap.size≤R; omega));subst e0;clear con0;by_cases hbig:(acc.length:Int) ≥ 8
   ·have con1:=room_full h1 hbig;have e:M = .error (5,atP (passP us)):=by rw [← HL3.out,if_pos hbig]
    subst e;clear HL3 h1 HO hbig;go_wp2_with fail
    refine con1.mono ?_;rintro e w5 ⟨rfl,hb5⟩;go_wp2_with fail
    exact ⟨rfl,Ends.err rfl (hx1.trans (.of hb5 (by omega))) (H1.out.next hb5)⟩
   have con1:=room_ok (w:=w1) (R:=R) (n:=(acc.length:Int)) (most:=8) (by omega);have HL4:Hid (bnd (eP (passP us)) (fun x r=>comLoopP eP 8 m (acc ++ [x]) r)=M):=by have:=HL3.out; rw [if_neg hbig] at this; exact this
   have HB:Hid (¬ (acc.length:Int) ≥ 8):=hbig;clear h1 HO hbig HL3;go_wp2_with fail
   refine con1.mono ?_;rintro e w5 ⟨rfl,hb5⟩;have hx5:=hx1.trans (.of hb5 (by omega));have hz5:=hb5.size;clear con1;have HO5:Hid (OwnE En7 55 7 w.heap.size (fun b=>w.heap.size≤b) w5 (.slice a0 acc.length c0) acc):=HO1.out.next en7 hb5;have hR5:=H1.out.next hb5;have con2:=eP_at hR5;generalize eP (passP us)=L at *;clear hR5 HO1 H1;go_wp2_with fail
   refine con2.mono ?_;rintro e w3 ⟨hb3,hW⟩;have hx3:=hx5.trans hb3;have hz3:=hb3.size;clear con2;rcases L with ce | ⟨x,r3⟩
   ·obtain ⟨rfl,us',hE⟩:=hW;have HE:Hid (RdAt w3 R tb us' 0):=hE;clear hE;have e:M = .error ce:=HL4.out.symm;subst e;clear HL4;go_wp2_with fail
    exact ⟨rfl,Ends.err rfl hx3 HE.out⟩
   obtain ⟨v,rfl,⟨a,c,rfl,hks⟩,hR3⟩:=hW;have HR3:Hid (RdAt w3 R tb r3 0):=hR3;have HL5:Hid (comLoopP eP 8 m (acc ++ [x]) r3=M):=HL4.out;have hal4:Below w3.heap.size w3 (w3.alloc (.cells #[.int .i64 x.k,.int .i64 x.v.1,.int .i64 x.v.2.1,.string x.v.2.2,.string x.tab,.string x.name,.slice a x.ks.length c] 55)):=(Below.refl _ _).alloc (Nat.le_refl _) _;have q4:=heap_new w3 #[.int .i64 x.k,.int .i64 x.v.1,.int .i64 x.v.2.1,.string x.v.2.2,.string x.tab,.string x.name,.slice a x.ks.length c] 55
   have O3:OwnE En7 55 7 w.heap.size (fun b=>w.heap.size≤b) w3 (.slice a0 acc.length c0) acc:=HO5.out.keep en7 (fun _ h=>h) (hb3.k1.k (by show ¬ w.heap.size≤R; omega));have hnb:=HO5.out.lt;obtain ⟨ys,o4,en4⟩:=O3.next en7 hal4
   have HKS:Hid (En7 (fun b=>w5.heap.size≤b) (w3.alloc (.cells #[.int .i64 x.k,.int .i64 x.v.1,.int .i64 x.v.2.1,.string x.v.2.2,.string x.tab,.string x.name,.slice a x.ks.length c] 55)) x [.int .i64 x.k,.int .i64 x.v.1,.int .i64 x.v.2.1,.string x.v.2.2,.string x.tab,.string x.name,.slice a x.ks.length c]):=en7.next (Keeps'.of hal4) (⟨a,c,rfl,SsS.mono (fun b h _=>by have:_≤b:=h; show _≤b; omega) hks⟩)
   have EN4:Hid (∀ (i:Nat) (h:i<acc.length),∃ cs,cs.length=7∧(∀ j,j<7→ys[i*7+j]? = cs[j]?)∧En7 (SXb (fun b=>w.heap.size≤b) (.slice a0 acc.length c0) (w3.alloc (.cells #[.int .i64 x.k,.int .i64 x.v.1,.int .i64 x.v.2.1,.string x.v.2.2,.string x.tab,.string x.name,.slice a x.ks.length c] 55))) (w3.alloc (.cells #[.int .i64 x.k,.int .i64 x.v.1,.int .i64 x.v.2.1,.string x.v.2.2,.string x.tab,.string x.name,.slice a x.ks.length c] 55)) acc[i] cs):=en4;clear hR3 HL4 O3 en4 hks
   go_wp2_with (first | (at_builtin; refine wpList_append_at rfl _ _ 48 rfl w.heap.size 55 i0 _ 7 96 Tryz.underlying48 hi hj0 hj1 hj2 rfl (by decide) _ _ _ rfl o4 ⟨w3.heap.size,0,none⟩ 1 1 [.int .i64 x.k,.int .i64 x.v.1,.int .i64 x.v.2.1,.string x.v.2.2,.string x.tab,.string x.name,.slice a x.ks.length c] rfl rfl ?Ac1 ?Ac2 ?Ac3 ?Ac4 ?Ac5 ?_))
   case Ac1 =>
    intro i u hu;rw [addr_addS,Nat.zero_add];exact cell_of (i:=i) q4 (by rw [← hu]; simp)
   case Ac2=>intro u hu; simp at hu; rcases hu with rfl | rfl | rfl | rfl | rfl | rfl | rfl <;> rfl
   case Ac3=>unfold maxLen; have:=hacc.out; omega
   case Ac4=>have:=hacc.out; omega
   case Ac5=>have:=hal4.size; omega
   intro v' w6 o5 g5 hd5;have z5:=g5.size;have hz4:=hal4.size;have O5:Hid (OwnE En7 55 7 w.heap.size (fun b=>w.heap.size≤b) w6 v' (acc ++ [x])):=OwnE.push en7 o4 EN4.out rfl (en7.mono (fun b h1 h2=>⟨by have:w5.heap.size≤b:=h1; show w.heap.size≤b; omega,h2,fun e=>by have:=(hnb b e).2; have:w5.heap.size≤b:=h1; omega⟩) HKS.out) o5 g5 (by simpa using hd5);have D5:Below w.heap.size w3 w6:=(hal4.mono (by omega)).trans ((Below.refl _ _).grown g5 (by omega) (fun q hq=>by have:=(hnb q hq).1; omega));have hx6:BelowX R w w6:=hx3.low D5 (Nat.le_refl _) (by omega)
   have H6:Hid (RdAt w6 R tb r3 0):=HR3.out.low D5 hltR hltT;clear o4 EN4 o5 g5 hd5 HKS q4 HR3 hal4;go_wp2_with fail
   go_roundg m
   case measure=>omega
   case rel=>exact ⟨_,acc ++ [x],r3,rfl,by show _=_; have:=hn.out; simp; omega,by show _∧_; have:=hacc.out; have:=HB.out; simp; omega,HL5,hx6,H6,O5⟩
theorem infoI:(Tryz.prog.info? 75).map (fun i=>(i.zero,i.size,i.bytes))=some (some (.agg #[.int .i64 0,.int .i64 0,.int .i64 0,.string ⟨#[]⟩,.string ⟨#[]⟩,.string ⟨#[]⟩,.slice none 0 0,.string ⟨#[]⟩]),8,112):=by kernel_rfl
theorem commasI_at {w:World} {R tb:Nat} {ts:List Tk} (h:RdAt w R tb ts 0):Calls Tryz.prog 191 #[.pointer (some ⟨R,0,none⟩),.int .i64 8,.func (.func 192) #[.pointer (some ⟨R,0,none⟩)] #[]] w (Ends R tb 0 w (VLs En8 8 w.heap.size) (commasP itemP 8 9 ts)):=by
 obtain ⟨i0,hi,hj0,hj1,hj2⟩:=info_parts infoI;have hltR:=h.lt;have hltT:=h.ltb;have con:=item_at h;generalize hM:commasP itemP 8 9 ts=M;have HM:Hid (bnd (itemP ts) (fun x r=>comLoopP itemP 8 9 [x] r)=M):=hM;generalize itemP ts=L at *;clear h hM;go_enter Tryz.func191,Tryz.ntmps191;go_wp2_with fail
 refine con.mono ?_;rintro e w2 ⟨hb2,hW⟩;clear con;rcases L with ce | ⟨x,rs⟩
 ·obtain ⟨rfl,us,hE⟩:=hW;have HE:Hid (RdAt w2 R tb us 0):=hE;clear hE;have e:M = .error ce:=HM.out.symm;subst e;clear HM;go_wp2_with fail
  exact ⟨rfl,Ends.err rfl hb2 HE.out⟩
 obtain ⟨v,rfl,⟨a,c,rfl,hks⟩,hR2⟩:=hW;have HL:Hid (comLoopP itemP 8 9 [x] rs=M):=HM.out;have hz2:=hb2.size;have HKA:Hid (En8 (fun b=>w.heap.size≤b) w2 x [.int .i64 x.1.k,.int .i64 x.1.v.1,.int .i64 x.1.v.2.1,.string x.1.v.2.2,.string x.1.tab,.string x.1.name,.slice a x.1.ks.length c,.string x.2]):=⟨a,c,rfl,SsS.mono (fun b h _=>by have:_≤b:=h; show _≤b; omega) hks⟩
 have hal2:Below w2.heap.size w2 (w2.alloc (.cells #[.int .i64 x.1.k,.int .i64 x.1.v.1,.int .i64 x.1.v.2.1,.string x.1.v.2.2,.string x.1.tab,.string x.1.name,.slice a x.1.ks.length c,.string x.2] 75)):=(Below.refl _ _).alloc (Nat.le_refl _) _;have HR2:Hid (RdAt (w2.alloc (.cells #[.int .i64 x.1.k,.int .i64 x.1.v.1,.int .i64 x.1.v.2.1,.string x.1.v.2.2,.string x.1.tab,.string x.1.name,.slice a x.1.ks.length c,.string x.2] 75)) R tb rs 0):=hR2.next hal2
 have HO2:Hid (OwnE En8 75 8 w.heap.size (fun b=>w.heap.size≤b) (w2.alloc (.cells #[.int .i64 x.1.k,.int .i64 x.1.v.1,.int .i64 x.1.v.2.1,.string x.1.v.2.2,.string x.1.tab,.string x.1.name,.slice a x.1.ks.length c,.string x.2] 75)) (.slice (some ⟨w2.heap.size,0,none⟩) 1 1) [x]):=OwnE.one en8 (ca:=#[.int .i64 x.1.k,.int .i64 x.1.v.1,.int .i64 x.1.v.2.1,.string x.1.v.2.2,.string x.1.tab,.string x.1.name,.slice a x.1.ks.length c,.string x.2]) HKA.out rfl (by omega)
 have hxA:BelowX R w (w2.alloc (.cells #[.int .i64 x.1.k,.int .i64 x.1.v.1,.int .i64 x.1.v.2.1,.string x.1.v.2.2,.string x.1.tab,.string x.1.name,.slice a x.1.ks.length c,.string x.2] 75)):=hb2.trans (.of hal2 (by omega));clear HM hR2 HKA hks;go_wp2_with fail
 generalize w2.alloc (.cells #[.int .i64 x.1.k,.int .i64 x.1.v.1,.int .i64 x.1.v.2.1,.string x.1.v.2.2,.string x.1.tab,.string x.1.name,.slice a x.1.ks.length c,.string x.2] 75)=wA at *;go_loopg [7] 9 (fun m ow wr=>∃ (ov:Value) (acc:List _) (us:List Tk),ov=ow∧Hid (m+acc.length=10)∧Hid (1≤acc.length∧acc.length≤8)∧Hid (comLoopP itemP 8 m acc us=M)∧BelowX R w wr∧Hid (RdAt wr R tb us 0)∧Hid (OwnE En8 75 8 w.heap.size (fun b=>w.heap.size≤b) wr ov acc))
 case atStart=>exact ⟨_,[x],rs,rfl,by show _=_; simp,by show _∧_; simp,HL,hxA,HR2,HO2⟩
 case round =>
  clear HL hxA HR2 HO2;obtain ⟨ov,acc,us,rfl,hn,hacc,HL,hx,HR,HO⟩:=hrel;obtain ⟨m,rfl⟩:∃ m,gk=m+1:=⟨gk - 1,by have:=hn.out; have:=hacc.out; omega⟩
  have hzr:=hx.size;have HL2:=HL.out;rw [comLoopP] at HL2;have con0:=took_at HR.out ⟨#[44]⟩;clear HL HR;rcases hi':isP ⟨#[44]⟩ us with _ | _
  ·rw [hi',tookP_f hi'] at con0;rw [hi',if_neg (by decide)] at HL2;subst HL2;go_wp2_with fail
   refine con0.mono ?_;rintro e w3 ⟨rfl,h3,hb3⟩;have O3:OwnE En8 75 8 w.heap.size (fun b=>w.heap.size≤b) w3 ov acc:=HO.out.keep en8 (fun _ h=>h) (hb3.k1.k (by show ¬ w.heap.size≤R; omega));obtain ⟨av,cv,rfl,hls⟩:=O3.ls en8 (fun _ h=>h);have HK:Hid (LsE En8 8 (fun b=>w.heap.size≤b) w3 av acc):=hls;have H3:Hid (RdAt w3 R tb us 0):=h3;clear O3 hls h3 HO con0;go_wp2_with fail
   refine bodyPost_ret (v:=.slice av acc.length cv) (by simp [results,Tryz.results191,go_sem]) rfl ?_;exact Ends.good rfl (hx.trans hb3) ⟨av,cv,rfl,HK.out⟩ H3.out
  ·rw [hi',tookP_t hi'] at con0;rw [hi',if_pos rfl] at HL2;have HL3:Hid ((if (acc.length:Int) ≥ 8 then .error (5,atP (passP us)) else bnd (itemP (passP us)) fun x r=>comLoopP itemP 8 m (acc ++ [x]) r)=M):=HL2;obtain ⟨a0,c0,e0⟩:=HO.out.len;clear HL2;go_wp2_with fail
   refine con0.mono ?_;rintro e w1 ⟨rfl,h1,hb1⟩;have hx1:=hx.trans hb1;have hz1:=hb1.size;have H1:Hid (RdAt w1 R tb (passP us) 0):=h1;have HO1:Hid (OwnE En8 75 8 w.heap.size (fun b=>w.heap.size≤b) w1 ov acc):=HO.out.keep en8 (fun _ h=>h) (hb1.k1.k (by show ¬ w.heap.size≤R; omega));subst e0;clear con0;by_cases hbig:(acc.length:Int) ≥ 8
   ·have con1:=room_full h1 hbig;have e:M = .error (5,atP (passP us)):=by rw [← HL3.out,if_pos hbig]
    subst e;clear HL3 h1 HO hbig;go_wp2_with fail
    refine con1.mono ?_;rintro e w5 ⟨rfl,hb5⟩;go_wp2_with fail
    exact ⟨rfl,Ends.err rfl (hx1.trans (.of hb5 (by omega))) (H1.out.next hb5)⟩
   have con1:=room_ok (w:=w1) (R:=R) (n:=(acc.length:Int)) (most:=8) (by omega);have HL4:Hid (bnd (itemP (passP us)) (fun x r=>comLoopP itemP 8 m (acc ++ [x]) r)=M):=by have:=HL3.out; rw [if_neg hbig] at this; exact this
   have HB:Hid (¬ (acc.length:Int) ≥ 8):=hbig;clear h1 HO hbig HL3;go_wp2_with fail
   refine con1.mono ?_;rintro e w5 ⟨rfl,hb5⟩;have hx5:=hx1.trans (.of hb5 (by omega));have hz5:=hb5.size;clear con1;have HO5:Hid (OwnE En8 75 8 w.heap.size (fun b=>w.heap.size≤b) w5 (.slice a0 acc.length c0) acc):=HO1.out.next en8 hb5;have hR5:=H1.out.next hb5;have con2:=item_at hR5;generalize itemP (passP us)=L at *;clear hR5 HO1 H1;go_wp2_with fail
   refine con2.mono ?_;rintro e w3 ⟨hb3,hW⟩;have hx3:=hx5.trans hb3;have hz3:=hb3.size;clear con2;rcases L with ce | ⟨x,r3⟩
   ·obtain ⟨rfl,us',hE⟩:=hW;have HE:Hid (RdAt w3 R tb us' 0):=hE;clear hE;have e:M = .error ce:=HL4.out.symm;subst e;clear HL4;go_wp2_with fail
    exact ⟨rfl,Ends.err rfl hx3 HE.out⟩
   obtain ⟨v,rfl,⟨a,c,rfl,hks⟩,hR3⟩:=hW;have HR3:Hid (RdAt w3 R tb r3 0):=hR3;have HL5:Hid (comLoopP itemP 8 m (acc ++ [x]) r3=M):=HL4.out;have hal4:Below w3.heap.size w3 (w3.alloc (.cells #[.int .i64 x.1.k,.int .i64 x.1.v.1,.int .i64 x.1.v.2.1,.string x.1.v.2.2,.string x.1.tab,.string x.1.name,.slice a x.1.ks.length c,.string x.2] 75)):=(Below.refl _ _).alloc (Nat.le_refl _) _;have q4:=heap_new w3 #[.int .i64 x.1.k,.int .i64 x.1.v.1,.int .i64 x.1.v.2.1,.string x.1.v.2.2,.string x.1.tab,.string x.1.name,.slice a x.1.ks.length c,.string x.2] 75
   have O3:OwnE En8 75 8 w.heap.size (fun b=>w.heap.size≤b) w3 (.slice a0 acc.length c0) acc:=HO5.out.keep en8 (fun _ h=>h) (hb3.k1.k (by show ¬ w.heap.size≤R; omega));have hnb:=HO5.out.lt;obtain ⟨ys,o4,en4⟩:=O3.next en8 hal4
   have HKS:Hid (En8 (fun b=>w5.heap.size≤b) (w3.alloc (.cells #[.int .i64 x.1.k,.int .i64 x.1.v.1,.int .i64 x.1.v.2.1,.string x.1.v.2.2,.string x.1.tab,.string x.1.name,.slice a x.1.ks.length c,.string x.2] 75)) x [.int .i64 x.1.k,.int .i64 x.1.v.1,.int .i64 x.1.v.2.1,.string x.1.v.2.2,.string x.1.tab,.string x.1.name,.slice a x.1.ks.length c,.string x.2]):=en8.next (Keeps'.of hal4) (⟨a,c,rfl,SsS.mono (fun b h _=>by have:_≤b:=h; show _≤b; omega) hks⟩)
   have EN4:Hid (∀ (i:Nat) (h:i<acc.length),∃ cs,cs.length=8∧(∀ j,j<8→ys[i*8+j]? = cs[j]?)∧En8 (SXb (fun b=>w.heap.size≤b) (.slice a0 acc.length c0) (w3.alloc (.cells #[.int .i64 x.1.k,.int .i64 x.1.v.1,.int .i64 x.1.v.2.1,.string x.1.v.2.2,.string x.1.tab,.string x.1.name,.slice a x.1.ks.length c,.string x.2] 75))) (w3.alloc (.cells #[.int .i64 x.1.k,.int .i64 x.1.v.1,.int .i64 x.1.v.2.1,.string x.1.v.2.2,.string x.1.tab,.string x.1.name,.slice a x.1.ks.length c,.string x.2] 75)) acc[i] cs):=en4;clear hR3 HL4 O3 en4 hks
   go_wp2_with (first | (at_builtin; refine wpList_append_at rfl _ _ 76 rfl w.heap.size 75 i0 _ 8 112 Tryz.underlying76 hi hj0 hj1 hj2 rfl (by decide) _ _ _ rfl o4 ⟨w3.heap.size,0,none⟩ 1 1 [.int .i64 x.1.k,.int .i64 x.1.v.1,.int .i64 x.1.v.2.1,.string x.1.v.2.2,.string x.1.tab,.string x.1.name,.slice a x.1.ks.length c,.string x.2] rfl rfl ?Ac1 ?Ac2 ?Ac3 ?Ac4 ?Ac5 ?_))
   case Ac1 =>
    intro i u hu;rw [addr_addS,Nat.zero_add];exact cell_of (i:=i) q4 (by rw [← hu]; simp)
   case Ac2=>intro u hu; simp at hu; rcases hu with rfl | rfl | rfl | rfl | rfl | rfl | rfl | rfl <;> rfl
   case Ac3=>unfold maxLen; have:=hacc.out; omega
   case Ac4=>have:=hacc.out; omega
   case Ac5=>have:=hal4.size; omega
   intro v' w6 o5 g5 hd5;have z5:=g5.size;have hz4:=hal4.size;have O5:Hid (OwnE En8 75 8 w.heap.size (fun b=>w.heap.size≤b) w6 v' (acc ++ [x])):=OwnE.push en8 o4 EN4.out rfl (en8.mono (fun b h1 h2=>⟨by have:w5.heap.size≤b:=h1; show w.heap.size≤b; omega,h2,fun e=>by have:=(hnb b e).2; have:w5.heap.size≤b:=h1; omega⟩) HKS.out) o5 g5 (by simpa using hd5);have D5:Below w.heap.size w3 w6:=(hal4.mono (by omega)).trans ((Below.refl _ _).grown g5 (by omega) (fun q hq=>by have:=(hnb q hq).1; omega));have hx6:BelowX R w w6:=hx3.low D5 (Nat.le_refl _) (by omega)
   have H6:Hid (RdAt w6 R tb r3 0):=HR3.out.low D5 hltR hltT;clear o4 EN4 o5 g5 hd5 HKS q4 HR3 hal4;go_wp2_with fail
   go_roundg m
   case measure=>omega
   case rel=>exact ⟨_,acc ++ [x],r3,rfl,by show _=_; have:=hn.out; simp; omega,by show _∧_; have:=hacc.out; have:=HB.out; simp; omega,HL5,hx6,H6,O5⟩
end Go.Proofs.YtoknmnngaackkaaGreatDoor
