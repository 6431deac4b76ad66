/- Together: AW, AX, AY1, AY, AYq, AZ. -/
import Derived.Deep.DeepCutAuto
import Derived.Deep.CutBlock
import Derived.Deep.WholeRow
import Derived.Laws.CopyOwn
import Derived.Test.YtklgehkhfidpmaaGreatDoorZ3
/- Rows of values. -/
namespace Go.Proofs.YtklgehkhfidpmaaGreatDoor
open Go.RowKit Go.Lib Go.Shelf
set_option maxRecDepth 100000
set_option maxHeartbeats 8000000

theorem bnd_okk {α β:Type} {x:α} {ts:List Tk} {k:α→List Tk→PR β}:bnd (.ok (x,ts)) k=k x ts:=rfl
theorem row_at {w:World} {R tb:Nat} {ts:List Tk} {o:Int} (h:RdAt w R tb ts o):Calls Tryz.prog 137 #[.pointer (some ⟨R,0,none⟩)] w (Ends R tb o w (VLs En3 3 w.heap.size) (rowP ts)):=by
 have hmf:∀ (fn:Fn) (first cap:Array Value) (w:World),(Instr.makeFunc fn first cap).run Tryz.prog w = .ok (.func fn first cap) w:=fun _ _ _ _=>rfl
 have hltR:=h.lt
 have hltT:=h.ltb
 have hx0:BelowX R w w:=BelowX.refl _ _
 have HR0:Hid (RdAt w R tb ts o):=h
 generalize hM:rowP ts=M
 unfold rowP at hM
 try dsimp only at hM
 have HM0:Hid _:=hM
 clear h hM
 go_enter Tryz.func137,Tryz.ntmps137
 have hal1:Below w.heap.size w (w.alloc (.cells #[.string ⟨#[40]⟩] 9)):=(Below.refl _ _).alloc (Nat.le_refl _) _
 have hsw3:=hx0.size
 have con2:=must_at (cap:=1) (HR0.out.next hal1) (StrAt.one w ⟨#[40]⟩ 9) (by omega) (by simp)
 have hm:=HM0.out
 generalize mustP [⟨#[40]⟩] ts=L at hm con2
 have HM8:Hid _:=hm
 clear hm HM0 HR0
 go_wp2_with fail
 generalize w.alloc (.cells #[.string ⟨#[40]⟩] 9)=wa4 at *
 refine con2.mono ?_
 rintro e w3 ⟨hb5,hW⟩
 have hxa6:BelowX R w w3:=(BelowX.of hal1 (by omega)).trans hb5
 have hx7:=hx0.trans hxa6
 clear con2 hal1 hb5
 rcases L with ce | ⟨u10,r9⟩
 ·obtain ⟨rfl,us,hE⟩:=hW
  have HE:Hid (RdAt w3 R tb us o):=hE
  clear hE
  have e:M = .error ce:=HM8.out.symm
  subst e
  clear HM8
  go_wp2_with fail
  exact ⟨rfl,Ends.err rfl hx7 HE.out⟩
 obtain ⟨v,rfl,rfl,hR⟩:=hW
 have HR11:Hid (RdAt w3 R tb r9 o):=hR
 have hm:=HM8.out
 simp only [bnd_okk] at hm
 have HM12:Hid _:=hm
 clear hm hR HM8
 have hsw14:=hx7.size
 have con13:=commasV_at HR11.out
 have hm:=HM12.out
 generalize commasP valueP 8 9 r9=L at hm con13
 have HM17:Hid _:=hm
 clear hm HM12 HR11
 go_wp2_with fail
 refine con13.mono ?_
 rintro e w14 ⟨hb15,hW⟩
 have hx16:=hx7.trans hb15
 clear con13
 rcases L with ce | ⟨l,r18⟩
 ·obtain ⟨rfl,us,hE⟩:=hW
  have HE:Hid (RdAt w14 R tb us o):=hE
  clear hE
  have e:M = .error ce:=HM17.out.symm
  subst e
  clear HM17
  go_wp2_with fail
  exact ⟨rfl,Ends.err rfl hx16 HE.out⟩
 obtain ⟨v,rfl,⟨a,c,rfl,hls⟩,hR⟩:=hW
 have HR19:Hid (RdAt w14 R tb r18 o):=hR
 have hm:=HM17.out
 simp only [bnd_okk] at hm
 have HM20:Hid _:=hm
 clear hm hR HM17
 have HK21:Hid ((EnL En3 3) (fun b=>w3.heap.size≤b) w14 l [.slice a l.length c]):=⟨a,c,rfl,hls⟩
 clear hls
 have hal22:Below w14.heap.size w14 (w14.alloc (.cells #[.string ⟨#[41]⟩] 9)):=(Below.refl _ _).alloc (Nat.le_refl _) _
 have hsw24:=hx16.size
 have con23:=must_at (cap:=1) (HR19.out.next hal22) (StrAt.one w14 ⟨#[41]⟩ 9) (by omega) (by simp)
 have hm:=HM20.out
 generalize mustP [⟨#[41]⟩] r18=L at hm con23
 have HM29:Hid _:=hm
 clear hm HM20 HR19
 go_wp2_with fail
 generalize w14.alloc (.cells #[.string ⟨#[41]⟩] 9)=wa25 at *
 refine con23.mono ?_
 rintro e w24 ⟨hb26,hW⟩
 have hxa27:BelowX R w14 w24:=(BelowX.of hal22 (by omega)).trans hb26
 have hx28:=hx16.trans hxa27
 have HK31:Hid ((EnL En3 3) (fun b=>w3.heap.size≤b) w24 l [.slice a l.length c]):=(enL en3 3).next (hxa27.k1.k (by show ¬ _≤R; omega)) HK21.out
 clear HK21
 clear con23 hal22 hb26
 rcases L with ce | ⟨u32,r30⟩
 ·obtain ⟨rfl,us,hE⟩:=hW
  have HE:Hid (RdAt w24 R tb us o):=hE
  clear hE
  have e:M = .error ce:=HM29.out.symm
  subst e
  clear HM29
  go_wp2_with fail
  exact ⟨rfl,Ends.err rfl hx28 HE.out⟩
 obtain ⟨v,rfl,rfl,hR⟩:=hW
 have HR33:Hid (RdAt w24 R tb r30 o):=hR
 have hm:=HM29.out
 simp only [bnd_okk] at hm
 have HM34:Hid _:=hm
 clear hm hR HM29
 have e:=HM34.out
 subst e
 clear HM34
 go_wp2_with fail
 refine bodyPost_ret (v:=.slice a l.length c) (by simp [results,Tryz.results137,go_sem]) rfl ?_
 obtain ⟨a',c',e',hl⟩:=HK31.out
 obtain ⟨rfl,rfl⟩:a=a'∧c=c':=by simpa using e'
 exact Ends.good rfl hx28 ⟨a,c,rfl,hl.mono en3 (fun b h _=>by have:_≤b:=h; show _≤b; omega)⟩ HR33.out
theorem infoR:(Tryz.prog.info? 62).map (fun i=>(i.zero,i.size,i.bytes))=some (some (.slice none 0 0),1,24):=by kernel_rfl
theorem commasR_at {w:World} {R tb:Nat} {ts:List Tk} {o:Int} (h:RdAt w R tb ts o):Calls Tryz.prog 136 #[.pointer (some ⟨R,0,none⟩),.int .i64 400,.func (.func 137) #[.pointer (some ⟨R,0,none⟩)] #[]] w (Ends R tb o w (VLs (EnL En3 3) 1 w.heap.size) (commasP rowP 400 401 ts)):=by
 obtain ⟨i0,hi,hj0,hj1,hj2⟩:=info_parts infoR
 have hltR:=h.lt
 have hltT:=h.ltb
 have con:=row_at h
 generalize hM:commasP rowP 400 401 ts=M
 have HM:Hid (bnd (rowP ts) (fun x r=>comLoopP rowP 400 401 [x] r)=M):=hM
 generalize rowP ts=L at *
 clear h hM
 go_enter Tryz.func136,Tryz.ntmps136
 go_wp2_with fail
 refine con.mono ?_
 rintro e w2 ⟨hb2,hW⟩
 clear con
 rcases L with ce | ⟨x,rs⟩
 ·obtain ⟨rfl,us,hE⟩:=hW
  have HE:Hid (RdAt w2 R tb us o):=hE
  clear hE
  have e:M = .error ce:=HM.out.symm
  subst e
  clear HM
  go_wp2_with fail
  exact ⟨rfl,Ends.err rfl hb2 HE.out⟩
 obtain ⟨v,rfl,⟨a,c,rfl,hks⟩,hR2⟩:=hW
 have HL:Hid (comLoopP rowP 400 401 [x] rs=M):=HM.out
 have hz2:=hb2.size
 have HKA:Hid ((EnL En3 3) (fun b=>w.heap.size≤b) w2 x [.slice a x.length c]):=⟨a,c,rfl,hks.mono en3 (fun b h _=>by have:_≤b:=h; show _≤b; omega)⟩
 have hal2:Below w2.heap.size w2 (w2.alloc (.cells #[.slice a x.length c] 62)):=(Below.refl _ _).alloc (Nat.le_refl _) _
 have HR2:Hid (RdAt (w2.alloc (.cells #[.slice a x.length c] 62)) R tb rs o):=hR2.next hal2
 have HO2:Hid (OwnE (EnL En3 3) 62 1 w.heap.size (fun b=>w.heap.size≤b) (w2.alloc (.cells #[.slice a x.length c] 62)) (.slice (some ⟨w2.heap.size,0,none⟩) 1 1) [x]):=OwnE.one (enL en3 3) (ca:=#[.slice a x.length c]) HKA.out rfl (by omega)
 have hxA:BelowX R w (w2.alloc (.cells #[.slice a x.length c] 62)):=hb2.trans (.of hal2 (by omega))
 clear HM hR2 HKA hks
 go_wp2_with fail
 generalize w2.alloc (.cells #[.slice a x.length c] 62)=wA at *
 go_loopg [7] 401 (fun m ow wr=>∃ (ov:Value) (acc:List _) (us:List Tk),ov=ow∧Hid (m+acc.length=402)∧Hid (1≤acc.length∧acc.length≤400)∧Hid (comLoopP rowP 400 m acc us=M)∧BelowX R w wr∧Hid (RdAt wr R tb us o)∧Hid (OwnE (EnL En3 3) 62 1 w.heap.size (fun b=>w.heap.size≤b) wr ov acc))
 case atStart=>exact ⟨_,[x],rs,rfl,by show _=_; simp,by show _∧_; simp,HL,hxA,HR2,HO2⟩
 case round =>
  clear HL hxA HR2 HO2
  obtain ⟨ov,acc,us,rfl,hn,hacc,HL,hx,HR,HO⟩:=hrel
  obtain ⟨m,rfl⟩:∃ m,gk=m+1:=⟨gk - 1,by have:=hn.out; have:=hacc.out; omega⟩
  have hzr:=hx.size
  have HL2:=HL.out
  rw [comLoopP] at HL2
  have con0:=took_at HR.out ⟨#[44]⟩
  clear HL HR
  rcases hi':isP ⟨#[44]⟩ us with _ | _
  ·rw [hi',tookP_f hi'] at con0
   rw [hi',if_neg (by decide)] at HL2
   subst HL2
   go_wp2_with fail
   refine con0.mono ?_
   rintro e w3 ⟨rfl,h3,hb3⟩
   have O3:OwnE (EnL En3 3) 62 1 w.heap.size (fun b=>w.heap.size≤b) w3 ov acc:=HO.out.keep (enL en3 3) (fun _ h=>h) (hb3.k1.k (by show ¬ w.heap.size≤R; omega))
   obtain ⟨av,cv,rfl,hls⟩:=O3.ls (enL en3 3) (fun _ h=>h)
   have HK:Hid (LsE (EnL En3 3) 1 (fun b=>w.heap.size≤b) w3 av acc):=hls
   have H3:Hid (RdAt w3 R tb us o):=h3
   clear O3 hls h3 HO con0
   go_wp2_with fail
   refine bodyPost_ret (v:=.slice av acc.length cv) (by simp [results,Tryz.results136,go_sem]) rfl ?_
   exact Ends.good rfl (hx.trans hb3) ⟨av,cv,rfl,HK.out⟩ H3.out
  ·rw [hi',tookP_t hi'] at con0
   rw [hi',if_pos rfl] at HL2
   have HL3:Hid ((if (acc.length:Int) ≥ 400 then .error (5,atP (passP us)) else bnd (rowP (passP us)) fun x r=>comLoopP rowP 400 m (acc ++ [x]) r)=M):=HL2
   obtain ⟨a0,c0,e0⟩:=HO.out.len
   clear HL2
   go_wp2_with fail
   refine con0.mono ?_
   rintro e w1 ⟨rfl,h1,hb1⟩
   have hx1:=hx.trans hb1
   have hz1:=hb1.size
   have H1:Hid (RdAt w1 R tb (passP us) o):=h1
   have HO1:Hid (OwnE (EnL En3 3) 62 1 w.heap.size (fun b=>w.heap.size≤b) w1 ov acc):=HO.out.keep (enL en3 3) (fun _ h=>h) (hb1.k1.k (by show ¬ w.heap.size≤R; omega))
   subst e0
   clear con0
   by_cases hbig:(acc.length:Int) ≥ 400
   ·have con1:=room_full h1 hbig
    have e:M = .error (5,atP (passP us)):=by rw [← HL3.out,if_pos hbig]
    subst e
    clear HL3 h1 HO hbig
    go_wp2_with fail
    refine con1.mono ?_
    rintro e w5 ⟨rfl,hb5⟩
    go_wp2_with fail
    exact ⟨rfl,Ends.err rfl (hx1.trans (.of hb5 (by omega))) (H1.out.next hb5)⟩
   have con1:=room_ok (w:=w1) (R:=R) (n:=(acc.length:Int)) (most:=400) (by omega)
   have HL4:Hid (bnd (rowP (passP us)) (fun x r=>comLoopP rowP 400 m (acc ++ [x]) r)=M):=by have:=HL3.out; rw [if_neg hbig] at this; exact this
   have HB:Hid (¬ (acc.length:Int) ≥ 400):=hbig
   clear h1 HO hbig HL3
   go_wp2_with fail
   refine con1.mono ?_
   rintro e w5 ⟨rfl,hb5⟩
   have hx5:=hx1.trans (.of hb5 (by omega))
   have hz5:=hb5.size
   clear con1
   have HO5:Hid (OwnE (EnL En3 3) 62 1 w.heap.size (fun b=>w.heap.size≤b) w5 (.slice a0 acc.length c0) acc):=HO1.out.next (enL en3 3) hb5
   have hR5:=H1.out.next hb5
   have con2:=row_at hR5
   generalize rowP (passP us)=L at *
   clear hR5 HO1 H1
   go_wp2_with fail
   refine con2.mono ?_
   rintro e w3 ⟨hb3,hW⟩
   have hx3:=hx5.trans hb3
   have hz3:=hb3.size
   clear con2
   rcases L with ce | ⟨x,r3⟩
   ·obtain ⟨rfl,us',hE⟩:=hW
    have HE:Hid (RdAt w3 R tb us' o):=hE
    clear hE
    have e:M = .error ce:=HL4.out.symm
    subst e
    clear HL4
    go_wp2_with fail
    exact ⟨rfl,Ends.err rfl hx3 HE.out⟩
   obtain ⟨v,rfl,⟨a,c,rfl,hks⟩,hR3⟩:=hW
   have HR3:Hid (RdAt w3 R tb r3 o):=hR3
   have HL5:Hid (comLoopP rowP 400 m (acc ++ [x]) r3=M):=HL4.out
   have hal4:Below w3.heap.size w3 (w3.alloc (.cells #[.slice a x.length c] 62)):=(Below.refl _ _).alloc (Nat.le_refl _) _
   have q4:=heap_new w3 #[.slice a x.length c] 62
   have O3:OwnE (EnL En3 3) 62 1 w.heap.size (fun b=>w.heap.size≤b) w3 (.slice a0 acc.length c0) acc:=HO5.out.keep (enL en3 3) (fun _ h=>h) (hb3.k1.k (by show ¬ w.heap.size≤R; omega))
   have hnb:=HO5.out.lt
   obtain ⟨ys,o4,en4⟩:=O3.next (enL en3 3) hal4
   have HKS:Hid ((EnL En3 3) (fun b=>w5.heap.size≤b) (w3.alloc (.cells #[.slice a x.length c] 62)) x [.slice a x.length c]):=(enL en3 3).next (Keeps'.of hal4) (⟨a,c,rfl,hks.mono en3 (fun b h _=>by have:_≤b:=h; show _≤b; omega)⟩)
   have EN4:Hid (∀ (i:Nat) (h:i<acc.length),∃ cs,cs.length=1∧(∀ j,j<1→ys[i*1+j]? = cs[j]?)∧(EnL En3 3) (SXb (fun b=>w.heap.size≤b) (.slice a0 acc.length c0) (w3.alloc (.cells #[.slice a x.length c] 62))) (w3.alloc (.cells #[.slice a x.length c] 62)) acc[i] cs):=en4
   clear hR3 HL4 O3 en4 hks
   go_wp2_with (first | (at_builtin; refine wpList_append_at rfl _ _ 43 rfl w.heap.size 62 i0 _ 1 24 Tryz.underlying43 hi hj0 hj1 hj2 rfl (by decide) _ _ _ rfl o4 ⟨w3.heap.size,0,none⟩ 1 1 [.slice a x.length c] rfl rfl ?Ac1 ?Ac2 ?Ac3 ?Ac4 ?Ac5 ?_))
   case Ac1 =>
    intro i u hu
    rw [addr_addS,Nat.zero_add]
    exact cell_of (i:=i) q4 (by rw [← hu]; simp)
   case Ac2=>intro u hu; simp at hu; subst hu; rfl
   case Ac3=>unfold maxLen; have:=hacc.out; omega
   case Ac4=>have:=hacc.out; omega
   case Ac5=>have:=hal4.size; omega
   intro v' w6 o5 g5 hd5
   have z5:=g5.size
   have hz4:=hal4.size
   have O5:Hid (OwnE (EnL En3 3) 62 1 w.heap.size (fun b=>w.heap.size≤b) w6 v' (acc ++ [x])):=OwnE.push (enL en3 3) o4 EN4.out rfl ((enL en3 3).mono (fun b h1 h2=>⟨by have:w5.heap.size≤b:=h1; show w.heap.size≤b; omega,h2,fun e=>by have:=(hnb b e).2; have:w5.heap.size≤b:=h1; omega⟩) HKS.out) o5 g5 (by simpa using hd5)
   have D5:Below w.heap.size w3 w6:=(hal4.mono (by omega)).trans ((Below.refl _ _).grown g5 (by omega) (fun q hq=>by have:=(hnb q hq).1; omega))
   have hx6:BelowX R w w6:=hx3.low D5 (Nat.le_refl _) (by omega)
   have H6:Hid (RdAt w6 R tb r3 o):=HR3.out.low D5 hltR hltT
   clear o4 EN4 o5 g5 hd5 HKS q4 HR3 hal4
   go_wp2_with fail
   go_roundg m
   case measure=>omega
   case rel=>exact ⟨_,acc ++ [x],r3,rfl,by show _=_; have:=hn.out; simp; omega,by show _∧_; have:=hacc.out; have:=HB.out; simp; omega,HL5,hx6,H6,O5⟩

def En10:EnT Src:=fun S W x cs=>∃ a c,cs = [.int .i64 x.kind,.string x.name,.string x.alias,.int .i64 x.on.k,.int .i64 x.on.v.1,.int .i64 x.on.v.2.1,.string x.on.v.2.2,.string x.on.tab,.string x.on.name,.slice a x.on.ks.length c]∧SsS S W a x.on.ks
theorem en10:EnOk En10:=⟨fun hk ⟨a,c,e,h⟩=>⟨a,c,e,h.keep hk⟩,fun hs ⟨a,c,e,h⟩=>⟨a,c,e,SsS.mono hs h⟩⟩
def srcK (m:Nat) (acc:List Src) (kind:Int) (r:List Tk):PR (List Src):=if kind=0 then .ok (acc,r) else if (acc.length:Int) ≥ 4 then .error (5,atP r) else
 bnd (sourceP kind r) fun s r2=>bnd (mustP [⟨#[111,110]⟩] r2) fun _ r3=>bnd (eP r3) fun x r4=>sourcesLoopP m (acc ++ [{ s with on:=x }]) r4
theorem sources_succ (m:Nat) (acc:List Src) (ts:List Tk):sourcesLoopP (m+1) acc ts=bnd (joinedP ts) (fun kind r=>srcK m acc kind r):=rfl
theorem infoS:(Tryz.prog.info? 96).map (fun i=>(i.zero,i.size,i.bytes))=some (some (.agg #[.int .i64 0,.string ⟨#[]⟩,.string ⟨#[]⟩,.int .i64 0,.int .i64 0,.int .i64 0,.string ⟨#[]⟩,.string ⟨#[]⟩,.string ⟨#[]⟩,.slice none 0 0]),10,136):=by kernel_rfl
theorem st10o3k7 {W:World} {g:Nat} {T:TypeId} {c0 c1 c2 c3 c4 c5 c6 c7 c8 c9:Value} (h:W.heap[g]? = some (.cells #[c0,c1,c2,c3,c4,c5,c6,c7,c8,c9] T (0,0))) (v0 v1 v2 v3 v4 v5 v6:Value):(((((((W.setCell ⟨g,3,none⟩ v0).setCell ⟨g,4,none⟩ v1).setCell ⟨g,5,none⟩ v2).setCell ⟨g,6,none⟩ v3).setCell ⟨g,7,none⟩ v4).setCell ⟨g,8,none⟩ v5).setCell ⟨g,9,none⟩ v6).heap[g]? = some (.cells #[c0,c1,c2,v0,v1,v2,v3,v4,v5,v6] T (0,0))∧Keeps1 g W (((((((W.setCell ⟨g,3,none⟩ v0).setCell ⟨g,4,none⟩ v1).setCell ⟨g,5,none⟩ v2).setCell ⟨g,6,none⟩ v3).setCell ⟨g,7,none⟩ v4).setCell ⟨g,8,none⟩ v5).setCell ⟨g,9,none⟩ v6)∧(∀ {R:Nat} {w:World},BelowX R w W→w.heap.size≤g→R<w.heap.size→BelowX R w (((((((W.setCell ⟨g,3,none⟩ v0).setCell ⟨g,4,none⟩ v1).setCell ⟨g,5,none⟩ v2).setCell ⟨g,6,none⟩ v3).setCell ⟨g,7,none⟩ v4).setCell ⟨g,8,none⟩ v5).setCell ⟨g,9,none⟩ v6)):=by
 refine ⟨?_,((((((((Keeps1.refl _ _).set 3 v0).set 4 v1).set 5 v2).set 6 v3).set 7 v4).set 8 v5).set 9 v6),fun hb hg hr=>(((((((hb.setNew g 3 v0 hg (Nat.le_of_lt hr)).setNew g 4 v1 hg (Nat.le_of_lt hr)).setNew g 5 v2 hg (Nat.le_of_lt hr)).setNew g 6 v3 hg (Nat.le_of_lt hr)).setNew g 7 v4 hg (Nat.le_of_lt hr)).setNew g 8 v5 hg (Nat.le_of_lt hr)).setNew g 9 v6 hg (Nat.le_of_lt hr))⟩
 have h:(W.setCell ⟨g,3,none⟩ v0).heap[g]? = some (.cells #[c0,c1,c2,v0,c4,c5,c6,c7,c8,c9] T (0,0)):=heap_setCell_same W g 3 _ _ v0 h
 generalize W.setCell ⟨g,3,none⟩ v0=W0 at h ⊢
 have h:(W0.setCell ⟨g,4,none⟩ v1).heap[g]? = some (.cells #[c0,c1,c2,v0,v1,c5,c6,c7,c8,c9] T (0,0)):=heap_setCell_same W0 g 4 _ _ v1 h
 generalize W0.setCell ⟨g,4,none⟩ v1=W1 at h ⊢
 have h:(W1.setCell ⟨g,5,none⟩ v2).heap[g]? = some (.cells #[c0,c1,c2,v0,v1,v2,c6,c7,c8,c9] T (0,0)):=heap_setCell_same W1 g 5 _ _ v2 h
 generalize W1.setCell ⟨g,5,none⟩ v2=W2 at h ⊢
 have h:(W2.setCell ⟨g,6,none⟩ v3).heap[g]? = some (.cells #[c0,c1,c2,v0,v1,v2,v3,c7,c8,c9] T (0,0)):=heap_setCell_same W2 g 6 _ _ v3 h
 generalize W2.setCell ⟨g,6,none⟩ v3=W3 at h ⊢
 have h:(W3.setCell ⟨g,7,none⟩ v4).heap[g]? = some (.cells #[c0,c1,c2,v0,v1,v2,v3,v4,c8,c9] T (0,0)):=heap_setCell_same W3 g 7 _ _ v4 h
 generalize W3.setCell ⟨g,7,none⟩ v4=W4 at h ⊢
 have h:(W4.setCell ⟨g,8,none⟩ v5).heap[g]? = some (.cells #[c0,c1,c2,v0,v1,v2,v3,v4,v5,c9] T (0,0)):=heap_setCell_same W4 g 8 _ _ v5 h
 generalize W4.setCell ⟨g,8,none⟩ v5=W5 at h ⊢
 have h:(W5.setCell ⟨g,9,none⟩ v6).heap[g]? = some (.cells #[c0,c1,c2,v0,v1,v2,v3,v4,v5,v6] T (0,0)):=heap_setCell_same W5 g 9 _ _ v6 h
 generalize W5.setCell ⟨g,9,none⟩ v6=W6 at h ⊢
 exact h
theorem sources_at {w:World} {R tb:Nat} {ts:List Tk} (h:RdAt w R tb ts 0):Calls Tryz.prog 163 #[.pointer (some ⟨R,0,none⟩)] w (Ends R tb 0 w (VLs En10 10 w.heap.size) (sourcesP ts)):=by
 have hmf:∀ (fn:Fn) (first cap:Array Value) (w:World),(Instr.makeFunc fn first cap).run Tryz.prog w = .ok (.func fn first cap) w:=fun _ _ _ _=>rfl
 have hltR:=h.lt
 have hltT:=h.ltb
 have hx0:BelowX R w w:=BelowX.refl _ _
 have HR0:Hid (RdAt w R tb ts 0):=h
 generalize hM:sourcesP ts=M
 unfold sourcesP at hM
 try dsimp only at hM
 have HM0:Hid _:=hM
 clear h hM
 go_enter Tryz.func163,Tryz.ntmps163
 obtain ⟨i0,hi,hj0,hj1,hj2⟩:=info_parts infoS
 have hsw2:=hx0.size
 have con1:=source_at HR0.out 1
 have hm:=HM0.out
 generalize sourceP 1 ts=L at hm con1
 have HM5:Hid _:=hm
 clear hm HM0 HR0
 go_wp2_with fail
 refine con1.mono ?_
 rintro e w2 ⟨hb3,hW⟩
 have hx4:=hx0.trans hb3
 clear con1
 rcases L with ce | ⟨s0,r6⟩
 ·obtain ⟨rfl,us,hE⟩:=hW
  have HE:Hid (RdAt w2 R tb us 0):=hE
  clear hE
  have e:M = .error ce:=HM5.out.symm
  subst e
  clear HM5
  go_wp2_with fail
  exact ⟨rfl,Ends.err rfl hx4 HE.out⟩
 obtain ⟨v,rfl,⟨hon,rfl⟩,hR⟩:=hW
 have HR7:Hid (RdAt w2 R tb r6 0):=hR
 have hm:=HM5.out
 simp only [bnd_okk] at hm
 have HM8:Hid _:=hm
 clear hm hR HM5
 have HKA:Hid (En10 (fun b=>w.heap.size≤b) w2 s0 [.int .i64 s0.kind,.string s0.name,.string s0.alias,.int .i64 0,.int .i64 0,.int .i64 0,.string ⟨#[]⟩,.string ⟨#[]⟩,.string ⟨#[]⟩,.slice none 0 0]):=⟨none,0,by rw [hon]; rfl,by rw [hon]; exact SsS.nil _⟩
 have hal2:Below w2.heap.size w2 (w2.alloc (.cells #[.int .i64 s0.kind,.string s0.name,.string s0.alias,.int .i64 0,.int .i64 0,.int .i64 0,.string ⟨#[]⟩,.string ⟨#[]⟩,.string ⟨#[]⟩,.slice none 0 0] 96)):=(Below.refl _ _).alloc (Nat.le_refl _) _
 have hsz2:=hx4.size
 have HR2:Hid (RdAt (w2.alloc (.cells #[.int .i64 s0.kind,.string s0.name,.string s0.alias,.int .i64 0,.int .i64 0,.int .i64 0,.string ⟨#[]⟩,.string ⟨#[]⟩,.string ⟨#[]⟩,.slice none 0 0] 96)) R tb r6 0):=HR7.out.next hal2
 have HO2:Hid (OwnE En10 96 10 w.heap.size (fun b=>w.heap.size≤b) (w2.alloc (.cells #[.int .i64 s0.kind,.string s0.name,.string s0.alias,.int .i64 0,.int .i64 0,.int .i64 0,.string ⟨#[]⟩,.string ⟨#[]⟩,.string ⟨#[]⟩,.slice none 0 0] 96)) (.slice (some ⟨w2.heap.size,0,none⟩) 1 1) [s0]):=OwnE.one en10 (ca:=#[.int .i64 s0.kind,.string s0.name,.string s0.alias,.int .i64 0,.int .i64 0,.int .i64 0,.string ⟨#[]⟩,.string ⟨#[]⟩,.string ⟨#[]⟩,.slice none 0 0]) HKA.out rfl (by omega)
 have hxA:BelowX R w (w2.alloc (.cells #[.int .i64 s0.kind,.string s0.name,.string s0.alias,.int .i64 0,.int .i64 0,.int .i64 0,.string ⟨#[]⟩,.string ⟨#[]⟩,.string ⟨#[]⟩,.slice none 0 0] 96)):=hx4.trans (.of hal2 (by omega))
 clear HR7 HKA
 have con2:=joined_at HR2.out
 have hm:=HM8.out
 rw [sources_succ] at hm
 generalize joinedP r6=L at hm con2
 have HMJ:Hid _:=hm
 clear hm HM8 HR2
 go_wp2_with fail
 generalize w2.alloc (.cells #[.int .i64 s0.kind,.string s0.name,.string s0.alias,.int .i64 0,.int .i64 0,.int .i64 0,.string ⟨#[]⟩,.string ⟨#[]⟩,.string ⟨#[]⟩,.slice none 0 0] 96)=wA at *
 refine con2.mono ?_
 rintro e w9 ⟨hb9,hW⟩
 have hx9:=hxA.trans hb9
 have HO9:Hid (OwnE En10 96 10 w.heap.size (fun b=>w.heap.size≤b) w9 (.slice (some ⟨w2.heap.size,0,none⟩) 1 1) [s0]):=HO2.out.keep en10 (fun _ h=>h) (hb9.k1.k (by show ¬ w.heap.size≤R; omega))
 clear con2 HO2
 rcases L with ce | ⟨kd,r9⟩
 ·obtain ⟨rfl,us,hE⟩:=hW
  have HE:Hid (RdAt w9 R tb us 0):=hE
  clear hE
  have e:M = .error ce:=HMJ.out.symm
  subst e
  clear HMJ
  go_wp2_with fail
  exact ⟨rfl,Ends.err rfl hx9 HE.out⟩
 obtain ⟨v,rfl,rfl,hR⟩:=hW
 have HR9:Hid (RdAt w9 R tb r9 0):=hR
 have hm:=HMJ.out
 simp only [bnd_okk] at hm
 have HM10:Hid _:=hm
 clear hm hR HMJ
 go_wp2_with fail
 go_loopg [3,4] 4 (fun m ow kv wr=>∃ (ov:Value) (acc:List Src) (us:List Tk) (kind:Int),ov=ow∧kv = .int .i64 kind∧Hid (m+acc.length=5)∧Hid (1≤acc.length∧acc.length≤4)∧Hid (srcK m acc kind us=M)∧BelowX R w wr∧Hid (RdAt wr R tb us 0)∧Hid (OwnE En10 96 10 w.heap.size (fun b=>w.heap.size≤b) wr ov acc))
 case atStart=>exact ⟨_,[s0],r9,kd,rfl,rfl,by show _=_; simp,by show _∧_; simp,HM10,hx9,HR9,HO9⟩
 case round =>
  clear HM10 hx9 HR9 HO9
  obtain ⟨ov,acc,us,kind,rfl,rfl,hn,hacc,HL,hxr,HRr,HO⟩:=hrel
  have hzr:=hxr.size
  have hL:=HL.out
  rw [srcK] at hL
  by_cases hk0:kind=0
  ·have hkb:(kind != 0)=false:=by simpa using hk0
   rw [if_pos hk0] at hL
   subst hL
   obtain ⟨av,cv,rfl,hls⟩:=HO.out.ls en10 (fun _ h=>h)
   have HK:Hid (LsE En10 10 (fun b=>w.heap.size≤b) wr av acc):=hls
   clear HL hls HO hk0
   go_wp2_with fail
   refine bodyPost_ret (v:=.slice av acc.length cv) (by simp [results,Tryz.results163,go_sem]) rfl ?_
   exact Ends.good rfl hxr ⟨av,cv,rfl,HK.out⟩ HRr.out
  have hkb:(kind != 0)=true:=by simpa using hk0
  rw [if_neg hk0] at hL
  obtain ⟨a0,c0,e0⟩:=HO.out.len
  subst e0
  by_cases hbig:(acc.length:Int) ≥ 4
  ·have con1:=room_full HRr.out hbig
   rw [if_pos hbig] at hL
   subst hL
   clear HL HO hbig hk0
   go_wp2_with fail
   refine con1.mono ?_
   rintro e w5 ⟨rfl,hb5⟩
   go_wp2_with fail
   exact ⟨rfl,Ends.err rfl (hxr.trans (.of hb5 (by omega))) (HRr.out.next hb5)⟩
  have con1:=room_ok (w:=wr) (R:=R) (n:=(acc.length:Int)) (most:=4) (by omega)
  rw [if_neg hbig] at hL
  have HM1:Hid _:=hL
  have HB:Hid (¬ (acc.length:Int) ≥ 4):=hbig
  clear HL hL hbig hk0
  go_wp2_with fail
  refine con1.mono ?_
  rintro e w5 ⟨rfl,hb5⟩
  have hx5:BelowX R wr w5:=.of hb5 (by omega)
  have HR5:Hid (RdAt w5 R tb us 0):=HRr.out.next hb5
  clear con1 HRr
  have hsw12:=hx5.size
  have con11:=source_at HR5.out kind
  have hm:=HM1.out
  generalize sourceP kind us=L at hm con11
  have HM15:Hid _:=hm
  clear hm HM1 HR5
  go_wp2_with fail
  refine con11.mono ?_
  rintro e w12 ⟨hb13,hW⟩
  have hx14:=hx5.trans hb13
  clear con11
  rcases L with ce | ⟨s,r16⟩
  ·obtain ⟨rfl,us,hE⟩:=hW
   have HE:Hid (RdAt w12 R tb us 0):=hE
   clear hE
   have e:M = .error ce:=HM15.out.symm
   subst e
   clear HM15
   go_wp2_with fail
   exact ⟨rfl,Ends.err rfl (hxr.trans hx14) HE.out⟩
  obtain ⟨v,rfl,⟨hon,rfl⟩,hR⟩:=hW
  have HR17:Hid (RdAt w12 R tb r16 0):=hR
  have hm:=HM15.out
  simp only [bnd_okk] at hm
  have HM18:Hid _:=hm
  clear hm hR HM15
  go_upto_region 7 with fail
  have hal19:Below w12.heap.size w12 (w12.alloc (.cells #[.int .i64 s.kind,.string s.name,.string s.alias,.int .i64 0,.int .i64 0,.int .i64 0,.string ⟨#[]⟩,.string ⟨#[]⟩,.string ⟨#[]⟩,.slice none 0 0] 96)):=(Below.refl _ _).alloc (Nat.le_refl _) _
  have Q20:=heap_new w12 #[.int .i64 s.kind,.string s.name,.string s.alias,.int .i64 0,.int .i64 0,.int .i64 0,.string ⟨#[]⟩,.string ⟨#[]⟩,.string ⟨#[]⟩,.slice none 0 0] 96
  have hsw21:=hx14.size
  generalize w12.alloc (.cells #[.int .i64 s.kind,.string s.name,.string s.alias,.int .i64 0,.int .i64 0,.int .i64 0,.string ⟨#[]⟩,.string ⟨#[]⟩,.string ⟨#[]⟩,.slice none 0 0] 96)=w21 at *
  have hx22:BelowX R wr w21:=hx14.trans (.of hal19 (by omega))
  have HR23:Hid (RdAt w21 R tb r16 0):=HR17.out.next hal19
  clear HR17
  have hal24:Below w21.heap.size w21 (w21.alloc (.cells #[.string ⟨#[111,110]⟩] 9)):=(Below.refl _ _).alloc (Nat.le_refl _) _
  have hsw26:=hx22.size
  have con25:=must_at (cap:=1) (HR23.out.next hal24) (StrAt.one w21 ⟨#[111,110]⟩ 9) (by omega) (by simp)
  have hm:=HM18.out
  generalize mustP [⟨#[111,110]⟩] r16=L at hm con25
  have HM31:Hid _:=hm
  clear hm HM18 HR23
  go_wp2_with fail
  generalize w21.alloc (.cells #[.string ⟨#[111,110]⟩] 9)=wa27 at *
  refine con25.mono ?_
  rintro e w26 ⟨hb28,hW⟩
  have hxa29:BelowX R w21 w26:=(BelowX.of hal24 (by omega)).trans hb28
  have hx30:=hx22.trans hxa29
  have Q33:=(hxa29.2 _ (lt_of_heap Q20) (by omega)).trans Q20
  clear Q20
  clear con25 hal24 hb28
  rcases L with ce | ⟨u34,r32⟩
  ·obtain ⟨rfl,us,hE⟩:=hW
   have HE:Hid (RdAt w26 R tb us 0):=hE
   clear hE
   have e:M = .error ce:=HM31.out.symm
   subst e
   clear HM31
   go_wp2_with fail
   exact ⟨rfl,Ends.err rfl (hxr.trans hx30) HE.out⟩
  obtain ⟨v,rfl,rfl,hR⟩:=hW
  have HR35:Hid (RdAt w26 R tb r32 0):=hR
  have hm:=HM31.out
  simp only [bnd_okk] at hm
  have HM36:Hid _:=hm
  clear hm hR HM31
  have hsw38:=hx30.size
  have con37:=eP_at HR35.out
  have hm:=HM36.out
  generalize eP r32=L at hm con37
  have HM41:Hid _:=hm
  clear hm HM36 HR35
  have hlw38_0:=lt_of_heap Q33
  go_wp2_with fail
  refine con37.mono ?_
  rintro e w38 ⟨hb39,hW⟩
  have hx40:=hx30.trans hb39
  have Q43:=(hb39.2 _ (lt_of_heap Q33) (by omega)).trans Q33
  clear Q33
  clear con37
  rcases L with ce | ⟨x,r42⟩
  ·obtain ⟨rfl,us,hE⟩:=hW
   have HE:Hid (RdAt w38 R tb us 0):=hE
   clear hE
   have e:M = .error ce:=HM41.out.symm
   subst e
   clear HM41
   go_wp2_with fail
   exact ⟨rfl,Ends.err rfl (hxr.trans hx40) HE.out⟩
  obtain ⟨v,rfl,⟨a,c,rfl,hks⟩,hR⟩:=hW
  have HR44:Hid (RdAt w38 R tb r42 0):=hR
  have hm:=HM41.out
  simp only [bnd_okk] at hm
  have HM45:Hid _:=hm
  clear hm hR HM41
  have HK46:Hid (En7 (fun b=>w26.heap.size≤b) w38 x [.int .i64 x.k,.int .i64 x.v.1,.int .i64 x.v.2.1,.string x.v.2.2,.string x.tab,.string x.name,.slice a x.ks.length c]):=⟨a,c,rfl,hks⟩
  clear hks
  have z47:w38.cell? ⟨w12.heap.size,3,none⟩=some (.int .i64 0):=cell_of (i:=3) Q43 rfl
  have z47f:=frozen_of_row w38 w12.heap.size 3 _ _ Q43
  have z48:w38.cell? ⟨w12.heap.size,4,none⟩=some (.int .i64 0):=cell_of (i:=4) Q43 rfl
  have z48f:=frozen_of_row w38 w12.heap.size 4 _ _ Q43
  have z49:w38.cell? ⟨w12.heap.size,5,none⟩=some (.int .i64 0):=cell_of (i:=5) Q43 rfl
  have z49f:=frozen_of_row w38 w12.heap.size 5 _ _ Q43
  have z50:w38.cell? ⟨w12.heap.size,6,none⟩=some (.string ⟨#[]⟩):=cell_of (i:=6) Q43 rfl
  have z50f:=frozen_of_row w38 w12.heap.size 6 _ _ Q43
  have z51:w38.cell? ⟨w12.heap.size,7,none⟩=some (.string ⟨#[]⟩):=cell_of (i:=7) Q43 rfl
  have z51f:=frozen_of_row w38 w12.heap.size 7 _ _ Q43
  have z52:w38.cell? ⟨w12.heap.size,8,none⟩=some (.string ⟨#[]⟩):=cell_of (i:=8) Q43 rfl
  have z52f:=frozen_of_row w38 w12.heap.size 8 _ _ Q43
  have z53:w38.cell? ⟨w12.heap.size,9,none⟩=some (.slice none 0 0):=cell_of (i:=9) Q43 rfl
  have z53f:=frozen_of_row w38 w12.heap.size 9 _ _ Q43
  go_upto_region 9 with fail
  obtain ⟨Q58,hk55,hbx⟩:=st10o3k7 Q43 (.int .i64 x.k) (.int .i64 x.v.1) (.int .i64 x.v.2.1) (.string x.v.2.2) (.string x.tab) (.string x.name) (.slice a x.ks.length c)
  have hsw54:=hx40.size
  have hslw54:=lt_of_heap Q43
  have hx56:=hbx hx40 (by omega) (by omega)
  clear hbx z47 z47f z48 z48f z49 z49f z50 z50f z51 z51f z52 z52f z53 z53f
  generalize (((((((w38.setCell ⟨w12.heap.size,3,none⟩ (.int .i64 x.k)).setCell ⟨w12.heap.size,4,none⟩ (.int .i64 x.v.1)).setCell ⟨w12.heap.size,5,none⟩ (.int .i64 x.v.2.1)).setCell ⟨w12.heap.size,6,none⟩ (.string x.v.2.2)).setCell ⟨w12.heap.size,7,none⟩ (.string x.tab)).setCell ⟨w12.heap.size,8,none⟩ (.string x.name)).setCell ⟨w12.heap.size,9,none⟩ (.slice a x.ks.length c))=w54 at *
  have HK59:Hid (En7 (fun b=>w26.heap.size≤b) w54 x [.int .i64 x.k,.int .i64 x.v.1,.int .i64 x.v.2.1,.string x.v.2.2,.string x.tab,.string x.name,.slice a x.ks.length c]):=en7.next (hk55.k (by show ¬ _≤w12.heap.size; omega)) HK46.out
  clear HK46
  clear Q43
  have HR57:Hid (RdAt w54 R tb r42 0):=HR44.out.k1 hk55 (by omega) (by omega) (by have:=HR44.out.r2; omega)
  clear HR44
  obtain ⟨z0,z1,z2,z3,z4,z5,z6,z7,z8,z9⟩:=cells10 Q58
  have hsz:=hx56.size
  have hal4:Below w54.heap.size w54 (w54.alloc (.cells #[.int .i64 s.kind,.string s.name,.string s.alias,.int .i64 x.k,.int .i64 x.v.1,.int .i64 x.v.2.1,.string x.v.2.2,.string x.tab,.string x.name,.slice a x.ks.length c] 96)):=(Below.refl _ _).alloc (Nat.le_refl _) _
  have q4:=heap_new w54 #[.int .i64 s.kind,.string s.name,.string s.alias,.int .i64 x.k,.int .i64 x.v.1,.int .i64 x.v.2.1,.string x.v.2.2,.string x.tab,.string x.name,.slice a x.ks.length c] 96
  have O3:OwnE En10 96 10 w.heap.size (fun b=>w.heap.size≤b) w54 (.slice a0 acc.length c0) acc:=HO.out.keep en10 (fun _ h=>h) (hx56.k1.k (by show ¬ w.heap.size≤R; omega))
  have hnb:=HO.out.lt
  obtain ⟨ys,o4,en4⟩:=O3.next en10 hal4
  have HKS:Hid (En10 (fun b=>wr.heap.size≤b) (w54.alloc (.cells #[.int .i64 s.kind,.string s.name,.string s.alias,.int .i64 x.k,.int .i64 x.v.1,.int .i64 x.v.2.1,.string x.v.2.2,.string x.tab,.string x.name,.slice a x.ks.length c] 96)) { s with on:=x } [.int .i64 s.kind,.string s.name,.string s.alias,.int .i64 x.k,.int .i64 x.v.1,.int .i64 x.v.2.1,.string x.v.2.2,.string x.tab,.string x.name,.slice a x.ks.length c]):=⟨a,c,rfl,by
   obtain ⟨a',c',e',hl⟩:=en7.next (Keeps'.of hal4) HK59.out
   obtain ⟨rfl,rfl⟩:a=a'∧c=c':=by simpa [sxL] using e'
   exact SsS.mono (fun b h _=>by have:_≤b:=h; show _≤b; omega) hl⟩
  have EN4:Hid (∀ (i:Nat) (h:i<acc.length),∃ cs,cs.length=10∧(∀ j,j<10→ys[i*10+j]? = cs[j]?)∧En10 (SXb (fun b=>w.heap.size≤b) (.slice a0 acc.length c0) (w54.alloc (.cells #[.int .i64 s.kind,.string s.name,.string s.alias,.int .i64 x.k,.int .i64 x.v.1,.int .i64 x.v.2.1,.string x.v.2.2,.string x.tab,.string x.name,.slice a x.ks.length c] 96))) (w54.alloc (.cells #[.int .i64 s.kind,.string s.name,.string s.alias,.int .i64 x.k,.int .i64 x.v.1,.int .i64 x.v.2.1,.string x.v.2.2,.string x.tab,.string x.name,.slice a x.ks.length c] 96)) acc[i] cs):=en4
  have hm:=HM45.out
  have HL5:Hid (sourcesLoopP gk (acc ++ [{ s with on:=x }]) r42=M):=hm
  clear O3 en4 hm HM45 Q58
  go_wp2_with (first | (at_builtin; refine wpList_append_at rfl _ _ 53 rfl w.heap.size 96 i0 _ 10 136 Tryz.underlying53 hi hj0 hj1 hj2 rfl (by decide) _ _ _ rfl o4 ⟨w54.heap.size,0,none⟩ 1 1 [.int .i64 s.kind,.string s.name,.string s.alias,.int .i64 x.k,.int .i64 x.v.1,.int .i64 x.v.2.1,.string x.v.2.2,.string x.tab,.string x.name,.slice a x.ks.length c] rfl rfl ?Ac1 ?Ac2 ?Ac3 ?Ac4 ?Ac5 ?_))
  case Ac1 =>
   intro i u hu
   rw [addr_addS,Nat.zero_add]
   exact cell_of (i:=i) q4 (by rw [← hu]; simp)
  case Ac2=>intro u hu; simp at hu; rcases hu with rfl | rfl | rfl | rfl | rfl | rfl | rfl | rfl | rfl | rfl <;> rfl
  case Ac3=>unfold maxLen; have:=hacc.out; omega
  case Ac4=>have:=hacc.out; omega
  case Ac5=>have:=hal4.size; omega
  intro v' w6 o5 g5 hd5
  have z5:=g5.size
  have hz4:=hal4.size
  have O5:Hid (OwnE En10 96 10 w.heap.size (fun b=>w.heap.size≤b) w6 v' (acc ++ [{ s with on:=x }])):=OwnE.push en10 o4 EN4.out rfl (en10.mono (fun b h1 h2=>⟨by have:wr.heap.size≤b:=h1; show w.heap.size≤b; omega,h2,fun e=>by have:=(hnb b e).2; have:wr.heap.size≤b:=h1; omega⟩) HKS.out) o5 g5 (by simpa using hd5)
  have D5:Below w.heap.size w54 w6:=(hal4.mono (by omega)).trans ((Below.refl _ _).grown g5 (by omega) (fun q hq=>by have:=(hnb q hq).1; omega))
  have hx6:BelowX R w w6:=(hxr.trans hx56).low D5 (Nat.le_refl _) (by omega)
  have hR6:=HR57.out.low D5 hltR hltT
  obtain ⟨m,rfl⟩:∃ m,gk=m+1:=⟨gk - 1,by have:=hn.out; have:=hacc.out; omega⟩
  have con7:=joined_at hR6
  have hm:=HL5.out
  rw [sources_succ] at hm
  generalize joinedP r42=L at hm con7
  have HMJ:Hid _:=hm
  clear o4 EN4 o5 g5 hd5 HKS q4 hal4 hR6 hm HL5 HR57
  go_wp2_with fail
  refine con7.mono ?_
  rintro e w7 ⟨hb7,hW⟩
  have hx7:=hx6.trans hb7
  have O7:Hid (OwnE En10 96 10 w.heap.size (fun b=>w.heap.size≤b) w7 v' (acc ++ [{ s with on:=x }])):=O5.out.keep en10 (fun _ h=>h) (hb7.k1.k (by show ¬ w.heap.size≤R; omega))
  clear con7 O5
  rcases L with ce | ⟨kd2,r7⟩
  ·obtain ⟨rfl,us,hE⟩:=hW
   have HE:Hid (RdAt w7 R tb us 0):=hE
   clear hE
   have e:M = .error ce:=HMJ.out.symm
   subst e
   clear HMJ
   go_wp2_with fail
   exact ⟨rfl,Ends.err rfl hx7 HE.out⟩
  obtain ⟨v,rfl,rfl,hR⟩:=hW
  have HR60:Hid (RdAt w7 R tb r7 0):=hR
  have hm:=HMJ.out
  simp only [bnd_okk] at hm
  have HM61:Hid _:=hm
  clear hm hR HMJ
  go_wp2_with fail
  go_roundg m
  case measure=>omega
  case rel=>exact ⟨_,acc ++ [{ s with on:=x }],r7,kd2,rfl,rfl,by show _=_; have:=hn.out; simp; omega,by show _∧_; have:=hacc.out; have:=HB.out; simp; omega,HM61,hx7,HR60,O7⟩

theorem all1 {cs:List Value} (h:cs.all (·.oneCell')=true):cs.toArray.all (·.oneCell')=true:=by simpa using h
theorem wpList_store_new {P:Program} {ops:Array Oper} {rest:List Oper} {o:Oper} {a:Act} {w:World} {Q:Exit→Act→World→Prop} (hgd:o.guard=none) (ty:TypeId) (x y:Operand) (ho:o.op = .store ty x y)
  (c c':Array Value) (hx:a.eval x = .pointer (some ⟨w.heap.size,0,none⟩)) (hy:a.eval y = .agg c') (hi:(P.info? ty).map (·.size)=some c'.size) (hs:c.size=c'.size) (h1:c'.all (·.oneCell')=true)
  (h:wpList P ops Q rest (a.put o.dst undef) (w.alloc (.cells c' ty))):wpList P ops Q (o :: rest) a (w.alloc (.cells c ty)):=by
 refine wpList_plain hgd fun K hK=>?_
 unfold Oper.wp execOp
 simp only [ho,hx,hy,run_storeAt_new w ty c c' hi hs h1,Sem.run_bind,Sem.run_pure,Result.andThen_ok]
 exact hK _ _ h
theorem row_all {w W:World} {R tb g:Nat} {rs:List Tk} {o:Int} {T:TypeId} {old:Array Value} (Q:W.heap[g]? = some (.cells old T (0,0))) (hR:RdAt W R tb rs o) (hb:BelowX R w W) (h1:w.heap.size≤g) (h3:R<w.heap.size) (h4:tb<w.heap.size) (cs:Array Value) :
  (W.setRow g cs).heap[g]? = some (.cells cs T (0,0))∧RdAt (W.setRow g cs) R tb rs o∧BelowX R w (W.setRow g cs)∧Keeps1 g W (W.setRow g cs):=by
 have hk1:Keeps1 g W (W.setRow g cs):=⟨by simp,fun k _ hn=>setRow_other W g k cs hn⟩
 refine ⟨setRow_heap W g old cs T _ Q,hR.k1 hk1 (by omega) (by omega) (by have:=hR.r2; omega),⟨?_,fun k hk hn=>(setRow_other W g k cs (by omega)).trans (hb.2 k hk hn)⟩,hk1⟩
 exact below_setRow hb.1 (by omega) cs

def En21:EnT Sel:=fun S W x cs=>∃ a1 c1 a2 c2 a3 c3 a4 c4 a5 c5,cs = [.bool x.distinct,.bool x.star,.slice a1 x.items.length c1,.slice a2 x.sources.length c2,.bool x.hasWhere,.bool x.hasHaving,.int .i64 x.wher.k,.int .i64 x.wher.v.1,.int .i64 x.wher.v.2.1,.string x.wher.v.2.2,.string x.wher.tab,.string x.wher.name,.slice a3 x.wher.ks.length c3,.int .i64 x.having.k,.int .i64 x.having.v.1,.int .i64 x.having.v.2.1,.string x.having.v.2.2,.string x.having.tab,.string x.having.name,.slice a4 x.having.ks.length c4,.slice a5 x.group.length c5]∧LsE En8 8 S W a1 x.items∧LsE En10 10 S W a2 x.sources∧SsS S W a3 x.wher.ks∧SsS S W a4 x.having.ks∧LsE En7 7 S W a5 x.group
theorem en21:EnOk En21:=⟨fun hk ⟨a1,c1,a2,c2,a3,c3,a4,c4,a5,c5,e,h1,h2,h3,h4,h5⟩=>⟨a1,c1,a2,c2,a3,c3,a4,c4,a5,c5,e,h1.keep en8 hk,h2.keep en10 hk,h3.keep hk,h4.keep hk,h5.keep en7 hk⟩,
 fun hs ⟨a1,c1,a2,c2,a3,c3,a4,c4,a5,c5,e,h1,h2,h3,h4,h5⟩=>⟨a1,c1,a2,c2,a3,c3,a4,c4,a5,c5,e,h1.mono en8 hs,h2.mono en10 hs,SsS.mono hs h3,SsS.mono hs h4,h5.mono en7 hs⟩⟩
def VSel (B:Nat) (W:World) (v:Value) (x:Sel):Prop:=∃ a1 c1 a2 c2 a3 c3 a4 c4 a5 c5,v = .agg #[.bool x.distinct,.bool x.star,.slice a1 x.items.length c1,.slice a2 x.sources.length c2,.bool x.hasWhere,.bool x.hasHaving,.int .i64 x.wher.k,.int .i64 x.wher.v.1,.int .i64 x.wher.v.2.1,.string x.wher.v.2.2,.string x.wher.tab,.string x.wher.name,.slice a3 x.wher.ks.length c3,.int .i64 x.having.k,.int .i64 x.having.v.1,.int .i64 x.having.v.2.1,.string x.having.v.2.2,.string x.having.tab,.string x.having.name,.slice a4 x.having.ks.length c4,.slice a5 x.group.length c5]∧LsE En8 8 (fun b=>B≤b) W a1 x.items∧LsE En10 10 (fun b=>B≤b) W a2 x.sources∧SsAt B W a3 x.wher.ks∧SsAt B W a4 x.having.ks∧LsE En7 7 (fun b=>B≤b) W a5 x.group
def selK2 (di st:Bool) (its:List Itm) (fs:List Src) (hw:Bool × SX) (gs:List SX) (r:List Tk):PR Sel:=bnd (exprBehindP ⟨#[104,97,118,105,110,103]⟩ r) fun hh r9=>.ok (⟨di,st,its,fs,hw.1,hh.1,hw.2,hh.2,gs⟩,r9)
def selK1 (di st:Bool) (its:List Itm) (r:List Tk):PR Sel:=bnd (mustP [⟨#[102,114,111,109]⟩] r) fun _ r4=>bnd (sourcesP r4) fun fs r5=>bnd (exprBehindP ⟨#[119,104,101,114,101]⟩ r5) fun hw r6=>bnd (groupP r6) fun gs r8=>selK2 di st its fs hw gs r8
theorem selected_eq (ts:List Tk):selectedP ts=bnd (mustP [⟨#[115,101,108,101,99,116]⟩] ts) fun _ r0=>bnd (itemsP (isP ⟨#[42]⟩ (tookP ⟨#[100,105,115,116,105,110,99,116]⟩ r0)) (tookP ⟨#[42]⟩ (tookP ⟨#[100,105,115,116,105,110,99,116]⟩ r0))) fun its r3=>selK1 (isP ⟨#[100,105,115,116,105,110,99,116]⟩ r0) (isP ⟨#[42]⟩ (tookP ⟨#[100,105,115,116,105,110,99,116]⟩ r0)) its r3:=rfl
theorem EnL.ls {α:Type} {En:EnT α} {size:Nat} {S:Nat→Prop} {W:World} {x:List α} {a:Option Addr} {n:Nat} {c:Nat} (h:EnL En size S W x [.slice a n c]):LsE En size S W a x:=by
 obtain ⟨a',c',e,h⟩:=h
 obtain ⟨rfl,_⟩:a=a'∧_:=by simpa using e
 exact h
theorem En7.ks {S:Nat→Prop} {W:World} {x:SX} {v0 v1 v2 v3 v4 v5:Value} {a:Option Addr} {n:Nat} {c:Nat} (h:En7 S W x [v0,v1,v2,v3,v4,v5,.slice a n c]):SsS S W a x.ks:=by
 obtain ⟨a',c',e,h⟩:=h
 simp only [sxL,List.cons.injEq,Value.slice.injEq] at e
 obtain ⟨_,_,_,_,_,_,⟨rfl,_⟩,_⟩:=e
 exact h
theorem sz21:(Tryz.prog.info? 55).map (·.size)=some 21:=by kernel_rfl
theorem st21o2k1 {W:World} {g:Nat} {T:TypeId} {c0 c1 c2 c3 c4 c5 c6 c7 c8 c9 c10 c11 c12 c13 c14 c15 c16 c17 c18 c19 c20:Value} (h:W.heap[g]? = some (.cells #[c0,c1,c2,c3,c4,c5,c6,c7,c8,c9,c10,c11,c12,c13,c14,c15,c16,c17,c18,c19,c20] T (0,0))) (v0:Value):(W.setCell ⟨g,2,none⟩ v0).heap[g]? = some (.cells #[c0,c1,v0,c3,c4,c5,c6,c7,c8,c9,c10,c11,c12,c13,c14,c15,c16,c17,c18,c19,c20] T (0,0))∧Keeps1 g W (W.setCell ⟨g,2,none⟩ v0)∧(∀ {R:Nat} {w:World},BelowX R w W→w.heap.size≤g→R<w.heap.size→BelowX R w (W.setCell ⟨g,2,none⟩ v0)):=by
 refine ⟨?_,((Keeps1.refl _ _).set 2 v0),fun hb hg hr=>(hb.setNew g 2 v0 hg (Nat.le_of_lt hr))⟩
 have h:(W.setCell ⟨g,2,none⟩ v0).heap[g]? = some (.cells #[c0,c1,v0,c3,c4,c5,c6,c7,c8,c9,c10,c11,c12,c13,c14,c15,c16,c17,c18,c19,c20] T (0,0)):=heap_setCell_same W g 2 _ _ v0 h
 generalize W.setCell ⟨g,2,none⟩ v0=W0 at h ⊢
 exact h
theorem st21o3k1 {W:World} {g:Nat} {T:TypeId} {c0 c1 c2 c3 c4 c5 c6 c7 c8 c9 c10 c11 c12 c13 c14 c15 c16 c17 c18 c19 c20:Value} (h:W.heap[g]? = some (.cells #[c0,c1,c2,c3,c4,c5,c6,c7,c8,c9,c10,c11,c12,c13,c14,c15,c16,c17,c18,c19,c20] T (0,0))) (v0:Value):(W.setCell ⟨g,3,none⟩ v0).heap[g]? = some (.cells #[c0,c1,c2,v0,c4,c5,c6,c7,c8,c9,c10,c11,c12,c13,c14,c15,c16,c17,c18,c19,c20] T (0,0))∧Keeps1 g W (W.setCell ⟨g,3,none⟩ v0)∧(∀ {R:Nat} {w:World},BelowX R w W→w.heap.size≤g→R<w.heap.size→BelowX R w (W.setCell ⟨g,3,none⟩ v0)):=by
 refine ⟨?_,((Keeps1.refl _ _).set 3 v0),fun hb hg hr=>(hb.setNew g 3 v0 hg (Nat.le_of_lt hr))⟩
 have h:(W.setCell ⟨g,3,none⟩ v0).heap[g]? = some (.cells #[c0,c1,c2,v0,c4,c5,c6,c7,c8,c9,c10,c11,c12,c13,c14,c15,c16,c17,c18,c19,c20] T (0,0)):=heap_setCell_same W g 3 _ _ v0 h
 generalize W.setCell ⟨g,3,none⟩ v0=W0 at h ⊢
 exact h
theorem st21o4k1 {W:World} {g:Nat} {T:TypeId} {c0 c1 c2 c3 c4 c5 c6 c7 c8 c9 c10 c11 c12 c13 c14 c15 c16 c17 c18 c19 c20:Value} (h:W.heap[g]? = some (.cells #[c0,c1,c2,c3,c4,c5,c6,c7,c8,c9,c10,c11,c12,c13,c14,c15,c16,c17,c18,c19,c20] T (0,0))) (v0:Value):(W.setCell ⟨g,4,none⟩ v0).heap[g]? = some (.cells #[c0,c1,c2,c3,v0,c5,c6,c7,c8,c9,c10,c11,c12,c13,c14,c15,c16,c17,c18,c19,c20] T (0,0))∧Keeps1 g W (W.setCell ⟨g,4,none⟩ v0)∧(∀ {R:Nat} {w:World},BelowX R w W→w.heap.size≤g→R<w.heap.size→BelowX R w (W.setCell ⟨g,4,none⟩ v0)):=by
 refine ⟨?_,((Keeps1.refl _ _).set 4 v0),fun hb hg hr=>(hb.setNew g 4 v0 hg (Nat.le_of_lt hr))⟩
 have h:(W.setCell ⟨g,4,none⟩ v0).heap[g]? = some (.cells #[c0,c1,c2,c3,v0,c5,c6,c7,c8,c9,c10,c11,c12,c13,c14,c15,c16,c17,c18,c19,c20] T (0,0)):=heap_setCell_same W g 4 _ _ v0 h
 generalize W.setCell ⟨g,4,none⟩ v0=W0 at h ⊢
 exact h
theorem st21o5k1 {W:World} {g:Nat} {T:TypeId} {c0 c1 c2 c3 c4 c5 c6 c7 c8 c9 c10 c11 c12 c13 c14 c15 c16 c17 c18 c19 c20:Value} (h:W.heap[g]? = some (.cells #[c0,c1,c2,c3,c4,c5,c6,c7,c8,c9,c10,c11,c12,c13,c14,c15,c16,c17,c18,c19,c20] T (0,0))) (v0:Value):(W.setCell ⟨g,5,none⟩ v0).heap[g]? = some (.cells #[c0,c1,c2,c3,c4,v0,c6,c7,c8,c9,c10,c11,c12,c13,c14,c15,c16,c17,c18,c19,c20] T (0,0))∧Keeps1 g W (W.setCell ⟨g,5,none⟩ v0)∧(∀ {R:Nat} {w:World},BelowX R w W→w.heap.size≤g→R<w.heap.size→BelowX R w (W.setCell ⟨g,5,none⟩ v0)):=by
 refine ⟨?_,((Keeps1.refl _ _).set 5 v0),fun hb hg hr=>(hb.setNew g 5 v0 hg (Nat.le_of_lt hr))⟩
 have h:(W.setCell ⟨g,5,none⟩ v0).heap[g]? = some (.cells #[c0,c1,c2,c3,c4,v0,c6,c7,c8,c9,c10,c11,c12,c13,c14,c15,c16,c17,c18,c19,c20] T (0,0)):=heap_setCell_same W g 5 _ _ v0 h
 generalize W.setCell ⟨g,5,none⟩ v0=W0 at h ⊢
 exact h
theorem st21o6k7 {W:World} {g:Nat} {T:TypeId} {c0 c1 c2 c3 c4 c5 c6 c7 c8 c9 c10 c11 c12 c13 c14 c15 c16 c17 c18 c19 c20:Value} (h:W.heap[g]? = some (.cells #[c0,c1,c2,c3,c4,c5,c6,c7,c8,c9,c10,c11,c12,c13,c14,c15,c16,c17,c18,c19,c20] T (0,0))) (v0 v1 v2 v3 v4 v5 v6:Value):(((((((W.setCell ⟨g,6,none⟩ v0).setCell ⟨g,7,none⟩ v1).setCell ⟨g,8,none⟩ v2).setCell ⟨g,9,none⟩ v3).setCell ⟨g,10,none⟩ v4).setCell ⟨g,11,none⟩ v5).setCell ⟨g,12,none⟩ v6).heap[g]? = some (.cells #[c0,c1,c2,c3,c4,c5,v0,v1,v2,v3,v4,v5,v6,c13,c14,c15,c16,c17,c18,c19,c20] T (0,0))∧Keeps1 g W (((((((W.setCell ⟨g,6,none⟩ v0).setCell ⟨g,7,none⟩ v1).setCell ⟨g,8,none⟩ v2).setCell ⟨g,9,none⟩ v3).setCell ⟨g,10,none⟩ v4).setCell ⟨g,11,none⟩ v5).setCell ⟨g,12,none⟩ v6)∧(∀ {R:Nat} {w:World},BelowX R w W→w.heap.size≤g→R<w.heap.size→BelowX R w (((((((W.setCell ⟨g,6,none⟩ v0).setCell ⟨g,7,none⟩ v1).setCell ⟨g,8,none⟩ v2).setCell ⟨g,9,none⟩ v3).setCell ⟨g,10,none⟩ v4).setCell ⟨g,11,none⟩ v5).setCell ⟨g,12,none⟩ v6)):=by
 refine ⟨?_,((((((((Keeps1.refl _ _).set 6 v0).set 7 v1).set 8 v2).set 9 v3).set 10 v4).set 11 v5).set 12 v6),fun hb hg hr=>(((((((hb.setNew g 6 v0 hg (Nat.le_of_lt hr)).setNew g 7 v1 hg (Nat.le_of_lt hr)).setNew g 8 v2 hg (Nat.le_of_lt hr)).setNew g 9 v3 hg (Nat.le_of_lt hr)).setNew g 10 v4 hg (Nat.le_of_lt hr)).setNew g 11 v5 hg (Nat.le_of_lt hr)).setNew g 12 v6 hg (Nat.le_of_lt hr))⟩
 have h:(W.setCell ⟨g,6,none⟩ v0).heap[g]? = some (.cells #[c0,c1,c2,c3,c4,c5,v0,c7,c8,c9,c10,c11,c12,c13,c14,c15,c16,c17,c18,c19,c20] T (0,0)):=heap_setCell_same W g 6 _ _ v0 h
 generalize W.setCell ⟨g,6,none⟩ v0=W0 at h ⊢
 have h:(W0.setCell ⟨g,7,none⟩ v1).heap[g]? = some (.cells #[c0,c1,c2,c3,c4,c5,v0,v1,c8,c9,c10,c11,c12,c13,c14,c15,c16,c17,c18,c19,c20] T (0,0)):=heap_setCell_same W0 g 7 _ _ v1 h
 generalize W0.setCell ⟨g,7,none⟩ v1=W1 at h ⊢
 have h:(W1.setCell ⟨g,8,none⟩ v2).heap[g]? = some (.cells #[c0,c1,c2,c3,c4,c5,v0,v1,v2,c9,c10,c11,c12,c13,c14,c15,c16,c17,c18,c19,c20] T (0,0)):=heap_setCell_same W1 g 8 _ _ v2 h
 generalize W1.setCell ⟨g,8,none⟩ v2=W2 at h ⊢
 have h:(W2.setCell ⟨g,9,none⟩ v3).heap[g]? = some (.cells #[c0,c1,c2,c3,c4,c5,v0,v1,v2,v3,c10,c11,c12,c13,c14,c15,c16,c17,c18,c19,c20] T (0,0)):=heap_setCell_same W2 g 9 _ _ v3 h
 generalize W2.setCell ⟨g,9,none⟩ v3=W3 at h ⊢
 have h:(W3.setCell ⟨g,10,none⟩ v4).heap[g]? = some (.cells #[c0,c1,c2,c3,c4,c5,v0,v1,v2,v3,v4,c11,c12,c13,c14,c15,c16,c17,c18,c19,c20] T (0,0)):=heap_setCell_same W3 g 10 _ _ v4 h
 generalize W3.setCell ⟨g,10,none⟩ v4=W4 at h ⊢
 have h:(W4.setCell ⟨g,11,none⟩ v5).heap[g]? = some (.cells #[c0,c1,c2,c3,c4,c5,v0,v1,v2,v3,v4,v5,c12,c13,c14,c15,c16,c17,c18,c19,c20] T (0,0)):=heap_setCell_same W4 g 11 _ _ v5 h
 generalize W4.setCell ⟨g,11,none⟩ v5=W5 at h ⊢
 have h:(W5.setCell ⟨g,12,none⟩ v6).heap[g]? = some (.cells #[c0,c1,c2,c3,c4,c5,v0,v1,v2,v3,v4,v5,v6,c13,c14,c15,c16,c17,c18,c19,c20] T (0,0)):=heap_setCell_same W5 g 12 _ _ v6 h
 generalize W5.setCell ⟨g,12,none⟩ v6=W6 at h ⊢
 exact h
theorem st21o13k7 {W:World} {g:Nat} {T:TypeId} {c0 c1 c2 c3 c4 c5 c6 c7 c8 c9 c10 c11 c12 c13 c14 c15 c16 c17 c18 c19 c20:Value} (h:W.heap[g]? = some (.cells #[c0,c1,c2,c3,c4,c5,c6,c7,c8,c9,c10,c11,c12,c13,c14,c15,c16,c17,c18,c19,c20] T (0,0))) (v0 v1 v2 v3 v4 v5 v6:Value):(((((((W.setCell ⟨g,13,none⟩ v0).setCell ⟨g,14,none⟩ v1).setCell ⟨g,15,none⟩ v2).setCell ⟨g,16,none⟩ v3).setCell ⟨g,17,none⟩ v4).setCell ⟨g,18,none⟩ v5).setCell ⟨g,19,none⟩ v6).heap[g]? = some (.cells #[c0,c1,c2,c3,c4,c5,c6,c7,c8,c9,c10,c11,c12,v0,v1,v2,v3,v4,v5,v6,c20] T (0,0))∧Keeps1 g W (((((((W.setCell ⟨g,13,none⟩ v0).setCell ⟨g,14,none⟩ v1).setCell ⟨g,15,none⟩ v2).setCell ⟨g,16,none⟩ v3).setCell ⟨g,17,none⟩ v4).setCell ⟨g,18,none⟩ v5).setCell ⟨g,19,none⟩ v6)∧(∀ {R:Nat} {w:World},BelowX R w W→w.heap.size≤g→R<w.heap.size→BelowX R w (((((((W.setCell ⟨g,13,none⟩ v0).setCell ⟨g,14,none⟩ v1).setCell ⟨g,15,none⟩ v2).setCell ⟨g,16,none⟩ v3).setCell ⟨g,17,none⟩ v4).setCell ⟨g,18,none⟩ v5).setCell ⟨g,19,none⟩ v6)):=by
 refine ⟨?_,((((((((Keeps1.refl _ _).set 13 v0).set 14 v1).set 15 v2).set 16 v3).set 17 v4).set 18 v5).set 19 v6),fun hb hg hr=>(((((((hb.setNew g 13 v0 hg (Nat.le_of_lt hr)).setNew g 14 v1 hg (Nat.le_of_lt hr)).setNew g 15 v2 hg (Nat.le_of_lt hr)).setNew g 16 v3 hg (Nat.le_of_lt hr)).setNew g 17 v4 hg (Nat.le_of_lt hr)).setNew g 18 v5 hg (Nat.le_of_lt hr)).setNew g 19 v6 hg (Nat.le_of_lt hr))⟩
 have h:(W.setCell ⟨g,13,none⟩ v0).heap[g]? = some (.cells #[c0,c1,c2,c3,c4,c5,c6,c7,c8,c9,c10,c11,c12,v0,c14,c15,c16,c17,c18,c19,c20] T (0,0)):=heap_setCell_same W g 13 _ _ v0 h
 generalize W.setCell ⟨g,13,none⟩ v0=W0 at h ⊢
 have h:(W0.setCell ⟨g,14,none⟩ v1).heap[g]? = some (.cells #[c0,c1,c2,c3,c4,c5,c6,c7,c8,c9,c10,c11,c12,v0,v1,c15,c16,c17,c18,c19,c20] T (0,0)):=heap_setCell_same W0 g 14 _ _ v1 h
 generalize W0.setCell ⟨g,14,none⟩ v1=W1 at h ⊢
 have h:(W1.setCell ⟨g,15,none⟩ v2).heap[g]? = some (.cells #[c0,c1,c2,c3,c4,c5,c6,c7,c8,c9,c10,c11,c12,v0,v1,v2,c16,c17,c18,c19,c20] T (0,0)):=heap_setCell_same W1 g 15 _ _ v2 h
 generalize W1.setCell ⟨g,15,none⟩ v2=W2 at h ⊢
 have h:(W2.setCell ⟨g,16,none⟩ v3).heap[g]? = some (.cells #[c0,c1,c2,c3,c4,c5,c6,c7,c8,c9,c10,c11,c12,v0,v1,v2,v3,c17,c18,c19,c20] T (0,0)):=heap_setCell_same W2 g 16 _ _ v3 h
 generalize W2.setCell ⟨g,16,none⟩ v3=W3 at h ⊢
 have h:(W3.setCell ⟨g,17,none⟩ v4).heap[g]? = some (.cells #[c0,c1,c2,c3,c4,c5,c6,c7,c8,c9,c10,c11,c12,v0,v1,v2,v3,v4,c18,c19,c20] T (0,0)):=heap_setCell_same W3 g 17 _ _ v4 h
 generalize W3.setCell ⟨g,17,none⟩ v4=W4 at h ⊢
 have h:(W4.setCell ⟨g,18,none⟩ v5).heap[g]? = some (.cells #[c0,c1,c2,c3,c4,c5,c6,c7,c8,c9,c10,c11,c12,v0,v1,v2,v3,v4,v5,c19,c20] T (0,0)):=heap_setCell_same W4 g 18 _ _ v5 h
 generalize W4.setCell ⟨g,18,none⟩ v5=W5 at h ⊢
 have h:(W5.setCell ⟨g,19,none⟩ v6).heap[g]? = some (.cells #[c0,c1,c2,c3,c4,c5,c6,c7,c8,c9,c10,c11,c12,v0,v1,v2,v3,v4,v5,v6,c20] T (0,0)):=heap_setCell_same W5 g 19 _ _ v6 h
 generalize W5.setCell ⟨g,19,none⟩ v6=W6 at h ⊢
 exact h
theorem st21o20k1 {W:World} {g:Nat} {T:TypeId} {c0 c1 c2 c3 c4 c5 c6 c7 c8 c9 c10 c11 c12 c13 c14 c15 c16 c17 c18 c19 c20:Value} (h:W.heap[g]? = some (.cells #[c0,c1,c2,c3,c4,c5,c6,c7,c8,c9,c10,c11,c12,c13,c14,c15,c16,c17,c18,c19,c20] T (0,0))) (v0:Value):(W.setCell ⟨g,20,none⟩ v0).heap[g]? = some (.cells #[c0,c1,c2,c3,c4,c5,c6,c7,c8,c9,c10,c11,c12,c13,c14,c15,c16,c17,c18,c19,v0] T (0,0))∧Keeps1 g W (W.setCell ⟨g,20,none⟩ v0)∧(∀ {R:Nat} {w:World},BelowX R w W→w.heap.size≤g→R<w.heap.size→BelowX R w (W.setCell ⟨g,20,none⟩ v0)):=by
 refine ⟨?_,((Keeps1.refl _ _).set 20 v0),fun hb hg hr=>(hb.setNew g 20 v0 hg (Nat.le_of_lt hr))⟩
 have h:(W.setCell ⟨g,20,none⟩ v0).heap[g]? = some (.cells #[c0,c1,c2,c3,c4,c5,c6,c7,c8,c9,c10,c11,c12,c13,c14,c15,c16,c17,c18,c19,v0] T (0,0)):=heap_setCell_same W g 20 _ _ v0 h
 generalize W.setCell ⟨g,20,none⟩ v0=W0 at h ⊢
 exact h
abbrev z21A:Array Value:=#[.bool false,.bool false,.slice none 0 0,.slice none 0 0,.bool false,.bool false,.int .i64 0,.int .i64 0,.int .i64 0,.string ⟨#[]⟩,.string ⟨#[]⟩,.string ⟨#[]⟩,.slice none 0 0,.int .i64 0,.int .i64 0,.int .i64 0,.string ⟨#[]⟩,.string ⟨#[]⟩,.string ⟨#[]⟩,.slice none 0 0,.slice none 0 0]
theorem bnd_assoc {α β γ:Type} (r:PR α) (k:α→List Tk→PR β) (h:β→List Tk→PR γ):bnd (bnd r k) h=bnd r fun x t=>bnd (k x t) h:=by
 rcases r with e | ⟨x,t⟩ <;> rfl
theorem selected_at {w:World} {R tb:Nat} {ts:List Tk} (h:RdAt w R tb ts 0):Calls Tryz.prog 139 #[.pointer (some ⟨R,0,none⟩)] w (Ends R tb 0 w (VSel w.heap.size) (selectedP ts)):=by
 have hmf:∀ (fn:Fn) (first cap:Array Value) (w:World),(Instr.makeFunc fn first cap).run Tryz.prog w = .ok (.func fn first cap) w:=fun _ _ _ _=>rfl
 have hltR:=h.lt
 have hltT:=h.ltb
 have hx0:BelowX R w w:=BelowX.refl _ _
 have HR0:Hid (RdAt w R tb ts 0):=h
 generalize hM:selectedP ts=M
 have HM0:Hid _:=hM
 clear h hM
 go_enter Tryz.func139,Tryz.ntmps139
 go_upto_region 1 with fail
 have hal1:Below w.heap.size w (w.alloc (.cells z21A 55)):=(Below.refl _ _).alloc (Nat.le_refl _) _
 have Q2:=heap_new w z21A 55
 have hsg6:=hx0.size
 generalize w.alloc (.cells z21A 55)=w3 at *
 have hx4:BelowX R w w3:=hx0.trans (.of hal1 (by omega))
 have HR5:Hid (RdAt w3 R tb ts 0):=HR0.out.next hal1
 clear HR0 hx0 hal1
 have hm:=HM0.out
 rw [selected_eq] at hm
 have HMa:Hid _:=hm
 clear hm HM0
 have hal8:Below w3.heap.size w3 (w3.alloc (.cells #[.string ⟨#[115,101,108,101,99,116]⟩] 9)):=(Below.refl _ _).alloc (Nat.le_refl _) _
 have hsz:=hx4.size
 have con9:=must_at (cap:=1) (HR5.out.next hal8) (StrAt.one w3 ⟨#[115,101,108,101,99,116]⟩ 9) (by omega) (by simp)
 have hm:=HMa.out
 generalize mustP [⟨#[115,101,108,101,99,116]⟩] ts=L at hm con9
 have HM15:Hid _:=hm
 clear hm HMa HR5
 go_wp2_with fail
 generalize w3.alloc (.cells #[.string ⟨#[115,101,108,101,99,116]⟩] 9)=wa11 at *
 refine con9.mono ?_
 rintro e w10 ⟨hb12,hW⟩
 have hxa13:BelowX R w3 w10:=(BelowX.of hal8 (by omega)).trans hb12
 have hx14:=hx4.trans hxa13
 have Q17:=(hxa13.2 _ (lt_of_heap Q2) (by omega)).trans Q2
 clear Q2
 clear con9 hal8 hb12 hxa13 hx4 hsz
 rcases L with ce | ⟨u18,r16⟩
 ·obtain ⟨rfl,us,hE⟩:=hW
  have HE:Hid (RdAt w10 R tb us 0):=hE
  clear hE
  have e:M = .error ce:=HM15.out.symm
  subst e
  clear HM15
  go_wp2_with fail
  exact ⟨rfl,Ends.err rfl hx14 HE.out⟩
 obtain ⟨v,rfl,rfl,hR⟩:=hW
 have HR19:Hid (RdAt w10 R tb r16 0):=hR
 have hm:=HM15.out
 simp only [bnd_okk] at hm
 have HM20:Hid _:=hm
 clear hm hR HM15
 have hsz:=hx14.size
 have con21:=took_at HR19.out ⟨#[100,105,115,116,105,110,99,116]⟩
 clear HR19
 go_wp2_with fail
 refine con21.mono ?_
 rintro e w22 ⟨rfl,hR,hb23⟩
 have HR25:Hid (RdAt w22 R tb (tookP ⟨#[100,105,115,116,105,110,99,116]⟩ r16) 0):=hR
 have hx24:=hx14.trans hb23
 have Q26:=(hb23.2 _ (lt_of_heap Q17) (by omega)).trans Q17
 clear Q17
 clear con21 hR hb23 hx14 hsz
 have hsz:=hx24.size
 have con27:=took_at HR25.out ⟨#[42]⟩
 clear HR25
 go_wp2_with fail
 refine con27.mono ?_
 rintro e w28 ⟨rfl,hR,hb29⟩
 have HR31:Hid (RdAt w28 R tb (tookP ⟨#[42]⟩ (tookP ⟨#[100,105,115,116,105,110,99,116]⟩ r16)) 0):=hR
 have hx30:=hx24.trans hb29
 have Q32:=(hb29.2 _ (lt_of_heap Q26) (by omega)).trans Q26
 clear Q26
 clear con27 hR hb29 hx24 hsz
 generalize isP ⟨#[100,105,115,116,105,110,99,116]⟩ r16=di at *
 generalize isP ⟨#[42]⟩ (tookP ⟨#[100,105,115,116,105,110,99,116]⟩ r16)=st at *
 generalize tookP ⟨#[42]⟩ (tookP ⟨#[100,105,115,116,105,110,99,116]⟩ r16)=r2 at *
 go_upto_region 3 with (first | (refine wpList_store_new rfl 55 _ _ rfl z21A #[.bool di,.bool st,.slice none 0 0,.slice none 0 0,.bool false,.bool false,.int .i64 0,.int .i64 0,.int .i64 0,.string ⟨#[]⟩,.string ⟨#[]⟩,.string ⟨#[]⟩,.slice none 0 0,.int .i64 0,.int .i64 0,.int .i64 0,.string ⟨#[]⟩,.string ⟨#[]⟩,.string ⟨#[]⟩,.slice none 0 0,.slice none 0 0] rfl rfl sz21 rfl (all1 rfl) ?_))
 have hbl_g6_g38:=lt_of_heap Q32
 have hal33:Below w28.heap.size w28 (w28.alloc (.cells #[.bool di,.bool st,.slice none 0 0,.slice none 0 0,.bool false,.bool false,.int .i64 0,.int .i64 0,.int .i64 0,.string ⟨#[]⟩,.string ⟨#[]⟩,.string ⟨#[]⟩,.slice none 0 0,.int .i64 0,.int .i64 0,.int .i64 0,.string ⟨#[]⟩,.string ⟨#[]⟩,.string ⟨#[]⟩,.slice none 0 0,.slice none 0 0] 55)):=(Below.refl _ _).alloc (Nat.le_refl _) _
 have Q34:=heap_new w28 #[.bool di,.bool st,.slice none 0 0,.slice none 0 0,.bool false,.bool false,.int .i64 0,.int .i64 0,.int .i64 0,.string ⟨#[]⟩,.string ⟨#[]⟩,.string ⟨#[]⟩,.slice none 0 0,.int .i64 0,.int .i64 0,.int .i64 0,.string ⟨#[]⟩,.string ⟨#[]⟩,.string ⟨#[]⟩,.slice none 0 0,.slice none 0 0] 55
 have hsg38:=hx30.size
 generalize w28.alloc (.cells #[.bool di,.bool st,.slice none 0 0,.slice none 0 0,.bool false,.bool false,.int .i64 0,.int .i64 0,.int .i64 0,.string ⟨#[]⟩,.string ⟨#[]⟩,.string ⟨#[]⟩,.slice none 0 0,.int .i64 0,.int .i64 0,.int .i64 0,.string ⟨#[]⟩,.string ⟨#[]⟩,.string ⟨#[]⟩,.slice none 0 0,.slice none 0 0] 55)=w35 at *
 have Q40:=(hal33.block _ (lt_of_heap Q32)).trans Q32
 clear Q32
 have hx36:BelowX R w w35:=hx30.trans (.of hal33 (by omega))
 have HR37:Hid (RdAt w35 R tb r2 0):=HR31.out.next hal33
 clear HR31 hx30 hal33
 generalize hqg38:w28.heap.size=g38 at *
 clear hqg38
 have z41:w35.cell? ⟨g38,1,none⟩=some (.bool st):=cell_of (i:=1) Q34 rfl
 have z41f:=frozen_of_row w35 g38 1 _ _ Q34
 go_upto_if 14 with fail
 clear z41 z41f
 go_cut [] (fun wc=>∃ (its:List Itm) (r3:List Tk) (a1:Option Addr) (c1:Nat),Hid (selK1 di st its r3=M)∧BelowX R w wc∧Hid (RdAt wc R tb r3 0)∧wc.heap[w.heap.size]? = some (.cells z21A 55 (0,0))∧wc.heap[g38]? = some (.cells #[.bool di,.bool st,.slice a1 its.length c1,.slice none 0 0,.bool false,.bool false,.int .i64 0,.int .i64 0,.int .i64 0,.string ⟨#[]⟩,.string ⟨#[]⟩,.string ⟨#[]⟩,.slice none 0 0,.int .i64 0,.int .i64 0,.int .i64 0,.string ⟨#[]⟩,.string ⟨#[]⟩,.string ⟨#[]⟩,.slice none 0 0,.slice none 0 0] 55 (0,0))∧Hid ((EnL En8 8) (fun b=>g38<b) wc its [.slice a1 its.length c1]))
 case first =>
  rcases st with _ | _
  ·have hm:=HM20.out
   rw [show itemsP false r2=commasP itemP 8 9 r2 from rfl] at hm
   have HMi:Hid _:=hm
   clear hm HM20
   have hsz:=hx36.size
   have con1542:=commasI_at HR37.out
   have hm:=HMi.out
   generalize commasP itemP 8 9 r2=L at hm con1542
   have HM1546:Hid _:=hm
   clear hm HMi HR37
   have hl_g6:=lt_of_heap Q40
   have hl_g38:=lt_of_heap Q34
   go_wp2_with fail
   refine con1542.mono ?_
   rintro e w1543 ⟨hb1544,hW⟩
   have hx1545:=hx36.trans hb1544
   have Q1548:=(hb1544.2 _ (lt_of_heap Q40) (by omega)).trans Q40
   clear Q40
   have Q1549:=(hb1544.2 _ (lt_of_heap Q34) (by omega)).trans Q34
   clear Q34
   clear con1542 hb1544 hx36
   rcases L with ce | ⟨its,r1547⟩
   ·obtain ⟨rfl,us,hE⟩:=hW
    have HE:Hid (RdAt w1543 R tb us 0):=hE
    clear hE
    have e:M = .error ce:=HM1546.out.symm
    subst e
    clear HM1546
    go_wp2_with fail
    exact ⟨rfl,Ends.err rfl hx1545 HE.out⟩
   obtain ⟨v,rfl,⟨a1,c1,rfl,hls⟩,hR⟩:=hW
   have HR1550:Hid (RdAt w1543 R tb r1547 0):=hR
   have hm:=HM1546.out
   simp only [bnd_okk] at hm
   have HM1551:Hid _:=hm
   clear hm hR HM1546
   have HK1552:Hid ((EnL En8 8) (fun b=>g38<b) w1543 its [.slice a1 its.length c1]):=(enL en8 8).mono (S:=fun b=>w35.heap.size≤b) (fun b h _=>by have:_≤b:=h; show g38<b; omega) (⟨a1,c1,rfl,hls⟩)
   clear hls
   clear hsz hl_g6 hl_g38
   have z1553:w1543.cell? ⟨g38,2,none⟩=some (.slice none 0 0):=cell_of (i:=2) Q1549 rfl
   have z1553f:=frozen_of_row w1543 g38 2 _ _ Q1549
   go_wp2_with fail
   obtain ⟨Q1558,hk1555,hbx⟩:=st21o2k1 Q1549 (.slice a1 its.length c1)
   have hx1556:=hbx hx1545 (by omega) (by omega)
   clear hbx z1553 z1553f
   generalize (w1543.setCell ⟨g38,2,none⟩ (.slice a1 its.length c1))=w1554 at *
   have Q1559:=(hk1555.2 _ (lt_of_heap Q1548) (by omega)).trans Q1548
   clear Q1548
   have HK1560:Hid ((EnL En8 8) (fun b=>g38<b) w1554 its [.slice a1 its.length c1]):=(enL en8 8).next (hk1555.k (by show ¬ _; omega)) HK1552.out
   clear HK1552
   clear Q1549
   have HR1557:Hid (RdAt w1554 R tb r1547 0):=HR1550.out.k1 hk1555 (by omega) (by omega) (by have:=HR1550.out.r2; omega)
   clear HR1550 hk1555 hx1545
   go_meet
   case rel=>exact ⟨its,r1547,a1,c1,HM1551,hx1556,HR1557,Q1559,Q1558,HK1560⟩
  ·go_wp2_with fail
   go_meet
   case rel=>exact ⟨[],r2,none,0,HM20.out,hx36,HR37,Q40,Q34,none,0,rfl,.inl rfl⟩
 case rest =>
  clear HM20 hx36 HR37 Q40 Q34
  obtain ⟨its,r3,a1,c1,HMc,hxc,HRc,QZc,QSc,HKi⟩:=hcut
  clear w35
  have hm:=HMc.out
  rw [selK1] at hm
  have HMd:Hid _:=hm
  clear hm HMc
  have hal2042:Below wc.heap.size wc (wc.alloc (.cells #[.string ⟨#[102,114,111,109]⟩] 9)):=(Below.refl _ _).alloc (Nat.le_refl _) _
  have hsz:=hxc.size
  have con2043:=must_at (cap:=1) (HRc.out.next hal2042) (StrAt.one wc ⟨#[102,114,111,109]⟩ 9) (by omega) (by simp)
  have hm:=HMd.out
  generalize mustP [⟨#[102,114,111,109]⟩] r3=L at hm con2043
  have HM2049:Hid _:=hm
  clear hm HMd HRc
  go_wp2_with fail
  generalize wc.alloc (.cells #[.string ⟨#[102,114,111,109]⟩] 9)=wa2045 at *
  refine con2043.mono ?_
  rintro e w2044 ⟨hb2046,hW⟩
  have hxa2047:BelowX R wc w2044:=(BelowX.of hal2042 (by omega)).trans hb2046
  have hx2048:=hxc.trans hxa2047
  have Q2051:=(hxa2047.2 _ (lt_of_heap QZc) (by omega)).trans QZc
  clear QZc
  have Q2052:=(hxa2047.2 _ (lt_of_heap QSc) (by omega)).trans QSc
  clear QSc
  have HK2053:Hid ((EnL En8 8) (fun b=>g38<b) w2044 its [.slice a1 its.length c1]):=(enL en8 8).next (hxa2047.k1.k (by show ¬ _; omega)) HKi.out
  clear HKi
  clear con2043 hal2042 hb2046 hxa2047 hxc hsz
  rcases L with ce | ⟨u2054,r2050⟩
  ·obtain ⟨rfl,us,hE⟩:=hW
   have HE:Hid (RdAt w2044 R tb us 0):=hE
   clear hE
   have e:M = .error ce:=HM2049.out.symm
   subst e
   clear HM2049
   go_wp2_with fail
   exact ⟨rfl,Ends.err rfl hx2048 HE.out⟩
  obtain ⟨v,rfl,rfl,hR⟩:=hW
  have HR2055:Hid (RdAt w2044 R tb r2050 0):=hR
  have hm:=HM2049.out
  simp only [bnd_okk] at hm
  have HM2056:Hid _:=hm
  clear hm hR HM2049
  have hsz:=hx2048.size
  have con2057:=sources_at HR2055.out
  have hm:=HM2056.out
  generalize sourcesP r2050=L at hm con2057
  have HM2061:Hid _:=hm
  clear hm HM2056 HR2055
  have hl_g6:=lt_of_heap Q2051
  have hl_g38:=lt_of_heap Q2052
  go_wp2_with fail
  refine con2057.mono ?_
  rintro e w2058 ⟨hb2059,hW⟩
  have hx2060:=hx2048.trans hb2059
  have Q2063:=(hb2059.2 _ (lt_of_heap Q2051) (by omega)).trans Q2051
  clear Q2051
  have Q2064:=(hb2059.2 _ (lt_of_heap Q2052) (by omega)).trans Q2052
  clear Q2052
  have HK2065:Hid ((EnL En8 8) (fun b=>g38<b) w2058 its [.slice a1 its.length c1]):=(enL en8 8).next (hb2059.k1.k (by show ¬ _; omega)) HK2053.out
  clear HK2053
  clear con2057 hb2059 hx2048
  rcases L with ce | ⟨fs,r2062⟩
  ·obtain ⟨rfl,us,hE⟩:=hW
   have HE:Hid (RdAt w2058 R tb us 0):=hE
   clear hE
   have e:M = .error ce:=HM2061.out.symm
   subst e
   clear HM2061
   go_wp2_with fail
   exact ⟨rfl,Ends.err rfl hx2060 HE.out⟩
  obtain ⟨v,rfl,⟨a2,c2,rfl,hls⟩,hR⟩:=hW
  have HR2066:Hid (RdAt w2058 R tb r2062 0):=hR
  have hm:=HM2061.out
  simp only [bnd_okk] at hm
  have HM2067:Hid _:=hm
  clear hm hR HM2061
  have HK2068:Hid ((EnL En10 10) (fun b=>g38<b) w2058 fs [.slice a2 fs.length c2]):=(enL en10 10).mono (S:=fun b=>w2044.heap.size≤b) (fun b h _=>by have:_≤b:=h; show g38<b; omega) (⟨a2,c2,rfl,hls⟩)
  clear hls
  clear hsz hl_g6 hl_g38
  have z2069:w2058.cell? ⟨g38,3,none⟩=some (.slice none 0 0):=cell_of (i:=3) Q2064 rfl
  have z2069f:=frozen_of_row w2058 g38 3 _ _ Q2064
  go_upto_region 7 with fail
  obtain ⟨Q2074,hk2071,hbx⟩:=st21o3k1 Q2064 (.slice a2 fs.length c2)
  have hx2072:=hbx hx2060 (by omega) (by omega)
  clear hbx z2069 z2069f
  generalize (w2058.setCell ⟨g38,3,none⟩ (.slice a2 fs.length c2))=w2070 at *
  have Q2075:=(hk2071.2 _ (lt_of_heap Q2063) (by omega)).trans Q2063
  clear Q2063
  have HK2076:Hid ((EnL En8 8) (fun b=>g38<b) w2070 its [.slice a1 its.length c1]):=(enL en8 8).next (hk2071.k (by show ¬ _; omega)) HK2065.out
  clear HK2065
  have HK2077:Hid ((EnL En10 10) (fun b=>g38<b) w2070 fs [.slice a2 fs.length c2]):=(enL en10 10).next (hk2071.k (by show ¬ _; omega)) HK2068.out
  clear HK2068
  clear Q2064
  have HR2073:Hid (RdAt w2070 R tb r2062 0):=HR2066.out.k1 hk2071 (by omega) (by omega) (by have:=HR2066.out.r2; omega)
  clear HR2066 hk2071 hx2060
  have hsz:=hx2072.size
  have con2078:=exprBehind_at HR2073.out ⟨#[119,104,101,114,101]⟩
  have hm:=HM2067.out
  generalize exprBehindP ⟨#[119,104,101,114,101]⟩ r2062=L at hm con2078
  have HM2082:Hid _:=hm
  clear hm HM2067 HR2073
  have hl_g6:=lt_of_heap Q2075
  have hl_g38:=lt_of_heap Q2074
  go_wp2_with fail
  refine con2078.mono ?_
  rintro e w2079 ⟨hb2080,hW⟩
  have hx2081:=hx2072.trans hb2080
  have Q2084:=(hb2080.2 _ (lt_of_heap Q2075) (by omega)).trans Q2075
  clear Q2075
  have Q2085:=(hb2080.2 _ (lt_of_heap Q2074) (by omega)).trans Q2074
  clear Q2074
  have HK2086:Hid ((EnL En8 8) (fun b=>g38<b) w2079 its [.slice a1 its.length c1]):=(enL en8 8).next (hb2080.k1.k (by show ¬ _; omega)) HK2076.out
  clear HK2076
  have HK2087:Hid ((EnL En10 10) (fun b=>g38<b) w2079 fs [.slice a2 fs.length c2]):=(enL en10 10).next (hb2080.k1.k (by show ¬ _; omega)) HK2077.out
  clear HK2077
  clear con2078 hb2080 hx2072
  rcases L with ce | ⟨hw,r2083⟩
  ·obtain ⟨rfl,us,hE⟩:=hW
   have HE:Hid (RdAt w2079 R tb us 0):=hE
   clear hE
   have e:M = .error ce:=HM2082.out.symm
   subst e
   clear HM2082
   go_wp2_with fail
   exact ⟨rfl,Ends.err rfl hx2081 HE.out⟩
  obtain ⟨v,rfl,⟨a3,c3,rfl,hks⟩,hR⟩:=hW
  have HR2088:Hid (RdAt w2079 R tb r2083 0):=hR
  have hm:=HM2082.out
  simp only [bnd_okk] at hm
  have HM2089:Hid _:=hm
  clear hm hR HM2082
  have HK2090:Hid (En7 (fun b=>g38<b) w2079 hw.2 [.int .i64 hw.2.k,.int .i64 hw.2.v.1,.int .i64 hw.2.v.2.1,.string hw.2.v.2.2,.string hw.2.tab,.string hw.2.name,.slice a3 hw.2.ks.length c3]):=en7.mono (S:=fun b=>w2070.heap.size≤b) (fun b h _=>by have:_≤b:=h; show g38<b; omega) (⟨a3,c3,rfl,hks⟩)
  clear hks
  clear hsz hl_g6 hl_g38
  have z2091:w2079.cell? ⟨g38,4,none⟩=some (.bool false):=cell_of (i:=4) Q2085 rfl
  have z2091f:=frozen_of_row w2079 g38 4 _ _ Q2085
  have z2092:w2079.cell? ⟨g38,6,none⟩=some (.int .i64 0):=cell_of (i:=6) Q2085 rfl
  have z2092f:=frozen_of_row w2079 g38 6 _ _ Q2085
  have z2093:w2079.cell? ⟨g38,7,none⟩=some (.int .i64 0):=cell_of (i:=7) Q2085 rfl
  have z2093f:=frozen_of_row w2079 g38 7 _ _ Q2085
  have z2094:w2079.cell? ⟨g38,8,none⟩=some (.int .i64 0):=cell_of (i:=8) Q2085 rfl
  have z2094f:=frozen_of_row w2079 g38 8 _ _ Q2085
  have z2095:w2079.cell? ⟨g38,9,none⟩=some (.string ⟨#[]⟩):=cell_of (i:=9) Q2085 rfl
  have z2095f:=frozen_of_row w2079 g38 9 _ _ Q2085
  have z2096:w2079.cell? ⟨g38,10,none⟩=some (.string ⟨#[]⟩):=cell_of (i:=10) Q2085 rfl
  have z2096f:=frozen_of_row w2079 g38 10 _ _ Q2085
  have z2097:w2079.cell? ⟨g38,11,none⟩=some (.string ⟨#[]⟩):=cell_of (i:=11) Q2085 rfl
  have z2097f:=frozen_of_row w2079 g38 11 _ _ Q2085
  have z2098:w2079.cell? ⟨g38,12,none⟩=some (.slice none 0 0):=cell_of (i:=12) Q2085 rfl
  have z2098f:=frozen_of_row w2079 g38 12 _ _ Q2085
  go_upto_region 8 with fail
  obtain ⟨Q2103,hk2100,hbx⟩:=st21o4k1 Q2085 (.bool hw.1)
  have hx2101:=hbx hx2081 (by omega) (by omega)
  clear hbx 
  generalize (w2079.setCell ⟨g38,4,none⟩ (.bool hw.1))=w2099 at *
  have Q2104:=(hk2100.2 _ (lt_of_heap Q2084) (by omega)).trans Q2084
  clear Q2084
  have HK2105:Hid ((EnL En8 8) (fun b=>g38<b) w2099 its [.slice a1 its.length c1]):=(enL en8 8).next (hk2100.k (by show ¬ _; omega)) HK2086.out
  clear HK2086
  have HK2106:Hid ((EnL En10 10) (fun b=>g38<b) w2099 fs [.slice a2 fs.length c2]):=(enL en10 10).next (hk2100.k (by show ¬ _; omega)) HK2087.out
  clear HK2087
  have HK2107:Hid (En7 (fun b=>g38<b) w2099 hw.2 [.int .i64 hw.2.k,.int .i64 hw.2.v.1,.int .i64 hw.2.v.2.1,.string hw.2.v.2.2,.string hw.2.tab,.string hw.2.name,.slice a3 hw.2.ks.length c3]):=en7.next (hk2100.k (by show ¬ _; omega)) HK2090.out
  clear HK2090
  clear Q2085
  have HR2102:Hid (RdAt w2099 R tb r2083 0):=HR2088.out.k1 hk2100 (by omega) (by omega) (by have:=HR2088.out.r2; omega)
  clear HR2088 hk2100 hx2081
  obtain ⟨Q2112,hk2109,hbx⟩:=st21o6k7 Q2103 (.int .i64 hw.2.k) (.int .i64 hw.2.v.1) (.int .i64 hw.2.v.2.1) (.string hw.2.v.2.2) (.string hw.2.tab) (.string hw.2.name) (.slice a3 hw.2.ks.length c3)
  have hx2110:=hbx hx2101 (by omega) (by omega)
  clear hbx z2091 z2091f z2092 z2092f z2093 z2093f z2094 z2094f z2095 z2095f z2096 z2096f z2097 z2097f z2098 z2098f
  generalize (((((((w2099.setCell ⟨g38,6,none⟩ (.int .i64 hw.2.k)).setCell ⟨g38,7,none⟩ (.int .i64 hw.2.v.1)).setCell ⟨g38,8,none⟩ (.int .i64 hw.2.v.2.1)).setCell ⟨g38,9,none⟩ (.string hw.2.v.2.2)).setCell ⟨g38,10,none⟩ (.string hw.2.tab)).setCell ⟨g38,11,none⟩ (.string hw.2.name)).setCell ⟨g38,12,none⟩ (.slice a3 hw.2.ks.length c3))=w2108 at *
  have Q2113:=(hk2109.2 _ (lt_of_heap Q2104) (by omega)).trans Q2104
  clear Q2104
  have HK2114:Hid ((EnL En8 8) (fun b=>g38<b) w2108 its [.slice a1 its.length c1]):=(enL en8 8).next (hk2109.k (by show ¬ _; omega)) HK2105.out
  clear HK2105
  have HK2115:Hid ((EnL En10 10) (fun b=>g38<b) w2108 fs [.slice a2 fs.length c2]):=(enL en10 10).next (hk2109.k (by show ¬ _; omega)) HK2106.out
  clear HK2106
  have HK2116:Hid (En7 (fun b=>g38<b) w2108 hw.2 [.int .i64 hw.2.k,.int .i64 hw.2.v.1,.int .i64 hw.2.v.2.1,.string hw.2.v.2.2,.string hw.2.tab,.string hw.2.name,.slice a3 hw.2.ks.length c3]):=en7.next (hk2109.k (by show ¬ _; omega)) HK2107.out
  clear HK2107
  clear Q2103
  have HR2111:Hid (RdAt w2108 R tb r2083 0):=HR2102.out.k1 hk2109 (by omega) (by omega) (by have:=HR2102.out.r2; omega)
  clear HR2102 hk2109 hx2101
  have hsz:=hx2110.size
  have con2117:=took_at HR2111.out ⟨#[103,114,111,117,112]⟩
  clear HR2111
  go_wp2_with fail
  refine con2117.mono ?_
  rintro e w2118 ⟨rfl,hR,hb2119⟩
  have HR2121:Hid (RdAt w2118 R tb (tookP ⟨#[103,114,111,117,112]⟩ r2083) 0):=hR
  have hx2120:=hx2110.trans hb2119
  have Q2122:=(hb2119.2 _ (lt_of_heap Q2113) (by omega)).trans Q2113
  clear Q2113
  have Q2123:=(hb2119.2 _ (lt_of_heap Q2112) (by omega)).trans Q2112
  clear Q2112
  have HK2124:Hid ((EnL En8 8) (fun b=>g38<b) w2118 its [.slice a1 its.length c1]):=(enL en8 8).next (hb2119.k1.k (by show ¬ _; omega)) HK2114.out
  clear HK2114
  have HK2125:Hid ((EnL En10 10) (fun b=>g38<b) w2118 fs [.slice a2 fs.length c2]):=(enL en10 10).next (hb2119.k1.k (by show ¬ _; omega)) HK2115.out
  clear HK2115
  have HK2126:Hid (En7 (fun b=>g38<b) w2118 hw.2 [.int .i64 hw.2.k,.int .i64 hw.2.v.1,.int .i64 hw.2.v.2.1,.string hw.2.v.2.2,.string hw.2.tab,.string hw.2.name,.slice a3 hw.2.ks.length c3]):=en7.next (hb2119.k1.k (by show ¬ _; omega)) HK2116.out
  clear HK2116
  clear con2117 hR hb2119 hx2110 hsz
  go_upto_if 34 with fail
  go_cut [] (fun wc=>∃ (gs:List SX) (r8:List Tk) (a5:Option Addr) (c5:Nat),Hid (selK2 di st its fs hw gs r8=M)∧BelowX R w wc∧Hid (RdAt wc R tb r8 0)∧wc.heap[w.heap.size]? = some (.cells z21A 55 (0,0))∧wc.heap[g38]? = some (.cells #[.bool di,.bool st,.slice a1 its.length c1,.slice a2 fs.length c2,.bool hw.1,.bool false,.int .i64 hw.2.k,.int .i64 hw.2.v.1,.int .i64 hw.2.v.2.1,.string hw.2.v.2.2,.string hw.2.tab,.string hw.2.name,.slice a3 hw.2.ks.length c3,.int .i64 0,.int .i64 0,.int .i64 0,.string ⟨#[]⟩,.string ⟨#[]⟩,.string ⟨#[]⟩,.slice none 0 0,.slice a5 gs.length c5] 55 (0,0))∧Hid ((EnL En8 8) (fun b=>g38<b) wc its [.slice a1 its.length c1])∧Hid ((EnL En10 10) (fun b=>g38<b) wc fs [.slice a2 fs.length c2])∧Hid (En7 (fun b=>g38<b) wc hw.2 [.int .i64 hw.2.k,.int .i64 hw.2.v.1,.int .i64 hw.2.v.2.1,.string hw.2.v.2.2,.string hw.2.tab,.string hw.2.name,.slice a3 hw.2.ks.length c3])∧Hid ((EnL En7 7) (fun b=>g38<b) wc gs [.slice a5 gs.length c5]))
  case first =>
   have hm:=HM2089.out
   rw [groupP] at hm
   rcases hi:isP ⟨#[103,114,111,117,112]⟩ r2083 with _ | _
   ·rw [hi,if_neg (by decide)] at hm
    have H8:Hid (RdAt w2118 R tb r2083 0):=by have:=HR2121.out; rw [tookP_f hi] at this; exact this
    have HMg:Hid _:=hm
    clear hm
    go_wp2_with fail
    go_meet
    case rel=>exact ⟨[],r2083,none,0,HMg.out,hx2120,H8,Q2122,Q2123,HK2124,HK2125,HK2126,none,0,rfl,.inl rfl⟩
   ·rw [hi,if_pos rfl] at hm
    have H8:Hid (RdAt w2118 R tb (passP r2083) 0):=by have:=HR2121.out; rw [tookP_t hi] at this; exact this
    rw [bnd_assoc] at hm
    have HMg:Hid _:=hm
    clear hm HM2089 HR2121
    have hal4627:Below w2118.heap.size w2118 (w2118.alloc (.cells #[.string ⟨#[98,121]⟩] 9)):=(Below.refl _ _).alloc (Nat.le_refl _) _
    have hsz:=hx2120.size
    have con4628:=must_at (cap:=1) (H8.out.next hal4627) (StrAt.one w2118 ⟨#[98,121]⟩ 9) (by omega) (by simp)
    have hm:=HMg.out
    generalize mustP [⟨#[98,121]⟩] (passP r2083)=L at hm con4628
    have HM4634:Hid _:=hm
    clear hm HMg H8
    go_wp2_with fail
    generalize w2118.alloc (.cells #[.string ⟨#[98,121]⟩] 9)=wa4630 at *
    refine con4628.mono ?_
    rintro e w4629 ⟨hb4631,hW⟩
    have hxa4632:BelowX R w2118 w4629:=(BelowX.of hal4627 (by omega)).trans hb4631
    have hx4633:=hx2120.trans hxa4632
    have Q4636:=(hxa4632.2 _ (lt_of_heap Q2122) (by omega)).trans Q2122
    clear Q2122
    have Q4637:=(hxa4632.2 _ (lt_of_heap Q2123) (by omega)).trans Q2123
    clear Q2123
    have HK4638:Hid ((EnL En8 8) (fun b=>g38<b) w4629 its [.slice a1 its.length c1]):=(enL en8 8).next (hxa4632.k1.k (by show ¬ _; omega)) HK2124.out
    clear HK2124
    have HK4639:Hid ((EnL En10 10) (fun b=>g38<b) w4629 fs [.slice a2 fs.length c2]):=(enL en10 10).next (hxa4632.k1.k (by show ¬ _; omega)) HK2125.out
    clear HK2125
    have HK4640:Hid (En7 (fun b=>g38<b) w4629 hw.2 [.int .i64 hw.2.k,.int .i64 hw.2.v.1,.int .i64 hw.2.v.2.1,.string hw.2.v.2.2,.string hw.2.tab,.string hw.2.name,.slice a3 hw.2.ks.length c3]):=en7.next (hxa4632.k1.k (by show ¬ _; omega)) HK2126.out
    clear HK2126
    clear con4628 hal4627 hb4631 hxa4632 hx2120 hsz
    rcases L with ce | ⟨u4641,r4635⟩
    ·obtain ⟨rfl,us,hE⟩:=hW
     have HE:Hid (RdAt w4629 R tb us 0):=hE
     clear hE
     have e:M = .error ce:=HM4634.out.symm
     subst e
     clear HM4634
     go_wp2_with fail
     exact ⟨rfl,Ends.err rfl hx4633 HE.out⟩
    obtain ⟨v,rfl,rfl,hR⟩:=hW
    have HR4642:Hid (RdAt w4629 R tb r4635 0):=hR
    have hm:=HM4634.out
    simp only [bnd_okk] at hm
    have HM4643:Hid _:=hm
    clear hm hR HM4634
    have hsz:=hx4633.size
    have con4644:=commasX_at HR4642.out
    have hm:=HM4643.out
    generalize commasP eP 8 9 r4635=L at hm con4644
    have HM4648:Hid _:=hm
    clear hm HM4643 HR4642
    have hl_g6:=lt_of_heap Q4636
    have hl_g38:=lt_of_heap Q4637
    go_wp2_with fail
    refine con4644.mono ?_
    rintro e w4645 ⟨hb4646,hW⟩
    have hx4647:=hx4633.trans hb4646
    have Q4650:=(hb4646.2 _ (lt_of_heap Q4636) (by omega)).trans Q4636
    clear Q4636
    have Q4651:=(hb4646.2 _ (lt_of_heap Q4637) (by omega)).trans Q4637
    clear Q4637
    have HK4652:Hid ((EnL En8 8) (fun b=>g38<b) w4645 its [.slice a1 its.length c1]):=(enL en8 8).next (hb4646.k1.k (by show ¬ _; omega)) HK4638.out
    clear HK4638
    have HK4653:Hid ((EnL En10 10) (fun b=>g38<b) w4645 fs [.slice a2 fs.length c2]):=(enL en10 10).next (hb4646.k1.k (by show ¬ _; omega)) HK4639.out
    clear HK4639
    have HK4654:Hid (En7 (fun b=>g38<b) w4645 hw.2 [.int .i64 hw.2.k,.int .i64 hw.2.v.1,.int .i64 hw.2.v.2.1,.string hw.2.v.2.2,.string hw.2.tab,.string hw.2.name,.slice a3 hw.2.ks.length c3]):=en7.next (hb4646.k1.k (by show ¬ _; omega)) HK4640.out
    clear HK4640
    clear con4644 hb4646 hx4633
    rcases L with ce | ⟨gs,r4649⟩
    ·obtain ⟨rfl,us,hE⟩:=hW
     have HE:Hid (RdAt w4645 R tb us 0):=hE
     clear hE
     have e:M = .error ce:=HM4648.out.symm
     subst e
     clear HM4648
     go_wp2_with fail
     exact ⟨rfl,Ends.err rfl hx4647 HE.out⟩
    obtain ⟨v,rfl,⟨a5,c5,rfl,hls⟩,hR⟩:=hW
    have HR4655:Hid (RdAt w4645 R tb r4649 0):=hR
    have hm:=HM4648.out
    simp only [bnd_okk] at hm
    have HM4656:Hid _:=hm
    clear hm hR HM4648
    have HK4657:Hid ((EnL En7 7) (fun b=>g38<b) w4645 gs [.slice a5 gs.length c5]):=(enL en7 7).mono (S:=fun b=>w4629.heap.size≤b) (fun b h _=>by have:_≤b:=h; show g38<b; omega) (⟨a5,c5,rfl,hls⟩)
    clear hls
    clear hsz hl_g6 hl_g38
    have z4658:w4645.cell? ⟨g38,20,none⟩=some (.slice none 0 0):=cell_of (i:=20) Q4651 rfl
    have z4658f:=frozen_of_row w4645 g38 20 _ _ Q4651
    go_wp2_with fail
    obtain ⟨Q4663,hk4660,hbx⟩:=st21o20k1 Q4651 (.slice a5 gs.length c5)
    have hx4661:=hbx hx4647 (by omega) (by omega)
    clear hbx z4658 z4658f
    generalize (w4645.setCell ⟨g38,20,none⟩ (.slice a5 gs.length c5))=w4659 at *
    have Q4664:=(hk4660.2 _ (lt_of_heap Q4650) (by omega)).trans Q4650
    clear Q4650
    have HK4665:Hid ((EnL En8 8) (fun b=>g38<b) w4659 its [.slice a1 its.length c1]):=(enL en8 8).next (hk4660.k (by show ¬ _; omega)) HK4652.out
    clear HK4652
    have HK4666:Hid ((EnL En10 10) (fun b=>g38<b) w4659 fs [.slice a2 fs.length c2]):=(enL en10 10).next (hk4660.k (by show ¬ _; omega)) HK4653.out
    clear HK4653
    have HK4667:Hid (En7 (fun b=>g38<b) w4659 hw.2 [.int .i64 hw.2.k,.int .i64 hw.2.v.1,.int .i64 hw.2.v.2.1,.string hw.2.v.2.2,.string hw.2.tab,.string hw.2.name,.slice a3 hw.2.ks.length c3]):=en7.next (hk4660.k (by show ¬ _; omega)) HK4654.out
    clear HK4654
    have HK4668:Hid ((EnL En7 7) (fun b=>g38<b) w4659 gs [.slice a5 gs.length c5]):=(enL en7 7).next (hk4660.k (by show ¬ _; omega)) HK4657.out
    clear HK4657
    clear Q4651
    have HR4662:Hid (RdAt w4659 R tb r4649 0):=HR4655.out.k1 hk4660 (by omega) (by omega) (by have:=HR4655.out.r2; omega)
    clear HR4655 hk4660 hx4647
    go_meet
    case rel=>exact ⟨gs,r4649,a5,c5,HM4656.out,hx4661,HR4662,Q4664,Q4663,HK4665,HK4666,HK4667,HK4668⟩
  case rest =>
   clear HM2089 hx2120 HR2121 Q2122 Q2123 HK2124 HK2125 HK2126
   obtain ⟨gs,r8,a5,c5,HMe,hxe,HRe,QZe,QSe,HL0,HL1,HL2,HKg⟩:=hcut
   clear w2118
   have hm:=HMe.out
   rw [selK2] at hm
   have HMf:Hid _:=hm
   clear hm HMe
   have hsz:=hxe.size
   have con4127:=exprBehind_at HRe.out ⟨#[104,97,118,105,110,103]⟩
   have hm:=HMf.out
   generalize exprBehindP ⟨#[104,97,118,105,110,103]⟩ r8=L at hm con4127
   have HM4131:Hid _:=hm
   clear hm HMf HRe
   have hl_g6:=lt_of_heap QZe
   have hl_g38:=lt_of_heap QSe
   go_wp2_with fail
   refine con4127.mono ?_
   rintro e w4128 ⟨hb4129,hW⟩
   have hx4130:=hxe.trans hb4129
   have Q4133:=(hb4129.2 _ (lt_of_heap QZe) (by omega)).trans QZe
   clear QZe
   have Q4134:=(hb4129.2 _ (lt_of_heap QSe) (by omega)).trans QSe
   clear QSe
   have HK4135:Hid ((EnL En8 8) (fun b=>g38<b) w4128 its [.slice a1 its.length c1]):=(enL en8 8).next (hb4129.k1.k (by show ¬ _; omega)) HL0.out
   clear HL0
   have HK4136:Hid ((EnL En10 10) (fun b=>g38<b) w4128 fs [.slice a2 fs.length c2]):=(enL en10 10).next (hb4129.k1.k (by show ¬ _; omega)) HL1.out
   clear HL1
   have HK4137:Hid (En7 (fun b=>g38<b) w4128 hw.2 [.int .i64 hw.2.k,.int .i64 hw.2.v.1,.int .i64 hw.2.v.2.1,.string hw.2.v.2.2,.string hw.2.tab,.string hw.2.name,.slice a3 hw.2.ks.length c3]):=en7.next (hb4129.k1.k (by show ¬ _; omega)) HL2.out
   clear HL2
   have HK4138:Hid ((EnL En7 7) (fun b=>g38<b) w4128 gs [.slice a5 gs.length c5]):=(enL en7 7).next (hb4129.k1.k (by show ¬ _; omega)) HKg.out
   clear HKg
   clear con4127 hb4129 hxe
   rcases L with ce | ⟨hh,r4132⟩
   ·obtain ⟨rfl,us,hE⟩:=hW
    have HE:Hid (RdAt w4128 R tb us 0):=hE
    clear hE
    have e:M = .error ce:=HM4131.out.symm
    subst e
    clear HM4131
    go_wp2_with fail
    exact ⟨rfl,Ends.err rfl hx4130 HE.out⟩
   obtain ⟨v,rfl,⟨a4,c4,rfl,hks⟩,hR⟩:=hW
   have HR4139:Hid (RdAt w4128 R tb r4132 0):=hR
   have hm:=HM4131.out
   simp only [bnd_okk] at hm
   have HM4140:Hid _:=hm
   clear hm hR HM4131
   have HK4141:Hid (En7 (fun b=>g38<b) w4128 hh.2 [.int .i64 hh.2.k,.int .i64 hh.2.v.1,.int .i64 hh.2.v.2.1,.string hh.2.v.2.2,.string hh.2.tab,.string hh.2.name,.slice a4 hh.2.ks.length c4]):=en7.mono (S:=fun b=>wc.heap.size≤b) (fun b h _=>by have:_≤b:=h; show g38<b; omega) (⟨a4,c4,rfl,hks⟩)
   clear hks
   clear hsz hl_g6 hl_g38
   have z4142:w4128.cell? ⟨g38,5,none⟩=some (.bool false):=cell_of (i:=5) Q4134 rfl
   have z4142f:=frozen_of_row w4128 g38 5 _ _ Q4134
   have z4143:w4128.cell? ⟨g38,13,none⟩=some (.int .i64 0):=cell_of (i:=13) Q4134 rfl
   have z4143f:=frozen_of_row w4128 g38 13 _ _ Q4134
   have z4144:w4128.cell? ⟨g38,14,none⟩=some (.int .i64 0):=cell_of (i:=14) Q4134 rfl
   have z4144f:=frozen_of_row w4128 g38 14 _ _ Q4134
   have z4145:w4128.cell? ⟨g38,15,none⟩=some (.int .i64 0):=cell_of (i:=15) Q4134 rfl
   have z4145f:=frozen_of_row w4128 g38 15 _ _ Q4134
   have z4146:w4128.cell? ⟨g38,16,none⟩=some (.string ⟨#[]⟩):=cell_of (i:=16) Q4134 rfl
   have z4146f:=frozen_of_row w4128 g38 16 _ _ Q4134
   have z4147:w4128.cell? ⟨g38,17,none⟩=some (.string ⟨#[]⟩):=cell_of (i:=17) Q4134 rfl
   have z4147f:=frozen_of_row w4128 g38 17 _ _ Q4134
   have z4148:w4128.cell? ⟨g38,18,none⟩=some (.string ⟨#[]⟩):=cell_of (i:=18) Q4134 rfl
   have z4148f:=frozen_of_row w4128 g38 18 _ _ Q4134
   have z4149:w4128.cell? ⟨g38,19,none⟩=some (.slice none 0 0):=cell_of (i:=19) Q4134 rfl
   have z4149f:=frozen_of_row w4128 g38 19 _ _ Q4134
   go_upto_region 12 with fail
   obtain ⟨Q4154,hk4151,hbx⟩:=st21o5k1 Q4134 (.bool hh.1)
   have hx4152:=hbx hx4130 (by omega) (by omega)
   clear hbx 
   generalize (w4128.setCell ⟨g38,5,none⟩ (.bool hh.1))=w4150 at *
   have Q4155:=(hk4151.2 _ (lt_of_heap Q4133) (by omega)).trans Q4133
   clear Q4133
   have HK4156:Hid ((EnL En8 8) (fun b=>g38<b) w4150 its [.slice a1 its.length c1]):=(enL en8 8).next (hk4151.k (by show ¬ _; omega)) HK4135.out
   clear HK4135
   have HK4157:Hid ((EnL En10 10) (fun b=>g38<b) w4150 fs [.slice a2 fs.length c2]):=(enL en10 10).next (hk4151.k (by show ¬ _; omega)) HK4136.out
   clear HK4136
   have HK4158:Hid (En7 (fun b=>g38<b) w4150 hw.2 [.int .i64 hw.2.k,.int .i64 hw.2.v.1,.int .i64 hw.2.v.2.1,.string hw.2.v.2.2,.string hw.2.tab,.string hw.2.name,.slice a3 hw.2.ks.length c3]):=en7.next (hk4151.k (by show ¬ _; omega)) HK4137.out
   clear HK4137
   have HK4159:Hid ((EnL En7 7) (fun b=>g38<b) w4150 gs [.slice a5 gs.length c5]):=(enL en7 7).next (hk4151.k (by show ¬ _; omega)) HK4138.out
   clear HK4138
   have HK4160:Hid (En7 (fun b=>g38<b) w4150 hh.2 [.int .i64 hh.2.k,.int .i64 hh.2.v.1,.int .i64 hh.2.v.2.1,.string hh.2.v.2.2,.string hh.2.tab,.string hh.2.name,.slice a4 hh.2.ks.length c4]):=en7.next (hk4151.k (by show ¬ _; omega)) HK4141.out
   clear HK4141
   clear Q4134
   have HR4153:Hid (RdAt w4150 R tb r4132 0):=HR4139.out.k1 hk4151 (by omega) (by omega) (by have:=HR4139.out.r2; omega)
   clear HR4139 hk4151 hx4130
   obtain ⟨Q4165,hk4162,hbx⟩:=st21o13k7 Q4154 (.int .i64 hh.2.k) (.int .i64 hh.2.v.1) (.int .i64 hh.2.v.2.1) (.string hh.2.v.2.2) (.string hh.2.tab) (.string hh.2.name) (.slice a4 hh.2.ks.length c4)
   have hx4163:=hbx hx4152 (by omega) (by omega)
   clear hbx z4142 z4142f z4143 z4143f z4144 z4144f z4145 z4145f z4146 z4146f z4147 z4147f z4148 z4148f z4149 z4149f
   generalize (((((((w4150.setCell ⟨g38,13,none⟩ (.int .i64 hh.2.k)).setCell ⟨g38,14,none⟩ (.int .i64 hh.2.v.1)).setCell ⟨g38,15,none⟩ (.int .i64 hh.2.v.2.1)).setCell ⟨g38,16,none⟩ (.string hh.2.v.2.2)).setCell ⟨g38,17,none⟩ (.string hh.2.tab)).setCell ⟨g38,18,none⟩ (.string hh.2.name)).setCell ⟨g38,19,none⟩ (.slice a4 hh.2.ks.length c4))=w4161 at *
   have Q4166:=(hk4162.2 _ (lt_of_heap Q4155) (by omega)).trans Q4155
   clear Q4155
   have HK4167:Hid ((EnL En8 8) (fun b=>g38<b) w4161 its [.slice a1 its.length c1]):=(enL en8 8).next (hk4162.k (by show ¬ _; omega)) HK4156.out
   clear HK4156
   have HK4168:Hid ((EnL En10 10) (fun b=>g38<b) w4161 fs [.slice a2 fs.length c2]):=(enL en10 10).next (hk4162.k (by show ¬ _; omega)) HK4157.out
   clear HK4157
   have HK4169:Hid (En7 (fun b=>g38<b) w4161 hw.2 [.int .i64 hw.2.k,.int .i64 hw.2.v.1,.int .i64 hw.2.v.2.1,.string hw.2.v.2.2,.string hw.2.tab,.string hw.2.name,.slice a3 hw.2.ks.length c3]):=en7.next (hk4162.k (by show ¬ _; omega)) HK4158.out
   clear HK4158
   have HK4170:Hid ((EnL En7 7) (fun b=>g38<b) w4161 gs [.slice a5 gs.length c5]):=(enL en7 7).next (hk4162.k (by show ¬ _; omega)) HK4159.out
   clear HK4159
   have HK4171:Hid (En7 (fun b=>g38<b) w4161 hh.2 [.int .i64 hh.2.k,.int .i64 hh.2.v.1,.int .i64 hh.2.v.2.1,.string hh.2.v.2.2,.string hh.2.tab,.string hh.2.name,.slice a4 hh.2.ks.length c4]):=en7.next (hk4162.k (by show ¬ _; omega)) HK4160.out
   clear HK4160
   clear Q4154
   have HR4164:Hid (RdAt w4161 R tb r4132 0):=HR4153.out.k1 hk4162 (by omega) (by omega) (by have:=HR4153.out.r2; omega)
   clear HR4153 hk4162 hx4152
   have e:=HM4140.out
   subst e
   clear HM4140
   go_wp2_with (first | (refine wpList_load_row rfl 55 _ rfl g38 rfl 55 #[.bool di,.bool st,.slice a1 its.length c1,.slice a2 fs.length c2,.bool hw.1,.bool hh.1,.int .i64 hw.2.k,.int .i64 hw.2.v.1,.int .i64 hw.2.v.2.1,.string hw.2.v.2.2,.string hw.2.tab,.string hw.2.name,.slice a3 hw.2.ks.length c3,.int .i64 hh.2.k,.int .i64 hh.2.v.1,.int .i64 hh.2.v.2.1,.string hh.2.v.2.2,.string hh.2.tab,.string hh.2.name,.slice a4 hh.2.ks.length c4,.slice a5 gs.length c5] (0,0) _ Q4165 Tryz.underlying55 rfl sz21 ?_) | (refine wpList_store_row rfl 55 _ _ rfl w.heap.size #[.bool di,.bool st,.slice a1 its.length c1,.slice a2 fs.length c2,.bool hw.1,.bool hh.1,.int .i64 hw.2.k,.int .i64 hw.2.v.1,.int .i64 hw.2.v.2.1,.string hw.2.v.2.2,.string hw.2.tab,.string hw.2.name,.slice a3 hw.2.ks.length c3,.int .i64 hh.2.k,.int .i64 hh.2.v.1,.int .i64 hh.2.v.2.1,.string hh.2.v.2.2,.string hh.2.tab,.string hh.2.name,.slice a4 hh.2.ks.length c4,.slice a5 gs.length c5] rfl rfl 55 z21A Q4166 sz21 rfl (all1 rfl) ?_))
   obtain ⟨QE,hRE,hbE,hkE⟩:=row_all (w:=w) Q4166 HR4164.out hx4163 (by omega) hltR hltT #[.bool di,.bool st,.slice a1 its.length c1,.slice a2 fs.length c2,.bool hw.1,.bool hh.1,.int .i64 hw.2.k,.int .i64 hw.2.v.1,.int .i64 hw.2.v.2.1,.string hw.2.v.2.2,.string hw.2.tab,.string hw.2.name,.slice a3 hw.2.ks.length c3,.int .i64 hh.2.k,.int .i64 hh.2.v.1,.int .i64 hh.2.v.2.1,.string hh.2.v.2.2,.string hh.2.tab,.string hh.2.name,.slice a4 hh.2.ks.length c4,.slice a5 gs.length c5]
   generalize w4161.setRow w.heap.size #[.bool di,.bool st,.slice a1 its.length c1,.slice a2 fs.length c2,.bool hw.1,.bool hh.1,.int .i64 hw.2.k,.int .i64 hw.2.v.1,.int .i64 hw.2.v.2.1,.string hw.2.v.2.2,.string hw.2.tab,.string hw.2.name,.slice a3 hw.2.ks.length c3,.int .i64 hh.2.k,.int .i64 hh.2.v.1,.int .i64 hh.2.v.2.1,.string hh.2.v.2.2,.string hh.2.tab,.string hh.2.name,.slice a4 hh.2.ks.length c4,.slice a5 gs.length c5]=wE at *
   have L0:(EnL En8 8) (fun b=>w.heap.size≤b) wE its [.slice a1 its.length c1]:=(enL en8 8).mono (fun b h _=>by have:g38<b:=h; show _≤b; omega) ((enL en8 8).next (hkE.k (by show ¬ _; omega)) HK4167.out)
   have L1:(EnL En10 10) (fun b=>w.heap.size≤b) wE fs [.slice a2 fs.length c2]:=(enL en10 10).mono (fun b h _=>by have:g38<b:=h; show _≤b; omega) ((enL en10 10).next (hkE.k (by show ¬ _; omega)) HK4168.out)
   have L2:En7 (fun b=>w.heap.size≤b) wE hw.2 [.int .i64 hw.2.k,.int .i64 hw.2.v.1,.int .i64 hw.2.v.2.1,.string hw.2.v.2.2,.string hw.2.tab,.string hw.2.name,.slice a3 hw.2.ks.length c3]:=en7.mono (fun b h _=>by have:g38<b:=h; show _≤b; omega) (en7.next (hkE.k (by show ¬ _; omega)) HK4169.out)
   have L3:(EnL En7 7) (fun b=>w.heap.size≤b) wE gs [.slice a5 gs.length c5]:=(enL en7 7).mono (fun b h _=>by have:g38<b:=h; show _≤b; omega) ((enL en7 7).next (hkE.k (by show ¬ _; omega)) HK4170.out)
   have L4:En7 (fun b=>w.heap.size≤b) wE hh.2 [.int .i64 hh.2.k,.int .i64 hh.2.v.1,.int .i64 hh.2.v.2.1,.string hh.2.v.2.2,.string hh.2.tab,.string hh.2.name,.slice a4 hh.2.ks.length c4]:=en7.mono (fun b h _=>by have:g38<b:=h; show _≤b; omega) (en7.next (hkE.k (by show ¬ _; omega)) HK4171.out)
   exact bodyPost_ret (v:=.agg #[.bool di,.bool st,.slice a1 its.length c1,.slice a2 fs.length c2,.bool hw.1,.bool hh.1,.int .i64 hw.2.k,.int .i64 hw.2.v.1,.int .i64 hw.2.v.2.1,.string hw.2.v.2.2,.string hw.2.tab,.string hw.2.name,.slice a3 hw.2.ks.length c3,.int .i64 hh.2.k,.int .i64 hh.2.v.1,.int .i64 hh.2.v.2.1,.string hh.2.v.2.2,.string hh.2.tab,.string hh.2.name,.slice a4 hh.2.ks.length c4,.slice a5 gs.length c5]) (results_cell_row Tryz.results139 _ _ _ _ _ _ _ rfl QE Tryz.underlying55 rfl sz21) rfl (Ends.good (x:=(⟨di,st,its,fs,hw.1,hh.1,hw.2,hh.2,gs⟩:Sel)) rfl hbE (⟨a1,c1,a2,c2,a3,c3,a4,c4,a5,c5,rfl,L0.ls,L1.ls,L2.ks,L4.ks,L3.ls⟩) hRE)

def EnI:EnT Int:=fun _ _ x cs=>cs = [.int .i64 x]
theorem enI:EnOk EnI:=⟨fun _ h=>h,fun _ h=>h⟩

def En16:EnT Stm:=fun S W x cs=>∃ a1 c1 p1 d1 p2 d2 p3 d3 a2 c2 a3 c3,cs = [.int .i64 x.kind,.string x.name,.slice a1 x.cols.length c1,.slice p1 x.query.parts.length d1,.slice p2 x.query.ops.length d2,.slice p3 x.query.order.length d3,.int .i64 x.query.limit,.slice a2 x.rows.length c2,.bool x.hasWhere,.int .i64 x.wher.k,.int .i64 x.wher.v.1,.int .i64 x.wher.v.2.1,.string x.wher.v.2.2,.string x.wher.tab,.string x.wher.name,.slice a3 x.wher.ks.length c3]∧LsE En2 2 S W a1 x.cols∧LsE En21 21 S W p1 x.query.parts∧LsE EnI 1 S W p2 x.query.ops∧LsE En7 7 S W p3 x.query.order∧LsE (EnL En3 3) 1 S W a2 x.rows∧SsS S W a3 x.wher.ks
theorem en16:EnOk En16:=⟨fun hk ⟨a1,c1,p1,d1,p2,d2,p3,d3,a2,c2,a3,c3,e,h1,h2,h3,h4,h5,h6⟩=>⟨a1,c1,p1,d1,p2,d2,p3,d3,a2,c2,a3,c3,e,h1.keep en2 hk,h2.keep en21 hk,h3.keep enI hk,h4.keep en7 hk,h5.keep (enL en3 3) hk,h6.keep hk⟩,
 fun hs ⟨a1,c1,p1,d1,p2,d2,p3,d3,a2,c2,a3,c3,e,h1,h2,h3,h4,h5,h6⟩=>⟨a1,c1,p1,d1,p2,d2,p3,d3,a2,c2,a3,c3,e,h1.mono en2 hs,h2.mono en21 hs,h3.mono enI hs,h4.mono en7 hs,h5.mono (enL en3 3) hs,SsS.mono hs h6⟩⟩
def VStm (B:Nat) (W:World) (v:Value) (x:Stm):Prop:=∃ a1 c1 p1 d1 p2 d2 p3 d3 a2 c2 a3 c3,v = .agg #[.int .i64 x.kind,.string x.name,.slice a1 x.cols.length c1,.slice p1 x.query.parts.length d1,.slice p2 x.query.ops.length d2,.slice p3 x.query.order.length d3,.int .i64 x.query.limit,.slice a2 x.rows.length c2,.bool x.hasWhere,.int .i64 x.wher.k,.int .i64 x.wher.v.1,.int .i64 x.wher.v.2.1,.string x.wher.v.2.2,.string x.wher.tab,.string x.wher.name,.slice a3 x.wher.ks.length c3]∧LsE En2 2 (fun b=>B≤b) W a1 x.cols∧LsE En21 21 (fun b=>B≤b) W p1 x.query.parts∧LsE EnI 1 (fun b=>B≤b) W p2 x.query.ops∧LsE En7 7 (fun b=>B≤b) W p3 x.query.order∧LsE (EnL En3 3) 1 (fun b=>B≤b) W a2 x.rows∧SsS (fun b=>B≤b) W a3 x.wher.ks
abbrev z16A:Array Value:=#[.int .i64 0,.string ⟨#[]⟩,.slice none 0 0,.slice none 0 0,.slice none 0 0,.slice none 0 0,.int .i64 0,.slice none 0 0,.bool false,.int .i64 0,.int .i64 0,.int .i64 0,.string ⟨#[]⟩,.string ⟨#[]⟩,.string ⟨#[]⟩,.slice none 0 0]
theorem sz16:(Tryz.prog.info? 49).map (·.size)=some 16:=by kernel_rfl
theorem st16o2k1 {W:World} {g:Nat} {T:TypeId} {c0 c1 c2 c3 c4 c5 c6 c7 c8 c9 c10 c11 c12 c13 c14 c15:Value} (h:W.heap[g]? = some (.cells #[c0,c1,c2,c3,c4,c5,c6,c7,c8,c9,c10,c11,c12,c13,c14,c15] T (0,0))) (v0:Value):(W.setCell ⟨g,2,none⟩ v0).heap[g]? = some (.cells #[c0,c1,v0,c3,c4,c5,c6,c7,c8,c9,c10,c11,c12,c13,c14,c15] T (0,0))∧Keeps1 g W (W.setCell ⟨g,2,none⟩ v0)∧(∀ {R:Nat} {w:World},BelowX R w W→w.heap.size≤g→R<w.heap.size→BelowX R w (W.setCell ⟨g,2,none⟩ v0)):=by
 refine ⟨?_,((Keeps1.refl _ _).set 2 v0),fun hb hg hr=>(hb.setNew g 2 v0 hg (Nat.le_of_lt hr))⟩
 have h:(W.setCell ⟨g,2,none⟩ v0).heap[g]? = some (.cells #[c0,c1,v0,c3,c4,c5,c6,c7,c8,c9,c10,c11,c12,c13,c14,c15] T (0,0)):=heap_setCell_same W g 2 _ _ v0 h
 generalize W.setCell ⟨g,2,none⟩ v0=W0 at h ⊢
 exact h
theorem st16o3k4 {W:World} {g:Nat} {T:TypeId} {c0 c1 c2 c3 c4 c5 c6 c7 c8 c9 c10 c11 c12 c13 c14 c15:Value} (h:W.heap[g]? = some (.cells #[c0,c1,c2,c3,c4,c5,c6,c7,c8,c9,c10,c11,c12,c13,c14,c15] T (0,0))) (v0 v1 v2 v3:Value):((((W.setCell ⟨g,3,none⟩ v0).setCell ⟨g,4,none⟩ v1).setCell ⟨g,5,none⟩ v2).setCell ⟨g,6,none⟩ v3).heap[g]? = some (.cells #[c0,c1,c2,v0,v1,v2,v3,c7,c8,c9,c10,c11,c12,c13,c14,c15] T (0,0))∧Keeps1 g W ((((W.setCell ⟨g,3,none⟩ v0).setCell ⟨g,4,none⟩ v1).setCell ⟨g,5,none⟩ v2).setCell ⟨g,6,none⟩ v3)∧(∀ {R:Nat} {w:World},BelowX R w W→w.heap.size≤g→R<w.heap.size→BelowX R w ((((W.setCell ⟨g,3,none⟩ v0).setCell ⟨g,4,none⟩ v1).setCell ⟨g,5,none⟩ v2).setCell ⟨g,6,none⟩ v3)):=by
 refine ⟨?_,(((((Keeps1.refl _ _).set 3 v0).set 4 v1).set 5 v2).set 6 v3),fun hb hg hr=>((((hb.setNew g 3 v0 hg (Nat.le_of_lt hr)).setNew g 4 v1 hg (Nat.le_of_lt hr)).setNew g 5 v2 hg (Nat.le_of_lt hr)).setNew g 6 v3 hg (Nat.le_of_lt hr))⟩
 have h:(W.setCell ⟨g,3,none⟩ v0).heap[g]? = some (.cells #[c0,c1,c2,v0,c4,c5,c6,c7,c8,c9,c10,c11,c12,c13,c14,c15] T (0,0)):=heap_setCell_same W g 3 _ _ v0 h
 generalize W.setCell ⟨g,3,none⟩ v0=W0 at h ⊢
 have h:(W0.setCell ⟨g,4,none⟩ v1).heap[g]? = some (.cells #[c0,c1,c2,v0,v1,c5,c6,c7,c8,c9,c10,c11,c12,c13,c14,c15] T (0,0)):=heap_setCell_same W0 g 4 _ _ v1 h
 generalize W0.setCell ⟨g,4,none⟩ v1=W1 at h ⊢
 have h:(W1.setCell ⟨g,5,none⟩ v2).heap[g]? = some (.cells #[c0,c1,c2,v0,v1,v2,c6,c7,c8,c9,c10,c11,c12,c13,c14,c15] T (0,0)):=heap_setCell_same W1 g 5 _ _ v2 h
 generalize W1.setCell ⟨g,5,none⟩ v2=W2 at h ⊢
 have h:(W2.setCell ⟨g,6,none⟩ v3).heap[g]? = some (.cells #[c0,c1,c2,v0,v1,v2,v3,c7,c8,c9,c10,c11,c12,c13,c14,c15] T (0,0)):=heap_setCell_same W2 g 6 _ _ v3 h
 generalize W2.setCell ⟨g,6,none⟩ v3=W3 at h ⊢
 exact h
theorem st16o7k1 {W:World} {g:Nat} {T:TypeId} {c0 c1 c2 c3 c4 c5 c6 c7 c8 c9 c10 c11 c12 c13 c14 c15:Value} (h:W.heap[g]? = some (.cells #[c0,c1,c2,c3,c4,c5,c6,c7,c8,c9,c10,c11,c12,c13,c14,c15] T (0,0))) (v0:Value):(W.setCell ⟨g,7,none⟩ v0).heap[g]? = some (.cells #[c0,c1,c2,c3,c4,c5,c6,v0,c8,c9,c10,c11,c12,c13,c14,c15] T (0,0))∧Keeps1 g W (W.setCell ⟨g,7,none⟩ v0)∧(∀ {R:Nat} {w:World},BelowX R w W→w.heap.size≤g→R<w.heap.size→BelowX R w (W.setCell ⟨g,7,none⟩ v0)):=by
 refine ⟨?_,((Keeps1.refl _ _).set 7 v0),fun hb hg hr=>(hb.setNew g 7 v0 hg (Nat.le_of_lt hr))⟩
 have h:(W.setCell ⟨g,7,none⟩ v0).heap[g]? = some (.cells #[c0,c1,c2,c3,c4,c5,c6,v0,c8,c9,c10,c11,c12,c13,c14,c15] T (0,0)):=heap_setCell_same W g 7 _ _ v0 h
 generalize W.setCell ⟨g,7,none⟩ v0=W0 at h ⊢
 exact h
theorem st16o8k1 {W:World} {g:Nat} {T:TypeId} {c0 c1 c2 c3 c4 c5 c6 c7 c8 c9 c10 c11 c12 c13 c14 c15:Value} (h:W.heap[g]? = some (.cells #[c0,c1,c2,c3,c4,c5,c6,c7,c8,c9,c10,c11,c12,c13,c14,c15] T (0,0))) (v0:Value):(W.setCell ⟨g,8,none⟩ v0).heap[g]? = some (.cells #[c0,c1,c2,c3,c4,c5,c6,c7,v0,c9,c10,c11,c12,c13,c14,c15] T (0,0))∧Keeps1 g W (W.setCell ⟨g,8,none⟩ v0)∧(∀ {R:Nat} {w:World},BelowX R w W→w.heap.size≤g→R<w.heap.size→BelowX R w (W.setCell ⟨g,8,none⟩ v0)):=by
 refine ⟨?_,((Keeps1.refl _ _).set 8 v0),fun hb hg hr=>(hb.setNew g 8 v0 hg (Nat.le_of_lt hr))⟩
 have h:(W.setCell ⟨g,8,none⟩ v0).heap[g]? = some (.cells #[c0,c1,c2,c3,c4,c5,c6,c7,v0,c9,c10,c11,c12,c13,c14,c15] T (0,0)):=heap_setCell_same W g 8 _ _ v0 h
 generalize W.setCell ⟨g,8,none⟩ v0=W0 at h ⊢
 exact h
theorem st16o9k7 {W:World} {g:Nat} {T:TypeId} {c0 c1 c2 c3 c4 c5 c6 c7 c8 c9 c10 c11 c12 c13 c14 c15:Value} (h:W.heap[g]? = some (.cells #[c0,c1,c2,c3,c4,c5,c6,c7,c8,c9,c10,c11,c12,c13,c14,c15] T (0,0))) (v0 v1 v2 v3 v4 v5 v6:Value):(((((((W.setCell ⟨g,9,none⟩ v0).setCell ⟨g,10,none⟩ v1).setCell ⟨g,11,none⟩ v2).setCell ⟨g,12,none⟩ v3).setCell ⟨g,13,none⟩ v4).setCell ⟨g,14,none⟩ v5).setCell ⟨g,15,none⟩ v6).heap[g]? = some (.cells #[c0,c1,c2,c3,c4,c5,c6,c7,c8,v0,v1,v2,v3,v4,v5,v6] T (0,0))∧Keeps1 g W (((((((W.setCell ⟨g,9,none⟩ v0).setCell ⟨g,10,none⟩ v1).setCell ⟨g,11,none⟩ v2).setCell ⟨g,12,none⟩ v3).setCell ⟨g,13,none⟩ v4).setCell ⟨g,14,none⟩ v5).setCell ⟨g,15,none⟩ v6)∧(∀ {R:Nat} {w:World},BelowX R w W→w.heap.size≤g→R<w.heap.size→BelowX R w (((((((W.setCell ⟨g,9,none⟩ v0).setCell ⟨g,10,none⟩ v1).setCell ⟨g,11,none⟩ v2).setCell ⟨g,12,none⟩ v3).setCell ⟨g,13,none⟩ v4).setCell ⟨g,14,none⟩ v5).setCell ⟨g,15,none⟩ v6)):=by
 refine ⟨?_,((((((((Keeps1.refl _ _).set 9 v0).set 10 v1).set 11 v2).set 12 v3).set 13 v4).set 14 v5).set 15 v6),fun hb hg hr=>(((((((hb.setNew g 9 v0 hg (Nat.le_of_lt hr)).setNew g 10 v1 hg (Nat.le_of_lt hr)).setNew g 11 v2 hg (Nat.le_of_lt hr)).setNew g 12 v3 hg (Nat.le_of_lt hr)).setNew g 13 v4 hg (Nat.le_of_lt hr)).setNew g 14 v5 hg (Nat.le_of_lt hr)).setNew g 15 v6 hg (Nat.le_of_lt hr))⟩
 have h:(W.setCell ⟨g,9,none⟩ v0).heap[g]? = some (.cells #[c0,c1,c2,c3,c4,c5,c6,c7,c8,v0,c10,c11,c12,c13,c14,c15] T (0,0)):=heap_setCell_same W g 9 _ _ v0 h
 generalize W.setCell ⟨g,9,none⟩ v0=W0 at h ⊢
 have h:(W0.setCell ⟨g,10,none⟩ v1).heap[g]? = some (.cells #[c0,c1,c2,c3,c4,c5,c6,c7,c8,v0,v1,c11,c12,c13,c14,c15] T (0,0)):=heap_setCell_same W0 g 10 _ _ v1 h
 generalize W0.setCell ⟨g,10,none⟩ v1=W1 at h ⊢
 have h:(W1.setCell ⟨g,11,none⟩ v2).heap[g]? = some (.cells #[c0,c1,c2,c3,c4,c5,c6,c7,c8,v0,v1,v2,c12,c13,c14,c15] T (0,0)):=heap_setCell_same W1 g 11 _ _ v2 h
 generalize W1.setCell ⟨g,11,none⟩ v2=W2 at h ⊢
 have h:(W2.setCell ⟨g,12,none⟩ v3).heap[g]? = some (.cells #[c0,c1,c2,c3,c4,c5,c6,c7,c8,v0,v1,v2,v3,c13,c14,c15] T (0,0)):=heap_setCell_same W2 g 12 _ _ v3 h
 generalize W2.setCell ⟨g,12,none⟩ v3=W3 at h ⊢
 have h:(W3.setCell ⟨g,13,none⟩ v4).heap[g]? = some (.cells #[c0,c1,c2,c3,c4,c5,c6,c7,c8,v0,v1,v2,v3,v4,c14,c15] T (0,0)):=heap_setCell_same W3 g 13 _ _ v4 h
 generalize W3.setCell ⟨g,13,none⟩ v4=W4 at h ⊢
 have h:(W4.setCell ⟨g,14,none⟩ v5).heap[g]? = some (.cells #[c0,c1,c2,c3,c4,c5,c6,c7,c8,v0,v1,v2,v3,v4,v5,c15] T (0,0)):=heap_setCell_same W4 g 14 _ _ v5 h
 generalize W4.setCell ⟨g,14,none⟩ v5=W5 at h ⊢
 have h:(W5.setCell ⟨g,15,none⟩ v6).heap[g]? = some (.cells #[c0,c1,c2,c3,c4,c5,c6,c7,c8,v0,v1,v2,v3,v4,v5,v6] T (0,0)):=heap_setCell_same W5 g 15 _ _ v6 h
 generalize W5.setCell ⟨g,15,none⟩ v6=W6 at h ⊢
 exact h
theorem inserted_at {w:World} {R tb:Nat} {ts:List Tk} (h:RdAt w R tb ts 0):Calls Tryz.prog 109 #[.pointer (some ⟨R,0,none⟩)] w (Ends R tb 0 w (VStm w.heap.size) (insertedP ts)):=by
 have hmf:∀ (fn:Fn) (first cap:Array Value) (w:World),(Instr.makeFunc fn first cap).run Tryz.prog w = .ok (.func fn first cap) w:=fun _ _ _ _=>rfl
 have hltR:=h.lt
 have hltT:=h.ltb
 have hx0:BelowX R w w:=BelowX.refl _ _
 have HR0:Hid (RdAt w R tb ts 0):=h
 generalize hM:insertedP ts=M
 unfold insertedP at hM
 try dsimp only at hM
 have HM0:Hid _:=hM
 clear h hM
 go_enter Tryz.func109,Tryz.ntmps109
 go_upto_region 1 with fail
 have hal1:Below w.heap.size w (w.alloc (.cells z16A 49)):=(Below.refl _ _).alloc (Nat.le_refl _) _
 have Q2:=heap_new w z16A 49
 have hsg6:=hx0.size
 generalize w.alloc (.cells z16A 49)=w3 at *
 have hx4:BelowX R w w3:=hx0.trans (.of hal1 (by omega))
 have HR5:Hid (RdAt w3 R tb ts 0):=HR0.out.next hal1
 clear HR0 hx0 hal1
 have hal8:Below w3.heap.size w3 (w3.alloc (.cells #[.string ⟨#[105,110,116,111]⟩] 9)):=(Below.refl _ _).alloc (Nat.le_refl _) _
 have hsz:=hx4.size
 have con9:=must_at (cap:=1) (HR5.out.next hal8) (StrAt.one w3 ⟨#[105,110,116,111]⟩ 9) (by omega) (by simp)
 have hm:=HM0.out
 generalize mustP [⟨#[105,110,116,111]⟩] ts=L at hm con9
 have HM15:Hid _:=hm
 clear hm HM0 HR5
 go_wp2_with fail
 generalize w3.alloc (.cells #[.string ⟨#[105,110,116,111]⟩] 9)=wa11 at *
 refine con9.mono ?_
 rintro e w10 ⟨hb12,hW⟩
 have hxa13:BelowX R w3 w10:=(BelowX.of hal8 (by omega)).trans hb12
 have hx14:=hx4.trans hxa13
 have Q17:=(hxa13.2 _ (lt_of_heap Q2) (by omega)).trans Q2
 clear Q2
 clear con9 hal8 hb12 hxa13 hx4 hsz
 rcases L with ce | ⟨u18,r16⟩
 ·obtain ⟨rfl,us,hE⟩:=hW
  have HE:Hid (RdAt w10 R tb us 0):=hE
  clear hE
  have e:M = .error ce:=HM15.out.symm
  subst e
  clear HM15
  go_wp2_with fail
  exact ⟨rfl,Ends.err rfl hx14 HE.out⟩
 obtain ⟨v,rfl,rfl,hR⟩:=hW
 have HR19:Hid (RdAt w10 R tb r16 0):=hR
 have hm:=HM15.out
 simp only [bnd_okk] at hm
 have HM20:Hid _:=hm
 clear hm hR HM15
 have hsz:=hx14.size
 have con21:=name_at HR19.out
 have hm:=HM20.out
 generalize nameP r16=L at hm con21
 have HM25:Hid _:=hm
 clear hm HM20 HR19
 have hl_g6:=lt_of_heap Q17
 go_wp2_with fail
 refine con21.mono ?_
 rintro e w22 ⟨hb23,hW⟩
 have hx24:=hx14.trans hb23
 have Q27:=(hb23.2 _ (lt_of_heap Q17) (by omega)).trans Q17
 clear Q17
 clear con21 hb23 hx14
 rcases L with ce | ⟨nm,r26⟩
 ·obtain ⟨rfl,us,hE⟩:=hW
  have HE:Hid (RdAt w22 R tb us 0):=hE
  clear hE
  have e:M = .error ce:=HM25.out.symm
  subst e
  clear HM25
  go_wp2_with fail
  exact ⟨rfl,Ends.err rfl hx24 HE.out⟩
 obtain ⟨v,rfl,rfl,hR⟩:=hW
 have HR28:Hid (RdAt w22 R tb r26 0):=hR
 have hm:=HM25.out
 simp only [bnd_okk] at hm
 have HM29:Hid _:=hm
 clear hm hR HM25
 clear hsz hl_g6
 go_upto_region 3 with (first | (refine wpList_store_new rfl 49 _ _ rfl z16A #[.int .i64 3,.string nm,.slice none 0 0,.slice none 0 0,.slice none 0 0,.slice none 0 0,.int .i64 0,.slice none 0 0,.bool false,.int .i64 0,.int .i64 0,.int .i64 0,.string ⟨#[]⟩,.string ⟨#[]⟩,.string ⟨#[]⟩,.slice none 0 0] rfl rfl sz16 rfl (all1 rfl) ?_))
 have hbl_g6_g35:=lt_of_heap Q27
 have hal30:Below w22.heap.size w22 (w22.alloc (.cells #[.int .i64 3,.string nm,.slice none 0 0,.slice none 0 0,.slice none 0 0,.slice none 0 0,.int .i64 0,.slice none 0 0,.bool false,.int .i64 0,.int .i64 0,.int .i64 0,.string ⟨#[]⟩,.string ⟨#[]⟩,.string ⟨#[]⟩,.slice none 0 0] 49)):=(Below.refl _ _).alloc (Nat.le_refl _) _
 have Q31:=heap_new w22 #[.int .i64 3,.string nm,.slice none 0 0,.slice none 0 0,.slice none 0 0,.slice none 0 0,.int .i64 0,.slice none 0 0,.bool false,.int .i64 0,.int .i64 0,.int .i64 0,.string ⟨#[]⟩,.string ⟨#[]⟩,.string ⟨#[]⟩,.slice none 0 0] 49
 have hsg35:=hx24.size
 generalize w22.alloc (.cells #[.int .i64 3,.string nm,.slice none 0 0,.slice none 0 0,.slice none 0 0,.slice none 0 0,.int .i64 0,.slice none 0 0,.bool false,.int .i64 0,.int .i64 0,.int .i64 0,.string ⟨#[]⟩,.string ⟨#[]⟩,.string ⟨#[]⟩,.slice none 0 0] 49)=w32 at *
 have Q37:=(hal30.block _ (lt_of_heap Q27)).trans Q27
 clear Q27
 have hx33:BelowX R w w32:=hx24.trans (.of hal30 (by omega))
 have HR34:Hid (RdAt w32 R tb r26 0):=HR28.out.next hal30
 clear HR28 hx24 hal30
 generalize hqg35:w22.heap.size=g35 at *
 clear hqg35
 have hal38:Below w32.heap.size w32 (w32.alloc (.cells #[.string ⟨#[118,97,108,117,101,115]⟩] 9)):=(Below.refl _ _).alloc (Nat.le_refl _) _
 have hsz:=hx33.size
 have con39:=must_at (cap:=1) (HR34.out.next hal38) (StrAt.one w32 ⟨#[118,97,108,117,101,115]⟩ 9) (by omega) (by simp)
 have hm:=HM29.out
 generalize mustP [⟨#[118,97,108,117,101,115]⟩] r26=L at hm con39
 have HM45:Hid _:=hm
 clear hm HM29 HR34
 go_wp2_with fail
 generalize w32.alloc (.cells #[.string ⟨#[118,97,108,117,101,115]⟩] 9)=wa41 at *
 refine con39.mono ?_
 rintro e w40 ⟨hb42,hW⟩
 have hxa43:BelowX R w32 w40:=(BelowX.of hal38 (by omega)).trans hb42
 have hx44:=hx33.trans hxa43
 have Q47:=(hxa43.2 _ (lt_of_heap Q37) (by omega)).trans Q37
 clear Q37
 have Q48:=(hxa43.2 _ (lt_of_heap Q31) (by omega)).trans Q31
 clear Q31
 clear con39 hal38 hb42 hxa43 hx33 hsz
 rcases L with ce | ⟨u49,r46⟩
 ·obtain ⟨rfl,us,hE⟩:=hW
  have HE:Hid (RdAt w40 R tb us 0):=hE
  clear hE
  have e:M = .error ce:=HM45.out.symm
  subst e
  clear HM45
  go_wp2_with fail
  exact ⟨rfl,Ends.err rfl hx44 HE.out⟩
 obtain ⟨v,rfl,rfl,hR⟩:=hW
 have HR50:Hid (RdAt w40 R tb r46 0):=hR
 have hm:=HM45.out
 simp only [bnd_okk] at hm
 have HM51:Hid _:=hm
 clear hm hR HM45
 have hsz:=hx44.size
 have con52:=commasR_at HR50.out
 have hm:=HM51.out
 generalize commasP rowP 400 401 r46=L at hm con52
 have HM56:Hid _:=hm
 clear hm HM51 HR50
 have hl_g6:=lt_of_heap Q47
 have hl_g35:=lt_of_heap Q48
 go_wp2_with fail
 refine con52.mono ?_
 rintro e w53 ⟨hb54,hW⟩
 have hx55:=hx44.trans hb54
 have Q58:=(hb54.2 _ (lt_of_heap Q47) (by omega)).trans Q47
 clear Q47
 have Q59:=(hb54.2 _ (lt_of_heap Q48) (by omega)).trans Q48
 clear Q48
 clear con52 hb54 hx44
 rcases L with ce | ⟨l,r57⟩
 ·obtain ⟨rfl,us,hE⟩:=hW
  have HE:Hid (RdAt w53 R tb us 0):=hE
  clear hE
  have e:M = .error ce:=HM56.out.symm
  subst e
  clear HM56
  go_wp2_with fail
  exact ⟨rfl,Ends.err rfl hx55 HE.out⟩
 obtain ⟨v,rfl,⟨a2,c2,rfl,hls⟩,hR⟩:=hW
 have HR60:Hid (RdAt w53 R tb r57 0):=hR
 have hm:=HM56.out
 simp only [bnd_okk] at hm
 have HM61:Hid _:=hm
 clear hm hR HM56
 have HK62:Hid ((EnL (EnL En3 3) 1) (fun b=>g35<b) w53 l [.slice a2 l.length c2]):=(enL (enL en3 3) 1).mono (S:=fun b=>w40.heap.size≤b) (fun b h _=>by have:_≤b:=h; show g35<b; omega) (⟨a2,c2,rfl,hls⟩)
 clear hls
 clear hsz hl_g6 hl_g35
 have z63:w53.cell? ⟨g35,7,none⟩=some (.slice none 0 0):=cell_of (i:=7) Q59 rfl
 have z63f:=frozen_of_row w53 g35 7 _ _ Q59
 go_upto_region 5 with fail
 obtain ⟨Q68,hk65,hbx⟩:=st16o7k1 Q59 (.slice a2 l.length c2)
 have hx66:=hbx hx55 (by omega) (by omega)
 clear hbx z63 z63f
 generalize (w53.setCell ⟨g35,7,none⟩ (.slice a2 l.length c2))=w64 at *
 have Q69:=(hk65.2 _ (lt_of_heap Q58) (by omega)).trans Q58
 clear Q58
 have HK70:Hid ((EnL (EnL En3 3) 1) (fun b=>g35<b) w64 l [.slice a2 l.length c2]):=(enL (enL en3 3) 1).next (hk65.k (by show ¬ _; omega)) HK62.out
 clear HK62
 clear Q59
 have HR67:Hid (RdAt w64 R tb r57 0):=HR60.out.k1 hk65 (by omega) (by omega) (by have:=HR60.out.r2; omega)
 clear HR60 hk65 hx55
 have e:=HM61.out
 subst e
 clear HM61
 go_wp2_with (first | (refine wpList_load_row rfl 49 _ rfl g35 rfl 49 #[.int .i64 3,.string nm,.slice none 0 0,.slice none 0 0,.slice none 0 0,.slice none 0 0,.int .i64 0,.slice a2 l.length c2,.bool false,.int .i64 0,.int .i64 0,.int .i64 0,.string ⟨#[]⟩,.string ⟨#[]⟩,.string ⟨#[]⟩,.slice none 0 0] (0,0) _ Q68 Tryz.underlying49 rfl sz16 ?_) | (refine wpList_store_row rfl 49 _ _ rfl w.heap.size #[.int .i64 3,.string nm,.slice none 0 0,.slice none 0 0,.slice none 0 0,.slice none 0 0,.int .i64 0,.slice a2 l.length c2,.bool false,.int .i64 0,.int .i64 0,.int .i64 0,.string ⟨#[]⟩,.string ⟨#[]⟩,.string ⟨#[]⟩,.slice none 0 0] rfl rfl 49 z16A Q69 sz16 rfl (all1 rfl) ?_))
 obtain ⟨QE,hRE,hbE,hkE⟩:=row_all (w:=w) Q69 HR67.out hx66 (by omega) hltR hltT #[.int .i64 3,.string nm,.slice none 0 0,.slice none 0 0,.slice none 0 0,.slice none 0 0,.int .i64 0,.slice a2 l.length c2,.bool false,.int .i64 0,.int .i64 0,.int .i64 0,.string ⟨#[]⟩,.string ⟨#[]⟩,.string ⟨#[]⟩,.slice none 0 0]
 generalize w64.setRow w.heap.size #[.int .i64 3,.string nm,.slice none 0 0,.slice none 0 0,.slice none 0 0,.slice none 0 0,.int .i64 0,.slice a2 l.length c2,.bool false,.int .i64 0,.int .i64 0,.int .i64 0,.string ⟨#[]⟩,.string ⟨#[]⟩,.string ⟨#[]⟩,.slice none 0 0]=wE at *
 have L0:(EnL (EnL En3 3) 1) (fun b=>w.heap.size≤b) wE l [.slice a2 l.length c2]:=(enL (enL en3 3) 1).mono (fun b h _=>by have:g35<b:=h; show _≤b; omega) ((enL (enL en3 3) 1).next (hkE.k (by show ¬ _; omega)) HK70.out)
 exact bodyPost_ret (v:=.agg #[.int .i64 3,.string nm,.slice none 0 0,.slice none 0 0,.slice none 0 0,.slice none 0 0,.int .i64 0,.slice a2 l.length c2,.bool false,.int .i64 0,.int .i64 0,.int .i64 0,.string ⟨#[]⟩,.string ⟨#[]⟩,.string ⟨#[]⟩,.slice none 0 0]) (results_cell_row Tryz.results109 _ _ _ _ _ _ _ rfl QE Tryz.underlying49 rfl sz16) rfl (Ends.good (x:=(⟨3,nm,[],qry0,l,false,sx0⟩:Stm)) rfl hbE (⟨none,0,none,0,none,0,none,0,a2,c2,none,0,rfl,.inl rfl,.inl rfl,.inl rfl,.inl rfl,L0.ls,SsS.nil _⟩) hRE)
theorem deleted_at {w:World} {R tb:Nat} {ts:List Tk} (h:RdAt w R tb ts 0):Calls Tryz.prog 110 #[.pointer (some ⟨R,0,none⟩)] w (Ends R tb 0 w (VStm w.heap.size) (deletedP ts)):=by
 have hmf:∀ (fn:Fn) (first cap:Array Value) (w:World),(Instr.makeFunc fn first cap).run Tryz.prog w = .ok (.func fn first cap) w:=fun _ _ _ _=>rfl
 have hltR:=h.lt
 have hltT:=h.ltb
 have hx0:BelowX R w w:=BelowX.refl _ _
 have HR0:Hid (RdAt w R tb ts 0):=h
 generalize hM:deletedP ts=M
 unfold deletedP at hM
 try dsimp only at hM
 have HM0:Hid _:=hM
 clear h hM
 go_enter Tryz.func110,Tryz.ntmps110
 go_upto_region 1 with fail
 have hal1:Below w.heap.size w (w.alloc (.cells z16A 49)):=(Below.refl _ _).alloc (Nat.le_refl _) _
 have Q2:=heap_new w z16A 49
 have hsg6:=hx0.size
 generalize w.alloc (.cells z16A 49)=w3 at *
 have hx4:BelowX R w w3:=hx0.trans (.of hal1 (by omega))
 have HR5:Hid (RdAt w3 R tb ts 0):=HR0.out.next hal1
 clear HR0 hx0 hal1
 have hal8:Below w3.heap.size w3 (w3.alloc (.cells #[.string ⟨#[102,114,111,109]⟩] 9)):=(Below.refl _ _).alloc (Nat.le_refl _) _
 have hsz:=hx4.size
 have con9:=must_at (cap:=1) (HR5.out.next hal8) (StrAt.one w3 ⟨#[102,114,111,109]⟩ 9) (by omega) (by simp)
 have hm:=HM0.out
 generalize mustP [⟨#[102,114,111,109]⟩] ts=L at hm con9
 have HM15:Hid _:=hm
 clear hm HM0 HR5
 go_wp2_with fail
 generalize w3.alloc (.cells #[.string ⟨#[102,114,111,109]⟩] 9)=wa11 at *
 refine con9.mono ?_
 rintro e w10 ⟨hb12,hW⟩
 have hxa13:BelowX R w3 w10:=(BelowX.of hal8 (by omega)).trans hb12
 have hx14:=hx4.trans hxa13
 have Q17:=(hxa13.2 _ (lt_of_heap Q2) (by omega)).trans Q2
 clear Q2
 clear con9 hal8 hb12 hxa13 hx4 hsz
 rcases L with ce | ⟨u18,r16⟩
 ·obtain ⟨rfl,us,hE⟩:=hW
  have HE:Hid (RdAt w10 R tb us 0):=hE
  clear hE
  have e:M = .error ce:=HM15.out.symm
  subst e
  clear HM15
  go_wp2_with fail
  exact ⟨rfl,Ends.err rfl hx14 HE.out⟩
 obtain ⟨v,rfl,rfl,hR⟩:=hW
 have HR19:Hid (RdAt w10 R tb r16 0):=hR
 have hm:=HM15.out
 simp only [bnd_okk] at hm
 have HM20:Hid _:=hm
 clear hm hR HM15
 have hsz:=hx14.size
 have con21:=name_at HR19.out
 have hm:=HM20.out
 generalize nameP r16=L at hm con21
 have HM25:Hid _:=hm
 clear hm HM20 HR19
 have hl_g6:=lt_of_heap Q17
 go_wp2_with fail
 refine con21.mono ?_
 rintro e w22 ⟨hb23,hW⟩
 have hx24:=hx14.trans hb23
 have Q27:=(hb23.2 _ (lt_of_heap Q17) (by omega)).trans Q17
 clear Q17
 clear con21 hb23 hx14
 rcases L with ce | ⟨nm,r26⟩
 ·obtain ⟨rfl,us,hE⟩:=hW
  have HE:Hid (RdAt w22 R tb us 0):=hE
  clear hE
  have e:M = .error ce:=HM25.out.symm
  subst e
  clear HM25
  go_wp2_with fail
  exact ⟨rfl,Ends.err rfl hx24 HE.out⟩
 obtain ⟨v,rfl,rfl,hR⟩:=hW
 have HR28:Hid (RdAt w22 R tb r26 0):=hR
 have hm:=HM25.out
 simp only [bnd_okk] at hm
 have HM29:Hid _:=hm
 clear hm hR HM25
 clear hsz hl_g6
 go_upto_region 3 with (first | (refine wpList_store_new rfl 49 _ _ rfl z16A #[.int .i64 4,.string nm,.slice none 0 0,.slice none 0 0,.slice none 0 0,.slice none 0 0,.int .i64 0,.slice none 0 0,.bool false,.int .i64 0,.int .i64 0,.int .i64 0,.string ⟨#[]⟩,.string ⟨#[]⟩,.string ⟨#[]⟩,.slice none 0 0] rfl rfl sz16 rfl (all1 rfl) ?_))
 have hbl_g6_g35:=lt_of_heap Q27
 have hal30:Below w22.heap.size w22 (w22.alloc (.cells #[.int .i64 4,.string nm,.slice none 0 0,.slice none 0 0,.slice none 0 0,.slice none 0 0,.int .i64 0,.slice none 0 0,.bool false,.int .i64 0,.int .i64 0,.int .i64 0,.string ⟨#[]⟩,.string ⟨#[]⟩,.string ⟨#[]⟩,.slice none 0 0] 49)):=(Below.refl _ _).alloc (Nat.le_refl _) _
 have Q31:=heap_new w22 #[.int .i64 4,.string nm,.slice none 0 0,.slice none 0 0,.slice none 0 0,.slice none 0 0,.int .i64 0,.slice none 0 0,.bool false,.int .i64 0,.int .i64 0,.int .i64 0,.string ⟨#[]⟩,.string ⟨#[]⟩,.string ⟨#[]⟩,.slice none 0 0] 49
 have hsg35:=hx24.size
 generalize w22.alloc (.cells #[.int .i64 4,.string nm,.slice none 0 0,.slice none 0 0,.slice none 0 0,.slice none 0 0,.int .i64 0,.slice none 0 0,.bool false,.int .i64 0,.int .i64 0,.int .i64 0,.string ⟨#[]⟩,.string ⟨#[]⟩,.string ⟨#[]⟩,.slice none 0 0] 49)=w32 at *
 have Q37:=(hal30.block _ (lt_of_heap Q27)).trans Q27
 clear Q27
 have hx33:BelowX R w w32:=hx24.trans (.of hal30 (by omega))
 have HR34:Hid (RdAt w32 R tb r26 0):=HR28.out.next hal30
 clear HR28 hx24 hal30
 generalize hqg35:w22.heap.size=g35 at *
 clear hqg35
 have hsz:=hx33.size
 have con38:=exprBehind_at HR34.out ⟨#[119,104,101,114,101]⟩
 have hm:=HM29.out
 generalize exprBehindP ⟨#[119,104,101,114,101]⟩ r26=L at hm con38
 have HM42:Hid _:=hm
 clear hm HM29 HR34
 have hl_g6:=lt_of_heap Q37
 have hl_g35:=lt_of_heap Q31
 go_wp2_with fail
 refine con38.mono ?_
 rintro e w39 ⟨hb40,hW⟩
 have hx41:=hx33.trans hb40
 have Q44:=(hb40.2 _ (lt_of_heap Q37) (by omega)).trans Q37
 clear Q37
 have Q45:=(hb40.2 _ (lt_of_heap Q31) (by omega)).trans Q31
 clear Q31
 clear con38 hb40 hx33
 rcases L with ce | ⟨hw,r43⟩
 ·obtain ⟨rfl,us,hE⟩:=hW
  have HE:Hid (RdAt w39 R tb us 0):=hE
  clear hE
  have e:M = .error ce:=HM42.out.symm
  subst e
  clear HM42
  go_wp2_with fail
  exact ⟨rfl,Ends.err rfl hx41 HE.out⟩
 obtain ⟨v,rfl,⟨a3,c3,rfl,hks⟩,hR⟩:=hW
 have HR46:Hid (RdAt w39 R tb r43 0):=hR
 have hm:=HM42.out
 simp only [bnd_okk] at hm
 have HM47:Hid _:=hm
 clear hm hR HM42
 have HK48:Hid (En7 (fun b=>g35<b) w39 hw.2 [.int .i64 hw.2.k,.int .i64 hw.2.v.1,.int .i64 hw.2.v.2.1,.string hw.2.v.2.2,.string hw.2.tab,.string hw.2.name,.slice a3 hw.2.ks.length c3]):=en7.mono (S:=fun b=>w32.heap.size≤b) (fun b h _=>by have:_≤b:=h; show g35<b; omega) (⟨a3,c3,rfl,hks⟩)
 clear hks
 clear hsz hl_g6 hl_g35
 have z49:w39.cell? ⟨g35,8,none⟩=some (.bool false):=cell_of (i:=8) Q45 rfl
 have z49f:=frozen_of_row w39 g35 8 _ _ Q45
 have z50:w39.cell? ⟨g35,9,none⟩=some (.int .i64 0):=cell_of (i:=9) Q45 rfl
 have z50f:=frozen_of_row w39 g35 9 _ _ Q45
 have z51:w39.cell? ⟨g35,10,none⟩=some (.int .i64 0):=cell_of (i:=10) Q45 rfl
 have z51f:=frozen_of_row w39 g35 10 _ _ Q45
 have z52:w39.cell? ⟨g35,11,none⟩=some (.int .i64 0):=cell_of (i:=11) Q45 rfl
 have z52f:=frozen_of_row w39 g35 11 _ _ Q45
 have z53:w39.cell? ⟨g35,12,none⟩=some (.string ⟨#[]⟩):=cell_of (i:=12) Q45 rfl
 have z53f:=frozen_of_row w39 g35 12 _ _ Q45
 have z54:w39.cell? ⟨g35,13,none⟩=some (.string ⟨#[]⟩):=cell_of (i:=13) Q45 rfl
 have z54f:=frozen_of_row w39 g35 13 _ _ Q45
 have z55:w39.cell? ⟨g35,14,none⟩=some (.string ⟨#[]⟩):=cell_of (i:=14) Q45 rfl
 have z55f:=frozen_of_row w39 g35 14 _ _ Q45
 have z56:w39.cell? ⟨g35,15,none⟩=some (.slice none 0 0):=cell_of (i:=15) Q45 rfl
 have z56f:=frozen_of_row w39 g35 15 _ _ Q45
 go_upto_region 4 with fail
 obtain ⟨Q61,hk58,hbx⟩:=st16o8k1 Q45 (.bool hw.1)
 have hx59:=hbx hx41 (by omega) (by omega)
 clear hbx 
 generalize (w39.setCell ⟨g35,8,none⟩ (.bool hw.1))=w57 at *
 have Q62:=(hk58.2 _ (lt_of_heap Q44) (by omega)).trans Q44
 clear Q44
 have HK63:Hid (En7 (fun b=>g35<b) w57 hw.2 [.int .i64 hw.2.k,.int .i64 hw.2.v.1,.int .i64 hw.2.v.2.1,.string hw.2.v.2.2,.string hw.2.tab,.string hw.2.name,.slice a3 hw.2.ks.length c3]):=en7.next (hk58.k (by show ¬ _; omega)) HK48.out
 clear HK48
 clear Q45
 have HR60:Hid (RdAt w57 R tb r43 0):=HR46.out.k1 hk58 (by omega) (by omega) (by have:=HR46.out.r2; omega)
 clear HR46 hk58 hx41
 obtain ⟨Q68,hk65,hbx⟩:=st16o9k7 Q61 (.int .i64 hw.2.k) (.int .i64 hw.2.v.1) (.int .i64 hw.2.v.2.1) (.string hw.2.v.2.2) (.string hw.2.tab) (.string hw.2.name) (.slice a3 hw.2.ks.length c3)
 have hx66:=hbx hx59 (by omega) (by omega)
 clear hbx z49 z49f z50 z50f z51 z51f z52 z52f z53 z53f z54 z54f z55 z55f z56 z56f
 generalize (((((((w57.setCell ⟨g35,9,none⟩ (.int .i64 hw.2.k)).setCell ⟨g35,10,none⟩ (.int .i64 hw.2.v.1)).setCell ⟨g35,11,none⟩ (.int .i64 hw.2.v.2.1)).setCell ⟨g35,12,none⟩ (.string hw.2.v.2.2)).setCell ⟨g35,13,none⟩ (.string hw.2.tab)).setCell ⟨g35,14,none⟩ (.string hw.2.name)).setCell ⟨g35,15,none⟩ (.slice a3 hw.2.ks.length c3))=w64 at *
 have Q69:=(hk65.2 _ (lt_of_heap Q62) (by omega)).trans Q62
 clear Q62
 have HK70:Hid (En7 (fun b=>g35<b) w64 hw.2 [.int .i64 hw.2.k,.int .i64 hw.2.v.1,.int .i64 hw.2.v.2.1,.string hw.2.v.2.2,.string hw.2.tab,.string hw.2.name,.slice a3 hw.2.ks.length c3]):=en7.next (hk65.k (by show ¬ _; omega)) HK63.out
 clear HK63
 clear Q61
 have HR67:Hid (RdAt w64 R tb r43 0):=HR60.out.k1 hk65 (by omega) (by omega) (by have:=HR60.out.r2; omega)
 clear HR60 hk65 hx59
 have e:=HM47.out
 subst e
 clear HM47
 go_wp2_with (first | (refine wpList_load_row rfl 49 _ rfl g35 rfl 49 #[.int .i64 4,.string nm,.slice none 0 0,.slice none 0 0,.slice none 0 0,.slice none 0 0,.int .i64 0,.slice none 0 0,.bool hw.1,.int .i64 hw.2.k,.int .i64 hw.2.v.1,.int .i64 hw.2.v.2.1,.string hw.2.v.2.2,.string hw.2.tab,.string hw.2.name,.slice a3 hw.2.ks.length c3] (0,0) _ Q68 Tryz.underlying49 rfl sz16 ?_) | (refine wpList_store_row rfl 49 _ _ rfl w.heap.size #[.int .i64 4,.string nm,.slice none 0 0,.slice none 0 0,.slice none 0 0,.slice none 0 0,.int .i64 0,.slice none 0 0,.bool hw.1,.int .i64 hw.2.k,.int .i64 hw.2.v.1,.int .i64 hw.2.v.2.1,.string hw.2.v.2.2,.string hw.2.tab,.string hw.2.name,.slice a3 hw.2.ks.length c3] rfl rfl 49 z16A Q69 sz16 rfl (all1 rfl) ?_))
 obtain ⟨QE,hRE,hbE,hkE⟩:=row_all (w:=w) Q69 HR67.out hx66 (by omega) hltR hltT #[.int .i64 4,.string nm,.slice none 0 0,.slice none 0 0,.slice none 0 0,.slice none 0 0,.int .i64 0,.slice none 0 0,.bool hw.1,.int .i64 hw.2.k,.int .i64 hw.2.v.1,.int .i64 hw.2.v.2.1,.string hw.2.v.2.2,.string hw.2.tab,.string hw.2.name,.slice a3 hw.2.ks.length c3]
 generalize w64.setRow w.heap.size #[.int .i64 4,.string nm,.slice none 0 0,.slice none 0 0,.slice none 0 0,.slice none 0 0,.int .i64 0,.slice none 0 0,.bool hw.1,.int .i64 hw.2.k,.int .i64 hw.2.v.1,.int .i64 hw.2.v.2.1,.string hw.2.v.2.2,.string hw.2.tab,.string hw.2.name,.slice a3 hw.2.ks.length c3]=wE at *
 have L0:En7 (fun b=>w.heap.size≤b) wE hw.2 [.int .i64 hw.2.k,.int .i64 hw.2.v.1,.int .i64 hw.2.v.2.1,.string hw.2.v.2.2,.string hw.2.tab,.string hw.2.name,.slice a3 hw.2.ks.length c3]:=en7.mono (fun b h _=>by have:g35<b:=h; show _≤b; omega) (en7.next (hkE.k (by show ¬ _; omega)) HK70.out)
 exact bodyPost_ret (v:=.agg #[.int .i64 4,.string nm,.slice none 0 0,.slice none 0 0,.slice none 0 0,.slice none 0 0,.int .i64 0,.slice none 0 0,.bool hw.1,.int .i64 hw.2.k,.int .i64 hw.2.v.1,.int .i64 hw.2.v.2.1,.string hw.2.v.2.2,.string hw.2.tab,.string hw.2.name,.slice a3 hw.2.ks.length c3]) (results_cell_row Tryz.results110 _ _ _ _ _ _ _ rfl QE Tryz.underlying49 rfl sz16) rfl (Ends.good (x:=(⟨4,nm,[],qry0,[],hw.1,hw.2⟩:Stm)) rfl hbE (⟨none,0,none,0,none,0,none,0,none,0,a3,c3,rfl,.inl rfl,.inl rfl,.inl rfl,.inl rfl,.inl rfl,L0.ks⟩) hRE)
end Go.Proofs.YtklgehkhfidpmaaGreatDoor
