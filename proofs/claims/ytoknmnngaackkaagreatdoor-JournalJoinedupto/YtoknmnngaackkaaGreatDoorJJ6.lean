/- Together: BF, BG, BH, BI, BJ, BK, BL, BM, BN. -/
import Derived.Deep.LoopGhost
import Derived.Deep.DeepCutAuto
import Derived.Deep.CutBlock
import Derived.Test.YtoknmnngaackkaaGreatDoorJJ5
/- Tokens. -/
namespace Go.Proofs.YtoknmnngaackkaaGreatDoor
open Go.RowKit Go.Lib Go.Shelf
set_option maxRecDepth 100000
set_option maxHeartbeats 8000000

def EnK:EnT Tk:=fun _ _ x cs=>cs = [.int .i64 x.1,.string x.2.1,.int .i64 x.2.2]
theorem enK:EnOk EnK:=⟨fun _ h=>h,fun _ h=>h⟩
theorem infoK:(Tryz.prog.info? 152).map (fun i=>(i.zero,i.size,i.bytes))=some (some (.agg #[.int .i64 0,.string ⟨#[]⟩,.int .i64 0]),3,32):=by kernel_rfl
/-- Something ahead. -/
def emap {α β:Type} (f:α→β):Except Er α→Except Er β
 | .error e=>.error e
 | .ok x=>.ok (f x)
theorem OwnE.lsc {α:Type} {En:EnT α} (ok:EnOk En) {e size base:Nat} {S:Nat→Prop} {W:World} {v:Value} {l:List α} (h:OwnE En e size base S W v l) (hs:∀ b,base≤b→S b):∃ a cap,v = .slice a l.length cap∧l.length≤cap∧LsE En size S W a l:=by
 obtain ⟨a,cap,rfl,hl⟩:=h.ls ok hs;refine ⟨a,cap,rfl,?_,hl⟩;obtain ⟨xs,⟨_,⟨e,hn⟩ | ⟨g,c',cur,e,_,_,hc,_⟩⟩,_⟩:=h
 ·rw [hn]; exact Nat.zero_le _
 ·injection e with _ _ e
  omega
theorem tokG_nil (n:Nat) (p:Int):tokG (n+1) [] p = .ok [(5,eB,p)]:=by rw [tokG,if_pos rfl]
theorem tokG_cons (n:Nat) (l:List UInt8) (p:Int) (h:l ≠ []):tokG (n+1) l p=match tokAtL l p with
  | .error e=>.error e
  | .ok (t,j)=>emap (fun ts=>t :: ts) (tokG n ((l.drop j).drop (clsN blaB (l.drop j))) (p+j+clsN blaB (l.drop j))):=by
 rw [tokG,if_neg h];rcases tokAtL l p with e | ⟨t,j⟩
 ·rfl
 ·simp only;rcases tokG n ((l.drop j).drop (clsN blaB (l.drop j))) (p+j+clsN blaB (l.drop j)) with e | ts <;> rfl
theorem textL_len {p:Int}:∀ (l:List UInt8) (k:Nat) (out:List UInt8) {t:Tk} {j:Nat},textL p l k out = .ok (t,j)→k<j∧j≤k+l.length
 | [],k,out,t,j,h=>by rw [textL] at h; cases h
 | [c],k,out,t,j,h=>by
  rw [textL] at h
  split at h
  ·unfold textF at h
   split at h
   ·cases h
   ·injection h with h; injection h with _ h; simp; omega
  ·cases h
 | c :: d :: r,k,out,t,j,h=>by
  rw [textL] at h
  split at h
  ·split at h
   ·have:=textL_len r (k+2) _ h
    simp; omega
   ·unfold textF at h
    split at h
    ·cases h
    ·injection h with h; injection h with _ h; simp; omega
  ·have:=textL_len (d :: r) (k+1) _ h
   simp at this ⊢; omega
theorem signL_len {l:List UInt8} {p:Int}:∀ (gs:List (List UInt8)),(∀ g ∈ gs,1≤g.length)→∀ {t:Tk} {j:Nat},signL l p gs = .ok (t,j)→1≤j∧j≤l.length
 | [],_,t,j,h=>by rw [signL] at h; cases h
 | g :: gs,hg,t,j,h=>by
  rw [signL] at h
  split at h
  ·rename_i hp
   injection h with h; injection h with _ h
   subst h
   exact ⟨hg g (by simp),by
    have:g <+: l:=List.isPrefixOf_iff_prefix.1 hp
    exact this.length_le⟩
  ·exact signL_len gs (fun g h=>hg g (by simp [h])) h
theorem clsN_pos {f:Int→Bool} {l:List UInt8} (hl:l ≠ []) (h:f (((l.headD 0).toNat:Nat):Int)=true):1≤clsN f l:=by
 cases l with
 | nil=>exact absurd rfl hl
 | cons c r=>simp only [List.headD_cons] at h; simp [clsN,spanL,h]
theorem tokAtL_len {l:List UInt8} {p:Int} (hl:l ≠ []) {t:Tk} {j:Nat} (h:tokAtL l p = .ok (t,j)):1≤j∧j≤l.length:=by
 unfold tokAtL at h
 split at h
 ·rename_i hc
  injection h with h; injection h with _ h
  subst h;exact ⟨clsN_pos hl (by show (letB _ || digB _)=true; rw [hc]; rfl),clsN_le _ _⟩
 ·split at h
  ·rename_i hc
   unfold numberL at h
   split at h
   ·cases h
   ·injection h with h; injection h with _ h
    subst h;exact ⟨clsN_pos hl hc,clsN_le _ _⟩
  ·split at h
   ·have:=textL_len _ _ _ h;have:l.tail.length+1=l.length:=by cases l with | nil=>exact absurd rfl hl | cons c r=>rfl
    omega
   ·exact signL_len sigL (by decide) h
/-- How tokens are told. -/
def TEnds2 (w:World) (r:Except Er (List Tk)) (e:Ending) (w':World):Prop :=
 Below w.heap.size w w'∧match r with
  | .ok x=>∃ a cap,e = .returned (.slice a x.length cap)∧x.length≤cap∧LsE EnK 3 (fun b=>w.heap.size≤b) w' a x
  | .error c=>e = .panicked [thrV c.1 c.2]
theorem TEnds2.err {w w':World} {r:Except Er (List Tk)} {c:Er} (hr:r = .error c) (hb:Below w.heap.size w w'):TEnds2 w r (.panicked [thrV c.1 c.2]) w':=by subst hr; exact ⟨hb,rfl⟩
theorem TEnds2.good {w w':World} {r:Except Er (List Tk)} {x:List Tk} (hr:r = .ok x) (hb:Below w.heap.size w w') (a:Option Addr) (cap:Nat) {v:Value} (hv:v = .slice a x.length cap) (hc:x.length≤cap) (h:LsE EnK 3 (fun b=>w.heap.size≤b) w' a x):TEnds2 w r (.returned v) w':=by subst hr hv; exact ⟨hb,a,cap,rfl,hc,h⟩
theorem tokens_at (s:ByteArray) (hs:s.size≤4000) {w:World} (hg:Gl w):Calls Tryz.prog 66 #[.string s] w (TEnds2 w (tokensP s)):=by
 obtain ⟨i0,hi0,hj0,hj1,hj2⟩:=info_parts infoK;have con:=span_at 96 (fun _ _=>by kernel_rfl) blaB (fun c w=>blank_any c w) s 0 (by omega) hs w;rw [span_drop,List.drop_zero,Nat.zero_add] at con;have hle:=clsN_le blaB s.data.toList;rw [Array.length_toList] at hle;generalize hM:tokensP s=M;rw [tokensP] at hM;have HG:Hid (Gl w):=hg;generalize hk0:clsN blaB s.data.toList=k0 at *;have HM:Hid (emap (fun ts=>[] ++ ts) (tokG (s.size+1) (s.data.toList.drop k0) (k0:Int))=M):=by
  show _=_;rw [← hM];rcases tokG (s.size+1) (s.data.toList.drop k0) (k0:Int) with e | ts <;> rfl
 clear hM hg hk0;go_enter Tryz.func66,Tryz.ntmps66;go_wp2_with fail
 refine con.mono ?_;rintro e w0 ⟨rfl,rfl⟩;clear con;go_wp2_with fail
 go_loopg [3,4] (s.size+1) (fun m ow iv wr=>∃ (i:Nat) (acc:List Tk) (ov:Value),ov=ow∧iv = .int .i64 i∧i≤s.size∧Hid (s.size - i+1≤m)∧Hid (acc.length≤i)∧Hid (emap (fun ts=>acc ++ ts) (tokG m (s.data.toList.drop i) (i:Int))=M)∧Below w0.heap.size w0 wr∧Hid (OwnE EnK 152 3 w0.heap.size (fun b=>w0.heap.size≤b) wr ov acc))
 case atStart=>exact ⟨k0,[],_,rfl,rfl,hle,by show _≤_; omega,by show _≤_; simp,HM,Below.refl _ _,OwnE.nil _ _ _ _ _ _⟩
 case round =>
  clear HM;obtain ⟨i,acc,ov,rfl,rfl,hi,hm,hol,HL,hxW,HO⟩:=hrel;obtain ⟨m,rfl⟩:∃ m,gk=m+1:=⟨gk - 1,by have:=hm.out; omega⟩
  obtain ⟨ac,cc,eo⟩:=HO.out.len;by_cases hlt:i<s.size
  ·have hkz:(i:Int)<(s.size:Int):=by omega
   have hL:=HL.out;have hne:s.data.toList.drop i ≠ []:=by rw [dropB hlt]; simp
   rw [tokG_cons _ _ _ hne] at hL;have con:=tokenAt_at s i hlt hs (HG.out.next hxW);have hlen:=fun t j=>tokAtL_len (l:=s.data.toList.drop i) (p:=(i:Int)) hne (t:=t) (j:=j)
   generalize tokAtL (s.data.toList.drop i) (i:Int)=L at *;have HL2:Hid _:=hL;clear HL hL;subst eo;go_wp2_with fail
   refine con.mono ?_;rintro e w2 ⟨hb2,hW⟩;have hx2:=chain hxW hb2;have HO2:Hid (OwnE EnK 152 3 w0.heap.size (fun b=>w0.heap.size≤b) w2 (.slice ac acc.length cc) acc):=HO.out.next enK hb2;clear con HO;rcases L with ce | ⟨x,j⟩
   ·obtain rfl:=hW;have e:M = .error ce:=HL2.out.symm;subst e;clear HL2 hlen;go_wp2_with fail
    exact ⟨rfl,TEnds2.err rfl hx2⟩
   obtain ⟨v,rfl,hv⟩:=hW;change v = .tuple #[.agg #[.int .i64 x.1,.string x.2.1,.int .i64 x.2.2],.int .i64 ((i:Int)+((j:Nat):Int))] at hv;subst hv;have hj:=hlen x j rfl;rw [List.length_drop,Array.length_toList] at hj;have hjs:i+j≤s.size:=by have:s.data.size=s.size:=rfl; omega
   have hdd:(s.data.toList.drop i).drop j=s.data.toList.drop (i+j):=by rw [List.drop_drop]
   have hLa:=HL2.out;simp only at hLa;rw [hdd,List.drop_drop] at hLa;have con5:=fun W=>span_at 96 (fun _ _=>by kernel_rfl) blaB (fun c w=>blank_any c w) s (i+j) (by omega) hs W
   simp only [span_drop] at con5;have hbl:=clsN_le blaB (s.data.toList.drop (i+j));rw [List.length_drop,Array.length_toList] at hbl;have hss:s.data.size=s.size:=rfl;generalize clsN blaB (s.data.toList.drop (i+j))=kb at *;have HL5:Hid (emap (fun ts=>(acc ++ [x]) ++ ts) (tokG m (s.data.toList.drop (i+j+kb)) ((i+j+kb:Nat):Int))=M):=by
    show _=_;rw [← hLa,show ((i+j+kb:Nat):Int)=(i:Int)+(j:Int)+(kb:Int) by omega];rcases tokG m (s.data.toList.drop (i+j+kb)) ((i:Int)+(j:Int)+(kb:Int)) with e | ts
    ·rfl
    ·simp [emap]
   have hal3:Below w2.heap.size w2 (w2.alloc (.cells #[.int .i64 x.1,.string x.2.1,.int .i64 x.2.2] 152)):=(Below.refl _ _).alloc (Nat.le_refl _) _;have q3:=heap_new w2 #[.int .i64 x.1,.string x.2.1,.int .i64 x.2.2] 152;have HO3:Hid (OwnE EnK 152 3 w0.heap.size (fun b=>w0.heap.size≤b) (w2.alloc (.cells #[.int .i64 x.1,.string x.2.1,.int .i64 x.2.2] 152)) (.slice ac acc.length cc) acc):=HO2.out.next enK hal3;have hxW3:=chain hx2 hal3;clear HL2 hLa hlen hdd HO2 hxW;have hxW:=hxW3;have HC5:Hid _:=con5;clear con5 hne;go_upto_region 5 with fail
   have hij:(i:Int)+(j:Int)=((i+j:Nat):Int):=by omega
   generalize w2.alloc (.cells #[.int .i64 x.1,.string x.2.1,.int .i64 x.2.2] 152)=w3 at *;obtain ⟨z0,z1,z2⟩:=cells3 q3;clear hij;have hal4:Below w3.heap.size w3 (w3.alloc (.cells #[.int .i64 x.1,.string x.2.1,.int .i64 x.2.2] 152)):=(Below.refl _ _).alloc (Nat.le_refl _) _;have q4:=heap_new w3 #[.int .i64 x.1,.string x.2.1,.int .i64 x.2.2] 152;have hnb:=HO3.out.lt;have hzW:=hxW.size;obtain ⟨ys,o4,en4⟩:=HO3.out.next enK hal4
   go_wp2_with (first | (at_builtin; refine wpList_append_at rfl _ _ 118 rfl w0.heap.size 152 i0 _ 3 32 Tryz.underlying118 hi0 hj0 hj1 hj2 rfl (by decide) (.slice ac acc.length cc) acc.length _ rfl o4 ⟨w3.heap.size,0,none⟩ 1 1 [.int .i64 x.1,.string x.2.1,.int .i64 x.2.2] rfl rfl ?Ac1 ?Ac2 ?Ac3 ?Ac4 ?Ac5 ?_))
   case Ac1 =>
    intro i u hu;rw [addr_addS,Nat.zero_add];exact cell_of (i:=i) q4 (by rw [← hu]; simp)
   case Ac2=>first | (intro u hu; simp at hu; rcases hu with rfl | rfl | rfl <;> rfl) | exact ⟨rfl,rfl,rfl⟩
   case Ac3=>unfold maxLen; have:=hol.out; omega
   case Ac4=>have:=hol.out; omega
   case Ac5=>have:=hal4.size; omega
   intro v' w6 o5 g5 hd5;have z5:=g5.size;have hz4:=hal4.size;have O5:Hid (OwnE EnK 152 3 w0.heap.size (fun b=>w0.heap.size≤b) w6 v' (acc ++ [x])):=OwnE.push enK o4 en4 (cs:=[.int .i64 x.1,.string x.2.1,.int .i64 x.2.2]) rfl rfl o5 g5 (by simpa using hd5);have D5:Below w0.heap.size w3 w6:=(hal4.mono (by omega)).trans ((Below.refl _ _).grown g5 (by omega) (fun q hq=>by have:=(hnb q hq).1; omega));have hx6:Below w0.heap.size w0 w6:=hxW.trans D5;clear o4 en4 o5 g5 hd5 q4 hal4 HO3;have con6:=HC5.out w6;rw [show ((i+j:Nat):Int)=(i:Int)+(j:Int) by omega] at con6;clear z0 z1 z2 q3 HC5
   go_wp2_with fail
   refine con6.mono ?_;rintro e w7 ⟨rfl,rfl⟩;clear con6;go_wp2_with fail
   go_roundg m
   case measure=>omega
   case rel=>exact ⟨i+j+kb,acc ++ [x],_,rfl,by go_num,by omega,by show _≤_; have:=hm.out; omega,by show _≤_; have:=hol.out; simp; omega,HL5,hx6,O5⟩
  ·have hkz:¬ (i:Int)<(s.size:Int):=by omega
   have hL:=HL.out;rw [List.drop_eq_nil_of_le (by rw [Array.length_toList]; show s.size≤i; omega),tokG_nil] at hL;have e:M = .ok (acc ++ [(5,eB,(i:Int))]):=hL.symm;subst e;clear HL hL;subst eo;have hal4:Below wr.heap.size wr (wr.alloc (.cells #[.int .i64 5,.string ⟨#[]⟩,.int .i64 i] 152)):=(Below.refl _ _).alloc (Nat.le_refl _) _;have q4:=heap_new wr #[.int .i64 5,.string ⟨#[]⟩,.int .i64 i] 152;have hnb:=HO.out.lt;have hzW:=hxW.size;obtain ⟨ys,o4,en4⟩:=HO.out.next enK hal4
   go_wp2_with (first | (at_builtin; refine wpList_append_at rfl _ _ 118 rfl w0.heap.size 152 i0 _ 3 32 Tryz.underlying118 hi0 hj0 hj1 hj2 rfl (by decide) (.slice ac acc.length cc) acc.length _ rfl o4 ⟨wr.heap.size,0,none⟩ 1 1 [.int .i64 5,.string ⟨#[]⟩,.int .i64 i] rfl rfl ?Ac1 ?Ac2 ?Ac3 ?Ac4 ?Ac5 ?_))
   case Ac2=>first | (intro u hu; simp at hu; rcases hu with rfl | rfl | rfl <;> rfl) | exact ⟨rfl,rfl,rfl⟩
   case Ac3=>unfold maxLen; have:=hol.out; omega
   case Ac4=>have:=hol.out; omega
   case Ac5=>have:=hal4.size; omega
   intro v' w6 o5 g5 hd5;have z5:=g5.size;have hz4:=hal4.size;have O5:Hid (OwnE EnK 152 3 w0.heap.size (fun b=>w0.heap.size≤b) w6 v' (acc ++ [((5,eB,(i:Int)):Tk)])):=OwnE.push enK o4 en4 (cs:=[.int .i64 5,.string ⟨#[]⟩,.int .i64 i]) rfl rfl o5 g5 (by simpa using hd5);have D5:Below w0.heap.size wr w6:=(hal4.mono (by omega)).trans ((Below.refl _ _).grown g5 (by omega) (fun q hq=>by have:=(hnb q hq).1; omega));have hx6:Below w0.heap.size w0 w6:=hxW.trans D5;clear o4 en4 o5 g5 hd5 q4 hal4 HO;obtain ⟨av,cv,rfl,hcp,hls⟩:=O5.out.lsc enK (fun _ h=>h)
   have HK:Hid (LsE EnK 3 (fun b=>w0.heap.size≤b) w6 av (acc ++ [(5,eB,(i:Int))])):=hls;clear hls O5;generalize hn:(acc ++ [((5:Int),eB,(i:Int))]).length=n at *;go_wp2_with fail
   refine bodyPost_ret (v:=.slice av n cv) (by simp [results,Tryz.results66,go_sem]) rfl ?_;exact TEnds2.good rfl hx6 av cv (by rw [hn]) (by rw [hn]; exact hcp) HK.out

/-- How a look at a thing ends: nothing wrong, or the fault is thrown. -/
def CEnds (w:World) (at_ r:Int) (e:Ending) (w':World):Prop:=Below w.heap.size w w'∧((r=0∧e = .returned (.tuple #[]))∨(r≠0∧e = .panicked [thrV r at_]))
/-- The first that is wrong. -/
def sqE (a b:Int):Int:=if a=0 then b else a
theorem sqE_0 (b:Int):sqE 0 b=b:=rfl
theorem sqE_n {a:Int} (h:a≠0) (b:Int):sqE a b=a:=if_neg h
theorem need_ok (err at_:Int) (w:World):Calls Tryz.prog 68 #[.agg #[.int .i64 at_],.bool true,.int .i64 err] w fun e w'=>e = .returned (.tuple #[])∧Below w.heap.size w w':=by
 have hal:Below w.heap.size w (w.alloc (.cells #[.int .i64 at_] 86)):=(Below.refl _ _).alloc (Nat.le_refl _) _;go_enter Tryz.func68,Tryz.ntmps68;go_wp2_with fail
 go_end0
 exact ⟨rfl,hal⟩
theorem need_bad (err at_:Int) (w:World):Calls Tryz.prog 68 #[.agg #[.int .i64 at_],.bool false,.int .i64 err] w fun e w'=>e = .panicked [thrV err at_]∧Below w.heap.size w w':=by
 have hal:Below w.heap.size w (w.alloc (.cells #[.int .i64 at_] 86)):=(Below.refl _ _).alloc (Nat.le_refl _) _;have QB:=heap_new w #[.int .i64 at_] 86;have con:=fault_at err at_ (w.alloc (.cells #[.int .i64 at_] 86));go_enter Tryz.func68,Tryz.ntmps68;go_upto_region 1 with fail
 generalize w.alloc (.cells #[.int .i64 at_] 86)=w1 at *;have c0:w1.cell? ⟨w.heap.size,0,none⟩=some (.int .i64 at_):=cell_of (i:=0) QB rfl;go_wp2_with fail
 refine con.mono ?_;rintro e w2 ⟨rfl,hb2⟩;go_wp2_with fail
 exact ⟨rfl,rfl,chain hal hb2⟩
theorem CEnds.ok {w w':World} {at_ r:Int} (hb:Below w.heap.size w w') (h:r=0):CEnds w at_ r (.returned (.tuple #[])) w':=⟨hb,.inl ⟨h,rfl⟩⟩
theorem CEnds.bad {w w':World} {at_ r x:Int} (hb:Below w.heap.size w w') (h:r=x) (hx:x≠0):CEnds w at_ r (.panicked [thrV x at_]) w':=by subst h; exact ⟨hb,.inr ⟨hx,rfl⟩⟩
def cntC (n least most:Int):Int:=if decide (least≤n) && decide (n≤most) then 0 else 5
theorem count_at (n least most at_:Int) (w:World):Calls Tryz.prog 37 #[.agg #[.int .i64 at_],.int .i64 n,.int .i64 least,.int .i64 most] w (CEnds w at_ (cntC n least most)):=by
 have hal:Below w.heap.size w (w.alloc (.cells #[.int .i64 at_] 86)):=(Below.refl _ _).alloc (Nat.le_refl _) _;have QB:=heap_new w #[.int .i64 at_] 86;have hcs:(least≤n∧n≤most)∨(least≤n∧¬ n≤most)∨¬ least≤n:=by omega
 rcases hcs with h1 | h1 | h1
 ·have g1:least≤n:=h1.1;have g2:n≤most:=h1.2;have con:=need_ok 5 at_ (w.alloc (.cells #[.int .i64 at_] 86));have HR:Hid (cntC n least most=0):=by show _=_; simp [cntC,g1,g2]
  clear h1;go_enter Tryz.func37,Tryz.ntmps37;go_upto_region 1 with fail
  generalize w.alloc (.cells #[.int .i64 at_] 86)=w1 at *;have c0:w1.cell? ⟨w.heap.size,0,none⟩=some (.int .i64 at_):=cell_of (i:=0) QB rfl;generalize cntC n least most=r at *;go_wp2_with fail
  refine con.mono ?_;rintro e w2 ⟨rfl,hb2⟩;go_wp2_with fail
  go_end0
  exact .ok (chain hal hb2) HR.out
 ·have g1:least≤n:=h1.1;have g2:¬ n≤most:=h1.2;have con:=need_bad 5 at_ (w.alloc (.cells #[.int .i64 at_] 86));have HR:Hid (cntC n least most=5):=by show _=_; simp [cntC,g1,g2]
  clear h1;go_enter Tryz.func37,Tryz.ntmps37;go_upto_region 1 with fail
  generalize w.alloc (.cells #[.int .i64 at_] 86)=w1 at *;have c0:w1.cell? ⟨w.heap.size,0,none⟩=some (.int .i64 at_):=cell_of (i:=0) QB rfl;generalize cntC n least most=r at *;go_wp2_with fail
  refine con.mono ?_;rintro e w2 ⟨rfl,hb2⟩;go_wp2_with fail
  exact ⟨rfl,.bad (chain hal hb2) HR.out (by decide)⟩
 ·have g1:¬ least≤n:=h1;have con:=need_bad 5 at_ (w.alloc (.cells #[.int .i64 at_] 86));have HR:Hid (cntC n least most=5):=by show _=_; simp [cntC,g1]
  clear h1;go_enter Tryz.func37,Tryz.ntmps37;go_upto_region 1 with fail
  generalize w.alloc (.cells #[.int .i64 at_] 86)=w1 at *;have c0:w1.cell? ⟨w.heap.size,0,none⟩=some (.int .i64 at_):=cell_of (i:=0) QB rfl;generalize cntC n least most=r at *;go_wp2_with fail
  refine con.mono ?_;rintro e w2 ⟨rfl,hb2⟩;go_wp2_with fail
  exact ⟨rfl,.bad (chain hal hb2) HR.out (by decide)⟩
theorem named_all (s:ByteArray) (w:World):Calls Tryz.prog 20 #[.string s] w fun e w'=>e = .returned (.bool (namedP s))∧w'=w:=by
 by_cases hs:s.size≤4000
 ·exact named_at s hs w
 ·have hb:namedP s=false:=by
   unfold namedP;rw [decide_eq_false (show ¬ s.size≤12 by omega)];simp
  rw [hb];have h1:(1:Int)≤(s.size:Int):=by omega
  have h2:¬ (s.size:Int)≤12:=by omega
  clear hb hs;go_enter Tryz.func20,Tryz.ntmps20;go_wp2_with fail
  exact bodyPost_ret (results_tmp rfl _ _ _) rfl ⟨by first | rfl | trivial,by first | rfl | trivial⟩
def nameC (s:ByteArray):Int:=if namedP s then 0 else 7
theorem cname_at (s:ByteArray) (at_:Int) (w:World):Calls Tryz.prog 69 #[.agg #[.int .i64 at_],.string s] w (CEnds w at_ (nameC s)):=by
 have hal:Below w.heap.size w (w.alloc (.cells #[.int .i64 at_] 86)):=(Below.refl _ _).alloc (Nat.le_refl _) _;have QB:=heap_new w #[.int .i64 at_] 86;rw [nameC];obtain ⟨b,hb⟩:∃ b,namedP s=b:=⟨_,rfl⟩
 have HB:Hid (namedP s=b):=hb;rw [hb];clear hb;generalize hr:(if b then (0:Int) else 7)=r;have HR:Hid ((if b then (0:Int) else 7)=r):=hr;clear hr;go_enter Tryz.func69,Tryz.ntmps69;go_upto_region 1 with fail
 generalize w.alloc (.cells #[.int .i64 at_] 86)=w1 at *;have hCC:∀ W W':World,W.heap[w.heap.size]? = some (.cells #[.int .i64 at_] 86 (0,0))→Below W.heap.size W W'→W'.heap[w.heap.size]? = some (.cells #[.int .i64 at_] 86 (0,0)):=fun W W' h hb=>(hb.block _ (lt_of_heap h)).trans h
 have hdr:Below w1.heap.size w1 w1.drew:=(Below.refl _ _).drew;have CW:=hCC _ _ QB hdr;refine wp_region_z (fun W=>W.heap[w.heap.size]? = some (.cells #[.int .i64 at_] 86 (0,0))) 3 (by kernel_rfl) ?_;refine wpZ_take hCC (some 4) (i:=0) (v:=.agg #[.int .i64 at_]) rfl rfl (by kernel_rfl) (by kernel_rfl) (by kernel_rfl) (by kernel_rfl) (by kernel_rfl) rfl (fun _ _ _ h=>h) (Or.inl ⟨rfl,fun n hn=>?_⟩) (fun _=>CW) ?_
 ·have c0:=cell_of (i:=0) hn rfl;go_simp
 simp only [Act.put,pA,pB,pC];refine wpZ_take hCC (some 5) (i:=1) (v:=.string s) rfl rfl (by kernel_rfl) (by kernel_rfl) (by kernel_rfl) (by kernel_rfl) (by kernel_rfl) rfl (fun _ _ _ h=>h) (Or.inl ⟨rfl,fun n hn=>?_⟩) (fun _=>CW) ?_
 ·go_simp
 simp only [Act.put,pA,pB,pC];refine wpZ_step (rs:=[2]) (by kernel_rfl) (by simp) ?_;intro w5 hb5 jj hj;obtain rfl:jj=2:=by simpa using hj
 clear hj;have con:=named_all s w5;rw [HB.out] at con;refine wpOp_step rfl (fun K hK=>?_);go_simp;refine con.mono ?_;rintro e w6 ⟨rfl,rfl⟩;have hb6:Below w6.heap.size w6 w6:=Below.refl _ _;have C6:=hCC _ _ CW hb5;refine hK _ _ ⟨fun _=>C6,?_⟩;clear hK K con;refine wpZ_step (rs:=[3]) (by kernel_rfl) (by simp) ?_;intro w7 hb7 jj hj;obtain rfl:jj=3:=by simpa using hj
 clear hj;have hbb:=chain hal (chain (chain hdr hb5) (chain hb6 hb7));cases b
 ·have con:=need_bad 7 at_ w7;refine wpOp_step rfl (fun K hK=>?_);go_simp;refine con.mono ?_;rintro e w8 ⟨rfl,hb8⟩;exact ⟨rfl,.bad (chain hbb hb8) HR.out.symm (by decide)⟩
 ·have con:=need_ok 7 at_ w7;refine wpOp_step rfl (fun K hK=>?_);go_simp;refine con.mono ?_;rintro e w8 ⟨rfl,hb8⟩;refine hK _ _ ⟨fun h=>by simp at h,?_⟩;refine wpZ_done (by kernel_rfl) ?_;intro w9 hb9;go_wp2_with fail
  go_end0
  exact .ok (chain hbb (chain hb8 hb9)) HR.out.symm
def maybeC (s:ByteArray):Int:=if s.toList.isEmpty then 0 else nameC s
theorem maybe_at (s:ByteArray) (at_:Int) (w:World):Calls Tryz.prog 168 #[.agg #[.int .i64 at_],.string s] w (CEnds w at_ (maybeC s)):=by
 have hal:Below w.heap.size w (w.alloc (.cells #[.int .i64 at_] 86)):=(Below.refl _ _).alloc (Nat.le_refl _) _;have QB:=heap_new w #[.int .i64 at_] 86;have con:=cname_at s at_ (w.alloc (.cells #[.int .i64 at_] 86));rw [maybeC];generalize nameC s=r at *;rcases he:s.toList.isEmpty with _ | _
 ·have b1:s.toList.isEmpty=false:=he;rw [if_neg (by decide)];clear he;go_enter Tryz.func168,Tryz.ntmps168;go_upto_region 1 with fail
  generalize w.alloc (.cells #[.int .i64 at_] 86)=w1 at *;have c0:w1.cell? ⟨w.heap.size,0,none⟩=some (.int .i64 at_):=cell_of (i:=0) QB rfl;go_wp2_with fail
  refine con.mono ?_;rintro e w2 ⟨hb2,⟨h,rfl⟩ | ⟨h,rfl⟩⟩
  ·go_wp2_with fail
   go_end0
   exact ⟨chain hal hb2,.inl ⟨h,rfl⟩⟩
  ·go_wp2_with fail
   exact ⟨rfl,chain hal hb2,.inr ⟨h,rfl⟩⟩
 ·have b1:s.toList.isEmpty=true:=he;rw [if_pos rfl];clear he;go_enter Tryz.func168,Tryz.ntmps168;go_wp2_with fail
  go_end0
  exact ⟨hal,.inl ⟨rfl,rfl⟩⟩

def inrB (n:Int):Bool:=decide (-1000000000000000≤n) && decide (n≤1000000000000000)
theorem inr_bad {n:Int} (h:inrB n=false) (w:World):Calls Tryz.prog 166 #[.int .i64 n] w fun e w'=>e = .returned (.bool false)∧w'=w:=by
 by_cases h1:-1000000000000000≤n
 ·have h2:¬ n≤1000000000000000:=by
   intro h2;rw [inrB,decide_eq_true h1,decide_eq_true h2] at h;cases h
  clear h;go_enter Tryz.func166,Tryz.ntmps166;go_wp2_with fail
  exact bodyPost_ret (v:=.bool false) (by simp [results,Tryz.results166,go_sem]; try omega) rfl ⟨by first | rfl | trivial,by first | rfl | trivial⟩
 ·clear h;go_enter Tryz.func166,Tryz.ntmps166;go_wp2_with fail
  exact bodyPost_ret (v:=.bool false) (by simp [results,Tryz.results166,go_sem]; try omega) rfl ⟨by first | rfl | trivial,by first | rfl | trivial⟩
def valC (v:Vl):Int:=if v.1=1 then 0 else if v.1=2 then (if v.2.1=0∨v.2.1=1 then 0 else 3) else if v.1=3 then (if inrB v.2.1 then 0 else 3) else if v.1=4 then (if v.2.2.size > 60 then 4 else 0) else 1
theorem wrongV_at (v:Vl) (w:World):Calls Tryz.prog 134 #[.agg #[.int .i64 v.1,.int .i64 v.2.1,.string v.2.2]] w fun e w'=>e = .returned (.int .i64 (valC v))∧Below w.heap.size w w':=by
 have hal:Below w.heap.size w (w.alloc (.cells #[.int .i64 v.1,.int .i64 v.2.1,.string v.2.2] 53)):=(Below.refl _ _).alloc (Nat.le_refl _) _;have QB:=heap_new w #[.int .i64 v.1,.int .i64 v.2.1,.string v.2.2] 53;generalize hr:valC v=r;rw [valC] at hr;have HR:Hid _:=hr;clear hr;go_enter Tryz.func134,Tryz.ntmps134;go_upto_region 1 with fail
 generalize w.alloc (.cells #[.int .i64 v.1,.int .i64 v.2.1,.string v.2.2] 53)=w1 at *;have c0:w1.cell? ⟨w.heap.size,0,none⟩=some (.int .i64 v.1):=cell_of (i:=0) QB rfl;have c1:w1.cell? ⟨w.heap.size,1,none⟩=some (.int .i64 v.2.1):=cell_of (i:=1) QB rfl;have c2:w1.cell? ⟨w.heap.size,2,none⟩=some (.string v.2.2):=cell_of (i:=2) QB rfl;obtain ⟨k,n,t⟩:=v;simp only at c0 c1 c2 HR QB;by_cases k1:k=1
 ·subst k1;obtain rfl:0=r:=by rw [← HR.out]; simp
  clear HR;go_wp2_with fail
  exact bodyPost_ret (results_tmp rfl _ _ _) rfl ⟨by first | rfl | trivial,hal⟩
 by_cases k2:k=2
 ·subst k2;by_cases n0:n=0
  ·subst n0;obtain rfl:0=r:=by rw [← HR.out]; simp
   clear HR;go_wp2_with fail
   exact bodyPost_ret (results_tmp rfl _ _ _) rfl ⟨by first | rfl | trivial,hal⟩
  by_cases n1:n=1
  ·subst n1;obtain rfl:0=r:=by rw [← HR.out]; simp
   clear HR;go_wp2_with fail
   exact bodyPost_ret (results_tmp rfl _ _ _) rfl ⟨by first | rfl | trivial,hal⟩
  have b0:(n != 0)=true:=by simpa using n0
  have b1:(n != 1)=true:=by simpa using n1
  obtain rfl:3=r:=by rw [← HR.out]; simp [n0,n1]
  clear HR n0 n1;go_wp2_with fail
  exact bodyPost_ret (results_tmp rfl _ _ _) rfl ⟨by first | rfl | trivial,hal⟩
 by_cases k3:k=3
 ·subst k3;rcases hn:inrB n with _ | _
  ·have con:=inr_bad hn w1;obtain rfl:3=r:=by rw [← HR.out]; simp [hn]
   clear HR;go_wp2_with fail
   refine con.mono ?_;rintro e w2 ⟨rfl,rfl⟩;go_wp2_with fail
   exact bodyPost_ret (results_tmp rfl _ _ _) rfl ⟨by first | rfl | trivial,hal⟩
  ·have hn2:=hn;simp only [inrB,Bool.and_eq_true,decide_eq_true_eq] at hn2;have con:=inr_at hn2.1 hn2.2 w1;obtain rfl:0=r:=by rw [← HR.out]; simp [hn]
   clear HR hn2;go_wp2_with fail
   refine con.mono ?_;rintro e w2 ⟨rfl,rfl⟩;go_wp2_with fail
   exact bodyPost_ret (results_tmp rfl _ _ _) rfl ⟨by first | rfl | trivial,hal⟩
 by_cases k4:k=4
 ·subst k4;by_cases h6:t.size > 60
  ·have hz:(60:Int)<(t.size:Int):=by omega
   obtain rfl:4=r:=by rw [← HR.out]; simp [h6]
   clear HR h6;go_wp2_with fail
   exact bodyPost_ret (results_tmp rfl _ _ _) rfl ⟨by first | rfl | trivial,hal⟩
  ·have hz:¬ (60:Int)<(t.size:Int):=by omega
   obtain rfl:0=r:=by rw [← HR.out]; simp [h6]
   clear HR h6;go_wp2_with fail
   exact bodyPost_ret (results_tmp rfl _ _ _) rfl ⟨by first | rfl | trivial,hal⟩
 ·have b1:(k == 1)=false:=by simpa using k1
  have b2:(k == 2)=false:=by simpa using k2
  have b3:(k == 3)=false:=by simpa using k3
  have b4:(k == 4)=false:=by simpa using k4
  obtain rfl:1=r:=by rw [← HR.out]; simp [k1,k2,k3,k4]
  clear HR k1 k2 k3 k4;go_wp2_with fail
  exact bodyPost_ret (results_tmp rfl _ _ _) rfl ⟨by first | rfl | trivial,hal⟩
theorem cvalue_at (v:Vl) (at_:Int) (w:World):Calls Tryz.prog 102 #[.agg #[.int .i64 at_],.agg #[.int .i64 v.1,.int .i64 v.2.1,.string v.2.2]] w (CEnds w at_ (valC v)):=by
 have hal1:Below w.heap.size w (w.alloc (.cells #[.int .i64 at_] 86)):=(Below.refl _ _).alloc (Nat.le_refl _) _;have hal2:Below (w.alloc (.cells #[.int .i64 at_] 86)).heap.size (w.alloc (.cells #[.int .i64 at_] 86)) ((w.alloc (.cells #[.int .i64 at_] 86)).alloc (.cells #[.int .i64 v.1,.int .i64 v.2.1,.string v.2.2] 53)):=(Below.refl _ _).alloc (Nat.le_refl _) _
 have QB:((w.alloc (.cells #[.int .i64 at_] 86)).alloc (.cells #[.int .i64 v.1,.int .i64 v.2.1,.string v.2.2] 53)).heap[w.heap.size]? = some (.cells #[.int .i64 at_] 86 (0,0)):=(hal2.block _ (lt_of_heap (heap_new w #[.int .i64 at_] 86))).trans (heap_new w _ _);have QV:((w.alloc (.cells #[.int .i64 at_] 86)).alloc (.cells #[.int .i64 v.1,.int .i64 v.2.1,.string v.2.2] 53)).heap[w.heap.size+1]? = some (.cells #[.int .i64 v.1,.int .i64 v.2.1,.string v.2.2] 53 (0,0)):=by
  rw [show w.heap.size+1=(w.alloc (.cells #[.int .i64 at_] 86)).heap.size by simp];exact heap_new _ _ _
 have hal:=chain hal1 hal2;have con:=wrongV_at v ((w.alloc (.cells #[.int .i64 at_] 86)).alloc (.cells #[.int .i64 v.1,.int .i64 v.2.1,.string v.2.2] 53));generalize hr:valC v=r at *;clear hal1 hal2 hr;go_enter Tryz.func102,Tryz.ntmps102;go_upto_region 1 with fail
 generalize (w.alloc (.cells #[.int .i64 at_] 86)).alloc (.cells #[.int .i64 v.1,.int .i64 v.2.1,.string v.2.2] 53)=w1 at *;obtain ⟨v0,v1,v2⟩:=cells3 QV;go_wp2_with fail
 refine con.mono ?_;rintro e w2 ⟨rfl,hb2⟩;have QB2:=(hb2.block _ (lt_of_heap QB)).trans QB;have c0:w2.cell? ⟨w.heap.size,0,none⟩=some (.int .i64 at_):=cell_of (i:=0) QB2 rfl;by_cases h0:r=0
 ·subst h0;have con2:=need_ok 0 at_ w2;clear con;go_wp2_with fail
  refine con2.mono ?_;rintro e w3 ⟨rfl,hb3⟩;go_wp2_with fail
  go_end0
  exact .ok (chain hal (chain hb2 hb3)) rfl
 ·have b0:(r == 0)=false:=by simpa using h0
  have con2:=need_bad r at_ w2;clear con;go_wp2_with fail
  refine con2.mono ?_;rintro e w3 ⟨rfl,hb3⟩;go_wp2_with fail
  exact ⟨rfl,.bad (chain hal (chain hb2 hb3)) rfl h0⟩
def kidsC (k:Int):Nat:=if k=1∨k=2∨k=19 then 0 else if k=3∨k=16∨k=20∨k=21∨k=22∨k=23 then 1 else if k=17 then 3 else 2
theorem KidsOf_at {k:Int} (h1:1≤k) (h2:k≤18) (w:World):Calls Tryz.prog 199 #[.int .i64 k] w fun e w'=>e = .returned (.int .i64 (kidsC k))∧w'=w:=by
 have hk:k=1∨k=2∨k=3∨k=4∨k=5∨k=6∨k=7∨k=8∨k=9∨k=10∨k=11∨k=12∨k=13∨k=14∨k=15∨k=16∨k=17∨k=18:=by omega
 clear h1 h2;rcases hk with rfl | rfl | rfl | rfl | rfl | rfl | rfl | rfl | rfl | rfl | rfl | rfl | rfl | rfl | rfl | rfl | rfl | rfl
 all_goals
  go_enter Tryz.func199,Tryz.ntmps199;go_wp2_with fail
  exact bodyPost_ret (results_tmp rfl _ _ _) rfl ⟨rfl,rfl⟩
theorem kidsOf_at {k:Int} (h1:1≤k) (h2:k≤23) (w:World):Calls Tryz.prog 167 #[.int .i64 k] w fun e w'=>e = .returned (.int .i64 (kidsC k))∧w'=w:=by
 by_cases h:k≤18
 ·have con:=KidsOf_at h1 h w;have b1:(k == 19)=false:=by rw [beq_eq_false_iff_ne]; omega
  have b2:(k == 20)=false:=by rw [beq_eq_false_iff_ne]; omega
  have b3:(k == 21)=false:=by rw [beq_eq_false_iff_ne]; omega
  have b4:(k == 22)=false:=by rw [beq_eq_false_iff_ne]; omega
  have b5:(k == 23)=false:=by rw [beq_eq_false_iff_ne]; omega
  generalize kidsC k=r at *;clear h h1 h2;go_enter Tryz.func167,Tryz.ntmps167;go_wp2_with fail
  refine con.mono ?_;rintro e w2 ⟨rfl,rfl⟩;go_wp2_with fail
  exact bodyPost_ret (results_tmp rfl _ _ _) rfl ⟨by first | rfl | trivial,by first | rfl | trivial⟩
 ·have hk:k=19∨k=20∨k=21∨k=22∨k=23:=by omega
  clear h h1 h2;rcases hk with rfl | rfl | rfl | rfl | rfl
  all_goals
   go_enter Tryz.func167,Tryz.ntmps167;go_wp2_with fail
   exact bodyPost_ret (results_tmp rfl _ _ _) rfl ⟨rfl,rfl⟩

/-- Kids, one after the other. -/
def foldC (g:SX→Int→Int × Int):List SX→Int→Int × Int
 | [],n=>(0,n)
 | y :: r,n=>if (g y n).1=0 then foldC g r (g y n).2 else g y n
def kindC (x:SX):Int:=if x.k=1 then valC x.v else if x.k=2 then sqE (nameC x.name) (maybeC x.tab) else 0
/-- What is wrong with an expression, and how many nodes there are so far. -/
def nodeC:Nat→SX→Int→Int→Int × Int
 | 0,_,_,n=>(4,n)
 | f+1,x,d,n =>
  if ¬ (n+1≤200∧d≤20) then (4,n+1)
  else if ¬ (1≤x.k∧x.k≤23) then (1,n+1)
  else if ¬ x.ks.length=kidsC x.k then (5,n+1)
  else if kindC x≠0 then (kindC x,n+1)
  else foldC (fun y m=>nodeC f y (d+1) m) x.ks (n+1)
def NEnds (w:World) (NB:Nat) (at_:Int) (r:Int × Int) (e:Ending) (w':World):Prop :=
 BelowX NB w w'∧((r.1=0∧e = .returned (.tuple #[])∧w'.heap[NB]? = some (.cells #[.int .i64 r.2] 3 (0,0))∧0≤r.2∧r.2≤200)∨(r.1≠0∧e = .panicked [thrV r.1 at_]))
theorem NEnds.bad {w:World} {NB:Nat} {at_:Int} {r:Int × Int} {x:Int} {w':World} (hb:BelowX NB w w') (h:r.1=x) (hx:x≠0):NEnds w NB at_ r (.panicked [thrV x at_]) w':=by subst h; exact ⟨hb,.inr ⟨hx,rfl⟩⟩
def NodeAt (f:Nat):Prop:=∀ (x:SX) (d n at_:Int) (a:Option Addr) (c NB:Nat) (S:Nat→Prop) (w:World),d+f=22→1≤d→0≤n→n≤200→w.heap[NB]? = some (.cells #[.int .i64 n] 3 (0,0))→SsS S w a x.ks→¬ S NB →
 Calls Tryz.prog 135 #[.agg #[.int .i64 at_],.agg (sxA x a c),.int .i64 d,.pointer (some ⟨NB,0,none⟩)] w (NEnds w NB at_ (nodeC f x d n))
theorem BelowX.b {t:Nat} {a b c:World} (h:BelowX t a b) (k:Below b.heap.size b c) (ht:t≤a.heap.size):BelowX t a c:=h.trans (.of k (by have:=h.size; omega))
theorem node_step {f:Nat} (ih:1≤f→NodeAt f):NodeAt (f+1):=by
 intro x d n at_ a c NB S w hdf hd1 hn0 hn1 QN0 hks hSN;have hNB:=lt_of_heap QN0;have hal1:Below w.heap.size w (w.alloc (.cells #[.int .i64 at_] 86)):=(Below.refl _ _).alloc (Nat.le_refl _) _;have hal2:Below (w.alloc (.cells #[.int .i64 at_] 86)).heap.size (w.alloc (.cells #[.int .i64 at_] 86)) ((w.alloc (.cells #[.int .i64 at_] 86)).alloc (.cells (sxA x a c) 55)):=(Below.refl _ _).alloc (Nat.le_refl _) _
 have QC1:((w.alloc (.cells #[.int .i64 at_] 86)).alloc (.cells (sxA x a c) 55)).heap[w.heap.size]? = some (.cells #[.int .i64 at_] 86 (0,0)):=(hal2.block _ (lt_of_heap (heap_new w #[.int .i64 at_] 86))).trans (heap_new w _ _);have QX1:((w.alloc (.cells #[.int .i64 at_] 86)).alloc (.cells (sxA x a c) 55)).heap[w.heap.size+1]? = some (.cells (sxA x a c) 55 (0,0)):=by
  rw [show w.heap.size+1=(w.alloc (.cells #[.int .i64 at_] 86)).heap.size by simp];exact heap_new _ _ _
 have hal:=chain hal1 hal2;have QN1:=(hal.block _ hNB).trans QN0;have HIH:Hid (1≤f→NodeAt f):=ih;have HKS:Hid (SsS S ((w.alloc (.cells #[.int .i64 at_] 86)).alloc (.cells (sxA x a c) 55)) a x.ks):=SsS.next hal hks;generalize hM:nodeC (f+1) x d n=M;rw [nodeC] at hM;have HM:Hid _:=hM;clear hM ih hks hal1 hal2 QN0;go_enter Tryz.func135,Tryz.ntmps135;go_upto_region 1 with fail
 generalize ((w.alloc (.cells #[.int .i64 at_] 86)).alloc (.cells (sxA x a c) 55))=w1 at *;have n0:w1.cell? ⟨NB,0,none⟩=some (.int .i64 n):=cell_of (i:=0) QN1 rfl;have n0f:=frozen_of_row w1 NB 0 _ _ QN1;go_upto_region 2 with fail
 have QN:(w1.setCell ⟨NB,0,none⟩ (.int .i64 (n+1))).heap[NB]? = some (.cells #[.int .i64 (n+1)] 3 (0,0)):=heap_setCell_same w1 NB 0 _ _ _ QN1;have hk1:Keeps1 NB w1 (w1.setCell ⟨NB,0,none⟩ (.int .i64 (n+1))):=(Keeps1.refl _ _).set 0 _;have hx:BelowX NB w (w1.setCell ⟨NB,0,none⟩ (.int .i64 (n+1))):=(BelowX.of hal (by omega)).set 0 _;have QC:=(hk1.2 _ (lt_of_heap QC1) (by omega)).trans QC1;have QX:=(hk1.2 _ (lt_of_heap QX1) (by omega)).trans QX1;have HK:Hid (SsS S (w1.setCell ⟨NB,0,none⟩ (.int .i64 (n+1))) a x.ks):=SsS.k1 hk1 hSN HKS.out;generalize w1.setCell ⟨NB,0,none⟩ (.int .i64 (n+1))=w2 at *
 clear n0 n0f QN1 QC1 QX1 HKS hal hk1;have hCC:∀ W W':World,W.heap[w.heap.size]? = some (.cells #[.int .i64 at_] 86 (0,0))∧W.heap[NB]? = some (.cells #[.int .i64 (n+1)] 3 (0,0))→Below W.heap.size W W'→W'.heap[w.heap.size]? = some (.cells #[.int .i64 at_] 86 (0,0))∧W'.heap[NB]? = some (.cells #[.int .i64 (n+1)] 3 (0,0)):=fun W W' h hb=>⟨(hb.block _ (lt_of_heap h.1)).trans h.1,(hb.block _ (lt_of_heap h.2)).trans h.2⟩
 have hdr:Below w2.heap.size w2 w2.drew:=(Below.refl _ _).drew;have CW:=hCC _ _ ⟨QC,QN⟩ hdr;refine wp_region_z (fun W=>W.heap[w.heap.size]? = some (.cells #[.int .i64 at_] 86 (0,0))∧W.heap[NB]? = some (.cells #[.int .i64 (n+1)] 3 (0,0))) 9 (by kernel_rfl) ?_;refine wpZ_take hCC (some 15) (i:=0) (v:=.agg #[.int .i64 at_]) rfl rfl (by kernel_rfl) (by kernel_rfl) (by kernel_rfl) (by kernel_rfl) (by kernel_rfl) rfl (fun _ _ _ h=>h) (Or.inl ⟨rfl,fun n hn=>?_⟩) (fun _=>CW) ?_
 ·have c0:=cell_of (i:=0) hn.1 rfl; go_simp
 simp only [Act.put,pA,pB,pC];refine wpZ_take hCC (some 16) (i:=1) (v:=.pointer (some ⟨NB,0,none⟩)) rfl rfl (by kernel_rfl) (by kernel_rfl) (by kernel_rfl) (by kernel_rfl) (by kernel_rfl) rfl (fun _ _ _ h=>h) (Or.inl ⟨rfl,fun n hn=>?_⟩) (fun _=>CW) ?_
 ·go_simp
 simp only [Act.put,pA,pB,pC];refine wpZ_take hCC (some 17) (i:=2) (v:=.pointer (some ⟨NB,0,none⟩)) rfl rfl (by kernel_rfl) (by kernel_rfl) (by kernel_rfl) (by kernel_rfl) (by kernel_rfl) rfl (fun _ _ _ h=>h) (Or.inl ⟨rfl,fun n hn=>?_⟩) (fun _=>CW) ?_
 ·go_simp
 simp only [Act.put,pA,pB,pC];refine wpZ_take hCC (some 18) (i:=3) (v:=.int .i64 (n+1)) rfl rfl (by kernel_rfl) (by kernel_rfl) (by kernel_rfl) (by kernel_rfl) (by kernel_rfl) rfl (fun _ _ _ h=>h) (Or.inl ⟨rfl,fun n hn=>?_⟩) (fun _=>CW) ?_
 ·have c0:=cell_of (i:=0) hn.2 rfl; go_simp
 simp only [Act.put,pA,pB,pC];by_cases h200:n+1≤200
 case neg =>
  have HR:Hid (M=(4,n+1)):=by show _=_; rw [← HM.out,if_pos (fun h=>h200 h.1)]
  have b200:¬ n+1≤200:=h200;clear HM h200;refine wpZ_take hCC (some 19) (i:=4) (v:=.bool false) rfl rfl (by kernel_rfl) (by kernel_rfl) (by kernel_rfl) (by kernel_rfl) (by kernel_rfl) rfl (fun _ _ _ h=>h) (Or.inl ⟨rfl,fun n hn=>?_⟩) (fun _=>CW) ?_
  ·go_simp
  simp only [Act.put,pA,pB,pC];refine wpZ_take hCC (some 20) (i:=5) (v:=.bool false) rfl rfl (by kernel_rfl) (by kernel_rfl) (by kernel_rfl) (by kernel_rfl) (by kernel_rfl) rfl (fun _ _ _ h=>h) (Or.inl ⟨rfl,fun n hn=>?_⟩) (fun _=>CW) ?_
  ·go_simp
  simp only [Act.put,pA,pB,pC];refine wpZ_take hCC (some 21) (i:=6) (v:=undef) rfl rfl (by kernel_rfl) (by kernel_rfl) (by kernel_rfl) (by kernel_rfl) (by kernel_rfl) rfl (fun _ _ _ h=>h) (Or.inr ⟨rfl,rfl⟩) (fun _=>CW) ?_;simp only [Act.put,pA,pB,pC];refine wpZ_take hCC (some 22) (i:=7) (v:=undef) rfl rfl (by kernel_rfl) (by kernel_rfl) (by kernel_rfl) (by kernel_rfl) (by kernel_rfl) rfl (fun _ _ _ h=>h) (Or.inr ⟨rfl,rfl⟩) (fun _=>CW) ?_;simp only [Act.put,pA,pB,pC]
  refine wpZ_take hCC (some 23) (i:=8) (v:=.bool false) rfl rfl (by kernel_rfl) (by kernel_rfl) (by kernel_rfl) (by kernel_rfl) (by kernel_rfl) rfl (fun _ _ _ h=>h) (Or.inl ⟨rfl,fun n hn=>?_⟩) (fun _=>CW) ?_
  ·go_simp
  simp only [Act.put,pA,pB,pC];refine wpZ_step (rs:=[9]) (by kernel_rfl) (by simp) ?_;intro w7 hb7 jj hj;obtain rfl:jj=9:=by simpa using hj
  clear hj;have con:=need_bad 4 at_ w7;refine wpOp_step rfl (fun K hK=>?_);go_simp;refine con.mono ?_;rintro e w8 ⟨rfl,hb8⟩;exact ⟨rfl,.bad (hx.b (chain hdr (chain hb7 hb8)) (by omega)) (by rw [HR.out]) (by decide)⟩
 refine wpZ_take hCC (some 19) (i:=4) (v:=.bool true) rfl rfl (by kernel_rfl) (by kernel_rfl) (by kernel_rfl) (by kernel_rfl) (by kernel_rfl) rfl (fun _ _ _ h=>h) (Or.inl ⟨rfl,fun n hn=>?_⟩) (fun _=>CW) ?_
 ·go_simp
 simp only [Act.put,pA,pB,pC];refine wpZ_take hCC (some 20) (i:=5) (v:=.bool true) rfl rfl (by kernel_rfl) (by kernel_rfl) (by kernel_rfl) (by kernel_rfl) (by kernel_rfl) rfl (fun _ _ _ h=>h) (Or.inl ⟨rfl,fun n hn=>?_⟩) (fun _=>CW) ?_
 ·go_simp
 simp only [Act.put,pA,pB,pC];refine wpZ_take hCC (some 21) (i:=6) (v:=.int .i64 d) rfl rfl (by kernel_rfl) (by kernel_rfl) (by kernel_rfl) (by kernel_rfl) (by kernel_rfl) rfl (fun _ _ _ h=>h) (Or.inl ⟨rfl,fun n hn=>?_⟩) (fun _=>CW) ?_
 ·go_simp
 simp only [Act.put,pA,pB,pC];by_cases h20:d≤20
 case neg =>
  have HR:Hid (M=(4,n+1)):=by show _=_; rw [← HM.out,if_pos (fun h=>h20 h.2)]
  clear HM;refine wpZ_take hCC (some 22) (i:=7) (v:=.bool false) rfl rfl (by kernel_rfl) (by kernel_rfl) (by kernel_rfl) (by kernel_rfl) (by kernel_rfl) rfl (fun _ _ _ h=>h) (Or.inl ⟨rfl,fun n hn=>?_⟩) (fun _=>CW) ?_
  ·go_simp
  simp only [Act.put,pA,pB,pC];refine wpZ_take hCC (some 23) (i:=8) (v:=.bool false) rfl rfl (by kernel_rfl) (by kernel_rfl) (by kernel_rfl) (by kernel_rfl) (by kernel_rfl) rfl (fun _ _ _ h=>h) (Or.inl ⟨rfl,fun n hn=>?_⟩) (fun _=>CW) ?_
  ·go_simp
  simp only [Act.put,pA,pB,pC];refine wpZ_step (rs:=[9]) (by kernel_rfl) (by simp) ?_;intro w7 hb7 jj hj;obtain rfl:jj=9:=by simpa using hj
  clear hj;have con:=need_bad 4 at_ w7;refine wpOp_step rfl (fun K hK=>?_);go_simp;refine con.mono ?_;rintro e w8 ⟨rfl,hb8⟩;exact ⟨rfl,.bad (hx.b (chain hdr (chain hb7 hb8)) (by omega)) (by rw [HR.out]) (by decide)⟩
 refine wpZ_take hCC (some 22) (i:=7) (v:=.bool true) rfl rfl (by kernel_rfl) (by kernel_rfl) (by kernel_rfl) (by kernel_rfl) (by kernel_rfl) rfl (fun _ _ _ h=>h) (Or.inl ⟨rfl,fun n hn=>?_⟩) (fun _=>CW) ?_
 ·go_simp
 simp only [Act.put,pA,pB,pC];refine wpZ_take hCC (some 23) (i:=8) (v:=.bool true) rfl rfl (by kernel_rfl) (by kernel_rfl) (by kernel_rfl) (by kernel_rfl) (by kernel_rfl) rfl (fun _ _ _ h=>h) (Or.inl ⟨rfl,fun n hn=>?_⟩) (fun _=>CW) ?_
 ·go_simp
 simp only [Act.put,pA,pB,pC];refine wpZ_step (rs:=[9]) (by kernel_rfl) (by simp) ?_;intro w7 hb7 jj hj;obtain rfl:jj=9:=by simpa using hj
 clear hj;have con:=need_ok 4 at_ w7;refine wpOp_step rfl (fun K hK=>?_);go_simp;refine con.mono ?_;rintro e w8 ⟨rfl,hb8⟩;refine hK _ _ ⟨fun h=>by simp at h,?_⟩;clear hK K con;refine wpZ_done (by kernel_rfl) ?_;intro w9 hb9;have D9:=chain hdr (chain hb7 (chain hb8 hb9));have hx9:BelowX NB w w9:=hx.b D9 (by omega);have QC9:=(D9.block _ (lt_of_heap QC)).trans QC;have QX9:=(D9.block _ (lt_of_heap QX)).trans QX;have QN9:=(D9.block _ (lt_of_heap QN)).trans QN;have HK9:Hid (SsS S w9 a x.ks):=SsS.next D9 HK.out;have hM:=HM.out;rw [if_neg (fun h=>h ⟨h200,h20⟩)] at hM
 clear HM HK QN QC QX hx D9 hb7 hb8 hb9 hdr CW hCC;have x0:w9.cell? ⟨w.heap.size+1,0,none⟩=some (.int .i64 x.k):=cell_of (i:=0) QX9 rfl;have k0:w9.cell? ⟨w.heap.size,0,none⟩=some (.int .i64 at_):=cell_of (i:=0) QC9 rfl;have hcs:(1≤x.k∧x.k≤23)∨(1≤x.k∧¬ x.k≤23)∨¬ 1≤x.k:=by omega
 obtain ⟨hk1,hk2⟩ | hbad:(1≤x.k∧x.k≤23)∨((1≤x.k∧¬ x.k≤23)∨¬ 1≤x.k):=hcs
 case inr =>
  have HR:Hid (M=(1,n+1)):=by show _=_; rw [← hM,if_pos (by omega)]
  have con:=need_bad 1 at_ w9;clear hM;rcases hbad with ⟨g1,g2⟩ | g1
  all_goals
   go_wp2_with fail
   refine con.mono ?_;rintro e wA ⟨rfl,hbA⟩;go_wp2_with fail
   exact ⟨rfl,.bad (hx9.b hbA (by omega)) (by rw [HR.out]) (by decide)⟩
 rw [if_neg (fun h=>h ⟨hk1,hk2⟩)] at hM;have HM:Hid _:=hM;have con:=need_ok 1 at_ w9;clear hM;go_wp2_with fail
 refine con.mono ?_;rintro e w10 ⟨rfl,hb10⟩;have hx10:BelowX NB w w10:=hx9.b hb10 (by omega);have QC10:=(hb10.block _ (lt_of_heap QC9)).trans QC9;have QX10:=(hb10.block _ (lt_of_heap QX9)).trans QX9;have QN10:=(hb10.block _ (lt_of_heap QN9)).trans QN9;have HK10:Hid (SsS S w10 a x.ks):=SsS.next hb10 HK9.out;clear con hb10 HK9 QC9 QX9 QN9 hx9 x0 k0;go_upto_region 4 with fail
 have hCC:∀ W W':World,W.heap[w.heap.size]? = some (.cells #[.int .i64 at_] 86 (0,0))∧W.heap[w.heap.size+1]? = some (.cells (sxA x a c) 55 (0,0))→Below W.heap.size W W'→W'.heap[w.heap.size]? = some (.cells #[.int .i64 at_] 86 (0,0))∧W'.heap[w.heap.size+1]? = some (.cells (sxA x a c) 55 (0,0)):=fun W W' h hb=>⟨(hb.block _ (lt_of_heap h.1)).trans h.1,(hb.block _ (lt_of_heap h.2)).trans h.2⟩
 have hdr:Below w10.heap.size w10 w10.drew:=(Below.refl _ _).drew;have CW:=hCC _ _ ⟨QC10,QX10⟩ hdr;refine wp_region_z (fun W=>W.heap[w.heap.size]? = some (.cells #[.int .i64 at_] 86 (0,0))∧W.heap[w.heap.size+1]? = some (.cells (sxA x a c) 55 (0,0))) 8 (by kernel_rfl) ?_;refine wpZ_take hCC (some 35) (i:=0) (v:=.agg #[.int .i64 at_]) rfl rfl (by kernel_rfl) (by kernel_rfl) (by kernel_rfl) (by kernel_rfl) (by kernel_rfl) rfl (fun _ _ _ h=>h) (Or.inl ⟨rfl,fun n hn=>?_⟩) (fun _=>CW) ?_
 ·have c0:=cell_of (i:=0) hn.1 rfl; go_simp
 simp only [Act.put,pA,pB,pC];refine wpZ_take hCC (some 36) (i:=1) (v:=.pointer (some ⟨w.heap.size+1,6,none⟩)) rfl rfl (by kernel_rfl) (by kernel_rfl) (by kernel_rfl) (by kernel_rfl) (by kernel_rfl) rfl (fun _ _ _ h=>h) (Or.inl ⟨rfl,fun n hn=>?_⟩) (fun _=>CW) ?_
 ·go_simp
 simp only [Act.put,pA,pB,pC];refine wpZ_take hCC (some 37) (i:=2) (v:=.slice a x.ks.length c) rfl rfl (by kernel_rfl) (by kernel_rfl) (by kernel_rfl) (by kernel_rfl) (by kernel_rfl) rfl (fun _ _ _ h=>h) (Or.inl ⟨rfl,fun n hn=>?_⟩) (fun _=>CW) ?_
 ·have c0:=cell_of (i:=6) hn.2 rfl; go_simp
 simp only [Act.put,pA,pB,pC];refine wpZ_take hCC (some 38) (i:=3) (v:=.int .i64 x.ks.length) rfl rfl (by kernel_rfl) (by kernel_rfl) (by kernel_rfl) (by kernel_rfl) (by kernel_rfl) rfl (fun _ _ _ h=>h) (Or.inl ⟨rfl,fun n hn=>?_⟩) (fun _=>CW) ?_
 ·go_simp
 simp only [Act.put,pA,pB,pC];refine wpZ_take hCC (some 39) (i:=4) (v:=.pointer (some ⟨w.heap.size+1,0,none⟩)) rfl rfl (by kernel_rfl) (by kernel_rfl) (by kernel_rfl) (by kernel_rfl) (by kernel_rfl) rfl (fun _ _ _ h=>h) (Or.inl ⟨rfl,fun n hn=>?_⟩) (fun _=>CW) ?_
 ·go_simp
 simp only [Act.put,pA,pB,pC];refine wpZ_take hCC (some 40) (i:=5) (v:=.int .i64 x.k) rfl rfl (by kernel_rfl) (by kernel_rfl) (by kernel_rfl) (by kernel_rfl) (by kernel_rfl) rfl (fun _ _ _ h=>h) (Or.inl ⟨rfl,fun n hn=>?_⟩) (fun _=>CW) ?_
 ·have c0:=cell_of (i:=0) hn.2 rfl; go_simp
 simp only [Act.put,pA,pB,pC];refine wpZ_step (rs:=[6]) (by kernel_rfl) (by simp) ?_;intro w11 hb11 jj hj;obtain rfl:jj=6:=by simpa using hj
 clear hj;have con:=kidsOf_at hk1 hk2 w11;refine wpOp_step rfl (fun K hK=>?_);go_simp;refine con.mono ?_;rintro e w12 ⟨rfl,rfl⟩;have CW2:=hCC _ _ CW hb11;refine hK _ _ ⟨fun _=>CW2,?_⟩;clear hK K con;have D12:=chain hdr hb11;clear CW;have CW:=CW2;by_cases hkk:x.ks.length=kidsC x.k
 case neg =>
  have HR:Hid (M=(5,n+1)):=by show _=_; rw [← HM.out,if_pos hkk]
  have bk:(((x.ks.length:Nat):Int) == ((kidsC x.k:Nat):Int))=false:=by rw [beq_eq_false_iff_ne]; omega
  clear HM;generalize kidsC x.k=kc at *;refine wpZ_take hCC (some 42) (i:=7) (v:=.bool false) rfl rfl (by kernel_rfl) (by kernel_rfl) (by kernel_rfl) (by kernel_rfl) (by kernel_rfl) rfl (fun _ _ _ h=>h) (Or.inl ⟨rfl,fun n hn=>?_⟩) (fun _=>CW) ?_
  ·go_simp
  simp only [Act.put,pA,pB,pC];refine wpZ_step (rs:=[8]) (by kernel_rfl) (by simp) ?_;intro w7 hb7 jj hj;obtain rfl:jj=8:=by simpa using hj
  clear hj;have con:=need_bad 5 at_ w7;refine wpOp_step rfl (fun K hK=>?_);go_simp;refine con.mono ?_;rintro e w8 ⟨rfl,hb8⟩;exact ⟨rfl,.bad (hx10.b (chain D12 (chain hb7 hb8)) (by omega)) (by rw [HR.out]) (by decide)⟩
 have bk:(((x.ks.length:Nat):Int) == ((kidsC x.k:Nat):Int))=true:=by rw [hkk]; simp
 have hM:=HM.out;rw [if_neg (fun h=>h hkk)] at hM;have hk3:x.ks.length≤3:=by rw [hkk]; unfold kidsC; split <;> (try split) <;> (try split) <;> omega
 have HM2:Hid _:=hM;clear HM hM hkk;generalize kidsC x.k=kc at *;refine wpZ_take hCC (some 42) (i:=7) (v:=.bool true) rfl rfl (by kernel_rfl) (by kernel_rfl) (by kernel_rfl) (by kernel_rfl) (by kernel_rfl) rfl (fun _ _ _ h=>h) (Or.inl ⟨rfl,fun n hn=>?_⟩) (fun _=>CW) ?_
 ·go_simp
 simp only [Act.put,pA,pB,pC];refine wpZ_step (rs:=[8]) (by kernel_rfl) (by simp) ?_;intro w7 hb7 jj hj;obtain rfl:jj=8:=by simpa using hj
 clear hj;have con:=need_ok 5 at_ w7;refine wpOp_step rfl (fun K hK=>?_);go_simp;refine con.mono ?_;rintro e w8 ⟨rfl,hb8⟩;refine hK _ _ ⟨fun h=>by simp at h,?_⟩;clear hK K con;refine wpZ_done (by kernel_rfl) ?_;intro w13 hb13;have D13:=chain D12 (chain hb7 (chain hb8 hb13));have hx13:BelowX NB w w13:=hx10.b D13 (by omega);have QC13:=(D13.block _ (lt_of_heap QC10)).trans QC10;have QX13:=(D13.block _ (lt_of_heap QX10)).trans QX10;have QN13:=(D13.block _ (lt_of_heap QN10)).trans QN10;have HK13:Hid (SsS S w13 a x.ks):=SsS.next D13 HK10.out
 clear HK10 QN10 QC10 QX10 hx10 D12 D13 hb7 hb8 hb13 hdr CW CW2 hCC hb11 bk;obtain ⟨x0,x1,x2,x3,x4,x5,x6⟩:=cells7 QX13;have k0:w13.cell? ⟨w.heap.size,0,none⟩=some (.int .i64 at_):=cell_of (i:=0) QC13 rfl;go_upto_block 0 with fail
 go_cut [] (fun wc=>Hid (kindC x=0)∧Below w13.heap.size w13 wc)
 case first =>
  by_cases e1:x.k=1
  ·have hkd:kindC x=valC x.v:=by rw [kindC,if_pos e1]
   have b1:(x.k == 1)=true:=by simpa using e1
   have con:=cvalue_at x.v at_ w13;have hM:=HM2.out;have HKD:Hid _:=hkd;rw [hkd] at hM;generalize valC x.v=r at *;have HM3:Hid _:=hM;clear HM2 hM hkd e1;go_wp2_with fail
   refine con.mono ?_;rintro e w14 ⟨hb14,⟨h,rfl⟩ | ⟨h,rfl⟩⟩
   ·go_wp2_with fail
    go_meet
    case rel=>exact ⟨HKD.out.trans h,hb14⟩
   ·have HR:Hid (M=(r,n+1)):=by show _=_; rw [← HM3.out,if_pos h]
    clear HM3;go_wp2_with fail
    exact ⟨rfl,.bad (hx13.b hb14 (by omega)) (by rw [HR.out]) h⟩
  have b1:(x.k == 1)=false:=by simpa using e1
  by_cases e2:x.k=2
  ·have hkd:kindC x=sqE (nameC x.name) (maybeC x.tab):=by rw [kindC,if_neg e1,if_pos e2]
   have b2:(x.k == 2)=true:=by simpa using e2
   have con:=cname_at x.name at_ w13;have hM:=HM2.out;have HKD:Hid _:=hkd;rw [hkd] at hM;generalize nameC x.name=r at *;have HM3:Hid _:=hM;have con2:=fun W=>maybe_at x.tab at_ W
   generalize maybeC x.tab=r2 at *;clear HM2 hM hkd e1 e2;go_wp2_with fail
   refine con.mono ?_;rintro e w14 ⟨hb14,⟨h,rfl⟩ | ⟨h,rfl⟩⟩
   ·subst h;have QX14:=(hb14.block _ (lt_of_heap QX13)).trans QX13;have QC14:=(hb14.block _ (lt_of_heap QC13)).trans QC13;have y4:w14.cell? ⟨w.heap.size+1,4,none⟩=some (.string x.tab):=cell_of (i:=4) QX14 rfl;have y0:w14.cell? ⟨w.heap.size,0,none⟩=some (.int .i64 at_):=cell_of (i:=0) QC14 rfl;have con3:=con2 w14;clear con con2;go_wp2_with fail
    refine con3.mono ?_;rintro e w15 ⟨hb15,⟨h,rfl⟩ | ⟨h,rfl⟩⟩
    ·go_wp2_with fail
     go_meet
     case rel=>exact ⟨HKD.out.trans (by rw [sqE_0]; exact h),chain hb14 hb15⟩
    ·have HR:Hid (M=(r2,n+1)):=by show _=_; rw [← HM3.out,sqE_0,if_pos h]
     clear HM3;go_wp2_with fail
     exact ⟨rfl,.bad (hx13.b (chain hb14 hb15) (by omega)) (by rw [HR.out]) h⟩
   ·have HR:Hid (M=(r,n+1)):=by show _=_; rw [← HM3.out,sqE_n h,if_pos h]
    clear HM3;go_wp2_with fail
    exact ⟨rfl,.bad (hx13.b hb14 (by omega)) (by rw [HR.out]) h⟩
  ·have hkd:kindC x=0:=by rw [kindC,if_neg e1,if_neg e2]
   have HKD:Hid (kindC x=0):=hkd;have b2:(x.k == 2)=false:=by simpa using e2
   clear hkd;go_wp2_with fail
   go_meet
   case rel=>exact ⟨HKD,Below.refl _ _⟩
 case rest =>
  obtain ⟨hkd,hbc⟩:=hcut;have hM:=HM2.out;rw [if_neg (fun h=>h hkd.out)] at hM;have HL:Hid (foldC (fun y m=>nodeC f y (d+1) m) x.ks (n+1)=M):=hM;have hxc:BelowX NB w wc:=hx13.b hbc (by omega);have QCc:=(hbc.block _ (lt_of_heap QC13)).trans QC13;have QXc:=(hbc.block _ (lt_of_heap QX13)).trans QX13;have QNc:=(hbc.block _ (lt_of_heap QN13)).trans QN13;have HKc:Hid (SsS S wc a x.ks):=SsS.next hbc HK13.out;clear HM2 hM HK13 QN13 QC13 QX13 hx13 x0 x1 x2 x3 x4 x5 x6 k0;have x6:wc.cell? ⟨w.heap.size+1,6,none⟩=some (.slice a x.ks.length c):=cell_of (i:=6) QXc rfl;go_wp2_with fail
  go_loopw [65] (fun jv wr=>∃ (j:Nat) (m:Int),j≤x.ks.length∧jv = .int .i64 j∧Hid (foldC (fun y m=>nodeC f y (d+1) m) (x.ks.drop j) m=M)∧0≤m∧m≤200∧BelowX NB w wr∧wr.heap[w.heap.size]? = some (.cells #[.int .i64 at_] 86 (0,0))∧wr.heap[NB]? = some (.cells #[.int .i64 m] 3 (0,0))∧Hid (SsS S wr a x.ks)) (fun jv _=>x.ks.length - (RowKit.intOf jv).toNat)
  case atStart=>exact ⟨0,n+1,by omega,rfl,by simpa using HL,by omega,h200,hxc,QCc,QNc,HKc⟩
  case round =>
   clear HL hxc QCc QNc HKc QXc x6;obtain ⟨j,m,hj,rfl,HL,hm0,hm1,hxr,QCr,QNr,HKr⟩:=hrel;have hzr:=hxr.size;by_cases hlt:j<x.ks.length
   ·have hjz:(j:Int)<(x.ks.length:Int):=by omega
    have hL:=HL.out;rw [List.drop_eq_getElem_cons hlt,foldC] at hL;obtain ⟨b,off,ai,ci,rfl,hSb,hbl,sv,hkk⟩:=HKr.out.elem hlt;have hal:Below wr.heap.size wr (wr.alloc (.cells (sxA x.ks[j] ai ci) 55)):=(Below.refl _ _).alloc (Nat.le_refl _) _;have QY:=heap_new wr (sxA x.ks[j] ai ci) 55;have QNa:=(hal.block _ (lt_of_heap QNr)).trans QNr;have QCa:=(hal.block _ (lt_of_heap QCr)).trans QCr;have con:=HIH.out (by omega) x.ks[j] (d+1) m at_ ai ci NB S (wr.alloc (.cells (sxA x.ks[j] ai ci) 55)) (by omega) (by omega) hm0 hm1 QNa (SsS.next hal hkk) hSN;obtain ⟨s0,s1,s2,s3,s4,s5,s6⟩:=sv
    have HL2:Hid _:=hL;generalize hr:nodeC f x.ks[j] (d+1) m=r at *;generalize x.ks[j]=y at *;have HKr2:Hid (SsS S (wr.alloc (.cells (sxA y ai ci) 55)) (some ⟨b,off,none⟩) x.ks):=SsS.next hal HKr.out;clear HL hL hkk hr HKr;go_upto_region 14 with fail
    generalize wr.alloc (.cells (sxA y ai ci) 55)=wa at *;obtain ⟨y0,y1,y2,y3,y4,y5,y6⟩:=cells7 QY;have k0:wa.cell? ⟨w.heap.size,0,none⟩=some (.int .i64 at_):=cell_of (i:=0) QCa rfl;clear s0 s1 s2 s3 s4 s5 s6;go_wp2_with fail
    refine con.mono ?_;rintro e wb ⟨hbb,⟨h,rfl,QNb,hr0,hr1⟩ | ⟨h,rfl⟩⟩
    ·have hxb:BelowX NB w wb:=(hxr.b hal (by omega)).trans hbb;have QCb:=(hbb.2 _ (lt_of_heap QCa) (by omega)).trans QCa;have HKb:Hid (SsS S wb (some ⟨b,off,none⟩) x.ks):=SsS.k1 hbb.k1 hSN HKr2.out;have HL3:Hid (foldC (fun y m=>nodeC f y (d+1) m) (x.ks.drop (j+1)) r.2=M):=by have:=HL2.out; rw [if_pos h] at this; exact this
     clear HL2 con;go_wp2_with fail
     go_roundw
     case rel=>exact ⟨j+1,r.2,by omega,by go_num,HL3,hr0,hr1,hxb,QCb,QNb,HKb⟩
     case measure=>simp [RowKit.intOf]; omega
    ·have HR:Hid (M=r):=by have:=HL2.out; rw [if_neg h] at this; exact this.symm
     clear HL2 con;go_wp2_with fail
     exact ⟨rfl,.bad ((hxr.b hal (by omega)).trans hbb) (by rw [HR.out]) h⟩
   ·have hjz:¬ (j:Int)<(x.ks.length:Int):=by omega
    have e:M=(0,m):=by rw [← HL.out,List.drop_eq_nil_of_le (by omega)]; rfl
    subst e;clear HL;go_wp2_with fail
    go_end0
    exact ⟨hxr,.inl ⟨rfl,rfl,QNr,hm0,hm1⟩⟩

theorem nodeAll:∀ f,NodeAt (f+1)
 | 0=>node_step (fun h=>absurd h (by decide))
 | f+1=>node_step (fun _=>nodeAll f)
def exprC (x:SX):Int:=(nodeC 21 x 1 0).1
theorem cexpr_at (x:SX) (at_:Int) (a:Option Addr) (c:Nat) (S:Nat→Prop) (w:World) (hks:SsS S w a x.ks):Calls Tryz.prog 103 #[.agg #[.int .i64 at_],.agg (sxA x a c)] w (CEnds w at_ (exprC x)):=by
 have hal1:Below w.heap.size w (w.alloc (.cells #[.int .i64 at_] 86)):=(Below.refl _ _).alloc (Nat.le_refl _) _;have hal2:Below (w.alloc (.cells #[.int .i64 at_] 86)).heap.size (w.alloc (.cells #[.int .i64 at_] 86)) ((w.alloc (.cells #[.int .i64 at_] 86)).alloc (.cells (sxA x a c) 55)):=(Below.refl _ _).alloc (Nat.le_refl _) _;have QC:((w.alloc (.cells #[.int .i64 at_] 86)).alloc (.cells (sxA x a c) 55)).heap[w.heap.size]? = some (.cells #[.int .i64 at_] 86 (0,0)):=(hal2.block _ (lt_of_heap (heap_new w #[.int .i64 at_] 86))).trans (heap_new w _ _)
 have QX:((w.alloc (.cells #[.int .i64 at_] 86)).alloc (.cells (sxA x a c) 55)).heap[w.heap.size+1]? = some (.cells (sxA x a c) 55 (0,0)):=by
  rw [show w.heap.size+1=(w.alloc (.cells #[.int .i64 at_] 86)).heap.size by simp];exact heap_new _ _ _
 have hal:=chain hal1 hal2;clear hal1 hal2;have HKS:Hid (SsS (fun b=>b<w.heap.size) ((w.alloc (.cells #[.int .i64 at_] 86)).alloc (.cells (sxA x a c) 55)) a x.ks):=SsS.next hal (SsS.mono (fun b _ h=>h) hks);generalize hr:exprC x=r;have HR:Hid ((nodeC 21 x 1 0).1=r):=hr;clear hr hks;go_enter Tryz.func103,Tryz.ntmps103;go_upto_region 1 with fail
 generalize ((w.alloc (.cells #[.int .i64 at_] 86)).alloc (.cells (sxA x a c) 55))=w1 at *;have hl1:=lt_of_heap QX;have hal3:Below w1.heap.size w1 (w1.alloc (.cells #[.int .i64 0] 3)):=(Below.refl _ _).alloc (Nat.le_refl _) _;have QN:=heap_new w1 #[.int .i64 0] 3;have con:=nodeAll 20 x 1 0 at_ a c w1.heap.size (fun b=>b<w.heap.size) (w1.alloc (.cells #[.int .i64 0] 3)) (by decide) (by decide) (by decide) (by decide) QN (SsS.next hal3 HKS.out) (by show ¬ _<_; omega);have QC3:=(hal3.block _ (lt_of_heap QC)).trans QC;have QX3:=(hal3.block _ (lt_of_heap QX)).trans QX
 generalize nodeC (20+1) x 1 0=nr at *;go_upto_region 2 with fail
 generalize w1.alloc (.cells #[.int .i64 0] 3)=w2 at *;obtain ⟨x0,x1,x2,x3,x4,x5,x6⟩:=cells7 QX3;have k0:w2.cell? ⟨w.heap.size,0,none⟩=some (.int .i64 at_):=cell_of (i:=0) QC3 rfl;go_wp2_with fail
 refine con.mono ?_;rintro e w3 ⟨hb3,hW⟩;have hbb:Below w.heap.size w w3:=(chain hal hal3).trans (hb3.1.mono (by omega));rcases hW with ⟨h,rfl,_⟩ | ⟨h,rfl⟩
 ·go_wp2_with fail
  go_end0
  exact .ok hbb (HR.out.symm.trans h)
 ·go_wp2_with fail
  exact ⟨rfl,.bad hbb HR.out.symm h⟩
def exprIfC (b:Bool) (x:SX):Int:=if b then exprC x else 0
theorem cexprIf_at (b:Bool) (x:SX) (at_:Int) (a:Option Addr) (c:Nat) (S:Nat→Prop) (w:World) (hks:SsS S w a x.ks):Calls Tryz.prog 72 #[.agg #[.int .i64 at_],.bool b,.agg (sxA x a c)] w (CEnds w at_ (exprIfC b x)):=by
 have hal1:Below w.heap.size w (w.alloc (.cells #[.int .i64 at_] 86)):=(Below.refl _ _).alloc (Nat.le_refl _) _;have hal2:Below (w.alloc (.cells #[.int .i64 at_] 86)).heap.size (w.alloc (.cells #[.int .i64 at_] 86)) ((w.alloc (.cells #[.int .i64 at_] 86)).alloc (.cells (sxA x a c) 55)):=(Below.refl _ _).alloc (Nat.le_refl _) _;have QC:((w.alloc (.cells #[.int .i64 at_] 86)).alloc (.cells (sxA x a c) 55)).heap[w.heap.size]? = some (.cells #[.int .i64 at_] 86 (0,0)):=(hal2.block _ (lt_of_heap (heap_new w #[.int .i64 at_] 86))).trans (heap_new w _ _)
 have QX:((w.alloc (.cells #[.int .i64 at_] 86)).alloc (.cells (sxA x a c) 55)).heap[w.heap.size+1]? = some (.cells (sxA x a c) 55 (0,0)):=by
  rw [show w.heap.size+1=(w.alloc (.cells #[.int .i64 at_] 86)).heap.size by simp];exact heap_new _ _ _
 have hal:=chain hal1 hal2;clear hal1 hal2;have con:=cexpr_at x at_ a c S ((w.alloc (.cells #[.int .i64 at_] 86)).alloc (.cells (sxA x a c) 55)) (SsS.next hal hks);rw [exprIfC];generalize exprC x=r at *;clear hks;cases b
 ·rw [if_neg (by decide)];go_enter Tryz.func72,Tryz.ntmps72;go_wp2_with fail
  go_end0
  exact .ok hal rfl
 ·rw [if_pos rfl];go_enter Tryz.func72,Tryz.ntmps72;go_upto_region 1 with fail
  generalize ((w.alloc (.cells #[.int .i64 at_] 86)).alloc (.cells (sxA x a c) 55))=w1 at *;obtain ⟨x0,x1,x2,x3,x4,x5,x6⟩:=cells7 QX;have k0:w1.cell? ⟨w.heap.size,0,none⟩=some (.int .i64 at_):=cell_of (i:=0) QC rfl;go_wp2_with fail
  refine con.mono ?_;rintro e w2 ⟨hb2,⟨h,rfl⟩ | ⟨h,rfl⟩⟩
  ·go_wp2_with fail
   go_end0
   exact .ok (chain hal hb2) h
  ·go_wp2_with fail
   exact ⟨rfl,.bad (chain hal hb2) rfl h⟩
def exprsC:List SX→Int
 | []=>0
 | x :: r=>sqE (exprC x) (exprsC r)
theorem cexprs_at (l:List SX) (hl:l.length≤1000) (at_:Int) (a:Option Addr) (c:Nat) (S:Nat→Prop) (w:World) (hks:SsS S w a l):Calls Tryz.prog 105 #[.agg #[.int .i64 at_],.slice a l.length c] w (CEnds w at_ (exprsC l)):=by
 have hal:Below w.heap.size w (w.alloc (.cells #[.int .i64 at_] 86)):=(Below.refl _ _).alloc (Nat.le_refl _) _;have QC:=heap_new w #[.int .i64 at_] 86;generalize hr:exprsC l=r;have HR:Hid (exprsC (l.drop 0)=r):=by show _=_; simpa using hr
 have HKS:Hid (SsS S w a l):=hks;clear hr hks;go_enter Tryz.func105,Tryz.ntmps105;go_upto_region 1 with fail
 generalize w.alloc (.cells #[.int .i64 at_] 86)=w1 at *;go_wp2_with fail
 go_loopw [8] (fun jv wr=>∃ j:Nat,j≤l.length∧jv = .int .i64 j∧Hid (exprsC (l.drop j)=r)∧Below w.heap.size w wr∧wr.heap[w.heap.size]? = some (.cells #[.int .i64 at_] 86 (0,0))) (fun jv _=>l.length - (RowKit.intOf jv).toNat)
 case atStart=>exact ⟨0,by omega,rfl,HR,hal,QC⟩
 case round =>
  clear HR hal QC;obtain ⟨j,hj,rfl,HL,hx,QC⟩:=hrel;by_cases hlt:j<l.length
  ·have hjz:(j:Int)<(l.length:Int):=by omega
   have hL:=HL.out;rw [List.drop_eq_getElem_cons hlt,exprsC] at hL;obtain ⟨b,off,ai,ci,rfl,hSb,hbl,sv,hkk⟩:=(SsS.next hx HKS.out).elem hlt;have hal:Below wr.heap.size wr (wr.alloc (.cells (sxA l[j] ai ci) 55)):=(Below.refl _ _).alloc (Nat.le_refl _) _;have QY:=heap_new wr (sxA l[j] ai ci) 55;have QCa:=(hal.block _ (lt_of_heap QC)).trans QC;have con:=cexpr_at l[j] at_ ai ci S (wr.alloc (.cells (sxA l[j] ai ci) 55)) (SsS.next hal hkk);obtain ⟨s0,s1,s2,s3,s4,s5,s6⟩:=sv;have HL2:Hid _:=hL;generalize exprC l[j]=r1 at *;generalize l[j]=y at *;clear HL hL hkk;go_upto_region 4 with fail
   generalize wr.alloc (.cells (sxA y ai ci) 55)=wa at *;obtain ⟨y0,y1,y2,y3,y4,y5,y6⟩:=cells7 QY;have k0:wa.cell? ⟨w.heap.size,0,none⟩=some (.int .i64 at_):=cell_of (i:=0) QCa rfl;clear s0 s1 s2 s3 s4 s5 s6;go_wp2_with fail
   refine con.mono ?_;rintro e wb ⟨hbb,⟨h,rfl⟩ | ⟨h,rfl⟩⟩
   ·have QCb:=(hbb.block _ (lt_of_heap QCa)).trans QCa;have HL3:Hid (exprsC (l.drop (j+1))=r):=by have:=HL2.out; rw [h,sqE_0] at this; exact this
    clear HL2 con;go_wp2_with fail
    go_roundw
    case rel=>exact ⟨j+1,by omega,by go_num,HL3,chain hx (chain hal hbb),QCb⟩
    case measure=>simp [RowKit.intOf]; omega
   ·have HR:Hid (r1=r):=by have:=HL2.out; rw [sqE_n h] at this; exact this
    clear HL2 con;go_wp2_with fail
    exact ⟨rfl,.bad (chain hx (chain hal hbb)) HR.out.symm h⟩
  ·have hjz:¬ (j:Int)<(l.length:Int):=by omega
   have e:r=0:=by rw [← HL.out,List.drop_eq_nil_of_le (by omega)]; rfl
   have E:Hid (r=0):=e;clear HL e;go_wp2_with fail
   go_end0
   exact .ok hx E.out

def sourceC (first:Bool) (x:Src):Int:=sqE (if (if first then x.kind == 1 else decide (2≤x.kind) && decide (x.kind≤5)) then 0 else 1) (sqE (nameC x.name) (sqE (maybeC x.alias) (sqE (exprIfC (!first) x.on) 0)))
theorem csource_at (first:Bool) (x:Src) (a:Option Addr) (c:Nat) (S:Nat→Prop) (at_:Int) (w:World) (hks:SsS S w a x.on.ks):Calls Tryz.prog 137 #[.agg #[.int .i64 at_],.agg #[.int .i64 x.kind,.string x.name,.string x.alias,.int .i64 x.on.k,.int .i64 x.on.v.1,.int .i64 x.on.v.2.1,.string x.on.v.2.2,.string x.on.tab,.string x.on.name,.slice a x.on.ks.length c],.bool first] w (CEnds w at_ (sourceC first x)):=by
 have hal1:Below w.heap.size w (w.alloc (.cells #[.int .i64 at_] 86)):=(Below.refl _ _).alloc (Nat.le_refl _) _;have hal2:Below (w.alloc (.cells #[.int .i64 at_] 86)).heap.size (w.alloc (.cells #[.int .i64 at_] 86)) ((w.alloc (.cells #[.int .i64 at_] 86)).alloc (.cells #[.int .i64 x.kind,.string x.name,.string x.alias,.int .i64 x.on.k,.int .i64 x.on.v.1,.int .i64 x.on.v.2.1,.string x.on.v.2.2,.string x.on.tab,.string x.on.name,.slice a x.on.ks.length c] 105)):=(Below.refl _ _).alloc (Nat.le_refl _) _
 have QC:((w.alloc (.cells #[.int .i64 at_] 86)).alloc (.cells #[.int .i64 x.kind,.string x.name,.string x.alias,.int .i64 x.on.k,.int .i64 x.on.v.1,.int .i64 x.on.v.2.1,.string x.on.v.2.2,.string x.on.tab,.string x.on.name,.slice a x.on.ks.length c] 105)).heap[w.heap.size]? = some (.cells #[.int .i64 at_] 86 (0,0)):=(hal2.block _ (lt_of_heap (heap_new w #[.int .i64 at_] 86))).trans (heap_new w _ _)
 have QX:((w.alloc (.cells #[.int .i64 at_] 86)).alloc (.cells #[.int .i64 x.kind,.string x.name,.string x.alias,.int .i64 x.on.k,.int .i64 x.on.v.1,.int .i64 x.on.v.2.1,.string x.on.v.2.2,.string x.on.tab,.string x.on.name,.slice a x.on.ks.length c] 105)).heap[w.heap.size+1]? = some (.cells #[.int .i64 x.kind,.string x.name,.string x.alias,.int .i64 x.on.k,.int .i64 x.on.v.1,.int .i64 x.on.v.2.1,.string x.on.v.2.2,.string x.on.tab,.string x.on.name,.slice a x.on.ks.length c] 105 (0,0)):=by
  rw [show w.heap.size+1=(w.alloc (.cells #[.int .i64 at_] 86)).heap.size by simp];exact heap_new _ _ _
 have hal:=chain hal1 hal2;clear hal1 hal2;generalize hM:sourceC first x=M
 have HM0:Hid _:=hM;clear hM;have HK1:Hid (En10 (fun _=>True) ((w.alloc (.cells #[.int .i64 at_] 86)).alloc (.cells #[.int .i64 x.kind,.string x.name,.string x.alias,.int .i64 x.on.k,.int .i64 x.on.v.1,.int .i64 x.on.v.2.1,.string x.on.v.2.2,.string x.on.tab,.string x.on.name,.slice a x.on.ks.length c] 105)) x [.int .i64 x.kind,.string x.name,.string x.alias,.int .i64 x.on.k,.int .i64 x.on.v.1,.int .i64 x.on.v.2.1,.string x.on.v.2.2,.string x.on.tab,.string x.on.name,.slice a x.on.ks.length c]):=en10.next (Keeps'.of hal) (en10.mono (fun _ _ _=>trivial) ⟨a,c,rfl,hks⟩)
 go_enter Tryz.func137,Tryz.ntmps137;go_upto_region 1 with fail
 generalize ((w.alloc (.cells #[.int .i64 at_] 86)).alloc (.cells #[.int .i64 x.kind,.string x.name,.string x.alias,.int .i64 x.on.k,.int .i64 x.on.v.1,.int .i64 x.on.v.2.1,.string x.on.v.2.2,.string x.on.tab,.string x.on.name,.slice a x.on.ks.length c] 105))=w1 at *;have hm:=HM0.out;rw [sourceC] at hm;have HMa:Hid _:=hm;clear hm HM0 hks;have k2:w1.cell? ⟨w.heap.size,0,none⟩=some (.int .i64 at_):=cell_of (i:=0) QC rfl;have k3:w1.cell? ⟨w.heap.size+1,0,none⟩=some (.int .i64 x.kind):=cell_of (i:=0) QX rfl;have hcut:Below w1.heap.size w1 w1:=Below.refl _ _
 obtain ⟨RR,hRR⟩:∃ r,sqE (nameC x.name) (sqE (maybeC x.alias) (sqE (exprIfC (!first) x.on) 0))=r:=⟨_,rfl⟩
 have hm:=HMa.out;rw [hRR] at hm;have HMx:Hid _:=hm;clear hm HMa;have HMa:=HMx;have HRR:Hid _:=hRR;clear hRR HMx;go_upto_if 6 with fail
 go_cut [] (fun wc=>Hid (RR=M)∧Below w1.heap.size w1 wc)
 case first =>
  cases first
  ·have hcs:(2≤x.kind∧x.kind≤5)∨(2≤x.kind∧¬ x.kind≤5)∨¬ 2≤x.kind:=by omega
   rcases hcs with ⟨g1,g2⟩ | ⟨g1,g2⟩ | g1
   ·skip
    have con:=need_ok 1 at_ w1;have HR:Hid (RR=M):=by show _=_; have:=HMa.out; simp only [Bool.false_eq_true,if_false,decide_eq_true g1,decide_eq_true g2,Bool.true_and,if_true] at this; simpa [sqE] using this
    clear HMa ;go_wp2_with fail
    refine con.mono ?_;rintro e w2 ⟨rfl,hb2⟩;go_wp2_with fail
    go_meet
    case rel=>exact ⟨HR,hb2⟩
   ·skip
    have con:=need_bad 1 at_ w1;have HR:Hid (M=1):=by show _=_; have:=HMa.out; simp only [Bool.false_eq_true,if_false,decide_eq_true g1,decide_eq_false g2,Bool.true_and] at this; simpa [sqE] using this.symm
    clear HMa ;go_wp2_with fail
    refine con.mono ?_;rintro e w2 ⟨rfl,hb2⟩;go_wp2_with fail
    exact ⟨rfl,.bad (chain hal hb2) HR.out (by decide)⟩
   ·skip
    have con:=need_bad 1 at_ w1;have HR:Hid (M=1):=by show _=_; have:=HMa.out; simp only [Bool.false_eq_true,if_false,decide_eq_false g1,Bool.false_and] at this; simpa [sqE] using this.symm
    clear HMa ;go_wp2_with fail
    refine con.mono ?_;rintro e w2 ⟨rfl,hb2⟩;go_wp2_with fail
    exact ⟨rfl,.bad (chain hal hb2) HR.out (by decide)⟩
  ·by_cases g1:x.kind=1
   ·have b1:(x.kind == 1)=true:=by simpa using g1
    have con:=need_ok 1 at_ w1;have HR:Hid (RR=M):=by show _=_; have:=HMa.out; simp only [if_true,b1] at this; simpa [sqE] using this
    clear HMa g1;go_wp2_with fail
    refine con.mono ?_;rintro e w2 ⟨rfl,hb2⟩;go_wp2_with fail
    go_meet
    case rel=>exact ⟨HR,hb2⟩
   ·have b1:(x.kind == 1)=false:=by simpa using g1
    have con:=need_bad 1 at_ w1;have HR:Hid (M=1):=by show _=_; have:=HMa.out; simp only [if_true,b1,Bool.false_eq_true,if_false] at this; simpa [sqE] using this.symm
    clear HMa g1;go_wp2_with fail
    refine con.mono ?_;rintro e w2 ⟨rfl,hb2⟩;go_wp2_with fail
    exact ⟨rfl,.bad (chain hal hb2) HR.out (by decide)⟩
 case rest =>
  clear HMa k2 k3;obtain ⟨HMb0,hbc⟩:=hcut;have hm:=HMb0.out;rw [← HRR.out] at hm;have HMb:Hid _:=hm;clear hm HMb0 HRR;have hx4:Below w.heap.size w wc:=chain hal hbc;have QC5:=(hbc.block _ (lt_of_heap QC)).trans QC;have QX6:=(hbc.block _ (lt_of_heap QX)).trans QX;have HK7:Hid (En10 (fun _=>True) wc x [.int .i64 x.kind,.string x.name,.string x.alias,.int .i64 x.on.k,.int .i64 x.on.v.1,.int .i64 x.on.v.2.1,.string x.on.v.2.2,.string x.on.tab,.string x.on.name,.slice a x.on.ks.length c]):=en10.next (Keeps'.of hbc) HK1.out
  have k8:wc.cell? ⟨w.heap.size,0,none⟩=some (.int .i64 at_):=cell_of (i:=0) QC5 rfl;have k9:wc.cell? ⟨w.heap.size+1,1,none⟩=some (.string x.name):=cell_of (i:=1) QX6 rfl;have con10:=cname_at x.name at_ wc;have hm:=HMb.out;generalize nameC x.name=rk at hm con10;have HM11:Hid _:=hm;clear hm HMb;go_wp2_with fail
  refine con10.mono ?_;rintro e w12 ⟨hb13,hW⟩;clear con10 k8 k9;have hx14:Below w.heap.size w w12:=chain hx4 hb13;have QC15:=(hb13.block _ (lt_of_heap QC5)).trans QC5;have QX16:=(hb13.block _ (lt_of_heap QX6)).trans QX6;have HK17:Hid (En10 (fun _=>True) w12 x [.int .i64 x.kind,.string x.name,.string x.alias,.int .i64 x.on.k,.int .i64 x.on.v.1,.int .i64 x.on.v.2.1,.string x.on.v.2.2,.string x.on.tab,.string x.on.name,.slice a x.on.ks.length c]):=en10.next (Keeps'.of hb13) HK7.out;rcases hW with ⟨h,rfl⟩ | ⟨h,rfl⟩
  rotate_left
  ·have HR:Hid (rk=M):=by have:=HM11.out; rw [sqE_n h] at this; exact this
   clear HM11;go_wp2_with fail
   exact ⟨rfl,.bad hx14 HR.out.symm h⟩
  subst h;have hm:=HM11.out;rw [sqE_0] at hm;have HM18:Hid _:=hm;clear hm HM11;have k19:w12.cell? ⟨w.heap.size,0,none⟩=some (.int .i64 at_):=cell_of (i:=0) QC15 rfl;have k20:w12.cell? ⟨w.heap.size+1,2,none⟩=some (.string x.alias):=cell_of (i:=2) QX16 rfl;have con21:=maybe_at x.alias at_ w12;have hm:=HM18.out;generalize maybeC x.alias=rk at hm con21;have HM22:Hid _:=hm;clear hm HM18;go_wp2_with fail
  refine con21.mono ?_;rintro e w23 ⟨hb24,hW⟩;clear con21 k19 k20;have hx25:Below w.heap.size w w23:=chain hx14 hb24;have QC26:=(hb24.block _ (lt_of_heap QC15)).trans QC15;have QX27:=(hb24.block _ (lt_of_heap QX16)).trans QX16;have HK28:Hid (En10 (fun _=>True) w23 x [.int .i64 x.kind,.string x.name,.string x.alias,.int .i64 x.on.k,.int .i64 x.on.v.1,.int .i64 x.on.v.2.1,.string x.on.v.2.2,.string x.on.tab,.string x.on.name,.slice a x.on.ks.length c]):=en10.next (Keeps'.of hb24) HK17.out;rcases hW with ⟨h,rfl⟩ | ⟨h,rfl⟩
  rotate_left
  ·have HR:Hid (rk=M):=by have:=HM22.out; rw [sqE_n h] at this; exact this
   clear HM22;go_wp2_with fail
   exact ⟨rfl,.bad hx25 HR.out.symm h⟩
  subst h;have hm:=HM22.out;rw [sqE_0] at hm;have HM29:Hid _:=hm;clear hm HM22;have hk:=HK28.out;obtain ⟨a',c',e',hk⟩:=hk;simp only [List.cons.injEq,Value.slice.injEq] at e';obtain ⟨_,_,_,_,_,_,_,_,_,⟨rfl,_,rfl⟩,_⟩:=e';have HKO:Hid _:=hk;clear hk;have k30:w23.cell? ⟨w.heap.size,0,none⟩=some (.int .i64 at_):=cell_of (i:=0) QC26 rfl;have k31:w23.cell? ⟨w.heap.size+1,3,none⟩=some (.int .i64 x.on.k):=cell_of (i:=3) QX27 rfl;have k32:w23.cell? ⟨w.heap.size+1,4,none⟩=some (.int .i64 x.on.v.1):=cell_of (i:=4) QX27 rfl
  have k33:w23.cell? ⟨w.heap.size+1,5,none⟩=some (.int .i64 x.on.v.2.1):=cell_of (i:=5) QX27 rfl;have k34:w23.cell? ⟨w.heap.size+1,6,none⟩=some (.string x.on.v.2.2):=cell_of (i:=6) QX27 rfl;have k35:w23.cell? ⟨w.heap.size+1,7,none⟩=some (.string x.on.tab):=cell_of (i:=7) QX27 rfl;have k36:w23.cell? ⟨w.heap.size+1,8,none⟩=some (.string x.on.name):=cell_of (i:=8) QX27 rfl;have k37:w23.cell? ⟨w.heap.size+1,9,none⟩=some (.slice a x.on.ks.length c):=cell_of (i:=9) QX27 rfl;have con38:=cexprIf_at (!first) x.on at_ a c (fun _=>True) w23 HKO.out;have hm:=HM29.out
  generalize exprIfC (!first) x.on=rk at hm con38;have HM39:Hid _:=hm;clear hm HM29;go_wp2_with fail
  refine con38.mono ?_;rintro e w40 ⟨hb41,hW⟩;clear con38 k30 k31 k32 k33 k34 k35 k36 k37;have hx42:Below w.heap.size w w40:=chain hx25 hb41;have QC43:=(hb41.block _ (lt_of_heap QC26)).trans QC26;have QX44:=(hb41.block _ (lt_of_heap QX27)).trans QX27;have HK45:Hid (En10 (fun _=>True) w40 x [.int .i64 x.kind,.string x.name,.string x.alias,.int .i64 x.on.k,.int .i64 x.on.v.1,.int .i64 x.on.v.2.1,.string x.on.v.2.2,.string x.on.tab,.string x.on.name,.slice a x.on.ks.length c]):=en10.next (Keeps'.of hb41) HK28.out;rcases hW with ⟨h,rfl⟩ | ⟨h,rfl⟩
  rotate_left
  ·have HR:Hid (rk=M):=by have:=HM39.out; rw [sqE_n h] at this; exact this
   clear HM39;go_wp2_with fail
   exact ⟨rfl,.bad hx42 HR.out.symm h⟩
  subst h;have hm:=HM39.out;rw [sqE_0] at hm;have HM46:Hid _:=hm;clear hm HM39;go_wp2_with fail
  go_end0
  exact .ok hx42 HM46.out.symm

theorem sqE_assoc (a b c:Int):sqE (sqE a b) c=sqE a (sqE b c):=by unfold sqE; split <;> simp_all
theorem LsE.elem {α:Type} {En:EnT α} {size:Nat} {S:Nat→Prop} {W:World} {a:Option Addr} {l:List α} (h:LsE En size S W a l) {j:Nat} (hlt:j<l.length) :
  ∃ b off cs,a=some ⟨b,off,none⟩∧b<W.heap.size∧cs.length=size∧(∀ (i:Nat) (u:Value),cs[i]? = some u→W.cell? ⟨b,off+j*size+i,none⟩=some u)∧En S W l[j] cs:=by
 rcases h with rfl | ⟨b,off,e,_,h2,h3⟩
 ·simp at hlt
 ·obtain ⟨cs,c1,c2,c3⟩:=h3 j hlt;exact ⟨b,off,cs,e,h2,c1,c2,c3⟩
theorem cnt_le {n least most:Int} (h:cntC n least most=0):least≤n∧n≤most:=by
 unfold cntC at h
 split at h
 ·rename_i hc; simpa using hc
 ·cases h
def itemsL:List Itm→Int
 | []=>0
 | x :: r=>sqE (exprC x.1) (sqE (maybeC x.2) (itemsL r))
theorem itemsL_cons (x:Itm) (r:List Itm):itemsL (x :: r)=sqE (exprC x.1) (sqE (maybeC x.2) (itemsL r)):=rfl
def itemsC (l:List Itm):Int:=sqE (cntC l.length 1 8) (sqE (itemsL l) 0)
theorem citems_at (l:List Itm) (a:Option Addr) (c:Nat) (S:Nat→Prop) (at_:Int) (w:World) (hks:LsE En8 8 S w a l):Calls Tryz.prog 136 #[.agg #[.int .i64 at_],.slice a l.length c] w (CEnds w at_ (itemsC l)):=by
 have hal:Below w.heap.size w (w.alloc (.cells #[.int .i64 at_] 86)):=(Below.refl _ _).alloc (Nat.le_refl _) _;have QC:=heap_new w #[.int .i64 at_] 86;generalize hM:itemsC l=M;have HM0:Hid _:=hM;clear hM;have HK1:Hid ((EnL En8 8) (fun _=>True) (w.alloc (.cells #[.int .i64 at_] 86)) l [.slice a l.length c]):=(enL en8 8).next (Keeps'.of hal) ((enL en8 8).mono (fun _ _ _=>trivial) ⟨a,c,rfl,hks⟩);go_enter Tryz.func136,Tryz.ntmps136;go_upto_region 1 with fail
 generalize (w.alloc (.cells #[.int .i64 at_] 86))=w1 at *;have hm:=HM0.out;rw [itemsC] at hm;have HMa:Hid _:=hm;clear hm HM0 hks;have k2:w1.cell? ⟨w.heap.size,0,none⟩=some (.int .i64 at_):=cell_of (i:=0) QC rfl;have con3:=count_at l.length 1 8 at_ w1;have hm:=HMa.out;obtain ⟨rk,hrk⟩:∃ r,cntC l.length 1 8=r:=⟨_,rfl⟩
 rw [hrk] at hm con3;have HRK:Hid _:=hrk;clear hrk;have HM4:Hid _:=hm;clear hm HMa;go_wp2_with fail
 refine con3.mono ?_;rintro e w5 ⟨hb6,hW⟩;clear con3 k2;have hx7:Below w.heap.size w w5:=chain hal hb6;have QC8:=(hb6.block _ (lt_of_heap QC)).trans QC;have HK9:Hid ((EnL En8 8) (fun _=>True) w5 l [.slice a l.length c]):=(enL en8 8).next (Keeps'.of hb6) HK1.out;rcases hW with ⟨h,rfl⟩ | ⟨h,rfl⟩
 rotate_left
 ·have HR:Hid (rk=M):=by have:=HM4.out; rw [sqE_n h] at this; exact this
  clear HM4;go_wp2_with fail
  exact ⟨rfl,.bad hx7 HR.out.symm h⟩
 subst h;have hm:=HM4.out;rw [sqE_0] at hm;have HM10:Hid _:=hm;clear hm HM4;have hcn:=cnt_le HRK.out;clear HRK;have HKL:Hid (LsE En8 8 (fun _=>True) w5 a l):=HK9.out.ls;have HM11:Hid (sqE (itemsL (l.drop 0)) (0)=M):=by show _=_; rw [List.drop_zero]; exact HM10.out
 clear HM10;go_wp2_with fail
 go_loopw [12] (fun jv wr=>∃ j:Nat,j≤l.length∧jv = .int .i64 j∧Hid (sqE (itemsL (l.drop j)) (0)=M)∧Below w5.heap.size w5 wr) (fun jv _=>l.length - (RowKit.intOf jv).toNat)
 case atStart=>exact ⟨0,by omega,rfl,HM11,Below.refl _ _⟩
 case round =>
  clear HM11;obtain ⟨j,hj,rfl,HL,hbr⟩:=hrel;have hx12:Below w.heap.size w wr:=chain hx7 hbr;have QC13:=(hbr.block _ (lt_of_heap QC8)).trans QC8;have HK14:Hid ((EnL En8 8) (fun _=>True) wr l [.slice a l.length c]):=(enL en8 8).next (Keeps'.of hbr) HK9.out;have hL:=HL.out;by_cases hlt:j<l.length
  ·have hjz:(j:Int)<(l.length:Int):=by omega
   rw [List.drop_eq_getElem_cons hlt,itemsL_cons] at hL;simp only [sqE_assoc] at hL;obtain ⟨bl,off,cs,rfl,hbl,hcl,hce,⟨ai,ci,rfl,hkk⟩⟩:=(HKL.out.keep en8 (Keeps'.of hbr)).elem hlt;have z0:=hce 0 _ rfl;have z1:=hce 1 _ rfl;have z2:=hce 2 _ rfl;have z3:=hce 3 _ rfl;have z4:=hce 4 _ rfl;have z5:=hce 5 _ rfl;have z6:=hce 6 _ rfl;have z7:=hce 7 _ rfl;rw [Nat.add_zero] at z0
   have halY:Below wr.heap.size wr (wr.alloc (.cells #[.int .i64 l[j].1.k,.int .i64 l[j].1.v.1,.int .i64 l[j].1.v.2.1,.string l[j].1.v.2.2,.string l[j].1.tab,.string l[j].1.name,.slice ai l[j].1.ks.length ci,.string l[j].2] 75)):=(Below.refl _ _).alloc (Nat.le_refl _) _;have QY:=heap_new wr #[.int .i64 l[j].1.k,.int .i64 l[j].1.v.1,.int .i64 l[j].1.v.2.1,.string l[j].1.v.2.2,.string l[j].1.tab,.string l[j].1.name,.slice ai l[j].1.ks.length ci,.string l[j].2] 75;have HMr:Hid _:=hL;generalize l[j]=y at *;clear HL hL hce hcl;go_upto_region 5 with fail
   generalize wr.alloc (.cells #[.int .i64 y.1.k,.int .i64 y.1.v.1,.int .i64 y.1.v.2.1,.string y.1.v.2.2,.string y.1.tab,.string y.1.name,.slice ai y.1.ks.length ci,.string y.2] 75)=wa at *;clear z0 z1 z2 z3 z4 z5 z6 z7;have hx1515:Below w.heap.size w wa:=chain hx12 halY;have QC1516:=(halY.block _ (lt_of_heap QC13)).trans QC13;have hB1517:Below w5.heap.size w5 wa:=chain hbr halY;have HKE:Hid (SsS (fun _=>True) wa ai y.1.ks):=SsS.next halY hkk;clear hkk;have k1518:wa.cell? ⟨w.heap.size,0,none⟩=some (.int .i64 at_):=cell_of (i:=0) QC1516 rfl
   have k1519:wa.cell? ⟨wr.heap.size,0,none⟩=some (.int .i64 y.1.k):=cell_of (i:=0) QY rfl;have k1520:wa.cell? ⟨wr.heap.size,1,none⟩=some (.int .i64 y.1.v.1):=cell_of (i:=1) QY rfl;have k1521:wa.cell? ⟨wr.heap.size,2,none⟩=some (.int .i64 y.1.v.2.1):=cell_of (i:=2) QY rfl;have k1522:wa.cell? ⟨wr.heap.size,3,none⟩=some (.string y.1.v.2.2):=cell_of (i:=3) QY rfl;have k1523:wa.cell? ⟨wr.heap.size,4,none⟩=some (.string y.1.tab):=cell_of (i:=4) QY rfl;have k1524:wa.cell? ⟨wr.heap.size,5,none⟩=some (.string y.1.name):=cell_of (i:=5) QY rfl
   have k1525:wa.cell? ⟨wr.heap.size,6,none⟩=some (.slice ai y.1.ks.length ci):=cell_of (i:=6) QY rfl;have con1526:=cexpr_at y.1 at_ ai ci (fun _=>True) wa HKE.out;have hm:=HMr.out;generalize exprC y.1=rk at hm con1526;have HM1527:Hid _:=hm;clear hm HMr;go_wp2_with fail
   refine con1526.mono ?_;rintro e w1528 ⟨hb1529,hW⟩;clear con1526 k1518 k1519 k1520 k1521 k1522 k1523 k1524 k1525;have hx1530:Below w.heap.size w w1528:=chain hx1515 hb1529;have QC1531:=(hb1529.block _ (lt_of_heap QC1516)).trans QC1516;have QY1532:=(hb1529.block _ (lt_of_heap QY)).trans QY;have hB1533:Below w5.heap.size w5 w1528:=chain hB1517 hb1529;rcases hW with ⟨h,rfl⟩ | ⟨h,rfl⟩
   rotate_left
   ·have HR:Hid (rk=M):=by have:=HM1527.out; rw [sqE_n h] at this; exact this
    clear HM1527;go_wp2_with fail
    exact ⟨rfl,.bad hx1530 HR.out.symm h⟩
   subst h;have hm:=HM1527.out;rw [sqE_0] at hm;have HM1534:Hid _:=hm;clear hm HM1527;have k1535:w1528.cell? ⟨w.heap.size,0,none⟩=some (.int .i64 at_):=cell_of (i:=0) QC1531 rfl;have k1536:w1528.cell? ⟨wr.heap.size,7,none⟩=some (.string y.2):=cell_of (i:=7) QY1532 rfl;have con1537:=maybe_at y.2 at_ w1528;have hm:=HM1534.out;generalize maybeC y.2=rk at hm con1537;have HM1538:Hid _:=hm;clear hm HM1534;go_wp2_with fail
   refine con1537.mono ?_;rintro e w1539 ⟨hb1540,hW⟩;clear con1537 k1535 k1536;have hx1541:Below w.heap.size w w1539:=chain hx1530 hb1540;have QC1542:=(hb1540.block _ (lt_of_heap QC1531)).trans QC1531;have QY1543:=(hb1540.block _ (lt_of_heap QY1532)).trans QY1532;have hB1544:Below w5.heap.size w5 w1539:=chain hB1533 hb1540;rcases hW with ⟨h,rfl⟩ | ⟨h,rfl⟩
   rotate_left
   ·have HR:Hid (rk=M):=by have:=HM1538.out; rw [sqE_n h] at this; exact this
    clear HM1538;go_wp2_with fail
    exact ⟨rfl,.bad hx1541 HR.out.symm h⟩
   subst h;have hm:=HM1538.out;rw [sqE_0] at hm;have HM1545:Hid _:=hm;clear hm HM1538;go_wp2_with fail
   go_roundw
   case rel=>exact ⟨j+1,by omega,by go_num,HM1545,hB1544⟩
   case measure=>simp [RowKit.intOf]; omega
  ·have hjz:¬ (j:Int)<(l.length:Int):=by omega
   rw [List.drop_eq_nil_of_le (by omega),show itemsL []=0 from rfl,sqE_0] at hL;have HMr:Hid _:=hL;clear HL hL;go_wp2_with fail
   go_end0
   exact .ok hx12 HMr.out.symm

def sourcesL (first:Bool):List Src→Int
 | []=>0
 | x :: r=>sqE (sourceC first x) (sourcesL false r)
theorem sourcesL_cons (f:Bool) (x:Src) (r:List Src):sourcesL f (x :: r)=sqE (sourceC f x) (sourcesL false r):=rfl
def itemsIf (st:Bool) (l:List Itm):Int:=if st then 0 else itemsC l
def selR (x:Sel):Int:=sqE (exprIfC x.hasWhere x.wher) (sqE (exprsC x.group) (sqE (exprIfC x.hasHaving x.having) 0))
def selC (x:Sel):Int:=sqE (cntC x.sources.length 1 4) (sqE (cntC x.group.length 0 8) (sqE (itemsIf x.star x.items) (sqE (sourcesL true x.sources) (selR x))))
theorem cselected_at (x:Sel) (a1 a2 a3 a4 a5:Option Addr) (c1 c2 c3 c4 c5:Nat) (S:Nat→Prop) (at_:Int) (w:World) (h1:LsE En8 8 S w a1 x.items) (h2:LsE En10 10 S w a2 x.sources) (h3:SsS S w a3 x.wher.ks) (h4:SsS S w a4 x.having.ks) (h5:LsE En7 7 S w a5 x.group):Calls Tryz.prog 104 #[.agg #[.int .i64 at_],.agg #[.bool x.distinct,.bool x.star,.slice a1 x.items.length c1,.slice a2 x.sources.length c2,.bool x.hasWhere,.bool x.hasHaving,.int .i64 x.wher.k,.int .i64 x.wher.v.1,.int .i64 x.wher.v.2.1,.string x.wher.v.2.2,.string x.wher.tab,.string x.wher.name,.slice a3 x.wher.ks.length c3,.int .i64 x.having.k,.int .i64 x.having.v.1,.int .i64 x.having.v.2.1,.string x.having.v.2.2,.string x.having.tab,.string x.having.name,.slice a4 x.having.ks.length c4,.slice a5 x.group.length c5]] w (CEnds w at_ (selC x)):=by
 have hal1:Below w.heap.size w (w.alloc (.cells #[.int .i64 at_] 86)):=(Below.refl _ _).alloc (Nat.le_refl _) _
 have hal2:Below (w.alloc (.cells #[.int .i64 at_] 86)).heap.size (w.alloc (.cells #[.int .i64 at_] 86)) ((w.alloc (.cells #[.int .i64 at_] 86)).alloc (.cells #[.bool x.distinct,.bool x.star,.slice a1 x.items.length c1,.slice a2 x.sources.length c2,.bool x.hasWhere,.bool x.hasHaving,.int .i64 x.wher.k,.int .i64 x.wher.v.1,.int .i64 x.wher.v.2.1,.string x.wher.v.2.2,.string x.wher.tab,.string x.wher.name,.slice a3 x.wher.ks.length c3,.int .i64 x.having.k,.int .i64 x.having.v.1,.int .i64 x.having.v.2.1,.string x.having.v.2.2,.string x.having.tab,.string x.having.name,.slice a4 x.having.ks.length c4,.slice a5 x.group.length c5] 79)):=(Below.refl _ _).alloc (Nat.le_refl _) _
 have QC:((w.alloc (.cells #[.int .i64 at_] 86)).alloc (.cells #[.bool x.distinct,.bool x.star,.slice a1 x.items.length c1,.slice a2 x.sources.length c2,.bool x.hasWhere,.bool x.hasHaving,.int .i64 x.wher.k,.int .i64 x.wher.v.1,.int .i64 x.wher.v.2.1,.string x.wher.v.2.2,.string x.wher.tab,.string x.wher.name,.slice a3 x.wher.ks.length c3,.int .i64 x.having.k,.int .i64 x.having.v.1,.int .i64 x.having.v.2.1,.string x.having.v.2.2,.string x.having.tab,.string x.having.name,.slice a4 x.having.ks.length c4,.slice a5 x.group.length c5] 79)).heap[w.heap.size]? = some (.cells #[.int .i64 at_] 86 (0,0)):=(hal2.block _ (lt_of_heap (heap_new w #[.int .i64 at_] 86))).trans (heap_new w _ _)
 have QX:((w.alloc (.cells #[.int .i64 at_] 86)).alloc (.cells #[.bool x.distinct,.bool x.star,.slice a1 x.items.length c1,.slice a2 x.sources.length c2,.bool x.hasWhere,.bool x.hasHaving,.int .i64 x.wher.k,.int .i64 x.wher.v.1,.int .i64 x.wher.v.2.1,.string x.wher.v.2.2,.string x.wher.tab,.string x.wher.name,.slice a3 x.wher.ks.length c3,.int .i64 x.having.k,.int .i64 x.having.v.1,.int .i64 x.having.v.2.1,.string x.having.v.2.2,.string x.having.tab,.string x.having.name,.slice a4 x.having.ks.length c4,.slice a5 x.group.length c5] 79)).heap[w.heap.size+1]? = some (.cells #[.bool x.distinct,.bool x.star,.slice a1 x.items.length c1,.slice a2 x.sources.length c2,.bool x.hasWhere,.bool x.hasHaving,.int .i64 x.wher.k,.int .i64 x.wher.v.1,.int .i64 x.wher.v.2.1,.string x.wher.v.2.2,.string x.wher.tab,.string x.wher.name,.slice a3 x.wher.ks.length c3,.int .i64 x.having.k,.int .i64 x.having.v.1,.int .i64 x.having.v.2.1,.string x.having.v.2.2,.string x.having.tab,.string x.having.name,.slice a4 x.having.ks.length c4,.slice a5 x.group.length c5] 79 (0,0)):=by
  rw [show w.heap.size+1=(w.alloc (.cells #[.int .i64 at_] 86)).heap.size by simp];exact heap_new _ _ _
 have hal:=chain hal1 hal2;clear hal1 hal2;generalize hM:selC x=M;have HM0:Hid _:=hM;clear hM
 have HK1:Hid ((EnL En8 8) (fun _=>True) ((w.alloc (.cells #[.int .i64 at_] 86)).alloc (.cells #[.bool x.distinct,.bool x.star,.slice a1 x.items.length c1,.slice a2 x.sources.length c2,.bool x.hasWhere,.bool x.hasHaving,.int .i64 x.wher.k,.int .i64 x.wher.v.1,.int .i64 x.wher.v.2.1,.string x.wher.v.2.2,.string x.wher.tab,.string x.wher.name,.slice a3 x.wher.ks.length c3,.int .i64 x.having.k,.int .i64 x.having.v.1,.int .i64 x.having.v.2.1,.string x.having.v.2.2,.string x.having.tab,.string x.having.name,.slice a4 x.having.ks.length c4,.slice a5 x.group.length c5] 79)) x.items [.slice a1 x.items.length c1]):=(enL en8 8).next (Keeps'.of hal) ((enL en8 8).mono (fun _ _ _=>trivial) ⟨a1,c1,rfl,h1⟩)
 have HK2:Hid ((EnL En10 10) (fun _=>True) ((w.alloc (.cells #[.int .i64 at_] 86)).alloc (.cells #[.bool x.distinct,.bool x.star,.slice a1 x.items.length c1,.slice a2 x.sources.length c2,.bool x.hasWhere,.bool x.hasHaving,.int .i64 x.wher.k,.int .i64 x.wher.v.1,.int .i64 x.wher.v.2.1,.string x.wher.v.2.2,.string x.wher.tab,.string x.wher.name,.slice a3 x.wher.ks.length c3,.int .i64 x.having.k,.int .i64 x.having.v.1,.int .i64 x.having.v.2.1,.string x.having.v.2.2,.string x.having.tab,.string x.having.name,.slice a4 x.having.ks.length c4,.slice a5 x.group.length c5] 79)) x.sources [.slice a2 x.sources.length c2]):=(enL en10 10).next (Keeps'.of hal) ((enL en10 10).mono (fun _ _ _=>trivial) ⟨a2,c2,rfl,h2⟩)
 have HK3:Hid (En7 (fun _=>True) ((w.alloc (.cells #[.int .i64 at_] 86)).alloc (.cells #[.bool x.distinct,.bool x.star,.slice a1 x.items.length c1,.slice a2 x.sources.length c2,.bool x.hasWhere,.bool x.hasHaving,.int .i64 x.wher.k,.int .i64 x.wher.v.1,.int .i64 x.wher.v.2.1,.string x.wher.v.2.2,.string x.wher.tab,.string x.wher.name,.slice a3 x.wher.ks.length c3,.int .i64 x.having.k,.int .i64 x.having.v.1,.int .i64 x.having.v.2.1,.string x.having.v.2.2,.string x.having.tab,.string x.having.name,.slice a4 x.having.ks.length c4,.slice a5 x.group.length c5] 79)) x.wher [.int .i64 x.wher.k,.int .i64 x.wher.v.1,.int .i64 x.wher.v.2.1,.string x.wher.v.2.2,.string x.wher.tab,.string x.wher.name,.slice a3 x.wher.ks.length c3]):=en7.next (Keeps'.of hal) (en7.mono (fun _ _ _=>trivial) ⟨a3,c3,rfl,h3⟩)
 have HK4:Hid (En7 (fun _=>True) ((w.alloc (.cells #[.int .i64 at_] 86)).alloc (.cells #[.bool x.distinct,.bool x.star,.slice a1 x.items.length c1,.slice a2 x.sources.length c2,.bool x.hasWhere,.bool x.hasHaving,.int .i64 x.wher.k,.int .i64 x.wher.v.1,.int .i64 x.wher.v.2.1,.string x.wher.v.2.2,.string x.wher.tab,.string x.wher.name,.slice a3 x.wher.ks.length c3,.int .i64 x.having.k,.int .i64 x.having.v.1,.int .i64 x.having.v.2.1,.string x.having.v.2.2,.string x.having.tab,.string x.having.name,.slice a4 x.having.ks.length c4,.slice a5 x.group.length c5] 79)) x.having [.int .i64 x.having.k,.int .i64 x.having.v.1,.int .i64 x.having.v.2.1,.string x.having.v.2.2,.string x.having.tab,.string x.having.name,.slice a4 x.having.ks.length c4]):=en7.next (Keeps'.of hal) (en7.mono (fun _ _ _=>trivial) ⟨a4,c4,rfl,h4⟩)
 have HK5:Hid ((EnL En7 7) (fun _=>True) ((w.alloc (.cells #[.int .i64 at_] 86)).alloc (.cells #[.bool x.distinct,.bool x.star,.slice a1 x.items.length c1,.slice a2 x.sources.length c2,.bool x.hasWhere,.bool x.hasHaving,.int .i64 x.wher.k,.int .i64 x.wher.v.1,.int .i64 x.wher.v.2.1,.string x.wher.v.2.2,.string x.wher.tab,.string x.wher.name,.slice a3 x.wher.ks.length c3,.int .i64 x.having.k,.int .i64 x.having.v.1,.int .i64 x.having.v.2.1,.string x.having.v.2.2,.string x.having.tab,.string x.having.name,.slice a4 x.having.ks.length c4,.slice a5 x.group.length c5] 79)) x.group [.slice a5 x.group.length c5]):=(enL en7 7).next (Keeps'.of hal) ((enL en7 7).mono (fun _ _ _=>trivial) ⟨a5,c5,rfl,h5⟩)
 go_enter Tryz.func104,Tryz.ntmps104;go_upto_region 1 with fail
 generalize ((w.alloc (.cells #[.int .i64 at_] 86)).alloc (.cells #[.bool x.distinct,.bool x.star,.slice a1 x.items.length c1,.slice a2 x.sources.length c2,.bool x.hasWhere,.bool x.hasHaving,.int .i64 x.wher.k,.int .i64 x.wher.v.1,.int .i64 x.wher.v.2.1,.string x.wher.v.2.2,.string x.wher.tab,.string x.wher.name,.slice a3 x.wher.ks.length c3,.int .i64 x.having.k,.int .i64 x.having.v.1,.int .i64 x.having.v.2.1,.string x.having.v.2.2,.string x.having.tab,.string x.having.name,.slice a4 x.having.ks.length c4,.slice a5 x.group.length c5] 79))=w1 at *;have hm:=HM0.out;rw [selC] at hm
 have HMa:Hid _:=hm;clear hm HM0 h1 h2 h3 h4 h5;have k6:w1.cell? ⟨w.heap.size,0,none⟩=some (.int .i64 at_):=cell_of (i:=0) QC rfl;have k7:w1.cell? ⟨w.heap.size+1,3,none⟩=some (.slice a2 x.sources.length c2):=cell_of (i:=3) QX rfl;have con8:=count_at x.sources.length 1 4 at_ w1;have hm:=HMa.out;obtain ⟨rk,hrk⟩:∃ r,cntC x.sources.length 1 4=r:=⟨_,rfl⟩
 rw [hrk] at hm con8;have HRK:Hid _:=hrk;clear hrk;have HM9:Hid _:=hm;clear hm HMa;go_wp2_with fail
 refine con8.mono ?_;rintro e w10 ⟨hb11,hW⟩;clear con8 k6 k7;have hx12:Below w.heap.size w w10:=chain hal hb11;have QC13:=(hb11.block _ (lt_of_heap QC)).trans QC;have QX14:=(hb11.block _ (lt_of_heap QX)).trans QX;have HK15:Hid ((EnL En8 8) (fun _=>True) w10 x.items [.slice a1 x.items.length c1]):=(enL en8 8).next (Keeps'.of hb11) HK1.out;have HK16:Hid ((EnL En10 10) (fun _=>True) w10 x.sources [.slice a2 x.sources.length c2]):=(enL en10 10).next (Keeps'.of hb11) HK2.out
 have HK17:Hid (En7 (fun _=>True) w10 x.wher [.int .i64 x.wher.k,.int .i64 x.wher.v.1,.int .i64 x.wher.v.2.1,.string x.wher.v.2.2,.string x.wher.tab,.string x.wher.name,.slice a3 x.wher.ks.length c3]):=en7.next (Keeps'.of hb11) HK3.out;have HK18:Hid (En7 (fun _=>True) w10 x.having [.int .i64 x.having.k,.int .i64 x.having.v.1,.int .i64 x.having.v.2.1,.string x.having.v.2.2,.string x.having.tab,.string x.having.name,.slice a4 x.having.ks.length c4]):=en7.next (Keeps'.of hb11) HK4.out
 have HK19:Hid ((EnL En7 7) (fun _=>True) w10 x.group [.slice a5 x.group.length c5]):=(enL en7 7).next (Keeps'.of hb11) HK5.out;rcases hW with ⟨h,rfl⟩ | ⟨h,rfl⟩
 rotate_left
 ·have HR:Hid (rk=M):=by have:=HM9.out; rw [sqE_n h] at this; exact this
  clear HM9;go_wp2_with fail
  exact ⟨rfl,.bad hx12 HR.out.symm h⟩
 subst h;have hm:=HM9.out;rw [sqE_0] at hm;have HM20:Hid _:=hm;clear hm HM9;have hcn1:=cnt_le HRK.out;clear HRK;have k21:w10.cell? ⟨w.heap.size,0,none⟩=some (.int .i64 at_):=cell_of (i:=0) QC13 rfl;have k22:w10.cell? ⟨w.heap.size+1,20,none⟩=some (.slice a5 x.group.length c5):=cell_of (i:=20) QX14 rfl;have con23:=count_at x.group.length 0 8 at_ w10;have hm:=HM20.out;obtain ⟨rk,hrk⟩:∃ r,cntC x.group.length 0 8=r:=⟨_,rfl⟩
 rw [hrk] at hm con23;have HRK:Hid _:=hrk;clear hrk;have HM24:Hid _:=hm;clear hm HM20;go_wp2_with fail
 refine con23.mono ?_;rintro e w25 ⟨hb26,hW⟩;clear con23 k21 k22;have hx27:Below w.heap.size w w25:=chain hx12 hb26;have QC28:=(hb26.block _ (lt_of_heap QC13)).trans QC13;have QX29:=(hb26.block _ (lt_of_heap QX14)).trans QX14;have HK30:Hid ((EnL En8 8) (fun _=>True) w25 x.items [.slice a1 x.items.length c1]):=(enL en8 8).next (Keeps'.of hb26) HK15.out;have HK31:Hid ((EnL En10 10) (fun _=>True) w25 x.sources [.slice a2 x.sources.length c2]):=(enL en10 10).next (Keeps'.of hb26) HK16.out
 have HK32:Hid (En7 (fun _=>True) w25 x.wher [.int .i64 x.wher.k,.int .i64 x.wher.v.1,.int .i64 x.wher.v.2.1,.string x.wher.v.2.2,.string x.wher.tab,.string x.wher.name,.slice a3 x.wher.ks.length c3]):=en7.next (Keeps'.of hb26) HK17.out;have HK33:Hid (En7 (fun _=>True) w25 x.having [.int .i64 x.having.k,.int .i64 x.having.v.1,.int .i64 x.having.v.2.1,.string x.having.v.2.2,.string x.having.tab,.string x.having.name,.slice a4 x.having.ks.length c4]):=en7.next (Keeps'.of hb26) HK18.out
 have HK34:Hid ((EnL En7 7) (fun _=>True) w25 x.group [.slice a5 x.group.length c5]):=(enL en7 7).next (Keeps'.of hb26) HK19.out;rcases hW with ⟨h,rfl⟩ | ⟨h,rfl⟩
 rotate_left
 ·have HR:Hid (rk=M):=by have:=HM24.out; rw [sqE_n h] at this; exact this
  clear HM24;go_wp2_with fail
  exact ⟨rfl,.bad hx27 HR.out.symm h⟩
 subst h;have hm:=HM24.out;rw [sqE_0] at hm;have HM35:Hid _:=hm;clear hm HM24;have hcn2:=cnt_le HRK.out;clear HRK;generalize x.star=st at *;have k36:w25.cell? ⟨w.heap.size,0,none⟩=some (.int .i64 at_):=cell_of (i:=0) QC28 rfl;have k37:w25.cell? ⟨w.heap.size+1,1,none⟩=some (.bool st):=cell_of (i:=1) QX29 rfl;go_upto_if 18 with fail
 clear k36 k37;go_cut [] (fun wc=>Hid (sqE (sourcesL true x.sources) (selR x)=M)∧Below w25.heap.size w25 wc)
 case first =>
  have hm:=HM35.out;rw [itemsIf] at hm;have HMb:Hid _:=hm;clear hm HM35;rcases st with _ | _
  ·have hm:=HMb.out;rw [if_neg (by decide)] at hm;have HMc:Hid _:=hm;clear hm HMb;have k1538:w25.cell? ⟨w.heap.size,0,none⟩=some (.int .i64 at_):=cell_of (i:=0) QC28 rfl;have k1539:w25.cell? ⟨w.heap.size+1,2,none⟩=some (.slice a1 x.items.length c1):=cell_of (i:=2) QX29 rfl;have con:=citems_at x.items a1 c1 (fun _=>True) at_ w25 HK30.out.ls;have hm:=HMc.out;generalize itemsC x.items=rk at hm con;have HMd:Hid _:=hm;clear hm HMc;go_wp2_with fail
   refine con.mono ?_;rintro e wq ⟨hbq,⟨h,rfl⟩ | ⟨h,rfl⟩⟩
   ·subst h;have hm:=HMd.out;rw [sqE_0] at hm;have HMe:Hid _:=hm;clear hm HMd;go_wp2_with fail
    go_meet
    case rel=>exact ⟨HMe,hbq⟩
   ·have HR:Hid (rk=M):=by have:=HMd.out; rw [sqE_n h] at this; exact this
    clear HMd;go_wp2_with fail
    exact ⟨rfl,.bad (chain hx27 hbq) HR.out.symm h⟩
  ·have hm:=HMb.out;rw [if_pos rfl,sqE_0] at hm;have HMc:Hid _:=hm;clear hm HMb;go_wp2_with fail
   go_meet
   case rel=>exact ⟨HMc,Below.refl _ _⟩
 case rest =>
  clear HM35;obtain ⟨HMb,hbc⟩:=hcut;have hx2038:Below w.heap.size w wc:=chain hx27 hbc;have QC2039:=(hbc.block _ (lt_of_heap QC28)).trans QC28;have QX2040:=(hbc.block _ (lt_of_heap QX29)).trans QX29;have HK2041:Hid ((EnL En8 8) (fun _=>True) wc x.items [.slice a1 x.items.length c1]):=(enL en8 8).next (Keeps'.of hbc) HK30.out;have HK2042:Hid ((EnL En10 10) (fun _=>True) wc x.sources [.slice a2 x.sources.length c2]):=(enL en10 10).next (Keeps'.of hbc) HK31.out
  have HK2043:Hid (En7 (fun _=>True) wc x.wher [.int .i64 x.wher.k,.int .i64 x.wher.v.1,.int .i64 x.wher.v.2.1,.string x.wher.v.2.2,.string x.wher.tab,.string x.wher.name,.slice a3 x.wher.ks.length c3]):=en7.next (Keeps'.of hbc) HK32.out;have HK2044:Hid (En7 (fun _=>True) wc x.having [.int .i64 x.having.k,.int .i64 x.having.v.1,.int .i64 x.having.v.2.1,.string x.having.v.2.2,.string x.having.tab,.string x.having.name,.slice a4 x.having.ks.length c4]):=en7.next (Keeps'.of hbc) HK33.out
  have HK2045:Hid ((EnL En7 7) (fun _=>True) wc x.group [.slice a5 x.group.length c5]):=(enL en7 7).next (Keeps'.of hbc) HK34.out;have HKL:Hid (LsE En10 10 (fun _=>True) wc a2 x.sources):=HK2042.out.ls;have k2046:wc.cell? ⟨w.heap.size,0,none⟩=some (.int .i64 at_):=cell_of (i:=0) QC2039 rfl;have k2047:wc.cell? ⟨w.heap.size+1,3,none⟩=some (.slice a2 x.sources.length c2):=cell_of (i:=3) QX2040 rfl;have HM2048:Hid (sqE (sourcesL (((0:Nat):Int) == 0) (x.sources.drop 0)) (selR x)=M):=by show _=_; rw [List.drop_zero]; exact HMb.out
  clear HMb;go_wp2_with fail
  clear k2046 k2047;go_loopw [26] (fun jv wr=>∃ j:Nat,j≤x.sources.length∧jv = .int .i64 j∧Hid (sqE (sourcesL ((j:Int) == 0) (x.sources.drop j)) (selR x)=M)∧Below wc.heap.size wc wr) (fun jv _=>x.sources.length - (RowKit.intOf jv).toNat)
  case atStart=>exact ⟨0,by omega,rfl,HM2048,Below.refl _ _⟩
  case round =>
   clear HM2048;obtain ⟨j,hj,rfl,HL,hbr⟩:=hrel;have hx2049:Below w.heap.size w wr:=chain hx2038 hbr;have QC2050:=(hbr.block _ (lt_of_heap QC2039)).trans QC2039;have QX2051:=(hbr.block _ (lt_of_heap QX2040)).trans QX2040;have HK2052:Hid ((EnL En8 8) (fun _=>True) wr x.items [.slice a1 x.items.length c1]):=(enL en8 8).next (Keeps'.of hbr) HK2041.out;have HK2053:Hid ((EnL En10 10) (fun _=>True) wr x.sources [.slice a2 x.sources.length c2]):=(enL en10 10).next (Keeps'.of hbr) HK2042.out
   have HK2054:Hid (En7 (fun _=>True) wr x.wher [.int .i64 x.wher.k,.int .i64 x.wher.v.1,.int .i64 x.wher.v.2.1,.string x.wher.v.2.2,.string x.wher.tab,.string x.wher.name,.slice a3 x.wher.ks.length c3]):=en7.next (Keeps'.of hbr) HK2043.out;have HK2055:Hid (En7 (fun _=>True) wr x.having [.int .i64 x.having.k,.int .i64 x.having.v.1,.int .i64 x.having.v.2.1,.string x.having.v.2.2,.string x.having.tab,.string x.having.name,.slice a4 x.having.ks.length c4]):=en7.next (Keeps'.of hbr) HK2044.out
   have HK2056:Hid ((EnL En7 7) (fun _=>True) wr x.group [.slice a5 x.group.length c5]):=(enL en7 7).next (Keeps'.of hbr) HK2045.out;have hL:=HL.out;by_cases hlt:j<x.sources.length
   ·have hjz:(j:Int)<(x.sources.length:Int):=by omega
    rw [List.drop_eq_getElem_cons hlt,sourcesL_cons] at hL;simp only [sqE_assoc] at hL;obtain ⟨bl,off,cs,rfl,hbl,hcl,hce,⟨ai,ci,rfl,hkk⟩⟩:=(HKL.out.keep en10 (Keeps'.of hbr)).elem hlt;have z0:=hce 0 _ rfl;have z1:=hce 1 _ rfl;have z2:=hce 2 _ rfl;have z3:=hce 3 _ rfl;have z4:=hce 4 _ rfl;have z5:=hce 5 _ rfl;have z6:=hce 6 _ rfl;have z7:=hce 7 _ rfl;have z8:=hce 8 _ rfl;have z9:=hce 9 _ rfl;rw [Nat.add_zero] at z0
    have halY:Below wr.heap.size wr (wr.alloc (.cells #[.int .i64 x.sources[j].kind,.string x.sources[j].name,.string x.sources[j].alias,.int .i64 x.sources[j].on.k,.int .i64 x.sources[j].on.v.1,.int .i64 x.sources[j].on.v.2.1,.string x.sources[j].on.v.2.2,.string x.sources[j].on.tab,.string x.sources[j].on.name,.slice ai x.sources[j].on.ks.length ci] 105)):=(Below.refl _ _).alloc (Nat.le_refl _) _
    have QY:=heap_new wr #[.int .i64 x.sources[j].kind,.string x.sources[j].name,.string x.sources[j].alias,.int .i64 x.sources[j].on.k,.int .i64 x.sources[j].on.v.1,.int .i64 x.sources[j].on.v.2.1,.string x.sources[j].on.v.2.2,.string x.sources[j].on.tab,.string x.sources[j].on.name,.slice ai x.sources[j].on.ks.length ci] 105;have HMr:Hid _:=hL;generalize x.sources[j]=y at *;clear HL hL hce hcl;go_upto_region 8 with fail
    generalize wr.alloc (.cells #[.int .i64 y.kind,.string y.name,.string y.alias,.int .i64 y.on.k,.int .i64 y.on.v.1,.int .i64 y.on.v.2.1,.string y.on.v.2.2,.string y.on.tab,.string y.on.name,.slice ai y.on.ks.length ci] 105)=wa at *;clear z0 z1 z2 z3 z4 z5 z6 z7 z8 z9;have hx3557:Below w.heap.size w wa:=chain hx2049 halY;have QC3558:=(halY.block _ (lt_of_heap QC2050)).trans QC2050;have QX3559:=(halY.block _ (lt_of_heap QX2051)).trans QX2051;have hB3560:Below wc.heap.size wc wa:=chain hbr halY;have HKE:Hid (SsS (fun _=>True) wa ai y.on.ks):=SsS.next halY hkk;clear hkk
    have k3561:wa.cell? ⟨w.heap.size,0,none⟩=some (.int .i64 at_):=cell_of (i:=0) QC3558 rfl;have k3562:wa.cell? ⟨wr.heap.size,0,none⟩=some (.int .i64 y.kind):=cell_of (i:=0) QY rfl;have k3563:wa.cell? ⟨wr.heap.size,1,none⟩=some (.string y.name):=cell_of (i:=1) QY rfl;have k3564:wa.cell? ⟨wr.heap.size,2,none⟩=some (.string y.alias):=cell_of (i:=2) QY rfl;have k3565:wa.cell? ⟨wr.heap.size,3,none⟩=some (.int .i64 y.on.k):=cell_of (i:=3) QY rfl;have k3566:wa.cell? ⟨wr.heap.size,4,none⟩=some (.int .i64 y.on.v.1):=cell_of (i:=4) QY rfl
    have k3567:wa.cell? ⟨wr.heap.size,5,none⟩=some (.int .i64 y.on.v.2.1):=cell_of (i:=5) QY rfl;have k3568:wa.cell? ⟨wr.heap.size,6,none⟩=some (.string y.on.v.2.2):=cell_of (i:=6) QY rfl;have k3569:wa.cell? ⟨wr.heap.size,7,none⟩=some (.string y.on.tab):=cell_of (i:=7) QY rfl;have k3570:wa.cell? ⟨wr.heap.size,8,none⟩=some (.string y.on.name):=cell_of (i:=8) QY rfl;have k3571:wa.cell? ⟨wr.heap.size,9,none⟩=some (.slice ai y.on.ks.length ci):=cell_of (i:=9) QY rfl;have con3572:=csource_at ((j:Int) == 0) y ai ci (fun _=>True) at_ wa HKE.out;have hm:=HMr.out
    generalize sourceC ((j:Int) == 0) y=rk at hm con3572;have HM3573:Hid _:=hm;clear hm HMr;go_wp2_with fail
    refine con3572.mono ?_;rintro e w3574 ⟨hb3575,hW⟩;clear con3572 k3561 k3562 k3563 k3564 k3565 k3566 k3567 k3568 k3569 k3570 k3571;have hx3576:Below w.heap.size w w3574:=chain hx3557 hb3575;have QC3577:=(hb3575.block _ (lt_of_heap QC3558)).trans QC3558;have QX3578:=(hb3575.block _ (lt_of_heap QX3559)).trans QX3559;have QY3579:=(hb3575.block _ (lt_of_heap QY)).trans QY;have hB3580:Below wc.heap.size wc w3574:=chain hB3560 hb3575;rcases hW with ⟨h,rfl⟩ | ⟨h,rfl⟩
    rotate_left
    ·have HR:Hid (rk=M):=by have:=HM3573.out; rw [sqE_n h] at this; exact this
     clear HM3573;go_wp2_with fail
     exact ⟨rfl,.bad hx3576 HR.out.symm h⟩
    subst h;have hm:=HM3573.out;rw [sqE_0] at hm;have HM3581:Hid _:=hm;clear hm HM3573;go_wp2_with fail
    go_roundw
    case rel=>exact ⟨j+1,by omega,by go_num,(by show _=_; rw [show (((j+1:Nat):Int) == 0)=false by rw [beq_eq_false_iff_ne]; omega]; exact HM3581.out),hB3580⟩
    case measure=>simp [RowKit.intOf]; omega
   ·have hjz:¬ (j:Int)<(x.sources.length:Int):=by omega
    rw [List.drop_eq_nil_of_le (by omega),show sourcesL ((j:Int) == 0) []=0 from rfl,sqE_0] at hL;have HMr:Hid _:=hL;clear HL hL;have hm:=HMr.out;rw [selR] at hm;have HMs:Hid _:=hm;clear hm HMr;have k4557:wr.cell? ⟨w.heap.size,0,none⟩=some (.int .i64 at_):=cell_of (i:=0) QC2050 rfl;have k4558:wr.cell? ⟨w.heap.size+1,4,none⟩=some (.bool x.hasWhere):=cell_of (i:=4) QX2051 rfl;have k4559:wr.cell? ⟨w.heap.size+1,6,none⟩=some (.int .i64 x.wher.k):=cell_of (i:=6) QX2051 rfl;have k4560:wr.cell? ⟨w.heap.size+1,7,none⟩=some (.int .i64 x.wher.v.1):=cell_of (i:=7) QX2051 rfl
    have k4561:wr.cell? ⟨w.heap.size+1,8,none⟩=some (.int .i64 x.wher.v.2.1):=cell_of (i:=8) QX2051 rfl;have k4562:wr.cell? ⟨w.heap.size+1,9,none⟩=some (.string x.wher.v.2.2):=cell_of (i:=9) QX2051 rfl;have k4563:wr.cell? ⟨w.heap.size+1,10,none⟩=some (.string x.wher.tab):=cell_of (i:=10) QX2051 rfl;have k4564:wr.cell? ⟨w.heap.size+1,11,none⟩=some (.string x.wher.name):=cell_of (i:=11) QX2051 rfl;have k4565:wr.cell? ⟨w.heap.size+1,12,none⟩=some (.slice a3 x.wher.ks.length c3):=cell_of (i:=12) QX2051 rfl;have con4566:=cexprIf_at x.hasWhere x.wher at_ a3 c3 (fun _=>True) wr HK2054.out.ks
    have hm:=HMs.out;generalize exprIfC x.hasWhere x.wher=rk at hm con4566;have HM4567:Hid _:=hm;clear hm HMs;go_wp2_with fail
    refine con4566.mono ?_;rintro e w4568 ⟨hb4569,hW⟩;clear con4566 k4557 k4558 k4559 k4560 k4561 k4562 k4563 k4564 k4565;have hx4570:Below w.heap.size w w4568:=chain hx2049 hb4569;have QC4571:=(hb4569.block _ (lt_of_heap QC2050)).trans QC2050;have QX4572:=(hb4569.block _ (lt_of_heap QX2051)).trans QX2051;have HK4573:Hid ((EnL En8 8) (fun _=>True) w4568 x.items [.slice a1 x.items.length c1]):=(enL en8 8).next (Keeps'.of hb4569) HK2052.out;have HK4574:Hid ((EnL En10 10) (fun _=>True) w4568 x.sources [.slice a2 x.sources.length c2]):=(enL en10 10).next (Keeps'.of hb4569) HK2053.out
    have HK4575:Hid (En7 (fun _=>True) w4568 x.wher [.int .i64 x.wher.k,.int .i64 x.wher.v.1,.int .i64 x.wher.v.2.1,.string x.wher.v.2.2,.string x.wher.tab,.string x.wher.name,.slice a3 x.wher.ks.length c3]):=en7.next (Keeps'.of hb4569) HK2054.out;have HK4576:Hid (En7 (fun _=>True) w4568 x.having [.int .i64 x.having.k,.int .i64 x.having.v.1,.int .i64 x.having.v.2.1,.string x.having.v.2.2,.string x.having.tab,.string x.having.name,.slice a4 x.having.ks.length c4]):=en7.next (Keeps'.of hb4569) HK2055.out
    have HK4577:Hid ((EnL En7 7) (fun _=>True) w4568 x.group [.slice a5 x.group.length c5]):=(enL en7 7).next (Keeps'.of hb4569) HK2056.out;rcases hW with ⟨h,rfl⟩ | ⟨h,rfl⟩
    rotate_left
    ·have HR:Hid (rk=M):=by have:=HM4567.out; rw [sqE_n h] at this; exact this
     clear HM4567;go_wp2_with fail
     exact ⟨rfl,.bad hx4570 HR.out.symm h⟩
    subst h;have hm:=HM4567.out;rw [sqE_0] at hm;have HM4578:Hid _:=hm;clear hm HM4567;have k4579:w4568.cell? ⟨w.heap.size,0,none⟩=some (.int .i64 at_):=cell_of (i:=0) QC4571 rfl;have k4580:w4568.cell? ⟨w.heap.size+1,20,none⟩=some (.slice a5 x.group.length c5):=cell_of (i:=20) QX4572 rfl;have con4581:=cexprs_at x.group (by omega) at_ a5 c5 (fun _=>True) w4568 (LsE.sxs HK4577.out.ls);have hm:=HM4578.out;generalize exprsC x.group=rk at hm con4581;have HM4582:Hid _:=hm;clear hm HM4578;go_wp2_with fail
    refine con4581.mono ?_;rintro e w4583 ⟨hb4584,hW⟩;clear con4581 k4579 k4580;have hx4585:Below w.heap.size w w4583:=chain hx4570 hb4584;have QC4586:=(hb4584.block _ (lt_of_heap QC4571)).trans QC4571;have QX4587:=(hb4584.block _ (lt_of_heap QX4572)).trans QX4572;have HK4588:Hid ((EnL En8 8) (fun _=>True) w4583 x.items [.slice a1 x.items.length c1]):=(enL en8 8).next (Keeps'.of hb4584) HK4573.out;have HK4589:Hid ((EnL En10 10) (fun _=>True) w4583 x.sources [.slice a2 x.sources.length c2]):=(enL en10 10).next (Keeps'.of hb4584) HK4574.out
    have HK4590:Hid (En7 (fun _=>True) w4583 x.wher [.int .i64 x.wher.k,.int .i64 x.wher.v.1,.int .i64 x.wher.v.2.1,.string x.wher.v.2.2,.string x.wher.tab,.string x.wher.name,.slice a3 x.wher.ks.length c3]):=en7.next (Keeps'.of hb4584) HK4575.out;have HK4591:Hid (En7 (fun _=>True) w4583 x.having [.int .i64 x.having.k,.int .i64 x.having.v.1,.int .i64 x.having.v.2.1,.string x.having.v.2.2,.string x.having.tab,.string x.having.name,.slice a4 x.having.ks.length c4]):=en7.next (Keeps'.of hb4584) HK4576.out
    have HK4592:Hid ((EnL En7 7) (fun _=>True) w4583 x.group [.slice a5 x.group.length c5]):=(enL en7 7).next (Keeps'.of hb4584) HK4577.out;rcases hW with ⟨h,rfl⟩ | ⟨h,rfl⟩
    rotate_left
    ·have HR:Hid (rk=M):=by have:=HM4582.out; rw [sqE_n h] at this; exact this
     clear HM4582;go_wp2_with fail
     exact ⟨rfl,.bad hx4585 HR.out.symm h⟩
    subst h;have hm:=HM4582.out;rw [sqE_0] at hm;have HM4593:Hid _:=hm;clear hm HM4582;have k4594:w4583.cell? ⟨w.heap.size,0,none⟩=some (.int .i64 at_):=cell_of (i:=0) QC4586 rfl;have k4595:w4583.cell? ⟨w.heap.size+1,5,none⟩=some (.bool x.hasHaving):=cell_of (i:=5) QX4587 rfl;have k4596:w4583.cell? ⟨w.heap.size+1,13,none⟩=some (.int .i64 x.having.k):=cell_of (i:=13) QX4587 rfl;have k4597:w4583.cell? ⟨w.heap.size+1,14,none⟩=some (.int .i64 x.having.v.1):=cell_of (i:=14) QX4587 rfl;have k4598:w4583.cell? ⟨w.heap.size+1,15,none⟩=some (.int .i64 x.having.v.2.1):=cell_of (i:=15) QX4587 rfl
    have k4599:w4583.cell? ⟨w.heap.size+1,16,none⟩=some (.string x.having.v.2.2):=cell_of (i:=16) QX4587 rfl;have k4600:w4583.cell? ⟨w.heap.size+1,17,none⟩=some (.string x.having.tab):=cell_of (i:=17) QX4587 rfl;have k4601:w4583.cell? ⟨w.heap.size+1,18,none⟩=some (.string x.having.name):=cell_of (i:=18) QX4587 rfl;have k4602:w4583.cell? ⟨w.heap.size+1,19,none⟩=some (.slice a4 x.having.ks.length c4):=cell_of (i:=19) QX4587 rfl;have con4603:=cexprIf_at x.hasHaving x.having at_ a4 c4 (fun _=>True) w4583 HK4591.out.ks;have hm:=HM4593.out;generalize exprIfC x.hasHaving x.having=rk at hm con4603
    have HM4604:Hid _:=hm;clear hm HM4593;go_wp2_with fail
    refine con4603.mono ?_;rintro e w4605 ⟨hb4606,hW⟩;clear con4603 k4594 k4595 k4596 k4597 k4598 k4599 k4600 k4601 k4602;have hx4607:Below w.heap.size w w4605:=chain hx4585 hb4606;have QC4608:=(hb4606.block _ (lt_of_heap QC4586)).trans QC4586;have QX4609:=(hb4606.block _ (lt_of_heap QX4587)).trans QX4587;have HK4610:Hid ((EnL En8 8) (fun _=>True) w4605 x.items [.slice a1 x.items.length c1]):=(enL en8 8).next (Keeps'.of hb4606) HK4588.out;have HK4611:Hid ((EnL En10 10) (fun _=>True) w4605 x.sources [.slice a2 x.sources.length c2]):=(enL en10 10).next (Keeps'.of hb4606) HK4589.out
    have HK4612:Hid (En7 (fun _=>True) w4605 x.wher [.int .i64 x.wher.k,.int .i64 x.wher.v.1,.int .i64 x.wher.v.2.1,.string x.wher.v.2.2,.string x.wher.tab,.string x.wher.name,.slice a3 x.wher.ks.length c3]):=en7.next (Keeps'.of hb4606) HK4590.out;have HK4613:Hid (En7 (fun _=>True) w4605 x.having [.int .i64 x.having.k,.int .i64 x.having.v.1,.int .i64 x.having.v.2.1,.string x.having.v.2.2,.string x.having.tab,.string x.having.name,.slice a4 x.having.ks.length c4]):=en7.next (Keeps'.of hb4606) HK4591.out
    have HK4614:Hid ((EnL En7 7) (fun _=>True) w4605 x.group [.slice a5 x.group.length c5]):=(enL en7 7).next (Keeps'.of hb4606) HK4592.out;rcases hW with ⟨h,rfl⟩ | ⟨h,rfl⟩
    rotate_left
    ·have HR:Hid (rk=M):=by have:=HM4604.out; rw [sqE_n h] at this; exact this
     clear HM4604;go_wp2_with fail
     exact ⟨rfl,.bad hx4607 HR.out.symm h⟩
    subst h;have hm:=HM4604.out;rw [sqE_0] at hm;have HM4615:Hid _:=hm;clear hm HM4604;go_wp2_with fail
    go_end0
    exact .ok hx4607 HM4615.out.symm

def valsL:List Vl→Int
 | []=>0
 | x :: r=>sqE (valC x) (valsL r)
theorem valsL_cons (x:Vl) (r:List Vl):valsL (x :: r)=sqE (valC x) (valsL r):=rfl
def rowsL:List (List Vl)→Int
 | []=>0
 | x :: r=>sqE (cntC x.length 1 8) (sqE (valsL x) (rowsL r))
theorem rowsL_cons (x:List Vl) (r:List (List Vl)):rowsL (x :: r)=sqE (cntC x.length 1 8) (sqE (valsL x) (rowsL r)):=rfl
def rowsC (l:List (List Vl)):Int:=sqE (cntC l.length 1 400) (sqE (rowsL l) 0)
theorem crows_at (l:List (List Vl)) (a:Option Addr) (c:Nat) (S:Nat→Prop) (at_:Int) (w:World) (hks:LsE (EnL En3 3) 1 S w a l):Calls Tryz.prog 71 #[.agg #[.int .i64 at_],.slice a l.length c] w (CEnds w at_ (rowsC l)):=by
 have hal:Below w.heap.size w (w.alloc (.cells #[.int .i64 at_] 86)):=(Below.refl _ _).alloc (Nat.le_refl _) _;have QC:=heap_new w #[.int .i64 at_] 86;generalize hM:rowsC l=M;have HM0:Hid _:=hM;clear hM;have HK1:Hid ((EnL (EnL En3 3) 1) (fun _=>True) (w.alloc (.cells #[.int .i64 at_] 86)) l [.slice a l.length c]):=(enL (enL en3 3) 1).next (Keeps'.of hal) ((enL (enL en3 3) 1).mono (fun _ _ _=>trivial) ⟨a,c,rfl,hks⟩);go_enter Tryz.func71,Tryz.ntmps71;go_upto_region 1 with fail
 generalize (w.alloc (.cells #[.int .i64 at_] 86))=w1 at *;have hm:=HM0.out;rw [rowsC] at hm;have HMa:Hid _:=hm;clear hm HM0 hks;have k2:w1.cell? ⟨w.heap.size,0,none⟩=some (.int .i64 at_):=cell_of (i:=0) QC rfl;have con3:=count_at l.length 1 400 at_ w1;have hm:=HMa.out;obtain ⟨rk,hrk⟩:∃ r,cntC l.length 1 400=r:=⟨_,rfl⟩
 rw [hrk] at hm con3;have HRK:Hid _:=hrk;clear hrk;have HM4:Hid _:=hm;clear hm HMa;go_wp2_with fail
 refine con3.mono ?_;rintro e w5 ⟨hb6,hW⟩;clear con3 k2;have hx7:Below w.heap.size w w5:=chain hal hb6;have QC8:=(hb6.block _ (lt_of_heap QC)).trans QC;have HK9:Hid ((EnL (EnL En3 3) 1) (fun _=>True) w5 l [.slice a l.length c]):=(enL (enL en3 3) 1).next (Keeps'.of hb6) HK1.out;rcases hW with ⟨h,rfl⟩ | ⟨h,rfl⟩
 rotate_left
 ·have HR:Hid (rk=M):=by have:=HM4.out; rw [sqE_n h] at this; exact this
  clear HM4;go_wp2_with fail
  exact ⟨rfl,.bad hx7 HR.out.symm h⟩
 subst h;have hm:=HM4.out;rw [sqE_0] at hm;have HM10:Hid _:=hm;clear hm HM4;have hcn:=cnt_le HRK.out;clear HRK;have HKL:Hid (LsE (EnL En3 3) 1 (fun _=>True) w5 a l):=HK9.out.ls;have HM11:Hid (sqE (rowsL (l.drop 0)) (0)=M):=by show _=_; rw [List.drop_zero]; exact HM10.out
 clear HM10;go_wp2_with fail
 go_loopw [14] (fun jv wr=>∃ j:Nat,j≤l.length∧jv = .int .i64 j∧Hid (sqE (rowsL (l.drop j)) (0)=M)∧Below w5.heap.size w5 wr) (fun jv _=>l.length - (RowKit.intOf jv).toNat)
 case atStart=>exact ⟨0,by omega,rfl,HM11,Below.refl _ _⟩
 case round =>
  clear HM11;obtain ⟨j,hj,rfl,HL,hbr⟩:=hrel;have hx12:Below w.heap.size w wr:=chain hx7 hbr;have QC13:=(hbr.block _ (lt_of_heap QC8)).trans QC8;have HK14:Hid ((EnL (EnL En3 3) 1) (fun _=>True) wr l [.slice a l.length c]):=(enL (enL en3 3) 1).next (Keeps'.of hbr) HK9.out;have hL:=HL.out;by_cases hlt:j<l.length
  ·have hjz:(j:Int)<(l.length:Int):=by omega
   rw [List.drop_eq_getElem_cons hlt,rowsL_cons] at hL;simp only [sqE_assoc] at hL;obtain ⟨bl,off,cs,rfl,hbl,hcl,hce,⟨ai,ci,rfl,hkk⟩⟩:=(HKL.out.keep (enL en3 3) (Keeps'.of hbr)).elem hlt;have z0:=hce 0 _ rfl;rw [Nat.add_zero,Nat.mul_one] at z0;have HMr:Hid _:=hL;generalize l[j]=y at *;clear HL hL hce hcl;have k1515:wr.cell? ⟨w.heap.size,0,none⟩=some (.int .i64 at_):=cell_of (i:=0) QC13 rfl;have con1516:=count_at y.length 1 8 at_ wr;have hm:=HMr.out;obtain ⟨rk,hrk⟩:∃ r,cntC y.length 1 8=r:=⟨_,rfl⟩
   rw [hrk] at hm con1516;have HRK:Hid _:=hrk;clear hrk;have HM1517:Hid _:=hm;clear hm HMr;go_wp2_with fail
   refine con1516.mono ?_;rintro e w1518 ⟨hb1519,hW⟩;clear con1516 k1515;have hx1520:Below w.heap.size w w1518:=chain hx12 hb1519;have QC1521:=(hb1519.block _ (lt_of_heap QC13)).trans QC13;have hB1522:Below w5.heap.size w5 w1518:=chain hbr hb1519;have hS1523:Below wr.heap.size wr w1518:=hb1519;rcases hW with ⟨h,rfl⟩ | ⟨h,rfl⟩
   rotate_left
   ·have HR:Hid (rk=M):=by have:=HM1517.out; rw [sqE_n h] at this; exact this
    clear HM1517;go_wp2_with fail
    exact ⟨rfl,.bad hx1520 HR.out.symm h⟩
   subst h;have hm:=HM1517.out;rw [sqE_0] at hm;have HM1524:Hid _:=hm;clear hm HM1517;have hcny:=cnt_le HRK.out;clear HRK;have HKY:Hid (LsE En3 3 (fun _=>True) w1518 ai y):=hkk.keep en3 (Keeps'.of hS1523);clear hkk;have HM1525:Hid (sqE (valsL (y.drop 0)) (sqE (rowsL (l.drop (j+1))) 0)=M):=by show _=_; rw [List.drop_zero]; exact HM1524.out
   clear HM1524;go_wp2_with fail
   go_loopw [24] (fun jv wri=>∃ ji:Nat,ji≤y.length∧jv = .int .i64 ji∧Hid (sqE (valsL (y.drop ji)) (sqE (rowsL (l.drop (j+1))) 0)=M)∧Below w1518.heap.size w1518 wri) (fun jv _=>y.length - (RowKit.intOf jv).toNat)
   case atStart=>exact ⟨0,by omega,rfl,HM1525,Below.refl _ _⟩
   case round =>
    clear HM1525;obtain ⟨ji,hji,rfl,HL,hbri⟩:=hrel;obtain ⟨wri,ewr⟩:∃ W,W=wr:=⟨_,rfl⟩
    subst ewr;have hx1526:Below w.heap.size w wri:=chain hx1520 hbri;have QC1527:=(hbri.block _ (lt_of_heap QC1521)).trans QC1521;have hB1528:Below w5.heap.size w5 wri:=chain hB1522 hbri;have hS1529:Below wr.heap.size wr wri:=chain hS1523 hbri;have hL:=HL.out;by_cases hlti:ji<y.length
    ·have hjzi:(ji:Int)<(y.length:Int):=by omega
     rw [List.drop_eq_getElem_cons hlti,valsL_cons] at hL;simp only [sqE_assoc] at hL;obtain ⟨bli,offi,cs,rfl,hbli,hcl,hce,rfl⟩:=(HKY.out.keep en3 (Keeps'.of hbri)).elem hlti;have zi0:=hce 0 _ rfl;have zi1:=hce 1 _ rfl;have zi2:=hce 2 _ rfl;rw [Nat.add_zero] at zi0;have halYi:Below wri.heap.size wri (wri.alloc (.cells #[.int .i64 y[ji].1,.int .i64 y[ji].2.1,.string y[ji].2.2] 53)):=(Below.refl _ _).alloc (Nat.le_refl _) _;have QYi:=heap_new wri #[.int .i64 y[ji].1,.int .i64 y[ji].2.1,.string y[ji].2.2] 53;have HMr:Hid _:=hL;generalize y[ji]=v at *;clear HL hL hce hcl
     go_upto_region 9 with fail
     generalize wri.alloc (.cells #[.int .i64 v.1,.int .i64 v.2.1,.string v.2.2] 53)=wai at *;clear zi0 zi1 zi2;have hx3030:Below w.heap.size w wai:=chain hx1526 halYi;have QC3031:=(halYi.block _ (lt_of_heap QC1527)).trans QC1527;have hB3032:Below w5.heap.size w5 wai:=chain hB1528 halYi;have hB3033:Below w1518.heap.size w1518 wai:=chain hbri halYi;have hS3034:Below wr.heap.size wr wai:=chain hS1529 halYi;have k3035:wai.cell? ⟨w.heap.size,0,none⟩=some (.int .i64 at_):=cell_of (i:=0) QC3031 rfl;have k3036:wai.cell? ⟨wri.heap.size,0,none⟩=some (.int .i64 v.1):=cell_of (i:=0) QYi rfl
     have k3037:wai.cell? ⟨wri.heap.size,1,none⟩=some (.int .i64 v.2.1):=cell_of (i:=1) QYi rfl;have k3038:wai.cell? ⟨wri.heap.size,2,none⟩=some (.string v.2.2):=cell_of (i:=2) QYi rfl;have con3039:=cvalue_at v at_ wai;have hm:=HMr.out;generalize valC v=rk at hm con3039;have HM3040:Hid _:=hm;clear hm HMr;go_wp2_with fail
     refine con3039.mono ?_;rintro e w3041 ⟨hb3042,hW⟩;clear con3039 k3035 k3036 k3037 k3038;have hx3043:Below w.heap.size w w3041:=chain hx3030 hb3042;have QC3044:=(hb3042.block _ (lt_of_heap QC3031)).trans QC3031;have QYi3045:=(hb3042.block _ (lt_of_heap QYi)).trans QYi;have hB3046:Below w5.heap.size w5 w3041:=chain hB3032 hb3042;have hB3047:Below w1518.heap.size w1518 w3041:=chain hB3033 hb3042;have hS3048:Below wr.heap.size wr w3041:=chain hS3034 hb3042;rcases hW with ⟨h,rfl⟩ | ⟨h,rfl⟩
     rotate_left
     ·have HR:Hid (rk=M):=by have:=HM3040.out; rw [sqE_n h] at this; exact this
      clear HM3040;go_wp2_with fail
      exact ⟨rfl,.bad hx3043 HR.out.symm h⟩
     subst h;have hm:=HM3040.out;rw [sqE_0] at hm;have HM3049:Hid _:=hm;clear hm HM3040;go_wp2_with fail
     go_roundw
     case rel=>exact ⟨ji+1,by omega,by go_num,HM3049,hB3047⟩
     case measure=>simp [RowKit.intOf]; omega
    ·have hjzi:¬ (ji:Int)<(y.length:Int):=by omega
     rw [List.drop_eq_nil_of_le (by omega),show valsL []=0 from rfl,sqE_0] at hL;have HMr:Hid _:=hL;clear HL hL;go_wp2_with fail
     go_roundw
     case rel=>exact ⟨j+1,by omega,by go_num,HMr,hB1528⟩
     case measure=>simp [RowKit.intOf]; omega
  ·have hjz:¬ (j:Int)<(l.length:Int):=by omega
   rw [List.drop_eq_nil_of_le (by omega),show rowsL []=0 from rfl,sqE_0] at hL;have HMr:Hid _:=hL;clear HL hL;go_wp2_with fail
   go_end0
   exact .ok hx12 HMr.out.symm
end Go.Proofs.YtoknmnngaackkaaGreatDoor
