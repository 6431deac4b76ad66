/- Together: JO8, JO9, CI, JOA, JOB, JOC, JOp. -/
import Derived.Deep.AppendSrc
import Derived.Shelf.Lay
import Derived.Lib.LaidTab
import Derived.OpenShut
import Derived.Deep.Strs
import Derived.Stop.LaidErr
import Derived.LaidHandle
import Derived.Deep.Slices
import Derived.ProofKit
import Derived.ChangeOld
import Derived.Lib.SmallJoins
import Derived.SizedLaws
import Derived.Test.YtoknmnngaackkaaGreatDoorJJ12
import Derived.Test.YtoknmnngaackkaaGreatDoorJJ8
import Derived.Test.YtoknmnngaackkaaGreatDoorJJ9
import Derived.Test.YtoknmnngaackkaaGreatDoorJJ4
/- The journal: Recover. -/
namespace Go.Proofs.YtoknmnngaackkaaGreatDoor
open Go.RowKit Go.Lib Go.Shelf
set_option maxRecDepth 100000
set_option maxHeartbeats 8000000

/-- The statements of the records from a place on. -/
def recG:Nat→List UInt8→Nat→List Stm→List Stm × Nat
 | 0,_,p,acc=>(acc,p)
 | n+1,bs,p,acc=>match statedP (recAtP (bs.drop p)).1 with
  | none=>(acc,p)
  | some x=>recG n bs (p+(recAtP (bs.drop p)).2) (acc ++ [x])
def recoP (bs:List UInt8):List Stm × Nat:=recG (bs.length+1) bs 0 []
theorem stated_nil:statedP eB=none:=by
 unfold statedP;have:readP eB = .ok []:=rfl;rw [this];rfl
theorem recAt_size {bs:List UInt8} (h:(recAtP bs).1≠eB):4≤(recAtP bs).2∧(recAtP bs).2≤bs.length:=by
 unfold recAtP at h ⊢;by_cases h1:bs.length<2
 ·rw [if_pos h1] at h; exact absurd rfl h
 ·rw [if_neg h1] at h ⊢;by_cases h2:bs.length<2+prOf bs+2
  ·rw [if_pos h2] at h; exact absurd rfl h
  ·rw [if_neg h2] at h ⊢;by_cases h3:prOf (bs.drop (2+prOf bs))=crcL 7439 (bs.take (2+prOf bs))
   ·rw [if_pos h3] at h ⊢;exact ⟨by show 4≤2+prOf bs+2; omega,by show 2+prOf bs+2≤_; omega⟩
   ·rw [if_neg h3] at h; exact absurd rfl h
theorem Recover_at (bs:List UInt8) (b off cap:Nat) {w:World} (hG:GP w w.heap.size) (hl:LsE EnU 1 (fun b=>b<w.heap.size) w (some ⟨b,off,none⟩) bs) (hc:bs.length≤cap) (hn:bs.length≤100000):Calls Tryz.prog 12 #[.slice (some ⟨b,off,none⟩) bs.length cap] w fun e w'=>Below w.heap.size w w'∧∃ a c,e = .returned (.tuple #[.slice a (recoP bs).1.length c,.int .i64 ((recoP bs).2:Nat),.int .i64 0])∧LsE En16 16 (fun b=>w.heap.size≤b) w' a (recoP bs).1:=by
 obtain ⟨i0,hi,hj0,hj1,hj2⟩:=info_parts infoT;generalize hM:recoP bs=M;have HM:Hid (recG (bs.length+1) bs 0 []=M):=hM;have HG:Hid (GP w w.heap.size):=hG;have HL:Hid (LsE EnU 1 (fun b=>b<w.heap.size) w (some ⟨b,off,none⟩) bs):=hl;have hz:¬ (100000:Int)<(bs.length:Int):=by omega
 clear hM hG hl;go_enter Tryz.func12,Tryz.ntmps12;go_wp2_with fail
 go_loopw [5,6] (fun ov pv wr=>∃ (n p:Nat) (v:Value) (acc:List Stm),v=ov∧pv = .int .i64 p∧p≤bs.length∧acc.length≤p∧Hid (OwnE En16 57 16 w.heap.size (fun b=>w.heap.size≤b) wr v acc)∧Hid (Below w.heap.size w wr)∧Hid (recG n bs p acc=M∧bs.length<p+n)) (fun _ pv _=>bs.length - (RowKit.intOf pv).toNat)
 case atStart=>exact ⟨bs.length+1,0,.slice none 0 0,[],rfl,rfl,Nat.zero_le _,Nat.le_refl _,OwnE.nil _ _ _ _ _ _,Below.refl _ _,HM,by omega⟩
 case round =>
  obtain ⟨n,p,v,acc,rfl,rfl,hp,hacc,HO,HB,HK⟩:=hrel;have hpz:(p:Int)≤(bs.length:Int):=by omega
  have hpz2:(0:Int)≤(p:Int):=by omega
  obtain ⟨va,vc,hv⟩:=HO.out.len;subst hv;have hsd:∀ k,Hid (recG n bs p acc=M∧bs.length<p+n)→statedP (recAtP (bs.drop p)).1=k→(k=none→M=(acc,p))∧(∀ x,k=some x→∃ m,n=m+1∧recG m bs (p+(recAtP (bs.drop p)).2) (acc ++ [x])=M∧4≤(recAtP (bs.drop p)).2∧p+(recAtP (bs.drop p)).2≤bs.length∧bs.length<p+n):=by
   intro k hk e;obtain ⟨h1,h2⟩:=hk.out;obtain ⟨m,rfl⟩:∃ m,n=m+1:=⟨n - 1,by omega⟩
   rw [recG,e] at h1;refine ⟨fun q=>?_,fun x q=>?_⟩
   ·subst q; exact h1.symm
   ·subst q;have hne:(recAtP (bs.drop p)).1≠eB:=fun c=>by rw [c,stated_nil] at e; cases e
    have hsz:=recAt_size hne;rw [List.length_drop] at hsz;exact ⟨m,rfl,h1,hsz.1,by omega,h2⟩
  have hS:=hsd _ HK rfl;have HS:Hid _:=hS;clear hsd hS HK;have hLr:LsE EnU 1 (fun b=>b<w.heap.size) wr (some ⟨b,off,none⟩) bs:=HL.out.keep enU ⟨HB.out.size,fun k hk _=>HB.out.block k hk⟩;have hGr:GP wr wr.heap.size:=HG.out.up HB.out (Nat.le_refl _) HB.out.size;have con:∃ q k,(q=off+p∧k=cap - p∧p<cap∨q=off∧k=0∧p=cap)∧Calls Tryz.prog 25 #[.slice (some ⟨b,q,none⟩) (bs.length - p) k] wr fun e w'=>e = .returned (.tuple #[.string (recAtP (bs.drop p)).1,.int .i64 ((recAtP (bs.drop p)).2:Nat)])∧Below wr.heap.size wr w':=by
   by_cases hpc:p<cap
   ·refine ⟨off+p,cap - p,.inl ⟨rfl,rfl,hpc⟩,?_⟩;have:=recordAt_at (bs.drop p) (some ⟨b,off+p,none⟩) (cap - p) _ (w:=wr) (hLr.dropU p) (by rw [List.length_drop]; omega) (by rw [List.length_drop]; omega)
    rwa [List.length_drop] at this
   ·refine ⟨off,0,.inr ⟨rfl,rfl,by omega⟩,?_⟩;have e:bs.drop p = []:=List.drop_of_length_le (by omega);have:=recordAt_at [] (some ⟨b,off,none⟩) 0 (fun _=>True) (w:=wr) (.inl rfl) (Nat.le_refl _) (by decide);rw [e,show bs.length - p=([]:List UInt8).length by show _=0; omega];exact this
  obtain ⟨q,k,hqk,con⟩:=con;have con2:=fun (w2:World) (hb:Below wr.heap.size wr w2)=>stated_at (recAtP (bs.drop p)).1 (w:=w2) (hGr.up hb (Nat.le_refl _) hb.size)
  generalize recAtP (bs.drop p)=T at *;have CON2:Hid _:=con2;clear hLr hGr con2;rcases hqk with ⟨rfl,rfl,hpc⟩ | ⟨rfl,rfl,rfl⟩
  case inl =>
   go_wp2_with fail
   refine con.mono ?_;rintro e w2 ⟨rfl,hb2⟩;have con2:=CON2.out w2 hb2;have HO2:Hid (OwnE En16 57 16 w.heap.size (fun b=>w.heap.size≤b) w2 (.slice va acc.length vc) acc):=HO.out.next en16 hb2;have hs:=HB.out.size;have HB2:Hid (Below w.heap.size w w2):=HB.out.trans (hb2.mono hs);have hs2:=hb2.size;have HOZ:∀ g,(Value.slice va acc.length vc).ownBlock=some g→g<w2.heap.size:=fun g e=>by have:=(HO.out.lt g e).2; omega
   generalize statedP T.1=r at *;clear con CON2 HO HB;go_wp2_with fail
   refine con2.mono ?_;rintro e w3 ⟨hb3,hr⟩;have hs3:=hb3.size;have HO3:Hid (OwnE En16 57 16 w.heap.size (fun b=>w.heap.size≤b) w3 (.slice va acc.length vc) acc):=HO2.out.next en16 hb3;have HB3:Hid (Below w.heap.size w w3):=HB2.out.trans (hb3.mono (by omega));clear con2 HO2 HB2;rcases r with _ | x
   case none =>
    obtain rfl:=hr;have e:M=(acc,p):=HS.out.1 rfl;subst e;obtain ⟨ea,ec,ee,LE⟩:=HO3.out.ls en16 (fun _ h=>h);injection ee with e1 _ e3
    subst e1 e3;have HLE:Hid (LsE En16 16 (fun b=>w.heap.size≤b) w3 va acc):=LE;have hal4:Below w3.heap.size w3 (w3.alloc (.cells z16A 57)):=(Below.refl _ _).alloc (Nat.le_refl _) _;have HB4:Hid (Below w.heap.size w (w3.alloc (.cells z16A 57))):=HB3.out.trans (hal4.mono (by omega));have HL4:Hid (LsE En16 16 (fun b=>w.heap.size≤b) (w3.alloc (.cells z16A 57)) va acc):=HLE.out.nx en16 hal4;clear HS HO3 HB3 LE HLE hal4;go_wp2_with (first | (refine wpList_store_new rfl 57 _ _ rfl z16A z16A rfl rfl sz16 rfl (all1 rfl) ?_))
    generalize (w3.alloc (.cells z16A 57))=wE at *;exact bodyPost_ret (v:=.tuple #[.slice va acc.length vc,.int .i64 p,.int .i64 0]) (by simp [results,Tryz.results12,go_sem]) rfl (by first | exact ⟨HB4.out,va,vc,rfl,HL4.out⟩ | exact ⟨HB4.out,va,⟨vc,rfl⟩,HL4.out⟩)
   case some =>
    obtain ⟨V,rfl,hE⟩:=hr;obtain ⟨m,rfl,hm,hsz4,hsz,hfu⟩:=HS.out.2 x rfl;have HM2:Hid (recG m bs (p+T.2) (acc ++ [x])=M∧bs.length<p+T.2+m):=⟨hm,by omega⟩
    obtain ⟨hV,h16⟩:=En16.size hE;obtain ⟨v0,v1,v2,v3,v4,v5,v6,v7,v8,v9,v10,v11,v12,v13,v14,v15,rfl⟩:=arr16 hV;have hal4:Below w3.heap.size w3 (w3.alloc (.cells #[v0,v1,v2,v3,v4,v5,v6,v7,v8,v9,v10,v11,v12,v13,v14,v15] 57)):=(Below.refl _ _).alloc (Nat.le_refl _) _;have q4:=heap_new w3 #[v0,v1,v2,v3,v4,v5,v6,v7,v8,v9,v10,v11,v12,v13,v14,v15] 57;have hs4:=hal4.size
    have hal5:Below (w3.alloc (.cells #[v0,v1,v2,v3,v4,v5,v6,v7,v8,v9,v10,v11,v12,v13,v14,v15] 57)).heap.size (w3.alloc (.cells #[v0,v1,v2,v3,v4,v5,v6,v7,v8,v9,v10,v11,v12,v13,v14,v15] 57)) ((w3.alloc (.cells #[v0,v1,v2,v3,v4,v5,v6,v7,v8,v9,v10,v11,v12,v13,v14,v15] 57)).alloc (.cells #[v0,v1,v2,v3,v4,v5,v6,v7,v8,v9,v10,v11,v12,v13,v14,v15] 57)):=(Below.refl _ _).alloc (Nat.le_refl _) _;have e5:(w3.alloc (.cells #[v0,v1,v2,v3,v4,v5,v6,v7,v8,v9,v10,v11,v12,v13,v14,v15] 57)).heap.size=w3.heap.size+1:=by simp
    have q5:=heap_new (w3.alloc (.cells #[v0,v1,v2,v3,v4,v5,v6,v7,v8,v9,v10,v11,v12,v13,v14,v15] 57)) #[v0,v1,v2,v3,v4,v5,v6,v7,v8,v9,v10,v11,v12,v13,v14,v15] 57;rw [e5] at q5;have hs5:=hal5.size;have HB5:Hid (Below w.heap.size w ((w3.alloc (.cells #[v0,v1,v2,v3,v4,v5,v6,v7,v8,v9,v10,v11,v12,v13,v14,v15] 57)).alloc (.cells #[v0,v1,v2,v3,v4,v5,v6,v7,v8,v9,v10,v11,v12,v13,v14,v15] 57))):=(HB3.out.trans (hal4.mono (by omega))).trans (hal5.mono (by omega))
    have HX5:Hid (En16 (fun b=>w2.heap.size≤b∧b<w3.heap.size) ((w3.alloc (.cells #[v0,v1,v2,v3,v4,v5,v6,v7,v8,v9,v10,v11,v12,v13,v14,v15] 57)).alloc (.cells #[v0,v1,v2,v3,v4,v5,v6,v7,v8,v9,v10,v11,v12,v13,v14,v15] 57)) x [v0,v1,v2,v3,v4,v5,v6,v7,v8,v9,v10,v11,v12,v13,v14,v15]):=en16.next (Keeps'.of (chain hal4 hal5)) (en16.mono (fun b h1 h2=>⟨h1,h2⟩) hE);have hnb:=HO3.out.lt;obtain ⟨ys,o5,en5⟩:=(HO3.out.next en16 hal4).next en16 hal5;have EN5:Hid _:=en5;have HNB:Hid (∀ g,(Value.slice va acc.length vc).ownBlock=some g→w.heap.size≤g∧g<w3.heap.size):=hnb
    have hoz:∀ g,(Value.slice va acc.length vc).ownBlock=some g→g<w2.heap.size:=HOZ
    have HOW:Hid (∀ g,(Value.slice va acc.length vc).ownBlock=some g→g<w2.heap.size):=hoz;have hz16:Below w3.heap.size w3 w3:=Below.refl _ _;clear HS HO3 HB3 hE en5 hnb hoz hm hV hal4 hal5 hz16;go_upto_region 7 with (first | (refine wpList_store_new rfl 57 _ _ rfl z16A #[v0,v1,v2,v3,v4,v5,v6,v7,v8,v9,v10,v11,v12,v13,v14,v15] rfl rfl sz16 rfl h16 ?_))
    have q4':((w3.alloc (.cells #[v0,v1,v2,v3,v4,v5,v6,v7,v8,v9,v10,v11,v12,v13,v14,v15] 57))).heap[w3.heap.size]? = _:=q4;go_upto_region 9 with fail
    go_wp2_with (first | (refine wpList_load_row rfl 57 _ rfl w3.heap.size rfl 57 #[v0,v1,v2,v3,v4,v5,v6,v7,v8,v9,v10,v11,v12,v13,v14,v15] (0,0) _ q4 Tryz.underlying57 rfl sz16 ?_) | (at_builtin; refine wpList_append_at rfl _ _ 22 rfl w.heap.size 57 i0 _ 16 256 Tryz.underlying22 hi hj0 hj1 hj2 rfl (by decide) _ _ _ rfl o5 ⟨w3.heap.size+1,0,none⟩ 1 1 [v0,v1,v2,v3,v4,v5,v6,v7,v8,v9,v10,v11,v12,v13,v14,v15] rfl rfl ?Ac1 ?Ac2 ?Ac3 ?Ac4 ?Ac5 ?_))
    case Ac1 =>
     intro i u hu;rw [addr_addS,Nat.zero_add];exact cell_of (i:=i) q5 (by rw [← hu]; simp)
    case Ac2=>exact fun u hu=>by have:=Array.all_eq_true_iff_forall_mem.1 h16 u (by simpa using hu); exact this
    case Ac3=>unfold maxLen; omega
    case Ac4=>omega
    case Ac5=>omega
    intro v' w6 o6 g6 hd6;have z6:=g6.size;have O6:Hid (OwnE En16 57 16 w.heap.size (fun b=>w.heap.size≤b) w6 v' (acc ++ [x])):=OwnE.push en16 o5 EN5.out rfl (en16.mono (fun b h1 h2=>⟨by have:=h1.1; show w.heap.size≤b; omega,h2,fun e=>by have:=HOW.out b e; have:=h1.1; omega⟩) HX5.out) o6 g6 (by simpa using hd6);have HB6:Hid (Below w.heap.size w w6):=HB5.out.grown g6 (by omega) (fun k e=>(HNB.out k e).1);obtain ⟨va6,vc6,ev6⟩:=O6.out.len;subst ev6;have hT:(T.2:Int)+(p:Int)≤100000:=by omega
    clear o5 EN5 HX5 o6 g6 hd6 q4 q5 q4' HB5;go_wp2_with fail
    go_roundw
    case rel=>exact ⟨m,p+T.2,_,acc ++ [x],rfl,by go_num,by omega,by simp; omega,O6,HB6,HM2⟩
    case measure=>simp [RowKit.intOf]; omega
  case inr =>
   obtain rfl:p=bs.length:=by omega
   rw [Nat.sub_self] at con;clear hc;have hr0:True:=trivial;go_wp2_with fail
   refine con.mono ?_;rintro e w2 ⟨rfl,hb2⟩;have con2:=CON2.out w2 hb2;have HO2:Hid (OwnE En16 57 16 w.heap.size (fun b=>w.heap.size≤b) w2 (.slice va acc.length vc) acc):=HO.out.next en16 hb2;have hs:=HB.out.size;have HB2:Hid (Below w.heap.size w w2):=HB.out.trans (hb2.mono hs);have hs2:=hb2.size;have HOZ:∀ g,(Value.slice va acc.length vc).ownBlock=some g→g<w2.heap.size:=fun g e=>by have:=(HO.out.lt g e).2; omega
   generalize statedP T.1=r at *;clear con CON2 HO HB;go_wp2_with fail
   refine con2.mono ?_;rintro e w3 ⟨hb3,hr⟩;have hs3:=hb3.size;have HO3:Hid (OwnE En16 57 16 w.heap.size (fun b=>w.heap.size≤b) w3 (.slice va acc.length vc) acc):=HO2.out.next en16 hb3;have HB3:Hid (Below w.heap.size w w3):=HB2.out.trans (hb3.mono (by omega));clear con2 HO2 HB2;rcases r with _ | x
   case none =>
    obtain rfl:=hr;have e:M=(acc,bs.length):=HS.out.1 rfl;subst e;obtain ⟨ea,ec,ee,LE⟩:=HO3.out.ls en16 (fun _ h=>h);injection ee with e1 _ e3
    subst e1 e3;have HLE:Hid (LsE En16 16 (fun b=>w.heap.size≤b) w3 va acc):=LE;have hal4:Below w3.heap.size w3 (w3.alloc (.cells z16A 57)):=(Below.refl _ _).alloc (Nat.le_refl _) _;have HB4:Hid (Below w.heap.size w (w3.alloc (.cells z16A 57))):=HB3.out.trans (hal4.mono (by omega));have HL4:Hid (LsE En16 16 (fun b=>w.heap.size≤b) (w3.alloc (.cells z16A 57)) va acc):=HLE.out.nx en16 hal4;clear HS HO3 HB3 LE HLE hal4;go_wp2_with (first | (refine wpList_store_new rfl 57 _ _ rfl z16A z16A rfl rfl sz16 rfl (all1 rfl) ?_))
    generalize (w3.alloc (.cells z16A 57))=wE at *;exact bodyPost_ret (v:=.tuple #[.slice va acc.length vc,(.int .i64 bs.length),.int .i64 0]) (by simp [results,Tryz.results12,go_sem]) rfl (by first | exact ⟨HB4.out,va,vc,rfl,HL4.out⟩ | exact ⟨HB4.out,va,⟨vc,rfl⟩,HL4.out⟩)
   case some =>
    obtain ⟨m,rfl,hm,hsz4,hsz,hfu⟩:=HS.out.2 x rfl;omega

def tS:Stm:=⟨1,⟨#[116]⟩,[(⟨#[97]⟩,3)],qry0,[],false,sx0⟩
def aliveB:Bool:=match bytP 0 [] [tS] with
 | .ok bs=>bs.length == 30 && (recoP bs).2 == 30 && (match (recoP bs).1 with | [x]=>x.name.data.toList == [116] | _=>false)
 | .error _=>false
theorem aliveB_true:aliveB=true:=by decide +kernel
theorem alive16:∃ bs x,bytP 0 [] [tS] = .ok bs∧bs.length=30∧(recoP bs).1 = [x]∧(recoP bs).2=30∧x.name=⟨#[116]⟩:=by
 have h:=aliveB_true;unfold aliveB at h;cases e:bytP 0 [] [tS] with
 | error c=>rw [e] at h; cases h
 | ok bs =>
  rw [e] at h;simp only [Bool.and_eq_true,beq_iff_eq] at h;cases e2:(recoP bs).1 with
  | nil=>rw [e2] at h; exact absurd h.2 (by decide)
  | cons x r =>
   rw [e2] at h;cases r with
   | nil=>exact ⟨bs,x,rfl,h.1.1,e2,h.1.2,ByteArray.ext (Array.ext' (by simpa using h.2))⟩
   | cons y r=>exact absurd h.2 (by simp)
theorem table_at {w:World}:Calls Tryz.prog 22 #[.string ⟨#[116]⟩] w fun e w'=>Below w.heap.size w w'∧∃ V:Array Value,e = .returned (.agg V)∧En16 (fun b=>w.heap.size≤b) w' tS V.toList:=by
 have hal1:Below w.heap.size w (w.alloc (.cells z16A 57)):=(Below.refl _ _).alloc (Nat.le_refl _) _;have Q1:=heap_new w z16A 57;have e1:(w.alloc (.cells z16A 57)).heap.size=w.heap.size+1:=by simp
 have hal2:Below (w.alloc (.cells z16A 57)).heap.size (w.alloc (.cells z16A 57)) ((w.alloc (.cells z16A 57)).alloc (.cells #[.string ⟨#[97]⟩,.int .i64 3] 69)):=(Below.refl _ _).alloc (Nat.le_refl _) _;have Q2:=heap_new (w.alloc (.cells z16A 57)) #[.string ⟨#[97]⟩,.int .i64 3] 69;have Q1':=(hal2.block _ (lt_of_heap Q1)).trans Q1;rw [e1] at Q2;have hb2:=hal1.trans (hal2.mono (by omega));clear hal1 hal2 Q1 e1;go_enter Tryz.func22,Tryz.ntmps22
 go_wp2_with (first | (refine wpList_store_row rfl 57 _ _ rfl w.heap.size #[.int .i64 1,.string ⟨#[116]⟩,.slice (some ⟨w.heap.size+1,0,none⟩) 1 1,.slice none 0 0,.slice none 0 0,.slice none 0 0,.int .i64 0,.slice none 0 0,.bool false,.int .i64 0,.int .i64 0,.int .i64 0,.string ⟨#[]⟩,.string ⟨#[]⟩,.string ⟨#[]⟩,.slice none 0 0] rfl rfl 57 z16A Q1' sz16 rfl (all1 rfl) ?_))
 generalize ((w.alloc (.cells z16A 57)).alloc (.cells #[.string ⟨#[97]⟩,.int .i64 3] 69))=w2 at *;have QE:=setRow_heap w2 w.heap.size z16A #[.int .i64 1,.string ⟨#[116]⟩,.slice (some ⟨w.heap.size+1,0,none⟩) 1 1,.slice none 0 0,.slice none 0 0,.slice none 0 0,.int .i64 0,.slice none 0 0,.bool false,.int .i64 0,.int .i64 0,.int .i64 0,.string ⟨#[]⟩,.string ⟨#[]⟩,.string ⟨#[]⟩,.slice none 0 0] _ _ Q1'
 have hbE:=below_setRow hb2 (Nat.le_refl _) #[.int .i64 1,.string ⟨#[116]⟩,.slice (some ⟨w.heap.size+1,0,none⟩) 1 1,.slice none 0 0,.slice none 0 0,.slice none 0 0,.int .i64 0,.slice none 0 0,.bool false,.int .i64 0,.int .i64 0,.int .i64 0,.string ⟨#[]⟩,.string ⟨#[]⟩,.string ⟨#[]⟩,.slice none 0 0]
 have Q2E:=(setRow_other w2 w.heap.size (w.heap.size+1) #[.int .i64 1,.string ⟨#[116]⟩,.slice (some ⟨w.heap.size+1,0,none⟩) 1 1,.slice none 0 0,.slice none 0 0,.slice none 0 0,.int .i64 0,.slice none 0 0,.bool false,.int .i64 0,.int .i64 0,.int .i64 0,.string ⟨#[]⟩,.string ⟨#[]⟩,.string ⟨#[]⟩,.slice none 0 0] (by omega)).trans Q2
 generalize w2.setRow w.heap.size #[.int .i64 1,.string ⟨#[116]⟩,.slice (some ⟨w.heap.size+1,0,none⟩) 1 1,.slice none 0 0,.slice none 0 0,.slice none 0 0,.int .i64 0,.slice none 0 0,.bool false,.int .i64 0,.int .i64 0,.int .i64 0,.string ⟨#[]⟩,.string ⟨#[]⟩,.string ⟨#[]⟩,.slice none 0 0]=wE at *;refine bodyPost_ret (results_cell_row Tryz.results22 _ _ _ _ _ _ _ rfl QE Tryz.underlying57 rfl sz16) rfl ⟨hbE,_,rfl,some ⟨w.heap.size+1,0,none⟩,1,none,0,none,0,none,0,none,0,none,0,rfl,?_,.inl rfl,.inl rfl,.inl rfl,.inl rfl,SsS.nil _⟩
 refine .inr ⟨w.heap.size+1,0,rfl,Nat.le_succ _,lt_of_heap Q2E,fun i hi=>?_⟩;obtain rfl:i=0:=by have:i<1:=hi; omega
 refine ⟨[.string ⟨#[97]⟩,.int .i64 3],rfl,fun j u hu=>?_,rfl⟩;have:=cell_of (i:=j) (v:=u) Q2E (by simpa using hu)
 simpa using this
theorem LsE.one16 {w:World} {x:Stm} {S:Nat→Prop} {V:Array Value} (hV:V.size=16) (h:En16 S w x V.toList) {T:TypeId}:LsE En16 16 (fun b=>S b∨w.heap.size≤b) (w.alloc (.cells V T)) (some ⟨w.heap.size,0,none⟩) [x]:=by
 have hal:Below w.heap.size w (w.alloc (.cells V T)):=(Below.refl _ _).alloc (Nat.le_refl _) _;have Q:=heap_new w V T;refine .inr ⟨w.heap.size,0,rfl,.inr (Nat.le_refl _),lt_of_heap Q,fun i hi=>?_⟩;obtain rfl:i=0:=by have:i<1:=hi; omega
 refine ⟨V.toList,by simpa using hV,fun j u hu=>?_,en16.mono (fun b hb _=>.inl hb) (en16.next (Keeps'.of hal) h)⟩;have:=cell_of (i:=j) (v:=u) Q (by simpa using hu)
 simpa using this
theorem alive_at16 {w:World} (hG:GP w w.heap.size):Calls Tryz.prog 9 #[] w fun e w'=>Below w.heap.size w w'∧e = .returned (.bool true):=by
 obtain ⟨bs,x,hb1,hb2,hr1,hr2,hx⟩:=alive16;have con0:=table_at (w:=w);have HG:Hid (GP w w.heap.size):=hG;have HB1:Hid (bytP 0 [] [tS] = .ok bs):=hb1;have HB2:Hid (bs.length=30):=hb2;have HR1:Hid ((recoP bs).1 = [x]):=hr1;have HR2:Hid ((recoP bs).2=30):=hr2;have HX:Hid (x.name=⟨#[116]⟩):=hx;clear hG hb1 hb2 hr1 hr2 hx;go_enter Tryz.func9,Tryz.ntmps9;go_wp2_with fail
 refine con0.mono ?_;rintro e w1 ⟨hb1,V,rfl,hE⟩;obtain ⟨hV,h16⟩:=En16.size hE;obtain ⟨v0,v1,v2,v3,v4,v5,v6,v7,v8,v9,v10,v11,v12,v13,v14,v15,rfl⟩:=arr16 hV;have hal2:Below w1.heap.size w1 (w1.alloc (.cells #[v0,v1,v2,v3,v4,v5,v6,v7,v8,v9,v10,v11,v12,v13,v14,v15] 57)):=(Below.refl _ _).alloc (Nat.le_refl _) _;have L2:=LsE.one16 (T:=57) hV hE;have hw1:=hb1.size;have hw2:w1.heap.size<(w1.alloc (.cells #[v0,v1,v2,v3,v4,v5,v6,v7,v8,v9,v10,v11,v12,v13,v14,v15] 57)).heap.size:=by simp
 have hB2:=hb1.trans (hal2.mono hw1);have con1:=Bytes_at [tS] (some ⟨w1.heap.size,0,none⟩) 1 (HG.out.up hB2 (Nat.le_refl _) (by omega)) (by decide) (LsE.mono en16 (fun b _ h=>h) L2);rw [HB1.out] at con1;have HB:Hid (Below w.heap.size w (w1.alloc (.cells #[v0,v1,v2,v3,v4,v5,v6,v7,v8,v9,v10,v11,v12,v13,v14,v15] 57))):=hB2;clear con0 hb1 hE h16 hal2 L2 hB2;go_wp2_with fail
 generalize (w1.alloc (.cells #[v0,v1,v2,v3,v4,v5,v6,v7,v8,v9,v10,v11,v12,v13,v14,v15] 57))=w2 at *;refine con1.mono ?_;rintro e w3 ⟨hb3,a,c,rfl,LB,hc⟩;have hw2:=HB.out.size;have hal4:Below w3.heap.size w3 (w3.alloc (.cells #[.int .i64 0,.int .i64 0] 27)):=(Below.refl _ _).alloc (Nat.le_refl _) _;have QF:=heap_new w3 #[.int .i64 0,.int .i64 0] 27;have hw3:=hb3.size;have hw4:=lt_of_heap QF;have hB4:=HB.out.trans ((chain hb3 hal4).mono hw2);have HB4:Hid (Below w.heap.size w (w3.alloc (.cells #[.int .i64 0,.int .i64 0] 27))):=hB4;obtain ⟨b,off,rfl,_⟩:=LB.getU (i:=0) (by rw [HB2.out]; decide)
 have con2:=Recover_at bs b off c (HG.out.up hB4 (Nat.le_refl _) (by have:=hB4.size; omega)) ((LB.keep enU (Keeps'.of hal4)).mono enU (fun _ _ h=>h)) hc (by rw [HB2.out]; decide);rw [HB2.out] at con2;have hlen:=HB2.out;rw [HR1.out,HR2.out] at con2;clear con1 hb3 LB hc hal4 hB4 HB;go_upto_region 2 with fail
 generalize (w3.alloc (.cells #[.int .i64 0,.int .i64 0] 27))=w4 at *;go_wp2_with fail
 refine con2.mono ?_;rintro e w5 ⟨hb5,a5,c5,rfl,L5⟩;have QF5:=(hb5.block _ hw4).trans QF;obtain ⟨f0,f1⟩:=cells2 QF5;obtain ⟨b5,o5,rfl,V5,hV5,hR5,hE5⟩:=L5.mid;have hn:w5.cell? ⟨b5,o5+1,none⟩=some (.string ⟨#[116]⟩):=by
  obtain ⟨a1,c1,p1,d1,p2,d2,p3,d3,a2,c2,a3,c3,e,_⟩:=hE5;have:=hR5 1 (.string x.name) (by rw [e]; rfl)
  rwa [HX.out] at this
 have hB5:=HB4.out.trans (hb5.mono HB4.out.size);clear con2 QF5 QF L5 hR5 hE5 hb5 hlen;go_wp2_with fail
 go_ret;exact ⟨hB5,rfl⟩
set_option maxHeartbeats 4000000

/-- All cells of a list. -/
theorem LsE.flat {α:Type} {En:EnT α} {size:Nat} {S:Nat→Prop} {W:World} {b off:Nat} {l:List α} (h:∀ (i:Nat) (h:i<l.length),∃ cs,cs.length=size∧(∀ j u,cs[j]? = some u→W.cell? ⟨b,off+i*size+j,none⟩=some u)∧En S W l[i] cs) :
  ∀ k,k≤l.length→∃ news:List Value,news.length=k*size∧(∀ j u,news[j]? = some u→W.cell? ⟨b,off+j,none⟩=some u)∧∀ (i:Nat) (_:i<k) (h:i<l.length),∃ cs,cs.length=size∧(∀ j,j<size→news[i*size+j]? = cs[j]?)∧En S W l[i] cs
 | 0,_=>⟨[],by simp,by simp,fun i hi=>by omega⟩
 | k+1,hk=>by
  obtain ⟨news,h1,h2,h3⟩:=LsE.flat h k (by omega)
  obtain ⟨cs,c1,c2,c3⟩:=h k (by omega)
  refine ⟨news ++ cs,by rw [List.length_append,h1,c1,Nat.add_mul,Nat.one_mul],fun j u hj=>?_,fun i hi hl=>?_⟩
  ·by_cases hlt:j<news.length
   ·rw [List.getElem?_append_left hlt] at hj; exact h2 j u hj
   ·rw [List.getElem?_append_right (by omega)] at hj
    have:=c2 _ u hj
    rwa [show off+k*size+(j - news.length)=off+j by omega] at this
  ·by_cases hlt:i<k
   ·obtain ⟨c,d1,d2,d3⟩:=h3 i hlt hl
    refine ⟨c,d1,fun j hj=>?_,d3⟩
    rw [List.getElem?_append_left (by rw [h1]; have:(i+1)*size≤k*size:=Nat.mul_le_mul_right _ hlt; rw [Nat.add_mul,Nat.one_mul] at this; omega)]
    exact d2 j hj
   ·obtain rfl:i=k:=by omega
    refine ⟨cs,c1,fun j hj=>?_,c3⟩
    rw [List.getElem?_append_right (by omega),h1]
    congr 1
    omega
/-- Many more. -/
theorem OwnE.pushAll {α:Type} {En:EnT α} (ok:EnOk En) {e size base:Nat} {S:Nat→Prop} {W W1:World} {v v':Value} {l l2:List α} {xs news:List Value}
  (h1:W.ownsRow base e size v l.length xs) (h2:∀ (i:Nat) (h:i<l.length),∃ cs,cs.length=size∧(∀ j,j<size→xs[i*size+j]? = cs[j]?)∧En (SXb S v W) W l[i] cs)
  (hn:∀ (i:Nat) (h:i<l2.length),∃ cs,cs.length=size∧(∀ j,j<size→news[i*size+j]? = cs[j]?)∧En (SXb S v W) W l2[i] cs) (ho:W1.ownsRow base e size v' (l.length+l2.length) (xs ++ news)) (hg:W.grownBy W1 v.ownBlock) (hd:v'.ownBlock=v.ownBlock∨v'.ownBlock=some W.heap.size):OwnE En e size base S W1 v' (l ++ l2):=by
 have hk:Keeps' (SXb S v W) W W1:=⟨hg.size,fun b hb hl=>hg.block b hl (fun e=>hb.2.2 e.symm)⟩
 have mv:∀ {x:α} {cs:List Value},En (SXb S v W) W x cs→En (SXb S v' W1) W1 x cs:=fun h =>
  ok.mono (fun b hb _=>⟨hb.1,Nat.lt_of_lt_of_le hb.2.1 hg.size,fun e=>by
   rcases hd with hd | hd
   ·exact hb.2.2 (hd ▸ e)
   ·rw [hd] at e;have e:=Option.some.inj e;have:=hb.2.1;omega⟩) (ok.next hk h)
 have hx:xs.length=l.length*size:=h1.1;refine ⟨xs ++ news,by rw [List.length_append]; exact ho,fun i hi=>?_⟩;by_cases hi':i<l.length
 ·obtain ⟨c,c1,c2,c3⟩:=h2 i hi';refine ⟨c,c1,fun j hj=>?_,by rw [List.getElem_append_left hi']; exact mv c3⟩;rw [List.getElem?_append_left (by rw [hx]; have:(i+1)*size≤l.length*size:=Nat.mul_le_mul_right _ hi'; rw [Nat.add_mul,Nat.one_mul] at this; omega)];exact c2 j hj
 ·obtain ⟨c,c1,c2,c3⟩:=hn (i - l.length) (by rw [List.length_append] at hi; omega);refine ⟨c,c1,fun j hj=>?_,by rw [List.getElem_append_right (by omega)]; exact mv c3⟩;rw [List.getElem?_append_right (by rw [hx]; have:l.length*size≤i*size:=Nat.mul_le_mul_right _ (by omega); omega),hx,← c2 j hj]
  congr 1
  rw [Nat.sub_mul];have:l.length*size≤i*size:=Nat.mul_le_mul_right _ (by omega);omega
theorem en16_one {S:Nat→Prop} {W:World} {x:Stm} {cs:List Value} (h:En16 S W x cs):∀ u ∈ cs,u.oneCell'=true:=by
 obtain ⟨a1,c1,p1,d1,p2,d2,p3,d3,a2,c2,a3,c3,rfl,_⟩:=h;simp [Value.oneCell']
theorem mem_flat {size:Nat} {news:List Value} {k:Nat} (hl:news.length=k*size) {P:Value→Prop} (h:∀ i,i<k→∃ cs:List Value,cs.length=size∧(∀ j,j<size→news[i*size+j]? = cs[j]?)∧∀ u ∈ cs,P u):∀ u ∈ news,P u:=by
 intro u hu;obtain ⟨n,hn,rfl⟩:=List.getElem_of_mem hu;have hs:0<size:=by
  rcases Nat.eq_zero_or_pos size with e | e
  ·subst e; omega
  ·exact e
 have hi:n / size<k:=Nat.div_lt_of_lt_mul (by rw [Nat.mul_comm]; omega);obtain ⟨cs,h1,h2,h3⟩:=h (n / size) hi;have hm:=Nat.mod_lt n hs;have e:n / size*size+n % size=n:=by rw [Nat.mul_comm]; exact Nat.div_add_mod n size
 have:=h2 (n % size) hm;rw [e,List.getElem?_eq_getElem hn,List.getElem?_eq_getElem (by omega)] at this;rw [Option.some.inj this];exact h3 _ (List.getElem_mem _)

theorem enU_one {S:Nat→Prop} {W:World} {x:UInt8} {cs:List Value} (h:EnU S W x cs):∀ u ∈ cs,u.oneCell'=true:=by
 cases (show cs=_ from h);intro u hu;rw [List.mem_singleton] at hu;subst hu; rfl
/-- Lists of any elements, appended. -/
theorem wpList_append_any {α:Type} {En:EnT α} (ok:EnOk En) (one:∀ {S:Nat→Prop} {W:World} {x:α} {cs:List Value},En S W x cs→∀ u ∈ cs,u.oneCell'=true) {ops:Array Oper} {rest:List Oper} {w:World} {o:Oper} {a:Act} {Q:Exit→Act→World→Prop} (hw:Region.wanted o (yielded ops a.tmps)=true)
  (st e:TypeId) (i0:TypeInfo) (z:Value) (size bytes:Nat) (hu:Tryz.prog.underlying st=some (.slice e)) (hi:Tryz.prog.info? e=some i0) (hj0:i0.zero=some z) (hj1:i0.size=size) (hj2:i0.bytes=bytes) (hzs:z.cells.size=size) (hsz:0<size) (s x:Operand)
  (ho:o.op = .call { callee:=.builtin .append,args:=#[s,x],argTypes:=#[st,st] })
  {base B:Nat} {v:Value} {l1 l2:List α} (hs:a.eval s=v) (h1:OwnE En e size base (fun _=>True) w v l1) {k:Nat} (hv:v.ownBlock=some k) (hB:B≤k) {ad:Option Addr} {c:Nat} (hx:a.eval x = .slice ad l2.length c) (h2:LsE En size (fun b=>b<B) w ad l2) (hn:l1.length+l2.length≤4000000) (hby:bytes≤1000) (hbase:base≤w.heap.size)
  (h:∀ v' w',OwnE En e size base (fun _=>True) w' v' (l1 ++ l2)→w.grownBy w' v.ownBlock→(v'.ownBlock=v.ownBlock∨v'.ownBlock=some w.heap.size)→wpList Tryz.prog ops Q rest (a.put o.dst v') w'):wpList Tryz.prog ops Q (o :: rest) a w:=by
 have hmul:(l1.length+l2.length)*bytes≤4000000*1000:=Nat.mul_le_mul hn hby;rcases h2 with rfl | ⟨b,off,rfl,h3,h4,h5⟩
 ·refine wpList_step fun K hK=>?_
  rw [if_pos hw];obtain ⟨g,cap,cur,rfl,hcap⟩:∃ g cap cur,v = .slice (some ⟨g,0,none⟩) l1.length cap∧w.heap[g]? = some (.cells cur e (0,0))∧l1.length≤cap:=by
   obtain ⟨xs,⟨_,⟨e,_⟩ | ⟨g,cap,cur,e,_,q,hc,_⟩⟩,_⟩:=h1
   ·subst e; simp [Value.ownBlock] at hv
   ·exact ⟨g,cap,cur,e,q,hc⟩
  have src:_root_.Go.Src Tryz.prog i0.size st (.slice ad 0 c) 0 [] w:=by
   rcases ad with _ | ad
   ·exact _root_.Go.Src.ofNil w hu c
   ·exact _root_.Go.Src.ofSlice w hu ad 0 c [] (by simp) (by simp) (by simp)
  rw [List.length_nil] at hx;have hr:=run_append_room_src (P:=Tryz.prog) (w:=w) st st o.type e i0 hu hi g 0 l1.length cap _ 0 [] src (by omega) (by simp) (by simp);have hset:w.setCells g (0+l1.length*i0.size) []=w:=by simp [World.setCells]
  rw [hset,Nat.add_zero] at hr;unfold Oper.wp;simp [execOp,ho,resolve,invoke,builtin,hs,hx,hr,Result.andThen];exact hK _ _ (h _ _ (by rw [List.append_nil]; exact h1) ⟨rfl,rfl,rfl,Nat.le_refl _,fun _ _ _=>rfl⟩ (.inl rfl))
 ·obtain ⟨xs,o1,o2⟩:=h1;obtain ⟨news,n1,n2,n3⟩:=LsE.flat h5 l2.length (Nat.le_refl _);refine wpList_step fun K hK=>?_
  rw [if_pos hw];refine wp_append_at s x st ho base e i0 _ size bytes hu hi hj0 hj1 hj2 hzs hsz v l1.length xs hs o1 ⟨b,off,none⟩ l2.length c news hx n1 (fun j u hj=>by rw [addr_addS]; exact n2 j u hj) (mem_flat n1 fun i hi=>?_) (by unfold maxLen; omega) (by omega) hbase ?_
  ·obtain ⟨cs,c1,c2,c3⟩:=n3 i hi hi;exact ⟨cs,c1,c2,one c3⟩
  ·intro v' w' ho' hg hd;refine hK _ _ (h v' w' (OwnE.pushAll ok o1 o2 (fun i hi=>?_) ho' hg hd) hg hd);obtain ⟨cs,c1,c2,c3⟩:=n3 i hi hi;exact ⟨cs,c1,c2,ok.mono (fun b hb hl=>⟨trivial,hl,by rw [hv]; intro e; have:=Option.some.inj e; have:b<B:=hb; omega⟩) c3⟩
theorem LsE.lowA {α:Type} {En:EnT α} (ok:EnOk En) {size:Nat} {S:Nat→Prop} {W:World} {a:Option Addr} {l:List α} (h:LsE En size S W a l):LsE En size (fun b=>b<W.heap.size) W a l:=LsE.mono ok (fun _ _ h=>h) h
theorem LsE.grownA {α:Type} {En:EnT α} (ok:EnOk En) {size B:Nat} {W W':World} {o:Option Nat} {a:Option Addr} {l:List α} (h:LsE En size (fun b=>b<B) W a l) (hg:W.grownBy W' o) (hB:∀ k,o=some k→B≤k):LsE En size (fun b=>b<B) W' a l :=
 LsE.keep ok ⟨hg.size,fun b hb hl=>hg.block b hl (fun e=>by have:=hB b e.symm; have:b<B:=hb; omega)⟩ h
/-- Are bytes the same? -/
theorem same_atB (x y:List UInt8) (a b:Option Addr) (c d:Nat) (S:Nat→Prop) {w:World} (hx:LsE EnU 1 S w a x) (hy:LsE EnU 1 S w b y) (hn:x.length≤1099511627776) (_hm:y.length≤1099511627776):Calls Tryz.prog 11 #[.slice a x.length c,.slice b y.length d] w fun e w'=>e = .returned (.bool (decide (x=y)))∧Below w.heap.size w w':=by
 generalize hR:decide (x=y)=R;by_cases hl:x.length=y.length
 case neg =>
  have e:R=false:=by rw [← hR,decide_eq_false_iff_not]; exact fun e=>hl (by rw [e])
  subst e;have hz:((x.length:Int) != (y.length:Int))=true:=by rw [bne_iff_ne]; omega
  clear hl hR;go_enter Tryz.func11,Tryz.ntmps11;go_wp2_with fail
  go_ret;exact ⟨rfl,Below.refl _ _⟩
 case pos =>
  have hz:((x.length:Int) != (y.length:Int))=false:=by rw [bne_eq_false_iff_eq,hl]
  have HR:Hid (decide (x.drop 0=y.drop 0)=R):=hR;have HX:Hid (LsE EnU 1 S w a x):=hx;have HY:Hid (LsE EnU 1 S w b y):=hy;have HL:Hid (x.length=y.length):=hl;clear hl hR hx hy;go_enter Tryz.func11,Tryz.ntmps11;go_wp2_with fail
  go_loopw [13] (fun iv wr=>∃ j:Nat,j≤x.length∧iv = .int .i64 j∧Hid (decide (x.drop j=y.drop j)=R)∧Below w.heap.size w wr) (fun iv _=>x.length - (RowKit.intOf iv).toNat)
  case atStart=>exact ⟨0,Nat.zero_le _,rfl,HR,Below.refl _ _⟩
  case round =>
   obtain ⟨j,hj,rfl,HK,hB⟩:=hrel;by_cases hlt:j<x.length
   ·have hjz:(j:Int)<(x.length:Int):=by omega
    have hlt2:j<y.length:=by rw [← HL.out]; exact hlt
    have hjz2:(j:Int)<(y.length:Int):=by omega
    obtain ⟨b1,o1,rfl,y1⟩:=(HX.out.keep enU (Keeps'.of hB)).getU hlt;obtain ⟨b2,o2,rfl,y2⟩:=(HY.out.keep enU (Keeps'.of hB)).getU hlt2;have hK:=HK.out;rw [List.drop_eq_getElem_cons hlt,List.drop_eq_getElem_cons hlt2] at hK;generalize x[j]=p at *;generalize y[j]=q at *;have y1d:wr.drew.cell? ⟨b1,o1+j,none⟩=_:=y1;have y2d:wr.drew.cell? ⟨b2,o2+j,none⟩=_:=y2;by_cases e:p=q
    ·subst e;have HK2:Hid (decide (x.drop (j+1)=y.drop (j+1))=R):=by
      show _=_;rw [← hK];simp
     have hpz:(((p.toNat:Nat):Int) != ((p.toNat:Nat):Int))=false:=by rw [bne_eq_false_iff_eq]
     clear HK hK hz;go_upto_region 6 with fail
     go_region
     go_wp2_with fail
     go_roundw
     case rel=>exact ⟨j+1,by omega,by go_num,HK2,hB.drew⟩
     case measure=>simp [RowKit.intOf]; omega
    ·have e2:R=false:=by rw [← hK,decide_eq_false_iff_not]; intro c; injection c with c1 _; exact e c1
     subst e2;have hpz:(((p.toNat:Nat):Int) != ((q.toNat:Nat):Int))=true:=by
      rw [bne_iff_ne];intro c;exact e (UInt8.toNat_inj.1 (by omega))
     clear HK hK hz e;go_upto_region 6 with fail
     go_region
     go_wp2_with fail
     go_ret;exact ⟨rfl,hB.drew⟩
   ·have hjz:¬ (j:Int)<(x.length:Int):=by omega
    have e2:R=true:=by rw [← HK.out,List.drop_of_length_le (by omega),List.drop_of_length_le (by have:=HL.out; omega)]; rfl
    subst e2;clear HK hz;go_wp2_with fail
    go_ret;exact ⟨rfl,hB⟩

theorem bytP_move:∀ (l:List Stm) (i j:Nat) (acc0 acc r:List UInt8),bytP i acc0 l = .ok r→∃ s,r=acc0 ++ s∧(bytP j acc l = .ok (acc ++ s)∨∃ k:Int,bytP j acc l = .error (4,k))
 | [],i,j,acc0,acc,r,h=>by
  rw [bytP] at h
  cases h
  exact ⟨[],by simp,.inl (by rw [bytP]; simp)⟩
 | x :: l,i,j,acc0,acc,r,h=>by
  rw [bytP] at h
  by_cases e:(prnP [x]).2.1≠0
  ·rw [if_pos e] at h; cases h
  ·rw [if_neg e] at h
   by_cases hb:100000<(acc0 ++ recB (prnP [x]).1).length
   ·rw [if_pos hb] at h; cases h
   ·rw [if_neg hb] at h
    obtain ⟨s,h1,h2⟩:=bytP_move l (i+1) (j+1) _ (acc ++ recB (prnP [x]).1) r h
    refine ⟨recB (prnP [x]).1 ++ s,by rw [h1,List.append_assoc],?_⟩
    rw [bytP,if_neg e]
    by_cases hb2:100000<(acc ++ recB (prnP [x]).1).length
    ·rw [if_pos hb2]; exact .inr ⟨_,rfl⟩
    ·rw [if_neg hb2,← List.append_assoc]; exact h2
theorem bytP_app:∀ (l m:List Stm) (i:Nat) (acc:List UInt8),bytP i acc (l ++ m)=match bytP i acc l with | .ok r=>bytP (i+l.length) r m | .error e=>.error e
 | [],m,i,acc=>by rw [bytP]; rfl
 | x :: l,m,i,acc=>by
  rw [List.cons_append,bytP,bytP]
  by_cases e:(prnP [x]).2.1≠0
  ·rw [if_pos e,if_pos e]
  ·rw [if_neg e,if_neg e]
   by_cases hb:100000<(acc ++ recB (prnP [x]).1).length
   ·rw [if_pos hb,if_pos hb]
   ·rw [if_neg hb,if_neg hb,bytP_app l m (i+1),List.length_cons,show i+1+l.length=i+(l.length+1) by omega]
theorem bytP_err:∀ (l:List Stm) (i:Nat) (acc:List UInt8) {e:Er},bytP i acc l = .error e→e.1≠0
 | [],i,acc,e,h=>by rw [bytP] at h; cases h
 | x :: l,i,acc,e,h=>by
  rw [bytP] at h
  by_cases e1:(prnP [x]).2.1≠0
  ·rw [if_pos e1] at h; cases h; exact e1
  ·rw [if_neg e1] at h
   by_cases hb:100000<(acc ++ recB (prnP [x]).1).length
   ·rw [if_pos hb] at h; cases h; exact (by decide:¬ (4:Int)=0)
   ·rw [if_neg hb] at h; exact bytP_err l _ _ h
theorem bytP_len:∀ (l:List Stm) (i:Nat) (acc:List UInt8) {r:List UInt8},acc.length≤100000→bytP i acc l = .ok r→r.length≤100000
 | [],i,acc,r,ha,h=>by rw [bytP] at h; cases h; exact ha
 | x :: l,i,acc,r,ha,h=>by
  rw [bytP] at h
  by_cases e1:(prnP [x]).2.1≠0
  ·rw [if_pos e1] at h; cases h
  ·rw [if_neg e1] at h
   by_cases hb:100000<(acc ++ recB (prnP [x]).1).length
   ·rw [if_pos hb] at h; cases h
   ·rw [if_neg hb] at h; exact bytP_len l _ _ (by omega) h
def bysO (r:Except Er (List UInt8)):List UInt8:=match r with | .ok b=>b | .error _=>[]
def errO (r:Except Er (List UInt8)):Er:=match r with | .ok _=>(0,0) | .error e=>e
theorem BytEnds.all {w:World} {r:Except Er (List UInt8)} {e:Ending} {w':World} (h:BytEnds w r e w'):Below w.heap.size w w'∧∃ a cap,e = .returned (.tuple #[.slice a (bysO r).length cap,.agg #[.int .i64 (errO r).1,.int .i64 (errO r).2]])∧LsE EnU 1 (fun b=>w.heap.size≤b) w' a (bysO r)∧(bysO r).length≤cap:=by
 obtain ⟨h1,h2⟩:=h;rcases r with c | bs
 ·exact ⟨h1,none,0,h2,.inl rfl,Nat.le_refl _⟩
 ·exact ⟨h1,h2⟩
/-- What the law asks. -/
theorem bytes_join (l m:List Stm):((errO (bytP 0 [] l)).1≠0)∨((errO (bytP 0 [] l)).1=0∧(errO (bytP 0 [] m)).1≠0)∨((errO (bytP 0 [] l)).1=0∧(errO (bytP 0 [] m)).1=0∧(errO (bytP 0 [] (l ++ m))).1=4)∨((errO (bytP 0 [] l)).1=0∧(errO (bytP 0 [] m)).1=0∧(errO (bytP 0 [] (l ++ m))).1=0∧bysO (bytP 0 [] (l ++ m))=bysO (bytP 0 [] l) ++ bysO (bytP 0 [] m)):=by
 cases ha:bytP 0 [] l with
 | error e=>exact .inl (bytP_err l _ _ ha)
 | ok r =>
  cases hb:bytP 0 [] m with
  | error e=>exact .inr (.inl ⟨rfl,bytP_err m _ _ hb⟩)
  | ok r2 =>
   obtain ⟨s,h1,h2⟩:=bytP_move m 0 (0+l.length) [] r r2 hb;have h3:=bytP_app l m 0 [];rw [ha] at h3;rcases h2 with h2 | ⟨k,h2⟩
   ·refine .inr (.inr (.inr ⟨rfl,rfl,?_,?_⟩))
    ·rw [h3]; show (errO (bytP (0+l.length) r m)).1=0; rw [h2]; rfl
    ·rw [h3]; show bysO (bytP (0+l.length) r m)=_; rw [h2,h1]; rfl
   ·refine .inr (.inr (.inl ⟨rfl,rfl,?_⟩));rw [h3]; show (errO (bytP (0+l.length) r m)).1=4; rw [h2]; rfl
theorem bysO_len (l:List Stm):(bysO (bytP 0 [] l)).length≤100000:=by
 cases h:bytP 0 [] l with
 | error e=>exact Nat.zero_le _
 | ok r=>exact bytP_len l 0 [] (Nat.zero_le _) h
theorem journalJoined_at (l m:List Stm) (a b:Option Addr) (ca cb:Nat) {w:World} (hG:GP w w.heap.size) (hn:l.length+m.length≤4000000) (hl:LsE En16 16 (fun b=>b<w.heap.size) w a l) (hm:LsE En16 16 (fun b=>b<w.heap.size) w b m):Calls Tryz.prog 3 #[.slice a l.length ca,.slice b m.length cb] w fun e w'=>e = .returned (.bool true)∧Below w.heap.size w w':=by
 obtain ⟨i0,hi,hj0,hj1,hj2⟩:=info_parts infoT;obtain ⟨k0,hk,hk0,hk1,hk2⟩:=info_parts infoB;have con0:=alive_at16 hG;have HJ:Hid _:=bytes_join l m;have HA:Hid _:=bysO_len l;have HM:Hid _:=bysO_len m;have HC:Hid _:=bysO_len (l ++ m);have HG:Hid (GP w w.heap.size):=hG;have L0:Hid (LsE En16 16 (fun b=>b<w.heap.size) w a l):=hl;have M0:Hid (LsE En16 16 (fun b=>b<w.heap.size) w b m):=hm;have HN:Hid (l.length+m.length≤4000000):=hn;clear hl hm hG hn;go_enter Tryz.func3,Tryz.ntmps3;go_wp2_with fail
 refine con0.mono ?_;rintro e w1 ⟨hb1,rfl⟩;have low:∀ {W:World} {a:Option Addr} {l:List Stm},Below w.heap.size w W→LsE En16 16 (fun b=>b<w.heap.size) w a l→LsE En16 16 (fun b=>b<W.heap.size) W a l:=fun hb h=>LsE.mono en16 (fun b h _=>by have:b<w.heap.size:=h; have:=hb.size; show b<_; omega) (h.nx en16 hb)
 have gup:∀ {W:World},Below w.heap.size w W→GP W W.heap.size:=fun hb=>HG.out.up hb (Nat.le_refl _) hb.size
 have con1:=Bytes_at l a ca (gup hb1) (by have:=HN.out; omega) (low hb1 L0.out);have HB1:Hid (Below w.heap.size w w1):=hb1;generalize bytP 0 [] l=A at *;clear con0 hb1;go_wp2_with fail
 refine con1.mono ?_;rintro e w2 hE;obtain ⟨hb2,aA,cA,rfl,LA,hcA⟩:=hE.all;clear hE con1 hcA;have hal3:Below w2.heap.size w2 (w2.alloc (.cells #[.int .i64 (errO A).1,.int .i64 (errO A).2] 27)):=(Below.refl _ _).alloc (Nat.le_refl _) _;have QA:=heap_new w2 #[.int .i64 (errO A).1,.int .i64 (errO A).2] 27;have hb3:=chain hb2 hal3;have hB3:=HB1.out.trans (hb3.mono HB1.out.size);have HB3:Hid (Below w.heap.size w (w2.alloc (.cells #[.int .i64 (errO A).1,.int .i64 (errO A).2] 27))):=hB3
 have LA3:Hid (LsE EnU 1 (fun b=>w1.heap.size≤b) (w2.alloc (.cells #[.int .i64 (errO A).1,.int .i64 (errO A).2] 27)) aA (bysO A)):=LA.keep enU (Keeps'.of hal3);have con2:=Bytes_at m b cb (gup hB3) (by have:=HN.out; omega) (low hB3 M0.out);generalize bytP 0 [] m=B at *;clear LA hal3 hb2 hb3 hB3 HB1;go_upto_region 4 with fail
 generalize (w2.alloc (.cells #[.int .i64 (errO A).1,.int .i64 (errO A).2] 27))=w3 at *;go_wp2_with fail
 refine con2.mono ?_;rintro e w4 hE;obtain ⟨hb4,aB,cB,rfl,LB,hcB⟩:=hE.all;clear hE con2 hcB;have hal5:Below w4.heap.size w4 (w4.alloc (.cells #[.int .i64 (errO B).1,.int .i64 (errO B).2] 27)):=(Below.refl _ _).alloc (Nat.le_refl _) _;have QB:=heap_new w4 #[.int .i64 (errO B).1,.int .i64 (errO B).2] 27;have hb5:=chain hb4 hal5;have hB5:=HB3.out.trans (hb5.mono HB3.out.size);have QA5:=(hb5.block _ (lt_of_heap QA)).trans QA;have LA5:=LA3.out.keep enU (Keeps'.of hb5);have LB5:=LB.keep enU (Keeps'.of hal5);clear LB hal5 hb4 hb5 QA LA3 HB3;go_upto_region 5 with fail
 generalize (w4.alloc (.cells #[.int .i64 (errO B).1,.int .i64 (errO B).2] 27))=w5 at *;have hal6:Below w5.heap.size w5 (w5.alloc (.cells #[] 57)):=(Below.refl _ _).alloc (Nat.le_refl _) _;have O6:OwnE En16 57 16 w5.heap.size (fun _=>True) (w5.alloc (.cells #[] 57)) (.slice (some ⟨w5.heap.size,0,none⟩) 0 0) ([]:List Stm):=⟨[],World.ownsRow_made w5 #[] 0 (Nat.le_refl _) (Nat.zero_le _) rfl,fun i hi=>by simp at hi⟩
 have l6:LsE En16 16 (fun b=>b<w5.heap.size) (w5.alloc (.cells #[] 57)) a l:=(low hB5 L0.out).nx en16 hal6;have m6:Hid (LsE En16 16 (fun b=>b<w5.heap.size) (w5.alloc (.cells #[] 57)) b m):=(low hB5 M0.out).nx en16 hal6;have z6:=hal6.size;have A6:Hid (Below w5.heap.size w5 (w5.alloc (.cells #[] 57))):=hal6;have HB5:Hid (Below w.heap.size w w5):=hB5;have QAB:Hid (w5.heap[w2.heap.size]? = some (.cells #[.int .i64 (errO A).1,.int .i64 (errO A).2] 27 (0,0))∧w5.heap[w4.heap.size]? = some (.cells #[.int .i64 (errO B).1,.int .i64 (errO B).2] 27 (0,0))):=⟨QA5,QB⟩
 have LAB:Hid (LsE EnU 1 (fun b=>w1.heap.size≤b) w5 aA (bysO A)∧LsE EnU 1 (fun b=>w3.heap.size≤b) w5 aB (bysO B)):=⟨LA5,LB5⟩
 have hN1:([]:List Stm).length+l.length≤4000000:=by have:=HN.out; simp; omega
 clear hal6 hB5 QA5 QB LA5 LB5 L0 M0;go_wp2_with (first | (at_builtin; refine wpList_append_any en16 en16_one rfl 22 57 i0 _ 16 256 Tryz.underlying22 hi hj0 hj1 hj2 rfl (by decide) _ _ rfl rfl O6 rfl (Nat.le_refl _) rfl l6 hN1 (by decide) z6 ?_))
 intro v7 w7 O7 g7 d7;have r6:∀ k,Value.ownBlock (.slice (some ⟨w5.heap.size,0,none⟩) 0 0)=some k→w5.heap.size≤k:=fun k e=>Nat.le_of_eq (Option.some.inj e)
 have A7:Hid (Below w5.heap.size w5 w7):=A6.out.grown g7 A6.out.size r6;have m7:=m6.out.grownA en16 g7 r6;obtain ⟨k7,hk7,hB7⟩:∃ k,v7.ownBlock=some k∧w5.heap.size≤k:=by
  rcases d7 with d | d
  ·exact ⟨_,d,Nat.le_refl _⟩
  ·exact ⟨_,d,by omega⟩
 have z7:w5.heap.size≤w7.heap.size:=A7.out.size;have hN2:([] ++ l).length+m.length≤4000000:=by have:=HN.out; simpa using this
 clear O6 l6 m6 z6 A6 g7 d7 r6 hN1;go_wp2_with (first | (at_builtin; refine wpList_append_any en16 en16_one rfl 22 57 i0 _ 16 256 Tryz.underlying22 hi hj0 hj1 hj2 rfl (by decide) _ _ rfl rfl O7 hk7 hB7 rfl m7 hN2 (by decide) z7 ?_))
 intro v8 w8 O8 g8 d8;have O8:OwnE En16 57 16 w5.heap.size (fun _=>True) w8 v8 (l ++ m):=O8;have r7:∀ k,some k7=some k→w5.heap.size≤k:=fun k e=>by rw [← Option.some.inj e]; exact hB7
 have hA8:Below w5.heap.size w5 w8:=A7.out.grown g8 A7.out.size (fun k e=>r7 k (hk7 ▸ e));have hB8:=HB5.out.trans (hA8.mono HB5.out.size);obtain ⟨a8,c8,rfl,l8⟩:=O8.ls en16 (fun _ _=>trivial);have HL8:(l ++ m).length≤1000000000000000:=by have:=HN.out; rw [List.length_append]; omega
 have con3:=Bytes_at (l ++ m) a8 c8 (gup hB8) HL8 (LsE.lowA en16 l8);have HB8:Hid (Below w.heap.size w w8):=hB8;have A8:Hid (Below w5.heap.size w5 w8):=hA8;generalize bytP 0 [] (l ++ m)=C at *;generalize hlm:(l ++ m).length=n8 at *;clear O7 m7 z7 g8 d8 r7 hN2 hk7 hB7 A7 O8 hA8 hB8 l8 HL8 HN hlm;go_wp2_with fail
 refine con3.mono ?_;rintro e w9 hE;obtain ⟨hb9,aC,cC,rfl,LC,hcC⟩:=hE.all;clear hE con3 hcC;have hal10:Below w9.heap.size w9 (w9.alloc (.cells #[.int .i64 (errO C).1,.int .i64 (errO C).2] 27)):=(Below.refl _ _).alloc (Nat.le_refl _) _;have QC:=heap_new w9 #[.int .i64 (errO C).1,.int .i64 (errO C).2] 27;have hb10:=chain hb9 hal10;have hz8:=A8.out.size;have D10:=A8.out.trans (hb10.mono hz8);have hB10:=HB8.out.trans (hb10.mono HB8.out.size);have QA10:=(D10.block _ (lt_of_heap QAB.out.1)).trans QAB.out.1;have QB10:=(D10.block _ (lt_of_heap QAB.out.2)).trans QAB.out.2
 have LA10:=LAB.out.1.keep enU (Keeps'.of D10);have LB10:=LAB.out.2.keep enU (Keeps'.of D10);have LC10:=LC.keep enU (Keeps'.of hal10);clear LC hal10 hb9 hb10 D10 QAB LAB HB8 A8;go_upto_region 6 with fail
 generalize (w9.alloc (.cells #[.int .i64 (errO C).1,.int .i64 (errO C).2] 27))=w10 at *;obtain ⟨a0,_⟩:=cells2 QA10;obtain ⟨b0,_⟩:=cells2 QB10;obtain ⟨c0,_⟩:=cells2 QC;have HBX:Hid (Below w.heap.size w w10):=hB10;have HLL:Hid (LsE EnU 1 (fun b=>w1.heap.size≤b) w10 aA (bysO A)∧LsE EnU 1 (fun b=>w3.heap.size≤b) w10 aB (bysO B)∧LsE EnU 1 (fun b=>w8.heap.size≤b) w10 aC (bysO C)):=⟨LA10,LB10,LC10⟩
 clear QA10 QB10 QC hB10 LA10 LB10 LC10;rcases HJ.out with h1 | ⟨h1,h2⟩ | ⟨h1,h2,h3⟩ | ⟨h1,h2,h3,h4⟩
 ·have z1:((errO A).1 != 0)=true:=by rw [bne_iff_ne]; exact h1
  clear h1 HJ HLL;go_wp2_with fail
  go_ret;exact ⟨rfl,HBX.out⟩
 ·have z1:((errO A).1 != 0)=false:=by rw [bne_eq_false_iff_eq]; exact h1
  have z2:((errO B).1 != 0)=true:=by rw [bne_iff_ne]; exact h2
  clear h1 h2 HJ HLL;go_wp2_with fail
  go_ret;exact ⟨rfl,HBX.out⟩
 ·rw [h1] at a0;rw [h2] at b0;rw [h3] at c0;clear h1 h2 h3 HJ HLL;go_wp2_with fail
  go_ret;exact ⟨rfl,HBX.out⟩
 ·rw [h1] at a0;rw [h2] at b0;rw [h3] at c0;have H4:Hid (bysO C=bysO A ++ bysO B):=h4;clear h1 h2 h3 h4 HJ;have hal11:Below w10.heap.size w10 (w10.alloc (.cells #[] 5)):=(Below.refl _ _).alloc (Nat.le_refl _) _;have O11:OwnE EnU 5 1 w10.heap.size (fun _=>True) (w10.alloc (.cells #[] 5)) (.slice (some ⟨w10.heap.size,0,none⟩) 0 0) ([]:List UInt8):=⟨[],World.ownsRow_made w10 #[] 0 (Nat.le_refl _) (Nat.zero_le _) rfl,fun i hi=>by simp at hi⟩
  obtain ⟨LA,LB,LC⟩:=HLL.out;have la:LsE EnU 1 (fun b=>b<w10.heap.size) (w10.alloc (.cells #[] 5)) aA (bysO A):=(LA.lowA enU).nx enU hal11;have lb:Hid (LsE EnU 1 (fun b=>b<w10.heap.size) (w10.alloc (.cells #[] 5)) aB (bysO B)):=(LB.lowA enU).nx enU hal11;have lc:Hid (LsE EnU 1 (fun b=>b<w10.heap.size) (w10.alloc (.cells #[] 5)) aC (bysO C)):=(LC.lowA enU).nx enU hal11;have z11:=hal11.size;have A11:Hid (Below w10.heap.size w10 (w10.alloc (.cells #[] 5))):=hal11;have hN1:([]:List UInt8).length+(bysO A).length≤4000000:=by have:=HA.out; simp; omega
  clear HLL LA LB LC hal11;go_wp2_with (first | (at_builtin; refine wpList_append_any enU enU_one rfl 24 5 k0 _ 1 1 Tryz.underlying24 hk hk0 hk1 hk2 rfl (by decide) _ _ rfl rfl O11 rfl (Nat.le_refl _) rfl la hN1 (by decide) z11 ?_))
  intro v12 w12 O12 g12 d12;have r11:∀ k,Value.ownBlock (.slice (some ⟨w10.heap.size,0,none⟩) 0 0)=some k→w10.heap.size≤k:=fun k e=>Nat.le_of_eq (Option.some.inj e)
  have A12:Hid (Below w10.heap.size w10 w12):=A11.out.grown g12 A11.out.size r11;have lb12:=lb.out.grownA enU g12 r11;have lc12:Hid (LsE EnU 1 (fun b=>b<w10.heap.size) w12 aC (bysO C)):=lc.out.grownA enU g12 r11;obtain ⟨k12,hk12,hB12⟩:∃ k,v12.ownBlock=some k∧w10.heap.size≤k:=by
   rcases d12 with d | d
   ·exact ⟨_,d,Nat.le_refl _⟩
   ·exact ⟨_,d,by omega⟩
  have z12:w10.heap.size≤w12.heap.size:=A12.out.size;have O12:OwnE EnU 5 1 w10.heap.size (fun _=>True) w12 v12 (bysO A):=O12;have hN2:(bysO A).length+(bysO B).length≤4000000:=by have:=HA.out; have:=HM.out; omega
  clear O11 la lb lc z11 A11 g12 d12 r11 hN1;go_wp2_with (first | (at_builtin; refine wpList_append_any enU enU_one rfl 24 5 k0 _ 1 1 Tryz.underlying24 hk hk0 hk1 hk2 rfl (by decide) _ _ rfl rfl O12 hk12 hB12 rfl lb12 hN2 (by decide) z12 ?_))
  intro v13 w13 O13 g13 d13;have r12:∀ k,some k12=some k→w10.heap.size≤k:=fun k e=>by rw [← Option.some.inj e]; exact hB12
  have hA13:Below w10.heap.size w10 w13:=A12.out.grown g13 A12.out.size (fun k e=>r12 k (hk12 ▸ e));have lc13:=lc12.out.grownA enU g13 (fun k e=>r12 k (hk12 ▸ e));obtain ⟨a13,c13,rfl,l13⟩:=O13.ls enU (fun _ _=>trivial);rw [← H4.out] at l13;have con4:=same_atB (bysO C) (bysO C) aC a13 cC c13 (fun _=>True) (w:=w13) (LsE.mono enU (fun _ _ _=>trivial) lc13) l13 (by have:=HC.out; omega) (by have:=HC.out; omega);have hB13:=HBX.out.trans (hA13.mono HBX.out.size);have HB13:Hid (Below w.heap.size w w13):=hB13;rw [show decide (bysO C=bysO C)=true from decide_eq_true rfl] at con4
  have hlen:(bysO A ++ bysO B).length=(bysO C).length:=by rw [H4.out]
  rw [hlen];clear O12 O13 lb12 lc12 z12 g13 d13 r12 hN2 hk12 hB12 A12 hA13 lc13 l13 hB13 HBX hlen;go_wp2_with fail
  refine con4.mono ?_;rintro e w14 ⟨rfl,hb14⟩;go_wp2_with fail
  go_ret;exact ⟨rfl,HB13.out.trans (hb14.mono HB13.out.size)⟩
end Go.Proofs.YtoknmnngaackkaaGreatDoor
namespace Go.Proofs
open Go.Shelf
shelf_lay LaysM.n155 Nm 155 at Tryz as Tryz.repM
end Go.Proofs
namespace Go.Proofs.YtoknmnngaackkaaGreatDoor
open Go.RowKit Go.Lib Go.Shelf
set_option maxRecDepth 100000
set_option maxHeartbeats 4000000

theorem gl_ofR {W:World} {rest:List (String × DataW Unit)} (h:laidMet Tryz.prog (("tidemark/sql.signs",.agg (sigBs.map strD)) :: ("tidemark/sql.infixes",.agg (infRs.map InfD)) :: rest) W):Gl W:=by
 obtain ⟨ps,⟨g0,t0,cs0,f0,p0,q0,hg0,ht0,hv0,hd0,⟨g1,t1,cs1,f1,p1,q1,hg1,ht1,hv1,hd1,_⟩,_⟩,_⟩:=h;have G0:Tryz.prog.globalNamed "tidemark/sql.signs" = some 0:=by kernel_rfl
 have G1:Tryz.prog.globalNamed "tidemark/sql.infixes" = some 1:=by kernel_rfl
 have T0:(Tryz.prog.globals[0]?).map (·.type)=some 189:=by kernel_rfl
 have T1:(Tryz.prog.globals[1]?).map (·.type)=some 232:=by kernel_rfl
 obtain rfl:=Option.some.inj (G0.symm.trans hg0);obtain rfl:=Option.some.inj (G1.symm.trans hg1);obtain rfl:=Option.some.inj (T0.symm.trans ht0);obtain rfl:=Option.some.inj (T1.symm.trans ht1);have s0:=cells_of_strs Tryz.underlying189 Tryz.underlying9 (by kernel_rfl) (by kernel_rfl) hd0;have s1:=cells_of_infs (ti:=3) (ts:=9) Tryz.underlying232 Tryz.underlying201 ⟨rfl,rfl⟩ ⟨rfl,rfl⟩ ⟨rfl,rfl⟩ Tryz.underlying3 Tryz.underlying9 (by kernel_rfl) (by kernel_rfl) (by kernel_rfl) hd1;refine ⟨?_,fun j hj=>?_,fun j hj=>?_⟩
 ·unfold World.var? at hv1;rw [G1] at hv1;simp only [Option.bind_some] at hv1;rcases Nat.lt_or_ge 1 W.heap.size with h | h
  ·exact h
  ·simp [Array.getElem?_eq_none h] at hv1
 ·have:=World.var?_cell G1 hv1 j;rw [this];have e:=s1 j (by omega);have ea:infA.toList=infRs.flatMap InfV:=rfl;rw [← ea] at e
  simpa using e
 ·have:=World.var?_cell G0 hv0 j;rw [this];have e:=s0 j (by omega);have ea:sigA.toList=sigBs.map strV:=rfl;rw [← ea] at e
  simpa using e
theorem gp_of {W:World} {n1 n2 n4 n6:String} {d1 d2 d4 d5 d6:DataW Unit} {rest:List (String × DataW Unit)} (h:laidMet Tryz.prog ((n1,d1) :: (n2,d2) :: ("internal/strconv.uint64pow10",Lib.tabData .u64 Lib.pow10Tab) :: (n4,d4) :: ("strconv.ErrRange",d5) :: (n6,d6) :: ("tidemark/sql.signs",.agg (sigBs.map strD)) :: ("tidemark/sql.infixes",.agg (infRs.map InfD)) :: rest) W) (hsh:W.ShapedOpen Tryz.prog):GP W W.heap.size:=by
 have h9:9<W.heap.size:=by
  obtain ⟨ps,⟨g0,t0,cs0,f0,p0,q0,hg0,ht0,hv0,_⟩,_⟩:=h.tail.tail.tail.tail;have G0:Tryz.prog.globalNamed "strconv.ErrRange" = some 9:=by kernel_rfl
  unfold World.var? at hv0;rw [G0] at hv0;simp only [Option.bind_some] at hv0;rcases Nat.lt_or_ge 9 W.heap.size with h | h
  ·exact h
  ·simp [Array.getElem?_eq_none h] at hv0
 refine ⟨gl_ofR h.tail.tail.tail.tail.tail.tail,?_,Tryz.repM.s1_3 W hsh,h9⟩;exact Lib.tabIs_of_head (g:=2) (t:=234) (by kernel_rfl) (by kernel_rfl) Tryz.underlying234 Tryz.underlying206 (by kernel_rfl) (by kernel_rfl) h.tail.tail
end Go.Proofs.YtoknmnngaackkaaGreatDoor
namespace Go.Proofs.YtoknmnngaackkaaGreatDoor
open Go.ChangeShapes Go.WideShapes Go.ChangeAt Go.RowKit Go.Joins
set_option maxRecDepth 100000
set_option maxHeartbeats 4000000

theorem qoI:Tryz.prog.cellsOf 3=1:=by kernel_rfl
theorem qoL:Tryz.prog.cellsOf 2=1:=by kernel_rfl
theorem qoB:Tryz.prog.cellsOf 4=1:=by kernel_rfl
theorem qoS:Tryz.prog.cellsOf 9=1:=by kernel_rfl
theorem qoV:Tryz.prog.cellsOf 53=3:=by kernel_rfl
theorem qoC:Tryz.prog.cellsOf 69=2:=by kernel_rfl
theorem qoX:Tryz.prog.cellsOf 55=7:=by kernel_rfl
theorem qoT:Tryz.prog.cellsOf 75=8:=by kernel_rfl
theorem qoR:Tryz.prog.cellsOf 105=10:=by kernel_rfl
theorem qoE:Tryz.prog.cellsOf 79=21:=by kernel_rfl
theorem qoQ:Tryz.prog.cellsOf 50=4:=by kernel_rfl
theorem qoM:Tryz.prog.cellsOf 57=16:=by kernel_rfl
theorem qolC:Tryz.prog.cellsOf 45=1:=by kernel_rfl
theorem qolE:Tryz.prog.cellsOf 46=1:=by kernel_rfl
theorem qolI:Tryz.prog.cellsOf 47=1:=by kernel_rfl
theorem qolX:Tryz.prog.cellsOf 48=1:=by kernel_rfl
theorem qolV:Tryz.prog.cellsOf 70=1:=by kernel_rfl
theorem qolLV:Tryz.prog.cellsOf 51=1:=by kernel_rfl
theorem qolT:Tryz.prog.cellsOf 76=1:=by kernel_rfl
theorem qolR:Tryz.prog.cellsOf 77=1:=by kernel_rfl
instance:Inhabited SX:=⟨sx0⟩
instance:Inhabited Src:=⟨⟨0,eB,eB,sx0⟩⟩
instance:Inhabited Sel:=⟨⟨false,false,[],[],false,false,sx0,sx0,[]⟩⟩
instance:Inhabited Stm:=⟨⟨0,eB,[],qry0,[],false,sx0⟩⟩
section
variable {H:Type} {enc:TypeId × Value→H} {W:World} {hd:Bool}
/-- What memory of a type holds. -/
def OpE {α:Type} (enc:TypeId × Value→H) (W:World) (hd:Bool) (t:TypeId) (En:EnT α) (size n:Nat):Prop :=
 ∀ m,m<n→∀ cs x,DataW.trod enc Tryz.prog W 0 (fun _=>true) hd m t cs=some x→∃ y:α,cs.length=size∧En (fun b=>b<W.heap.size) W y cs
theorem OpE.mono {α:Type} {t:TypeId} {En:EnT α} {size n k:Nat} (h:OpE enc W hd t En size n) (hk:k≤n):OpE enc W hd t En size k:=fun m hm=>h m (by omega)
theorem ls_open {α:Type} [Inhabited α] {En:EnT α} {ts t:TypeId} {size fuel:Nat} (hu:Tryz.prog.underlying ts=some (.slice t)) (hq:Tryz.prog.cellsOf t=size) (hp:0<size) (ih:OpE enc W hd t En size fuel) {cs:List Value} {x:DataW H × List MemPlace} (h:DataW.trod enc Tryz.prog W 0 (fun _=>true) hd fuel ts cs=some x) :
  ∃ (a:Option Addr) (cap:Nat) (l:List α),cs = [.slice a l.length cap]∧LsE En size (fun b=>b<W.heap.size) W a l:=by
 rcases DataW.trod_slice hu h with ⟨hcs,_⟩ | ⟨a,len,cap,elems,rest,n,hn,hcs,_,_,_,_,hlen,hel,_,_⟩
 ·exact ⟨none,0,[],hcs,.inl rfl⟩
 ·rw [hq] at hel;obtain ⟨f,hf⟩:=Go.Deep.choose_lt (α:=α × List Value) (n:=len) (p:=fun i (y:α × List Value)=>y.2.length=size∧(∀ j,j<size→W.cell? ((a.add (i*size)).add j)=y.2[j]?)∧En (fun b=>b<W.heap.size) W y.1 y.2) (fun i hi=>by
   have key:=hel i hi;rw [List.getElem?_eq_getElem (by omega)] at key;obtain ⟨cs',h1,h2⟩:=Option.bind_eq_some_iff.1 key;obtain ⟨_,hl6,hcell⟩:=World.cells?_some h1;obtain ⟨y,hy1,hy2⟩:=ih n (by omega) _ _ h2;exact ⟨(y,cs'),hl6,hcell,hy2⟩)
  refine ⟨some a,cap,(List.range len).map fun i=>(f i).1,by simpa using hcs,?_⟩;by_cases h0:len=0
  ·subst h0; exact .inl rfl
  ·obtain ⟨b,off,spot⟩:=a;obtain ⟨g1,g2,_⟩:=hf 0 (by omega);have hc:=g2 0 hp;rw [List.getElem?_eq_getElem (by omega)] at hc;have hspot:spot=none:=by simpa [Addr.add] using World.cell?_spot hc
   subst hspot;have hlt:=World.block_lt_of_cell? W _ hc;rw [addr_addS,addr_addS] at hlt;refine .inr ⟨b,off,rfl,hlt,hlt,fun i hi=>?_⟩;have hi':i<len:=by simpa using hi
   obtain ⟨g1,g2,g3⟩:=hf i hi';refine ⟨(f i).2,g1,fun j u hu=>?_,by simpa using g3⟩;have hj:j<size:=by
    rcases Nat.lt_or_ge j (f i).2.length with h | h
    ·omega
    ·rw [List.getElem?_eq_none h] at hu; cases hu
   have:=g2 j hj;rw [addr_addS,addr_addS,hu] at this;exact this
theorem val_open (n:Nat):OpE enc W hd 53 En3 3 n:=by
 intro m hm cs x h;obtain ⟨xs,k,hk,_,hl,hlen,hf⟩:=DataW.trod_struct Tryz.underlying53 h;rw [qoV] at hl
 match xs,hlen with
 | [y0,y1,y2],_ =>
  have h0:=hf 0 _ rfl;have h1:=hf 1 _ rfl;have h2:=hf 2 _ rfl
  match cs,hl with
  | [c0,c1,c2],_ =>
   simp [qoI,qoL,qoS] at h0 h1 h2;obtain ⟨u0,e0,_,_⟩:=DataW.trod_int Tryz.underlying3 h0;obtain ⟨u1,e1,_,_⟩:=DataW.trod_int Tryz.underlying2 h1;obtain ⟨u2,e2,_,_⟩:=DataW.trod_string Tryz.underlying9 h2;simp at e0 e1 e2;subst e0 e1 e2;exact ⟨(u0,u1,u2),rfl,rfl⟩
theorem col_open (n:Nat):OpE enc W hd 69 En2 2 n:=by
 intro m hm cs x h;obtain ⟨xs,k,hk,_,hl,hlen,hf⟩:=DataW.trod_struct Tryz.underlying69 h;rw [qoC] at hl
 match xs,hlen with
 | [y0,y1],_ =>
  have h0:=hf 0 _ rfl;have h1:=hf 1 _ rfl
  match cs,hl with
  | [c0,c1],_ =>
   simp [qoS,qoI] at h0 h1;obtain ⟨u0,e0,_,_⟩:=DataW.trod_string Tryz.underlying9 h0;obtain ⟨u1,e1,_,_⟩:=DataW.trod_int Tryz.underlying3 h1;simp at e0 e1;subst e0 e1;exact ⟨(u0,u1),rfl,rfl⟩
theorem int_open (n:Nat):OpE enc W hd 3 EnI 1 n:=by
 intro m hm cs x h;obtain ⟨u,e,_,_⟩:=DataW.trod_int Tryz.underlying3 h;exact ⟨u,by rw [e]; rfl,e⟩
theorem row_open (n:Nat):OpE enc W hd 70 (EnL En3 3) 1 n:=by
 intro m hm cs x h;obtain ⟨a,c,l,e,L⟩:=ls_open Tryz.underlying70 qoV (by decide) (val_open m) h;exact ⟨l,by rw [e]; rfl,a,c,e,L⟩
theorem sx_step (n:Nat) (ih:OpE enc W hd 55 En7 7 n):OpE enc W hd 55 En7 7 (n+1):=by
 intro m hm cs x h;obtain ⟨xs,k,hk,_,hl,hlen,hf⟩:=DataW.trod_struct Tryz.underlying55 h;rw [qoX] at hl
 match xs,hlen with
 | [y0,y1,y2,y3,y4],_ =>
  have h0:=hf 0 _ rfl;have h1:=hf 1 _ rfl;have h2:=hf 2 _ rfl;have h3:=hf 3 _ rfl;have h4:=hf 4 _ rfl
  match cs,hl with
  | [c0,c1,c2,c3,c4,c5,c6],_ =>
   simp [qoI,qoV,qoS,qolX] at h0 h1 h2 h3 h4;obtain ⟨u0,e0,_,_⟩:=DataW.trod_int Tryz.underlying3 h0;obtain ⟨v,_,e1⟩:=val_open (k+1) k (by omega) _ _ h1;obtain ⟨u2,e2,_,_⟩:=DataW.trod_string Tryz.underlying9 h2;obtain ⟨u3,e3,_,_⟩:=DataW.trod_string Tryz.underlying9 h3;obtain ⟨a4,k4,l4,e4,L4⟩:=ls_open Tryz.underlying48 qoX (by decide) (ih.mono (by omega)) h4;unfold En3 at e1;simp at e0 e1 e2 e3 e4;obtain ⟨r1,r2,r3⟩:=e1;subst e0 r1 r2 r3 e2 e3 e4;exact ⟨.mk u0 v u2 u3 l4,rfl,a4,k4,rfl,L4.sxs⟩
theorem sx_open:∀ n,OpE enc W hd 55 En7 7 n
 | 0=>fun m hm=>absurd hm (by omega)
 | n+1=>sx_step n (sx_open n)
theorem itm_open (n:Nat):OpE enc W hd 75 En8 8 n:=by
 intro m hm cs x h;obtain ⟨xs,k,hk,_,hl,hlen,hf⟩:=DataW.trod_struct Tryz.underlying75 h;rw [qoT] at hl
 match xs,hlen with
 | [y0,y1],_ =>
  have h0:=hf 0 _ rfl;have h1:=hf 1 _ rfl
  match cs,hl with
  | [c0,c1,c2,c3,c4,c5,c6,c7],_ =>
   simp [qoX,qoS] at h0 h1;obtain ⟨u0,_,a0,k0,e0,L0⟩:=sx_open (k+1) k (by omega) _ _ h0;obtain ⟨u1,e1,_,_⟩:=DataW.trod_string Tryz.underlying9 h1;simp [sxL] at e0 e1;obtain ⟨r1,r2,r3,r4,r5,r6,r7⟩:=e0;subst r1 r2 r3 r4 r5 r6 r7 e1;exact ⟨(u0,u1),rfl,a0,k0,rfl,L0⟩
theorem src_open (n:Nat):OpE enc W hd 105 En10 10 n:=by
 intro m hm cs x h;obtain ⟨xs,k,hk,_,hl,hlen,hf⟩:=DataW.trod_struct Tryz.underlying105 h;rw [qoR] at hl
 match xs,hlen with
 | [y0,y1,y2,y3],_ =>
  have h0:=hf 0 _ rfl;have h1:=hf 1 _ rfl;have h2:=hf 2 _ rfl;have h3:=hf 3 _ rfl
  match cs,hl with
  | [c0,c1,c2,c3,c4,c5,c6,c7,c8,c9],_ =>
   simp [qoI,qoS,qoX] at h0 h1 h2 h3;obtain ⟨u0,e0,_,_⟩:=DataW.trod_int Tryz.underlying3 h0;obtain ⟨u1,e1,_,_⟩:=DataW.trod_string Tryz.underlying9 h1;obtain ⟨u2,e2,_,_⟩:=DataW.trod_string Tryz.underlying9 h2;obtain ⟨u3,_,a3,k3,e3,L3⟩:=sx_open (k+1) k (by omega) _ _ h3;simp [sxL] at e0 e1 e2 e3;obtain ⟨r1,r2,r3,r4,r5,r6,r7⟩:=e3;subst r1 r2 r3 r4 r5 r6 r7 e0 e1 e2;exact ⟨⟨u0,u1,u2,u3⟩,rfl,a3,k3,rfl,L3⟩
theorem sel_open (n:Nat):OpE enc W hd 79 En21 21 n:=by
 intro m hm cs x h;obtain ⟨xs,k,hk,_,hl,hlen,hf⟩:=DataW.trod_struct Tryz.underlying79 h;rw [qoE] at hl
 match xs,hlen with
 | [y0,y1,y2,y3,y4,y5,y6,y7,y8],_ =>
  have h0:=hf 0 _ rfl;have h1:=hf 1 _ rfl;have h2:=hf 2 _ rfl;have h3:=hf 3 _ rfl;have h4:=hf 4 _ rfl;have h5:=hf 5 _ rfl;have h6:=hf 6 _ rfl;have h7:=hf 7 _ rfl;have h8:=hf 8 _ rfl
  match cs,hl with
  | [c0,c1,c2,c3,c4,c5,c6,c7,c8,c9,c10,c11,c12,c13,c14,c15,c16,c17,c18,c19,c20],_ =>
   simp [qoB,qolT,qolR,qoX,qolX] at h0 h1 h2 h3 h4 h5 h6 h7 h8;obtain ⟨u0,e0,_⟩:=DataW.trod_bool Tryz.underlying4 h0;obtain ⟨u1,e1,_⟩:=DataW.trod_bool Tryz.underlying4 h1;obtain ⟨a2,k2,u2,e2,L2⟩:=ls_open Tryz.underlying76 qoT (by decide) (itm_open k) h2;obtain ⟨a3,k3,u3,e3,L3⟩:=ls_open Tryz.underlying77 qoR (by decide) (src_open k) h3;obtain ⟨u4,e4,_⟩:=DataW.trod_bool Tryz.underlying4 h4;obtain ⟨u5,e5,_⟩:=DataW.trod_bool Tryz.underlying4 h5;obtain ⟨u6,_,a6,k6,e6,L6⟩:=sx_open (k+1) k (by omega) _ _ h6;obtain ⟨u7,_,a7,k7,e7,L7⟩:=sx_open (k+1) k (by omega) _ _ h7
   obtain ⟨a8,k8,u8,e8,L8⟩:=ls_open Tryz.underlying48 qoX (by decide) (sx_open k) h8;simp [sxL] at e0 e1 e2 e3 e4 e5 e6 e7 e8;obtain ⟨r1,r2,r3,r4,r5,r6,r7⟩:=e6;obtain ⟨s1,s2,s3,s4,s5,s6,s7⟩:=e7;subst e0 e1 e2 e3 e4 e5 r1 r2 r3 r4 r5 r6 r7 s1 s2 s3 s4 s5 s6 s7 e8;exact ⟨⟨u0,u1,u2,u3,u4,u5,u6,u7,u8⟩,rfl,a2,k2,a3,k3,a6,k6,a7,k7,a8,k8,rfl,L2,L3,L6,L7,L8⟩
def EnQ:EnT Qry:=fun S W x cs=>∃ p1 d1 p2 d2 p3 d3,cs = [.slice p1 x.parts.length d1,.slice p2 x.ops.length d2,.slice p3 x.order.length d3,.int .i64 x.limit]∧LsE En21 21 S W p1 x.parts∧LsE EnI 1 S W p2 x.ops∧LsE En7 7 S W p3 x.order
theorem qry_open (n:Nat):OpE enc W hd 50 EnQ 4 n:=by
 intro m hm cs x h;obtain ⟨xs,k,hk,_,hl,hlen,hf⟩:=DataW.trod_struct Tryz.underlying50 h;rw [qoQ] at hl
 match xs,hlen with
 | [y0,y1,y2,y3],_ =>
  have h0:=hf 0 _ rfl;have h1:=hf 1 _ rfl;have h2:=hf 2 _ rfl;have h3:=hf 3 _ rfl
  match cs,hl with
  | [c0,c1,c2,c3],_ =>
   simp [qolE,qolI,qolX,qoI] at h0 h1 h2 h3;obtain ⟨a0,k0,u0,e0,L0⟩:=ls_open Tryz.underlying46 qoE (by decide) (sel_open k) h0;obtain ⟨a1,k1,u1,e1,L1⟩:=ls_open Tryz.underlying47 qoI (by decide) (int_open k) h1;obtain ⟨a2,k2,u2,e2,L2⟩:=ls_open Tryz.underlying48 qoX (by decide) (sx_open k) h2;obtain ⟨u3,e3,_,_⟩:=DataW.trod_int Tryz.underlying3 h3;simp at e0 e1 e2 e3;subst e0 e1 e2 e3;exact ⟨⟨u0,u1,u2,u3⟩,rfl,a0,k0,a1,k1,a2,k2,rfl,L0,L1,L2⟩
theorem stm_open (n:Nat):OpE enc W hd 57 En16 16 n:=by
 intro m hm cs x h;obtain ⟨xs,k,hk,_,hl,hlen,hf⟩:=DataW.trod_struct Tryz.underlying57 h;rw [qoM] at hl
 match xs,hlen with
 | [y0,y1,y2,y3,y4,y5,y6],_ =>
  have h0:=hf 0 _ rfl;have h1:=hf 1 _ rfl;have h2:=hf 2 _ rfl;have h3:=hf 3 _ rfl;have h4:=hf 4 _ rfl;have h5:=hf 5 _ rfl;have h6:=hf 6 _ rfl
  match cs,hl with
  | [c0,c1,c2,c3,c4,c5,c6,c7,c8,c9,c10,c11,c12,c13,c14,c15],_ =>
   simp [qoI,qoS,qolC,qoQ,qolLV,qoB,qoX] at h0 h1 h2 h3 h4 h5 h6;obtain ⟨u0,e0,_,_⟩:=DataW.trod_int Tryz.underlying3 h0;obtain ⟨u1,e1,_,_⟩:=DataW.trod_string Tryz.underlying9 h1;obtain ⟨a2,k2,u2,e2,L2⟩:=ls_open Tryz.underlying45 qoC (by decide) (col_open k) h2;obtain ⟨u3,_,p1,d1,p2,d2,p3,d3,e3,M1,M2,M3⟩:=qry_open (k+1) k (by omega) _ _ h3;obtain ⟨a4,k4,u4,e4,L4⟩:=ls_open Tryz.underlying51 qolV (by decide) (row_open k) h4;obtain ⟨u5,e5,_⟩:=DataW.trod_bool Tryz.underlying4 h5;obtain ⟨u6,_,a6,k6,e6,L6⟩:=sx_open (k+1) k (by omega) _ _ h6;simp [sxL] at e0 e1 e2 e3 e4 e5 e6
   obtain ⟨q1,q2,q3,q4⟩:=e3;obtain ⟨r1,r2,r3,r4,r5,r6,r7⟩:=e6;subst e0 e1 e2 q1 q2 q3 q4 e4 e5 r1 r2 r3 r4 r5 r6 r7;exact ⟨⟨u0,u1,u2,u3,u4,u5,u6⟩,rfl,a2,k2,p1,d1,p2,d2,p3,d3,a4,k4,a6,k6,rfl,L2,M1,M2,M3,L4,L6⟩
theorem open_stmts {r:Reach} {b0:Nat} {v:Value} {d:DataW H} {p:List MemPlace} (hv:Value.okWide Tryz.prog W r b0 22 v) (h:DataW.Trod enc Tryz.prog W 0 (fun _=>true) true 22 v d p):∃ (a:Option Addr) (cap:Nat) (l:List Stm),v = .slice a l.length cap∧LsE En16 16 (fun b=>b<W.heap.size) W a l:=by
 obtain ⟨a0,len0,cap0,rfl⟩:=okWide_slice Tryz.underlying22 hv
 obtain ⟨fuel,hf0⟩:=h
 obtain ⟨a,cap,l,e,L⟩:=ls_open Tryz.underlying22 qoM (by decide) (stm_open fuel) hf0
 simp [Value.cells] at e
 obtain ⟨rfl,rfl,rfl⟩:=e
 exact ⟨_,_,l,rfl,L⟩
end
end Go.Proofs.YtoknmnngaackkaaGreatDoor
