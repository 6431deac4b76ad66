/- Together: J9, J10, S7, S8, S9, G1, G3, G4, G5. -/
import Derived.Test.YtohjlfhmnmcndaaGreatB7
/- The walk of ops.ofPairs. -/
namespace Go.Proofs.YtohjlfhmnmcndaaGreat
open Go.RowKit Go.Lib Go.Shelf

theorem mul_mid {a b:Int} (h1:-1000000≤a) (h2:a≤1000000) (h3:-1000000≤b) (h4:b≤1000000):-1000000000000≤a*b∧a*b≤1000000000000:=by
 have ha:a.natAbs≤1000000:=by omega
 have hb:b.natAbs≤1000000:=by omega
 have:=Nat.mul_le_mul ha hb
 rw [← Int.natAbs_mul] at this
 omega
theorem PairsIn.later {cols:List Int} {x:Ex} {w0 wp W:World} {a b:Option Addr} {ca cb:Nat} {l r:List Zp} {v:Value} {R rv:Nat} (h:PairsIn cols x w0 wp a b ca cb l r v R rv) (hI:PInv wp R rv wp) (hb:Below wp.heap.size wp W):PairsIn cols x w0 W a b ca cb l r v R rv∧PInv W R rv W:=by
 obtain ⟨lo,wc,hv,u,e,hn,h2,h3,h4,h5,h6,h7,h8⟩:=h
 have hr:=hn.r
 have hrv:=hn.v
 have hI':=hI.later hn (Nat.le_refl _) hb
 have z:=hb.size
 exact ⟨⟨lo,wc,hv,u,e,⟨hr,by omega⟩,h2,(hb.cell (p:=⟨hv,0,none⟩) (by show hv<_; omega)).trans h3,h4,h5,h6.trans (Since.of hb),h7,chain h8 hb⟩,⟨rfl,rfl,rfl,Nat.le_refl _,fun _ _ _ _=>rfl,hI'.var,hI'.warm,hI'.room⟩⟩
theorem PairsIn.down {cols:List Int} {x:Ex} {w w0 wp:World} {a b:Option Addr} {ca cb:Nat} {l r:List Zp} {v:Value} {R rv:Nat} (h:PairsIn cols x w0 wp a b ca cb l r v R rv) (hb:Below w.heap.size w w0):PairsIn cols x w wp a b ca cb l r v R rv:=by
 obtain ⟨lo,wc,hv,u,e,hn,h2,h3,h4,h5,h6,h7,h8⟩:=h
 exact ⟨lo,wc,hv,u,e,hn,h2,h3,h4,h5,h6,Nat.le_trans hb.size h7,chain hb h8⟩
theorem askable {left right:List Int} {x:Ex} {l r:List Zp} (h:TwoOk left right x l r):Askable (left ++ right) l r where
 ll:=set_len h.left
 rl:=set_len h.right
 row p hp q hq:=by
  have h1:=(h.left.fit p hp).len
  have h2:=(h.right.fit q hq).len
  have:=h.len
  omega
 fit p hp q hq:=fit_append (h.left.fit p hp) (h.right.fit q hq)
 mul p hp q hq:=by
  have h1:=set_in h.left p hp
  have h2:=set_in h.right q hq
  rw [inW_iff] at h1 h2
  exact mul_mid h1.1 h1.2 h2.1 h2.2
theorem join_ok {left right:List Int} {x:Ex} {l r:List Zp} (h:TwoOk left right x l r):(joinL x l r).length≤160000∧∀ y ∈ joinL x l r,bigW y.2=true∧y.1.length≤8:=by
 have hq:=askable h
 refine ⟨Nat.le_trans (joinL_len x l r) (Nat.mul_le_mul hq.ll hq.rl),fun y hy=>?_⟩
 unfold joinL at hy
 obtain ⟨p,hp,hy⟩:=List.mem_flatMap.1 hy
 unfold pairsOf at hy
 obtain ⟨q,hq',rfl⟩:=List.mem_map.1 hy
 have hq'':=(List.mem_filter.1 hq').1
 have h1:=hq.row p hp q hq''
 exact ⟨(bigW_iff _).2 (hq.mul p hp q hq''),by simpa using h1⟩
theorem name_ok {left right:List Int} {x:Ex} {l r:List Zp} (what:Nat) (h:TwoOk left right x l r):(nameL what right.length x l r).length≤200000∧∀ y ∈ nameL what right.length x l r,bigW y.2=true∧y.1.length≤8:=by
 have hj:=join_ok h
 have hl:=set_len h.left
 have one:∀ y ∈ l,bigW y.2=true∧y.1.length≤8:=fun y hy=>⟨inW_big (set_in h.left y hy),row8 h.left y hy⟩
 unfold nameL
 split
 ·exact ⟨by omega,hj.2⟩
 split
 ·refine ⟨Nat.le_trans (List.length_filter_le _ _) (by omega),fun y hy=>one y (List.mem_filter.1 hy).1⟩
 split
 ·refine ⟨Nat.le_trans (List.length_filter_le _ _) (by omega),fun y hy=>one y (List.mem_filter.1 hy).1⟩
 ·have ha:(antiL x l r).length≤l.length:=List.length_filter_le _ _
  refine ⟨?_,fun y hy=>?_⟩
  ·unfold leftL wideL
   rw [List.length_append,List.length_map]
   omega
  ·rcases List.mem_append.1 hy with hy | hy
   ·exact hj.2 y hy
   ·obtain ⟨p,hp,rfl⟩:=List.mem_map.1 hy
    have hp':=(List.mem_filter.1 hp).1
    have h1:=(h.left.fit p hp').len
    have h2:=h.len
    refine ⟨(one p hp').1,?_⟩
    simp only [List.length_append,nulls,List.length_replicate]
    omega

set_option maxRecDepth 100000 in
set_option maxHeartbeats 8000000 in
theorem ofPairs_at (what:Nat) (g:Nat) (cbs:Array Value) (left right:List Int) (x:Ex) (la:Option Addr) (lcap:Nat) (ra:Option Addr) (rcap:Nat) (xa:Option Addr) (xcap:Nat) (a:Option Addr) (ca:Nat) (l:List Zp) (b:Option Addr) (cb:Nat) (r:List Zp) (w:World)
  (hcl:IsAt w.heap.size w la left) (hcr:IsAt w.heap.size w ra right) (hx:KsAt w.heap.size w xa x.ks) (h:ZsAt w a l) (h':ZsAt w b r) (hll:left.length≤100000000000000) (hrl:right.length≤100000000000000)
  (eg:∀ args w,(callFunc g args).run Tryz.prog w = .ok (.enter g args) w)
  (hcall:∀ (W:World) (v:Value) (R rv:Nat),PairsIn (left ++ right) x w W a b ca cb l r v R rv→PInv W R rv W→TwoOk left right x l r→Calls Tryz.prog g (#[v] ++ cbs) W fun e w'=>∃ ua uc,e = .returned (.slice ua (nameL what right.length x l r).length uc)∧ZsAt w' ua (nameL what right.length x l r)∧Below w.heap.size w w') :
  Calls Tryz.prog 127 #[.slice la left.length lcap,.slice ra right.length rcap,exV x.k x.v x.c xa x.ks.length xcap,.slice a l.length ca,.slice b r.length cb,.func (.func g) #[] cbs] w fun e w'=>∃ v,e = .returned (.tuple #[v,.int .i64 (pairE what left right x l r)])∧OwnZ w.heap.size w' v (pairZ what left right x l r)∧Below w.heap.size w w':=by
 have h1:Below w.heap.size w (w.alloc (.cells #[.int .i64 x.k,.int .i64 x.v.1,.int .i64 x.v.2.1,.string x.v.2.2,.int .i64 x.c,.slice xa x.ks.length xcap] 27)):=(Below.refl _ _).alloc (Nat.le_refl _) _
 have con:=paired_at left right x la lcap ra rcap xa xcap a ca l b cb r (w.alloc (.cells #[.int .i64 x.k,.int .i64 x.v.1,.int .i64 x.v.2.1,.string x.v.2.2,.int .i64 x.c,.slice xa x.ks.length xcap] 27)) ((hcl.next h1 (Nat.le_refl _)).up h1.size) ((hcr.next h1 (Nat.le_refl _)).up h1.size) ((KsAt.next h1 (Nat.le_refl _) hx).up h1.size) (h.next h1) (h'.next h1) hll hrl
 have HC:Hid (∀ (W:World) (v:Value) (R rv:Nat),PairsIn (left ++ right) x w W a b ca cb l r v R rv→PInv W R rv W→TwoOk left right x l r→Calls Tryz.prog g (#[v] ++ cbs) W fun e w'=>∃ ua uc,e = .returned (.slice ua (nameL what right.length x l r).length uc)∧ZsAt w' ua (nameL what right.length x l r)∧Below w.heap.size w w'):=hcall
 clear hcall
 generalize hfz:pairZ what left right x l r=fz
 generalize hfe:pairE what left right x l r=fe
 have HZ:Hid (pairZ what left right x l r=fz):=hfz
 have HF:Hid (pairE what left right x l r=fe):=hfe
 clear hfz hfe
 by_cases ht:twoE left right x l r=0
 ·rw [ht] at con
  have HT:=(twoE_ok left right x l r).1 ht
  have H2:Hid (twoE left right x l r=0):=ht
  clear ht
  go_enter Tryz.func127,Tryz.ntmps127
  go_wp2_with fail
  generalize w.alloc (.cells #[.int .i64 x.k,.int .i64 x.v.1,.int .i64 x.v.2.1,.string x.v.2.2,.int .i64 x.c,.slice xa x.ks.length xcap] 27)=w1 at *
  refine con.mono ?_
  rintro e w2 ⟨v2,rfl,hor,hb2⟩
  have PO:PairsOk (left ++ right) x w1 w2 a b ca cb l r v2:=by
   rcases hor with ⟨_,h⟩ | ⟨c,_⟩
   ·exact h
   ·exact absurd trivial c
  clear hor
  obtain ⟨R,rv,PI,I2⟩:=PO.in_
  have PI:=PI.down h1
  clear con PO
  have hv2:∃ hv,v2 = .agg #[.slice a l.length ca,.slice b r.length cb,.func (.func 219) #[] #[.pointer (some ⟨rv,0,none⟩),.pointer (some ⟨hv,0,none⟩)]]:=by obtain ⟨_,_,hv,_,e,_⟩:=PI; exact ⟨hv,e⟩
  obtain ⟨hv,rfl⟩:=hv2
  have hal2:Below w2.heap.size w2 (w2.alloc (.cells #[.slice a l.length ca,.slice b r.length cb,.func (.func 219) #[] #[.pointer (some ⟨rv,0,none⟩),.pointer (some ⟨hv,0,none⟩)]] 162)):=(Below.refl _ _).alloc (Nat.le_refl _) _
  obtain ⟨PI3,I3⟩:=PI.later I2 hal2
  have con:=HC.out _ _ R rv PI3 I3 HT
  have hn:=name_ok what HT
  have H3:Hid (TwoOk left right x l r):=HT
  clear HT PI PI3 I3 I2 hal2
  dsimp only
  go_wp2_with fail
  generalize w2.alloc (.cells #[.slice a l.length ca,.slice b r.length cb,.func (.func 219) #[] #[.pointer (some ⟨rv,0,none⟩),.pointer (some ⟨hv,0,none⟩)]] 162)=w3 at *
  refine con.mono ?_
  rintro e w4 ⟨a4,c4,rfl,zs4,hb4⟩
  clear con
  have con:=gathered_at a4 c4 (nameL what right.length x l r) w4 zs4 hn.1 (fun y hy=>(hn.2 y hy).1) (fun y hy=>(hn.2 y hy).2)
  have e0:pairE what left right x l r=gatherE (nameL what right.length x l r):=by unfold pairE; rw [H2.out,if_neg (by simp)]
  have e1:gatherZ (nameL what right.length x l r)=fz:=by rw [← HZ.out]; unfold pairZ gatherZ; rw [e0]
  rw [← e0,HF.out,e1] at con
  clear e0 e1 zs4 hn
  generalize (nameL what right.length x l r).length=nl at *
  dsimp only
  go_wp2_with fail
  refine con.mono ?_
  rintro e w5 ⟨v5,rfl,O5,hb5⟩
  have O5':=O5.mono hb4.size
  obtain ⟨a5,c5,rfl,_⟩:=O5.zs
  clear con O5
  dsimp only
  go_wp2_with fail
  exact bodyPost_ret (v:=.tuple #[.slice a5 fz.length c5,.int .i64 fe]) (by simp [results,Tryz.results127,go_sem]) rfl ⟨_,rfl,O5',chain hb4 hb5⟩
 ·have e0:fe=twoE left right x l r:=by rw [← HF.out]; unfold pairE; rw [if_pos ht]
  have e1:fz = []:=by rw [← HZ.out]; unfold pairZ; rw [if_neg (by rw [HF.out,e0]; exact ht)]
  rw [← e0] at con ht
  have hne:(fe != 0)=true:=by simpa using ht
  subst e1
  clear e0
  go_enter Tryz.func127,Tryz.ntmps127
  go_wp2_with fail
  generalize w.alloc (.cells #[.int .i64 x.k,.int .i64 x.v.1,.int .i64 x.v.2.1,.string x.v.2.2,.int .i64 x.c,.slice xa x.ks.length xcap] 27)=w1 at *
  refine con.mono ?_
  rintro e w2 ⟨v2,rfl,hor,hb2⟩
  obtain ⟨c,_⟩ | ⟨_,rfl⟩:=hor
  ·exact absurd c ht
  clear con
  dsimp only
  go_wp2_with fail
  exact bodyPost_ret (v:=.tuple #[.slice none 0 0,.int .i64 fe]) (by simp [results,Tryz.results127,go_sem]) rfl ⟨_,rfl,⟨[],by simpa using World.ownsRow_nil _ _ _ _,⟨rfl,fun i hi=>by simp at hi⟩⟩,(chain h1 hb2).alloc (by have:=(chain h1 hb2).size; omega) _⟩

set_option maxRecDepth 100000 in
set_option maxHeartbeats 4000000 in
theorem join_at (left right:List Int) (x:Ex) (la:Option Addr) (lcap:Nat) (ra:Option Addr) (rcap:Nat) (xa:Option Addr) (xcap:Nat) (a:Option Addr) (ca:Nat) (l:List Zp) (b:Option Addr) (cb:Nat) (r:List Zp) (w:World)
  (hcl:IsAt w.heap.size w la left) (hcr:IsAt w.heap.size w ra right) (hx:KsAt w.heap.size w xa x.ks) (h:ZsAt w a l) (h':ZsAt w b r) (hll:left.length≤100000000000000) (hrl:right.length≤100000000000000) :
  Calls Tryz.prog 99 #[.slice la left.length lcap,.slice ra right.length rcap,exV x.k x.v x.c xa x.ks.length xcap,.slice a l.length ca,.slice b r.length cb] w fun e w'=>∃ v,e = .returned (.tuple #[v,.int .i64 (pairE 0 left right x l r)])∧OwnZ w.heap.size w' v (pairZ 0 left right x l r)∧Below w.heap.size w w':=by
 have h1:Below w.heap.size w (w.alloc (.cells #[.int .i64 x.k,.int .i64 x.v.1,.int .i64 x.v.2.1,.string x.v.2.2,.int .i64 x.c,.slice xa x.ks.length xcap] 27)):=(Below.refl _ _).alloc (Nat.le_refl _) _
 have zs1:=h.next h1
 have zs1':=h'.next h1
 have con:=ofPairs_at 0 128 #[] left right x la lcap ra rcap xa xcap a ca l b cb r (w.alloc (.cells #[.int .i64 x.k,.int .i64 x.v.1,.int .i64 x.v.2.1,.string x.v.2.2,.int .i64 x.c,.slice xa x.ks.length xcap] 27)) ((hcl.next h1 (Nat.le_refl _)).up h1.size) ((hcr.next h1 (Nat.le_refl _)).up h1.size) ((KsAt.next h1 (Nat.le_refl _) hx).up h1.size) zs1 zs1' hll hrl (enters_of Tryz.func128 (by kernel_rfl) rfl) (fun W v R rv hP hI hT=>by
  refine (joined_at (left ++ right) x _ W W a b ca cb l r v R rv hP hI zs1 zs1' (askable hT)).mono ?_
  rintro e w' ⟨u,rfl,OJ,I',z'⟩
  obtain ⟨_,_,_,_,_,hn,_,_,_,_,_,hR,hB⟩:=hP
  obtain ⟨ua,uc,rfl,zu⟩:=OJ.z.zs
  exact ⟨ua,uc,rfl,zu,hB.trans ((I'.below hn).mono hR)⟩)
 generalize hfz:pairZ 0 left right x l r=fz at *
 generalize hfe:pairE 0 left right x l r=fe at *
 clear hfz hfe
 go_enter Tryz.func99,Tryz.ntmps99
 go_wp2_with fail
 generalize w.alloc (.cells #[.int .i64 x.k,.int .i64 x.v.1,.int .i64 x.v.2.1,.string x.v.2.2,.int .i64 x.c,.slice xa x.ks.length xcap] 27)=w1 at *
 refine con.mono ?_
 rintro e w2 ⟨v2,rfl,O2,hb2⟩
 have O2':=O2.mono h1.size
 obtain ⟨a2,c2,rfl,_⟩:=O2.zs
 clear con O2
 dsimp only
 go_wp2_with fail
 exact bodyPost_ret (v:=.tuple #[.slice a2 fz.length c2,.int .i64 fe]) (by simp [results,Tryz.results99,go_sem]) rfl ⟨_,rfl,O2',chain h1 hb2⟩
end Go.Proofs.YtohjlfhmnmcndaaGreat
/- The walks of slices.IndexFunc and slices.ContainsFunc over rows, and of ops.isMatched. -/
namespace Go.Proofs.YtohjlfhmnmcndaaGreat
open Go.RowKit Go.Lib Go.Shelf

/-- The first place where p holds, from k on. -/
def idxF (p:Zp→Bool):Nat→List Zp→Int
 | _,[]=>-1
 | k,y :: r=>if p y then k else idxF p (k+1) r
theorem idxF_any (p:Zp→Bool):∀ (k:Nat) (l:List Zp),decide (0≤idxF p k l)=l.any p
 | _,[]=>rfl
 | k,y :: r=>by
  rw [idxF,List.any_cons,← idxF_any p (k+1) r]
  cases p y <;> simp
theorem idxF_drop (p:Zp→Bool) {l:List Zp} {k:Nat} (h:k<l.length):idxF p k (l.drop k)=if p l[k] then (k:Int) else idxF p (k+1) (l.drop (k+1)):=by
 rw [List.drop_eq_getElem_cons h,idxF]

set_option maxRecDepth 100000 in
set_option maxHeartbeats 4000000 in
theorem index_at (g:Nat) (cb:Array Value) (p:Zp→Bool) (a:Option Addr) (cap:Nat) (l:List Zp) (w0 w:World) (Inv:World→Prop) (h:ZsAt w0 a l) (hl:l.length≤100000)
  (eg:∀ args w,(callFunc g args).run Tryz.prog w = .ok (.enter g args) w) (hI0:Inv w) (hI1:∀ W,Inv W→Below w0.heap.size w0 W)
  (hcall:∀ x ∈ l,∀ (ra:Option Addr) (rc:Nat) (W:World),Inv W→SlAt w0 ra x.1→w.heap.size≤W.heap.size→Calls Tryz.prog g (#[.agg #[.slice ra x.1.length rc,.int .i64 x.2]] ++ cb) W fun e w'=>e = .returned (.bool (p x))∧Inv w'∧w.heap.size≤w'.heap.size) :
  Calls Tryz.prog 220 #[.slice a l.length cap,.func (.func g) #[] cb] w fun e w'=>e = .returned (.int .i64 (idxF p 0 l))∧Inv w'∧w.heap.size≤w'.heap.size:=by
 have HC:Hid (∀ x ∈ l,∀ (ra:Option Addr) (rc:Nat) (W:World),Inv W→SlAt w0 ra x.1→w.heap.size≤W.heap.size→Calls Tryz.prog g (#[.agg #[.slice ra x.1.length rc,.int .i64 x.2]] ++ cb) W fun e w'=>e = .returned (.bool (p x))∧Inv w'∧w.heap.size≤w'.heap.size):=hcall
 have H1:Hid (∀ W,Inv W→Below w0.heap.size w0 W):=hI1
 clear hcall hI1
 generalize hf:idxF p 0 l=f
 have HF:Hid (idxF p 0 l=f):=hf
 clear hf
 go_enter Tryz.func220,Tryz.ntmps220
 go_wp2_with fail
 go_loopw [8] (fun i wr=>∃ k:Nat,k≤l.length∧i = .int .i64 k∧Hid (f=idxF p k (l.drop k))∧Hid (Inv wr)∧w.heap.size≤wr.heap.size) (fun i _=>l.length - (intOf i).toNat)
 case atStart=>exact ⟨0,Nat.zero_le _,rfl,HF.out.symm,hI0,Nat.le_refl _⟩
 case round =>
  clear hI0
  obtain ⟨k,hk,rfl,HK,HI,hz⟩:=hrel
  by_cases hlt:k<l.length
  ·obtain ⟨b,off,rfl,hbl,d1,ar,cr,d0,sr⟩:=h.elem hlt
   have hB:=H1.out _ HI.out
   have c1:=(hB.cell (p:=⟨b,_,none⟩) hbl).trans d1
   have c0:=(hB.cell (p:=⟨b,_,none⟩) hbl).trans d0
   have con:=HC.out l[k] (List.getElem_mem hlt) ar cr wr HI.out sr hz
   have HD:Hid (idxF p k (l.drop k)=if p l[k] then (k:Int) else idxF p (k+1) (l.drop (k+1))):=idxF_drop p hlt
   clear d0 d1 sr
   by_cases hp:p l[k]=true
   ·rw [hp] at con
    have HP:Hid (p l[k]=true):=hp
    clear hp
    have e:f=(k:Int):=by rw [HK.out,HD.out,HP.out,if_pos rfl]
    go_wp2_with (go_at_fn g; refine con.mono ?_; rintro e w1 ⟨rfl,I1,s1⟩)
    go_ret
    exact ⟨by rw [e]; rfl,I1,s1⟩
   ·have hp:p l[k]=false:=by simpa using hp
    rw [hp] at con
    have HP:Hid (p l[k]=false):=hp
    clear hp
    have HE:Hid (f=idxF p (k+1) (l.drop (k+1))):=by show f=_; rw [HK.out,HD.out,HP.out,if_neg (by decide)]
    go_wp2_with (go_at_fn g; refine con.mono ?_; rintro e w1 ⟨rfl,I1,s1⟩)
    have HI1:Hid (Inv w1):=I1
    clear con I1
    go_roundw
    case rel=>exact ⟨k+1,by omega,by go_num,HE,HI1,s1⟩
    case measure=>simp [intOf]; omega
  ·have e:k=l.length:=by omega
   subst e
   have e:f = -1:=by rw [HK.out,List.drop_length]; rfl
   go_wp2_with fail
   go_ret
   exact ⟨by rw [e]; rfl,HI.out,hz⟩
set_option maxRecDepth 100000 in
set_option maxHeartbeats 4000000 in
theorem contains_at (g:Nat) (cb:Array Value) (p:Zp→Bool) (a:Option Addr) (cap:Nat) (l:List Zp) (w0 w:World) (Inv:World→Prop) (h:ZsAt w0 a l) (hl:l.length≤100000)
  (eg:∀ args w,(callFunc g args).run Tryz.prog w = .ok (.enter g args) w) (hI0:Inv w) (hI1:∀ W,Inv W→Below w0.heap.size w0 W)
  (hcall:∀ x ∈ l,∀ (ra:Option Addr) (rc:Nat) (W:World),Inv W→SlAt w0 ra x.1→w.heap.size≤W.heap.size→Calls Tryz.prog g (#[.agg #[.slice ra x.1.length rc,.int .i64 x.2]] ++ cb) W fun e w'=>e = .returned (.bool (p x))∧Inv w'∧w.heap.size≤w'.heap.size) :
  Calls Tryz.prog 194 #[.slice a l.length cap,.func (.func g) #[] cb] w fun e w'=>e = .returned (.bool (l.any p))∧Inv w'∧w.heap.size≤w'.heap.size:=by
 have con:=index_at g cb p a cap l w0 w Inv h hl eg hI0 hI1 hcall
 have ha:=idxF_any p 0 l
 generalize idxF p 0 l=f at *
 rw [← ha]
 clear hcall hI1 hI0 ha
 go_enter Tryz.func194,Tryz.ntmps194
 go_wp2_with fail
 refine con.mono ?_
 rintro e w1 ⟨rfl,I1,s1⟩
 have H1:Hid (Inv w1):=I1
 clear con I1
 go_wp2_with fail
 go_ret
 exact ⟨rfl,H1.out,s1⟩

theorem isThere_at (ra:Option Addr) (n rc:Nat) (x:Int) (w:World) :
  Calls Tryz.prog 157 #[.agg #[.slice ra n rc,.int .i64 x]] w fun e w'=>e = .returned (.bool (decide (0<x)))∧Below w.heap.size w w':=by
 go_enter Tryz.func157,Tryz.ntmps157
 go_wp2_with fail
 go_ret
 exact ⟨rfl,(Below.refl _ _).alloc (Nat.le_refl _) _⟩

set_option maxRecDepth 100000 in
set_option maxHeartbeats 8000000 in
theorem matched1_at (cols:List Int) (lo:Nat) (x:Ex) (wc wp w0:World) (R rv hv:Nat) (u:Value) (hn:PNew wp R rv) (hv0:hv<R) (hc:wp.cell? ⟨hv,0,none⟩=some u) (hC:Conds cols lo u x wc) (hcR:wc.heap.size≤R) (hcp:Since lo wc wp) (h0:w0.heap.size≤R) (h0p:Below w0.heap.size w0 wp)
  (a b:Option Addr) (ca cb:Nat) (l r:List Zp) (pb lb:Nat) (pa qa:Option Addr) (pc qc:Nat) (y q:Zp) (W:World) (hI:PInv wp R rv W) (sy:SlAt w0 pa y.1) (sq:SlAt w0 qa q.1) (h8:y.1.length+q.1.length≤8) (hf:FitP cols (y.1 ++ q.1))
  (cp:W.heap[pb]? = some (.cells #[.slice a l.length ca,.slice b r.length cb,.func (.func 219) #[] #[.pointer (some ⟨rv,0,none⟩),.pointer (some ⟨hv,0,none⟩)]] 162 (0,0))) (cl:W.heap[lb]? = some (.cells #[.slice pa y.1.length pc,.int .i64 y.2] 58 (0,0))) :
  Calls Tryz.prog 195 #[.agg #[.slice qa q.1.length qc,.int .i64 q.2],.pointer (some ⟨pb,0,none⟩),.pointer (some ⟨lb,0,none⟩)] W fun e w'=>e = .returned (.bool (decide (0<q.2) && holdsP x (y.1 ++ q.1)))∧PInv wp R rv w'∧Since (rv+1) W w':=by
 have h1:Below W.heap.size W (W.alloc (.cells #[.slice qa q.1.length qc,.int .i64 q.2] 58)):=(Below.refl _ _).alloc (Nat.le_refl _) _
 have q1:=heap_new W #[.slice qa q.1.length qc,.int .i64 q.2] 58
 have p1:=(h1.block pb (lt_of_heap cp)).trans cp
 have l1:=(h1.block lb (lt_of_heap cl)).trans cl
 have I1:PInv wp R rv (W.alloc (.cells #[.slice qa q.1.length qc,.int .i64 q.2] 58)):=hI.later hn hI.size h1
 have e1:(W.alloc (.cells #[.slice qa q.1.length qc,.int .i64 q.2] 58)).heap.size=W.heap.size+1:=by simp
 have hrv:=hI.sz hn
 generalize hans:(decide (0<q.2) && holdsP x (y.1 ++ q.1))=ans
 have HA:Hid ((decide (0<q.2) && holdsP x (y.1 ++ q.1))=ans):=hans
 clear hans
 go_enter Tryz.func195,Tryz.ntmps195
 go_wp2_with fail
 generalize W.alloc (.cells #[.slice qa q.1.length qc,.int .i64 q.2] 58)=w1 at *
 refine (isThere_at qa q.1.length qc q.2 w1).mono ?_
 rintro e w2 ⟨rfl,hb2⟩
 have q2:=(hb2.block _ (lt_of_heap q1)).trans q1
 have p2:=(hb2.block _ (lt_of_heap p1)).trans p1
 have l2:=(hb2.block _ (lt_of_heap l1)).trans l1
 have I2:=I1.later hn I1.size hb2
 have S2:Since (rv+1) W w2:=Since.of (chain h1 hb2)
 have k0:w2.cell? ⟨pb,2,none⟩=some (.func (.func 219) #[] #[.pointer (some ⟨rv,0,none⟩),.pointer (some ⟨hv,0,none⟩)]):=cell_of (i:=2) p2 rfl
 have k1:w2.cell? ⟨lb,0,none⟩=some (.slice pa y.1.length pc):=cell_of (i:=0) l2 rfl
 have k2:w2.cell? ⟨W.heap.size,0,none⟩=some (.slice qa q.1.length qc):=cell_of (i:=0) q2 rfl
 have con:=both1_at cols lo x wc wp w0 R rv hv u hn hv0 hc hC hcR hcp h0 h0p pa qa pc qc y.1 q.1 w2 I2 sy sq h8 hf
 generalize hhp:holdsP x (y.1 ++ q.1)=t at *
 clear hhp
 have HI2:Hid (PInv wp R rv w2):=I2
 clear q1 p1 l1 I1 q2 p2 l2 I2 hC hI cp cl
 dsimp only
 by_cases hq:0<q.2
 ·have hd:decide (0<q.2)=true:=by simpa using hq
  rw [hd]
  have ea:t=ans:=by rw [← HA.out,hd,Bool.true_and]
  subst ea
  go_wp2_with fail
  refine con.mono ?_
  rintro e w3 ⟨rfl,I3,S3⟩
  have HI3:Hid (PInv wp R rv w3):=I3
  have S4:=S2.trans S3
  clear con I3
  dsimp only
  go_wp2_with fail
  go_ret
  exact ⟨rfl,HI3.out,S4⟩
 ·have hd:decide (0<q.2)=false:=by simpa using hq
  rw [hd]
  have ea:ans=false:=by rw [← HA.out,hd,Bool.false_and]
  subst ea
  clear con
  go_wp2_with fail
  go_ret
  exact ⟨rfl,HI2.out,S2⟩

set_option maxRecDepth 100000 in
set_option maxHeartbeats 8000000 in
theorem isMatched_at (cols:List Int) (x:Ex) (w0 wp w:World) (a b:Option Addr) (ca cb:Nat) (l r:List Zp) (v:Value) (R rv:Nat) (hP:PairsIn cols x w0 wp a b ca cb l r v R rv) (hI:PInv wp R rv w) (zb:ZsAt w0 b r) (hr:r.length≤400) (pa:Option Addr) (pc:Nat) (y:Zp) (sy:SlAt w0 pa y.1) (h8:∀ q ∈ r,y.1.length+q.1.length≤8) (hf:∀ q ∈ r,FitP cols (y.1 ++ q.1)) :
  Calls Tryz.prog 162 #[v,.agg #[.slice pa y.1.length pc,.int .i64 y.2]] w fun e w'=>e = .returned (.bool (hasP x r y.1))∧PInv wp R rv w'∧Since (rv+1) w w':=by
 obtain ⟨lo,wc,hv,u,rfl,hn,hv0,hc,hC,hcR,hcp,h0,h0p⟩:=hP
 have hrv:=hI.sz hn
 have h1:Below w.heap.size w (w.alloc (.cells #[.slice a l.length ca,.slice b r.length cb,.func (.func 219) #[] #[.pointer (some ⟨rv,0,none⟩),.pointer (some ⟨hv,0,none⟩)]] 162)):=(Below.refl _ _).alloc (Nat.le_refl _) _
 have p1:=heap_new w #[.slice a l.length ca,.slice b r.length cb,.func (.func 219) #[] #[.pointer (some ⟨rv,0,none⟩),.pointer (some ⟨hv,0,none⟩)]] 162
 have e1:(w.alloc (.cells #[.slice a l.length ca,.slice b r.length cb,.func (.func 219) #[] #[.pointer (some ⟨rv,0,none⟩),.pointer (some ⟨hv,0,none⟩)]] 162)).heap.size=w.heap.size+1:=by simp
 generalize hans:hasP x r y.1=t
 have HA:Hid (hasP x r y.1=t):=hans
 clear hans
 go_enter Tryz.func162,Tryz.ntmps162
 go_wp2_with fail
 generalize w.alloc (.cells #[.slice a l.length ca,.slice b r.length cb,.func (.func 219) #[] #[.pointer (some ⟨rv,0,none⟩),.pointer (some ⟨hv,0,none⟩)]] 162)=w1 at *
 have h2:Below w1.heap.size w1 (w1.alloc (.cells #[.slice pa y.1.length pc,.int .i64 y.2] 58)):=(Below.refl _ _).alloc (Nat.le_refl _) _
 have l2:=heap_new w1 #[.slice pa y.1.length pc,.int .i64 y.2] 58
 have e2:(w1.alloc (.cells #[.slice pa y.1.length pc,.int .i64 y.2] 58)).heap.size=w1.heap.size+1:=by simp
 have p2:=(h2.block _ (lt_of_heap p1)).trans p1
 generalize w1.alloc (.cells #[.slice pa y.1.length pc,.int .i64 y.2] 58)=w2 at *
 rw [e1] at l2
 have I2:PInv wp R rv w2:=hI.later hn hI.size (chain h1 h2)
 refine (contains_at 195 #[.pointer (some ⟨w.heap.size,0,none⟩),.pointer (some ⟨w.heap.size+1,0,none⟩)] (fun q=>decide (0<q.2) && holdsP x (y.1 ++ q.1)) b cb r w0 w2 (fun W=>PInv wp R rv W∧Since (rv+1) w2 W) zb (by omega) (enters_of Tryz.func195 (by kernel_rfl) rfl) ⟨I2,Since.refl _ _⟩ (fun W hW=>h0p.trans ((hW.1.below hn).mono h0)) ?_).mono ?_
 ·intro q hq qa qc W hW sq _
  refine (matched1_at cols lo x wc wp w0 R rv hv u hn hv0 hc hC hcR hcp h0 h0p a b ca cb l r w.heap.size (w.heap.size+1) pa qa pc qc y q W hW.1 sy sq (h8 q hq) (hf q hq) ((hW.2.2 w.heap.size (by omega) (by omega)).trans p2) ((hW.2.2 (w.heap.size+1) (by omega) (by omega)).trans l2)).mono ?_
  rintro e w' ⟨rfl,I',S'⟩
  exact ⟨rfl,⟨I',hW.2.trans S'⟩,by have:=hW.2.1; have:=S'.1; omega⟩
 rintro e w3 ⟨rfl,⟨I3,S3⟩,_⟩
 have HI3:Hid (PInv wp R rv w3):=I3
 have S4:Since (rv+1) w w3:=(Since.of (chain h1 h2)).trans S3
 have ha:(r.any fun q=>decide (0<q.2) && holdsP x (y.1 ++ q.1))=t:=HA.out
 rw [ha]
 clear p1 p2 l2 I2 I3 ha hC hI
 dsimp only
 go_wp2_with fail
 go_ret
 exact ⟨rfl,HI3.out,S4⟩
end Go.Proofs.YtohjlfhmnmcndaaGreat
/- The walk of ops.inOrder: rows with keys, gathered and sorted. -/
namespace Go.Proofs.YtohjlfhmnmcndaaGreat
open Go.RowKit Go.Lib Go.Shelf

/-- Rows with keys in a slice of one's own: the keys' values lie in blocks of values, the rows' in w0. -/
def EncK (w0 W:World) (xs:List Value) (l:List Kp):Prop:=xs.length=l.length*3∧∀ i (hi:i<l.length),∃ ka kc ra rc,xs[i*3]? = some (.slice ka l[i].1.length kc)∧xs[i*3+1]? = some (.slice ra l[i].2.1.length rc)∧xs[i*3+2]? = some (.int .i64 l[i].2.2)∧(SlAt W ka l[i].1∧TyAt W ka)∧SlAt w0 ra l[i].2.1
def OwnK (w0:World) (base:Nat) (W:World) (v:Value) (l:List Kp):Prop:=∃ xs,W.ownsRow base 157 3 v l.length xs∧EncK w0 W xs l
theorem OwnK.nil (w0:World) (base:Nat) (W:World):OwnK w0 base W (.slice none 0 0) []:=⟨[],by simpa using World.ownsRow_nil _ _ _ _,rfl,fun i hi=>by simp at hi⟩
theorem EncK.next {w0 W w1:World} {xs:List Value} {l:List Kp} (h:EncK w0 W xs l) (hb:Below W.heap.size W w1):EncK w0 w1 xs l:=by
 obtain ⟨h2,h3⟩:=h
 refine ⟨h2,fun i hi=>?_⟩
 obtain ⟨ka,kc,ra,rc,e0,e1,e2,⟨e3,e4⟩,e5⟩:=h3 i hi
 exact ⟨ka,kc,ra,rc,e0,e1,e2,⟨e3.next hb,e4.next hb⟩,e5⟩
theorem OwnK.next {w0 W w1:World} {base:Nat} {v:Value} {l:List Kp} (h:OwnK w0 base W v l) (hb:Below W.heap.size W w1):OwnK w0 base w1 v l:=by
 obtain ⟨xs,h1,h2⟩:=h
 exact ⟨xs,own_next h1 hb,h2.next hb⟩
theorem sl_grown3 {W w1:World} {base n:Nat} {v:Value} {xs:List Value} {a:Option Addr} {r:List Vl} (h:SlAt W a r) (ht:TyAt W a) (ho:W.ownsRow base 157 3 v n xs) (hg:W.grownBy w1 v.ownBlock):SlAt w1 a r∧TyAt w1 a:=by
 have key:∀ b off,a=some ⟨b,off,none⟩→w1.heap[b]? = W.heap[b]?:=by
  intro b off e
  obtain ⟨c,z,h1⟩:=ht b off e
  have hlt:b<W.heap.size:=lt_of_heap h1
  refine hg.block b hlt ?_
  obtain ⟨_,⟨rfl,_⟩ | ⟨g,cap,cur,rfl,_,hh,_⟩⟩:=ho
  ·simp [Value.ownBlock]
  ·simp only [Value.ownBlock]
   intro e
   injection e with e
   subst e
   rw [hh] at h1
   simp at h1
 refine ⟨⟨h.1,?_⟩,?_⟩
 ·rcases h.2 with h | ⟨b,off,e,hr,hlt⟩
  ·exact .inl h
  ·refine .inr ⟨b,off,e,fun i hi=>?_,Nat.lt_of_lt_of_le hlt hg.size⟩
   have k:=key b off e
   obtain ⟨c0,c1,c2⟩:=hr i hi
   exact ⟨(World.cell?_of_block (a:=⟨b,_,none⟩) k).trans c0,(World.cell?_of_block (a:=⟨b,_,none⟩) k).trans c1,(World.cell?_of_block (a:=⟨b,_,none⟩) k).trans c2⟩
 ·intro b off e
  obtain ⟨c,z,h1⟩:=ht b off e
  exact ⟨c,z,(key b off e).trans h1⟩
theorem OwnK.push {w0 W w1:World} {base:Nat} {v v':Value} {xs:List Value} {l:List Kp} {ka ra:Option Addr} {kc rc:Nat} {x:Kp}
  (ho:W.ownsRow base 157 3 v l.length xs) (he:EncK w0 W xs l) (hs:SlAt W ka x.1) (ht:TyAt W ka) (hr:SlAt w0 ra x.2.1)
  (ho':w1.ownsRow base 157 3 v' (l.length+1) (xs ++ [.slice ka x.1.length kc,.slice ra x.2.1.length rc,.int .i64 x.2.2])) (hg:W.grownBy w1 v.ownBlock):OwnK w0 base w1 v' (l ++ [x]):=by
 have lx:=he.1
 refine ⟨_,by simpa using ho',by simp [he.1]; omega,?_⟩
 intro i hi
 by_cases hi':i<l.length
 ·obtain ⟨ka',kc',ra',rc',h1,h2,h3,⟨h4,h5⟩,h6⟩:=he.2 i hi'
  have g:=sl_grown3 h4 h5 ho hg
  rw [List.getElem_append_left hi']
  exact ⟨ka',kc',ra',rc',by rw [List.getElem?_append_left (by omega),h1],by rw [List.getElem?_append_left (by omega),h2],by rw [List.getElem?_append_left (by omega),h3],g,h6⟩
 ·have:i=l.length:=by simp at hi; omega
  subst this
  have g:=sl_grown3 hs ht ho hg
  refine ⟨ka,kc,ra,rc,?_,?_,?_,?_,?_⟩
  ·rw [List.getElem?_append_right (by omega)]; simp [lx]
  ·rw [List.getElem?_append_right (by omega)]; simp [lx]
  ·rw [List.getElem?_append_right (by omega)]; simp [lx]
  ·simpa using g
  ·simpa using hr
theorem withK_take {xs:List Ex} {m:List Zp} {k:Nat} (h:k<m.length):((m.take (k+1)).map fun p=>(rowX xs p.1,p))=((m.take k).map fun p=>(rowX xs p.1,p)) ++ [(rowX xs m[k].1,m[k])]:=by
 rw [List.take_succ_eq_append_getElem h,List.map_append]; rfl
theorem infoK:(Tryz.prog.info? 157).map (fun i=>(i.zero,i.size,i.bytes))=some (some (.agg #[.slice none 0 0,.slice none 0 0,.int .i64 0]),3,56):=by kernel_rfl

end Go.Proofs.YtohjlfhmnmcndaaGreat
/- The walk of ops.inOrder. -/
namespace Go.Proofs.YtohjlfhmnmcndaaGreat
open Go.RowKit Go.Lib Go.Shelf

/-- The slice of one's own as an array for the sort. -/
theorem OwnK.arr {w0 W:World} {base:Nat} {v:Value} {l:List Kp} (h:OwnK w0 base W v l) (hb:Below w0.heap.size w0 W) (hbs:w0.heap.size≤base):(l = []∧v = .slice none 0 0)∨∃ (g cap:Nat) (d:Array (Kg W g)),v = .slice (some ⟨g,0,none⟩) l.length cap∧base≤g∧g<W.heap.size∧d.size=l.length∧d.toList.map (plK W g)=l∧Go.Sort.HoldsK (encK W g) 3 W g 0 d:=by
 obtain ⟨xs,h1,h2,h3⟩:=h
 have h1':=h1
 obtain ⟨hx,⟨rfl,h0⟩ | ⟨g,cap,cur,rfl,hg,hh,hn,hc,hs,ht⟩⟩:=h1
 ·exact .inl ⟨List.eq_nil_of_length_eq_zero h0,rfl⟩
 ·right
  have offK:∀ a r,TyAt W a→Off g a r:=fun a r ha=>.inr fun b off e hbg=>by
   obtain ⟨c,z,h1⟩:=ha b off e
   rw [hbg,hh] at h1
   simp at h1
  have offR:∀ a r,SlAt w0 a r→Off g a r:=fun a r ha=>by
   rcases ha.2 with e | ⟨b,o,e,hr,hlt⟩
   ·exact .inl e
   ·exact .inr fun b' o' e' hbg=>by
     rw [e] at e'
     have e':=Option.some.inj e'
     injection e' with e1
     have:=(h1'.lt g rfl).1
     omega
  obtain ⟨f,hf⟩:=Go.Deep.choose_lt (α:=Kg W g) (n:=l.length) (p:=fun i x=>∀ hi:i<l.length,plK W g x=l[i]∧xs[i*3]? = some (.slice x.1.ka x.1.keys.length x.1.kc)∧xs[i*3+1]? = some (.slice x.1.ra x.1.row.length x.1.rc)∧xs[i*3+2]? = some (.int .i64 x.1.w)) (fun i hi=>by
   obtain ⟨ka,kc,ra,rc,e0,e1,e2,⟨e3,e4⟩,e5⟩:=h3 i hi
   exact ⟨⟨⟨ka,kc,l[i].1,ra,rc,l[i].2.1,l[i].2.2⟩,⟨e3,offK _ _ e4⟩,e5.next hb,offR _ _ e5⟩,fun _=>⟨rfl,e0,e1,e2⟩⟩)
  have hd:∀ i,i<l.length→((Array.range l.length).map f)[i]! = f i:=fun i hi=>by simp [hi]
  refine ⟨g,cap,(Array.range l.length).map f,rfl,(h1'.lt g rfl).1,(h1'.lt g rfl).2,by simp,?_,?_⟩
  ·apply List.ext_getElem
   ·simp
   ·intro i g1 g2
    have:=(hf i g2 g2).1
    simpa using this
  ·intro j hj
   have hj':j<l.length*3:=by simpa using hj
   refine ⟨?_,by rw [Nat.zero_add]; exact h1'.frozenAt j⟩
   have hi:j / 3<l.length:=by omega
   obtain ⟨_,g0,g1,g2⟩:=hf (j / 3) hi hi
   rw [Nat.zero_add,h1'.cellAt j hj']
   show _=some (Go.Sort.flatK (encK W g) 3 ((Array.range l.length).map f))[j]!
   rw [Go.Sort.get_flatK _ _ _ _ (by simpa using hj'),hd _ hi]
   have h3':j % 3=0∨j % 3=1∨j % 3=2:=by omega
   rcases h3' with e | e | e
   ·rw [e]; rw [show j / 3*3=j by omega] at g0; rw [g0]; rfl
   ·rw [e]; rw [show j / 3*3+1=j by omega] at g1; rw [g1]; rfl
   ·rw [e]; rw [show j / 3*3+2=j by omega] at g2; rw [g2]; rfl
theorem holdsK_kd {w W:World} {g:Nat} {d:Array (Kg w g)} (hS:SWK (encK w g) 3 w g 0 d W) (hH:Go.Sort.HoldsK (encK w g) 3 W g 0 d) (hlt:g<W.heap.size):KdAt W (some ⟨g,0,none⟩) (d.toList.map (plK w g)):=by
 refine .inr ⟨g,0,rfl,hlt,fun i hi=>?_⟩
 have hi':i<d.size:=by simpa using hi
 have e:d[i]! = d[i]:=getElem!_pos d i hi'
 have h0:=(hH (i*3) (by simp; omega)).1
 have h1:=(hH (i*3+1) (by simp; omega)).1
 have h2:=(hH (i*3+2) (by simp; omega)).1
 show ElK W g (0+i*3) _
 rw [Go.Sort.get_flatK _ _ _ _ (by omega),show i*3 / 3=i by omega,show i*3 % 3=0 by omega,e] at h0
 rw [Go.Sort.get_flatK _ _ _ _ (by omega),show (i*3+1) / 3=i by omega,show (i*3+1) % 3=1 by omega,e,← Nat.add_assoc] at h1
 rw [Go.Sort.get_flatK _ _ _ _ (by omega),show (i*3+2) / 3=i by omega,show (i*3+2) % 3=2 by omega,e,← Nat.add_assoc] at h2
 simp only [List.getElem_map,Array.getElem_toList]
 exact ⟨h2,⟨d[i].1.ra,d[i].1.rc,h1,sl_sort d[i].2.2.1 d[i].2.2.2 hS⟩,d[i].1.ka,d[i].1.kc,h0,sl_sort d[i].2.1.1 d[i].2.1.2 hS⟩
theorem rowK_of {W:World} {g:Nat} {d:Array (Kg W g)} (hH:Go.Sort.HoldsK (encK W g) 3 W g 0 d) (hlt:g<W.heap.size):RowK (encK W g) 3 W g 0 d where
 hk _:=rfl
 h1 x v hv:=by simp [encK] at hv; rcases hv with rfl | rfl | rfl <;> rfl
 hH:=hH
 hblk:=hlt
theorem ordered {W:World} {g:Nat} {d d':Array (Kg W g)} {xs:List Ex} {z:List Zp} (hz:Rise z) (hd:d.toList.map (plK W g)=withK xs z) (hp:Go.Sort.PermIn 0 d.size d d') (hs:SortS (cfK W g) (preK W g) 0 d.size d'):d'.toList.map (plK W g)=inOrd xs z:=by
 have hl:d'.size=d.size:=hp.1
 refine sorted_uniq _ _ ?_ ?_ (inOrd_sorted hz)
 ·refine List.Perm.trans ?_ ((inOrd_perm xs z).symm)
  rw [← hd]
  refine List.Perm.map _ ?_
  have:=hp.2.2
  rw [Array.extract_eq_self_of_le (by omega),Array.extract_eq_self_of_le (by omega)] at this
  exact this
 ·rw [List.pairwise_map,List.pairwise_iff_getElem]
  intro i j hi hj hij
  have hi':i<d'.size:=by simpa using hi
  have hj':j<d'.size:=by simpa using hj
  have:=hs i j (Nat.zero_le _) hij (by omega)
  rw [getElem!_pos d' i hi',getElem!_pos d' j hj'] at this
  exact this
theorem preS_of {W:World} {g:Nat} {d:Array (Kg W g)} {xs:List Ex} {z:List Zp} (hz:Rise z) (hd:d.toList.map (plK W g)=withK xs z):PreS (preK W g) 0 d.size d:=fun i j _ hij hj=>by
 have hr:=withK_rise (xs:=xs) hz
 rw [← hd,List.pairwise_map,List.pairwise_iff_getElem] at hr
 have:=hr i j (by simpa using (by omega:i<d.size)) (by simpa using hj) hij
 rw [getElem!_pos d i (by omega),getElem!_pos d j hj]
 exact this

/-- The sort of a slice of one's own. -/
theorem sorted_at (W:World) (g cap:Nat) (d:Array (Kg W g)) (xs:List Ex) (z:List Zp) (hz:Rise z) (hl:d.size≤1000000) (hlt:g<W.heap.size) (hd:d.toList.map (plK W g)=withK xs z) (hH:Go.Sort.HoldsK (encK W g) 3 W g 0 d) (w0:World) (hw:w0.heap.size≤g) (hb:Below w0.heap.size w0 W) :
  Calls Tryz.prog 158 #[.slice (some ⟨g,0,none⟩) d.size cap,.func (.func 159) #[] #[]] W fun e w'=>e = .returned (.tuple #[])∧KdAt w' (some ⟨g,0,none⟩) (inOrd xs z)∧Below w0.heap.size w0 w':=by
 have R:=rowK_of hH hlt
 have eg:∀ args w,(callFunc 159 args).run Tryz.prog w = .ok (.enter 159 args) w:=enters_of Tryz.func159 (by kernel_rfl) rfl
 have eSw:∀ args w,(callFunc 249 args).run Tryz.prog w = .ok (.enter 249 args) w:=enters_of Tryz.func249 (by kernel_rfl) rfl
 have eRo:∀ args w,(callFunc 241 args).run Tryz.prog w = .ok (.enter 241 args) w:=enters_of Tryz.func241 (by kernel_rfl) rfl
 have eSy:∀ args w,(callFunc 218 args).run Tryz.prog w = .ok (.enter 218 args) w:=enters_of Tryz.func218 (by kernel_rfl) rfl
 have eIn:∀ args w,(callFunc 217 args).run Tryz.prog w = .ok (.enter 217 args) w:=enters_of Tryz.func217 (by kernel_rfl) rfl
 have eSt:∀ args w,(callFunc 192 args).run Tryz.prog w = .ok (.enter 192 args) w:=enters_of Tryz.func192 (by kernel_rfl) rfl
 refine (sortStable_at 3 Tryz.klay (encK W g) (ordrK W g) 159 #[] g 0 cap d W hl (SWK.start hH) (preS_of hz hd) eIn eSy eSt (insAtK W g 0 cap d R hl) (sym_at 3 Tryz.klay (encK W g) (cfK W g) (preK W g) (ordrK W g) 159 #[] g 0 cap d W (by omega) eg (cmpLaysK W g 0 d.size) R eSw eRo eSy)).mono ?_
 rintro e w' ⟨rfl,d',hp,hs,S⟩
 refine ⟨rfl,?_,below_sort hb hw S⟩
 rw [← ordered hz hd hp hs]
 exact holdsK_kd S (S.holds hlt hH hp.1) (S.lt hlt)
end Go.Proofs.YtohjlfhmnmcndaaGreat
/- The walk of ops.inOrder. -/
namespace Go.Proofs.YtohjlfhmnmcndaaGreat
open Go.RowKit Go.Lib Go.Shelf

set_option maxRecDepth 100000 in
set_option maxHeartbeats 1000000 in
theorem insNone_at (cap:Nat) (w:World):Calls Tryz.prog 217 #[.slice none 0 cap,.int .i64 0,.int .i64 0,.func (.func 159) #[] #[]] w fun e w'=>e = .returned (.tuple #[])∧w'=w:=by
 go_enter Tryz.func217,Tryz.ntmps217
 go_wp2
 refine wp_loop_rounds 1 ?_
 rw [rounds_succ]
 go_wp2
 go_end0
 exact ⟨rfl,rfl⟩
set_option maxRecDepth 100000 in
set_option maxHeartbeats 1000000 in
theorem stableNone_at (cap:Nat) (w:World):Calls Tryz.prog 192 #[.slice none 0 cap,.int .i64 0,.func (.func 159) #[] #[]] w fun e w'=>e = .returned (.tuple #[])∧w'=w:=by
 go_enter Tryz.func192,Tryz.ntmps192
 go_wp2
 refine wp_loop_rounds 1 ?_
 rw [rounds_succ]
 go_wp2_with fail
 refine (insNone_at cap w).mono ?_
 rintro e w1 ⟨rfl,rfl⟩
 dsimp only
 go_wp2
 refine wp_loop_rounds 1 ?_
 rw [rounds_succ]
 go_wp2
 go_end0
 exact ⟨rfl,rfl⟩
set_option maxRecDepth 100000 in
set_option maxHeartbeats 1000000 in
theorem sortNone_at (cap:Nat) (w:World):Calls Tryz.prog 158 #[.slice none 0 cap,.func (.func 159) #[] #[]] w fun e w'=>e = .returned (.tuple #[])∧Below w.heap.size w w':=by
 go_enter Tryz.func158,Tryz.ntmps158
 go_wp2_with fail
 refine (stableNone_at cap w).mono ?_
 rintro e w1 ⟨rfl,rfl⟩
 dsimp only
 go_wp2
 go_end0
 exact ⟨rfl,Below.refl _ _⟩

set_option maxRecDepth 100000 in
set_option maxHeartbeats 8000000 in
theorem inOrder_at (cols:List Int) (xs:List Ex) (u:Value) (lo:Nat) (a:Option Addr) (cap:Nat) (l:List Zp) (w:World) (hu:ListF cols lo u xs w) (hz:InpOk cols l) (h:ZsAt w a l) :
  Calls Tryz.prog 125 #[.slice a l.length cap,u] w fun e w'=>∃ a' c',e = .returned (.slice a' (inOrd xs l).length c')∧KdAt w' a' (inOrd xs l)∧Below w.heap.size w w':=by
 obtain ⟨i0,hi,hj0,hj1,hj2⟩:=info_parts infoK
 have hl:=set_len hz
 have hR:Rise l:=((wrongZ_iff l).1 hz.set).2.2
 obtain ⟨g,cb,rfl,eg,hd⟩:=hu
 have HD:Hid (∀ (row:List Vl) (a:Option Addr) (cap:Nat) (W:World),FitP cols row→SlAt W a row→Since lo w W→Calls Tryz.prog g (#[.slice a row.length cap] ++ cb) W fun e w'=>e = .returned (.slice (some ⟨W.heap.size,0,none⟩) xs.length xs.length)∧RowNew W.heap.size w' (rowX xs row)∧Below W.heap.size W w'):=hd
 have HO:Hid (InpOk cols l):=hz
 have HR:Hid (Rise l):=hR
 clear hd hz hR
 have con:=picked_at 157 #[] (fun p=>decide (0<p.2)) a cap l w w (fun W=>Below w.heap.size w W) h (by omega) (enters_of Tryz.func157 (by kernel_rfl) rfl) (Below.refl _ _) (fun _ hW=>hW) (fun W W' hW hb=>hW.trans hb) (fun x _ ra rc W hW _ _=>by
  refine (isThere_at ra x.1.length rc x.2 W).mono ?_
  rintro e w' ⟨rfl,hb⟩
  exact ⟨rfl,chain hW hb,(Since.of hb)⟩)
 generalize hm:(l.filter fun p=>decide (0<p.2))=m at con
 have HM:Hid ((l.filter fun p=>decide (0<p.2))=m):=hm
 have hml:m.length≤l.length:=by rw [← hm]; exact List.length_filter_le _ _
 have HF:Hid (∀ p ∈ m,FitP cols p.1):=fun p hp=>by
  rw [← HM.out] at hp
  exact HO.out.fit p (List.mem_filter.1 hp).1
 clear hm
 go_enter Tryz.func125,Tryz.ntmps125
 go_wp2_with fail
 refine con.mono ?_
 rintro e w1 ⟨v1,rfl,O1,hb1,z1⟩
 clear con
 obtain ⟨a1,c1,rfl,zs1,_⟩:=O1.zs hb1
 clear O1
 dsimp only
 go_wp2_with fail
 go_loopw [5,11] (fun v i wr=>∃ k:Nat,k≤m.length∧i = .int .i64 k∧OwnK w1 w1.heap.size wr v ((m.take k).map fun p=>(rowX xs p.1,p))∧Below w1.heap.size w1 wr) (fun _ i _=>m.length - (intOf i).toNat)
 case atStart=>exact ⟨0,Nat.zero_le _,rfl,OwnK.nil _ _ _,Below.refl _ _⟩
 case round =>
  obtain ⟨k,hk,rfl,HK,hb⟩:=hrel
  have hzr:=hb.size
  by_cases hlt:k<m.length
  ·obtain ⟨b,off,rfl,hbl,d1,ar,cr,d0,sr⟩:=zs1.elem hlt
   have c1':=(hb.cell (p:=⟨b,_,none⟩) hbl).trans d1
   have c0':=(hb.cell (p:=⟨b,_,none⟩) hbl).trans d0
   have hbl':b<wr.heap.size:=Nat.lt_of_lt_of_le hbl hzr
   have HS:Hid (SlAt w1 ar m[k].1):=sr
   have hal:Below wr.heap.size wr (wr.alloc (.cells #[.slice ar m[k].1.length cr,.int .i64 m[k].2] 58)):=(Below.refl _ _).alloc (Nat.le_refl _) _
   have q0:=heap_new wr #[.slice ar m[k].1.length cr,.int .i64 m[k].2] 58
   have HT:Hid (((m.take (k+1)).map fun p=>(rowX xs p.1,p))=((m.take k).map fun p=>(rowX xs p.1,p)) ++ [(rowX xs m[k].1,m[k])]):=withK_take hlt
   have hfit:=HF.out m[k] (List.getElem_mem hlt)
   have HFk:Hid (FitP cols m[k].1):=hfit
   have hrl:xs.length=(rowX xs m[k].1).length:=by simp [rowX]
   have HRL:Hid (xs.length=(rowX xs m[k].1).length):=hrl
   clear d0 d1 sr hfit hrl
   go_wp2_with fail
   generalize hwa:wr.alloc (.cells #[.slice ar m[k].1.length cr,.int .i64 m[k].2] 58)=wa at *
   clear hwa
   have hCC:∀ W W':World,W.heap[wr.heap.size]? = some (.cells #[.slice ar m[k].1.length cr,.int .i64 m[k].2] 58 (0,0))→Below W.heap.size W W'→W'.heap[wr.heap.size]? = some (.cells #[.slice ar m[k].1.length cr,.int .i64 m[k].2] 58 (0,0)):=fun W W' h hb=>(hb.block _ (lt_of_heap h)).trans h
   have hdr:Below wa.heap.size wa wa.drew:=(Below.refl _ _).drew
   have CW:wa.drew.heap[wr.heap.size]? = some (.cells #[.slice ar m[k].1.length cr,.int .i64 m[k].2] 58 (0,0)):=hCC _ _ q0 hdr
   refine wp_region_cls (fun W=>W.heap[wr.heap.size]? = some (.cells #[.slice ar m[k].1.length cr,.int .i64 m[k].2] 58 (0,0))) (by kernel_rfl) ?_
   refine wpY_take hCC (some 15) (i:=0) (v:=u5) rfl rfl (by kernel_rfl) (by kernel_rfl) (by kernel_rfl) (fun _ _ _ h=>h) (Or.inl ⟨rfl,fun n hn=>?_⟩) CW ?_
   ·go_simp
   simp only [Act.put,pA,pB,pC]
   refine wpY_take hCC (some 16) (i:=1) (v:=.func (.func g) #[] cb) rfl rfl (by kernel_rfl) (by kernel_rfl) (by kernel_rfl) (fun _ _ _ h=>h) (Or.inl ⟨rfl,fun n hn=>?_⟩) CW ?_
   ·go_simp
   simp only [Act.put,pA,pB,pC]
   refine wpY_take hCC (some 17) (i:=2) (v:=.pointer (some ⟨wr.heap.size,0,none⟩)) rfl rfl (by kernel_rfl) (by kernel_rfl) (by kernel_rfl) (fun _ _ _ h=>h) (Or.inl ⟨rfl,fun n hn=>?_⟩) CW ?_
   ·go_simp
   simp only [Act.put,pA,pB,pC]
   refine wpY_take hCC (some 18) (i:=3) (v:=.slice ar m[k].1.length cr) rfl rfl (by kernel_rfl) (by kernel_rfl) (by kernel_rfl) (fun _ _ _ h=>h) (Or.inl ⟨rfl,fun n hn=>?_⟩) CW ?_
   ·have hcell:n.cell? ⟨wr.heap.size,0,none⟩=some (.slice ar m[k].1.length cr):=cell_of (i:=0) hn rfl
    go_simp
   simp only [Act.put,pA,pB,pC]
   refine wpY_take hCC (some 20) (i:=5) (v:=.agg #[.slice ar m[k].1.length cr,.int .i64 m[k].2]) rfl rfl (by kernel_rfl) (by kernel_rfl) (by kernel_rfl) (fun _ _ _ h=>h) (Or.inl ⟨rfl,fun n hn=>?_⟩) CW ?_
   ·have hcell:n.cell? ⟨wr.heap.size,0,none⟩=some (.slice ar m[k].1.length cr):=cell_of (i:=0) hn rfl
    have hcell1:n.cell? ⟨wr.heap.size,1,none⟩=some (.int .i64 m[k].2):=cell_of (i:=1) hn rfl
    go_simp
   simp only [Act.put,pA,pB,pC]
   refine wpY_step (rs:=[4]) (by kernel_rfl) (by simp) ?_
   intro w3 hb3 jj hj
   obtain rfl:jj=4:=by simpa using hj
   clear hj
   have D3:=chain (chain hal hdr) hb3
   have B3:=chain hb D3
   have CW3:=hCC _ _ CW hb3
   have con:=HD.out m[k].1 ar cr w3 HFk.out (HS.out.next B3) (Since.of (chain hb1 B3))
   refine wpOp_step rfl (fun K hK=>?_)
   go_simp
   first | (refine con.mono ?_) | (go_at_fn g; refine con.mono ?_)
   rintro e w4 ⟨rfl,hRN,hb4⟩
   have D4:=chain D3 hb4
   have CW4:=hCC _ _ CW3 hb4
   refine hK _ _ ⟨CW4,?_⟩
   clear hK K con CW3
   refine wpY_take hCC (some 21) (i:=6) (v:=.agg #[.slice (some ⟨w3.heap.size,0,none⟩) xs.length xs.length,.slice ar m[k].1.length cr,.int .i64 m[k].2]) rfl rfl (by kernel_rfl) (by kernel_rfl) (by kernel_rfl) (fun _ _ _ h=>h) (Or.inl ⟨rfl,fun n hn=>?_⟩) CW4 ?_
   ·go_simp
   simp only [Act.put,pA,pB,pC]
   refine wpY_step (rs:=[7]) (by kernel_rfl) (by simp) ?_
   intro w5 hb5 jj hj
   obtain rfl:jj=7:=by simpa using hj
   clear hj
   refine wpOp_step rfl (fun K hK=>?_)
   go_simp
   have D5:=chain D4 hb5
   have CW5:=hCC _ _ CW4 hb5
   have hal5:Below w5.heap.size w5 (w5.alloc (.cells #[.slice (some ⟨w3.heap.size,0,none⟩) xs.length xs.length,.slice ar m[k].1.length cr,.int .i64 m[k].2] 157)):=(Below.refl _ _).alloc (Nat.le_refl _) _
   have q6:=heap_new w5 #[.slice (some ⟨w3.heap.size,0,none⟩) xs.length xs.length,.slice ar m[k].1.length cr,.int .i64 m[k].2] 157
   have D6:=chain D5 hal5
   have CW6:=hCC _ _ CW5 hal5
   have S6:=(hRN.1.next hb5).next hal5
   have T6:=(hRN.2.next hb5).next hal5
   refine hK _ _ ⟨CW6,?_⟩
   clear hK K CW5 CW4 hRN
   generalize hw6:w5.alloc (.cells #[.slice (some ⟨w3.heap.size,0,none⟩) xs.length xs.length,.slice ar m[k].1.length cr,.int .i64 m[k].2] 157)=w6 at *
   clear hw6
   refine wpY_step (rs:=[8]) (by kernel_rfl) (by simp) ?_
   intro w7 hb7 jj hj
   obtain rfl:jj=8:=by simpa using hj
   clear hj
   have D7:=chain D6 hb7
   have CW7:=hCC _ _ CW6 hb7
   have S7:=S6.next hb7
   have T7:=T6.next hb7
   have q7:=(hb7.block _ (lt_of_heap q6)).trans q6
   obtain ⟨ys,o7,en7⟩:=HK.next D7
   have zz:=D7.size
   have hnb:∀ g',u5.ownBlock=some g'→g'<wr.heap.size∧w1.heap.size≤g':=fun g' hg'=>by
    obtain ⟨ys0,o0,_⟩:=HK
    exact ⟨(o0.lt g' hg').2,(o0.lt g' hg').1⟩
   refine wpOp_step rfl (fun K hK=>?_)
   refine Eq.mpr (if_pos (by kernel_rfl)) ?_
   refine wp_append_at (some 23) rfl (Operand.tmp 15) (Operand.tmp 22) 151 rfl w1.heap.size 157 i0 _ 3 56 Tryz.underlying151 hi hj0 hj1 hj2 rfl (by decide) u5 _ ys rfl o7 ⟨w5.heap.size,0,none⟩ 1 1 [.slice (some ⟨w3.heap.size,0,none⟩) xs.length xs.length,.slice ar m[k].1.length cr,.int .i64 m[k].2] rfl rfl ?Ac1 ?Ac2 ?Ac3 ?Ac4 ?Ac5 ?_
   case Ac1 =>
    intro j u hj
    match j,hj with
    | 0,hj=>simp at hj; subst hj; exact cell_of (i:=0) q7 rfl
    | 1,hj=>simp at hj; subst hj; exact cell_of (i:=1) q7 rfl
    | 2,hj=>simp at hj; subst hj; exact cell_of (i:=2) q7 rfl
   case Ac2=>intro u hu; simp at hu; rcases hu with rfl | rfl | rfl <;> rfl
   case Ac3=>simp only [List.length_map,List.length_take]; unfold maxLen; omega
   case Ac4=>simp only [List.length_map,List.length_take]; omega
   case Ac5=>omega
   intro v' w8 o8 g8 _
   have CW8:w8.heap[wr.heap.size]? = some (.cells #[.slice ar m[k].1.length cr,.int .i64 m[k].2] 58 (0,0)):=(g8.block _ (lt_of_heap CW7) (fun e=>by have:=(hnb _ e.symm).1; omega)).trans CW7
   have OK8:OwnK w1 w1.heap.size w8 v' (((m.take k).map fun p=>(rowX xs p.1,p)) ++ [(rowX xs m[k].1,m[k])]):=OwnK.push (kc:=xs.length) (rc:=cr) o7 en7 S7 T7 HS.out (by have:=HRL.out; rw [← this]; exact o8) g8
   have b8:Below w1.heap.size w1 w8:=(hb.trans (D7.mono hzr)).trans ((Below.refl _ _).grown g8 (by omega) (fun q hq=>(hnb q hq).2))
   refine hK _ _ ⟨CW8,?_⟩
   clear hK K CW7 CW6 S7 T7 S6 T6 o7 en7 o8 D7 D6 D5 D4 D3 q6 q7 g8 HK
   simp only [Act.put,pA,pB,pC]
   refine wpY_take hCC (some 5) (i:=9) (v:=v') rfl rfl (by kernel_rfl) (by kernel_rfl) (by kernel_rfl) (fun _ _ _ h=>h) (Or.inl ⟨rfl,fun n hn=>?_⟩) CW8 ?_
   ·go_simp
   simp only [Act.put,pA,pB,pC]
   refine wpY_done (by kernel_rfl) ?_
   intro w9 hb9
   have OK9:=OK8.next hb9
   have b9:=chain b8 hb9
   clear OK8 b8 CW8 hb9
   go_wp2_with fail
   go_roundw
   case rel=>exact ⟨k+1,by omega,by go_num,by rw [HT.out]; exact OK9,b9⟩
   case measure=>simp [intOf]; omega
  ·have e:k=m.length:=by omega
   subst e
   rw [List.take_length] at HK
   have hwk:(m.map fun p=>(rowX xs p.1,p))=withK xs l:=by unfold withK; rw [HM.out]
   rw [hwk] at HK
   have hb':=chain hb1 hb
   have hil:(inOrd xs l).length=(withK xs l).length:=(inOrd_perm xs l).length_eq
   have hwl:=withK_len xs l
   rcases HK.arr hb (Nat.le_refl _) with ⟨hn,rfl⟩ | ⟨gb,kc,dd,rfl,hg1,hg2,hds,hdm,hH⟩
   ·have hio:inOrd xs l = []:=List.eq_nil_of_length_eq_zero (by rw [hil,hn]; rfl)
    have con:=sortNone_at 0 wr
    clear HK
    go_wp2_with fail
    refine con.mono ?_
    rintro e w2 ⟨rfl,hb2⟩
    clear con
    dsimp only
    go_wp2_with fail
    go_ret
    exact ⟨none,0,by rw [hio]; rfl,.inl hio,chain hb' hb2⟩
   ·have con:=sorted_at wr gb kc dd xs l HR.out (by omega) hg2 hdm hH w1 hg1 hb
    rw [hds,← hil] at con
    rw [← hil]
    clear HK hH hdm hil hwk hds
    go_wp2_with fail
    refine con.mono ?_
    rintro e w2 ⟨rfl,kd,hb2⟩
    clear con
    dsimp only
    have HKD:Hid (KdAt w2 (some ⟨gb,0,none⟩) (inOrd xs l)):=kd
    have hA:=hb1.trans (hb2.mono hb1.size)
    clear kd
    go_wp2_with fail
    go_ret
    exact ⟨_,_,rfl,HKD.out,hA⟩
end Go.Proofs.YtohjlfhmnmcndaaGreat
/- Parts of rows that have the same keys: plainly, and in memory. -/
namespace Go.Proofs.YtohjlfhmnmcndaaGreat
open Go.RowKit Go.Lib Go.Shelf

/-- Keys, and the rows that have them. -/
abbrev Pt:Type:=List Vl × List Zp
/-- A part is opened, where the last one has other keys. -/
def openP (ps:List Pt) (x:Kp):List Pt:=if h:ps.length=0 then ps ++ [(x.1,[])] else if cmpL (ps[ps.length - 1]'(by omega)).1 x.1=0 then ps else ps ++ [(x.1,[])]
/-- One more row of the last part. -/
def putR (ps:List Pt) (r:Zp):List Pt:=if h:ps.length=0 then ps else ps.set (ps.length - 1) ((ps[ps.length - 1]'(by omega)).1,(ps[ps.length - 1]'(by omega)).2 ++ [r])
def partL (L:List Kp):List Pt:=L.foldl (fun ps x=>putR (openP ps x) x.2) []
theorem partL_take {L:List Kp} {k:Nat} (h:k<L.length):partL (L.take (k+1))=putR (openP (partL (L.take k)) L[k]) L[k].2:=by
 unfold partL
 rw [List.take_succ_eq_append_getElem h,List.foldl_append]
 rfl
theorem openP_len (ps:List Pt) (x:Kp):(openP ps x).length≤ps.length+1∧0<(openP ps x).length:=by
 unfold openP
 split
 ·simp
 ·split
  ·omega
  ·simp
theorem putR_len (ps:List Pt) (r:Zp):(putR ps r).length=ps.length:=by
 unfold putR
 split
 ·rfl
 ·simp
theorem putR_at {ps:List Pt} {m:Nat} (h:ps.length=m+1) (r:Zp):putR ps r=ps.set m ((ps[m]'(by omega)).1,(ps[m]'(by omega)).2 ++ [r]):=by
 unfold putR
 rw [dif_neg (by omega)]
 simp only [h,Nat.add_sub_cancel]
theorem openP_nil {ps:List Pt} (h:ps.length=0) (x:Kp):openP ps x=ps ++ [(x.1,[])]:=by unfold openP; rw [dif_pos h]
theorem openP_same {ps:List Pt} {m:Nat} (h:ps.length=m+1) {x:Kp} (hc:cmpL (ps[m]'(by omega)).1 x.1=0):openP ps x=ps:=by
 unfold openP
 rw [dif_neg (by omega)]
 simp only [h,Nat.add_sub_cancel]
 rw [if_pos hc]
theorem openP_other {ps:List Pt} {m:Nat} (h:ps.length=m+1) {x:Kp} (hc:¬ cmpL (ps[m]'(by omega)).1 x.1=0):openP ps x=ps ++ [(x.1,[])]:=by
 unfold openP
 rw [dif_neg (by omega)]
 simp only [h,Nat.add_sub_cancel]
 rw [if_neg hc]
/-- No part has more rows than there are. -/
theorem partL_small (L:List Kp):(partL L).length≤L.length∧∀ p ∈ partL L,p.2.length≤L.length:=by
 have aux:∀ (L:List Kp) (ps:List Pt) (n:Nat),ps.length≤n→(∀ p ∈ ps,p.2.length≤n)→(L.foldl (fun ps x=>putR (openP ps x) x.2) ps).length≤n+L.length∧∀ p ∈ L.foldl (fun ps x=>putR (openP ps x) x.2) ps,p.2.length≤n+L.length:=by
  intro L
  induction L with
  | nil=>intro ps n h1 h2; exact ⟨h1,h2⟩
  | cons x r ih =>
   intro ps n h1 h2
   have ho:∀ p ∈ openP ps x,p.2.length≤n:=fun p hp=>by
    unfold openP at hp
    split at hp
    ·rcases List.mem_append.1 hp with hp | hp
     ·exact h2 p hp
     ·rw [List.mem_singleton.1 hp]; exact Nat.zero_le _
    ·split at hp
     ·exact h2 p hp
     ·rcases List.mem_append.1 hp with hp | hp
      ·exact h2 p hp
      ·rw [List.mem_singleton.1 hp]; exact Nat.zero_le _
   have:=ih (putR (openP ps x) x.2) (n+1) (by rw [putR_len]; have:=(openP_len ps x).1; omega) (fun p hp=>by
    unfold putR at hp
    split at hp
    ·have:=ho p hp; omega
    ·rcases List.mem_or_eq_of_mem_set hp with hp | rfl
     ·have:=ho p hp; omega
     ·have:=ho _ (List.getElem_mem (l:=openP ps x) (n:=(openP ps x).length - 1) (by omega))
      simp only [List.length_append,List.length_singleton]; omega)
   simp only [List.foldl_cons,List.length_cons]
   refine ⟨by have:=this.1; omega,fun p hp=>by have:=this.2 p hp; omega⟩
 have:=aux L [] 0 (Nat.le_refl _) (fun p hp=>by simp at hp)
 unfold partL
 simpa using this

theorem own_ne {W:World} {b b':Nat} {e e':TypeId} {s s' n n':Nat} {v v':Value} {xs xs':List Value} (hne:e≠e') (h:W.ownsRow b e s v n xs) (h':W.ownsRow b' e' s' v' n' xs'):v.ownBlock=none∨v.ownBlock≠v'.ownBlock:=by
 rcases h.2 with ⟨rfl,_⟩ | ⟨g,cap,cur,rfl,_,hg,_⟩
 ·exact .inl rfl
 ·refine .inr fun e0=>?_
  rcases h'.2 with ⟨rfl,_⟩ | ⟨g',cap',cur',rfl,_,hg',_⟩
  ·simp [Value.ownBlock] at e0
  ·have e1:g=g':=by simpa [Value.ownBlock] using e0
   subst e1
   rw [hg] at hg'
   injection hg' with hg'
   injection hg' with _ he _
   exact hne he
theorem own_not {W:World} {B:Nat} {e:TypeId} {s n:Nat} {v:Value} {xs:List Value} (h:W.ownsRow B e s v n xs) {q:Nat} {cs:Array Value} {T:TypeId} {f:Nat × Nat} (hq:W.heap[q]? = some (.cells cs T f)) (hne:T≠e):v.ownBlock≠some q:=by
 intro e0
 rcases h.2 with ⟨rfl,_⟩ | ⟨g,cap,cur,rfl,_,hg,_⟩
 ·simp [Value.ownBlock] at e0
 ·have e1:g=q:=by simpa [Value.ownBlock] using e0
  subst e1
  rw [hg] at hq
  injection hq with hq
  injection hq with _ he _
  exact hne he.symm
theorem own_mono {W:World} {b b':Nat} {e:TypeId} {s n:Nat} {v:Value} {xs:List Value} (h:W.ownsRow b e s v n xs) (hb:b'≤b):W.ownsRow b' e s v n xs:=by
 obtain ⟨h0,h1⟩:=h
 refine ⟨h0,?_⟩
 rcases h1 with h1 | ⟨g,cap,cur,e,hg,h3⟩
 ·exact .inl h1
 ·exact .inr ⟨g,cap,cur,e,Nat.le_trans hb hg,h3⟩
theorem own_shapeF {W:World} {base e size n:Nat} {v:Value} {xs:List Value} (h:W.ownsRow base e size v n xs):∃ a c,v = .slice a n c:=by
 obtain ⟨_,⟨rfl,h0⟩ | ⟨g,c1,cur,rfl,_⟩⟩:=h
 ·exact ⟨none,0,by rw [h0]⟩
 ·exact ⟨_,c1,rfl⟩
/-- Parts in a slice of the call's own: keys and rows lie in w0; each part's rows in a slice of its own, the last one's behind all others'. -/
structure PsIn (w0:World) (B:Nat) (W:World) (v:Value) (ps:List Pt) (xs:List Value) (Bl:Nat) (rv:Nat→Value) (zs:Nat→List Value):Prop where
 own:W.ownsRow B 154 2 v ps.length xs
 lo:B≤Bl
 hi:Bl≤W.heap.size
 key:∀ i (h:i<ps.length),∃ ka kc,xs[i*2]? = some (.slice ka ps[i].1.length kc)∧SlAt w0 ka ps[i].1
 cell:∀ i (_:i<ps.length),xs[i*2+1]? = some (rv i)
 row:∀ i (h:i<ps.length),W.ownsRow (if i+1=ps.length then Bl else B) 58 2 (rv i) ps[i].2.length (zs i)∧EncB w0 (zs i) ps[i].2
 low:∀ i,i+1<ps.length→∀ g,(rv i).ownBlock=some g→g<Bl
def PsAt (w0:World) (B:Nat) (W:World) (v:Value) (ps:List Pt):Prop:=∃ xs Bl rv zs,PsIn w0 B W v ps xs Bl rv zs
theorem PsIn.next {w0:World} {B:Nat} {W w1:World} {v:Value} {ps:List Pt} {xs:List Value} {Bl:Nat} {rv:Nat→Value} {zs:Nat→List Value} (h:PsIn w0 B W v ps xs Bl rv zs) (hb:Below W.heap.size W w1):PsIn w0 B w1 v ps xs Bl rv zs :=
 ⟨own_next h.own hb,h.lo,Nat.le_trans h.hi hb.size,h.key,h.cell,fun i hi=>⟨own_next (h.row i hi).1 hb,(h.row i hi).2⟩,h.low⟩
theorem PsAt.next {w0:World} {B:Nat} {W w1:World} {v:Value} {ps:List Pt} (h:PsAt w0 B W v ps) (hb:Below W.heap.size W w1):PsAt w0 B w1 v ps:=by
 obtain ⟨xs,Bl,rv,zs,h⟩:=h
 exact ⟨xs,Bl,rv,zs,h.next hb⟩
theorem PsAt.nil (w0:World) (B:Nat) (W:World) (hB:B≤W.heap.size):PsAt w0 B W (.slice none 0 0) [] :=
 ⟨[],B,fun _=>.slice none 0 0,fun _=>[],World.ownsRow_nil _ _ _ _,Nat.le_refl _,hB,fun _ hi=>absurd hi (Nat.not_lt_zero _),fun _ hi=>absurd hi (Nat.not_lt_zero _),fun _ hi=>absurd hi (Nat.not_lt_zero _),fun _ hi=>absurd hi (Nat.not_lt_zero _)⟩
theorem PsIn.rowB {w0:World} {B:Nat} {W:World} {v:Value} {ps:List Pt} {xs:List Value} {Bl:Nat} {rv:Nat→Value} {zs:Nat→List Value} (h:PsIn w0 B W v ps xs Bl rv zs) {i:Nat} (hi:i<ps.length):W.ownsRow B 58 2 (rv i) ps[i].2.length (zs i):=by
 refine own_mono (h.row i hi).1 ?_
 split
 ·exact h.lo
 ·exact Nat.le_refl _
theorem PsIn.push {w0:World} {B:Nat} {W w1:World} {v v':Value} {ps:List Pt} {xs:List Value} {Bl:Nat} {rv:Nat→Value} {zs:Nat→List Value} (h:PsIn w0 B W v ps xs Bl rv zs) {ka:Option Addr} {kc:Nat} {k:List Vl} (hs:SlAt w0 ka k) (hg:W.grownBy w1 v.ownBlock)
  (ho:w1.ownsRow B 154 2 v' (ps.length+1) (xs ++ [.slice ka k.length kc,.slice none 0 0])):PsAt w0 B w1 v' (ps ++ [(k,[])]):=by
 have lx:=h.own.1
 refine ⟨_,w1.heap.size,fun i=>if i=ps.length then .slice none 0 0 else rv i,fun i=>if i=ps.length then [] else zs i,by simpa using ho,Nat.le_trans h.lo (Nat.le_trans h.hi hg.size),Nat.le_refl _,fun i hi=>?_,fun i hi=>?_,fun i hi=>?_,fun i hi g hgi=>?_⟩
 ·by_cases hi':i<ps.length
  ·obtain ⟨ka',kc',e0,s0⟩:=h.key i hi'
   rw [List.getElem_append_left hi']
   exact ⟨ka',kc',by rw [List.getElem?_append_left (by omega)]; exact e0,s0⟩
  ·have e:i=ps.length:=by simp at hi; omega
   subst e
   refine ⟨ka,kc,?_,?_⟩
   ·rw [List.getElem?_append_right (by omega)]; simp [lx]
   ·simpa using hs
 ·by_cases hi':i<ps.length
  ·rw [if_neg (by omega),List.getElem?_append_left (by omega)]; exact h.cell i hi'
  ·have e:i=ps.length:=by simp at hi; omega
   subst e
   rw [if_pos rfl,List.getElem?_append_right (by omega)]; simp [lx]
 ·by_cases hi':i<ps.length
  ·rw [List.getElem_append_left hi',if_neg (by simp; omega),if_neg (by omega),if_neg (by omega)]
   exact ⟨(h.rowB hi').kept hg (own_ne (by decide) (h.rowB hi') h.own),(h.row i hi').2⟩
  ·have e:i=ps.length:=by simp at hi; omega
   subst e
   simp only [List.length_append,List.length_singleton,if_true,List.getElem_concat_length]
   exact ⟨World.ownsRow_nil _ _ _ _,rfl,fun j hj=>absurd hj (Nat.not_lt_zero _)⟩
 ·have hi':i<ps.length:=by simp at hi; omega
  rw [if_neg (by omega)] at hgi
  exact Nat.lt_of_lt_of_le ((h.rowB hi').lt g hgi).2 hg.size
theorem PsIn.put {w0:World} {B:Nat} {W w8 w9:World} {g c m:Nat} {ps:List Pt} {xs:List Value} {Bl:Nat} {rv:Nat→Value} {zs:Nat→List Value} (h:PsIn w0 B W (.slice (some ⟨g,0,none⟩) (m+1) c) ps xs Bl rv zs) (hm:ps.length=m+1) {ra:Option Addr} {rc:Nat} {r:Zp} {v8:Value}
  (sr:SlAt w0 ra r.1) (g8:W.grownBy w8 (rv m).ownBlock) (o8:w8.ownsRow Bl 58 2 v8 ((ps[m]'(by omega)).2.length+1) (zs m ++ [.slice ra r.1.length rc,.int .i64 r.2])) (hb:Below w8.heap.size w8 w9) :
  PsAt w0 B (w9.setCell ⟨g,m*2+1,none⟩ v8) (.slice (some ⟨g,0,none⟩) (m+1) c) (putR ps r):=by
 have hmlt:m<ps.length:=by omega
 have lx:=h.own.1
 have ho:=h.own
 rw [hm] at ho
 have rl:W.ownsRow Bl 58 2 (rv m) (ps[m]'hmlt).2.length (zs m):=by
  have:=(h.row m hmlt).1
  rwa [if_pos hm.symm] at this
 have og:∀ {b e s n v ys},e≠154→w9.ownsRow b e s v n ys→(w9.setCell ⟨g,m*2+1,none⟩ v8).ownsRow b e s v n ys:=fun {b e s n v ys} hne hr=>by
  have o9:w9.ownsRow B 154 2 (.slice (some ⟨g,0,none⟩) (m+1) c) (m+1) xs:=own_next (ho.kept g8 (own_ne (by decide) ho (rl))) hb
  rcases own_ne hne hr o9 with e0 | e0
  ·exact ownsRow_setCell_other hr (by rw [e0]; simp) _
  ·exact ownsRow_setCell_other hr (by simpa [Value.ownBlock] using e0) _
 have o9:w9.ownsRow B 154 2 (.slice (some ⟨g,0,none⟩) (m+1) c) (m+1) xs:=own_next (ho.kept g8 (own_ne (by decide) ho rl)) hb
 have hsz:(w9.setCell ⟨g,m*2+1,none⟩ v8).heap.size=w9.heap.size:=by simp [World.setCell]
 rw [putR_at hm]
 refine ⟨xs.set (m*2+1) v8,Bl,fun i=>if i=m then v8 else rv i,fun i=>if i=m then zs m ++ [.slice ra r.1.length rc,.int .i64 r.2] else zs i,?_,h.lo,?_,fun i hi=>?_,fun i hi=>?_,fun i hi=>?_,fun i hi g' hgi=>?_⟩
 ·rw [List.length_set,hm]
  exact (o9.stored (m*2+1) v8).1
 ·rw [hsz]; exact Nat.le_trans h.hi (Nat.le_trans g8.size hb.size)
 ·have hi0:i<ps.length:=by simpa using hi
  obtain ⟨ka',kc',e0,s0⟩:=h.key i hi0
  rw [List.getElem?_set_ne (by omega),List.getElem_set]
  split
  ·rename_i e; subst e; exact ⟨ka',kc',e0,s0⟩
  ·exact ⟨ka',kc',e0,s0⟩
 ·have hi0:i<ps.length:=by simpa using hi
  by_cases e:i=m
  ·subst e
   rw [if_pos rfl,List.getElem?_set_self (by omega)]
  ·rw [if_neg e,List.getElem?_set_ne (by omega)]; exact h.cell i hi0
 ·have hi0:i<ps.length:=by simpa using hi
  by_cases e:i=m
  ·subst e
   simp only [List.length_set,if_true,List.getElem_set_self,List.length_append,List.length_singleton]
   rw [if_pos hm.symm]
   refine ⟨og (by decide) (own_next o8 hb),?_⟩
   exact EncB.push (h.row i hi0).2 (x:=r) sr
  ·simp only [List.length_set]
   rw [if_neg e,if_neg e,if_neg (by omega),List.getElem_set_ne (fun e'=>e e'.symm)]
   have ri:=h.rowB hi0
   refine ⟨og (by decide) (own_next (ri.kept g8 ?_) hb),(h.row i hi0).2⟩
   by_cases e0:(rv i).ownBlock=none
   ·exact .inl e0
   ·obtain ⟨gi,hgi⟩:=Option.ne_none_iff_exists'.1 e0
    refine .inr fun e1=>?_
    have h1:=h.low i (by omega) gi hgi
    have h2:=(rl.lt gi (e1 ▸ hgi)).1
    omega
 ·have hi0:i+1<ps.length:=by simpa using hi
  rw [if_neg (by omega)] at hgi
  exact h.low i hi0 g' hgi
end Go.Proofs.YtohjlfhmnmcndaaGreat
/- What is known of rows; how many there are. -/
namespace Go.Proofs.YtohjlfhmnmcndaaGreat
open Go.RowKit Go.Lib Go.Shelf

/-- A value, and how often it is there. -/
abbrev Wp:Type:=Vl × Int
def flatW:List Wp→List Value
 | []=>[]
 | p :: r=>.int .i64 p.1.1 :: .int .i64 p.1.2.1 :: .string p.1.2.2 :: .int .i64 p.2 :: flatW r
theorem flatW_append:∀ l r:List Wp,flatW (l ++ r)=flatW l ++ flatW r
 | [],_=>rfl
 | p :: t,r=>by rw [List.cons_append,flatW,flatW,flatW_append t r]; rfl
theorem flatW_at:∀ (l:List Wp) (i:Nat) (h:i<l.length),(flatW l)[i*4]? = some (.int .i64 l[i].1.1)∧(flatW l)[i*4+1]? = some (.int .i64 l[i].1.2.1)∧(flatW l)[i*4+2]? = some (.string l[i].1.2.2)∧(flatW l)[i*4+3]? = some (.int .i64 l[i].2)
 | p :: r,0,_=>⟨rfl,rfl,rfl,rfl⟩
 | p :: r,i+1,h=>by
  have ih:=flatW_at r i (by simpa using h)
  have e:(i+1)*4=i*4+4:=by omega
  rw [e]
  exact ih
/-- What is asked of rows, without what is not known. -/
def knownL (f:List Vl→Vl) (rows:List Zp):List Wp:=rows.filterMap fun r=>if (f r.1).1=1 then none else some (f r.1,r.2)
theorem knownL_take (f:List Vl→Vl) {rows:List Zp} {k:Nat} (h:k<rows.length):knownL f (rows.take (k+1))=knownL f (rows.take k) ++ (if (f rows[k].1).1=1 then [] else [(f rows[k].1,rows[k].2)]):=by
 unfold knownL
 rw [List.take_succ_eq_append_getElem h,List.filterMap_append]
 congr 1
 by_cases c:(f rows[k].1).1=1
 ·simp [c]
 ·simp [c]
theorem knownL_len (f:List Vl→Vl) (rows:List Zp):(knownL f rows).length≤rows.length:=List.length_filterMap_le _ _
theorem infoW:(Tryz.prog.info? 221).map (fun i=>(i.zero,i.size,i.bytes))=some (some (.agg #[.int .i64 0,.int .i64 0,.string ⟨#[]⟩,.int .i64 0]),4,40):=by kernel_rfl

set_option maxRecDepth 100000 in
set_option maxHeartbeats 2000000 in
theorem known_at (cols:List Int) (lo:Nat) (u:Value) (f:List Vl→Vl) (a:Option Addr) (cap:Nat) (rows:List Zp) (w:World) (hA:Asks cols lo u f w) (h:ZsAt w a rows) (hf:∀ p ∈ rows,FitP cols p.1) (hl:rows.length≤400) :
  Calls Tryz.prog 155 #[.slice a rows.length cap,u] w fun e w'=>∃ v,e = .returned v∧w'.ownsRow w.heap.size 221 4 v (knownL f rows).length (flatW (knownL f rows))∧Below w.heap.size w w':=by
 obtain ⟨iw,hi,hj0,hj1,hj2⟩:=info_parts infoW
 obtain ⟨g,cb,rfl,eg,hd⟩:=hA
 have HD:Hid (∀ (row:List Vl) (a:Option Addr) (cap:Nat) (W:World),FitP cols row→SlAt W a row→Since lo w W→Calls Tryz.prog g (#[.slice a row.length cap] ++ cb) W fun e w'=>e = .returned (agV (f row))∧Below W.heap.size W w'):=hd
 have HF:Hid (∀ p ∈ rows,FitP cols p.1):=hf
 clear hd hf
 go_enter Tryz.func155,Tryz.ntmps155
 go_wp2_with fail
 go_loopw [5,11] (fun v i wr=>∃ k:Nat,k≤rows.length∧i = .int .i64 k∧wr.ownsRow w.heap.size 221 4 v (knownL f (rows.take k)).length (flatW (knownL f (rows.take k)))∧Below w.heap.size w wr) (fun _ i _=>rows.length - (intOf i).toNat)
 case atStart=>exact ⟨0,Nat.zero_le _,rfl,World.ownsRow_nil _ _ _ _,Below.refl _ _⟩
 case round =>
  obtain ⟨k,hk,rfl,HO,hb⟩:=hrel
  have hz:=hb.size
  by_cases hlt:k<rows.length
  ·obtain ⟨b,off,rfl,hbl,c1,ar,cr,c0,sr⟩:=(h.next hb).elem hlt
   have hal:Below wr.heap.size wr (wr.alloc (.cells #[.slice ar rows[k].1.length cr,.int .i64 rows[k].2] 58)):=(Below.refl _ _).alloc (Nat.le_refl _) _
   have q0:=heap_new wr #[.slice ar rows[k].1.length cr,.int .i64 rows[k].2] 58
   have hal':=chain hb hal
   have con:=HD.out rows[k].1 ar cr _ (HF.out _ (List.getElem_mem hlt)) (sr.next hal) (Since.of hal')
   have HT:Hid (knownL f (rows.take (k+1))=knownL f (rows.take k) ++ (if (f rows[k].1).1=1 then [] else [(f rows[k].1,rows[k].2)])):=knownL_take f hlt
   have hkl:=knownL_len f (rows.take k)
   rw [List.length_take] at hkl
   have O1:=own_next HO hal
   generalize f rows[k].1=fv at *
   generalize knownL f (rows.take k)=acc at *
   unfold agV at con
   go_upto_region 5 with fail
   clear c0 c1 sr HO
   generalize wr.alloc (.cells #[.slice ar rows[k].1.length cr,.int .i64 rows[k].2] 58)=wk at *
   have p0:wk.cell? ⟨wr.heap.size,0,none⟩=some (.slice ar rows[k].1.length cr):=cell_of (i:=0) q0 rfl
   go_upto_region 6 with (go_at_fn g; refine con.mono ?_; rintro e w2 ⟨rfl,hb2⟩)
   clear con p0
   have q2:=(hb2.block _ (lt_of_heap q0)).trans q0
   have O2:=own_next O1 hb2
   have hal2:Below w2.heap.size w2 (w2.alloc (.cells #[.int .i64 fv.1,.int .i64 fv.2.1,.string fv.2.2] 24)):=(Below.refl _ _).alloc (Nat.le_refl _) _
   have q3:=heap_new w2 #[.int .i64 fv.1,.int .i64 fv.2.1,.string fv.2.2] 24
   have q2:=(hal2.block _ (lt_of_heap q2)).trans q2
   have O3:=own_next O2 hal2
   have hA3:=chain (chain hal' hb2) hal2
   have hz3:=hA3.size
   generalize w2.alloc (.cells #[.int .i64 fv.1,.int .i64 fv.2.1,.string fv.2.2] 24)=w3 at *
   have c0:w3.cell? ⟨w2.heap.size,0,none⟩=some (.int .i64 fv.1):=cell_of (i:=0) q3 rfl
   have c1:w3.cell? ⟨w2.heap.size,1,none⟩=some (.int .i64 fv.2.1):=cell_of (i:=1) q3 rfl
   have c2:w3.cell? ⟨w2.heap.size,2,none⟩=some (.string fv.2.2):=cell_of (i:=2) q3 rfl
   have c3:w3.cell? ⟨wr.heap.size,1,none⟩=some (.int .i64 rows[k].2):=cell_of (i:=1) q2 rfl
   by_cases hn:fv.1=1
   ·have hnb:(fv.1 != 1)=false:=by simp [hn]
    have HT':Hid (knownL f (rows.take (k+1))=acc):=by show _=_; rw [HT.out,if_pos hn,List.append_nil]
    clear hn
    go_wp2_with fail
    go_roundw
    case rel=>exact ⟨k+1,by omega,by go_num,by rw [HT'.out]; exact O3,hA3⟩
    case measure=>simp [intOf]; omega
   ·have hnb:(fv.1 != 1)=true:=by simp [hn]
    have HT':Hid (knownL f (rows.take (k+1))=acc ++ [(fv,rows[k].2)]):=by show _=_; rw [HT.out,if_neg hn]
    clear hn
    go_wp2_with (first | (at_builtin; refine wpList_append_own _ rfl _ _ 189 rfl w.heap.size 221 iw _ 4 40 Tryz.underlying189 hi hj0 hj1 hj2 rfl (by decide) _ _ _ rfl (O3.alloc _) ⟨w3.heap.size,0,none⟩ 1 1 [.int .i64 fv.1,.int .i64 fv.2.1,.string fv.2.2,.int .i64 rows[k].2] rfl rfl ?Ac1 ?Ac2 ?Ac3 ?Ac4 ?Ac5 ?_))
    case Ac1 =>
     intro i u hu
     match i,hu with
     | 0,hu=>simp at hu; subst hu; simp [Addr.add]
     | 1,hu=>simp at hu; subst hu; simp [Addr.add]
     | 2,hu=>simp at hu; subst hu; simp [Addr.add]
     | 3,hu=>simp at hu; subst hu; simp [Addr.add]
    case Ac2=>intro u hu; simp at hu; rcases hu with rfl | rfl | rfl | rfl <;> rfl
    case Ac3=>unfold maxLen; omega
    case Ac4=>omega
    case Ac5=>simp; omega
    intro v' w4 o4 g4 _
    have hb4:Below w.heap.size w w4:=hA3.trans (((Below.refl _ _).alloc (by omega) _).grown g4 (by simp; omega) (fun q hq=>((O3.alloc (.cells #[.int .i64 fv.1,.int .i64 fv.2.1,.string fv.2.2,.int .i64 rows[k].2] 221)).lt q hq).1))
    have o4':w4.ownsRow w.heap.size 221 4 v' (acc ++ [(fv,rows[k].2)]).length (flatW (acc ++ [(fv,rows[k].2)])):=by rw [flatW_append,List.length_append]; exact o4
    clear g4 o4 O3 O2 O1
    go_wp2_with fail
    go_roundw
    case rel=>exact ⟨k+1,by omega,by go_num,by rw [HT'.out]; exact o4',hb4⟩
    case measure=>simp [intOf]; omega
  ·have e:k=rows.length:=by omega
   subst e
   rw [List.take_length] at HO
   obtain ⟨av,cv,rfl⟩:=own_shapeF HO
   go_wp2_with fail
   go_ret
   exact ⟨_,rfl,HO,hb⟩

/-- Weighed values in a slice. -/
def WsAt (W:World) (a:Option Addr) (l:List Wp):Prop:=l.length≤maxLen∧(l = []∨∃ b off,a=some ⟨b,off,none⟩∧b<W.heap.size∧∀ (i:Nat) (h:i<l.length),W.cell? ⟨b,off+i*4,none⟩=some (.int .i64 l[i].1.1)∧W.cell? ⟨b,off+i*4+1,none⟩=some (.int .i64 l[i].1.2.1)∧W.cell? ⟨b,off+i*4+2,none⟩=some (.string l[i].1.2.2)∧W.cell? ⟨b,off+i*4+3,none⟩=some (.int .i64 l[i].2))
theorem WsAt.next {W w1:World} {a:Option Addr} {l:List Wp} (h:WsAt W a l) (hb:Below W.heap.size W w1):WsAt w1 a l:=by
 obtain ⟨h0,h | ⟨b,off,e,hlt,hr⟩⟩:=h
 ·exact ⟨h0,.inl h⟩
 ·refine ⟨h0,.inr ⟨b,off,e,Nat.lt_of_lt_of_le hlt hb.size,fun i hi=>?_⟩⟩
  obtain ⟨a0,a1,a2,a3⟩:=hr i hi
  exact ⟨(hb.cell (p:=⟨b,_,none⟩) hlt).trans a0,(hb.cell (p:=⟨b,_,none⟩) hlt).trans a1,(hb.cell (p:=⟨b,_,none⟩) hlt).trans a2,(hb.cell (p:=⟨b,_,none⟩) hlt).trans a3⟩
theorem WsAt.elem {W:World} {a:Option Addr} {l:List Wp} (h:WsAt W a l) {i:Nat} (hi:i<l.length):∃ b off,a=some ⟨b,off,none⟩∧b<W.heap.size∧W.cell? ⟨b,off+i*4,none⟩=some (.int .i64 l[i].1.1)∧W.cell? ⟨b,off+i*4+1,none⟩=some (.int .i64 l[i].1.2.1)∧W.cell? ⟨b,off+i*4+2,none⟩=some (.string l[i].1.2.2)∧W.cell? ⟨b,off+i*4+3,none⟩=some (.int .i64 l[i].2):=by
 obtain ⟨_,h | ⟨b,off,e,hlt,hr⟩⟩:=h
 ·subst h; simp at hi
 ·exact ⟨b,off,e,hlt,hr i hi⟩
theorem own_ws {W:World} {B:Nat} {v:Value} {l:List Wp} (h:W.ownsRow B 221 4 v l.length (flatW l)):∃ a c,v = .slice a l.length c∧WsAt W a l:=by
 have h':=h
 rcases h.2 with ⟨rfl,h0⟩ | ⟨g,cap,cur,rfl,_,_,hn,hc,_⟩
 ·have:l = []:=List.eq_nil_of_length_eq_zero h0
  subst this
  exact ⟨none,0,rfl,Nat.zero_le _,.inl rfl⟩
 ·refine ⟨_,_,rfl,Nat.le_trans hn hc,.inr ⟨g,0,rfl,(h'.lt g rfl).2,fun i hi=>?_⟩⟩
  obtain ⟨a0,a1,a2,a3⟩:=flatW_at l i hi
  refine ⟨?_,?_,?_,?_⟩
  ·rw [h'.cellAt _ (by omega),← a0]; congr 1; omega
  ·rw [h'.cellAt _ (by omega),← a1]; congr 1; omega
  ·rw [h'.cellAt _ (by omega),← a2]; congr 1; omega
  ·rw [h'.cellAt _ (by omega),← a3]; congr 1; omega
/-- A value's number is nothing where its kind has none. -/
def NumB (v:Vl):Prop:=bareN v.1 v.2.1=v.2.1
theorem numB_bare (v:Vl):NumB (bareP v):=by
 unfold NumB bareP bareN
 by_cases h:v.1=2∨v.1=3 <;> simp [h]
theorem numB_tri (o:Option Bool):NumB (tri o):=by rcases o with _ | _ | _ <;> rfl
theorem numB_rec (c:Int) (a b:Vl):NumB (recP c a b):=by
 unfold NumB recP
 generalize recO c a.1 a.2.1 b.1 b.2.1=o
 cases o with
 | none=>simp [optK,optN,bareN]
 | some n =>
  simp only [optK,optN,intK,intN]
  split <;> simp [bareN]
theorem numB_join (a b:Vl):NumB (joinP a b):=by
 unfold NumB joinP
 generalize joinK a.1 a.2.2 b.1 b.2.2=k
 simp [bareN]
theorem numB_two {k:Int} {a b:Vl} (ha:NumB a) (hb:NumB b):NumB (twoP k a b):=by
 have h1:NumB (andP a b):=by unfold andP; exact numB_tri _
 have h2:NumB (orP a b):=by unfold orP; exact numB_tri _
 have h3:∀ a b,NumB (eqP a b):=fun a b=>by unfold eqP; exact numB_tri _
 have h4:∀ a,NumB (notP a):=fun a=>by unfold notP; exact numB_tri _
 have h5:∀ a b,NumB (ltP a b):=fun a b=>by unfold ltP; exact numB_tri _
 have h6:=numB_rec 43 a b
 have h7:=numB_rec 45 a b
 have h8:=numB_rec 42 a b
 have h9:=numB_join a b
 have hc:NumB (coalP a b):=by
  unfold coalP
  split
  ·exact hb
  ·exact ha
 have n1:=h4 (eqP a b)
 have n2:=h4 (ltP a b)
 have n3:=h4 (ltP b a)
 have e1:=h3 a b
 have l1:=h5 a b
 have l2:=h5 b a
 clear h3 h4 h5
 unfold twoP
 by_cases k4:k=4
 ·rw [if_pos k4]; exact h1
 rw [if_neg k4]
 by_cases k5:k=5
 ·rw [if_pos k5]; exact h2
 rw [if_neg k5]
 by_cases k6:k=6
 ·rw [if_pos k6]; exact e1
 rw [if_neg k6]
 by_cases k7:k=7
 ·rw [if_pos k7]; exact n1
 rw [if_neg k7]
 by_cases k8:k=8
 ·rw [if_pos k8]; exact l1
 rw [if_neg k8]
 by_cases k11:k=11
 ·rw [if_pos k11]; exact n2
 rw [if_neg k11]
 by_cases k10:k=10
 ·rw [if_pos k10]; exact l2
 rw [if_neg k10]
 by_cases k9:k=9
 ·rw [if_pos k9]; exact n3
 rw [if_neg k9]
 by_cases k12:k=12
 ·rw [if_pos k12]; exact h6
 rw [if_neg k12]
 by_cases k13:k=13
 ·rw [if_pos k13]; exact h7
 rw [if_neg k13]
 by_cases k14:k=14
 ·rw [if_pos k14]; exact h8
 rw [if_neg k14]
 by_cases k15:k=15
 ·rw [if_pos k15]; exact h9
 rw [if_neg k15]
 exact hc
theorem numB_valX (row:List Vl):∀ x,NumB (valX row x):=Ex.ind fun k v c ks ih=>by
 have hk:∀ i,NumB ((valsX row ks).getD i vl0):=fun i=>by
  rw [valsX_map]
  by_cases h:i<ks.length
  ·have:(ks.map (valX row)).getD i vl0=valX row ks[i]:=by simp [List.getD,h]
   rw [this]
   exact ih _ (List.getElem_mem h)
  ·have:(ks.map (valX row)).getD i vl0=vl0:=by simp [List.getD,h]
   rw [this]
   rfl
 rw [valX]
 unfold nodeV
 split
 ·exact numB_bare _
 split
 ·exact numB_bare _
 split
 ·exact numB_tri _
 split
 ·exact numB_tri _
 split
 ·split
  ·exact hk 1
  ·exact hk 2
 ·exact numB_two (hk 0) (hk 1)
theorem num_bd {v:Vl} (h:wrongP v=0) (hn:NumB v):-1000000000000000≤v.2.1∧v.2.1≤1000000000000000:=by
 unfold NumB bareN at hn
 unfold wrongP wrongF at h
 split at hn
 ·rename_i hk
  rcases hk with hk | hk
  ·rw [hk] at h
   simp at h
   omega
  ·rw [hk] at h
   simp at h
   omega
 ·omega
/-- Values and how often they are there that may be added up. -/
structure WOk (l:List Wp):Prop where
 len:l.length≤400
 wt:∀ p ∈ l,0≤p.2∧p.2≤1000000
 right:∀ p ∈ l,wrongP p.1=0
 num:∀ p ∈ l,NumB p.1
def sumW:List Wp→Int
 | []=>0
 | p :: r=>p.2+sumW r
theorem sumW_take {l:List Wp} {k:Nat} (h:k<l.length):sumW (l.take (k+1))=sumW (l.take k)+l[k].2:=by
 have aux:∀ (l:List Wp) (p:Wp),sumW (l ++ [p])=sumW l+p.2:=by
  intro l p
  induction l with
  | nil=>simp [sumW]
  | cons q r ih=>rw [List.cons_append,sumW,sumW,ih]; omega
 rw [List.take_succ_eq_append_getElem h,aux]
theorem sumW_bd {l:List Wp} (h:∀ p ∈ l,0≤p.2∧p.2≤1000000):0≤sumW l∧sumW l≤1000000*(l.length:Int):=by
 induction l with
 | nil=>simp [sumW]
 | cons p r ih =>
  have h1:=h p (by simp)
  have h2:=ih fun q hq=>h q (by simp [hq])
  rw [sumW,List.length_cons]
  omega
def countP (l:List Wp):Vl:=(3,sumW l,⟨#[]⟩)

set_option maxRecDepth 100000 in
set_option maxHeartbeats 2000000 in
theorem count_at (a:Option Addr) (cap:Nat) (l:List Wp) (w:World) (h:WsAt w a l) (hok:WOk l) :
  Calls Tryz.prog 191 #[.slice a l.length cap] w fun e w'=>e = .returned (agV (countP l))∧Below w.heap.size w w':=by
 have hl:=hok.len
 have HK:Hid (WOk l):=hok
 clear hok
 have hal0:Below w.heap.size w (w.alloc (.cells #[.int .i64 0,.int .i64 0,.string ⟨#[]⟩] 24)):=(Below.refl _ _).alloc (Nat.le_refl _) _
 have q00:=heap_new w #[.int .i64 0,.int .i64 0,.string ⟨#[]⟩] 24
 unfold agV countP
 generalize hs:sumW l=s
 have HS:Hid (sumW l=s):=hs
 clear hs
 go_enter Tryz.func191,Tryz.ntmps191
 go_wp2_with fail
 generalize w.alloc (.cells #[.int .i64 0,.int .i64 0,.string ⟨#[]⟩] 24)=w0 at *
 go_loopw [3,8] (fun v i wr=>∃ (k:Nat) (n:Int),k≤l.length∧i = .int .i64 k∧v = .int .i64 n∧Hid (n=sumW (l.take k))∧0≤n∧n≤1000000*(k:Int)∧Below w0.heap.size w0 wr) (fun _ i _=>l.length - (intOf i).toNat)
 case atStart=>exact ⟨0,0,Nat.zero_le _,rfl,rfl,rfl,by omega,by omega,Below.refl _ _⟩
 case round =>
  obtain ⟨k,n,hk,rfl,rfl,HN,hn0,hn1,hb⟩:=hrel
  have hA:=chain hal0 hb
  by_cases hlt:k<l.length
  ·obtain ⟨b,off,rfl,hbl,c0,c1,c2,c3⟩:=(h.next hA).elem hlt
   have hw:=HK.out.wt _ (List.getElem_mem hlt)
   have hal:Below wr.heap.size wr (wr.alloc (.cells #[.int .i64 l[k].1.1,.int .i64 l[k].1.2.1,.string l[k].1.2.2,.int .i64 l[k].2] 221)):=(Below.refl _ _).alloc (Nat.le_refl _) _
   have HN':Hid (n+l[k].2=sumW (l.take (k+1))):=by show _=_; rw [sumW_take hlt,HN.out]
   go_wp2_with fail
   go_roundw
   case rel=>exact ⟨k+1,n+l[k].2,by omega,by go_num,rfl,HN',by omega,by omega,chain hb hal⟩
   case measure=>simp [intOf]; omega
  ·have e:k=l.length:=by omega
   subst e
   have es:n=s:=by rw [HN.out,List.take_length,HS.out]
   subst es
   have con:=int_in n wr (by simp [inB]; omega)
   have c0:w0.cell? ⟨w.heap.size,0,none⟩=some (.int .i64 0):=cell_of (i:=0) q00 rfl
   go_wp2_with fail
   refine con.mono ?_
   rintro e w2 ⟨rfl,hb2⟩
   clear con
   have q2:=((chain hb hb2).block _ (lt_of_heap q00)).trans q00
   have d0:w2.cell? ⟨w.heap.size,0,none⟩=some (.int .i64 0):=cell_of (i:=0) q2 rfl
   have d1:w2.cell? ⟨w.heap.size,1,none⟩=some (.int .i64 0):=cell_of (i:=1) q2 rfl
   have d2:w2.cell? ⟨w.heap.size,2,none⟩=some (.string ⟨#[]⟩):=cell_of (i:=2) q2 rfl
   have f0:w2.frozen? ⟨w.heap.size,0,none⟩=false:=frozen_of_row w2 w.heap.size 0 _ _ q2
   have f1:w2.frozen? ⟨w.heap.size,1,none⟩=false:=frozen_of_row w2 w.heap.size 1 _ _ q2
   have f2:w2.frozen? ⟨w.heap.size,2,none⟩=false:=frozen_of_row w2 w.heap.size 2 _ _ q2
   have hA2:=chain hA hb2
   go_wp2_with fail
   exact bodyPost_ret (v:=.agg #[.int .i64 3,.int .i64 n,.string ⟨#[]⟩]) (by simp [results,Tryz.results191,go_sem,d0,d1,d2]) rfl ⟨rfl,((hA2.setCell (p:=⟨w.heap.size,0,none⟩) (Nat.le_refl _) _).setCell (p:=⟨w.heap.size,1,none⟩) (Nat.le_refl _) _).setCell (p:=⟨w.heap.size,2,none⟩) (Nat.le_refl _) _⟩
end Go.Proofs.YtohjlfhmnmcndaaGreat
/- Aggregates as function values. -/
namespace Go.Proofs.YtohjlfhmnmcndaaGreat
open Go.RowKit Go.Lib Go.Shelf

/-- Rows of a part: of the columns, there, and not too many. -/
structure ROk (cols:List Int) (rows:List Zp):Prop where
 len:rows.length≤400
 fit:∀ p ∈ rows,FitP cols p.1
 wt:∀ p ∈ rows,0≤p.2∧p.2≤1000000
theorem ROk.known {cols:List Int} {rows:List Zp} (h:ROk cols rows) {f:List Vl→Vl} (hf:∀ row,FitP cols row→wrongP (f row)=0∧NumB (f row)):WOk (knownL f rows):=by
 have hm:∀ p ∈ knownL f rows,∃ q ∈ rows,p=(f q.1,q.2):=fun p hp=>by
  unfold knownL at hp
  obtain ⟨q,hq,e⟩:=List.mem_filterMap.1 hp
  split at e
  ·cases e
  ·exact ⟨q,hq,(Option.some.inj e).symm⟩
 refine ⟨Nat.le_trans (knownL_len f rows) h.len,fun p hp=>?_,fun p hp=>?_,fun p hp=>?_⟩
 ·obtain ⟨q,hq,rfl⟩:=hm p hp; exact h.wt q hq
 ·obtain ⟨q,hq,rfl⟩:=hm p hp; exact (hf _ (h.fit q hq)).1
 ·obtain ⟨q,hq,rfl⟩:=hm p hp; exact (hf _ (h.fit q hq)).2
/-- A function value makes T of what is known, as long as all from lo on is as it was. -/
def TotF (lo:Nat) (u:Value) (T:List Wp→Vl) (w:World):Prop :=
 ∃ g cb,u = .func (.func g) #[] cb∧(∀ args w,(callFunc g args).run Tryz.prog w = .ok (.enter g args) w) ∧
  ∀ (l:List Wp) (a:Option Addr) (cap:Nat) (W:World),WOk l→WsAt W a l→Since lo w W →
   Calls Tryz.prog g (#[.slice a l.length cap] ++ cb) W fun e w'=>e = .returned (agV (T l))∧Below W.heap.size W w'
theorem TotF.next {lo:Nat} {u:Value} {T:List Wp→Vl} {w w1:World} (h:TotF lo u T w) (hb:Since lo w w1):TotF lo u T w1:=by
 obtain ⟨g,cb,e,eg,hd⟩:=h
 exact ⟨g,cb,e,eg,fun l a cap W hk hs hW=>hd l a cap W hk hs (hb.trans hW)⟩
theorem TotF.down {lo lo':Nat} {u:Value} {T:List Wp→Vl} {w:World} (h:TotF lo u T w) (hl:lo'≤lo):TotF lo' u T w:=by
 obtain ⟨g,cb,e,eg,hd⟩:=h
 exact ⟨g,cb,e,eg,fun l a cap W hk hs hW=>hd l a cap W hk hs (hW.up hl)⟩
/-- A function value makes F of rows. -/
def RowsF (cols:List Int) (lo:Nat) (u:Value) (F:List Zp→Vl) (w:World):Prop :=
 ∃ g cb,u = .func (.func g) #[] cb∧(∀ args w,(callFunc g args).run Tryz.prog w = .ok (.enter g args) w) ∧
  ∀ (rows:List Zp) (a:Option Addr) (cap:Nat) (W:World),ROk cols rows→ZsAt W a rows→Since lo w W →
   Calls Tryz.prog g (#[.slice a rows.length cap] ++ cb) W fun e w'=>e = .returned (agV (F rows))∧Below W.heap.size W w'
theorem RowsF.next {cols:List Int} {lo:Nat} {u:Value} {F:List Zp→Vl} {w w1:World} (h:RowsF cols lo u F w) (hb:Since lo w w1):RowsF cols lo u F w1:=by
 obtain ⟨g,cb,e,eg,hd⟩:=h
 exact ⟨g,cb,e,eg,fun l a cap W hk hs hW=>hd l a cap W hk hs (hb.trans hW)⟩
theorem RowsF.down {cols:List Int} {lo lo':Nat} {u:Value} {F:List Zp→Vl} {w:World} (h:RowsF cols lo u F w) (hl:lo'≤lo):RowsF cols lo' u F w:=by
 obtain ⟨g,cb,e,eg,hd⟩:=h
 exact ⟨g,cb,e,eg,fun l a cap W hk hs hW=>hd l a cap W hk hs (hW.up hl)⟩

set_option maxRecDepth 100000 in
set_option maxHeartbeats 2000000 in
theorem agg1_at (cols:List Int) (lo:Nat) (ut uv:Value) (T:List Wp→Vl) (f:List Vl→Vl) (hfr:∀ row,FitP cols row→wrongP (f row)=0∧NumB (f row)) (tb vb:Nat) (a:Option Addr) (cap:Nat) (rows:List Zp) (W:World) (c0:W.cell? ⟨tb,0,none⟩=some ut) (c1:W.cell? ⟨vb,0,none⟩=some uv) (hT:TotF lo ut T W) (hV:Asks cols lo uv f W) (hr:ROk cols rows) (h:ZsAt W a rows) :
  Calls Tryz.prog 154 #[.slice a rows.length cap,.pointer (some ⟨tb,0,none⟩),.pointer (some ⟨vb,0,none⟩)] W fun e w'=>e = .returned (agV (T (knownL f rows)))∧Below W.heap.size W w':=by
 have hV':=hV
 obtain ⟨gv,cv,rfl,_,_⟩:=hV'
 have hT':=hT
 obtain ⟨gt,ct,rfl,egt,dt⟩:=hT'
 have HDt:Hid (∀ (l:List Wp) (a:Option Addr) (cap:Nat) (W':World),WOk l→WsAt W' a l→Since lo W W'→Calls Tryz.prog gt (#[.slice a l.length cap] ++ ct) W' fun e w'=>e = .returned (agV (T l))∧Below W'.heap.size W' w'):=dt
 have HV:Hid (Asks cols lo (.func (.func gv) #[] cv) f W):=hV
 have HW:Hid (WOk (knownL f rows)):=hr.known hfr
 have HR:Hid (ROk cols rows):=hr
 clear hV hT dt hr hfr
 have hal:Below W.heap.size W (W.alloc (.cells #[.int .i64 0,.int .i64 0,.string ⟨#[]⟩] 24)):=(Below.refl _ _).alloc (Nat.le_refl _) _
 have q0:=heap_new W #[.int .i64 0,.int .i64 0,.string ⟨#[]⟩] 24
 generalize hres:T (knownL f rows)=res
 have HRes:Hid (T (knownL f rows)=res):=hres
 clear hres
 go_enter Tryz.func154,Tryz.ntmps154
 go_wp2_with fail
 generalize W.alloc (.cells #[.int .i64 0,.int .i64 0,.string ⟨#[]⟩] 24)=w0 at *
 have d0:=(hal.cell (p:=⟨tb,0,none⟩) (World.block_lt_of_cell? _ _ c0)).trans c0
 have d1:=(hal.cell (p:=⟨vb,0,none⟩) (World.block_lt_of_cell? _ _ c1)).trans c1
 have lt0:tb<W.heap.size:=World.block_lt_of_cell? _ _ c0
 have lt1:vb<W.heap.size:=World.block_lt_of_cell? _ _ c1
 have hCC:∀ X X':World,(X.cell? ⟨tb,0,none⟩=some (.func (.func gt) #[] ct)∧X.cell? ⟨vb,0,none⟩=some (.func (.func gv) #[] cv))→Below X.heap.size X X'→(X'.cell? ⟨tb,0,none⟩=some (.func (.func gt) #[] ct)∧X'.cell? ⟨vb,0,none⟩=some (.func (.func gv) #[] cv)):=fun X X' h hb=>⟨(hb.cell (World.block_lt_of_cell? _ _ h.1)).trans h.1,(hb.cell (World.block_lt_of_cell? _ _ h.2)).trans h.2⟩
 have hdr:Below w0.heap.size w0 w0.drew:=(Below.refl _ _).drew
 have CW:(w0.drew.cell? ⟨tb,0,none⟩=some (.func (.func gt) #[] ct)∧w0.drew.cell? ⟨vb,0,none⟩=some (.func (.func gv) #[] cv)):=hCC _ _ ⟨d0,d1⟩ hdr
 clear c0 c1
 refine wp_region_cls (fun X=>(X.cell? ⟨tb,0,none⟩=some (.func (.func gt) #[] ct)∧X.cell? ⟨vb,0,none⟩=some (.func (.func gv) #[] cv))) (by kernel_rfl) ?_
 refine wpY_take hCC (some 5) (i:=0) (v:=.func (.func gt) #[] ct) rfl rfl (by kernel_rfl) (by kernel_rfl) (by kernel_rfl) (fun _ _ _ h=>h) (Or.inl ⟨rfl,fun n hn=>?_⟩) CW ?_
 ·have hc:=hn.1
  go_simp
 simp only [Act.put,pA,pB,pC]
 refine wpY_take hCC (some 6) (i:=1) (v:=.slice a rows.length cap) rfl rfl (by kernel_rfl) (by kernel_rfl) (by kernel_rfl) (fun _ _ _ h=>h) (Or.inl ⟨rfl,fun n hn=>?_⟩) CW ?_
 ·go_simp
 simp only [Act.put,pA,pB,pC]
 refine wpY_take hCC (some 7) (i:=2) (v:=.func (.func gv) #[] cv) rfl rfl (by kernel_rfl) (by kernel_rfl) (by kernel_rfl) (fun _ _ _ h=>h) (Or.inl ⟨rfl,fun n hn=>?_⟩) CW ?_
 ·have hc:=hn.2
  go_simp
 simp only [Act.put,pA,pB,pC]
 refine wpY_step (rs:=[3]) (by kernel_rfl) (by simp) ?_
 intro w3 hb3 jj hj
 obtain rfl:jj=3:=by simpa using hj
 clear hj
 have CW3:=hCC _ _ CW hb3
 have D3:=chain hal (chain hdr hb3)
 have con:=known_at cols lo _ f a cap rows w3 (HV.out.next (Since.of D3)) (h.next D3) HR.out.fit HR.out.len
 refine wpOp_step rfl (fun K hK=>?_)
 go_simp
 refine con.mono ?_
 rintro e w4 ⟨v4,rfl,O4,hb4⟩
 clear con
 obtain ⟨a4,c4,rfl,S4⟩:=own_ws O4
 have CW4:=hCC _ _ CW3 hb4
 have D4:=chain D3 hb4
 refine hK _ _ ⟨CW4,?_⟩
 clear hK K O4
 refine wpY_step (rs:=[4]) (by kernel_rfl) (by simp) ?_
 intro w5 hb5 jj hj
 obtain rfl:jj=4:=by simpa using hj
 clear hj
 have CW5:=hCC _ _ CW4 hb5
 have D5:=chain D4 hb5
 have con:=HDt.out (knownL f rows) a4 c4 w5 HW.out (S4.next hb5) (Since.of D5)
 rw [HRes.out] at con
 refine wpOp_step rfl (fun K hK=>?_)
 go_simp
 first | (refine con.mono ?_) | (go_at_fn gt; refine con.mono ?_)
 rintro e w6 ⟨rfl,hb6⟩
 clear con
 have CW6:=hCC _ _ CW5 hb6
 have D6:=chain D5 hb6
 refine hK _ _ ⟨CW6,?_⟩
 clear hK K
 refine wpY_step (rs:=[5]) (by kernel_rfl) (by simp) ?_
 intro w7 hb7 jj hj
 obtain rfl:jj=5:=by simpa using hj
 clear hj
 have CW7:=hCC _ _ CW6 hb7
 have D7:=chain D6 hb7
 have q7:w7.heap[W.heap.size]? = some (.cells #[.int .i64 0,.int .i64 0,.string ⟨#[]⟩] 24 (0,0)):=((chain hdr (chain hb3 (chain hb4 (chain hb5 (chain hb6 hb7))))).block _ (lt_of_heap q0)).trans q0
 have e0:w7.cell? ⟨W.heap.size,0,none⟩=some (.int .i64 0):=cell_of (i:=0) q7 rfl
 have e1:w7.cell? ⟨W.heap.size,1,none⟩=some (.int .i64 0):=cell_of (i:=1) q7 rfl
 have e2:w7.cell? ⟨W.heap.size,2,none⟩=some (.string ⟨#[]⟩):=cell_of (i:=2) q7 rfl
 have f0:w7.frozen? ⟨W.heap.size,0,none⟩=false:=frozen_of_row w7 W.heap.size 0 _ _ q7
 have f1:w7.frozen? ⟨W.heap.size,1,none⟩=false:=frozen_of_row w7 W.heap.size 1 _ _ q7
 have f2:w7.frozen? ⟨W.heap.size,2,none⟩=false:=frozen_of_row w7 W.heap.size 2 _ _ q7
 have ne0:∀ o u (X:World),(X.setCell ⟨W.heap.size,o,none⟩ u).cell? ⟨tb,0,none⟩=X.cell? ⟨tb,0,none⟩:=fun o u X=>World.cell?_setCell_other _ _ _ _ (by intro e; injection e with e; omega)
 have ne1:∀ o u (X:World),(X.setCell ⟨W.heap.size,o,none⟩ u).cell? ⟨vb,0,none⟩=X.cell? ⟨vb,0,none⟩:=fun o u X=>World.cell?_setCell_other _ _ _ _ (by intro e; injection e with e; omega)
 unfold agV
 refine wpOp_step rfl (fun K hK=>?_)
 go_simp
 refine hK _ _ ⟨⟨by rw [ne0,ne0,ne0]; exact CW7.1,by rw [ne1,ne1,ne1]; exact CW7.2⟩,?_⟩
 clear hK K CW3 CW4 CW5 CW6
 have B8:Below W.heap.size W (((w7.setCell ⟨W.heap.size,0,none⟩ (.int .i64 res.1)).setCell ⟨W.heap.size,1,none⟩ (.int .i64 res.2.1)).setCell ⟨W.heap.size,2,none⟩ (.string res.2.2)):=((D7.setCell (p:=⟨W.heap.size,0,none⟩) (Nat.le_refl _) _).setCell (p:=⟨W.heap.size,1,none⟩) (Nat.le_refl _) _).setCell (p:=⟨W.heap.size,2,none⟩) (Nat.le_refl _) _
 have g0:(((w7.setCell ⟨W.heap.size,0,none⟩ (.int .i64 res.1)).setCell ⟨W.heap.size,1,none⟩ (.int .i64 res.2.1)).setCell ⟨W.heap.size,2,none⟩ (.string res.2.2)).cell? ⟨W.heap.size,0,none⟩=some (.int .i64 res.1):=by simp [go_sem,e0]
 have g1:(((w7.setCell ⟨W.heap.size,0,none⟩ (.int .i64 res.1)).setCell ⟨W.heap.size,1,none⟩ (.int .i64 res.2.1)).setCell ⟨W.heap.size,2,none⟩ (.string res.2.2)).cell? ⟨W.heap.size,1,none⟩=some (.int .i64 res.2.1):=by simp [go_sem,e1]
 have g2:(((w7.setCell ⟨W.heap.size,0,none⟩ (.int .i64 res.1)).setCell ⟨W.heap.size,1,none⟩ (.int .i64 res.2.1)).setCell ⟨W.heap.size,2,none⟩ (.string res.2.2)).cell? ⟨W.heap.size,2,none⟩=some (.string res.2.2):=by simp [go_sem,e2]
 have l8:W.heap.size<(((w7.setCell ⟨W.heap.size,0,none⟩ (.int .i64 res.1)).setCell ⟨W.heap.size,1,none⟩ (.int .i64 res.2.1)).setCell ⟨W.heap.size,2,none⟩ (.string res.2.2)).heap.size:=World.block_lt_of_cell? _ _ g0
 clear e0 e1 e2 f0 f1 f2 q7 CW7 ne0 ne1
 generalize (((w7.setCell ⟨W.heap.size,0,none⟩ (.int .i64 res.1)).setCell ⟨W.heap.size,1,none⟩ (.int .i64 res.2.1)).setCell ⟨W.heap.size,2,none⟩ (.string res.2.2))=w8 at *
 refine wpY_done (by kernel_rfl) ?_
 intro w9 hb9
 have k0:=(hb9.cell (p:=⟨W.heap.size,0,none⟩) l8).trans g0
 have k1:=(hb9.cell (p:=⟨W.heap.size,1,none⟩) l8).trans g1
 have k2:=(hb9.cell (p:=⟨W.heap.size,2,none⟩) l8).trans g2
 have B9:=chain B8 hb9
 clear g0 g1 g2 CW hCC
 go_wp2_with fail
 exact bodyPost_ret (v:=.agg #[.int .i64 res.1,.int .i64 res.2.1,.string res.2.2]) (by simp [results,Tryz.results154,go_sem,k0,k1,k2]) rfl ⟨rfl,B9⟩

/-- Function values in a slice in a variable: what they make of rows. -/
def KidsR (cols:List Int) (lo:Nat) (W:World) (kb:Nat) (Fs:List (List Zp→Vl)):Prop :=
 ∃ K,lo≤kb∧kb<W.heap.size∧lo≤K∧K<W.heap.size∧W.cell? ⟨kb,0,none⟩=some (.slice (some ⟨K,0,none⟩) Fs.length Fs.length) ∧
  ∀ (i:Nat) (h:i<Fs.length),∃ u,W.cell? ⟨K,i,none⟩=some u∧RowsF cols lo u Fs[i] W
theorem KidsR.next {cols:List Int} {lo:Nat} {W w1:World} {kb:Nat} {Fs:List (List Zp→Vl)} (h:KidsR cols lo W kb Fs) (hb:Since lo W w1):KidsR cols lo w1 kb Fs:=by
 obtain ⟨K,h1,h2,h3,h4,h5,h6⟩:=h
 refine ⟨K,h1,Nat.lt_of_lt_of_le h2 hb.1,h3,Nat.lt_of_lt_of_le h4 hb.1,(hb.cell (p:=⟨kb,0,none⟩) h1 h2).trans h5,fun i hi=>?_⟩
 obtain ⟨u,c,a⟩:=h6 i hi
 exact ⟨u,(hb.cell (p:=⟨K,i,none⟩) h3 h4).trans c,a.next hb⟩

set_option maxHeartbeats 1000000 in
theorem agg2_at (cols:List Int) (lo:Nat) (vb:Nat) (Fs:List (List Zp→Vl)) (a:Option Addr) (rows:List Zp) (cap:Nat) (W:World) (hK:KidsR cols lo W vb Fs) (h8:Fs.length≤8) (hr:ROk cols rows) (hs:ZsAt W a rows) :
  Calls Tryz.prog 156 #[.slice a rows.length cap,.pointer (some ⟨vb,0,none⟩)] W fun e w'=>e = .returned (.slice (some ⟨W.heap.size,0,none⟩) Fs.length Fs.length)∧RowNew W.heap.size w' (Fs.map fun F=>F rows)∧Below W.heap.size W w':=by
 obtain ⟨i0,hi,hz0,hz1,hz2⟩:=info_parts Tryz.info49
 obtain ⟨K,k1,k2,k3,k4,k5,k6⟩:=hK
 have HK:Hid (∀ (i:Nat) (h:i<Fs.length),∃ u,W.cell? ⟨K,i,none⟩=some u∧RowsF cols lo u Fs[i] W):=k6
 go_enter Tryz.func156,Tryz.ntmps156
 go_wp2_with (first | (at_make; refine wpList_make_full _ rfl _ _ 56 rfl W.heap.size 24 i0 _ 3 Tryz.underlying56 hi hz0 hz1 .i64 .i64 Fs.length Fs.length Fs.length rfl rfl rfl rfl (by rw [hz2]; omega) (by unfold maxLen; omega) (Nat.le_refl _) ?_))
 intro w1 hown hgrow
 have hb0:Below W.heap.size W w1:=(Below.refl _ _).grown hgrow (Nat.le_refl _) (by simp)
 have hB0:VTo w1 W.heap.size Fs.length (fun j=>(Fs.getD j (fun _=>vl0)) rows) 0:=⟨_,hown,fun j _ hj=>absurd hj (Nat.not_lt_zero _)⟩
 have c1:=(hb0.cell (p:=⟨vb,0,none⟩) k2).trans k5
 clear hown hgrow k5 k6
 go_wp2_with fail
 clear c1
 go_loopw [12] (fun i wr=>∃ k:Nat,k≤Fs.length∧i = .int .i64 k∧VTo wr W.heap.size Fs.length (fun j=>(Fs.getD j (fun _=>vl0)) rows) k∧Below W.heap.size W wr) (fun i _=>Fs.length - (intOf i).toNat)
 case atStart=>exact ⟨0,Nat.zero_le _,rfl,hB0,hb0⟩
 case round =>
  obtain ⟨k,hk,rfl,HB,hb⟩:=hrel
  have hz:=hb.size
  by_cases hlt:k<Fs.length
  ·obtain ⟨u,cu,A⟩:=HK.out k hlt
   have cu:=(hb.cell (p:=⟨K,k,none⟩) k4).trans cu
   obtain ⟨g,cb,rfl,eg,d⟩:=A
   have d:=d rows a cap wr hr (hs.next hb) (Since.of hb)
   have ev:Fs[k] rows=(fun j=>(Fs.getD j (fun _=>vl0)) rows) k:=by simp [List.getD,hlt]
   rw [ev] at d
   generalize (fun j=>(Fs.getD j (fun _=>vl0)) rows)=f at *
   have i0:(0:Int)≤(k:Int):=by omega
   have i1:(k:Int)<(Fs.length:Int):=by omega
   go_wp2_with (go_at_fn g; refine d.mono ?_; rintro e w2 ⟨rfl,hb2⟩; have HB2:=HB.next hb2; obtain ⟨⟨u0,u1,u2,d0,d1,d2⟩,f0,f1,f2,hlb⟩:=HB2.cells hlt; have zz:=hb2.size)
   go_roundw
   case rel =>
    refine ⟨k+1,by omega,by go_num,?_,?_⟩
    ·exact HB2.step hlt
    ·exact (((chain hb hb2).setCell (p:=⟨W.heap.size,k*3,none⟩) (Nat.le_refl _) _).setCell (p:=⟨W.heap.size,k*3+1,none⟩) (Nat.le_refl _) _).setCell (p:=⟨W.heap.size,k*3+2,none⟩) (Nat.le_refl _) _
   case measure=>simp [intOf]; omega
  ·have e:k=Fs.length:=by omega
   subst e
   go_wp2_with fail
   go_ret
   exact ⟨rfl,HB.done (Fs.map fun F:List Zp→Vl=>F rows) (by simp) (fun j hj=>by simp at hj; simp [List.getD,hj]) (by simp; omega),hb⟩
end Go.Proofs.YtohjlfhmnmcndaaGreat
/- What an aggregate asks; aggregates. -/
namespace Go.Proofs.YtohjlfhmnmcndaaGreat
open Go.RowKit Go.Lib Go.Shelf

/-- A kind, and an expression. -/
abbrev Ag:Type:=Int × Ex
def measE (cols:List Int) (g:Ag):Int:=if g.1=1 then 0 else if g.1<2∨5<g.1 then 1 else if (typeTop cols g.2).2≠0 then (typeTop cols g.2).2 else if g.1=3∧(typeTop cols g.2).1≠3∧(typeTop cols g.2).1≠1 then 9 else 0
def measF (g:Ag):List Vl→Vl:=if g.1=1 then fun _=>(2,1,⟨#[]⟩) else fun row=>valX row g.2
theorem measF_right {cols:List Int} {g:Ag} (h:measE cols g=0):∀ row,FitP cols row→wrongP (measF g row)=0∧NumB (measF g row):=by
 intro row hf
 unfold measF
 split
 ·exact ⟨by simp [wrongP,wrongF],rfl⟩
 ·rename_i h1
  unfold measE at h
  rw [if_neg h1] at h
  by_cases h2:g.1<2∨5<g.1
  ·rw [if_pos h2] at h; cases h
  ·rw [if_neg h2] at h
   by_cases h3:(typeTop cols g.2).2=0
   ·exact ⟨(valX_of hf g.2 _ (typ_of h3)).1,numB_valX row g.2⟩
   ·rw [if_pos h3] at h; exact absurd h h3
def sumN:List Wp→Int
 | []=>0
 | p :: r=>p.2*p.1.2.1+sumN r
def sumP (l:List Wp):Vl:=if l = [] then (1,0,⟨#[]⟩) else if inB (sumN l)=true then (3,sumN l,⟨#[]⟩) else (1,0,⟨#[]⟩)
def minP:List Wp→Vl
 | []=>(1,0,⟨#[]⟩)
 | p :: r=>r.foldl (fun m x=>if cmpP x.1 m<0 then x.1 else m) p.1
def maxP:List Wp→Vl
 | []=>(1,0,⟨#[]⟩)
 | p :: r=>r.foldl (fun m x=>if 0<cmpP x.1 m then x.1 else m) p.1
def totP (k:Int) (l:List Wp):Vl:=if k=3 then sumP l else if k=4 then minP l else if k=5 then maxP l else countP l
/-- What an aggregate comes to. -/
def aggP (g:Ag) (rows:List Zp):Vl:=totP g.1 (knownL (measF g) rows)
/-- What is wrong with aggregates. -/
def aggsE (cols:List Int):List Ag→Int
 | []=>0
 | g :: r=>if measE cols g=0 then aggsE cols r else measE cols g
theorem aggsE_next (cols:List Int) (gs:List Ag) (j:Nat) (h:j<gs.length) (h0:measE cols gs[j]=0):aggsE cols (gs.drop j)=aggsE cols (gs.drop (j+1)):=by
 rw [List.drop_eq_getElem_cons h,aggsE,if_pos h0]
theorem aggsE_bad (cols:List Int) (gs:List Ag) (j:Nat) (h:j<gs.length) (h0:¬ measE cols gs[j]=0):aggsE cols (gs.drop j)=measE cols gs[j]:=by
 rw [List.drop_eq_getElem_cons h,aggsE,if_neg h0]
/-- Aggregates in memory. -/
def AgAt (B:Nat) (W:World) (a:Option Addr) (l:List Ag):Prop:=l = []∨∃ (b off:Nat) (ai:Nat→Option Addr) (cap:Nat→Nat),a=some ⟨b,off,none⟩∧b<B∧∀ (i:Nat) (h:i<l.length),W.cell? ⟨b,off+i*7,none⟩=some (.int .i64 l[i].1)∧Six W b (off+i*7+1) l[i].2.k l[i].2.v l[i].2.c (ai i) l[i].2.ks.length (cap i)∧KsAt B W (ai i) l[i].2.ks
theorem AgAt.next {B B':Nat} {W w1:World} (hb:Below B' W w1) (hB:B≤B') {a:Option Addr} {l:List Ag} (h:AgAt B W a l):AgAt B w1 a l:=by
 rcases h with h | ⟨b,off,ai,cap,e,hlt,h⟩
 ·exact .inl h
 ·refine .inr ⟨b,off,ai,cap,e,hlt,fun i hi=>?_⟩
  obtain ⟨h1,h2,h3⟩:=h i hi
  exact ⟨(hb.cell (p:=⟨b,_,none⟩) (Nat.lt_of_lt_of_le hlt hB)).trans h1,h2.next hb (Nat.lt_of_lt_of_le hlt hB),KsAt.next hb hB h3⟩
theorem AgAt.up {B B':Nat} {W:World} (hB:B≤B') {a:Option Addr} {l:List Ag} (h:AgAt B W a l):AgAt B' W a l:=by
 rcases h with h | ⟨b,off,ai,cap,e,hlt,h⟩
 ·exact .inl h
 ·refine .inr ⟨b,off,ai,cap,e,Nat.lt_of_lt_of_le hlt hB,fun i hi=>?_⟩
  obtain ⟨h1,h2,h3⟩:=h i hi
  exact ⟨h1,h2,h3.up hB⟩
theorem AgAt.elem {B:Nat} {W:World} {a:Option Addr} {l:List Ag} (h:AgAt B W a l) {i:Nat} (hi:i<l.length):∃ b off ai ci,a=some ⟨b,off,none⟩∧b<B∧W.cell? ⟨b,off+i*7,none⟩=some (.int .i64 l[i].1)∧Six W b (off+i*7+1) l[i].2.k l[i].2.v l[i].2.c ai l[i].2.ks.length ci∧KsAt B W ai l[i].2.ks:=by
 rcases h with h | ⟨b,off,ai,cap,e,hlt,h⟩
 ·subst h; simp at hi
 ·exact ⟨b,off,ai i,cap i,e,hlt,h i hi⟩

set_option maxHeartbeats 400000 in
theorem meas1_at (a:Option Addr) (n cap:Nat) (w:World):Calls Tryz.prog 185 #[.slice a n cap] w fun e w'=>e = .returned (.agg #[.int .i64 2,.int .i64 1,.string ⟨#[]⟩])∧Below w.heap.size w w':=by
 have hal:Below w.heap.size w (w.alloc (.cells #[.int .i64 0,.int .i64 0,.string ⟨#[]⟩] 24)):=(Below.refl _ _).alloc (Nat.le_refl _) _
 have q0:=heap_new w #[.int .i64 0,.int .i64 0,.string ⟨#[]⟩] 24
 go_enter Tryz.func185,Tryz.ntmps185
 go_wp2_with fail
 generalize w.alloc (.cells #[.int .i64 0,.int .i64 0,.string ⟨#[]⟩] 24)=w0 at *
 refine (bool_true w0).mono ?_
 rintro e w2 ⟨rfl,hb2⟩
 have q2:=(hb2.block _ (lt_of_heap q0)).trans q0
 have d0:w2.cell? ⟨w.heap.size,0,none⟩=some (.int .i64 0):=cell_of (i:=0) q2 rfl
 have d1:w2.cell? ⟨w.heap.size,1,none⟩=some (.int .i64 0):=cell_of (i:=1) q2 rfl
 have d2:w2.cell? ⟨w.heap.size,2,none⟩=some (.string ⟨#[]⟩):=cell_of (i:=2) q2 rfl
 have f0:w2.frozen? ⟨w.heap.size,0,none⟩=false:=frozen_of_row w2 w.heap.size 0 _ _ q2
 have f1:w2.frozen? ⟨w.heap.size,1,none⟩=false:=frozen_of_row w2 w.heap.size 1 _ _ q2
 have f2:w2.frozen? ⟨w.heap.size,2,none⟩=false:=frozen_of_row w2 w.heap.size 2 _ _ q2
 have hA2:=chain hal hb2
 go_wp2_with fail
 exact bodyPost_ret (v:=.agg #[.int .i64 2,.int .i64 1,.string ⟨#[]⟩]) (by simp [results,Tryz.results185,go_sem,d0,d1,d2]) rfl ⟨rfl,((hA2.setCell (p:=⟨w.heap.size,0,none⟩) (Nat.le_refl _) _).setCell (p:=⟨w.heap.size,1,none⟩) (Nat.le_refl _) _).setCell (p:=⟨w.heap.size,2,none⟩) (Nat.le_refl _) _⟩

set_option maxRecDepth 100000 in
set_option maxHeartbeats 2000000 in
theorem measuredOk_at (cols:List Int) (g:Ag) (ca:Option Addr) (ccap:Nat) (a:Option Addr) (cap:Nat) (w:World) (hk:KsAt w.heap.size w a g.2.ks) (hc:IsAt w.heap.size w ca cols) (h:measE cols g=0) :
  Calls Tryz.prog 152 #[.slice ca cols.length ccap,.agg #[.int .i64 g.1,.int .i64 g.2.k,.int .i64 g.2.v.1,.int .i64 g.2.v.2.1,.string g.2.v.2.2,.int .i64 g.2.c,.slice a g.2.ks.length cap]] w fun e w'=>∃ u,e = .returned (.tuple #[u,.int .i64 0])∧Asks cols w.heap.size u (measF g) w'∧Below w.heap.size w w':=by
 have hal:Below w.heap.size w (w.alloc (.cells #[.int .i64 g.1,.int .i64 g.2.k,.int .i64 g.2.v.1,.int .i64 g.2.v.2.1,.string g.2.v.2.2,.int .i64 g.2.c,.slice a g.2.ks.length cap] 133)):=(Below.refl _ _).alloc (Nat.le_refl _) _
 have q0:=heap_new w #[.int .i64 g.1,.int .i64 g.2.k,.int .i64 g.2.v.1,.int .i64 g.2.v.2.1,.string g.2.v.2.2,.int .i64 g.2.c,.slice a g.2.ks.length cap] 133
 by_cases h1:g.1=1
 ·have hF:measF g=fun _=>(2,1,⟨#[]⟩):=by unfold measF; rw [if_pos h1]
  have HF:Hid (measF g=fun _=>(2,1,⟨#[]⟩)):=hF
  clear hF h
  rw [h1] at hal
  generalize measF g=F at *
  go_enter Tryz.func152,Tryz.ntmps152
  go_wp2_with fail
  exact bodyPost_ret (v:=.tuple #[.func (.func 185) #[] #[],.int .i64 0]) (by simp [results,Tryz.results152,go_sem]) rfl ⟨_,rfl,by
   rw [HF.out]
   exact ⟨185,#[],rfl,enters_of Tryz.func185 (by kernel_rfl) rfl,fun row a cap W _ _ _=>by simpa [agV] using meas1_at a row.length cap W⟩,hal⟩
 ·have hF:measF g=fun row=>valX row g.2:=by unfold measF; rw [if_neg h1]
  have HF:Hid (measF g=fun row=>valX row g.2):=hF
  have h2:¬ (g.1<2∨5<g.1):=fun h2=>by unfold measE at h; rw [if_neg h1,if_pos h2] at h; cases h
  have h3:(typeTop cols g.2).2=0:=Classical.byContradiction fun h3=>by unfold measE at h; rw [if_neg h1,if_neg h2,if_pos h3] at h; exact h3 h
  have h4:g.1=3→(typeTop cols g.2).1=3∨(typeTop cols g.2).1=1:=fun e=>by
   unfold measE at h
   rw [if_neg h1,if_neg h2,if_neg (by simpa using h3)] at h
   by_cases h5:(typeTop cols g.2).1=3
   ·exact .inl h5
   ·by_cases h6:(typeTop cols g.2).1=1
    ·exact .inr h6
    ·rw [if_pos ⟨e,h5,h6⟩] at h; cases h
  have con:=readyOk_at cols g.2 ca ccap a cap _ ((KsAt.next hal (Nat.le_refl _) hk).up hal.size) ((hc.next hal (Nat.le_refl _)).up hal.size) h3
  have hk4:g.1=2∨g.1=3∨g.1=4∨g.1=5:=by omega
  clear hF h h3 h2 h1
  generalize measF g=F at *
  generalize (typeTop cols g.2).1=t at *
  unfold exV at con
  go_enter Tryz.func152,Tryz.ntmps152
  generalize hk1:g.1=kd at *
  clear hk1
  have main:(kd=2∨kd=4∨kd=5)∨(kd=3∧(t=3∨t=1)):=by
   rcases hk4 with e | e | e | e
   ·exact .inl (.inl e)
   ·exact .inr ⟨e,h4 e⟩
   ·exact .inl (.inr (.inl e))
   ·exact .inl (.inr (.inr e))
  clear hk4 h4
  rcases main with (rfl | rfl | rfl) | ⟨rfl,rfl | rfl⟩
  all_goals (
   go_wp2_with fail
   generalize w.alloc (.cells #[_,.int .i64 g.2.k,.int .i64 g.2.v.1,.int .i64 g.2.v.2.1,.string g.2.v.2.2,.int .i64 g.2.c,.slice a g.2.ks.length cap] 133)=w1 at *
   refine con.mono ?_
   rintro e w2 ⟨u,rfl,hA2,hb2⟩
   have hA:=chain hal hb2
   have q2:=(hb2.block _ (lt_of_heap q0)).trans q0
   have c0:=cell_of (i:=0) q2 rfl
   clear con
   have hA2:=hA2.down hal.size
   obtain ⟨g',cb,rfl⟩:∃ g' cb,u = .func (.func g') #[] cb:=by obtain ⟨g',cb,e,_⟩:=hA2; exact ⟨g',cb,e⟩
   dsimp only
   go_wp2_with fail
   exact bodyPost_ret (v:=.tuple #[.func (.func g') #[] cb,.int .i64 0]) (by simp [results,Tryz.results152,go_sem]) rfl ⟨_,rfl,by rw [HF.out]; exact hA2,hA⟩)
end Go.Proofs.YtohjlfhmnmcndaaGreat
