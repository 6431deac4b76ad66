/- Together: H8, H9, HT1, HW, Q4, HP1, HP4, HP5, HA1. -/
import Derived.Laws.StructEq
import Derived.Test.YtcnmpiahcnkndaaGreatMP7
import Derived.Test.YtcnmpiahcnkndaaGreatMP5
import Derived.Test.YtcnmpiahcnkndaaGreatMP6
import Derived.Test.YtcnmpiahcnkndaaGreatMP0
/- What begins with a part: all tellers side by side. -/
namespace Go.Proofs.YtcnmpiahcnkndaaGreat
open Go.RowKit Go.Lib Go.Shelf

/-- A function value that tells all wins of the rows of a part. -/
structure TlL (cols:List Int) (w1:World) (gs:List Ag) (g:Nat) (cb:Array Value) (a b:Nat) (I:List Lp→World→Prop):Prop where
 lo:w1.heap.size≤a
 lt:∀ h W,I h W→b≤W.heap.size
 next:∀ h W W',I h W→W.heap.size≤W'.heap.size→(∀ k,a≤k→k<b→W'.heap[k]? = W.heap[k]?)→I h W'
 enter:∀ args w,(callFunc g args).run Tryz.prog w = .ok (.enter g args) w
 call:∀ (h:List Lp) (p:Lp) (v:Value) (W:World),I h W→h.length<1000→(∀ q ∈ h,FitP cols q.2.2)→FitP cols p.2.2→PlaceV w1 v p→Below w1.heap.size w1 W →
  Calls Tryz.prog g (#[v] ++ cb) W fun e W'=>∃ B,e = .returned (.slice (some ⟨B,0,none⟩) gs.length gs.length)∧W.heap.size≤B∧SlAt W' (some ⟨B,0,none⟩) (gs.map fun g=>winT g h p)∧I (p :: h) W'∧KeepO a b W W'
def AllI (cols:List Int) (w1:World) (gs:List Ag) (tv K M hi:Nat) (g:Nat→Nat) (cb:Nat→Array Value) (a b:Nat→Nat) (I:Nat→List Lp→World→Prop) (h:List Lp) (W:World):Prop :=
 Bk W tv #[.slice (some ⟨K,0,none⟩) gs.length gs.length] 107∧TsK cols w1 W K M hi gs.length (fun i=>winT (gs.getD i ag0)) (fun _=>h) g cb a b I
theorem all_tl (cols:List Int) (w1:World) (gs:List Ag) (h8:gs.length≤8) (tv K M hi:Nat) (g:Nat→Nat) (cb:Nat→Array Value) (a b:Nat→Nat) (I:Nat→List Lp→World→Prop) (hK:w1.heap.size≤K) (hKt:K≤tv) (htM:tv<M) (hM:M≤hi) :
  TlL cols w1 gs 55 #[.pointer (some ⟨tv,0,none⟩)] K hi (AllI cols w1 gs tv K M hi g cb a b I) where
 lo:=hK
 lt:=fun h W ⟨_,t⟩=>t.kk.2.1
 next:=fun h W W' ⟨h1,t⟩ hz hs=>⟨h1.same (hs _ hKt (by omega)),t.same hz fun k hk=>hs k (by have:=t.kk; omega) (by have:=t.kk; omega)⟩
 enter:=enters_of Tryz.func55 (by kernel_rfl) rfl
 call:=fun h p v W ⟨h1,t⟩ hn hfh hfp hv hb=>by
  refine (tell1_at cols w1 W hb gs h8 h hn hfh v p hfp hv tv K M hi h1 htM (by omega) g cb a b I t).mono ?_
  rintro e w' ⟨B,rfl,k1,k2,k3,k4,k5⟩
  exact ⟨B,rfl,k1,k2,⟨k3,k4⟩,k5.wide (by omega) (Nat.le_refl _)⟩

/-- The first tellers have begun. -/
def TsE (cols:List Int) (w1 W:World) (K M:Nat) (gs:List Ag) (n:Nat):Prop:=∃ g cb a b I,TsK cols w1 W K M W.heap.size n (fun i=>winT (gs.getD i ag0)) (fun _=>[]) g cb a b I
theorem TsK.up {cols:List Int} {w1 W:World} {K M hi hi' n:Nat} {Fs:Nat→List Lp→Lp→Vl} {H:Nat→List Lp} {g:Nat→Nat} {cb:Nat→Array Value} {a b:Nat→Nat} {I:Nat→List Lp→World→Prop} (t:TsK cols w1 W K M hi n Fs H g cb a b I) (h1:hi≤hi') (h2:hi'≤W.heap.size):TsK cols w1 W K M hi' n Fs H g cb a b I :=
 ⟨⟨t.kk.1,h2,t.kk.2.2⟩,t.cell,t.tl,t.inv,fun i h=>⟨(t.lo i h).1,Nat.le_trans (t.lo i h).2 h1⟩,t.apart⟩
theorem TsE.next {cols:List Int} {w1 W W':World} {K M:Nat} {gs:List Ag} {n:Nat} (h:TsE cols w1 W K M gs n) (hb:Below W.heap.size W W'):TsE cols w1 W' K M gs n:=by
 obtain ⟨g,cb,a,b,I,t⟩:=h
 exact ⟨g,cb,a,b,I,(t.next hb).up hb.size (Nat.le_refl _)⟩
theorem TsE.push {cols:List Int} {w1 W W':World} {K M:Nat} {gs:List Ag} {n:Nat} (h:TsE cols w1 W K M gs n) (hb:Below W.heap.size W W') {g':Nat} {cb':Array Value} {a' b':Nat} {I':List Lp→World→Prop} (hM:M≤W.heap.size) (ha:W.heap.size≤a') (t':Tl cols w1 (fun h p=>agV (winT (gs.getD n ag0) h p)) g' cb' a' b' I') (hi:I' [] W') (hc:∃ u,W'.cell? ⟨K,n,none⟩=some u) :
  TsE cols w1 (W'.setCell ⟨K,n,none⟩ (.func (.func g') #[] cb')) K M gs (n+1):=by
 obtain ⟨g,cb,a,b,I,t⟩:=h
 have z:=hb.size
 have kk:=t.kk
 have t2:=t.next hb
 have hsz:(W'.setCell ⟨K,n,none⟩ (.func (.func g') #[] cb')).heap.size=W'.heap.size:=by simp [World.setCell]
 have far:∀ k,k≠K→(W'.setCell ⟨K,n,none⟩ (.func (.func g') #[] cb')).heap[k]? = W'.heap[k]?:=fun k hk=>Below.heap_setCell _ _ _ _ hk
 have lt':=t'.lt _ _ hi
 refine ⟨fun i=>if i=n then g' else g i,fun i=>if i=n then cb' else cb i,fun i=>if i=n then a' else a i,fun i=>if i=n then b' else b i,fun i=>if i=n then I' else I i,?_⟩
 refine ⟨⟨kk.1,by omega,by omega⟩,fun i hi=>?_,fun i hi=>?_,fun i h=>?_,fun i hi=>?_,fun i j hij hj=>?_⟩
 ·by_cases e:i=n
  ·subst e
   simp only [if_true]
   obtain ⟨u,hu⟩:=hc
   exact World.cell?_setCell_same' _ _ _ (by rw [hu]; rfl)
  ·simp only [e,if_false]
   rw [World.cell?_setCell_other _ _ _ _ (by intro h; injection h with _ h; omega)]
   exact t2.cell i (by omega)
 ·by_cases e:i=n
  ·subst e; simp only [if_true]; exact t'
  ·simp only [e,if_false]; exact t.tl i (by omega)
 ·by_cases e:i=n
  ·subst e; simp only [if_true]
   exact t'.next _ _ _ hi (by omega) fun k k1 k2=>far k (by omega)
  ·simp only [e,if_false]
   have hi2:i<n:=by omega
   exact (t.tl i hi2).next _ _ _ (t2.inv i hi2) (by omega) fun k k1 k2=>far k (by have:=t.lo i hi2; omega)
 ·by_cases e:i=n
  ·subst e; simp only [if_true]; omega
  ·simp only [e,if_false]
   have:=t.lo i (by omega)
   omega
 ·have ei:¬ i=n:=by omega
  simp only [ei,if_false]
  by_cases e:j=n
  ·subst e; simp only [if_true]
   have:=t.lo i (by omega)
   omega
  ·simp only [e,if_false]; exact t.apart i j hij (by omega)

theorem make_tells {n:Nat} (h:n≤8) (w:World):(Instr.makeSlice 107 (.int .i64 n) (.int .i64 n)).run Tryz.prog w = .ok (.slice (some ⟨w.heap.size,0,none⟩) n n) (w.alloc (.cells (Array.replicate n Value.nilFunc) 108)):=by
 obtain rfl | rfl | rfl | rfl | rfl | rfl | rfl | rfl | rfl:n=0∨n=1∨n=2∨n=3∨n=4∨n=5∨n=6∨n=7∨n=8:=by omega
 all_goals kernel_rfl
theorem make_begs {n:Nat} (h:n≤8) (w:World):(Instr.makeSlice 102 (.int .i64 n) (.int .i64 n)).run Tryz.prog w = .ok (.slice (some ⟨w.heap.size,0,none⟩) n n) (w.alloc (.cells (Array.replicate n Value.nilFunc) 103)):=by
 obtain rfl | rfl | rfl | rfl | rfl | rfl | rfl | rfl | rfl:n=0∨n=1∨n=2∨n=3∨n=4∨n=5∨n=6∨n=7∨n=8:=by omega
 all_goals kernel_rfl
def Room (W:World) (K n:Nat):Prop:=∀ i,i<n→(∃ u,W.cell? ⟨K,i,none⟩=some u)∧W.frozen? ⟨K,i,none⟩=false
theorem Room.next {W W':World} {K n:Nat} (h:Room W K n) (hb:Below W.heap.size W W'):Room W' K n:=fun i hi=>by
 obtain ⟨⟨u,hu⟩,hf⟩:=h i hi
 have hl:K<W.heap.size:=World.block_lt_of_cell? _ _ hu
 exact ⟨⟨u,(hb.cell (p:=⟨K,i,none⟩) hl).trans hu⟩,(hb.frozen (p:=⟨K,i,none⟩) hl).trans hf⟩
theorem Room.set {W:World} {K n:Nat} (h:Room W K n) (j:Nat) (v:Value):Room (W.setCell ⟨K,j,none⟩ v) K n:=fun i hi=>by
 obtain ⟨⟨u,hu⟩,hf⟩:=h i hi
 refine ⟨?_,by rw [World.frozen?_setCell]; exact hf⟩
 by_cases e:i=j
 ·subst e; exact ⟨v,World.cell?_setCell_same' _ _ _ (by rw [hu]; rfl)⟩
 ·exact ⟨u,by rw [World.cell?_setCell_other _ _ _ _ (by intro e; injection e with _ e; omega)]; exact hu⟩
theorem Room.new (w:World) (n:Nat) (T T':TypeId) (v:Value):Room ((w.alloc (.cells (Array.replicate n Value.nilFunc) T)).alloc (.cells #[v] T')) w.heap.size n:=fun i hi=>by
 refine ⟨⟨Value.nilFunc,?_⟩,?_⟩
 ·rw [World.cell?_alloc_past _ _ _ (by simp),World.cell?_alloc_at _ _ _ _ rfl]
  simp [hi]
 ·rw [World.frozen?_alloc_past _ _ _ (by simp)]
  exact World.frozen?_alloc_at _ _ _ _ rfl

set_option maxRecDepth 100000 in
set_option maxHeartbeats 4000000 in
theorem begin1_at (cols:List Int) (gs:List Ag) (h8:gs.length≤8) (lo:Nat) (w1 W:World) (hb:Below w1.heap.size w1 W) (vb Kb:Nat) (hvb:W.cell? ⟨vb,0,none⟩=some (.slice (some ⟨Kb,0,none⟩) gs.length gs.length)) (hk:∀ i (hi:i<gs.length),∃ u,W.cell? ⟨Kb,i,none⟩=some u∧Begs cols lo u (fun h p=>agV (winT gs[i] h p)) w1) :
  Calls Tryz.prog 54 #[.pointer (some ⟨vb,0,none⟩)] W fun e W'=>∃ g cb a b I,e = .returned (.func (.func g) #[] cb)∧W.heap.size≤a∧TlL cols w1 gs g cb a b I∧I [] W'∧Below W.heap.size W W':=by
 have hmk:=make_tells h8
 have HK:Hid (∀ i (hi:i<gs.length),∃ u,W.cell? ⟨Kb,i,none⟩=some u∧Begs cols lo u (fun h p=>agV (winT gs[i] h p)) w1):=hk
 have lvb:=World.block_lt_of_cell? _ _ hvb
 have hA:Below W.heap.size W ((W.alloc (.cells (Array.replicate gs.length Value.nilFunc) 108)).alloc (.cells #[.slice (some ⟨W.heap.size,0,none⟩) gs.length gs.length] 107)):=((Below.refl _ _).alloc (Nat.le_refl _) _).alloc (by simp) _
 have hN:Below W.heap.size W (W.alloc (.cells (Array.replicate gs.length Value.nilFunc) 108)):=(Below.refl _ _).alloc (Nat.le_refl _) _
 have R0:=Room.new W gs.length 108 107 (.slice (some ⟨W.heap.size,0,none⟩) gs.length gs.length)
 have B0:=Bk.new (W.alloc (.cells (Array.replicate gs.length Value.nilFunc) 108)) #[.slice (some ⟨W.heap.size,0,none⟩) gs.length gs.length] 107
 have c0:=(hN.cell (p:=⟨vb,0,none⟩) lvb).trans hvb
 have c1:=(hA.cell (p:=⟨vb,0,none⟩) lvb).trans hvb
 have hz:(W.alloc (.cells (Array.replicate gs.length Value.nilFunc) 108)).heap.size=W.heap.size+1:=by simp
 have hz2:((W.alloc (.cells (Array.replicate gs.length Value.nilFunc) 108)).alloc (.cells #[.slice (some ⟨W.heap.size,0,none⟩) gs.length gs.length] 107)).heap.size=W.heap.size+2:=by simp
 rw [hz] at B0
 clear hk hN hz
 go_enter Tryz.func54,Tryz.ntmps54
 go_wp2_with fail
 generalize (W.alloc (.cells (Array.replicate gs.length Value.nilFunc) 108)).alloc (.cells #[.slice (some ⟨W.heap.size,0,none⟩) gs.length gs.length] 107)=W2 at *
 clear hmk c0 c1
 have E0:TsE cols w1 W2 W.heap.size (W.heap.size+2) gs 0:=⟨fun _=>0,fun _=>#[],fun _=>0,fun _=>0,fun _ _ _=>True,⟨⟨by omega,Nat.le_refl _,by omega⟩,fun i h=>absurd h (Nat.not_lt_zero _),fun i h=>absurd h (Nat.not_lt_zero _),fun i h=>absurd h (Nat.not_lt_zero _),fun i h=>absurd h (Nat.not_lt_zero _),fun i j _ h=>absurd h (Nat.not_lt_zero _)⟩⟩
 go_loopw [10] (fun i wr=>∃ j:Nat,j≤gs.length∧i = .int .i64 j∧Room wr W.heap.size gs.length∧Bk wr (W.heap.size+1) #[.slice (some ⟨W.heap.size,0,none⟩) gs.length gs.length] 107∧TsE cols w1 wr W.heap.size (W.heap.size+2) gs j∧Below W.heap.size W wr∧W.heap.size+2≤wr.heap.size) (fun i _=>gs.length - (intOf i).toNat)
 case atStart=>exact ⟨0,Nat.zero_le _,rfl,R0,B0,E0,hA,by omega⟩
 case round =>
  clear R0 B0 E0 hA hz2
  obtain ⟨j,hj,rfl,R,T,E,hbr,hsz⟩:=hrel
  by_cases hlt:j<gs.length
  ·obtain ⟨u,cu,A⟩:=HK.out j hlt
   have cu:=(hbr.cell (p:=⟨Kb,j,none⟩) (World.block_lt_of_cell? _ _ cu)).trans cu
   obtain ⟨g0,cb0,rfl,eg,d⟩:=A
   have hjz:(j:Int)<gs.length:=by omega
   have hj0:(0:Int)≤(j:Int):=by omega
   have eW:winT gs[j]=winT (gs.getD j ag0):=by simp [List.getD,hlt]
   have HD:Hid (∀ (w1' W':World),Since lo w1 w1'→Below w1'.heap.size w1' W'→Calls Tryz.prog g0 cb0 W' fun e W''=>∃ g' cb' a b I,e = .returned (.func (.func g') #[] cb')∧W'.heap.size≤a∧Tl cols w1' (fun h p=>agV (winT (gs.getD j ag0) h p)) g' cb' a b I∧I [] W''∧Below W'.heap.size W' W''):=by
    rw [← eW]; exact d
   clear d eW
   go_upto_region 5 with fail
   clear cu
   have hdr:Below wr.heap.size wr wr.drew:=(Below.refl _ _).drew
   have hCC:∀ X X':World,X.cell? ⟨W.heap.size+1,0,none⟩=some (.slice (some ⟨W.heap.size,0,none⟩) gs.length gs.length)→Below X.heap.size X X'→X'.cell? ⟨W.heap.size+1,0,none⟩=some (.slice (some ⟨W.heap.size,0,none⟩) gs.length gs.length):=fun X X' h hb=>(hb.cell (World.block_lt_of_cell? _ _ h)).trans h
   have CW:wr.drew.cell? ⟨W.heap.size+1,0,none⟩=some (.slice (some ⟨W.heap.size,0,none⟩) gs.length gs.length):=hCC _ _ (T.cell 0 rfl) hdr
   refine wp_region_cls (fun X=>X.cell? ⟨W.heap.size+1,0,none⟩=some (.slice (some ⟨W.heap.size,0,none⟩) gs.length gs.length)) (by kernel_rfl) ?_
   refine wpY_take hCC (some 15) (i:=0) (v:=.slice (some ⟨W.heap.size,0,none⟩) gs.length gs.length) rfl rfl (by kernel_rfl) (by kernel_rfl) (by kernel_rfl) (fun _ _ _ h=>h) (Or.inl ⟨rfl,fun n hn=>?_⟩) CW ?_
   ·go_simp
   simp only [Act.put,pA,pB,pC]
   refine wpY_take hCC (some 16) (i:=1) (v:=.int .i64 j) rfl rfl (by kernel_rfl) (by kernel_rfl) (by kernel_rfl) (fun _ _ _ h=>h) (Or.inl ⟨rfl,fun n hn=>?_⟩) CW ?_
   ·go_simp
   simp only [Act.put,pA,pB,pC]
   refine wpY_take hCC (some 17) (i:=2) (v:=.func (.func g0) #[] cb0) rfl rfl (by kernel_rfl) (by kernel_rfl) (by kernel_rfl) (fun _ _ _ h=>h) (Or.inl ⟨rfl,fun n hn=>?_⟩) CW ?_
   ·go_simp
   simp only [Act.put,pA,pB,pC]
   refine wpY_step (rs:=[3]) (by kernel_rfl) (by simp) ?_
   intro w3 hb3 jj hj'
   obtain rfl:jj=3:=by simpa using hj'
   clear hj'
   have D3:=chain hdr hb3
   have con:=HD.out w1 w3 (Since.refl _ _) (chain (chain hb hbr) D3)
   have CW3:=hCC _ _ CW hb3
   refine wpOp_step rfl (fun K hK=>?_)
   go_simp
   first | (refine con.mono ?_) | (go_at_fn g0; refine con.mono ?_)
   rintro e w4 ⟨g',cb',a',b',I',rfl,ha',t',hI',hb4⟩
   have CW4:=hCC _ _ CW3 hb4
   refine hK _ _ ⟨CW4,?_⟩
   clear hK K con CW3 CW
   refine wpY_take hCC (some 19) (i:=4) (v:=.pointer (some ⟨W.heap.size,j,none⟩)) rfl rfl (by kernel_rfl) (by kernel_rfl) (by kernel_rfl) (fun _ _ _ h=>h) (Or.inl ⟨rfl,fun n hn=>?_⟩) CW4 ?_
   ·go_simp
   simp only [Act.put,pA,pB,pC]
   refine wpY_step (rs:=[5]) (by kernel_rfl) (by simp) ?_
   intro w5 hb5 jj hj'
   obtain rfl:jj=5:=by simpa using hj'
   clear hj'
   have D4:=chain D3 hb4
   have D5:=chain D4 hb5
   have R5:=R.next D5
   have T5:=T.next D5
   obtain ⟨⟨un,r2⟩,r3⟩:=R5 j hlt
   have E5:=(E.next D3).push (chain hb4 hb5) (by have:=D3.size; omega) ha' t' (t'.keep hI' hb5) ⟨un,r2⟩
   have R6:=R5.set j (.func (.func g') #[] cb')
   have T6:=T5.far (p:=⟨W.heap.size,j,none⟩) (show W.heap.size+1≠W.heap.size by omega) (.func (.func g') #[] cb')
   have B6:=(chain hbr D5).setCell (p:=⟨W.heap.size,j,none⟩) (Nat.le_refl _) (.func (.func g') #[] cb')
   have Z6:W.heap.size+2≤(w5.setCell ⟨W.heap.size,j,none⟩ (.func (.func g') #[] cb')).heap.size:=by have:=D5.size; simp [World.setCell]; omega
   refine wpOp_step rfl (fun K hK=>?_)
   go_simp
   refine hK _ _ ⟨T6.cell 0 rfl,?_⟩
   clear hK K CW4 R5 T5 r2 r3 E R T hI'
   generalize w5.setCell ⟨W.heap.size,j,none⟩ (.func (.func g') #[] cb')=w6 at *
   refine wpY_done (by kernel_rfl) ?_
   intro w7 hb7
   have R7:=R6.next hb7
   have T7:=T6.next hb7
   have E7:=E5.next hb7
   have B7:=chain B6 hb7
   have Z7:W.heap.size+2≤w7.heap.size:=Nat.le_trans Z6 hb7.size
   clear R6 T6 E5 B6 Z6 D5 D4 D3 hbr
   go_wp2_with fail
   go_roundw
   case rel=>exact ⟨j+1,by omega,by go_num,R7,T7,E7,B7,Z7⟩
   case measure=>simp [intOf]; omega
  ·have e:j=gs.length:=by omega
   subst e
   obtain ⟨g,cb,a,b,I,t⟩:=E
   have hzz:=hb.size
   go_wp2_with fail
   go_ret
   exact ⟨_,_,W.heap.size,wr.heap.size,AllI cols w1 gs (W.heap.size+1) W.heap.size (W.heap.size+2) wr.heap.size g cb a b I,rfl,Nat.le_refl _,all_tl cols w1 gs h8 _ _ _ _ g cb a b I hzz (by omega) (by omega) hsz,⟨T,t⟩,hbr⟩
end Go.Proofs.YtcnmpiahcnkndaaGreat
/- window.tellers. -/
namespace Go.Proofs.YtcnmpiahcnkndaaGreat
open Go.RowKit Go.Lib Go.Shelf

def KidsB (cols:List Int) (lo:Nat) (W:World) (kb:Nat) (Fs:List (List Lp→Lp→Vl)):Prop :=
 ∃ K,lo≤kb∧kb<W.heap.size∧lo≤K∧K<W.heap.size∧W.cell? ⟨kb,0,none⟩=some (.slice (some ⟨K,0,none⟩) Fs.length Fs.length) ∧
  ∀ (i:Nat) (h:i<Fs.length),∃ u,W.cell? ⟨K,i,none⟩=some u∧Begs cols lo u (fun h p=>agV (Fs[i] h p)) W
theorem KidsB.next {cols:List Int} {lo:Nat} {W w1:World} {kb:Nat} {Fs:List (List Lp→Lp→Vl)} (h:KidsB cols lo W kb Fs) (hb:Since lo W w1):KidsB cols lo w1 kb Fs:=by
 obtain ⟨K,h1,h2,h3,h4,h5,h6⟩:=h
 refine ⟨K,h1,Nat.lt_of_lt_of_le h2 hb.1,h3,Nat.lt_of_lt_of_le h4 hb.1,(hb.cell (p:=⟨kb,0,none⟩) h1 h2).trans h5,fun i hi=>?_⟩
 obtain ⟨u,c,a⟩:=h6 i hi
 exact ⟨u,(hb.cell (p:=⟨K,i,none⟩) h3 h4).trans c,a.next hb⟩
/-- What begins in a slice in a variable, the first j of them made. -/
structure BTo (cols:List Int) (K kb M:Nat) (W:World) (Fs:List (List Lp→Lp→Vl)) (j:Nat):Prop where
 lt:K<M∧kb<M∧K≠kb∧M≤W.heap.size
 box:W.cell? ⟨kb,0,none⟩=some (.slice (some ⟨K,0,none⟩) Fs.length Fs.length)
 room:∀ i,i<Fs.length→(∃ u,W.cell? ⟨K,i,none⟩=some u)∧W.frozen? ⟨K,i,none⟩=false
 done:∀ i (h:i<Fs.length),i<j→∃ u,W.cell? ⟨K,i,none⟩=some u∧Begs cols M u (fun h p=>agV (Fs[i] h p)) W
theorem BTo.next {cols:List Int} {K kb M:Nat} {W w1:World} {Fs:List (List Lp→Lp→Vl)} {j:Nat} (h:BTo cols K kb M W Fs j) (hb:Below W.heap.size W w1):BTo cols K kb M w1 Fs j:=by
 obtain ⟨h1,h2,h3,h4⟩:=h
 have z:=hb.size
 refine ⟨⟨h1.1,h1.2.1,h1.2.2.1,by omega⟩,(hb.cell (p:=⟨kb,0,none⟩) (by show kb<_; omega)).trans h2,fun i hi=>?_,fun i hi hj=>?_⟩
 ·obtain ⟨⟨u,hu⟩,hf⟩:=h3 i hi
  exact ⟨⟨u,(hb.cell (p:=⟨K,i,none⟩) (by show K<_; omega)).trans hu⟩,(hb.frozen (p:=⟨K,i,none⟩) (by show K<_; omega)).trans hf⟩
 ·obtain ⟨u,hu,ha⟩:=h4 i hi hj
  exact ⟨u,(hb.cell (p:=⟨K,i,none⟩) (by show K<_; omega)).trans hu,ha.next (Since.of hb)⟩
theorem BTo.store {cols:List Int} {K kb M:Nat} {W:World} {Fs:List (List Lp→Lp→Vl)} {j:Nat} (h:BTo cols K kb M W Fs j) (hj:j<Fs.length) {u:Value} (ha:Begs cols M u (fun h p=>agV (Fs[j] h p)) W):BTo cols K kb M (W.setCell ⟨K,j,none⟩ u) Fs (j+1):=by
 obtain ⟨h1,h2,h3,h4⟩:=h
 have hS:Since M W (W.setCell ⟨K,j,none⟩ u):=(Since.refl M W).set K j u (by omega)
 have same:(W.setCell ⟨K,j,none⟩ u).cell? ⟨K,j,none⟩=some u:=World.cell?_setCell_same' _ _ _ (by obtain ⟨⟨u',hu⟩,_⟩:=h3 j hj; rw [hu]; rfl)
 refine ⟨⟨h1.1,h1.2.1,h1.2.2.1,by simpa using h1.2.2.2⟩,?_,fun i hi=>?_,fun i hi hij=>?_⟩
 ·rw [World.cell?_setCell_other _ _ _ _ (by intro e; injection e with e; omega)]; exact h2
 ·obtain ⟨⟨u',hu⟩,hf⟩:=h3 i hi
  refine ⟨?_,by rw [World.frozen?_setCell]; exact hf⟩
  by_cases e:i=j
  ·subst e; exact ⟨_,same⟩
  ·exact ⟨u',by rw [World.cell?_setCell_other _ _ _ _ (by intro e; injection e with _ e; omega)]; exact hu⟩
 ·by_cases e:i=j
  ·subst e; exact ⟨u,same,ha.next hS⟩
  ·obtain ⟨u',hu,ha'⟩:=h4 i hi (by omega)
   exact ⟨u',by rw [World.cell?_setCell_other _ _ _ _ (by intro e; injection e with _ e; omega)]; exact hu,ha'.next hS⟩
theorem BTo.kids {cols:List Int} {K kb M lo:Nat} {W:World} {Fs:List (List Lp→Lp→Vl)} (h:BTo cols K kb M W Fs Fs.length) (h1:lo≤K) (h2:lo≤kb):KidsB cols lo W kb Fs:=by
 obtain ⟨l1,l2,_,l4⟩:=h
 refine ⟨K,h2,by omega,h1,by omega,l2,fun i hi=>?_⟩
 obtain ⟨u,hu,ha⟩:=l4 i hi hi
 exact ⟨u,hu,ha.down (by omega)⟩
theorem BTo.new {cols:List Int} {w:World} {n:Nat} (Fs:List (List Lp→Lp→Vl)) (hn:n=Fs.length) (T T':TypeId) :
  BTo cols w.heap.size (w.heap.size+1) (w.heap.size+2) ((w.alloc (.cells (Array.replicate n Value.nilFunc) T)).alloc (.cells #[.slice (some ⟨w.heap.size,0,none⟩) n n] T')) Fs 0:=by
 subst hn
 refine ⟨⟨by omega,by omega,by omega,by simp⟩,?_,fun i hi=>⟨⟨Value.nilFunc,?_⟩,?_⟩,fun i _ h=>absurd h (Nat.not_lt_zero _)⟩
 ·rw [World.cell?_alloc_at _ _ _ _ (by simp)]; rfl
 ·rw [World.cell?_alloc_past _ _ _ (by simp),World.cell?_alloc_at _ _ _ _ rfl]
  simp [hi]
 ·rw [World.frozen?_alloc_past _ _ _ (by simp)]
  exact World.frozen?_alloc_at _ _ _ _ rfl
/-- A function value begins with a part: all wins. -/
def BegL (cols:List Int) (lo:Nat) (u:Value) (gs:List Ag) (w:World):Prop :=
 ∃ g cb,u = .func (.func g) #[] cb∧(∀ args w,(callFunc g args).run Tryz.prog w = .ok (.enter g args) w) ∧
  ∀ (w1 W:World),Since lo w w1→Below w1.heap.size w1 W→Calls Tryz.prog g cb W fun e W'=>∃ g' cb' a b I,e = .returned (.func (.func g') #[] cb')∧W.heap.size≤a∧TlL cols w1 gs g' cb' a b I∧I [] W'∧Below W.heap.size W W'
theorem BegL.next {cols:List Int} {lo:Nat} {u:Value} {gs:List Ag} {w w':World} (h:BegL cols lo u gs w) (hb:Since lo w w'):BegL cols lo u gs w':=by
 obtain ⟨g,cb,e,eg,hd⟩:=h
 exact ⟨g,cb,e,eg,fun w1 W h1 h2=>hd w1 W (hb.trans h1) h2⟩
theorem win_get {gs:List Ag} {j:Nat} (h:j<gs.length):(gs.map fun g=>winT g)[j]'(by simpa using h)=winT gs[j]:=by simp

set_option maxRecDepth 100000 in
set_option maxHeartbeats 4000000 in
theorem tellers_at (cols:List Int) (gs:List Ag) (ca:Option Addr) (ccap:Nat) (xa:Option Addr) (xcap:Nat) (w:World) (hk:AgAt w.heap.size w xa gs) (hc:IsAt w.heap.size w ca cols) (h8:gs.length≤8) :
  Calls Tryz.prog 21 #[.slice ca cols.length ccap,.slice xa gs.length xcap] w fun e w'=>∃ u,e = .returned (.tuple #[u,.int .i64 (winsE cols gs)])∧((winsE cols gs=0∧BegL cols w.heap.size u gs w')∨(¬ winsE cols gs=0∧u = .nilFunc))∧Below w.heap.size w w':=by
 obtain ⟨Fs,eFs⟩:∃ Fs:List (List Lp→Lp→Vl),Fs=gs.map fun g=>winT g:=⟨_,rfl⟩
 have HFs:Hid (Fs=gs.map fun g=>winT g):=eFs
 have lFs:Fs.length=gs.length:=by rw [eFs]; simp
 generalize hle:winsE cols gs=le
 have HE:Hid (winsE cols gs=le):=hle
 clear eFs hle
 have hmk:=make_begs h8
 have F0:BTo cols w.heap.size (w.heap.size+1) (w.heap.size+2) ((w.alloc (.cells (Array.replicate gs.length Value.nilFunc) 103)).alloc (.cells #[.slice (some ⟨w.heap.size,0,none⟩) gs.length gs.length] 102)) Fs 0:=BTo.new Fs lFs.symm _ _
 have hA:Below w.heap.size w ((w.alloc (.cells (Array.replicate gs.length Value.nilFunc) 103)).alloc (.cells #[.slice (some ⟨w.heap.size,0,none⟩) gs.length gs.length] 102)):=((Below.refl _ _).alloc (Nat.le_refl _) _).alloc (by simp) _
 go_enter Tryz.func21,Tryz.ntmps21
 go_wp2_with fail
 generalize (w.alloc (.cells (Array.replicate gs.length Value.nilFunc) 103)).alloc (.cells #[.slice (some ⟨w.heap.size,0,none⟩) gs.length gs.length] 102)=w2 at *
 clear hmk
 go_loopw [16] (fun i wr=>∃ j:Nat,j≤gs.length∧i = .int .i64 j∧BTo cols w.heap.size (w.heap.size+1) (w.heap.size+2) wr Fs j∧Hid (le=winsE cols (gs.drop j))∧Below w.heap.size w wr) (fun i _=>gs.length - (intOf i).toNat)
 case atStart=>exact ⟨0,Nat.zero_le _,rfl,F0,HE.out.symm,hA⟩
 case round =>
  clear F0 hA
  obtain ⟨j,hj,rfl,F,HT,hb⟩:=hrel
  have hz:=hb.size
  have hzF:=F.lt.2.2.2
  by_cases hlt:j<gs.length
  ·obtain ⟨b,off,ai,ci,rfl,hbl,x0,sx,kx⟩:=(AgAt.next hb (Nat.le_refl _) hk).elem hlt
   obtain ⟨x1,x2,x3,x4,x5,x6⟩:=sx
   have hal:Below wr.heap.size wr (wr.alloc (.cells #[.int .i64 gs[j].1,.int .i64 gs[j].2.k,.int .i64 gs[j].2.v.1,.int .i64 gs[j].2.v.2.1,.string gs[j].2.v.2.2,.int .i64 gs[j].2.c,.slice ai gs[j].2.ks.length ci] 42)):=(Below.refl _ _).alloc (Nat.le_refl _) _
   have q0:=Bk.new wr #[.int .i64 gs[j].1,.int .i64 gs[j].2.k,.int .i64 gs[j].2.v.1,.int .i64 gs[j].2.v.2.1,.string gs[j].2.v.2.2,.int .i64 gs[j].2.c,.slice ai gs[j].2.ks.length ci] 42
   have Fk:=F.next hal
   have zk:(wr.alloc (.cells #[.int .i64 gs[j].1,.int .i64 gs[j].2.k,.int .i64 gs[j].2.v.1,.int .i64 gs[j].2.v.2.1,.string gs[j].2.v.2.2,.int .i64 gs[j].2.c,.slice ai gs[j].2.ks.length ci] 42)).heap.size=wr.heap.size+1:=by simp
   have kk:=(KsAt.next hal hz kx).up (show w.heap.size≤(wr.alloc (.cells #[.int .i64 gs[j].1,.int .i64 gs[j].2.k,.int .i64 gs[j].2.v.1,.int .i64 gs[j].2.v.2.1,.string gs[j].2.v.2.2,.int .i64 gs[j].2.c,.slice ai gs[j].2.ks.length ci] 42)).heap.size by omega)
   have cc:=((hc.next hb (Nat.le_refl _)).next hal hz).up (show w.heap.size≤(wr.alloc (.cells #[.int .i64 gs[j].1,.int .i64 gs[j].2.k,.int .i64 gs[j].2.v.1,.int .i64 gs[j].2.v.2.1,.string gs[j].2.v.2.2,.int .i64 gs[j].2.c,.slice ai gs[j].2.ks.length ci] 42)).heap.size by omega)
   have hjz:(j:Int)<gs.length:=by omega
   by_cases h0:winE cols gs[j]=0
   ·have con:=tellerOk_at cols gs[j].1 gs[j].2 ca ccap ai ci _ kk cc h0
    have HN:Hid (le=winsE cols (gs.drop (j+1))):=HT.out.trans (winsE_next cols gs j hlt h0)
    clear h0 HT
    go_upto_region 5 with fail
    clear x0 x1 x2 x3 x4 x5 x6 kx kk cc
    generalize wr.alloc (.cells #[.int .i64 gs[j].1,.int .i64 gs[j].2.k,.int .i64 gs[j].2.v.1,.int .i64 gs[j].2.v.2.1,.string gs[j].2.v.2.2,.int .i64 gs[j].2.c,.slice ai gs[j].2.ks.length ci] 42)=wk at *
    have p0:=q0.cell 0 rfl
    have p1:=q0.cell 1 rfl
    have p2:=q0.cell 2 rfl
    have p3:=q0.cell 3 rfl
    have p4:=q0.cell 4 rfl
    have p5:=q0.cell 5 rfl
    have p6:=q0.cell 6 rfl
    go_wp2_with fail
    refine con.mono ?_
    rintro e w3 ⟨u,rfl,hA3,hb3⟩
    clear con p0 p1 p2 p3 p4 p5 p6
    obtain ⟨ug,ucb,rfl⟩:∃ g cb,u = .func (.func g) #[] cb:=by obtain ⟨g,cb,e,_⟩:=hA3; exact ⟨g,cb,e⟩
    have z3:=hb3.size
    have hV:Begs cols (w.heap.size+2) (.func (.func ug) #[] ucb) (fun h p=>agV (winT gs[j] h p)) w3:=hA3.down (by omega)
    have F4:=Fk.next hb3
    have hA4:=chain (chain hb hal) hb3
    have HRF:Hid (Begs cols (w.heap.size+2) (.func (.func ug) #[] ucb) (fun h p=>agV ((Fs[j]'(by omega)) h p)) w3):=by
     show Begs _ _ _ _ _
     have e:Fs[j]'(by omega)=winT gs[j]:=by simp only [HFs.out]; exact win_get hlt
     rw [e]; exact hV
    have b6:=F4.box
    obtain ⟨⟨un,r2⟩,r3⟩:=F4.room j (by omega)
    rw [lFs] at b6
    clear hV hA3
    dsimp only
    go_wp2_with fail
    go_roundw
    case rel=>exact ⟨j+1,by omega,by go_num,F4.store (by omega) HRF.out,HN,hA4.setCell (p:=⟨w.heap.size,j,none⟩) (Nat.le_refl _) _⟩
    case measure=>simp [intOf]; omega
   ·have con:=tellerBad_at cols gs[j].1 gs[j].2 ca ccap ai ci _ kk cc h0
    have HN:Hid (le=winE cols gs[j]):=HT.out.trans (winsE_bad cols gs j hlt h0)
    have hne:(winE cols gs[j] != 0)=true:=by simpa using h0
    have HN0:Hid (¬ le=0):=by show ¬ _; rw [HN.out]; exact h0
    have e2:winE cols (gs[j].1,gs[j].2)=le:=HN.out.symm
    rw [e2] at con
    rw [← HN.out] at hne
    clear h0 HT e2
    go_upto_region 5 with fail
    clear x0 x1 x2 x3 x4 x5 x6 kx kk cc
    generalize wr.alloc (.cells #[.int .i64 gs[j].1,.int .i64 gs[j].2.k,.int .i64 gs[j].2.v.1,.int .i64 gs[j].2.v.2.1,.string gs[j].2.v.2.2,.int .i64 gs[j].2.c,.slice ai gs[j].2.ks.length ci] 42)=wk at *
    have p0:=q0.cell 0 rfl
    have p1:=q0.cell 1 rfl
    have p2:=q0.cell 2 rfl
    have p3:=q0.cell 3 rfl
    have p4:=q0.cell 4 rfl
    have p5:=q0.cell 5 rfl
    have p6:=q0.cell 6 rfl
    go_wp2_with fail
    refine con.mono ?_
    rintro e w3 ⟨rfl,hb3⟩
    clear con p0 p1 p2 p3 p4 p5 p6
    dsimp only
    go_wp2_with fail
    exact bodyPost_ret (v:=.tuple #[.nilFunc,.int .i64 le]) (by simp [results,Tryz.results21,go_sem]) rfl ⟨_,rfl,.inr ⟨HN0.out,rfl⟩,chain (chain hb hal) hb3⟩
  ·have e:j=gs.length:=by omega
   subst e
   have e0:le=0:=by rw [HT.out,List.drop_length]; rfl
   subst e0
   have KF:Hid (KidsB cols w.heap.size wr (w.heap.size+1) Fs):=by rw [← lFs] at F; exact F.kids (Nat.le_refl _) (by omega)
   have AF:Hid (BegL cols w.heap.size (.func (.func 54) #[] #[.pointer (some ⟨w.heap.size+1,0,none⟩)]) gs wr):=⟨54,_,rfl,enters_of Tryz.func54 (by kernel_rfl) rfl,fun w1 W hs hbW=>by
    obtain ⟨Kb,k1,k2,k3,k4,k5,k6⟩:=KF.out.next hs
    rw [lFs] at k5
    exact begin1_at cols gs h8 w.heap.size w1 W hbW (w.heap.size+1) Kb ((hbW.cell (p:=⟨w.heap.size+1,0,none⟩) k2).trans k5) fun i hi=>by
     obtain ⟨u,c,a⟩:=k6 i (by omega)
     refine ⟨u,(hbW.cell (p:=⟨Kb,i,none⟩) k4).trans c,?_⟩
     have e:Fs[i]'(by omega)=winT gs[i]:=by simp only [HFs.out]; exact win_get hi
     rw [e] at a
     exact a⟩
   go_wp2_with fail
   first
    | exact bodyPost_ret (v:=.tuple #[.func (.func 54) #[] #[.pointer (some ⟨w.heap.size+1,0,none⟩)],.int .i64 0]) (by simp [results,Tryz.results21,go_sem]) rfl ⟨_,rfl,.inl ⟨rfl,AF.out⟩,hb⟩
    | exact bodyPost_ret (v:=.tuple #[.func (.func 54) #[] #[.pointer (some ⟨w.heap.size+1,0,none⟩)],.int .i64 0]) (by simp [results,Tryz.results21,go_sem]) rfl ⟨_,rfl,AF.out,hb⟩
end Go.Proofs.YtcnmpiahcnkndaaGreat
/- The rows in line, each with what is told of it. -/
namespace Go.Proofs.YtcnmpiahcnkndaaGreat
open Go.RowKit Go.Lib Go.Shelf

def lp0:Lp:=([],[],[])
/-- The rows ahead in its part, the nearest one first. -/
def aheadL (l:List Lp):Nat→List Lp
 | 0=>[]
 | k+1=>if cmpL (l.getD k lp0).1 (l.getD (k+1) lp0).1=0 then l.getD k lp0 :: aheadL l k else []
def toldF (gs:List Ag) (l:List Lp) (k:Nat):Zp:=((l.getD k lp0).2.2 ++ gs.map (fun g=>winT g (aheadL l k) (l.getD k lp0)),1)
/-- The rows with what is told of them. -/
def toldL (gs:List Ag) (l:List Lp):List Zp:=(List.range l.length).map (toldF gs l)
theorem toldL_len (gs:List Ag) (l:List Lp):(toldL gs l).length=l.length:=by simp [toldL]
theorem aheadL_len (l:List Lp):∀ k,(aheadL l k).length≤k
 | 0=>by simp [aheadL]
 | k+1=>by
  unfold aheadL
  split
  ·have:=aheadL_len l k; simp; omega
  ·simp
theorem aheadL_mem (l:List Lp):∀ k,k<l.length→∀ q ∈ aheadL l k,q ∈ l
 | 0,_,q,h=>by simp [aheadL] at h
 | k+1,hk,q,h=>by
  unfold aheadL at h
  split at h
  ·rcases List.mem_cons.1 h with rfl | h
   ·have:l.getD k lp0=l[k]'(by omega):=by simp [List.getD,show k<l.length by omega]
    rw [this]; exact List.getElem_mem _
   ·exact aheadL_mem l k (by omega) q h
  ·cases h

/-- A slice that lies apart from the blocks from lo up to hi. -/
def Apt (lo hi:Nat) (a:Option Addr):Prop:=∀ g off,a=some ⟨g,off,none⟩→g<lo∨hi≤g
theorem SlAt.keepA {W W':World} {a:Option Addr} {l:List Vl} {lo hi:Nat} (h:SlAt W a l) (hk:KeepO lo hi W W') (ha:Apt lo hi a):SlAt W' a l:=by
 rcases h.2 with e | ⟨b,o,rfl,hr,hlt⟩
 ·exact ⟨h.1,.inl e⟩
 ·exact h.same (hk.block b hlt (ha b o rfl)) hk.size
theorem TyAt.keepA {W W':World} {a:Option Addr} {lo hi:Nat} (h:TyAt W a) (hk:KeepO lo hi W W') (ha:Apt lo hi a):TyAt W' a:=fun b off e=>by
 obtain ⟨c,z,k⟩:=h b off e
 exact ⟨c,z,(hk.block b (lt_of_heap k) (ha b off e)).trans k⟩
theorem own_same {W W':World} {B e s n m:Nat} {xs:List Value} (h:W.ownsRow B e s (.slice (some ⟨B,0,none⟩) n n) m xs) (hs:W'.heap[B]? = W.heap[B]?):W'.ownsRow B e s (.slice (some ⟨B,0,none⟩) n n) m xs:=by
 obtain ⟨l,hh⟩:=h
 refine ⟨l,?_⟩
 rcases hh with ⟨hh,_⟩ | ⟨g,cap,cur,e',h1,hc,r⟩
 ·cases hh
 ·refine .inr ⟨g,cap,cur,e',h1,?_,r⟩
  have e2:B=g:=by injection e' with e'; injection e' with e'; injection e'
  subst e2
  exact hs.trans hc
def NTo (W:World) (B n:Nat) (f:Nat→Zp) (k lo hi:Nat):Prop:=∃ xs,W.ownsRow B 33 2 (.slice (some ⟨B,0,none⟩) n n) n xs∧∀ j:Nat,j<n→j<k→∃ a cap,xs[j*2]? = some (.slice a (f j).1.length cap)∧xs[j*2+1]? = some (.int .i64 (f j).2)∧SlAt W a (f j).1∧TyAt W a∧Apt lo hi a
theorem NTo.mto {W:World} {B n:Nat} {f:Nat→Zp} {k lo hi:Nat} (h:NTo W B n f k lo hi):MTo W B n f k:=by
 obtain ⟨xs,h1,h2⟩:=h
 refine ⟨xs,h1,fun j hj hk=>?_⟩
 obtain ⟨a,cap,e0,e1,e2,e3,_⟩:=h2 j hj hk
 exact ⟨a,cap,e0,e1,e2,e3⟩
theorem NTo.next {W w1:World} {B n:Nat} {f:Nat→Zp} {k lo hi:Nat} (h:NTo W B n f k lo hi) (hb:Below W.heap.size W w1):NTo w1 B n f k lo hi:=by
 obtain ⟨xs,h1,h2⟩:=h
 refine ⟨xs,own_next h1 hb,fun j hj hk=>?_⟩
 obtain ⟨a,cap,e0,e1,e2,e3,e4⟩:=h2 j hj hk
 exact ⟨a,cap,e0,e1,e2.next hb,e3.next hb,e4⟩
theorem NTo.lt {W:World} {B n:Nat} {f:Nat→Zp} {k lo hi:Nat} (h:NTo W B n f k lo hi):B<W.heap.size:=by
 obtain ⟨xs,h1,h2⟩:=h
 exact (h1.lt B rfl).2
theorem NTo.keep {W w1:World} {B n:Nat} {f:Nat→Zp} {k lo hi:Nat} (h:NTo W B n f k lo hi) (hb:KeepO lo hi W w1) (hB:B<lo):NTo w1 B n f k lo hi:=by
 have hl:=h.lt
 obtain ⟨xs,h1,h2⟩:=h
 refine ⟨xs,own_same h1 (hb.block B hl (.inl hB)),fun j hj hk=>?_⟩
 obtain ⟨a,cap,e0,e1,e2,e3,e4⟩:=h2 j hj hk
 exact ⟨a,cap,e0,e1,e2.keepA hb e4,e3.keepA hb e4,e4⟩
theorem NTo.move {W:World} {B n:Nat} {f:Nat→Zp} {k lo hi:Nat} (h:NTo W B n f k lo hi) (lo' hi':Nat) (hl:W.heap.size≤lo'):NTo W B n f k lo' hi':=by
 obtain ⟨xs,h1,h2⟩:=h
 refine ⟨xs,h1,fun j hj hk=>?_⟩
 obtain ⟨a,cap,e0,e1,e2,e3,e4⟩:=h2 j hj hk
 refine ⟨a,cap,e0,e1,e2,e3,fun g off e=>?_⟩
 obtain ⟨c,z,kk⟩:=e3 g off e
 have:=lt_of_heap kk
 exact .inl (by omega)
theorem NTo.step {W:World} {B n:Nat} {f:Nat→Zp} {k lo hi:Nat} (h:NTo W B n f k lo hi) (hk:k<n) {a:Option Addr} {cap:Nat} (hs:SlAt W a (f k).1) (ht:TyAt W a) (ha:Apt lo hi a) :
  NTo ((W.setCell ⟨B,k*2,none⟩ (.slice a (f k).1.length cap)).setCell ⟨B,k*2+1,none⟩ (.int .i64 (f k).2)) B n f (k+1) lo hi:=by
 obtain ⟨xs,h1,h2⟩:=h
 have lx:=h1.1
 obtain ⟨o1,g1⟩:=h1.stored (k*2) (.slice a (f k).1.length cap)
 obtain ⟨o2,g2⟩:=o1.stored (k*2+1) (.int .i64 (f k).2)
 have go:∀ {b:Option Addr} {r:List Vl},SlAt W b r→TyAt W b→SlAt ((W.setCell ⟨B,k*2,none⟩ (.slice a (f k).1.length cap)).setCell ⟨B,k*2+1,none⟩ (.int .i64 (f k).2)) b r∧TyAt ((W.setCell ⟨B,k*2,none⟩ (.slice a (f k).1.length cap)).setCell ⟨B,k*2+1,none⟩ (.int .i64 (f k).2)) b:=fun hs ht=>by
  obtain ⟨s1,t1⟩:=sl_grown hs ht h1 g1
  exact sl_grown s1 t1 o1 g2
 refine ⟨_,o2,?_⟩
 intro j hj hjk
 by_cases e:j=k
 ·subst e
  refine ⟨a,cap,?_,?_,(go hs ht).1,(go hs ht).2,ha⟩
  ·rw [List.getElem?_set_ne (by omega)]; simp [List.getElem?_set,lx]; omega
  ·simp [List.getElem?_set,lx]; omega
 ·obtain ⟨b,c,e0,e1,e2,e3,e4⟩:=h2 j hj (by omega)
  refine ⟨b,c,?_,?_,(go e2 e3).1,(go e2 e3).2,e4⟩
  ·rw [List.getElem?_set_ne (by omega),List.getElem?_set_ne (by omega)]; exact e0
  ·rw [List.getElem?_set_ne (by omega),List.getElem?_set_ne (by omega)]; exact e1

/-- How far it has come: the rows told, and the teller of the part. -/
def TellE (cols:List Int) (w:World) (gs:List Ag) (B n:Nat) (f:Nat→Zp) (k:Nat) (v:Value) (h:List Lp) (W:World):Prop :=
 ∃ lo hi,NTo W B n f k lo hi∧((k=0∧v = .nilFunc)∨(B<lo∧∃ g cb I,v = .func (.func g) #[] cb∧TlL cols w gs g cb lo hi I∧I h W))

set_option maxRecDepth 100000 in
set_option maxHeartbeats 16000000 in
theorem told_at (cols:List Int) (gs:List Ag) (u:Value) (lo0:Nat) (a:Option Addr) (cap:Nat) (l:List Lp) (w:World) (hu:BegL cols lo0 u gs w) (hl:l.length≤400) (h8:cols.length+gs.length≤8) (hfit:∀ p ∈ l,FitP cols p.2.2) (h:LnAt w a l) :
  Calls Tryz.prog 27 #[.slice a l.length cap,u] w fun e w'=>∃ a',e = .returned (.slice a' l.length l.length)∧ZsAt w' a' (toldL gs l)∧Below w.heap.size w w':=by
 obtain ⟨i0,hi,hz0,hz1,hz2⟩:=info_parts Tryz.info42
 obtain ⟨ug,ucb,rfl,eg,hd⟩:=hu
 have HD:Hid (∀ (w1 W:World),Since lo0 w w1→Below w1.heap.size w1 W→Calls Tryz.prog ug ucb W fun e W'=>∃ g' cb' a b I,e = .returned (.func (.func g') #[] cb')∧W.heap.size≤a∧TlL cols w1 gs g' cb' a b I∧I [] W'∧Below W.heap.size W W'):=hd
 have HFt:Hid (∀ p ∈ l,FitP cols p.2.2):=hfit
 clear hd hfit
 obtain ⟨F,hF⟩:∃ F:Nat→Zp,F=toldF gs l:=⟨_,rfl⟩
 have HF:Hid (F=toldF gs l):=hF
 clear hF
 go_enter Tryz.func27,Tryz.ntmps27
 go_wp2_with (first | (at_make; refine wpList_make_full _ rfl _ _ 25 rfl w.heap.size 33 i0 _ 2 Tryz.underlying25 hi hz0 hz1 .i64 .i64 l.length l.length l.length rfl rfl rfl rfl (by rw [hz2]; omega) (by unfold maxLen; omega) (Nat.le_refl _) ?_))
 intro w1 hown hgrow
 have hb1:Below w.heap.size w w1:=(Below.refl _ _).grown hgrow (Nat.le_refl _) (by simp)
 have N0:NTo w1 w.heap.size l.length F 0 0 0:=⟨_,hown,fun j _ hj=>absurd hj (Nat.not_lt_zero _)⟩
 clear hown hgrow
 go_wp2_with fail
 go_loopw [6,14] (fun v i wr=>∃ k:Nat,k≤l.length∧i = .int .i64 k∧TellE cols w gs w.heap.size l.length F k v ((l.getD (k - 1) lp0) :: aheadL l (k - 1)) wr∧Below w.heap.size w wr) (fun _ i _=>l.length - (intOf i).toNat)
 case atStart=>exact ⟨0,Nat.zero_le _,rfl,⟨0,0,N0,.inl ⟨rfl,rfl⟩⟩,hb1⟩
 case round =>
  clear N0 hb1
  obtain ⟨k,hk,rfl,HK,hb⟩:=hrel
  have hzr:=hb.size
  by_cases hlt:k<l.length
  ·obtain ⟨b,off,rfl,hbl,⟨pa,pc,d0,sp⟩,⟨oa,oc,d1,so⟩,ra,rc,d2,sr⟩:=h.elem hlt
   have hpv:PlaceV w (.agg #[.slice pa l[k].1.length pc,.slice oa l[k].2.1.length oc,.slice ra l[k].2.2.length rc]) l[k]:=⟨pa,pc,oa,oc,ra,rc,rfl,sp,so,sr⟩
   have HPV:Hid (PlaceV w (.agg #[.slice pa l[k].1.length pc,.slice oa l[k].2.1.length oc,.slice ra l[k].2.2.length rc]) l[k]):=hpv
   have HSr:Hid (SlAt w ra l[k].2.2):=sr
   have HSp:Hid (SlAt w pa l[k].1):=sp
   have c0:=(hb.cell (p:=⟨b,_,none⟩) hbl).trans d0
   have c1:=(hb.cell (p:=⟨b,_,none⟩) hbl).trans d1
   have c2:=(hb.cell (p:=⟨b,_,none⟩) hbl).trans d2
   have hal:Below wr.heap.size wr (wr.alloc (.cells #[.slice pa l[k].1.length pc,.slice oa l[k].2.1.length oc,.slice ra l[k].2.2.length rc] 66)):=(Below.refl _ _).alloc (Nat.le_refl _) _
   have P:=Bk.new wr #[.slice pa l[k].1.length pc,.slice oa l[k].2.1.length oc,.slice ra l[k].2.2.length rc] 66
   have hgk:l.getD k lp0=l[k]:=by simp [List.getD,hlt]
   have hfk:=HFt.out l[k] (List.getElem_mem hlt)
   have HFk:Hid (FitP cols l[k].2.2):=hfk
   have hrl:l[k].2.2.length+gs.length≤8:=by have:=hfk.len; omega
   have hfh:∀ q ∈ aheadL l k,FitP cols q.2.2:=fun q hq=>HFt.out q (aheadL_mem l k hlt q hq)
   have HFh:Hid (∀ q ∈ aheadL l k,FitP cols q.2.2):=hfh
   have hal':=aheadL_len l k
   have EF:Hid (F k=(l[k].2.2 ++ gs.map (fun g=>winT g (aheadL l k) l[k]),1)):=by
    show F k=_
    rw [HF.out]; unfold toldF; rw [hgk]
   have HG:Hid (l.getD k lp0=l[k]):=hgk
   have i0':(0:Int)≤(k:Int):=by omega
   have i1:(k:Int)<(l.length:Int):=by omega
   clear hpv sp so sr d0 d1 d2 hfk hfh hgk
   go_upto_region 6 with fail
   clear c0 c1 c2
   have b0:=chain hb hal
   have ltP:=P.lt
   generalize wr.alloc (.cells #[.slice pa l[k].1.length pc,.slice oa l[k].2.1.length oc,.slice ra l[k].2.2.length rc] 66)=wa at *
   have p0:=past_cell (P.cell 0 rfl)
   haveI:Nonempty (Past wa):=⟨⟨wa,Below.refl _ _⟩⟩
   by_cases hnew:k=0∨(0<k∧¬ cmpL (l.getD (k - 1) lp0).1 l[k].1=0)
   ·have hah:aheadL l k = []:=by
     rcases hnew with rfl | ⟨h1,h2⟩
     ·rfl
     ·obtain ⟨j,rfl⟩:∃ j,k=j+1:=⟨k - 1,by omega⟩
      unfold aheadL
      rw [HG.out]
      rw [if_neg]
      exact h2
    have HAh:Hid (aheadL l k = []):=hah
    clear hah
    rcases hnew with hk0 | ⟨hk0,hc⟩
    rotate_left
    ·-- another part
     obtain ⟨b2,off2,e2,hbl2,⟨qa,qc,e3,sq⟩,_,_⟩:=h.elem (show k - 1<l.length by omega)
     have e2':=Option.some.inj e2
     injection e2' with e4 e5
     subst e4 e5
     have hgq:l.getD (k - 1) lp0=l[k - 1]'(by omega):=by simp [List.getD,show k - 1<l.length by omega]
     have cq:=past_cell ((b0.cell (p:=⟨b,_,none⟩) hbl).trans e3)
     have hkz:((k:Int) == 0)=false:=by simp; omega
     have hk1:IntKind.i64.wrap ((k:Int) - 1)=((k - 1:Nat):Int):=by rw [IntKind.wrap_i64]; omega
     have hk2:(0:Int)≤((k - 1:Nat):Int):=by omega
     have hk3:((k - 1:Nat):Int)<(l.length:Int):=by omega
     have sq1:=sq.next b0
     have sp1:=HSp.out.next b0
     clear e3 sq e2
     have hc':(cmpL l[k - 1].1 l[k].1 != 0)=true:=by rw [← hgq]; simpa using hc
     clear hc hgq
     refine wp_region_past (by kernel_rfl) (by kernel_rfl) ?_
     repeat (go_big_quiet_step (first | (go_at_call 62; exact in_past (rows_at _ _ _ _ _ _ _ (sq1.next (Past.ok _)) (sp1.next (Past.ok _))))))
     refine wpQuiet_nil ?_
     rintro w3 ⟨⟨v3,hb3⟩,h3⟩
     obtain rfl:w3=v3:=h3
     clear cq p0 hc' sq1 sp1
     have P:=P.next hb3
     have b3:=chain b0 hb3
     obtain ⟨lo9,hi9,N,_⟩:=HK
     have hwr:w.heap.size<wr.heap.size:=N.lt
     have N:=(N.next hal).next hb3
     have con:=HD.out w w3 (Since.refl _ _) b3
     go_upto_region 8 with (first | (refine con.mono ?_; rintro e wx ⟨tg,tcb,lo,hi',I,rfl,hlo,tl,hI,hb4⟩) | (go_at_fn ug; refine con.mono ?_; rintro e wx ⟨tg,tcb,lo,hi',I,rfl,hlo,tl,hI,hb4⟩))
     clear con
     have P:=P.next hb4
     have bx:=chain b3 hb4
     have hBlo:w.heap.size<lo:=by have:=b3.size; have:=N.lt; omega
     have N:=(N.move lo hi' hlo).next hb4
     have hpb:wr.heap.size<lo∨hi'≤wr.heap.size:=.inl (by have:=P.lt; have:=hb3.size; have:=hb4.size; omega)
     rw [← HAh.out] at hI
     have hCC:∀ X X':World,Bk X wr.heap.size #[.slice pa l[k].1.length pc,.slice oa l[k].2.1.length oc,.slice ra l[k].2.2.length rc] 66→Below X.heap.size X X'→Bk X' wr.heap.size #[.slice pa l[k].1.length pc,.slice oa l[k].2.1.length oc,.slice ra l[k].2.2.length rc] 66:=fun X X' h hb=>h.next hb
     have hdr:Below wx.heap.size wx wx.drew:=(Below.refl _ _).drew
     have CW:=hCC _ _ P hdr
     refine wp_region_cls (fun X=>Bk X wr.heap.size #[.slice pa l[k].1.length pc,.slice oa l[k].2.1.length oc,.slice ra l[k].2.2.length rc] 66) (by kernel_rfl) ?_
     refine wpY_take hCC (some 35) (i:=0) (v:=.slice (some ⟨w.heap.size,0,none⟩) l.length l.length) rfl rfl (by kernel_rfl) (by kernel_rfl) (by kernel_rfl) (fun _ _ _ h=>h) (Or.inl ⟨rfl,fun nn hn=>?_⟩) CW ?_
     ·go_simp
     simp only [Act.put,pA,pB,pC]
     refine wpY_take hCC (some 36) (i:=1) (v:=.int .i64 k) rfl rfl (by kernel_rfl) (by kernel_rfl) (by kernel_rfl) (fun _ _ _ h=>h) (Or.inl ⟨rfl,fun nn hn=>?_⟩) CW ?_
     ·go_simp
     simp only [Act.put,pA,pB,pC]
     refine wpY_take hCC (some 37) (i:=2) (v:=.pointer (some ⟨wr.heap.size,2,none⟩)) rfl rfl (by kernel_rfl) (by kernel_rfl) (by kernel_rfl) (fun _ _ _ h=>h) (Or.inl ⟨rfl,fun nn hn=>?_⟩) CW ?_
     ·go_simp
     simp only [Act.put,pA,pB,pC]
     refine wpY_take hCC (some 38) (i:=3) (v:=.slice ra l[k].2.2.length rc) rfl rfl (by kernel_rfl) (by kernel_rfl) (by kernel_rfl) (fun _ _ _ h=>h) (Or.inl ⟨rfl,fun nn hn=>?_⟩) CW ?_
     ·have c2:=hn.cell 2 rfl
      go_simp
     simp only [Act.put,pA,pB,pC]
     refine wpY_take hCC (some 39) (i:=4) (v:=.func (.func tg) #[] tcb) rfl rfl (by kernel_rfl) (by kernel_rfl) (by kernel_rfl) (fun _ _ _ h=>h) (Or.inl ⟨rfl,fun nn hn=>?_⟩) CW ?_
     ·go_simp
     simp only [Act.put,pA,pB,pC]
     refine wpY_take hCC (some 40) (i:=5) (v:=.agg #[.slice pa l[k].1.length pc,.slice oa l[k].2.1.length oc,.slice ra l[k].2.2.length rc]) rfl rfl (by kernel_rfl) (by kernel_rfl) (by kernel_rfl) (fun _ _ _ h=>h) (Or.inl ⟨rfl,fun nn hn=>?_⟩) CW ?_
     ·have c0:=hn.cell 0 rfl
      have c1:=hn.cell 1 rfl
      have c2:=hn.cell 2 rfl
      go_simp
     simp only [Act.put,pA,pB,pC]
     refine wpY_step (rs:=[6]) (by kernel_rfl) (by simp) ?_
     intro w7 hb7 jj hj
     obtain rfl:jj=6:=by simpa using hj
     clear hj
     have D7:=chain hdr hb7
     have CW7:=hCC _ _ CW hb7
     have B7:=chain bx D7
     have hI7:=tl.next _ _ _ hI D7.size (fun j _ hj=>D7.block j (Nat.lt_of_lt_of_le hj (tl.lt _ _ hI)))
     have con:=tl.call (aheadL l k) l[k] (.agg #[.slice pa l[k].1.length pc,.slice oa l[k].2.1.length oc,.slice ra l[k].2.2.length rc]) w7 hI7 (by omega) HFh.out HFk.out HPV.out B7
     have ent:=tl.enter
     refine wpOp_step rfl (fun K hK=>?_)
     go_simp
     first | (refine con.mono ?_) | (go_at_fn tg; refine con.mono ?_)
     rintro e w8 ⟨Bn,rfl,hBn,S8,hI8,k8⟩
     have N8:=(N.next D7).keep k8 hBlo
     have CW8:=CW7.keep k8 hpb
     have B8:Below w.heap.size w w8:=B7.trans (k8.below tl.lo B7.size)
     have lt8:=tl.lt _ _ hI8
     refine hK _ _ ⟨CW8,?_⟩
     clear hK K con ent hI7 CW7 CW N
     refine wpY_step (rs:=[7]) (by kernel_rfl) (by simp) ?_
     intro w9 hb9 jj hj
     obtain rfl:jj=7:=by simpa using hj
     clear hj
     refine wpOp_step rfl (fun K hK=>?_)
     go_simp
     have CW9:=hCC _ _ CW8 hb9
     have B9:=chain B8 hb9
     have R2:=raw_vals (S8.next hb9)
     have hgm:(gs.map fun g=>winT g (aheadL l k) l[k]).length=gs.length:=by simp
     rw [hgm] at R2
     have PC:=PairC.new rc gs.length (raw_vals (HSr.out.next B9)) R2 31
     have halA:Below w9.heap.size w9 (w9.alloc (.cells #[.slice ra l[k].2.2.length rc,.slice (some ⟨Bn,0,none⟩) gs.length gs.length] 31)):=(Below.refl _ _).alloc (Nat.le_refl _) _
     have CWA:=hCC _ _ CW9 halA
     have DA:=chain hb9 halA
     refine hK _ _ ⟨CWA,?_⟩
     clear hK K R2 hgm CW9 CW8
     generalize w9.alloc (.cells #[.slice ra l[k].2.2.length rc,.slice (some ⟨Bn,0,none⟩) gs.length gs.length] 31)=wA at *
     (try simp only [Act.put,pA,pB,pC])
     refine wpY_step (rs:=[8]) (by kernel_rfl) (by simp) ?_
     intro wB hbB jj hj
     obtain rfl:jj=8:=by simpa using hj
     clear hj
     refine wpOp_step rfl (fun K hK=>?_)
     have CWB:=hCC _ _ CWA hbB
     have DB:=chain DA hbB
     have con:=concatV_at w9.heap.size _ _ _ _ wB (PC.next hbB) (by omega)
     go_simp
     refine con.mono ?_
     rintro e wC ⟨vC,rfl,OC,hbC⟩
     rw [← flatV_append] at OC
     have hown:=OC
     obtain ⟨aC,cC,rfl,SC,TC,_⟩:=own_vals OC (by simp)
     have aptC:Apt lo hi' aC:=fun g off e=>by
      subst e
      have hge:wB.heap.size≤g:=(hown.lt g rfl).1
      have z1:=hb9.size
      have z2:=DB.size
      exact .inr (by omega)
     have CWC:=hCC _ _ CWB hbC
     have DC:=chain DB hbC
     refine hK _ _ ⟨CWC,?_⟩
     clear hK K OC PC CWA CWB con hown
     obtain ⟨rr,err⟩:∃ rr,rr=l[k].2.2 ++ gs.map fun g=>winT g (aheadL l k) l[k]:=⟨_,rfl⟩
     rw [← err] at SC ⊢
     have EFr:Hid (F k=(rr,1)):=by show _=_; rw [err]; exact EF.out
     clear err EF
     (try simp only [Act.put,pA,pB,pC])
     refine wpY_take hCC (some 44) (i:=9) (v:=.agg #[.slice aC rr.length cC,.int .i64 1]) rfl rfl (by kernel_rfl) (by kernel_rfl) (by kernel_rfl) (fun _ _ _ h=>h) (Or.inl ⟨rfl,fun nn hn=>?_⟩) CWC ?_
     ·go_simp
     simp only [Act.put,pA,pB,pC]
     refine wpY_take hCC (some 45) (i:=10) (v:=.pointer (some ⟨w.heap.size,k*2,none⟩)) rfl rfl (by kernel_rfl) (by kernel_rfl) (by kernel_rfl) (fun _ _ _ h=>h) (Or.inl ⟨rfl,fun nn hn=>?_⟩) CWC ?_
     ·go_simp
     simp only [Act.put,pA,pB,pC]
     refine wpY_step (rs:=[11]) (by kernel_rfl) (by simp) ?_
     intro wD hbD jj hj
     obtain rfl:jj=11:=by simpa using hj
     clear hj
     have CWD:=hCC _ _ CWC hbD
     have DD:=chain DC hbD
     have ND:=N8.next DD
     obtain ⟨⟨u0,u1,d0,d1⟩,f0,f1,hlb⟩:=ND.mto.cells hlt
     have MS:=ND.step hlt (a:=aC) (cap:=cC) (by rw [EFr.out]; exact SC.next hbD) (TC.next hbD) aptC
     rw [EFr.out] at MS
     have hne:wr.heap.size≠w.heap.size:=by omega
     have CWE:Bk ((wD.setCell ⟨w.heap.size,k*2,none⟩ (.slice aC rr.length cC)).setCell ⟨w.heap.size,k*2+1,none⟩ (.int .i64 1)) wr.heap.size #[.slice pa l[k].1.length pc,.slice oa l[k].2.1.length oc,.slice ra l[k].2.2.length rc] 66:=(Below.heap_setCell _ _ _ _ hne).trans ((Below.heap_setCell _ _ _ _ hne).trans CWD)
     have BE:Below w.heap.size w ((wD.setCell ⟨w.heap.size,k*2,none⟩ (.slice aC rr.length cC)).setCell ⟨w.heap.size,k*2+1,none⟩ (.int .i64 1)):=((chain B8 DD).setCell (p:=⟨w.heap.size,k*2,none⟩) (Nat.le_refl _) _).setCell (p:=⟨w.heap.size,k*2+1,none⟩) (Nat.le_refl _) _
     have hID:=tl.next _ _ _ hI8 DD.size (fun j _ hj=>DD.block j (Nat.lt_of_lt_of_le hj lt8))
     have hIE:=tl.next _ _ ((wD.setCell ⟨w.heap.size,k*2,none⟩ (.slice aC rr.length cC)).setCell ⟨w.heap.size,k*2+1,none⟩ (.int .i64 1)) hID (by simp [World.setCell]) (fun j hj _=>(Below.heap_setCell _ _ _ _ (show j≠w.heap.size by omega)).trans (Below.heap_setCell _ _ _ _ (show j≠w.heap.size by omega)))
     refine wpOp_step rfl (fun K hK=>?_)
     go_simp
     refine hK _ _ ⟨CWE,?_⟩
     clear hK K CWD CWC d0 d1 f0 f1 ND SC TC hI8 hID hlb
     generalize (wD.setCell ⟨w.heap.size,k*2,none⟩ (.slice aC rr.length cC)).setCell ⟨w.heap.size,k*2+1,none⟩ (.int .i64 1)=wE at *
     refine wpY_done (by kernel_rfl) ?_
     intro wF hbF
     have MF:=MS.next hbF
     have BF:=chain BE hbF
     have hIF:=tl.next _ _ _ hIE hbF.size (fun j _ hj=>hbF.block j (Nat.lt_of_lt_of_le hj (tl.lt _ _ hIE)))
     have HE:Hid (TellE cols w gs w.heap.size l.length F (k+1) (.func (.func tg) #[] tcb) ((l.getD (k+1 - 1) lp0) :: aheadL l (k+1 - 1)) wF):=by
      refine ⟨lo,hi',MF,.inr ⟨hBlo,tg,tcb,I,rfl,tl,?_⟩⟩
      rw [Nat.add_sub_cancel,HG.out]; exact hIF
     clear MS BE CWE hCC hIE MF hIF
     go_wp2_with fail
     go_roundw
     case rel=>exact ⟨k+1,by omega,by go_num,HE.out,BF⟩
     case measure=>simp [intOf]; omega
    ·-- the first row
     have hkz:((k:Int) == 0)=true:=by simp [hk0]
     clear hk0
     refine wp_region_past (by kernel_rfl) (by kernel_rfl) ?_
     repeat (go_big_quiet_step (fail))
     refine wpQuiet_nil ?_
     rintro w3 ⟨⟨v3,hb3⟩,h3⟩
     obtain rfl:w3=v3:=h3
     clear p0
     have P:=P.next hb3
     have b3:=chain b0 hb3
     obtain ⟨lo9,hi9,N,_⟩:=HK
     have hwr:w.heap.size<wr.heap.size:=N.lt
     have N:=(N.next hal).next hb3
     have con:=HD.out w w3 (Since.refl _ _) b3
     go_upto_region 8 with (first | (refine con.mono ?_; rintro e wx ⟨tg,tcb,lo,hi',I,rfl,hlo,tl,hI,hb4⟩) | (go_at_fn ug; refine con.mono ?_; rintro e wx ⟨tg,tcb,lo,hi',I,rfl,hlo,tl,hI,hb4⟩))
     clear con
     have P:=P.next hb4
     have bx:=chain b3 hb4
     have hBlo:w.heap.size<lo:=by have:=b3.size; have:=N.lt; omega
     have N:=(N.move lo hi' hlo).next hb4
     have hpb:wr.heap.size<lo∨hi'≤wr.heap.size:=.inl (by have:=P.lt; have:=hb3.size; have:=hb4.size; omega)
     rw [← HAh.out] at hI
     have hCC:∀ X X':World,Bk X wr.heap.size #[.slice pa l[k].1.length pc,.slice oa l[k].2.1.length oc,.slice ra l[k].2.2.length rc] 66→Below X.heap.size X X'→Bk X' wr.heap.size #[.slice pa l[k].1.length pc,.slice oa l[k].2.1.length oc,.slice ra l[k].2.2.length rc] 66:=fun X X' h hb=>h.next hb
     have hdr:Below wx.heap.size wx wx.drew:=(Below.refl _ _).drew
     have CW:=hCC _ _ P hdr
     refine wp_region_cls (fun X=>Bk X wr.heap.size #[.slice pa l[k].1.length pc,.slice oa l[k].2.1.length oc,.slice ra l[k].2.2.length rc] 66) (by kernel_rfl) ?_
     refine wpY_take hCC (some 35) (i:=0) (v:=.slice (some ⟨w.heap.size,0,none⟩) l.length l.length) rfl rfl (by kernel_rfl) (by kernel_rfl) (by kernel_rfl) (fun _ _ _ h=>h) (Or.inl ⟨rfl,fun nn hn=>?_⟩) CW ?_
     ·go_simp
     simp only [Act.put,pA,pB,pC]
     refine wpY_take hCC (some 36) (i:=1) (v:=.int .i64 k) rfl rfl (by kernel_rfl) (by kernel_rfl) (by kernel_rfl) (fun _ _ _ h=>h) (Or.inl ⟨rfl,fun nn hn=>?_⟩) CW ?_
     ·go_simp
     simp only [Act.put,pA,pB,pC]
     refine wpY_take hCC (some 37) (i:=2) (v:=.pointer (some ⟨wr.heap.size,2,none⟩)) rfl rfl (by kernel_rfl) (by kernel_rfl) (by kernel_rfl) (fun _ _ _ h=>h) (Or.inl ⟨rfl,fun nn hn=>?_⟩) CW ?_
     ·go_simp
     simp only [Act.put,pA,pB,pC]
     refine wpY_take hCC (some 38) (i:=3) (v:=.slice ra l[k].2.2.length rc) rfl rfl (by kernel_rfl) (by kernel_rfl) (by kernel_rfl) (fun _ _ _ h=>h) (Or.inl ⟨rfl,fun nn hn=>?_⟩) CW ?_
     ·have c2:=hn.cell 2 rfl
      go_simp
     simp only [Act.put,pA,pB,pC]
     refine wpY_take hCC (some 39) (i:=4) (v:=.func (.func tg) #[] tcb) rfl rfl (by kernel_rfl) (by kernel_rfl) (by kernel_rfl) (fun _ _ _ h=>h) (Or.inl ⟨rfl,fun nn hn=>?_⟩) CW ?_
     ·go_simp
     simp only [Act.put,pA,pB,pC]
     refine wpY_take hCC (some 40) (i:=5) (v:=.agg #[.slice pa l[k].1.length pc,.slice oa l[k].2.1.length oc,.slice ra l[k].2.2.length rc]) rfl rfl (by kernel_rfl) (by kernel_rfl) (by kernel_rfl) (fun _ _ _ h=>h) (Or.inl ⟨rfl,fun nn hn=>?_⟩) CW ?_
     ·have c0:=hn.cell 0 rfl
      have c1:=hn.cell 1 rfl
      have c2:=hn.cell 2 rfl
      go_simp
     simp only [Act.put,pA,pB,pC]
     refine wpY_step (rs:=[6]) (by kernel_rfl) (by simp) ?_
     intro w7 hb7 jj hj
     obtain rfl:jj=6:=by simpa using hj
     clear hj
     have D7:=chain hdr hb7
     have CW7:=hCC _ _ CW hb7
     have B7:=chain bx D7
     have hI7:=tl.next _ _ _ hI D7.size (fun j _ hj=>D7.block j (Nat.lt_of_lt_of_le hj (tl.lt _ _ hI)))
     have con:=tl.call (aheadL l k) l[k] (.agg #[.slice pa l[k].1.length pc,.slice oa l[k].2.1.length oc,.slice ra l[k].2.2.length rc]) w7 hI7 (by omega) HFh.out HFk.out HPV.out B7
     have ent:=tl.enter
     refine wpOp_step rfl (fun K hK=>?_)
     go_simp
     first | (refine con.mono ?_) | (go_at_fn tg; refine con.mono ?_)
     rintro e w8 ⟨Bn,rfl,hBn,S8,hI8,k8⟩
     have N8:=(N.next D7).keep k8 hBlo
     have CW8:=CW7.keep k8 hpb
     have B8:Below w.heap.size w w8:=B7.trans (k8.below tl.lo B7.size)
     have lt8:=tl.lt _ _ hI8
     refine hK _ _ ⟨CW8,?_⟩
     clear hK K con ent hI7 CW7 CW N
     refine wpY_step (rs:=[7]) (by kernel_rfl) (by simp) ?_
     intro w9 hb9 jj hj
     obtain rfl:jj=7:=by simpa using hj
     clear hj
     refine wpOp_step rfl (fun K hK=>?_)
     go_simp
     have CW9:=hCC _ _ CW8 hb9
     have B9:=chain B8 hb9
     have R2:=raw_vals (S8.next hb9)
     have hgm:(gs.map fun g=>winT g (aheadL l k) l[k]).length=gs.length:=by simp
     rw [hgm] at R2
     have PC:=PairC.new rc gs.length (raw_vals (HSr.out.next B9)) R2 31
     have halA:Below w9.heap.size w9 (w9.alloc (.cells #[.slice ra l[k].2.2.length rc,.slice (some ⟨Bn,0,none⟩) gs.length gs.length] 31)):=(Below.refl _ _).alloc (Nat.le_refl _) _
     have CWA:=hCC _ _ CW9 halA
     have DA:=chain hb9 halA
     refine hK _ _ ⟨CWA,?_⟩
     clear hK K R2 hgm CW9 CW8
     generalize w9.alloc (.cells #[.slice ra l[k].2.2.length rc,.slice (some ⟨Bn,0,none⟩) gs.length gs.length] 31)=wA at *
     (try simp only [Act.put,pA,pB,pC])
     refine wpY_step (rs:=[8]) (by kernel_rfl) (by simp) ?_
     intro wB hbB jj hj
     obtain rfl:jj=8:=by simpa using hj
     clear hj
     refine wpOp_step rfl (fun K hK=>?_)
     have CWB:=hCC _ _ CWA hbB
     have DB:=chain DA hbB
     have con:=concatV_at w9.heap.size _ _ _ _ wB (PC.next hbB) (by omega)
     go_simp
     refine con.mono ?_
     rintro e wC ⟨vC,rfl,OC,hbC⟩
     rw [← flatV_append] at OC
     have hown:=OC
     obtain ⟨aC,cC,rfl,SC,TC,_⟩:=own_vals OC (by simp)
     have aptC:Apt lo hi' aC:=fun g off e=>by
      subst e
      have hge:wB.heap.size≤g:=(hown.lt g rfl).1
      have z1:=hb9.size
      have z2:=DB.size
      exact .inr (by omega)
     have CWC:=hCC _ _ CWB hbC
     have DC:=chain DB hbC
     refine hK _ _ ⟨CWC,?_⟩
     clear hK K OC PC CWA CWB con hown
     obtain ⟨rr,err⟩:∃ rr,rr=l[k].2.2 ++ gs.map fun g=>winT g (aheadL l k) l[k]:=⟨_,rfl⟩
     rw [← err] at SC ⊢
     have EFr:Hid (F k=(rr,1)):=by show _=_; rw [err]; exact EF.out
     clear err EF
     (try simp only [Act.put,pA,pB,pC])
     refine wpY_take hCC (some 44) (i:=9) (v:=.agg #[.slice aC rr.length cC,.int .i64 1]) rfl rfl (by kernel_rfl) (by kernel_rfl) (by kernel_rfl) (fun _ _ _ h=>h) (Or.inl ⟨rfl,fun nn hn=>?_⟩) CWC ?_
     ·go_simp
     simp only [Act.put,pA,pB,pC]
     refine wpY_take hCC (some 45) (i:=10) (v:=.pointer (some ⟨w.heap.size,k*2,none⟩)) rfl rfl (by kernel_rfl) (by kernel_rfl) (by kernel_rfl) (fun _ _ _ h=>h) (Or.inl ⟨rfl,fun nn hn=>?_⟩) CWC ?_
     ·go_simp
     simp only [Act.put,pA,pB,pC]
     refine wpY_step (rs:=[11]) (by kernel_rfl) (by simp) ?_
     intro wD hbD jj hj
     obtain rfl:jj=11:=by simpa using hj
     clear hj
     have CWD:=hCC _ _ CWC hbD
     have DD:=chain DC hbD
     have ND:=N8.next DD
     obtain ⟨⟨u0,u1,d0,d1⟩,f0,f1,hlb⟩:=ND.mto.cells hlt
     have MS:=ND.step hlt (a:=aC) (cap:=cC) (by rw [EFr.out]; exact SC.next hbD) (TC.next hbD) aptC
     rw [EFr.out] at MS
     have hne:wr.heap.size≠w.heap.size:=by omega
     have CWE:Bk ((wD.setCell ⟨w.heap.size,k*2,none⟩ (.slice aC rr.length cC)).setCell ⟨w.heap.size,k*2+1,none⟩ (.int .i64 1)) wr.heap.size #[.slice pa l[k].1.length pc,.slice oa l[k].2.1.length oc,.slice ra l[k].2.2.length rc] 66:=(Below.heap_setCell _ _ _ _ hne).trans ((Below.heap_setCell _ _ _ _ hne).trans CWD)
     have BE:Below w.heap.size w ((wD.setCell ⟨w.heap.size,k*2,none⟩ (.slice aC rr.length cC)).setCell ⟨w.heap.size,k*2+1,none⟩ (.int .i64 1)):=((chain B8 DD).setCell (p:=⟨w.heap.size,k*2,none⟩) (Nat.le_refl _) _).setCell (p:=⟨w.heap.size,k*2+1,none⟩) (Nat.le_refl _) _
     have hID:=tl.next _ _ _ hI8 DD.size (fun j _ hj=>DD.block j (Nat.lt_of_lt_of_le hj lt8))
     have hIE:=tl.next _ _ ((wD.setCell ⟨w.heap.size,k*2,none⟩ (.slice aC rr.length cC)).setCell ⟨w.heap.size,k*2+1,none⟩ (.int .i64 1)) hID (by simp [World.setCell]) (fun j hj _=>(Below.heap_setCell _ _ _ _ (show j≠w.heap.size by omega)).trans (Below.heap_setCell _ _ _ _ (show j≠w.heap.size by omega)))
     refine wpOp_step rfl (fun K hK=>?_)
     go_simp
     refine hK _ _ ⟨CWE,?_⟩
     clear hK K CWD CWC d0 d1 f0 f1 ND SC TC hI8 hID hlb
     generalize (wD.setCell ⟨w.heap.size,k*2,none⟩ (.slice aC rr.length cC)).setCell ⟨w.heap.size,k*2+1,none⟩ (.int .i64 1)=wE at *
     refine wpY_done (by kernel_rfl) ?_
     intro wF hbF
     have MF:=MS.next hbF
     have BF:=chain BE hbF
     have hIF:=tl.next _ _ _ hIE hbF.size (fun j _ hj=>hbF.block j (Nat.lt_of_lt_of_le hj (tl.lt _ _ hIE)))
     have HE:Hid (TellE cols w gs w.heap.size l.length F (k+1) (.func (.func tg) #[] tcb) ((l.getD (k+1 - 1) lp0) :: aheadL l (k+1 - 1)) wF):=by
      refine ⟨lo,hi',MF,.inr ⟨hBlo,tg,tcb,I,rfl,tl,?_⟩⟩
      rw [Nat.add_sub_cancel,HG.out]; exact hIF
     clear MS BE CWE hCC hIE MF hIF
     go_wp2_with fail
     go_roundw
     case rel=>exact ⟨k+1,by omega,by go_num,HE.out,BF⟩
     case measure=>simp [intOf]; omega
   ·have hk0:0<k:=by omega
    have hc:cmpL (l.getD (k - 1) lp0).1 l[k].1=0:=by
     by_cases e:cmpL (l.getD (k - 1) lp0).1 l[k].1=0
     ·exact e
     ·exact absurd (.inr ⟨hk0,e⟩) hnew
    have hah:aheadL l k=(l.getD (k - 1) lp0) :: aheadL l (k - 1):=by
     obtain ⟨j,rfl⟩:∃ j,k=j+1:=⟨k - 1,by omega⟩
     rw [aheadL,HG.out,Nat.add_sub_cancel,if_pos]
     simpa using hc
    have HAh:Hid (aheadL l k=(l.getD (k - 1) lp0) :: aheadL l (k - 1)):=hah
    clear hah hnew
    obtain ⟨lo,hi',N,⟨hz,_⟩ | ⟨hBlo,tg,tcb,I,rfl,tl,hI⟩⟩:=HK
    ·omega
    ·rw [← HAh.out] at hI
     have lt0:=tl.lt _ _ hI
     obtain ⟨b2,off2,e2,hbl2,⟨qa,qc,e3,sq⟩,_,_⟩:=h.elem (show k - 1<l.length by omega)
     have e2':=Option.some.inj e2
     injection e2' with e4 e5
     subst e4 e5
     have hgq:l.getD (k - 1) lp0=l[k - 1]'(by omega):=by simp [List.getD,show k - 1<l.length by omega]
     have cq:=past_cell ((b0.cell (p:=⟨b,_,none⟩) hbl).trans e3)
     have hkz:((k:Int) == 0)=false:=by simp; omega
     have hk1:IntKind.i64.wrap ((k:Int) - 1)=((k - 1:Nat):Int):=by rw [IntKind.wrap_i64]; omega
     have hk2:(0:Int)≤((k - 1:Nat):Int):=by omega
     have hk3:((k - 1:Nat):Int)<(l.length:Int):=by omega
     have sq1:=sq.next b0
     have sp1:=HSp.out.next b0
     clear e3 sq e2
     have hc':(cmpL l[k - 1].1 l[k].1 != 0)=false:=by rw [← hgq]; simpa using hc
     clear hc hgq
     refine wp_region_past (by kernel_rfl) (by kernel_rfl) ?_
     repeat (go_big_quiet_step (first | (go_at_call 62; exact in_past (rows_at _ _ _ _ _ _ _ (sq1.next (Past.ok _)) (sp1.next (Past.ok _))))))
     refine wpQuiet_nil ?_
     rintro w3 ⟨⟨v3,hb3⟩,h3⟩
     obtain rfl:w3=v3:=h3
     clear cq p0 hc' sq1 sp1
     have DD0:=chain hal hb3
     have P:=P.next hb3
     have bx:=chain b0 hb3
     have hwr:w.heap.size<wr.heap.size:=N.lt
     have N:=N.next DD0
     have hI:=tl.next _ _ _ hI DD0.size (fun j _ hj=>DD0.block j (Nat.lt_of_lt_of_le hj lt0))
     have hpb:wr.heap.size<lo∨hi'≤wr.heap.size:=.inr lt0
     obtain ⟨wx,hwx⟩:∃ wx,wx=w3:=⟨_,rfl⟩
     subst hwx
     go_upto_region 8 with fail
     have hCC:∀ X X':World,Bk X wr.heap.size #[.slice pa l[k].1.length pc,.slice oa l[k].2.1.length oc,.slice ra l[k].2.2.length rc] 66→Below X.heap.size X X'→Bk X' wr.heap.size #[.slice pa l[k].1.length pc,.slice oa l[k].2.1.length oc,.slice ra l[k].2.2.length rc] 66:=fun X X' h hb=>h.next hb
     have hdr:Below wx.heap.size wx wx.drew:=(Below.refl _ _).drew
     have CW:=hCC _ _ P hdr
     refine wp_region_cls (fun X=>Bk X wr.heap.size #[.slice pa l[k].1.length pc,.slice oa l[k].2.1.length oc,.slice ra l[k].2.2.length rc] 66) (by kernel_rfl) ?_
     refine wpY_take hCC (some 35) (i:=0) (v:=.slice (some ⟨w.heap.size,0,none⟩) l.length l.length) rfl rfl (by kernel_rfl) (by kernel_rfl) (by kernel_rfl) (fun _ _ _ h=>h) (Or.inl ⟨rfl,fun nn hn=>?_⟩) CW ?_
     ·go_simp
     simp only [Act.put,pA,pB,pC]
     refine wpY_take hCC (some 36) (i:=1) (v:=.int .i64 k) rfl rfl (by kernel_rfl) (by kernel_rfl) (by kernel_rfl) (fun _ _ _ h=>h) (Or.inl ⟨rfl,fun nn hn=>?_⟩) CW ?_
     ·go_simp
     simp only [Act.put,pA,pB,pC]
     refine wpY_take hCC (some 37) (i:=2) (v:=.pointer (some ⟨wr.heap.size,2,none⟩)) rfl rfl (by kernel_rfl) (by kernel_rfl) (by kernel_rfl) (fun _ _ _ h=>h) (Or.inl ⟨rfl,fun nn hn=>?_⟩) CW ?_
     ·go_simp
     simp only [Act.put,pA,pB,pC]
     refine wpY_take hCC (some 38) (i:=3) (v:=.slice ra l[k].2.2.length rc) rfl rfl (by kernel_rfl) (by kernel_rfl) (by kernel_rfl) (fun _ _ _ h=>h) (Or.inl ⟨rfl,fun nn hn=>?_⟩) CW ?_
     ·have c2:=hn.cell 2 rfl
      go_simp
     simp only [Act.put,pA,pB,pC]
     refine wpY_take hCC (some 39) (i:=4) (v:=.func (.func tg) #[] tcb) rfl rfl (by kernel_rfl) (by kernel_rfl) (by kernel_rfl) (fun _ _ _ h=>h) (Or.inl ⟨rfl,fun nn hn=>?_⟩) CW ?_
     ·go_simp
     simp only [Act.put,pA,pB,pC]
     refine wpY_take hCC (some 40) (i:=5) (v:=.agg #[.slice pa l[k].1.length pc,.slice oa l[k].2.1.length oc,.slice ra l[k].2.2.length rc]) rfl rfl (by kernel_rfl) (by kernel_rfl) (by kernel_rfl) (fun _ _ _ h=>h) (Or.inl ⟨rfl,fun nn hn=>?_⟩) CW ?_
     ·have c0:=hn.cell 0 rfl
      have c1:=hn.cell 1 rfl
      have c2:=hn.cell 2 rfl
      go_simp
     simp only [Act.put,pA,pB,pC]
     refine wpY_step (rs:=[6]) (by kernel_rfl) (by simp) ?_
     intro w7 hb7 jj hj
     obtain rfl:jj=6:=by simpa using hj
     clear hj
     have D7:=chain hdr hb7
     have CW7:=hCC _ _ CW hb7
     have B7:=chain bx D7
     have hI7:=tl.next _ _ _ hI D7.size (fun j _ hj=>D7.block j (Nat.lt_of_lt_of_le hj (tl.lt _ _ hI)))
     have con:=tl.call (aheadL l k) l[k] (.agg #[.slice pa l[k].1.length pc,.slice oa l[k].2.1.length oc,.slice ra l[k].2.2.length rc]) w7 hI7 (by omega) HFh.out HFk.out HPV.out B7
     have ent:=tl.enter
     refine wpOp_step rfl (fun K hK=>?_)
     go_simp
     first | (refine con.mono ?_) | (go_at_fn tg; refine con.mono ?_)
     rintro e w8 ⟨Bn,rfl,hBn,S8,hI8,k8⟩
     have N8:=(N.next D7).keep k8 hBlo
     have CW8:=CW7.keep k8 hpb
     have B8:Below w.heap.size w w8:=B7.trans (k8.below tl.lo B7.size)
     have lt8:=tl.lt _ _ hI8
     refine hK _ _ ⟨CW8,?_⟩
     clear hK K con ent hI7 CW7 CW N
     refine wpY_step (rs:=[7]) (by kernel_rfl) (by simp) ?_
     intro w9 hb9 jj hj
     obtain rfl:jj=7:=by simpa using hj
     clear hj
     refine wpOp_step rfl (fun K hK=>?_)
     go_simp
     have CW9:=hCC _ _ CW8 hb9
     have B9:=chain B8 hb9
     have R2:=raw_vals (S8.next hb9)
     have hgm:(gs.map fun g=>winT g (aheadL l k) l[k]).length=gs.length:=by simp
     rw [hgm] at R2
     have PC:=PairC.new rc gs.length (raw_vals (HSr.out.next B9)) R2 31
     have halA:Below w9.heap.size w9 (w9.alloc (.cells #[.slice ra l[k].2.2.length rc,.slice (some ⟨Bn,0,none⟩) gs.length gs.length] 31)):=(Below.refl _ _).alloc (Nat.le_refl _) _
     have CWA:=hCC _ _ CW9 halA
     have DA:=chain hb9 halA
     refine hK _ _ ⟨CWA,?_⟩
     clear hK K R2 hgm CW9 CW8
     generalize w9.alloc (.cells #[.slice ra l[k].2.2.length rc,.slice (some ⟨Bn,0,none⟩) gs.length gs.length] 31)=wA at *
     (try simp only [Act.put,pA,pB,pC])
     refine wpY_step (rs:=[8]) (by kernel_rfl) (by simp) ?_
     intro wB hbB jj hj
     obtain rfl:jj=8:=by simpa using hj
     clear hj
     refine wpOp_step rfl (fun K hK=>?_)
     have CWB:=hCC _ _ CWA hbB
     have DB:=chain DA hbB
     have con:=concatV_at w9.heap.size _ _ _ _ wB (PC.next hbB) (by omega)
     go_simp
     refine con.mono ?_
     rintro e wC ⟨vC,rfl,OC,hbC⟩
     rw [← flatV_append] at OC
     have hown:=OC
     obtain ⟨aC,cC,rfl,SC,TC,_⟩:=own_vals OC (by simp)
     have aptC:Apt lo hi' aC:=fun g off e=>by
      subst e
      have hge:wB.heap.size≤g:=(hown.lt g rfl).1
      have z1:=hb9.size
      have z2:=DB.size
      exact .inr (by omega)
     have CWC:=hCC _ _ CWB hbC
     have DC:=chain DB hbC
     refine hK _ _ ⟨CWC,?_⟩
     clear hK K OC PC CWA CWB con hown
     obtain ⟨rr,err⟩:∃ rr,rr=l[k].2.2 ++ gs.map fun g=>winT g (aheadL l k) l[k]:=⟨_,rfl⟩
     rw [← err] at SC ⊢
     have EFr:Hid (F k=(rr,1)):=by show _=_; rw [err]; exact EF.out
     clear err EF
     (try simp only [Act.put,pA,pB,pC])
     refine wpY_take hCC (some 44) (i:=9) (v:=.agg #[.slice aC rr.length cC,.int .i64 1]) rfl rfl (by kernel_rfl) (by kernel_rfl) (by kernel_rfl) (fun _ _ _ h=>h) (Or.inl ⟨rfl,fun nn hn=>?_⟩) CWC ?_
     ·go_simp
     simp only [Act.put,pA,pB,pC]
     refine wpY_take hCC (some 45) (i:=10) (v:=.pointer (some ⟨w.heap.size,k*2,none⟩)) rfl rfl (by kernel_rfl) (by kernel_rfl) (by kernel_rfl) (fun _ _ _ h=>h) (Or.inl ⟨rfl,fun nn hn=>?_⟩) CWC ?_
     ·go_simp
     simp only [Act.put,pA,pB,pC]
     refine wpY_step (rs:=[11]) (by kernel_rfl) (by simp) ?_
     intro wD hbD jj hj
     obtain rfl:jj=11:=by simpa using hj
     clear hj
     have CWD:=hCC _ _ CWC hbD
     have DD:=chain DC hbD
     have ND:=N8.next DD
     obtain ⟨⟨u0,u1,d0,d1⟩,f0,f1,hlb⟩:=ND.mto.cells hlt
     have MS:=ND.step hlt (a:=aC) (cap:=cC) (by rw [EFr.out]; exact SC.next hbD) (TC.next hbD) aptC
     rw [EFr.out] at MS
     have hne:wr.heap.size≠w.heap.size:=by omega
     have CWE:Bk ((wD.setCell ⟨w.heap.size,k*2,none⟩ (.slice aC rr.length cC)).setCell ⟨w.heap.size,k*2+1,none⟩ (.int .i64 1)) wr.heap.size #[.slice pa l[k].1.length pc,.slice oa l[k].2.1.length oc,.slice ra l[k].2.2.length rc] 66:=(Below.heap_setCell _ _ _ _ hne).trans ((Below.heap_setCell _ _ _ _ hne).trans CWD)
     have BE:Below w.heap.size w ((wD.setCell ⟨w.heap.size,k*2,none⟩ (.slice aC rr.length cC)).setCell ⟨w.heap.size,k*2+1,none⟩ (.int .i64 1)):=((chain B8 DD).setCell (p:=⟨w.heap.size,k*2,none⟩) (Nat.le_refl _) _).setCell (p:=⟨w.heap.size,k*2+1,none⟩) (Nat.le_refl _) _
     have hID:=tl.next _ _ _ hI8 DD.size (fun j _ hj=>DD.block j (Nat.lt_of_lt_of_le hj lt8))
     have hIE:=tl.next _ _ ((wD.setCell ⟨w.heap.size,k*2,none⟩ (.slice aC rr.length cC)).setCell ⟨w.heap.size,k*2+1,none⟩ (.int .i64 1)) hID (by simp [World.setCell]) (fun j hj _=>(Below.heap_setCell _ _ _ _ (show j≠w.heap.size by omega)).trans (Below.heap_setCell _ _ _ _ (show j≠w.heap.size by omega)))
     refine wpOp_step rfl (fun K hK=>?_)
     go_simp
     refine hK _ _ ⟨CWE,?_⟩
     clear hK K CWD CWC d0 d1 f0 f1 ND SC TC hI8 hID hlb
     generalize (wD.setCell ⟨w.heap.size,k*2,none⟩ (.slice aC rr.length cC)).setCell ⟨w.heap.size,k*2+1,none⟩ (.int .i64 1)=wE at *
     refine wpY_done (by kernel_rfl) ?_
     intro wF hbF
     have MF:=MS.next hbF
     have BF:=chain BE hbF
     have hIF:=tl.next _ _ _ hIE hbF.size (fun j _ hj=>hbF.block j (Nat.lt_of_lt_of_le hj (tl.lt _ _ hIE)))
     have HE:Hid (TellE cols w gs w.heap.size l.length F (k+1) (.func (.func tg) #[] tcb) ((l.getD (k+1 - 1) lp0) :: aheadL l (k+1 - 1)) wF):=by
      refine ⟨lo,hi',MF,.inr ⟨hBlo,tg,tcb,I,rfl,tl,?_⟩⟩
      rw [Nat.add_sub_cancel,HG.out]; exact hIF
     clear MS BE CWE hCC hIE MF hIF
     go_wp2_with fail
     go_roundw
     case rel=>exact ⟨k+1,by omega,by go_num,HE.out,BF⟩
     case measure=>simp [intOf]; omega
  ·have e:k=l.length:=by omega
   subst e
   obtain ⟨lo,hi',N,_⟩:=HK
   have zsm:=N.mto.done (toldL gs l) (toldL_len gs l).symm (fun j hj=>by rw [HF.out]; simp [toldL]) (by rw [toldL_len]; omega)
   go_wp2_with fail
   go_ret
   exact ⟨_,rfl,zsm,hb⟩
end Go.Proofs.YtcnmpiahcnkndaaGreat
/- window.Window. -/
namespace Go.Proofs.YtcnmpiahcnkndaaGreat
open Go.RowKit Go.Lib Go.Shelf

set_option maxRecDepth 100000 in
set_option maxHeartbeats 1000000 in
theorem countW_at (a:Option Addr) (cap:Nat) (l:List Zp) (w:World) (h:ZsAt w a l) (hl:l.length≤400) (hw:∀ x ∈ l,inW x.2=true) :
  Calls Tryz.prog 23 #[.slice a l.length cap] w fun e w'=>e = .returned (.int .i64 (cntP l:Int))∧Below w.heap.size w w':=by
 have HW:Hid (∀ x ∈ l,inW x.2=true):=hw
 generalize hc:cntP l=c
 have HC:Hid (cntP l=c):=hc
 clear hw hc
 go_enter Tryz.func23,Tryz.ntmps23
 go_wp2_with fail
 go_loopw [3,8] (fun s i wr=>∃ (k:Nat) (n:Nat),k≤l.length∧i = .int .i64 k∧s = .int .i64 n∧n≤k*1000000∧Hid (c=n+cntP (l.drop k))∧Below w.heap.size w wr) (fun _ i _=>l.length - (intOf i).toNat)
 case atStart=>exact ⟨0,0,Nat.zero_le _,rfl,rfl,Nat.zero_le _,by show c=_; rw [List.drop_zero,HC.out,Nat.zero_add],Below.refl _ _⟩
 case round =>
  obtain ⟨k,n,hk,rfl,rfl,hn,HN,hb⟩:=hrel
  by_cases hlt:k<l.length
  ·obtain ⟨b,off,rfl,hbl,d1,ra,rc,d0,sr⟩:=h.elem hlt
   have c1':=(hb.cell (p:=⟨b,_,none⟩) hbl).trans d1
   have c0':=(hb.cell (p:=⟨b,_,none⟩) hbl).trans d0
   have hal:Below wr.heap.size wr (wr.alloc (.cells #[.slice ra l[k].1.length rc,.int .i64 l[k].2] 33)):=(Below.refl _ _).alloc (Nat.le_refl _) _
   have P:=Bk.new wr #[.slice ra l[k].1.length rc,.int .i64 l[k].2] 33
   have hin:=(inW_iff _).1 (HW.out l[k] (List.getElem_mem hlt))
   have HD:Hid (cntP (l.drop k)=l[k].2.toNat+cntP (l.drop (k+1))):=by
    show cntP _=_
    rw [List.drop_eq_getElem_cons hlt,cntP]
   have hlz:(k:Int)<(l.length:Int):=by omega
   obtain ⟨x,hx⟩:∃ x,x=l[k].2:=⟨_,rfl⟩
   have HX:Hid (x=l[k].2):=hx
   rw [← hx] at c1' hal P hin
   clear d0 d1 sr hx
   go_upto_region 5 with fail
   clear c0' c1'
   generalize wr.alloc (.cells #[.slice ra l[k].1.length rc,.int .i64 x] 33)=wa at *
   have cP:=P.cell 1 rfl
   have hwr:IntKind.i64.wrap ((n:Int)+max x 0)=((n+x.toNat:Nat):Int):=by rw [IntKind.wrap_i64]; omega
   have HNN:Hid (c=n+x.toNat+cntP (l.drop (k+1))):=by show c=_; rw [HN.out,HD.out,HX.out]; omega
   go_wp2_with fail
   go_roundw
   case rel=>exact ⟨k+1,n+x.toNat,by omega,by go_num,by congr 1; omega,by omega,HNN,chain hb hal⟩
   case measure=>simp [intOf]; omega
  ·have e:k=l.length:=by omega
   subst e
   have hcn:c=n:=by rw [HN.out,List.drop_length]; simp [cntP]
   subst hcn
   go_wp2_with fail
   go_ret
   exact ⟨rfl,hb⟩

def windowE (cols:List Int) (ps os:List Ex) (gs:List Ag) (z:List Zp):Int:=if 8<cols.length+gs.length then 5 else if listE cols ps≠0 then listE cols ps else if listE cols os≠0 then listE cols os else if winsE cols gs≠0 then winsE cols gs else if inpE cols z≠0 then inpE cols z else if 400<cntP z then 5 else gatherE (toldL gs (lineL ps os z))
def windowZ (cols:List Int) (ps os:List Ex) (gs:List Ag) (z:List Zp):List Zp:=if windowE cols ps os gs z=0 then canon (toldL gs (lineL ps os z)) else []
theorem lineL_mem {ps os:List Ex} {z:List Zp} {x:Lp} (h:x ∈ lineL ps os z):∃ p ∈ z,0<p.2∧x=(rowX ps p.1,rowX os p.1,p.1):=withL_mem ((ordL_perm _).mem_iff.1 h)

set_option maxRecDepth 100000 in
set_option maxHeartbeats 16000000 in
theorem window_at (cols:List Int) (ps os:List Ex) (gs:List Ag) (hsum:cols.length+gs.length≤9223372036854775807) (ca:Option Addr) (ccap:Nat) (pa:Option Addr) (pcap:Nat) (oa:Option Addr) (ocap:Nat) (ga:Option Addr) (gcap:Nat) (a:Option Addr) (cap:Nat) (l:List Zp) (w:World) (hc:IsAt w.heap.size w ca cols) (hp:KsAt w.heap.size w pa ps) (ho:KsAt w.heap.size w oa os) (hg:AgAt w.heap.size w ga gs) (h:ZsAt w a l) :
  Calls Tryz.prog 9 #[.slice ca cols.length ccap,.slice pa ps.length pcap,.slice oa os.length ocap,.slice ga gs.length gcap,.slice a l.length cap] w fun e w'=>∃ v,e = .returned (.tuple #[v,.int .i64 (windowE cols ps os gs l)])∧OwnZ w.heap.size w' v (windowZ cols ps os gs l)∧Below w.heap.size w w':=by
 have con:=list_at cols ps ca ccap pa pcap w hp hc
 generalize hfz:windowZ cols ps os gs l=fz
 generalize hfe:windowE cols ps os gs l=fe
 have HZ:Hid (windowZ cols ps os gs l=fz):=hfz
 have HF:Hid (windowE cols ps os gs l=fe):=hfe
 clear hfz hfe
 have hW:IntKind.i64.wrap ((cols.length:Int)+(gs.length:Int))=(cols.length:Int)+(gs.length:Int):=IntWalk.i64_in _ ⟨by omega,by omega⟩
 by_cases h8:8<cols.length+gs.length
 ·have e0:fe=5:=by rw [← HF.out]; unfold windowE; rw [if_pos h8]
  have e1:fz = []:=by rw [← HZ.out]; unfold windowZ; rw [HF.out,e0,if_neg (by decide)]
  subst e0 e1
  have hz:(8:Int)<(cols.length:Int)+(gs.length:Int):=by omega
  clear con
  go_enter Tryz.func9,Tryz.ntmps9
  go_wp2_with fail
  exact bodyPost_ret (v:=.tuple #[.slice none 0 0,.int .i64 5]) (by simp [results,Tryz.results9,go_sem]) rfl ⟨_,rfl,own_nil _ _,Below.refl _ _⟩
 have hz:¬ (8:Int)<(cols.length:Int)+(gs.length:Int):=by omega
 have HN8:Hid (¬ 8<cols.length+gs.length):=h8
 have h88:cols.length+gs.length≤8:=by omega
 clear h8
 have nilOf:∀ {x:Int},fe=x→¬ x=0→Hid (fz = []):=fun e h=>by
  show fz = []
  rw [← HZ.out]; unfold windowZ; rw [HF.out,e,if_neg h]
 by_cases h1:listE cols ps=0
 ·have H1:Hid (listE cols ps=0):=h1
  rw [h1] at con
  clear h1
  go_enter Tryz.func9,Tryz.ntmps9
  go_wp2_with fail
  refine con.mono ?_
  rintro e w1 ⟨u,rfl,hL,hb1⟩
  clear con
  have hL:ListF cols w.heap.size u ps w1:=by
   rcases hL with ⟨_,hL⟩ | ⟨hL,_⟩
   ·exact hL
   ·exact absurd (by trivial) hL
  have HL:Hid (ListF cols w.heap.size u ps w1):=hL
  obtain ⟨ug,ucb,rfl⟩:∃ g cb,u = .func (.func g) #[] cb:=by obtain ⟨g,cb,e,_⟩:=hL; exact ⟨g,cb,e⟩
  clear hL
  have n1:=(Below.refl w1.heap.size w1).alloc (Nat.le_refl _) (.cells #[.func (.func ug) #[] ucb] 55)
  have V1:=Bk.new w1 #[.func (.func ug) #[] ucb] 55
  have A1:=chain hb1 n1
  have con:=list_at cols os ca ccap oa ocap _ ((KsAt.next A1 (Nat.le_refl _) ho).up A1.size) ((hc.next A1 (Nat.le_refl _)).up A1.size)
  dsimp only
  by_cases h2:listE cols os=0
  ·have H2:Hid (listE cols os=0):=h2
   rw [h2] at con
   clear h2
   go_wp2_with fail
   generalize w1.alloc (.cells #[.func (.func ug) #[] ucb] 55)=wa at *
   refine con.mono ?_
   rintro e w2 ⟨u2,rfl,hL,hb2⟩
   clear con
   have hL:ListF cols wa.heap.size u2 os w2:=by
    rcases hL with ⟨_,hL⟩ | ⟨hL,_⟩
    ·exact hL
    ·exact absurd (by trivial) hL
   have HL2:Hid (ListF cols w.heap.size u2 os w2):=hL.down A1.size
   obtain ⟨og,ocb,rfl⟩:∃ g cb,u2 = .func (.func g) #[] cb:=by obtain ⟨g,cb,e,_⟩:=hL; exact ⟨g,cb,e⟩
   clear hL
   have n2:=(Below.refl w2.heap.size w2).alloc (Nat.le_refl _) (.cells #[.func (.func og) #[] ocb] 55)
   have V2:=Bk.new w2 #[.func (.func og) #[] ocb] 55
   have B1:=chain hb2 n2
   have A2:=chain A1 B1
   have V1:=V1.next B1
   have con:=tellers_at cols gs ca ccap ga gcap _ ((AgAt.next A2 (Nat.le_refl _) hg).up A2.size) ((hc.next A2 (Nat.le_refl _)).up A2.size) (by omega)
   dsimp only
   by_cases h3:winsE cols gs=0
   ·have H3:Hid (winsE cols gs=0):=h3
    rw [h3] at con
    clear h3
    go_wp2_with fail
    generalize w2.alloc (.cells #[.func (.func og) #[] ocb] 55)=wb at *
    refine con.mono ?_
    rintro e w3 ⟨u3,rfl,hG,hb3⟩
    clear con
    have hG:BegL cols wb.heap.size u3 gs w3:=by
     rcases hG with ⟨_,hG⟩ | ⟨hG,_⟩
     ·exact hG
     ·exact absurd (by trivial) hG
    have HB:Hid (BegL cols wb.heap.size u3 gs w3):=hG
    obtain ⟨tg,tcb,rfl⟩:∃ g cb,u3 = .func (.func g) #[] cb:=by obtain ⟨g,cb,e,_⟩:=hG; exact ⟨g,cb,e⟩
    clear hG
    have A3:=chain A2 hb3
    have V1:=V1.next hb3
    have V2:=V2.next hb3
    have con:=wrongS_at cols ca ccap a cap l w3 ((hc.next A3 (Nat.le_refl _)).up A3.size) (h.next A3)
    dsimp only
    by_cases h4:inpE cols l=0
    ·have HO:Hid (InpOk cols l):=(inpE_ok cols l).1 h4
     rw [h4] at con
     have H4:Hid (inpE cols l=0):=h4
     clear h4
     have hl4:=set_len HO.out
     go_wp2_with fail
     refine con.mono ?_
     rintro e w4 ⟨rfl,hb4⟩
     clear con
     have A4:=chain A3 hb4
     have V1:=V1.next hb4
     have V2:=V2.next hb4
     have con:=countW_at a cap l w4 (h.next A4) hl4 (set_in HO.out)
     dsimp only
     go_wp2_with fail
     refine con.mono ?_
     rintro e w5 ⟨rfl,hb5⟩
     clear con
     have A5:=chain A4 hb5
     have V1:=V1.next hb5
     have V2:=V2.next hb5
     by_cases h5:400<cntP l
     ·have e0:fe=5:=by rw [← HF.out]; unfold windowE; rw [if_neg HN8.out,H1.out,H2.out,H3.out,H4.out,if_neg (by simp),if_neg (by simp),if_neg (by simp),if_neg (by simp),if_pos h5]
      have HV:Hid (fz = []):=nilOf e0 (by decide)
      have h5z:(400:Int)<(cntP l:Int):=by omega
      clear nilOf
      subst e0
      dsimp only
      go_wp2_with fail
      exact bodyPost_ret (v:=.tuple #[.slice none 0 0,.int .i64 5]) (by simp [results,Tryz.results9,go_sem]) rfl ⟨_,rfl,by rw [HV.out]; exact own_nil _ _,A5⟩
     ·have h5z:¬ (400:Int)<(cntP l:Int):=by omega
      have HC:Hid (cntP l≤400):=by show _≤_; omega
      have HE:Hid (fe=gatherE (toldL gs (lineL ps os l))):=by
       show fe=_
       rw [← HF.out]; unfold windowE; rw [if_neg HN8.out,H1.out,H2.out,H3.out,H4.out,if_neg (by simp),if_neg (by simp),if_neg (by simp),if_neg (by simp),if_neg h5]
      have HV:Hid (fz=gatherZ (toldL gs (lineL ps os l))):=by
       show fz=_
       rw [← HZ.out]; unfold windowZ gatherZ; rw [HF.out,HE.out]
      clear h5 nilOf
      have c1:=V1.cell 0 rfl
      have c2:=V2.cell 0 rfl
      have s15:Since w.heap.size w1 w5:=Since.of (chain n1 (chain B1 (chain hb3 (chain hb4 hb5))))
      have s25:Since w.heap.size w2 w5:=Since.of (chain n2 (chain hb3 (chain hb4 hb5)))
      have z1:=hb1.size
      have z2:=chain A1 hb2
      have PF:PlaceF cols w.heap.size (.func (.func 25) #[] #[.pointer (some ⟨w1.heap.size,0,none⟩),.pointer (some ⟨w2.heap.size,0,none⟩)]) ps os w5:=⟨25,_,rfl,enters_of Tryz.func25 (by kernel_rfl) rfl,fun row ar capr W hf hs hW =>
       place1_at cols w.heap.size _ _ ps os w1.heap.size w2.heap.size row ar capr W hf hs ((hW.cell (p:=⟨w1.heap.size,0,none⟩) z1 V1.lt).trans c1) ((hW.cell (p:=⟨w2.heap.size,0,none⟩) z2.size V2.lt).trans c2) ((HL.out.next s15).next hW) ((HL2.out.next s25).next hW)⟩
      have con:=inLine_at cols ps os _ w.heap.size a cap l w5 PF HO.out HC.out (h.next A5)
      clear c1 c2 PF
      dsimp only
      go_wp2_with fail
      refine con.mono ?_
      rintro e w6 ⟨a6,c6,rfl,ln,hb6⟩
      clear con
      have A6:=chain A5 hb6
      have hll:(lineL ps os l).length≤400:=by rw [lineL_len]; exact HC.out
      have hfit:∀ p ∈ lineL ps os l,FitP cols p.2.2:=fun p hp=>by
       obtain ⟨q,hq,_,rfl⟩:=lineL_mem hp
       exact HO.out.fit q hq
      have HFt:Hid (∀ p ∈ lineL ps os l,FitP cols p.2.2):=hfit
      have con:=told_at cols gs _ wb.heap.size a6 c6 (lineL ps os l) w6 (HB.out.next (Since.of (chain hb4 (chain hb5 hb6)))) hll h88 hfit ln
      clear hfit
      have HTL:Hid ((toldL gs (lineL ps os l)).length=(lineL ps os l).length):=toldL_len _ _
      dsimp only
      go_wp2_with fail
      refine con.mono ?_
      rintro e w7 ⟨a7,rfl,zs7,hb7⟩
      clear con
      have A7:=chain A6 hb7
      have hmem:∀ y ∈ toldL gs (lineL ps os l),y.2=1∧y.1.length≤8:=fun y hy=>by
       unfold toldL at hy
       obtain ⟨j,hj,rfl⟩:=List.mem_map.1 hy
       have hj':=List.mem_range.1 hj
       refine ⟨rfl,?_⟩
       have hgd:(lineL ps os l).getD j lp0=(lineL ps os l)[j]:=by simp [List.getD,hj']
       have:=(HFt.out _ (List.getElem_mem hj')).len
       simp only [toldF,List.length_append,List.length_map,hgd]
       omega
      have con:=gathered_at a7 (lineL ps os l).length (toldL gs (lineL ps os l)) w7 zs7 (by rw [HTL.out]; omega) (fun y hy=>by rw [(hmem y hy).1]; rfl) (fun y hy=>(hmem y hy).2)
      rw [HTL.out,← HE.out,← HV.out] at con
      clear zs7 hmem ln
      dsimp only
      go_wp2_with fail
      refine con.mono ?_
      rintro e w9 ⟨v9,rfl,O9,hb9⟩
      have O9':=O9.mono A7.size
      obtain ⟨a9,c9,rfl,_⟩:=O9.zs
      clear con O9
      dsimp only
      go_wp2_with fail
      exact bodyPost_ret (v:=.tuple #[.slice a9 fz.length c9,.int .i64 fe]) (by simp [results,Tryz.results9,go_sem]) rfl ⟨_,rfl,O9',chain A7 hb9⟩
    ·have e0:fe=inpE cols l:=by rw [← HF.out]; unfold windowE; rw [if_neg HN8.out,H1.out,H2.out,H3.out,if_neg (by simp),if_neg (by simp),if_neg (by simp),if_pos h4]
     have HV:=nilOf e0 h4
     have hne:(inpE cols l != 0)=true:=by simpa using h4
     rw [← e0] at con hne
     clear e0 h4 nilOf
     go_wp2_with fail
     refine con.mono ?_
     rintro e w4 ⟨rfl,hb4⟩
     clear con
     dsimp only
     go_wp2_with fail
     exact bodyPost_ret (v:=.tuple #[.slice none 0 0,.int .i64 fe]) (by simp [results,Tryz.results9,go_sem]) rfl ⟨_,rfl,by rw [HV.out]; exact own_nil _ _,chain A3 hb4⟩
   ·have e0:fe=winsE cols gs:=by rw [← HF.out]; unfold windowE; rw [if_neg HN8.out,H1.out,H2.out,if_neg (by simp),if_neg (by simp),if_pos h3]
    have HV:=nilOf e0 h3
    have hne:(winsE cols gs != 0)=true:=by simpa using h3
    have HL3:Hid (¬ winsE cols gs=0):=h3
    rw [← e0] at hne
    have HN:Hid (fe=winsE cols gs):=e0
    clear e0 h3 nilOf
    go_wp2_with fail
    generalize w2.alloc (.cells #[.func (.func og) #[] ocb] 55)=wb at *
    refine con.mono ?_
    rintro e w3 ⟨u3,rfl,hG,hb3⟩
    obtain ⟨_,rfl⟩:¬ winsE cols gs=0∧u3 = .nilFunc:=by
     rcases hG with ⟨hG,_⟩ | hG
     ·exact absurd hG HL3.out
     ·exact hG
    rw [← HN.out]
    clear con
    dsimp only
    go_wp2_with fail
    exact bodyPost_ret (v:=.tuple #[.slice none 0 0,.int .i64 fe]) (by simp [results,Tryz.results9,go_sem]) rfl ⟨_,rfl,by rw [HV.out]; exact own_nil _ _,chain A2 hb3⟩
  ·have e0:fe=listE cols os:=by rw [← HF.out]; unfold windowE; rw [if_neg HN8.out,H1.out,if_neg (by simp),if_pos h2]
   have HV:=nilOf e0 h2
   have hne:(listE cols os != 0)=true:=by simpa using h2
   have HL3:Hid (¬ listE cols os=0):=h2
   rw [← e0] at hne
   have HN:Hid (fe=listE cols os):=e0
   clear e0 h2 nilOf
   go_wp2_with fail
   generalize w1.alloc (.cells #[.func (.func ug) #[] ucb] 55)=wa at *
   refine con.mono ?_
   rintro e w2 ⟨u2,rfl,hL,hb2⟩
   obtain ⟨_,rfl⟩:¬ listE cols os=0∧u2 = .nilFunc:=by
    rcases hL with ⟨hL,_⟩ | hL
    ·exact absurd hL HL3.out
    ·exact hL
   rw [← HN.out]
   clear con
   have n2:=(Below.refl w2.heap.size w2).alloc (Nat.le_refl _) (.cells #[.nilFunc] 55)
   dsimp only
   go_wp2_with fail
   exact bodyPost_ret (v:=.tuple #[.slice none 0 0,.int .i64 fe]) (by simp [results,Tryz.results9,go_sem]) rfl ⟨_,rfl,by rw [HV.out]; exact own_nil _ _,chain (chain A1 hb2) n2⟩
 ·have e0:fe=listE cols ps:=by rw [← HF.out]; unfold windowE; rw [if_neg HN8.out,if_pos h1]
  have HV:=nilOf e0 h1
  have hne:(listE cols ps != 0)=true:=by simpa using h1
  have HL:Hid (¬ listE cols ps=0):=h1
  rw [← e0] at hne
  have HN:Hid (fe=listE cols ps):=e0
  clear e0 h1 nilOf
  go_enter Tryz.func9,Tryz.ntmps9
  go_wp2_with fail
  refine con.mono ?_
  rintro e w1 ⟨u,rfl,hL,hb1⟩
  obtain ⟨_,rfl⟩:¬ listE cols ps=0∧u = .nilFunc:=by
   rcases hL with ⟨hL,_⟩ | hL
   ·exact absurd hL HL.out
   ·exact hL
  rw [← HN.out]
  clear con
  have n1:=(Below.refl w1.heap.size w1).alloc (Nat.le_refl _) (.cells #[.nilFunc] 55)
  go_wp2_with fail
  exact bodyPost_ret (v:=.tuple #[.slice none 0 0,.int .i64 fe]) (by simp [results,Tryz.results9,go_sem]) rfl ⟨_,rfl,by rw [HV.out]; exact own_nil _ _,chain hb1 n1⟩
end Go.Proofs.YtcnmpiahcnkndaaGreat
/- With a partner, or without: plain facts. -/
namespace Go.Proofs.YtcnmpiahcnkndaaGreat
open Go.RowKit

theorem right_append {a b:List Vl} (h:rightB a=true) (k:rightB b=true):rightB (a ++ b)=true:=by
 unfold rightB at h k ⊢
 rw [List.all_append,h,k]; rfl
end Go.Proofs.YtcnmpiahcnkndaaGreat
/- What is known of windows, plainly. -/
namespace Go.Proofs.YtcnmpiahcnkndaaGreat
open Go.RowKit Go.Lib Go.Shelf

structure WinOk (cols:List Int) (ps os:List Ex) (gs:List Ag) (z:List Zp):Prop where
 h8:cols.length+gs.length≤8
 hp:listE cols ps=0
 ho:listE cols os=0
 hg:winsE cols gs=0
 hz:InpOk cols z
 hc:cntP z≤400
 he:gatherE (toldL gs (lineL ps os z))=0
theorem windowE_ok {cols:List Int} {ps os:List Ex} {gs:List Ag} {z:List Zp} (h:windowE cols ps os gs z=0):WinOk cols ps os gs z:=by
 unfold windowE at h
 by_cases h1:8<cols.length+gs.length
 ·rw [if_pos h1] at h; cases h
 rw [if_neg h1] at h
 by_cases h2:listE cols ps=0
 ·by_cases h3:listE cols os=0
  ·by_cases h4:winsE cols gs=0
   ·by_cases h5:inpE cols z=0
    ·rw [if_neg (by simpa using h2),if_neg (by simpa using h3),if_neg (by simpa using h4),if_neg (by simpa using h5)] at h
     by_cases h6:400<cntP z
     ·rw [if_pos h6] at h; cases h
     ·rw [if_neg h6] at h
      exact ⟨by omega,h2,h3,h4,(inpE_ok cols z).1 h5,by omega,h⟩
    ·rw [if_neg (by simpa using h2),if_neg (by simpa using h3),if_neg (by simpa using h4),if_pos h5] at h; exact absurd h h5
   ·rw [if_neg (by simpa using h2),if_neg (by simpa using h3),if_pos h4] at h; exact absurd h h4
  ·rw [if_neg (by simpa using h2),if_pos h3] at h; exact absurd h h3
 ·rw [if_pos h2] at h; exact absurd h h2
theorem intV_right (n:Int):wrongP (intV n)=0:=by
 unfold intV intK intN wrongP wrongF
 by_cases h:inB n=true
 ·have h2:=h
  simp only [inB,Bool.and_eq_true,decide_eq_true_eq] at h2
  simp [h]; omega
 ·simp [h]
theorem nulV_right:wrongP nulV=0:=by decide
theorem winT_right {cols:List Int} {g:Ag} (hg:winE cols g=0) {h:List Lp} {p:Lp} (hh:∀ q ∈ h,FitP cols q.2.2):wrongP (winT g h p)=0:=by
 unfold winT
 split
 ·exact intV_right _
 split
 ·exact intV_right _
 split
 ·exact intV_right _
 split
 ·unfold tSum
  split
  ·exact intV_right _
  ·exact nulV_right
 ·rename_i h1 h2 h3 h4
  have ht:(typeTop cols g.2).2=0:=Classical.byContradiction fun hn=>by
   unfold winE at hg
   rw [if_neg (by omega)] at hg
   by_cases h5:g.1<1∨5<g.1
   ·rw [if_pos h5] at hg; cases hg
   ·rw [if_neg h5,if_pos hn] at hg; exact hn hg
  cases h with
  | nil=>exact nulV_right
  | cons q r=>exact (valX_right ht _ (hh q (by simp))).1
theorem fit_rowsL {cols:List Int} {ps os:List Ex} {z:List Zp} (hz:InpOk cols z):∀ p ∈ lineL ps os z,FitP cols p.2.2:=fun p hp=>by
 obtain ⟨q,hq,_,rfl⟩:=lineL_mem hp
 exact hz.fit q hq
theorem getD_mem {l:List Lp} {k:Nat} (h:k<l.length):l.getD k lp0 ∈ l:=by
 have:l.getD k lp0=l[k]:=by simp [List.getD,h]
 rw [this]; exact List.getElem_mem h
theorem told_mem {gs:List Ag} {l:List Lp} {y:Zp} (h:y ∈ toldL gs l):∃ k,k<l.length∧y=toldF gs l k:=by
 unfold toldL at h
 obtain ⟨k,hk,rfl⟩:=List.mem_map.1 h
 exact ⟨k,List.mem_range.1 hk,rfl⟩
theorem rightB_map {α:Type} {f:α→Vl}:∀ {l:List α},(∀ x ∈ l,wrongP (f x)=0)→rightB (l.map f)=true
 | [],_=>rfl
 | x :: r,h=>by
  have h1:=h x (by simp)
  have h2:=rightB_map (f:=f) (l:=r) fun y hy=>h y (by simp [hy])
  have:=right_append (a:=[f x]) (b:=r.map f) (by simp only [rightB,List.all_cons,List.all_nil,Bool.and_true]; simpa [wrongP] using h1) h2
  simpa using this
theorem told_right {cols:List Int} {ps os:List Ex} {gs:List Ag} {z:List Zp} (h:WinOk cols ps os gs z):∀ y ∈ toldL gs (lineL ps os z),y.2=1∧y.1.length=cols.length+gs.length∧wrongRowF y.1=0:=fun y hy=>by
 obtain ⟨k,hk,rfl⟩:=told_mem hy
 have hf:=fit_rowsL (ps:=ps) (os:=os) h.hz _ (getD_mem hk)
 have hfh:∀ q ∈ aheadL (lineL ps os z) k,FitP cols q.2.2:=fun q hq=>fit_rowsL h.hz q (aheadL_mem _ k hk q hq)
 have hl:(toldF gs (lineL ps os z) k).1.length=cols.length+gs.length:=by
  have:=hf.len
  simp only [toldF,List.length_append,List.length_map]
  omega
 have hw:=(winsE_ok cols gs).1 h.hg
 have h8:=h.h8
 refine ⟨rfl,hl,(wrongRowF_zero _).2 ⟨by omega,?_⟩⟩
 exact right_append (fit_right hf) (rightB_map fun g hg=>winT_right (hw g hg) hfh)
theorem windowZ_eq {cols:List Int} {ps os:List Ex} {gs:List Ag} {z:List Zp} (h:windowE cols ps os gs z=0):windowZ cols ps os gs z=canon (toldL gs (lineL ps os z)):=by unfold windowZ; rw [if_pos h]
theorem window_rows {cols:List Int} {ps os:List Ex} {gs:List Ag} {z:List Zp} (h:windowE cols ps os gs z=0):∀ y ∈ windowZ cols ps os gs z,y.1.length=cols.length+gs.length∧wrongRowF y.1=0:=fun y hy=>by
 rw [windowZ_eq h] at hy
 obtain ⟨x,hx,e⟩:=canon_row _ y hy
 obtain ⟨_,h2,h3⟩:=told_right (windowE_ok h) x hx
 rw [e,bareL_length]
 exact ⟨h2,(wrongRow_bare _).2 h3⟩
theorem window_wrong {cols:List Int} {ps os:List Ex} {gs:List Ag} {z:List Zp} (h:windowE cols ps os gs z=0):wrongZ (windowZ cols ps os gs z)=0:=by
 rw [windowZ_eq h]
 exact wrong_canon (fun x hx=>(told_right (windowE_ok h) x hx).2.2) (windowE_ok h).he
end Go.Proofs.YtcnmpiahcnkndaaGreat
/- Parts know nothing of each other, plainly. -/
namespace Go.Proofs.YtcnmpiahcnkndaaGreat
open Go.RowKit Go.Lib Go.Shelf

/-! ### The rows told one after the other -/
def resetL:List Lp→Lp→List Lp
 | [],_=>[]
 | q :: h,x=>if cmpL q.1 x.1=0 then q :: h else []
def goL (gs:List Ag):List Lp→List Lp→List Zp
 | _,[]=>[]
 | h,x :: r=>(x.2.2 ++ gs.map (fun g=>winT g (resetL h x) x),1) :: goL gs (x :: resetL h x) r
def histL (l:List Lp):Nat→List Lp
 | 0=>[]
 | k+1=>l.getD k lp0 :: aheadL l k
theorem reset_hist (l:List Lp) (k:Nat):resetL (histL l k) (l.getD k lp0)=aheadL l k:=by cases k <;> rfl
theorem goL_drop (gs:List Ag) (l:List Lp):∀ n k:Nat,n+k=l.length→goL gs (histL l k) (l.drop k)=(List.range' k n).map (toldF gs l)
 | 0,k,h=>by rw [List.drop_eq_nil_of_le (by omega)]; rfl
 | n+1,k,h=>by
  have hk:k<l.length:=by omega
  have e:l[k]=l.getD k lp0:=by simp [List.getD,hk]
  have ih:=goL_drop gs l n (k+1) (by omega)
  rw [List.drop_eq_getElem_cons hk,goL,List.range'_succ,List.map_cons,e,reset_hist,← ih]
  rfl
theorem told_go (gs:List Ag) (l:List Lp):toldL gs l=goL gs [] l:=by
 have:=goL_drop gs l l.length 0 (by omega)
 unfold toldL
 rw [List.range_eq_range',← this]
 rfl

/-! ### Some of them -/
def goF (P:Lp→Bool) (gs:List Ag):List Lp→List Lp→List Zp
 | _,[]=>[]
 | h,x :: r=>if P x=true then (x.2.2 ++ gs.map (fun g=>winT g (resetL h x) x),1) :: goF P gs (x :: resetL h x) r else goF P gs (x :: resetL h x) r
theorem goF_filter {P:Lp→Bool} {Q:Zp→Bool} {gs:List Ag}:∀ (l h:List Lp),(∀ x ∈ l,∀ t,Q (x.2.2 ++ t,1)=P x)→goF P gs h l=(goL gs h l).filter Q
 | [],h,_=>rfl
 | x :: r,h,hq=>by
  have ih:=goF_filter (gs:=gs) r (x :: resetL h x) fun y hy=>hq y (by simp [hy])
  rw [goF,goL,List.filter_cons,hq x (by simp),ih]
def keepP (P:Lp→Bool):List Lp→List Lp
 | []=>[]
 | q :: h=>if P q=true then q :: h else []
theorem StL.part {x y:Lp} (h:StL x y):cmpL x.1 y.1≤0:=by
 unfold StL cfP at h
 by_cases e:cmpL x.1 y.1=0
 ·omega
 ·rw [if_neg e] at h; omega
theorem go_filter {P:Lp→Bool} {S:Lp→Prop} {gs:List Ag} (hsame:∀ x y,S x→S y→P x=true→P y=true→cmpL x.1 y.1=0) (hresp:∀ x y,S x→S y→cmpL x.1 y.1=0→P x=P y) :
  ∀ (l h:List Lp),(∀ x ∈ l,S x)→(∀ q ∈ h.head?,S q∧∀ x ∈ l,StL q x)→l.Pairwise StL→goL gs (keepP P h) (l.filter P)=goF P gs h l
 | [],h,_,_,_=>rfl
 | x :: r,h,hS,hh,hp=>by
  obtain ⟨hp1,hp2⟩:=List.pairwise_cons.1 hp
  have sx:=hS x (by simp)
  have ih:=go_filter (gs:=gs) hsame hresp r (x :: resetL h x) (fun y hy=>hS y (by simp [hy])) (fun q hq=>by simp at hq; subst hq; exact ⟨sx,hp1⟩) hp2
  by_cases px:P x=true
  ·have e:resetL (keepP P h) x=resetL h x:=by
    cases h with
    | nil=>rfl
    | cons q t =>
     by_cases pq:P q=true
     ·rw [keepP,if_pos pq]
     ·rw [keepP,if_neg pq]
      have:¬ cmpL q.1 x.1=0:=fun c=>pq ((hresp q x (hh q rfl).1 sx c).trans px)
      rw [resetL,resetL,if_neg this]
   rw [List.filter_cons_of_pos px,goL,goF,if_pos px,e,← ih,keepP,if_pos px]
  ·rw [List.filter_cons_of_neg px,goF,if_neg px,← ih]
   have e1:keepP P (x :: resetL h x) = []:=by rw [keepP,if_neg px]
   rw [e1]
   cases h with
   | nil=>rfl
   | cons q t =>
    by_cases pq:P q=true
    ·obtain ⟨sq,hq⟩:=hh q rfl
     have:r.filter P = []:=by
      rw [List.filter_eq_nil_iff]
      intro y hy py
      have c1:=(hq x (by simp)).part
      have c2:=(hp1 y hy).part
      have c3:=hsame q y sq (hS y (by simp [hy])) pq py
      have c4:=cmpL_left c3 x.1
      have c5:=cmpL_neg x.1 y.1
      exact px ((hresp q x sq sx (by omega)).symm.trans pq)
     rw [this]; rfl
    ·rw [keepP,if_neg pq]

/-! ### Bare rows -/
def bL (x:Lp):Lp:=(x.1,x.2.1,bareL x.2.2)
def bZ (y:Zp):Zp:=(bareL y.1,y.2)
theorem reset_b (h:List Lp) (x:Lp):resetL (h.map bL) (bL x)=(resetL h x).map bL:=by
 cases h with
 | nil=>rfl
 | cons q t =>
  show (if cmpL q.1 x.1=0 then _ else _)=(if cmpL q.1 x.1=0 then _ else _:List Lp).map bL
  split <;> rfl
theorem newR_b (h:List Lp) (x:Lp):newR (h.map bL) (bL x)=newR h x:=by cases h <;> rfl
theorem rkS_b:∀ h:List Lp,rkS (h.map bL)=rkS h
 | []=>rfl
 | p :: r=>by rw [List.map_cons,rkS,rkS,newR_b,rkS_b r,List.length_map]
theorem dnS_b:∀ h:List Lp,dnS (h.map bL)=dnS h
 | []=>rfl
 | p :: r=>by rw [List.map_cons,dnS,dnS,newR_b,dnS_b r]
theorem valX_b (r:List Vl) (x:Ex):valX (bareL r) x=valX r x:=valX_same (by rw [cmpL_bare]; exact cmpL_refl _) x
theorem smN_b (x:Ex):∀ h:List Lp,smN (fun row=>valX row x) (h.map bL)=smN (fun row=>valX row x) h
 | []=>rfl
 | p :: r=>by
  rw [List.map_cons,smN,smN,smN_b x r]
  show (if (valX (bareL p.2.2) x).1=1 then _ else _+(valX (bareL p.2.2) x).2.1)=_
  rw [valX_b]
theorem smK_b (x:Ex):∀ h:List Lp,smK (fun row=>valX row x) (h.map bL)=smK (fun row=>valX row x) h
 | []=>rfl
 | p :: r=>by
  rw [List.map_cons,smK,smK,smK_b x r]
  show (if (valX (bareL p.2.2) x).1=1 then _ else _)=_
  rw [valX_b]
theorem winT_b (g:Ag) (h:List Lp) (x:Lp):winT g (h.map bL) (bL x)=winT g h x:=by
 unfold winT
 split
 ·unfold tRow; rw [List.length_map]
 ·split
  ·unfold tRank; rw [← List.map_cons,rkS_b]
  ·split
   ·unfold tDense; rw [← List.map_cons,dnS_b]
   ·split
    ·unfold tSum; rw [← List.map_cons,smK_b,smN_b]
    ·cases h with
     | nil=>rfl
     | cons q t=>exact valX_b _ _
theorem go_b (gs:List Ag):∀ l h:List Lp,(goL gs (h.map bL) (l.map bL)).map bZ=(goL gs h l).map bZ
 | [],h=>rfl
 | x :: r,h=>by
  have ih:=go_b gs r (x :: resetL h x)
  rw [List.map_cons] at ih
  rw [List.map_cons,goL,goL,reset_b,List.map_cons,List.map_cons,ih]
  congr 1
  unfold bZ
  simp only [winT_b]
  show (bareL (bareL x.2.2 ++ _),_)=(bareL (x.2.2 ++ _),_)
  rw [show bareL (bareL x.2.2 ++ gs.map fun g=>winT g (resetL h x) x)=bareL (x.2.2 ++ gs.map fun g=>winT g (resetL h x) x) by unfold bareL; rw [List.map_append,List.map_append]; congr 1; exact bareL_idem _]
theorem wt_b (q:List Vl):∀ l:List Zp,wt (l.map bZ) q=wt l q
 | []=>rfl
 | y :: r=>by
  rw [List.map_cons,wt,wt,wt_b q r]
  show (if cmpL (bareL y.1) q=0 then _ else _)+_=_
  rw [cmpL_bare]; rfl
theorem canon_b {a b:List Zp} (h:a.map bZ=b.map bZ):canon a=canon b:=canon_congr fun q=>by rw [← wt_b q a,← wt_b q b,h]
theorem with_b (ps os:List Ex):∀ z:List Zp,withL ps os (z.map bZ)=(withL ps os z).map bL
 | []=>rfl
 | p :: r=>by
  have ih:=with_b ps os r
  unfold withL at *
  rw [List.map_cons,List.flatMap_cons,List.flatMap_cons,List.map_append,ih,List.map_replicate]
  have e:∀ xs:List Ex,rowX xs (bareL p.1)=rowX xs p.1:=fun xs=>rowX_same (by rw [cmpL_bare]; exact cmpL_refl _) xs
  show List.replicate p.2.toNat (rowX ps (bareL p.1),rowX os (bareL p.1),bareL p.1) ++ _=_
  rw [e,e]; rfl
theorem stL_b (x y:Lp):StL (bL x) (bL y)↔StL x y:=by
 unfold StL
 show cfP x y<0∨(cfP x y=0∧cmpL (bareL x.2.2) (bareL y.2.2)≤0)↔_
 rw [cmpL_bare,cmpL_bareR]
theorem ins_b (x:Lp):∀ l:List Lp,insL (bL x) (l.map bL)=(insL x l).map bL
 | []=>rfl
 | y :: r=>by
  rw [List.map_cons,insL,insL,ins_b x r]
  simp only [stL_b]
  split <;> rfl
theorem ord_b:∀ l:List Lp,ordL (l.map bL)=(ordL l).map bL
 | []=>rfl
 | x :: r=>by rw [List.map_cons,ordL,ordL,ord_b r,ins_b]

/-! ### Filters -/
theorem canon_filter (p:List Vl→Bool) (hp:Resp p) (l:List Zp):canon (l.filter fun x=>p x.1)=(canon l).filter fun x=>p x.1:=by
 refine (canon_of ?_ fun q=>?_).symm
 ·have h:=canon_set l
  exact ⟨h.rise.sublist List.filter_sublist,fun x hx=>h.ne x (List.mem_filter.1 hx).1,fun x hx=>h.bare x (List.mem_filter.1 hx).1⟩
 ·rw [wt_filter p hp,wt_filter p hp,canon_wt]
theorem weigh_b:∀ {l:List Zp},(∀ x ∈ l,x.2≠0)→weighL (fun w=>w) l=l.map bZ
 | [],_=>rfl
 | x :: r,h=>by
  rw [weighL,if_neg (h x (by simp)),weigh_b fun y hy=>h y (by simp [hy])]
  rfl
theorem filt_b {cols:List Int} {x:Ex} {z:List Zp} (h:filtE cols x z=0):filtZ cols x z=(filtL x z).map bZ:=by
 obtain ⟨_,hz⟩:=filtE_ok h
 obtain ⟨_,h2,h3⟩:=(wrongZ_iff z).1 hz.set
 have hr:Rise (filtL x z):=h3.sublist List.filter_sublist
 unfold filtZ
 have hn:∀ y ∈ filtL x z,y.2≠0:=fun y hy=>(h2 y (List.mem_filter.1 hy).1).2.1
 rw [if_pos h,canon_rise hr,weigh_b hn]
theorem with_filter (ps os:List Ex) (x:Ex):∀ z:List Zp,withL ps os (filtL x z)=(withL ps os z).filter fun y=>holdsP x y.2.2
 | []=>rfl
 | p :: r=>by
  have ih:=with_filter ps os x r
  unfold withL filtL at *
  rw [List.filter_cons,List.flatMap_cons,List.filter_append,← ih,List.filter_replicate]
  by_cases hp:holdsP x p.1=true
  ·rw [if_pos hp,if_pos hp,List.flatMap_cons]
  ·rw [if_neg hp,if_neg hp]; rfl
theorem line_filter {ps os:List Ex} {x:Ex} {z:List Zp} (hz:Rise z):lineL ps os (filtL x z)=(lineL ps os z).filter fun y=>holdsP x y.2.2:=by
 have hr:Rise (filtL x z):=hz.sublist List.filter_sublist
 refine (lineL_uniq hr ?_ ?_).symm
 ·rw [with_filter]
  exact (ordL_perm _).filter _
 ·exact (ordL_sorted _).filter _

/-! ### One part -/
def kX (key:Int):Ex:=.mk 2 vl0 key []
def isX (key:Int) (v:Vl):Ex:=.mk 6 vl0 0 [kX key,.mk 1 v 0 []]
theorem val_kX (key:Int) (r:List Vl):valX r (kX key)=bareP (r.getD key.toNat vl0):=by simp [kX,valX,nodeV]
theorem holds_is (key:Int) (v:Vl) (r:List Vl):holdsP (isX key v) r=(clsP (eqP (bareP (r.getD key.toNat vl0)) (bareP v)) == some true):=by
 simp [holdsP,isX,kX,valX,valsX,nodeV,twoP]
def PkP (v:Vl) (x:Lp):Bool:=clsP (eqP (x.1.getD 0 vl0) (bareP v)) == some true
theorem PkP_iff {v:Vl} {x:Lp} {a:Vl} (h:x.1 = [a]):PkP v x=true↔tellB a.1 (bareP v).1=true∧cmpP a (bareP v)=0:=by
 unfold PkP eqP eqT
 rw [h]
 show (clsP (tri (if tellB a.1 (bareP v).1=true then some (cmpP a (bareP v) == 0) else none)) == some true)=true↔_
 by_cases t:tellB a.1 (bareP v).1=true
 ·rw [if_pos t]
  by_cases c:cmpP a (bareP v)=0
  ·simp [t,c,clsP,tri,tk,tn,cls]
  ·simp [t,c,clsP,tri,tk,tn,cls]
 ·rw [if_neg t]
  simp [t,clsP,tri,tk,tn,cls]
theorem cmp_one (a b:Vl):cmpL [a] [b]=cmpP a b:=by
 unfold cmpL
 split
 ·rename_i h; rw [h]; rfl
 ·rfl
theorem one_of {x:Lp} (h:x.1.length=1):∃ a,x.1 = [a]:=List.length_eq_one_iff.1 h
theorem PkP_same (v:Vl) (x y:Lp) (hx:x.1.length=1) (hy:y.1.length=1) (px:PkP v x=true) (py:PkP v y=true):cmpL x.1 y.1=0:=by
 obtain ⟨a,ea⟩:=one_of hx
 obtain ⟨b,eb⟩:=one_of hy
 have h1:=((PkP_iff ea).1 px).2
 have h2:=((PkP_iff eb).1 py).2
 rw [← cmp_one] at h1 h2
 have h3:=cmpL_left h1 [b]
 have h4:=cmpL_neg [b] [bareP v]
 rw [ea,eb]; omega
theorem PkP_resp (v:Vl) (x y:Lp) (hx:x.1.length=1) (hy:y.1.length=1) (h:cmpL x.1 y.1=0):PkP v x=PkP v y:=by
 obtain ⟨a,ea⟩:=one_of hx
 obtain ⟨b,eb⟩:=one_of hy
 rw [ea,eb] at h
 have e1:a.1=b.1:=by
  have e:=bareL_of h
  have e:[bareP a] = [bareP b]:=e
  injection e with e
  have:=congrArg Prod.fst e
  exact this
 have e2:=cmpL_left h [bareP v]
 rw [cmp_one,cmp_one] at e2
 rw [Bool.eq_iff_iff,PkP_iff ea,PkP_iff eb,e1,e2]
theorem outW_iff (z:List Zp):outW z=false↔∀ x ∈ z,inW x.2=true:=by
 unfold outW
 rw [List.any_eq_false]
 simp
theorem fit_bareP {cols:List Int} {r:List Vl} (h:FitP cols r):FitP cols (bareL r):=by
 refine ⟨by rw [bareL_length]; exact h.len,fun i hi=>?_⟩
 have hi':i<r.length:=by rwa [bareL_length] at hi
 have e:(bareL r)[i]=bareP r[i]:=by simp [bareL]
 rw [e,wrong_bareX]
 exact h.one i hi'
theorem parts_ok {cols:List Int} {key:Int} {v:Vl} {os:List Ex} {gs:List Ag} {z:List Zp} (hk0:0≤key) (hk1:key<cols.length) (h:windowE cols [kX key] os gs z=0) (hf:filtE cols (isX key v) z=0) :
  windowE cols [kX key] os gs (filtZ cols (isX key v) z)=0∧windowZ cols [kX key] os gs (filtZ cols (isX key v) z)=(windowZ cols [kX key] os gs z).filter fun y=>holdsP (isX key v) y.1:=by
 have hW:=windowE_ok h
 have hz:=hW.hz
 have rise:=((wrongZ_iff z).1 hz.set).2.2
 have hrow:∀ x ∈ lineL [kX key] os z,x.1 = [bareP (x.2.2.getD key.toNat vl0)]∧key.toNat<x.2.2.length:=fun x hx=>by
  have hl:=(fit_rowsL hz x hx).len
  obtain ⟨p,hp,_,rfl⟩:=lineL_mem hx
  refine ⟨?_,by omega⟩
  show [valX p.1 (kX key)]=_
  rw [val_kX]
 have eL:lineL [kX key] os (filtZ cols (isX key v) z)=((lineL [kX key] os z).filter (PkP v)).map bL:=by
  have e:(lineL [kX key] os z).filter (PkP v)=lineL [kX key] os (filtL (isX key v) z):=by
   rw [line_filter rise]
   refine List.filter_congr fun x hx=>?_
   rw [holds_is]
   unfold PkP
   rw [(hrow x hx).1]; rfl
  rw [e,filt_b hf]
  unfold lineL
  rw [with_b,ord_b]
 have eC:canon (toldL gs (lineL [kX key] os (filtZ cols (isX key v) z)))=(canon (toldL gs (lineL [kX key] os z))).filter fun y=>holdsP (isX key v) y.1:=by
  have e1:=canon_b (go_b gs ((lineL [kX key] os z).filter (PkP v)) [])
  rw [List.map_nil] at e1
  have e2:=go_filter (P:=PkP v) (S:=fun x=>x.1.length=1) (gs:=gs) (PkP_same v) (PkP_resp v) (lineL [kX key] os z) [] (fun x hx=>by rw [(hrow x hx).1]; rfl) (by simp) (ordL_sorted _)
  have e2:goL gs [] ((lineL [kX key] os z).filter (PkP v))=_:=e2
  rw [goF_filter (Q:=fun y=>holdsP (isX key v) y.1) _ _ (fun x hx t=>by
   obtain ⟨q1,q2⟩:=hrow x hx
   show holdsP (isX key v) (x.2.2 ++ t)=_
   rw [holds_is]
   unfold PkP
   rw [q1]
   have:(x.2.2 ++ t).getD key.toNat vl0=x.2.2.getD key.toNat vl0:=by
    simp only [List.getD_eq_getElem?_getD,List.getElem?_append_left q2]
   rw [this]; rfl)] at e2
  rw [told_go,eL,e1,e2,← told_go,canon_filter _ (resp_holds _)]
 obtain ⟨g1,g2⟩:=gather_ok hW.he
 have gE:gatherE (toldL gs (lineL [kX key] os (filtZ cols (isX key v) z)))=0:=by
  unfold gatherE
  rw [eC,(outW_iff _).2 fun x hx=>(outW_iff _).1 g1 x (List.mem_filter.1 hx).1,if_neg (by decide),if_neg]
  have:=List.length_filter_le (fun y:Zp=>holdsP (isX key v) y.1) (canon (toldL gs (lineL [kX key] os z)))
  omega
 have hin:inpE cols (filtZ cols (isX key v) z)=0:=by
  rw [inpE_ok]
  have hww:wrongZ (filtZ cols (isX key v) z)=0:=by
   unfold filtZ
   rw [if_pos hf]
   exact wrong_canon (fun x hx=>(((wrongZ_iff z).1 hz.set).2.1 x (List.mem_filter.1 hx).1).1) (filt_gather hz.set _)
  refine ⟨hz.cols8,hww,fun x hx=>?_⟩
  unfold filtZ at hx
  rw [if_pos hf] at hx
  obtain ⟨y,hy,e⟩:=canon_row _ x hx
  rw [e]
  exact fit_bareP (hz.fit y (List.mem_filter.1 hy).1)
 have hcn:cntP (filtZ cols (isX key v) z)≤400:=by
  have e:=congrArg List.length eL
  rw [lineL_len,List.length_map] at e
  have:=List.length_filter_le (PkP v) (lineL [kX key] os z)
  rw [lineL_len] at this
  have:=hW.hc
  omega
 have hE:windowE cols [kX key] os gs (filtZ cols (isX key v) z)=0:=by
  have h8:=hW.h8
  unfold windowE
  rw [if_neg (by omega),hW.hp,if_neg (by simp),hW.ho,if_neg (by simp),hW.hg,if_neg (by simp),hin,if_neg (by simp),if_neg (by omega)]
  exact gE
 exact ⟨hE,by rw [windowZ_eq hE,windowZ_eq h,eC]⟩
end Go.Proofs.YtcnmpiahcnkndaaGreat
/- The document's Equal, of right values. -/
namespace Go.Proofs.YtcnmpiahcnkndaaGreat
open Go.RowKit

set_option maxHeartbeats 400000 in
theorem refEqual_k (k n k' n':Int) (s s':ByteArray) (w:World) (h':(k != k')=true) :
  Calls Tryz.prog 16 #[.agg #[.int .i64 k,.int .i64 n,.string s],.agg #[.int .i64 k',.int .i64 n',.string s']] w fun e w'=>e = .returned (.agg #[.int .i64 1,.int .i64 0,.string ⟨#[]⟩])∧Below w.heap.size w w':=by
 have A0:=((Box.new w (.int .i64 k) (.int .i64 n) (.string s) 38).alloc (.cells #[.int .i64 k',.int .i64 n',.string s'] 38)).alloc (.cells #[.int .i64 0,.int .i64 0,.string ⟨#[]⟩] 38)
 have B0:=(Box.new (w.alloc (.cells #[.int .i64 k,.int .i64 n,.string s] 38)) (.int .i64 k') (.int .i64 n') (.string s') 38).alloc (.cells #[.int .i64 0,.int .i64 0,.string ⟨#[]⟩] 38)
 have R0:=Box.new ((w.alloc (.cells #[.int .i64 k,.int .i64 n,.string s] 38)).alloc (.cells #[.int .i64 k',.int .i64 n',.string s'] 38)) (.int .i64 0) (.int .i64 0) (.string ⟨#[]⟩) 38
 simp only [World.size_alloc] at B0 R0
 go_enter Tryz.func16,Tryz.ntmps16
 go_wp2_with fail
 refine (refNull_any _).mono ?_
 rintro e w1 ⟨rfl,hb1⟩
 have A1:=A0.next hb1
 have B1:=B0.next hb1
 have R1:=R0.next hb1
 have ⟨a0,a1,a2,a3,a4,a5,a6⟩:=A1
 have ⟨b0,b1,b2,b3,b4,b5,b6⟩:=B1
 have ⟨r0,r1,r2,r3,r4,r5,r6⟩:=R1
 go_wp2_with fail
 have z1:=hb1.size
 simp at z1
 exact bodyPost_ret (v:=.agg #[.int .i64 1,.int .i64 0,.string ⟨#[]⟩]) (by simp [results,Tryz.results16,go_sem,r1,r2,r3]) rfl ⟨rfl,below_set3 (below3 hb1) (by omega)⟩

set_option maxHeartbeats 400000 in
theorem refEqual_1 (k n k' n':Int) (s s':ByteArray) (w:World) (h:k=1) (h':k'=1) :
  Calls Tryz.prog 16 #[.agg #[.int .i64 k,.int .i64 n,.string s],.agg #[.int .i64 k',.int .i64 n',.string s']] w fun e w'=>e = .returned (.agg #[.int .i64 1,.int .i64 0,.string ⟨#[]⟩])∧Below w.heap.size w w':=by
 subst h
 subst h'
 have A0:=((Box.new w (.int .i64 1) (.int .i64 n) (.string s) 38).alloc (.cells #[.int .i64 1,.int .i64 n',.string s'] 38)).alloc (.cells #[.int .i64 0,.int .i64 0,.string ⟨#[]⟩] 38)
 have B0:=(Box.new (w.alloc (.cells #[.int .i64 1,.int .i64 n,.string s] 38)) (.int .i64 1) (.int .i64 n') (.string s') 38).alloc (.cells #[.int .i64 0,.int .i64 0,.string ⟨#[]⟩] 38)
 have R0:=Box.new ((w.alloc (.cells #[.int .i64 1,.int .i64 n,.string s] 38)).alloc (.cells #[.int .i64 1,.int .i64 n',.string s'] 38)) (.int .i64 0) (.int .i64 0) (.string ⟨#[]⟩) 38
 simp only [World.size_alloc] at B0 R0
 go_enter Tryz.func16,Tryz.ntmps16
 go_wp2_with fail
 refine (refNull_any _).mono ?_
 rintro e w1 ⟨rfl,hb1⟩
 have A1:=A0.next hb1
 have B1:=B0.next hb1
 have R1:=R0.next hb1
 have ⟨a0,a1,a2,a3,a4,a5,a6⟩:=A1
 have ⟨b0,b1,b2,b3,b4,b5,b6⟩:=B1
 have ⟨r0,r1,r2,r3,r4,r5,r6⟩:=R1
 go_wp2_with fail
 have z1:=hb1.size
 simp at z1
 exact bodyPost_ret (v:=.agg #[.int .i64 1,.int .i64 0,.string ⟨#[]⟩]) (by simp [results,Tryz.results16,go_sem,r1,r2,r3]) rfl ⟨rfl,below_set3 (below3 hb1) (by omega)⟩

set_option maxHeartbeats 400000 in
theorem refEqual_b (k n k' n':Int) (s s':ByteArray) (w:World) (e:k'=k) (h:(k == 1)=false) (k1:1≤k) (k4:k≤4) (b:Bool) (hb:(cmpV k n s k' n' s' == 0)=b) :
  Calls Tryz.prog 16 #[.agg #[.int .i64 k,.int .i64 n,.string s],.agg #[.int .i64 k',.int .i64 n',.string s']] w fun e w'=>e = .returned (.agg #[.int .i64 2,.int .i64 (tn (some b)),.string ⟨#[]⟩])∧Below w.heap.size w w':=by
 subst e
 have A0:=((Box.new w (.int .i64 k') (.int .i64 n) (.string s) 38).alloc (.cells #[.int .i64 k',.int .i64 n',.string s'] 38)).alloc (.cells #[.int .i64 0,.int .i64 0,.string ⟨#[]⟩] 38)
 have B0:=(Box.new (w.alloc (.cells #[.int .i64 k',.int .i64 n,.string s] 38)) (.int .i64 k') (.int .i64 n') (.string s') 38).alloc (.cells #[.int .i64 0,.int .i64 0,.string ⟨#[]⟩] 38)
 have R0:=Box.new ((w.alloc (.cells #[.int .i64 k',.int .i64 n,.string s] 38)).alloc (.cells #[.int .i64 k',.int .i64 n',.string s'] 38)) (.int .i64 0) (.int .i64 0) (.string ⟨#[]⟩) 38
 simp only [World.size_alloc] at B0 R0
 go_enter Tryz.func16,Tryz.ntmps16
 go_wp2_with fail
 refine (refOrder_any _ _ _ _ _ _ _ k1 k4).mono ?_
 rintro e w1 ⟨rfl,hb1⟩
 have A1:=A0.next hb1
 have B1:=B0.next hb1
 have R1:=R0.next hb1
 have ⟨a0,a1,a2,a3,a4,a5,a6⟩:=A1
 have ⟨b0,b1,b2,b3,b4,b5,b6⟩:=B1
 have ⟨r0,r1,r2,r3,r4,r5,r6⟩:=R1
 go_wp2_with fail
 refine (refTruth_any b _).mono ?_
 rintro e w2 ⟨rfl,hb2⟩
 clear a0 a1 a2 a3 a4 a5 a6 b0 b1 b2 b3 b4 b5 b6 r0 r1 r2 r3 r4 r5 r6
 have A2:=A1.next hb2
 have B2:=B1.next hb2
 have R2:=R1.next hb2
 have ⟨a0,a1,a2,a3,a4,a5,a6⟩:=A2
 have ⟨b0,b1,b2,b3,b4,b5,b6⟩:=B2
 have ⟨r0,r1,r2,r3,r4,r5,r6⟩:=R2
 go_wp2_with fail
 have z1:=hb1.size
 have z2:=hb2.size
 simp at z1
 exact bodyPost_ret (v:=.agg #[.int .i64 2,.int .i64 (tn (some b)),.string ⟨#[]⟩]) (by simp [results,Tryz.results16,go_sem,r1,r2,r3]) rfl ⟨rfl,below_set3 ((below3 hb1).trans (hb2.mono (by omega))) (by omega)⟩

theorem refEqual_any (k n k' n':Int) (s s':ByteArray) (w:World) (k1:1≤k) (k4:k≤4) :
  Calls Tryz.prog 16 #[.agg #[.int .i64 k,.int .i64 n,.string s],.agg #[.int .i64 k',.int .i64 n',.string s']] w fun e w'=>e = .returned (.agg #[.int .i64 (tk (eqT k n s k' n' s')),.int .i64 (tn (eqT k n s k' n' s')),.string ⟨#[]⟩])∧Below w.heap.size w w':=by
 by_cases e:k=k'
 ·subst e
  by_cases h:k=1
  ·subst h
   have e:eqT 1 n s 1 n' s'=none:=by simp [eqT,tellB]
   rw [e]; exact refEqual_1 1 n 1 n' s s' w rfl rfl
  ·have e:eqT k n s k n' s'=some (cmpV k n s k n' s' == 0):=by simp [eqT,tellB,h]
   rw [e]
   exact refEqual_b k n k n' s s' w rfl (by simpa using h) k1 k4 _ rfl
 ·have e':eqT k n s k' n' s'=none:=by simp [eqT,tellB,e]
  rw [e']; exact refEqual_k k n k' n' s s' w (by simpa using e)
end Go.Proofs.YtcnmpiahcnkndaaGreat
/- The statements' own small functions: num, col, alive. -/
namespace Go.Proofs.YtcnmpiahcnkndaaGreat
open Go.RowKit Go.Lib Go.Shelf

theorem num_at (n:Int) (w:World) :
  Calls Tryz.prog 18 #[.int .i64 n] w fun e w'=>e = .returned (.agg #[.int .i64 3,.int .i64 n,.string ⟨#[]⟩])∧Below w.heap.size w w':=by
 go_enter Tryz.func18,Tryz.ntmps18
 go_wp2_with fail
 exact bodyPost_ret (v:=.agg #[.int .i64 3,.int .i64 n,.string ⟨#[]⟩]) (by simp [results,Tryz.results18,go_sem]) rfl ⟨rfl,(Below.refl _ _).alloc (Nat.le_refl _) _⟩
theorem col_at (c:Int) (w:World) :
  Calls Tryz.prog 13 #[.int .i64 c] w fun e w'=>e = .returned (exV 2 vl0 c none 0 0)∧Below w.heap.size w w':=by
 go_enter Tryz.func13,Tryz.ntmps13
 go_wp2_with fail
 exact bodyPost_ret (v:=exV 2 vl0 c none 0 0) (by simp [results,Tryz.results13,go_sem,vl0]) rfl ⟨rfl,(Below.refl _ _).alloc (Nat.le_refl _) _⟩
def zB:List Zp:=[([(3,5,⟨#[]⟩)],2),([(3,7,⟨#[]⟩)],1)]
def cB:Ex:=.mk 2 vl0 0 []
def gB:List Ag:=[(1,.mk 0 vl0 0 []),(2,.mk 0 vl0 0 [])]
def rB:List Zp:=[([(3,5,⟨#[]⟩),(3,1,⟨#[]⟩),(3,1,⟨#[]⟩)],1),([(3,5,⟨#[]⟩),(3,2,⟨#[]⟩),(3,1,⟨#[]⟩)],1),([(3,7,⟨#[]⟩),(3,3,⟨#[]⟩),(3,3,⟨#[]⟩)],1)]
set_option maxRecDepth 100000 in
theorem windowE_B:windowE [3] [] [cB] gB zB=0:=by decide +kernel
set_option maxRecDepth 100000 in
theorem windowZ_B:windowZ [3] [] [cB] gB zB=rB:=by decide +kernel
theorem sl_one {W:World} {b:Nat} {v:Vl} (h:Bk W b #[.int .i64 v.1,.int .i64 v.2.1,.string v.2.2] 38):SlAt W (some ⟨b,0,none⟩) [v] :=
 ⟨by unfold maxLen; simp,.inr ⟨b,0,rfl,fun i hi=>by
  match i,hi with
  | 0,_=>exact ⟨h.cell 0 rfl,h.cell 1 rfl,h.cell 2 rfl⟩,h.lt⟩⟩
theorem zs_twoB {W:World} {b a1 a2:Nat} {x1 x2:Int} {r1 r2:List Vl} (h:Bk W b #[.slice (some ⟨a1,0,none⟩) r1.length r1.length,.int .i64 x1,.slice (some ⟨a2,0,none⟩) r2.length r2.length,.int .i64 x2] 33)
  (s1:SlAt W (some ⟨a1,0,none⟩) r1) (s2:SlAt W (some ⟨a2,0,none⟩) r2):ZsAt W (some ⟨b,0,none⟩) [(r1,x1),(r2,x2)]:=by
 refine ⟨by simp [maxLen],.inr ⟨b,0,rfl,h.lt,fun i hi=>?_⟩⟩
 match i,hi with
 | 0,_=>exact ⟨h.cell 1 rfl,_,_,h.cell 0 rfl,s1⟩
 | 1,_=>exact ⟨h.cell 3 rfl,_,_,h.cell 2 rfl,s2⟩
theorem is_one {W:World} {b:Nat} {x:Int} (h:Bk W b #[.int .i64 x] 3):IsAt W.heap.size W (some ⟨b,0,none⟩) [x] :=
 ⟨by unfold maxLen; simp,.inr ⟨b,0,rfl,h.lt,fun i hi=>by
  match i,hi with
  | 0,_=>exact h.cell 0 rfl⟩⟩
/-- One expression without kids in a block. -/
theorem ks_one {W:World} {b:Nat} {k c:Int} {v:Vl} (h:Bk W b #[.int .i64 k,.int .i64 v.1,.int .i64 v.2.1,.string v.2.2,.int .i64 c,.slice none 0 0] 40):KsAt W.heap.size W (some ⟨b,0,none⟩) [.mk k v c []]:=by
 refine .some b 0 _ (fun _=>none) (fun _=>0) h.lt (fun i hi=>?_) (fun i hi=>?_)
 ·match i,hi with
  | 0,_=>exact ⟨h.cell 0 rfl,h.cell 1 rfl,h.cell 2 rfl,h.cell 3 rfl,h.cell 4 rfl,h.cell 5 rfl⟩
 ·match i,hi with
  | 0,_=>exact .nil _
/-- Two wins without kids in a block. -/
theorem ag_two {W:World} {b:Nat} {g1 g2 k1 k2 c1 c2:Int} {v1 v2:Vl} {T:TypeId} (h:Bk W b #[.int .i64 g1,.int .i64 k1,.int .i64 v1.1,.int .i64 v1.2.1,.string v1.2.2,.int .i64 c1,.slice none 0 0,.int .i64 g2,.int .i64 k2,.int .i64 v2.1,.int .i64 v2.2.1,.string v2.2.2,.int .i64 c2,.slice none 0 0] T):AgAt W.heap.size W (some ⟨b,0,none⟩) [(g1,.mk k1 v1 c1 []),(g2,.mk k2 v2 c2 [])]:=by
 refine .inr ⟨b,0,fun _=>none,fun _=>0,rfl,h.lt,fun i hi=>?_⟩
 match i,hi with
 | 0,_=>exact ⟨h.cell 0 rfl,⟨h.cell 1 rfl,h.cell 2 rfl,h.cell 3 rfl,h.cell 4 rfl,h.cell 5 rfl,h.cell 6 rfl⟩,.nil _⟩
 | 1,_=>exact ⟨h.cell 7 rfl,⟨h.cell 8 rfl,h.cell 9 rfl,h.cell 10 rfl,h.cell 11 rfl,h.cell 12 rfl,h.cell 13 rfl⟩,.nil _⟩

set_option maxRecDepth 100000 in
set_option maxHeartbeats 4000000 in
theorem alive15_at (w:World):Calls Tryz.prog 8 #[] w fun e w'=>e = .returned (.bool true)∧Below w.heap.size w w':=by
 go_enter Tryz.func8,Tryz.ntmps8
 go_wp2_with fail
 refine (num_at 5 w).mono ?_
 rintro e w1 ⟨rfl,hb1⟩
 go_wp2_with fail
 have h2:=(Below.refl w1.heap.size w1).alloc (Nat.le_refl _) (.cells #[.int .i64 3,.int .i64 5,.string ⟨#[]⟩] 38)
 have s1:SlAt (w1.alloc (.cells #[.int .i64 3,.int .i64 5,.string ⟨#[]⟩] 38)) (some ⟨w1.heap.size,0,none⟩) [(3,5,⟨#[]⟩)]:=sl_one (Bk.new w1 _ _)
 generalize w1.alloc (.cells #[.int .i64 3,.int .i64 5,.string ⟨#[]⟩] 38)=w2 at *
 have hA:=chain hb1 h2
 refine (num_at 7 w2).mono ?_
 rintro e w3 ⟨rfl,hb3⟩
 have hA:=chain hA hb3
 have s1:=s1.next hb3
 go_wp2_with fail
 have h4:=(Below.refl w3.heap.size w3).alloc (Nat.le_refl _) (.cells #[.int .i64 3,.int .i64 7,.string ⟨#[]⟩] 38)
 have s2:SlAt (w3.alloc (.cells #[.int .i64 3,.int .i64 7,.string ⟨#[]⟩] 38)) (some ⟨w3.heap.size,0,none⟩) [(3,7,⟨#[]⟩)]:=sl_one (Bk.new w3 _ _)
 have s1:=s1.next h4
 have z4:(w3.alloc (.cells #[.int .i64 3,.int .i64 7,.string ⟨#[]⟩] 38)).heap.size=w3.heap.size+1:=by simp
 generalize w3.alloc (.cells #[.int .i64 3,.int .i64 7,.string ⟨#[]⟩] 38)=w4 at *
 have hA:=chain hA h4
 have h5:=(Below.refl w4.heap.size w4).alloc (Nat.le_refl _) (.cells #[.slice (some ⟨w1.heap.size,0,none⟩) 1 1,.int .i64 2,.slice (some ⟨w3.heap.size,0,none⟩) 1 1,.int .i64 1] 33)
 have zs:ZsAt (w4.alloc (.cells #[.slice (some ⟨w1.heap.size,0,none⟩) 1 1,.int .i64 2,.slice (some ⟨w3.heap.size,0,none⟩) 1 1,.int .i64 1] 33)) (some ⟨w4.heap.size,0,none⟩) zB :=
  zs_twoB (Bk.new w4 _ _) (s1.next h5) (s2.next h5)
 have z5:(w4.alloc (.cells #[.slice (some ⟨w1.heap.size,0,none⟩) 1 1,.int .i64 2,.slice (some ⟨w3.heap.size,0,none⟩) 1 1,.int .i64 1] 33)).heap.size=w3.heap.size+2:=by simp [z4]
 rw [z4] at zs
 generalize w4.alloc (.cells #[.slice (some ⟨w1.heap.size,0,none⟩) 1 1,.int .i64 2,.slice (some ⟨w3.heap.size,0,none⟩) 1 1,.int .i64 1] 33)=w5 at *
 have hA:=chain hA h5
 clear s1 s2
 have h6:=(Below.refl w5.heap.size w5).alloc (Nat.le_refl _) (.cells #[.int .i64 3] 3)
 have I6:=Bk.new w5 #[.int .i64 3] 3
 rw [z5] at I6
 have zs:=zs.next h6
 have hA:=chain hA h6
 generalize w5.alloc (.cells #[.int .i64 3] 3)=w6 at *
 refine (col_at 0 w6).mono ?_
 rintro e w7 ⟨rfl,hb7⟩
 have hA:=chain hA hb7
 have zs:=zs.next hb7
 have I7:=I6.next hb7
 unfold exV vl0
 go_wp2_with fail
 have h8:=(Below.refl w7.heap.size w7).alloc (Nat.le_refl _) (.cells #[.int .i64 2,.int .i64 0,.int .i64 0,.string ⟨#[]⟩,.int .i64 0,.slice none 0 0] 40)
 have E8:=Bk.new w7 #[.int .i64 2,.int .i64 0,.int .i64 0,.string ⟨#[]⟩,.int .i64 0,.slice none 0 0] 40
 have z8:(w7.alloc (.cells #[.int .i64 2,.int .i64 0,.int .i64 0,.string ⟨#[]⟩,.int .i64 0,.slice none 0 0] 40)).heap.size=w7.heap.size+1:=by simp
 have zs:=zs.next h8
 have I8:=I7.next h8
 have hA:=chain hA h8
 generalize w7.alloc (.cells #[.int .i64 2,.int .i64 0,.int .i64 0,.string ⟨#[]⟩,.int .i64 0,.slice none 0 0] 40)=w8 at *
 have h9:=(Below.refl w8.heap.size w8).alloc (Nat.le_refl _) (.cells #[.int .i64 1,.int .i64 0,.int .i64 0,.int .i64 0,.string ⟨#[]⟩,.int .i64 0,.slice none 0 0,.int .i64 2,.int .i64 0,.int .i64 0,.int .i64 0,.string ⟨#[]⟩,.int .i64 0,.slice none 0 0] 42)
 have G9:=Bk.new w8 #[.int .i64 1,.int .i64 0,.int .i64 0,.int .i64 0,.string ⟨#[]⟩,.int .i64 0,.slice none 0 0,.int .i64 2,.int .i64 0,.int .i64 0,.int .i64 0,.string ⟨#[]⟩,.int .i64 0,.slice none 0 0] 42
 rw [z8] at G9
 have zs:=zs.next h9
 have I9:=I8.next h9
 have E9:=E8.next h9
 have hA:=chain hA h9
 generalize w8.alloc (.cells #[.int .i64 1,.int .i64 0,.int .i64 0,.int .i64 0,.string ⟨#[]⟩,.int .i64 0,.slice none 0 0,.int .i64 2,.int .i64 0,.int .i64 0,.int .i64 0,.string ⟨#[]⟩,.int .i64 0,.slice none 0 0] 42)=w9 at *
 have con:Calls Tryz.prog 9 #[.slice (some ⟨w3.heap.size+2,0,none⟩) 1 1,.slice none 0 0,.slice (some ⟨w7.heap.size,0,none⟩) 1 1,.slice (some ⟨w7.heap.size+1,0,none⟩) 2 2,.slice (some ⟨w3.heap.size+1,0,none⟩) 2 2] w9 fun e w'=>∃ v,e = .returned (.tuple #[v,.int .i64 (windowE [3] [] [cB] gB zB)])∧OwnZ w9.heap.size w' v (windowZ [3] [] [cB] gB zB)∧Below w9.heap.size w9 w' :=
  window_at [3] [] [cB] gB (by decide) _ 1 none 0 _ 1 _ 2 _ 2 zB w9 (is_one I9) (.nil _) (ks_one (v:=vl0) E9) (ag_two (v1:=vl0) (v2:=vl0) G9) zs
 rw [windowE_B,windowZ_B] at con
 clear zs I9 E9 G9 I8 I7 I6 E8
 refine con.mono ?_
 rintro e w10 ⟨v10,rfl,O10,hb10⟩
 have hA:=chain hA hb10
 obtain ⟨a10,c10,rfl,zf⟩:=O10.zs
 clear con O10
 obtain ⟨b1,o1,e1,l1,q1⟩:=zf.elem (k:=1) (by decide)
 obtain ⟨b2,o2,e2,l2,q2⟩:=zf.elem (k:=2) (by decide)
 subst e1
 have e2':=Option.some.inj e2
 injection e2' with e3 e4
 subst e3 e4
 obtain ⟨_,ar,cr,d1,sr⟩:=q1
 obtain ⟨_,at_,ct,d2,st⟩:=q2
 obtain ⟨bb,oo,rfl,lb,x0,x1,x2⟩:=sr.elem (k:=1) (by decide)
 obtain ⟨bb',oo',e5,lb',y0,y1,y2⟩:=sr.elem (k:=2) (by decide)
 have e5':=Option.some.inj e5
 injection e5' with e6 e7
 subst e6 e7
 obtain ⟨bc,oc,rfl,lc,u0,u1,u2⟩:=st.elem (k:=2) (by decide)
 clear sr st zf e2 e5
 have hl3:rB.length=3:=rfl
 simp only [rB,List.getElem_cons_succ,List.getElem_cons_zero,List.length_cons,List.length_nil] at d1 d2 x0 x1 x2 y0 y1 y2 u0 u1 u2 ⊢
 go_wp2_with fail
 have p1:=past_cell d1
 have p2:=past_cell d2
 have px0:=past_cell x0
 have px1:=past_cell x1
 have px2:=past_cell x2
 have py0:=past_cell y0
 have py1:=past_cell y1
 have py2:=past_cell y2
 have pu0:=past_cell u0
 have pu1:=past_cell u1
 have pu2:=past_cell u2
 haveI:Nonempty (Past w10):=⟨⟨w10,Below.refl _ _⟩⟩
 clear d1 d2 x0 x1 x2 y0 y1 y2 u0 u1 u2
 refine wp_region_past (by kernel_rfl) (by kernel_rfl) ?_
 repeat (go_big_quiet_step (first | (go_at_call 18; exact in_past (num_at _ _))))
 refine wpQuiet_nil ?_
 rintro w11 ⟨⟨v11,hb11⟩,h11⟩
 obtain rfl:w11=v11:=h11
 have hA:=chain hA hb11
 clear p1 p2 px0 px1 px2 py0 py1 py2 pu0 pu1 pu2
 go_wp2_with fail
 go_ret
 exact ⟨rfl,hA⟩
end Go.Proofs.YtcnmpiahcnkndaaGreat
