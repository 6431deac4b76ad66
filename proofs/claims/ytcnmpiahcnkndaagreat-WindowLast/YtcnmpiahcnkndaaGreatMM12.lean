/- Together: HA1, HK1, G9, GA, GB, WindowLast, ZOpen, ZOpen2, XOpen. -/
import Derived.Laws.StructEq
import Derived.Deep.Slices
import Derived.Deep.Strs
import Derived.ProofKit
import Derived.OpenShut
import Derived.ChangeOld
import Derived.Lib.SmallJoins
import Derived.Test.YtcnmpiahcnkndaaGreatMM10
import Derived.Test.YtcnmpiahcnkndaaGreatMM11
import Derived.Test.YtcnmpiahcnkndaaGreatMM5
import Derived.Test.YtcnmpiahcnkndaaGreatMM2
import Derived.Test.YtcnmpiahcnkndaaGreatMM4
/- The statements' own small functions: num, col, alive. -/
namespace Go.Proofs.YtcnmpiahcnkndaaGreat
open Go.RowKit Go.Lib Go.Shelf

theorem num_at (n:Int) (w:World) :
  Calls Tryz.prog 18 #[.int .i64 n] w fun e w'=>e = .returned (.agg #[.int .i64 3,.int .i64 n,.string ⟨#[]⟩])∧Below w.heap.size w w':=by
 go_enter Tryz.func18,Tryz.ntmps18
 go_wp2_with fail
 exact bodyPost_ret (v:=.agg #[.int .i64 3,.int .i64 n,.string ⟨#[]⟩]) (by simp [results,Tryz.results18,go_sem]) rfl ⟨rfl,(Below.refl _ _).alloc (Nat.le_refl _) _⟩
theorem col_at (c:Int) (w:World) :
  Calls Tryz.prog 13 #[.int .i64 c] w fun e w'=>e = .returned (exV 2 vl0 c none 0 0)∧Below w.heap.size w w':=by
 go_enter Tryz.func13,Tryz.ntmps13
 go_wp2_with fail
 exact bodyPost_ret (v:=exV 2 vl0 c none 0 0) (by simp [results,Tryz.results13,go_sem,vl0]) rfl ⟨rfl,(Below.refl _ _).alloc (Nat.le_refl _) _⟩
def zB:List Zp:=[([(3,5,⟨#[]⟩)],2),([(3,7,⟨#[]⟩)],1)]
def cB:Ex:=.mk 2 vl0 0 []
def gB:List Ag:=[(1,.mk 0 vl0 0 []),(2,.mk 0 vl0 0 [])]
def rB:List Zp:=[([(3,5,⟨#[]⟩),(3,1,⟨#[]⟩),(3,1,⟨#[]⟩)],1),([(3,5,⟨#[]⟩),(3,2,⟨#[]⟩),(3,1,⟨#[]⟩)],1),([(3,7,⟨#[]⟩),(3,3,⟨#[]⟩),(3,3,⟨#[]⟩)],1)]
set_option maxRecDepth 100000 in
theorem windowE_B:windowE [3] [] [cB] gB zB=0:=by decide +kernel
set_option maxRecDepth 100000 in
theorem windowZ_B:windowZ [3] [] [cB] gB zB=rB:=by decide +kernel
theorem sl_one {W:World} {b:Nat} {v:Vl} (h:Bk W b #[.int .i64 v.1,.int .i64 v.2.1,.string v.2.2] 38):SlAt W (some ⟨b,0,none⟩) [v] :=
 ⟨by unfold maxLen; simp,.inr ⟨b,0,rfl,fun i hi=>by
  match i,hi with
  | 0,_=>exact ⟨h.cell 0 rfl,h.cell 1 rfl,h.cell 2 rfl⟩,h.lt⟩⟩
theorem zs_twoB {W:World} {b a1 a2:Nat} {x1 x2:Int} {r1 r2:List Vl} (h:Bk W b #[.slice (some ⟨a1,0,none⟩) r1.length r1.length,.int .i64 x1,.slice (some ⟨a2,0,none⟩) r2.length r2.length,.int .i64 x2] 33)
  (s1:SlAt W (some ⟨a1,0,none⟩) r1) (s2:SlAt W (some ⟨a2,0,none⟩) r2):ZsAt W (some ⟨b,0,none⟩) [(r1,x1),(r2,x2)]:=by
 refine ⟨by simp [maxLen],.inr ⟨b,0,rfl,h.lt,fun i hi=>?_⟩⟩
 match i,hi with
 | 0,_=>exact ⟨h.cell 1 rfl,_,_,h.cell 0 rfl,s1⟩
 | 1,_=>exact ⟨h.cell 3 rfl,_,_,h.cell 2 rfl,s2⟩
theorem is_one {W:World} {b:Nat} {x:Int} (h:Bk W b #[.int .i64 x] 3):IsAt W.heap.size W (some ⟨b,0,none⟩) [x] :=
 ⟨by unfold maxLen; simp,.inr ⟨b,0,rfl,h.lt,fun i hi=>by
  match i,hi with
  | 0,_=>exact h.cell 0 rfl⟩⟩
/-- One expression without kids in a block. -/
theorem ks_one {W:World} {b:Nat} {k c:Int} {v:Vl} (h:Bk W b #[.int .i64 k,.int .i64 v.1,.int .i64 v.2.1,.string v.2.2,.int .i64 c,.slice none 0 0] 40):KsAt W.heap.size W (some ⟨b,0,none⟩) [.mk k v c []]:=by
 refine .some b 0 _ (fun _=>none) (fun _=>0) h.lt (fun i hi=>?_) (fun i hi=>?_)
 ·match i,hi with
  | 0,_=>exact ⟨h.cell 0 rfl,h.cell 1 rfl,h.cell 2 rfl,h.cell 3 rfl,h.cell 4 rfl,h.cell 5 rfl⟩
 ·match i,hi with
  | 0,_=>exact .nil _
/-- Two wins without kids in a block. -/
theorem ag_two {W:World} {b:Nat} {g1 g2 k1 k2 c1 c2:Int} {v1 v2:Vl} {T:TypeId} (h:Bk W b #[.int .i64 g1,.int .i64 k1,.int .i64 v1.1,.int .i64 v1.2.1,.string v1.2.2,.int .i64 c1,.slice none 0 0,.int .i64 g2,.int .i64 k2,.int .i64 v2.1,.int .i64 v2.2.1,.string v2.2.2,.int .i64 c2,.slice none 0 0] T):AgAt W.heap.size W (some ⟨b,0,none⟩) [(g1,.mk k1 v1 c1 []),(g2,.mk k2 v2 c2 [])]:=by
 refine .inr ⟨b,0,fun _=>none,fun _=>0,rfl,h.lt,fun i hi=>?_⟩
 match i,hi with
 | 0,_=>exact ⟨h.cell 0 rfl,⟨h.cell 1 rfl,h.cell 2 rfl,h.cell 3 rfl,h.cell 4 rfl,h.cell 5 rfl,h.cell 6 rfl⟩,.nil _⟩
 | 1,_=>exact ⟨h.cell 7 rfl,⟨h.cell 8 rfl,h.cell 9 rfl,h.cell 10 rfl,h.cell 11 rfl,h.cell 12 rfl,h.cell 13 rfl⟩,.nil _⟩

set_option maxRecDepth 100000 in
set_option maxHeartbeats 4000000 in
theorem alive15_at (w:World):Calls Tryz.prog 8 #[] w fun e w'=>e = .returned (.bool true)∧Below w.heap.size w w':=by
 go_enter Tryz.func8,Tryz.ntmps8
 go_wp2_with fail
 refine (num_at 5 w).mono ?_
 rintro e w1 ⟨rfl,hb1⟩
 go_wp2_with fail
 have h2:=(Below.refl w1.heap.size w1).alloc (Nat.le_refl _) (.cells #[.int .i64 3,.int .i64 5,.string ⟨#[]⟩] 38)
 have s1:SlAt (w1.alloc (.cells #[.int .i64 3,.int .i64 5,.string ⟨#[]⟩] 38)) (some ⟨w1.heap.size,0,none⟩) [(3,5,⟨#[]⟩)]:=sl_one (Bk.new w1 _ _)
 generalize w1.alloc (.cells #[.int .i64 3,.int .i64 5,.string ⟨#[]⟩] 38)=w2 at *
 have hA:=chain hb1 h2
 refine (num_at 7 w2).mono ?_
 rintro e w3 ⟨rfl,hb3⟩
 have hA:=chain hA hb3
 have s1:=s1.next hb3
 go_wp2_with fail
 have h4:=(Below.refl w3.heap.size w3).alloc (Nat.le_refl _) (.cells #[.int .i64 3,.int .i64 7,.string ⟨#[]⟩] 38)
 have s2:SlAt (w3.alloc (.cells #[.int .i64 3,.int .i64 7,.string ⟨#[]⟩] 38)) (some ⟨w3.heap.size,0,none⟩) [(3,7,⟨#[]⟩)]:=sl_one (Bk.new w3 _ _)
 have s1:=s1.next h4
 have z4:(w3.alloc (.cells #[.int .i64 3,.int .i64 7,.string ⟨#[]⟩] 38)).heap.size=w3.heap.size+1:=by simp
 generalize w3.alloc (.cells #[.int .i64 3,.int .i64 7,.string ⟨#[]⟩] 38)=w4 at *
 have hA:=chain hA h4
 have h5:=(Below.refl w4.heap.size w4).alloc (Nat.le_refl _) (.cells #[.slice (some ⟨w1.heap.size,0,none⟩) 1 1,.int .i64 2,.slice (some ⟨w3.heap.size,0,none⟩) 1 1,.int .i64 1] 33)
 have zs:ZsAt (w4.alloc (.cells #[.slice (some ⟨w1.heap.size,0,none⟩) 1 1,.int .i64 2,.slice (some ⟨w3.heap.size,0,none⟩) 1 1,.int .i64 1] 33)) (some ⟨w4.heap.size,0,none⟩) zB :=
  zs_twoB (Bk.new w4 _ _) (s1.next h5) (s2.next h5)
 have z5:(w4.alloc (.cells #[.slice (some ⟨w1.heap.size,0,none⟩) 1 1,.int .i64 2,.slice (some ⟨w3.heap.size,0,none⟩) 1 1,.int .i64 1] 33)).heap.size=w3.heap.size+2:=by simp [z4]
 rw [z4] at zs
 generalize w4.alloc (.cells #[.slice (some ⟨w1.heap.size,0,none⟩) 1 1,.int .i64 2,.slice (some ⟨w3.heap.size,0,none⟩) 1 1,.int .i64 1] 33)=w5 at *
 have hA:=chain hA h5
 clear s1 s2
 have h6:=(Below.refl w5.heap.size w5).alloc (Nat.le_refl _) (.cells #[.int .i64 3] 3)
 have I6:=Bk.new w5 #[.int .i64 3] 3
 rw [z5] at I6
 have zs:=zs.next h6
 have hA:=chain hA h6
 generalize w5.alloc (.cells #[.int .i64 3] 3)=w6 at *
 refine (col_at 0 w6).mono ?_
 rintro e w7 ⟨rfl,hb7⟩
 have hA:=chain hA hb7
 have zs:=zs.next hb7
 have I7:=I6.next hb7
 unfold exV vl0
 go_wp2_with fail
 have h8:=(Below.refl w7.heap.size w7).alloc (Nat.le_refl _) (.cells #[.int .i64 2,.int .i64 0,.int .i64 0,.string ⟨#[]⟩,.int .i64 0,.slice none 0 0] 40)
 have E8:=Bk.new w7 #[.int .i64 2,.int .i64 0,.int .i64 0,.string ⟨#[]⟩,.int .i64 0,.slice none 0 0] 40
 have z8:(w7.alloc (.cells #[.int .i64 2,.int .i64 0,.int .i64 0,.string ⟨#[]⟩,.int .i64 0,.slice none 0 0] 40)).heap.size=w7.heap.size+1:=by simp
 have zs:=zs.next h8
 have I8:=I7.next h8
 have hA:=chain hA h8
 generalize w7.alloc (.cells #[.int .i64 2,.int .i64 0,.int .i64 0,.string ⟨#[]⟩,.int .i64 0,.slice none 0 0] 40)=w8 at *
 have h9:=(Below.refl w8.heap.size w8).alloc (Nat.le_refl _) (.cells #[.int .i64 1,.int .i64 0,.int .i64 0,.int .i64 0,.string ⟨#[]⟩,.int .i64 0,.slice none 0 0,.int .i64 2,.int .i64 0,.int .i64 0,.int .i64 0,.string ⟨#[]⟩,.int .i64 0,.slice none 0 0] 42)
 have G9:=Bk.new w8 #[.int .i64 1,.int .i64 0,.int .i64 0,.int .i64 0,.string ⟨#[]⟩,.int .i64 0,.slice none 0 0,.int .i64 2,.int .i64 0,.int .i64 0,.int .i64 0,.string ⟨#[]⟩,.int .i64 0,.slice none 0 0] 42
 rw [z8] at G9
 have zs:=zs.next h9
 have I9:=I8.next h9
 have E9:=E8.next h9
 have hA:=chain hA h9
 generalize w8.alloc (.cells #[.int .i64 1,.int .i64 0,.int .i64 0,.int .i64 0,.string ⟨#[]⟩,.int .i64 0,.slice none 0 0,.int .i64 2,.int .i64 0,.int .i64 0,.int .i64 0,.string ⟨#[]⟩,.int .i64 0,.slice none 0 0] 42)=w9 at *
 have con:Calls Tryz.prog 9 #[.slice (some ⟨w3.heap.size+2,0,none⟩) 1 1,.slice none 0 0,.slice (some ⟨w7.heap.size,0,none⟩) 1 1,.slice (some ⟨w7.heap.size+1,0,none⟩) 2 2,.slice (some ⟨w3.heap.size+1,0,none⟩) 2 2] w9 fun e w'=>∃ v,e = .returned (.tuple #[v,.int .i64 (windowE [3] [] [cB] gB zB)])∧OwnZ w9.heap.size w' v (windowZ [3] [] [cB] gB zB)∧Below w9.heap.size w9 w' :=
  window_at [3] [] [cB] gB (by decide) _ 1 none 0 _ 1 _ 2 _ 2 zB w9 (is_one I9) (.nil _) (ks_one (v:=vl0) E9) (ag_two (v1:=vl0) (v2:=vl0) G9) zs
 rw [windowE_B,windowZ_B] at con
 clear zs I9 E9 G9 I8 I7 I6 E8
 refine con.mono ?_
 rintro e w10 ⟨v10,rfl,O10,hb10⟩
 have hA:=chain hA hb10
 obtain ⟨a10,c10,rfl,zf⟩:=O10.zs
 clear con O10
 obtain ⟨b1,o1,e1,l1,q1⟩:=zf.elem (k:=1) (by decide)
 obtain ⟨b2,o2,e2,l2,q2⟩:=zf.elem (k:=2) (by decide)
 subst e1
 have e2':=Option.some.inj e2
 injection e2' with e3 e4
 subst e3 e4
 obtain ⟨_,ar,cr,d1,sr⟩:=q1
 obtain ⟨_,at_,ct,d2,st⟩:=q2
 obtain ⟨bb,oo,rfl,lb,x0,x1,x2⟩:=sr.elem (k:=1) (by decide)
 obtain ⟨bb',oo',e5,lb',y0,y1,y2⟩:=sr.elem (k:=2) (by decide)
 have e5':=Option.some.inj e5
 injection e5' with e6 e7
 subst e6 e7
 obtain ⟨bc,oc,rfl,lc,u0,u1,u2⟩:=st.elem (k:=2) (by decide)
 clear sr st zf e2 e5
 have hl3:rB.length=3:=rfl
 simp only [rB,List.getElem_cons_succ,List.getElem_cons_zero,List.length_cons,List.length_nil] at d1 d2 x0 x1 x2 y0 y1 y2 u0 u1 u2 ⊢
 go_wp2_with fail
 have p1:=past_cell d1
 have p2:=past_cell d2
 have px0:=past_cell x0
 have px1:=past_cell x1
 have px2:=past_cell x2
 have py0:=past_cell y0
 have py1:=past_cell y1
 have py2:=past_cell y2
 have pu0:=past_cell u0
 have pu1:=past_cell u1
 have pu2:=past_cell u2
 haveI:Nonempty (Past w10):=⟨⟨w10,Below.refl _ _⟩⟩
 clear d1 d2 x0 x1 x2 y0 y1 y2 u0 u1 u2
 refine wp_region_past (by kernel_rfl) (by kernel_rfl) ?_
 repeat (go_big_quiet_step (first | (go_at_call 18; exact in_past (num_at _ _))))
 refine wpQuiet_nil ?_
 rintro w11 ⟨⟨v11,hb11⟩,h11⟩
 obtain rfl:w11=v11:=h11
 have hA:=chain hA hb11
 clear p1 p2 px0 px1 px2 py0 py1 py2 pu0 pu1 pu2
 go_wp2_with fail
 go_ret
 exact ⟨rfl,hA⟩
end Go.Proofs.YtcnmpiahcnkndaaGreat
/- Rows without what windows tell of them; WindowKeeps. -/
namespace Go.Proofs.YtcnmpiahcnkndaaGreat
open Go.RowKit Go.Lib Go.Shelf

/-- Rows with weights, with room for their values. -/
def ZsC (W:World) (a:Option Addr) (l:List Zp):Prop:=l = []∨∃ b off,a=some ⟨b,off,none⟩∧b<W.heap.size∧∀ (i:Nat) (h:i<l.length),W.cell? ⟨b,off+i*2+1,none⟩=some (.int .i64 l[i].2)∧∃ ra rc,W.cell? ⟨b,off+i*2,none⟩=some (.slice ra l[i].1.length rc)∧SlAt W ra l[i].1∧l[i].1.length≤rc
theorem ZsC.next {W w1:World} {a:Option Addr} {l:List Zp} (h:ZsC W a l) (hb:Below W.heap.size W w1):ZsC w1 a l:=by
 rcases h with h | ⟨b,off,e,hlt,hr⟩
 ·exact .inl h
 ·refine .inr ⟨b,off,e,Nat.lt_of_lt_of_le hlt hb.size,fun i hi=>?_⟩
  obtain ⟨h1,ra,rc,h2,h3,h4⟩:=hr i hi
  exact ⟨(hb.cell (p:=⟨b,_,none⟩) hlt).trans h1,ra,rc,(hb.cell (p:=⟨b,_,none⟩) hlt).trans h2,h3.next hb,h4⟩
theorem ZsC.elem {W:World} {a:Option Addr} {l:List Zp} (h:ZsC W a l) {k:Nat} (hk:k<l.length):∃ b off ra rc,a=some ⟨b,off,none⟩∧b<W.heap.size∧W.cell? ⟨b,off+k*2+1,none⟩=some (.int .i64 l[k].2)∧W.cell? ⟨b,off+k*2,none⟩=some (.slice ra l[k].1.length rc)∧SlAt W ra l[k].1∧l[k].1.length≤rc:=by
 rcases h with h | ⟨b,off,e,hlt,hr⟩
 ·subst h; simp at hk
 ·obtain ⟨h1,ra,rc,h2,h3,h4⟩:=hr k hk
  exact ⟨b,off,ra,rc,e,hlt,h1,h2,h3,h4⟩
end Go.Proofs.YtcnmpiahcnkndaaGreat
/- ofSome: of none nothing is known. -/
namespace Go.Proofs.YtcnmpiahcnkndaaGreat
open Go.RowKit Go.Lib Go.Shelf

/-- A function value makes T of what is known, where there is something. -/
def TotN (lo:Nat) (u:Value) (T:List Wp→Vl) (w:World):Prop :=
 ∃ g cb,u = .func (.func g) #[] cb∧(∀ args w,(callFunc g args).run Tryz.prog w = .ok (.enter g args) w) ∧
  ∀ (l:List Wp) (a:Option Addr) (cap:Nat) (W:World),WOk l→0<l.length→WsAt W a l→Since lo w W →
   Calls Tryz.prog g (#[.slice a l.length cap] ++ cb) W fun e w'=>e = .returned (agV (T l))∧Below W.heap.size W w'
theorem TotN.next {lo:Nat} {u:Value} {T:List Wp→Vl} {w w1:World} (h:TotN lo u T w) (hb:Since lo w w1):TotN lo u T w1:=by
 obtain ⟨g,cb,e,eg,hd⟩:=h
 exact ⟨g,cb,e,eg,fun l a cap W hk h0 hs hW=>hd l a cap W hk h0 hs (hb.trans hW)⟩
def someP (T:List Wp→Vl) (l:List Wp):Vl:=if l.length=0 then (1,0,⟨#[]⟩) else T l

set_option maxRecDepth 100000 in
set_option maxHeartbeats 1000000 in
theorem ofSome1_at (lo:Nat) (ut:Value) (T:List Wp→Vl) (tb:Nat) (a:Option Addr) (cap:Nat) (l:List Wp) (W:World) (c0:W.cell? ⟨tb,0,none⟩=some ut) (hT:TotN lo ut T W) (hk:WOk l) (h:WsAt W a l) :
  Calls Tryz.prog 152 #[.slice a l.length cap,.pointer (some ⟨tb,0,none⟩)] W fun e w'=>e = .returned (agV (someP T l))∧Below W.heap.size W w':=by
 have hal:Below W.heap.size W (W.alloc (.cells #[.int .i64 0,.int .i64 0,.string ⟨#[]⟩] 38)):=(Below.refl _ _).alloc (Nat.le_refl _) _
 have q0:=heap_new W #[.int .i64 0,.int .i64 0,.string ⟨#[]⟩] 38
 have ends:∀ w2:World,Below (W.alloc (.cells #[.int .i64 0,.int .i64 0,.string ⟨#[]⟩] 38)).heap.size (W.alloc (.cells #[.int .i64 0,.int .i64 0,.string ⟨#[]⟩] 38)) w2→(w2.cell? ⟨W.heap.size,0,none⟩=some (.int .i64 0)∧w2.cell? ⟨W.heap.size,1,none⟩=some (.int .i64 0)∧w2.cell? ⟨W.heap.size,2,none⟩=some (.string ⟨#[]⟩))∧w2.frozen? ⟨W.heap.size,0,none⟩=false∧w2.frozen? ⟨W.heap.size,1,none⟩=false∧w2.frozen? ⟨W.heap.size,2,none⟩=false:=fun w2 hb2=>by
  have q2:=(hb2.block _ (lt_of_heap q0)).trans q0
  exact ⟨⟨cell_of (i:=0) q2 rfl,cell_of (i:=1) q2 rfl,cell_of (i:=2) q2 rfl⟩,frozen_of_row w2 W.heap.size 0 _ _ q2,frozen_of_row w2 W.heap.size 1 _ _ q2,frozen_of_row w2 W.heap.size 2 _ _ q2⟩
 have HEn:Hid _:=ends
 have d:=(hal.cell (p:=⟨tb,0,none⟩) (World.block_lt_of_cell? _ _ c0)).trans c0
 clear ends
 by_cases h0:l.length=0
 ·have e:someP T l=(1,0,⟨#[]⟩):=by unfold someP; rw [if_pos h0]
  rw [e,h0]
  unfold agV
  clear e d hT
  go_enter Tryz.func152,Tryz.ntmps152
  go_wp2_with fail
  generalize W.alloc (.cells #[.int .i64 0,.int .i64 0,.string ⟨#[]⟩] 38)=w0 at *
  refine (null_any w0).mono ?_
  rintro e w2 ⟨rfl,hb2⟩
  obtain ⟨⟨d0,d1,d2⟩,f0,f1,f2⟩:=HEn.out w2 hb2
  have hA2:=chain hal hb2
  dsimp only
  go_wp2_with fail
  exact bodyPost_ret (v:=.agg #[.int .i64 1,.int .i64 0,.string ⟨#[]⟩]) (by simp [results,Tryz.results152,go_sem,d0,d1,d2]) rfl ⟨rfl,((hA2.setCell (p:=⟨W.heap.size,0,none⟩) (Nat.le_refl _) _).setCell (p:=⟨W.heap.size,1,none⟩) (Nat.le_refl _) _).setCell (p:=⟨W.heap.size,2,none⟩) (Nat.le_refl _) _⟩
 ·have e:someP T l=T l:=by unfold someP; rw [if_neg h0]
  rw [e]
  obtain ⟨gt,ct,rfl,egt,dt⟩:=hT
  have con:=dt l a cap _ hk (by omega) (h.next hal) (Since.of hal)
  have hn:¬ (l.length:Int)=0:=by omega
  have hnb:((l.length:Int) == 0)=false:=by rw [beq_eq_false_iff_ne]; exact hn
  generalize T l=res at *
  unfold agV at con ⊢
  clear e dt h0
  go_enter Tryz.func152,Tryz.ntmps152
  go_wp2_with fail
  generalize W.alloc (.cells #[.int .i64 0,.int .i64 0,.string ⟨#[]⟩] 38)=w0 at *
  go_wp2_with (go_at_fn gt; refine con.mono ?_; rintro e w2 ⟨rfl,hb2⟩; obtain ⟨⟨d0,d1,d2⟩,f0,f1,f2⟩:=HEn.out w2 hb2; have hA2:=chain hal hb2)
  exact bodyPost_ret (v:=.agg #[.int .i64 res.1,.int .i64 res.2.1,.string res.2.2]) (by simp [results,Tryz.results152,go_sem,d0,d1,d2]) rfl ⟨rfl,((hA2.setCell (p:=⟨W.heap.size,0,none⟩) (Nat.le_refl _) _).setCell (p:=⟨W.heap.size,1,none⟩) (Nat.le_refl _) _).setCell (p:=⟨W.heap.size,2,none⟩) (Nat.le_refl _) _⟩

set_option maxHeartbeats 400000 in
theorem ofSome_at (u:Value) (T:List Wp→Vl) (w:World) (hT:TotN w.heap.size u T w) :
  Calls Tryz.prog 112 #[u] w fun e w'=>∃ v,e = .returned v∧TotF w.heap.size v (someP T) w'∧Below w.heap.size w w':=by
 have hT':=hT
 obtain ⟨gt,ct,rfl,_,_⟩:=hT'
 have hal:Below w.heap.size w (w.alloc (.cells #[.func (.func gt) #[] ct] 123)):=(Below.refl _ _).alloc (Nat.le_refl _) _
 have q0:=heap_new w #[.func (.func gt) #[] ct] 123
 have fin:TotF w.heap.size (.func (.func 152) #[] #[.pointer (some ⟨w.heap.size,0,none⟩)]) (someP T) (w.alloc (.cells #[.func (.func gt) #[] ct] 123)) :=
  ⟨152,_,rfl,enters_of Tryz.func152 (by kernel_rfl) rfl,fun l a cap W hk hs hW=>ofSome1_at w.heap.size _ T w.heap.size a cap l W ((hW.cell (p:=⟨w.heap.size,0,none⟩) (Nat.le_refl _) (lt_of_heap q0)).trans (cell_of (i:=0) q0 rfl)) ((hT.next (Since.of hal)).next hW) hk hs⟩
 have HF:Hid _:=fin
 clear fin hT
 go_enter Tryz.func112,Tryz.ntmps112
 go_wp2_with fail
 go_ret
 exact ⟨_,rfl,HF.out,hal⟩
/-- A function makes T of weighed values. -/
def FnTot (g:Nat) (T:List Wp→Vl):Prop:=∀ (l:List Wp) (a:Option Addr) (cap:Nat) (W:World),WOk l→0<l.length→WsAt W a l→Calls Tryz.prog g #[.slice a l.length cap] W fun e w'=>e = .returned (agV (T l))∧Below W.heap.size W w'
theorem FnTot.fn {g:Nat} {T:List Wp→Vl} (h:FnTot g T) (eg:∀ args w,(callFunc g args).run Tryz.prog w = .ok (.enter g args) w) (lo:Nat) (w:World):TotN lo (.func (.func g) #[] #[]) T w :=
 ⟨g,#[],rfl,eg,fun l a cap W hk h0 hs _=>by simpa using h l a cap W hk h0 hs⟩
set_option maxHeartbeats 400000 in
theorem total3_ok (h:FnTot 113 (totP 3)):TotalOk 3:=by
 intro w
 have eT:someP (totP 3)=totP 3:=by
  funext l
  unfold someP
  split
  ·rename_i h0
   have:l = []:=List.eq_nil_of_length_eq_zero h0
   subst this
   simp [totP,sumP]
  ·rfl
 have con:=ofSome_at (.func (.func 113) #[] #[]) (totP 3) w (h.fn (enters_of Tryz.func113 (by kernel_rfl) rfl) _ _)
 rw [eT] at con
 go_enter Tryz.func71,Tryz.ntmps71
 go_wp2_with fail
 refine con.mono ?_
 rintro e w1 ⟨v,rfl,hv,hb⟩
 clear con
 obtain ⟨g,cb,rfl⟩:∃ g cb,v = .func (.func g) #[] cb:=by obtain ⟨g,cb,e,_⟩:=hv; exact ⟨g,cb,e⟩
 dsimp only
 go_wp2_with fail
 go_ret
 exact ⟨_,rfl,hv,hb⟩
set_option maxHeartbeats 400000 in
theorem total4_ok (h:FnTot 114 (totP 4)):TotalOk 4:=by
 intro w
 have eT:someP (totP 4)=totP 4:=by
  funext l
  unfold someP
  split
  ·rename_i h0
   have:l = []:=List.eq_nil_of_length_eq_zero h0
   subst this
   simp [totP,minP]
  ·rfl
 have con:=ofSome_at (.func (.func 114) #[] #[]) (totP 4) w (h.fn (enters_of Tryz.func114 (by kernel_rfl) rfl) _ _)
 rw [eT] at con
 go_enter Tryz.func71,Tryz.ntmps71
 go_wp2_with fail
 refine con.mono ?_
 rintro e w1 ⟨v,rfl,hv,hb⟩
 clear con
 obtain ⟨g,cb,rfl⟩:∃ g cb,v = .func (.func g) #[] cb:=by obtain ⟨g,cb,e,_⟩:=hv; exact ⟨g,cb,e⟩
 dsimp only
 go_wp2_with fail
 go_ret
 exact ⟨_,rfl,hv,hb⟩
set_option maxHeartbeats 400000 in
theorem total5_ok (h:FnTot 115 (totP 5)):TotalOk 5:=by
 intro w
 have eT:someP (totP 5)=totP 5:=by
  funext l
  unfold someP
  split
  ·rename_i h0
   have:l = []:=List.eq_nil_of_length_eq_zero h0
   subst this
   simp [totP,maxP]
  ·rfl
 have con:=ofSome_at (.func (.func 115) #[] #[]) (totP 5) w (h.fn (enters_of Tryz.func115 (by kernel_rfl) rfl) _ _)
 rw [eT] at con
 go_enter Tryz.func71,Tryz.ntmps71
 go_wp2_with fail
 refine con.mono ?_
 rintro e w1 ⟨v,rfl,hv,hb⟩
 clear con
 obtain ⟨g,cb,rfl⟩:∃ g cb,v = .func (.func g) #[] cb:=by obtain ⟨g,cb,e,_⟩:=hv; exact ⟨g,cb,e⟩
 dsimp only
 go_wp2_with fail
 go_ret
 exact ⟨_,rfl,hv,hb⟩
end Go.Proofs.YtcnmpiahcnkndaaGreat
/- least, greatest. -/
namespace Go.Proofs.YtcnmpiahcnkndaaGreat
open Go.RowKit Go.Lib Go.Shelf

set_option maxHeartbeats 400000 in
theorem byValue_at (x y:Wp) (w:World):Calls Tryz.prog 154 #[.agg #[.int .i64 x.1.1,.int .i64 x.1.2.1,.string x.1.2.2,.int .i64 x.2],.agg #[.int .i64 y.1.1,.int .i64 y.1.2.1,.string y.1.2.2,.int .i64 y.2]] w fun e w'=>e = .returned (.int .i64 (cmpV x.1.1 x.1.2.1 x.1.2.2 y.1.1 y.1.2.1 y.1.2.2))∧Below w.heap.size w w':=by
 go_enter Tryz.func154,Tryz.ntmps154
 go_wp2_with fail
 refine (compare_any _ _ _ _ _ _ _).mono ?_
 rintro e w1 ⟨rfl,hb1⟩
 dsimp only
 go_wp2_with fail
 go_ret
 exact ⟨rfl,chain (((Below.refl _ _).alloc (Nat.le_refl _) _).alloc (by simp) _) hb1⟩
theorem field_w (a b c d:Value) (w:World):(Instr.field 154 (.agg #[a,b,c,d]) 0).run Tryz.prog w = .ok (.agg #[a,b,c]) w:=by kernel_rfl
/-- A variable of weighed values: what lies in it. -/
structure VarW (W:World) (b:Nat) (p:Wp):Prop where
 c0:W.cell? ⟨b,0,none⟩=some (.int .i64 p.1.1)
 c1:W.cell? ⟨b,1,none⟩=some (.int .i64 p.1.2.1)
 c2:W.cell? ⟨b,2,none⟩=some (.string p.1.2.2)
 c3:W.cell? ⟨b,3,none⟩=some (.int .i64 p.2)
 f:∀ i,W.frozen? ⟨b,i,none⟩=false
 lt:b<W.heap.size
theorem VarW.next {W w1:World} {b:Nat} {p:Wp} (h:VarW W b p) (hb:Below W.heap.size W w1):VarW w1 b p :=
 ⟨(hb.cell (p:=⟨b,0,none⟩) h.lt).trans h.c0,(hb.cell (p:=⟨b,1,none⟩) h.lt).trans h.c1,(hb.cell (p:=⟨b,2,none⟩) h.lt).trans h.c2,(hb.cell (p:=⟨b,3,none⟩) h.lt).trans h.c3,fun i=>(hb.frozen (p:=⟨b,i,none⟩) h.lt).trans (h.f i),Nat.lt_of_lt_of_le h.lt hb.size⟩
theorem VarW.new (W:World) (p:Wp) (T:TypeId):VarW (W.alloc (.cells #[.int .i64 p.1.1,.int .i64 p.1.2.1,.string p.1.2.2,.int .i64 p.2] T)) W.heap.size p:=by
 have q:=heap_new W #[.int .i64 p.1.1,.int .i64 p.1.2.1,.string p.1.2.2,.int .i64 p.2] T
 exact ⟨cell_of (i:=0) q rfl,cell_of (i:=1) q rfl,cell_of (i:=2) q rfl,cell_of (i:=3) q rfl,fun i=>frozen_of_row _ W.heap.size i _ _ q,lt_of_heap q⟩
theorem VarW.put {W:World} {b:Nat} {p:Wp} (h:VarW W b p) (u:Wp):VarW ((((W.setCell ⟨b,0,none⟩ (.int .i64 u.1.1)).setCell ⟨b,1,none⟩ (.int .i64 u.1.2.1)).setCell ⟨b,2,none⟩ (.string u.1.2.2)).setCell ⟨b,3,none⟩ (.int .i64 u.2)) b u:=by
 refine ⟨?_,?_,?_,?_,fun i=>by rw [World.frozen?_setCell,World.frozen?_setCell,World.frozen?_setCell,World.frozen?_setCell]; exact h.f i,by simpa using h.lt⟩
 ·simp [go_sem,h.c0]
 ·simp [go_sem,h.c1]
 ·simp [go_sem,h.c2]
 ·simp [go_sem,h.c3]
theorem VarW.far {W:World} {b:Nat} {p:Wp} (h:VarW W b p) (g:Nat) (u:Wp) (hn:g≠b):VarW ((((W.setCell ⟨g,0,none⟩ (.int .i64 u.1.1)).setCell ⟨g,1,none⟩ (.int .i64 u.1.2.1)).setCell ⟨g,2,none⟩ (.string u.1.2.2)).setCell ⟨g,3,none⟩ (.int .i64 u.2)) b p:=by
 have key:∀ (X:World) (o o':Nat) (v:Value),(X.setCell ⟨g,o',none⟩ v).cell? ⟨b,o,none⟩=X.cell? ⟨b,o,none⟩:=fun X o o' v=>World.cell?_setCell_other _ _ _ _ (by intro e; injection e with e; exact hn e)
 refine ⟨?_,?_,?_,?_,fun i=>by rw [World.frozen?_setCell,World.frozen?_setCell,World.frozen?_setCell,World.frozen?_setCell]; exact h.f i,by simpa using h.lt⟩
 ·rw [key,key,key,key]; exact h.c0
 ·rw [key,key,key,key]; exact h.c1
 ·rw [key,key,key,key]; exact h.c2
 ·rw [key,key,key,key]; exact h.c3

def minW:List Wp→Wp
 | []=>(vl0,0)
 | p :: r=>r.foldl (fun m x=>if cmpP x.1 m.1<0 then x else m) p
theorem minW_take {l:List Wp} {i:Nat} (h0:0<i) (h:i<l.length):minW (l.take (i+1))=if cmpP l[i].1 (minW (l.take i)).1<0 then l[i] else minW (l.take i):=by
 rw [List.take_succ_eq_append_getElem h]
 match l,i,h0,h with
 | p :: r,i+1,_,h =>
  simp only [List.take_succ_cons,List.cons_append,minW,List.foldl_append,List.foldl_cons,List.foldl_nil]
  rfl
theorem minW_one {l:List Wp} (h:0<l.length):minW (l.take 1)=l[0]:=by
 match l,h with
 | p :: r,_=>rfl
theorem minW_val:∀ (l:List Wp),0<l.length→(minW l).1=minP l
 | p :: r,_=>by
  unfold minW minP
  have aux:∀ (r:List Wp) (p:Wp),(r.foldl (fun m x=>if cmpP x.1 m.1<0 then x else m) p).1=r.foldl (fun m x=>if cmpP x.1 m<0 then x.1 else m) p.1:=by
   intro r
   induction r with
   | nil=>intro p; rfl
   | cons x t ih =>
    intro p
    rw [List.foldl_cons,List.foldl_cons,ih]
    by_cases c:cmpP x.1 p.1<0
    ·rw [if_pos c,if_pos c]
    ·rw [if_neg c,if_neg c]
  exact aux r p

set_option maxRecDepth 100000 in
set_option maxHeartbeats 2000000 in
theorem minFunc_at (g:Nat) (eg:∀ args w,(callFunc g args).run Tryz.prog w = .ok (.enter g args) w) (hd:∀ (x y:Wp) (W:World),Calls Tryz.prog g #[.agg #[.int .i64 x.1.1,.int .i64 x.1.2.1,.string x.1.2.2,.int .i64 x.2],.agg #[.int .i64 y.1.1,.int .i64 y.1.2.1,.string y.1.2.2,.int .i64 y.2]] W fun e w'=>e = .returned (.int .i64 (cmpV x.1.1 x.1.2.1 x.1.2.2 y.1.1 y.1.2.1 y.1.2.2))∧Below W.heap.size W w') (a:Option Addr) (cap:Nat) (l:List Wp) (w:World) (h:WsAt w a l) (h0:0<l.length) (hl:l.length≤400) :
  Calls Tryz.prog 153 #[.slice a l.length cap,.func (.func g) #[] #[]] w fun e w'=>e = .returned (.agg #[.int .i64 (minW l).1.1,.int .i64 (minW l).1.2.1,.string (minW l).1.2.2,.int .i64 (minW l).2])∧Below w.heap.size w w':=by
 have hal:Below w.heap.size w (w.alloc (.cells #[.int .i64 0,.int .i64 0,.string ⟨#[]⟩,.int .i64 0] 154)):=(Below.refl _ _).alloc (Nat.le_refl _) _
 have V0:VarW (w.alloc (.cells #[.int .i64 0,.int .i64 0,.string ⟨#[]⟩,.int .i64 0] 154)) w.heap.size (vl0,0):=VarW.new w (vl0,0) 154
 obtain ⟨b,off,rfl,hbl,c0,c1,c2,c3⟩:=(h.next hal).elem h0
 have z0:(w.alloc (.cells #[.int .i64 0,.int .i64 0,.string ⟨#[]⟩,.int .i64 0] 154)).heap.size > w.heap.size:=by simp
 generalize hres:minW l=res
 have HRes:Hid (minW l=res):=hres
 clear hres
 simp only [Nat.zero_mul,Nat.add_zero] at c0 c1 c2 c3
 have hn1:¬ (l.length:Int)<1:=by omega
 have hp:(0:Int)<(l.length:Int):=by omega
 go_enter Tryz.func153,Tryz.ntmps153
 go_upto_region 3 with fail
 generalize w.alloc (.cells #[.int .i64 0,.int .i64 0,.string ⟨#[]⟩,.int .i64 0] 154)=w0 at *
 have hal1:Below w0.heap.size w0 (w0.alloc (.cells #[.int .i64 l[0].1.1,.int .i64 l[0].1.2.1,.string l[0].1.2.2,.int .i64 l[0].2] 154)):=(Below.refl _ _).alloc (Nat.le_refl _) _
 have V1:VarW (w0.alloc (.cells #[.int .i64 l[0].1.1,.int .i64 l[0].1.2.1,.string l[0].1.2.2,.int .i64 l[0].2] 154)) w0.heap.size l[0]:=VarW.new w0 l[0] 154
 have V0':=V0.next hal1
 go_upto_region 4 with fail
 clear c0 c1 c2 c3 V0
 have hA1:=chain hal hal1
 generalize w0.alloc (.cells #[.int .i64 l[0].1.1,.int .i64 l[0].1.2.1,.string l[0].1.2.2,.int .i64 l[0].2] 154)=w1 at *
 go_wp2_with fail
 go_loopw [6] (fun i wr=>∃ (k:Nat) (mv:Wp),0<k∧k≤l.length∧i = .int .i64 k∧VarW wr w0.heap.size mv∧VarW wr w.heap.size (vl0,0)∧Hid (mv=minW (l.take k))∧Below w.heap.size w wr) (fun i _=>l.length - (intOf i).toNat)
 case atStart=>exact ⟨1,l[0],by omega,by omega,rfl,V1,V0',(minW_one h0).symm,hA1⟩
 case round =>
  clear V1 V0' hA1 hal1
  obtain ⟨k,mv,hk0,hk,rfl,VM,VR,HM,hb⟩:=hrel
  by_cases hlt:k<l.length
  ·obtain ⟨b',off',e',hbl',c0,c1,c2,c3⟩:=(h.next hb).elem hlt
   have HT:Hid (minW (l.take (k+1))=if cmpP l[k].1 (minW (l.take k)).1<0 then l[k] else minW (l.take k)):=minW_take hk0 hlt
   injection e' with e'
   injection e' with e1 e2 _
   subst e1 e2
   have k0:(0:Int)≤(k:Int):=by omega
   have k1:(k:Int)<(l.length:Int):=by omega
   clear c0 c1 c2 c3
   have hCC:∀ W W':World,(WsAt W (some ⟨b,off,none⟩) l∧VarW W w0.heap.size mv)→Below W.heap.size W W'→(WsAt W' (some ⟨b,off,none⟩) l∧VarW W' w0.heap.size mv):=fun W W' h hb=>⟨h.1.next hb,h.2.next hb⟩
   have hdr:Below wr.heap.size wr wr.drew:=(Below.refl _ _).drew
   have CW:(WsAt wr.drew (some ⟨b,off,none⟩) l∧VarW wr.drew w0.heap.size mv):=hCC _ _ ⟨h.next hb,VM⟩ hdr
   go_upto_region 7 with fail
   refine wp_region_cls (fun W=>(WsAt W (some ⟨b,off,none⟩) l∧VarW W w0.heap.size mv)) (by kernel_rfl) ?_
   refine wpY_take hCC (some 20) (i:=0) (v:=.func (.func g) #[] #[]) rfl rfl (by kernel_rfl) (by kernel_rfl) (by kernel_rfl) (fun _ _ _ h=>h) (Or.inl ⟨rfl,fun n hn=>?_⟩) CW ?_
   ·go_simp
   simp only [Act.put,pA,pB,pC]
   refine wpY_take hCC (some 21) (i:=1) (v:=.slice (some ⟨b,off,none⟩) l.length cap) rfl rfl (by kernel_rfl) (by kernel_rfl) (by kernel_rfl) (fun _ _ _ h=>h) (Or.inl ⟨rfl,fun n hn=>?_⟩) CW ?_
   ·go_simp
   simp only [Act.put,pA,pB,pC]
   refine wpY_take hCC (some 22) (i:=2) (v:=.int .i64 (k:Int)) rfl rfl (by kernel_rfl) (by kernel_rfl) (by kernel_rfl) (fun _ _ _ h=>h) (Or.inl ⟨rfl,fun n hn=>?_⟩) CW ?_
   ·go_simp
   simp only [Act.put,pA,pB,pC]
   refine wpY_take hCC (some 23) (i:=3) (v:=.pointer (some ⟨b,off+k*4,none⟩)) rfl rfl (by kernel_rfl) (by kernel_rfl) (by kernel_rfl) (fun _ _ _ h=>h) (Or.inl ⟨rfl,fun n hn=>?_⟩) CW ?_
   ·go_simp
   simp only [Act.put,pA,pB,pC]
   refine wpY_take hCC (some 24) (i:=4) (v:=.agg #[.int .i64 l[k].1.1,.int .i64 l[k].1.2.1,.string l[k].1.2.2,.int .i64 l[k].2]) rfl rfl (by kernel_rfl) (by kernel_rfl) (by kernel_rfl) (fun _ _ _ h=>h) (Or.inl ⟨rfl,fun n hn=>?_⟩) CW ?_
   ·obtain ⟨b2,off2,e2,_,d0,d1,d2,d3⟩:=hn.1.elem hlt
    injection e2 with e2
    injection e2 with e21 e22 _
    subst e21 e22
    go_simp
   simp only [Act.put,pA,pB,pC]
   refine wpY_take hCC (some 25) (i:=5) (v:=.agg #[.int .i64 mv.1.1,.int .i64 mv.1.2.1,.string mv.1.2.2,.int .i64 mv.2]) rfl rfl (by kernel_rfl) (by kernel_rfl) (by kernel_rfl) (fun _ _ _ h=>h) (Or.inl ⟨rfl,fun n hn=>?_⟩) CW ?_
   ·obtain ⟨n0,n1,n2,n3,_,_⟩:=hn.2
    go_simp
   simp only [Act.put,pA,pB,pC]
   refine wpY_step (rs:=[6]) (by kernel_rfl) (by simp) ?_
   intro w3 hb3 jj hj
   obtain rfl:jj=6:=by simpa using hj
   clear hj
   have CW3:=hCC _ _ CW hb3
   have con:=hd l[k] mv w3
   generalize hcm:cmpV l[k].1.1 l[k].1.2.1 l[k].1.2.2 mv.1.1 mv.1.2.1 mv.1.2.2=cm at con
   have HCm:Hid (cmpP l[k].1 mv.1=cm):=hcm
   clear hcm
   refine wpOp_step rfl (fun K hK=>?_)
   go_simp
   first | (refine con.mono ?_) | (go_at_fn g; refine con.mono ?_)
   rintro e w4 ⟨rfl,hb4⟩
   clear con
   have CW4:=hCC _ _ CW3 hb4
   refine hK _ _ ⟨CW4,?_⟩
   clear hK K CW3
   refine wpY_take hCC (some 27) (i:=7) (v:=.bool (decide (cm<0))) rfl rfl (by kernel_rfl) (by kernel_rfl) (by kernel_rfl) (fun _ _ _ h=>h) (Or.inl ⟨rfl,fun n hn=>?_⟩) CW4 ?_
   ·go_simp
   simp only [Act.put,pA,pB,pC]
   refine wpY_done (by kernel_rfl) ?_
   intro w7 hb7
   have D7:=chain hdr (chain hb3 (chain hb4 hb7))
   have hB7:=chain hb D7
   obtain ⟨S7,VM7⟩:=hCC _ _ CW4 hb7
   have VR7:=VR.next D7
   clear CW CW4 hCC hb3 hb4 hb7 VM VR
   by_cases hc:cm<0
   ·have hg:decide (cm<0)=true:=decide_eq_true hc
    rw [hg]
    have HM':Hid (l[k]=minW (l.take (k+1))):=by show _=_; rw [HT.out,← HM.out,HCm.out,if_pos hc]
    obtain ⟨b2,off2,e2,_,d0,d1,d2,d3⟩:=S7.elem hlt
    injection e2 with e2
    injection e2 with e21 e22 _
    subst e21 e22
    have VS:=VM7.put l[k]
    have VRS:=VR7.far w0.heap.size l[k] (by omega)
    obtain ⟨n0,n1,n2,n3,nf,nl⟩:=VM7
    have nf0:=nf 0
    have nf1:=nf 1
    have nf2:=nf 2
    have nf3:=nf 3
    clear hc HM D7
    go_wp2_with fail
    go_roundw
    case rel=>exact ⟨k+1,l[k],by omega,by omega,by go_num,VS,VRS,HM',(((hB7.setCell (p:=⟨w0.heap.size,0,none⟩) (by show _≤w0.heap.size; omega) _).setCell (p:=⟨w0.heap.size,1,none⟩) (by show _≤w0.heap.size; omega) _).setCell (p:=⟨w0.heap.size,2,none⟩) (by show _≤w0.heap.size; omega) _).setCell (p:=⟨w0.heap.size,3,none⟩) (by show _≤w0.heap.size; omega) _⟩
    case measure=>simp [intOf]; omega
   ·have hg:decide (cm<0)=false:=decide_eq_false hc
    rw [hg]
    have HM':Hid (mv=minW (l.take (k+1))):=by show _=_; rw [HT.out,← HM.out,HCm.out,if_neg hc]
    clear hc HM D7 S7
    go_wp2_with fail
    go_roundw
    case rel=>exact ⟨k+1,mv,by omega,by omega,by go_num,VM7,VR7,HM',hB7⟩
    case measure=>simp [intOf]; omega
  ·have e:k=l.length:=by omega
   subst e
   have er:mv=res:=by rw [HM.out,List.take_length,HRes.out]
   subst er
   obtain ⟨m0,m1,m2,m3,_,_⟩:=VM
   have VS:=VR.put mv
   obtain ⟨n0,n1,n2,n3,nf,nl⟩:=VR
   have nf0:=nf 0
   have nf1:=nf 1
   have nf2:=nf 2
   have nf3:=nf 3
   obtain ⟨s0,s1,s2,s3,_,_⟩:=VS
   clear HM
   go_wp2_with fail
   exact bodyPost_ret (v:=.agg #[.int .i64 mv.1.1,.int .i64 mv.1.2.1,.string mv.1.2.2,.int .i64 mv.2]) (by simp [results,Tryz.results153,go_sem,s0,s1,s2,s3]) rfl ⟨rfl,(((hb.setCell (p:=⟨w.heap.size,0,none⟩) (Nat.le_refl _) _).setCell (p:=⟨w.heap.size,1,none⟩) (Nat.le_refl _) _).setCell (p:=⟨w.heap.size,2,none⟩) (Nat.le_refl _) _).setCell (p:=⟨w.heap.size,3,none⟩) (Nat.le_refl _) _⟩

def maxW:List Wp→Wp
 | []=>(vl0,0)
 | p :: r=>r.foldl (fun m x=>if 0<cmpP x.1 m.1 then x else m) p
theorem maxW_take {l:List Wp} {i:Nat} (h0:0<i) (h:i<l.length):maxW (l.take (i+1))=if 0<cmpP l[i].1 (maxW (l.take i)).1 then l[i] else maxW (l.take i):=by
 rw [List.take_succ_eq_append_getElem h]
 match l,i,h0,h with
 | p :: r,i+1,_,h =>
  simp only [List.take_succ_cons,List.cons_append,maxW,List.foldl_append,List.foldl_cons,List.foldl_nil]
  rfl
theorem maxW_one {l:List Wp} (h:0<l.length):maxW (l.take 1)=l[0]:=by
 match l,h with
 | p :: r,_=>rfl
theorem maxW_val:∀ (l:List Wp),0<l.length→(maxW l).1=maxP l
 | p :: r,_=>by
  unfold maxW maxP
  have aux:∀ (r:List Wp) (p:Wp),(r.foldl (fun m x=>if 0<cmpP x.1 m.1 then x else m) p).1=r.foldl (fun m x=>if 0<cmpP x.1 m then x.1 else m) p.1:=by
   intro r
   induction r with
   | nil=>intro p; rfl
   | cons x t ih =>
    intro p
    rw [List.foldl_cons,List.foldl_cons,ih]
    by_cases c:0<cmpP x.1 p.1
    ·rw [if_pos c,if_pos c]
    ·rw [if_neg c,if_neg c]
  exact aux r p

set_option maxRecDepth 100000 in
set_option maxHeartbeats 2000000 in
theorem maxFunc_at (g:Nat) (eg:∀ args w,(callFunc g args).run Tryz.prog w = .ok (.enter g args) w) (hd:∀ (x y:Wp) (W:World),Calls Tryz.prog g #[.agg #[.int .i64 x.1.1,.int .i64 x.1.2.1,.string x.1.2.2,.int .i64 x.2],.agg #[.int .i64 y.1.1,.int .i64 y.1.2.1,.string y.1.2.2,.int .i64 y.2]] W fun e w'=>e = .returned (.int .i64 (cmpV x.1.1 x.1.2.1 x.1.2.2 y.1.1 y.1.2.1 y.1.2.2))∧Below W.heap.size W w') (a:Option Addr) (cap:Nat) (l:List Wp) (w:World) (h:WsAt w a l) (h0:0<l.length) (hl:l.length≤400) :
  Calls Tryz.prog 155 #[.slice a l.length cap,.func (.func g) #[] #[]] w fun e w'=>e = .returned (.agg #[.int .i64 (maxW l).1.1,.int .i64 (maxW l).1.2.1,.string (maxW l).1.2.2,.int .i64 (maxW l).2])∧Below w.heap.size w w':=by
 have hal:Below w.heap.size w (w.alloc (.cells #[.int .i64 0,.int .i64 0,.string ⟨#[]⟩,.int .i64 0] 154)):=(Below.refl _ _).alloc (Nat.le_refl _) _
 have V0:VarW (w.alloc (.cells #[.int .i64 0,.int .i64 0,.string ⟨#[]⟩,.int .i64 0] 154)) w.heap.size (vl0,0):=VarW.new w (vl0,0) 154
 obtain ⟨b,off,rfl,hbl,c0,c1,c2,c3⟩:=(h.next hal).elem h0
 have z0:(w.alloc (.cells #[.int .i64 0,.int .i64 0,.string ⟨#[]⟩,.int .i64 0] 154)).heap.size > w.heap.size:=by simp
 generalize hres:maxW l=res
 have HRes:Hid (maxW l=res):=hres
 clear hres
 simp only [Nat.zero_mul,Nat.add_zero] at c0 c1 c2 c3
 have hn1:¬ (l.length:Int)<1:=by omega
 have hp:(0:Int)<(l.length:Int):=by omega
 go_enter Tryz.func155,Tryz.ntmps155
 go_upto_region 3 with fail
 generalize w.alloc (.cells #[.int .i64 0,.int .i64 0,.string ⟨#[]⟩,.int .i64 0] 154)=w0 at *
 have hal1:Below w0.heap.size w0 (w0.alloc (.cells #[.int .i64 l[0].1.1,.int .i64 l[0].1.2.1,.string l[0].1.2.2,.int .i64 l[0].2] 154)):=(Below.refl _ _).alloc (Nat.le_refl _) _
 have V1:VarW (w0.alloc (.cells #[.int .i64 l[0].1.1,.int .i64 l[0].1.2.1,.string l[0].1.2.2,.int .i64 l[0].2] 154)) w0.heap.size l[0]:=VarW.new w0 l[0] 154
 have V0':=V0.next hal1
 go_upto_region 4 with fail
 clear c0 c1 c2 c3 V0
 have hA1:=chain hal hal1
 generalize w0.alloc (.cells #[.int .i64 l[0].1.1,.int .i64 l[0].1.2.1,.string l[0].1.2.2,.int .i64 l[0].2] 154)=w1 at *
 go_wp2_with fail
 go_loopw [6] (fun i wr=>∃ (k:Nat) (mv:Wp),0<k∧k≤l.length∧i = .int .i64 k∧VarW wr w0.heap.size mv∧VarW wr w.heap.size (vl0,0)∧Hid (mv=maxW (l.take k))∧Below w.heap.size w wr) (fun i _=>l.length - (intOf i).toNat)
 case atStart=>exact ⟨1,l[0],by omega,by omega,rfl,V1,V0',(maxW_one h0).symm,hA1⟩
 case round =>
  clear V1 V0' hA1 hal1
  obtain ⟨k,mv,hk0,hk,rfl,VM,VR,HM,hb⟩:=hrel
  by_cases hlt:k<l.length
  ·obtain ⟨b',off',e',hbl',c0,c1,c2,c3⟩:=(h.next hb).elem hlt
   have HT:Hid (maxW (l.take (k+1))=if 0<cmpP l[k].1 (maxW (l.take k)).1 then l[k] else maxW (l.take k)):=maxW_take hk0 hlt
   injection e' with e'
   injection e' with e1 e2 _
   subst e1 e2
   have k0:(0:Int)≤(k:Int):=by omega
   have k1:(k:Int)<(l.length:Int):=by omega
   clear c0 c1 c2 c3
   have hCC:∀ W W':World,(WsAt W (some ⟨b,off,none⟩) l∧VarW W w0.heap.size mv)→Below W.heap.size W W'→(WsAt W' (some ⟨b,off,none⟩) l∧VarW W' w0.heap.size mv):=fun W W' h hb=>⟨h.1.next hb,h.2.next hb⟩
   have hdr:Below wr.heap.size wr wr.drew:=(Below.refl _ _).drew
   have CW:(WsAt wr.drew (some ⟨b,off,none⟩) l∧VarW wr.drew w0.heap.size mv):=hCC _ _ ⟨h.next hb,VM⟩ hdr
   go_upto_region 7 with fail
   refine wp_region_cls (fun W=>(WsAt W (some ⟨b,off,none⟩) l∧VarW W w0.heap.size mv)) (by kernel_rfl) ?_
   refine wpY_take hCC (some 20) (i:=0) (v:=.func (.func g) #[] #[]) rfl rfl (by kernel_rfl) (by kernel_rfl) (by kernel_rfl) (fun _ _ _ h=>h) (Or.inl ⟨rfl,fun n hn=>?_⟩) CW ?_
   ·go_simp
   simp only [Act.put,pA,pB,pC]
   refine wpY_take hCC (some 21) (i:=1) (v:=.slice (some ⟨b,off,none⟩) l.length cap) rfl rfl (by kernel_rfl) (by kernel_rfl) (by kernel_rfl) (fun _ _ _ h=>h) (Or.inl ⟨rfl,fun n hn=>?_⟩) CW ?_
   ·go_simp
   simp only [Act.put,pA,pB,pC]
   refine wpY_take hCC (some 22) (i:=2) (v:=.int .i64 (k:Int)) rfl rfl (by kernel_rfl) (by kernel_rfl) (by kernel_rfl) (fun _ _ _ h=>h) (Or.inl ⟨rfl,fun n hn=>?_⟩) CW ?_
   ·go_simp
   simp only [Act.put,pA,pB,pC]
   refine wpY_take hCC (some 23) (i:=3) (v:=.pointer (some ⟨b,off+k*4,none⟩)) rfl rfl (by kernel_rfl) (by kernel_rfl) (by kernel_rfl) (fun _ _ _ h=>h) (Or.inl ⟨rfl,fun n hn=>?_⟩) CW ?_
   ·go_simp
   simp only [Act.put,pA,pB,pC]
   refine wpY_take hCC (some 24) (i:=4) (v:=.agg #[.int .i64 l[k].1.1,.int .i64 l[k].1.2.1,.string l[k].1.2.2,.int .i64 l[k].2]) rfl rfl (by kernel_rfl) (by kernel_rfl) (by kernel_rfl) (fun _ _ _ h=>h) (Or.inl ⟨rfl,fun n hn=>?_⟩) CW ?_
   ·obtain ⟨b2,off2,e2,_,d0,d1,d2,d3⟩:=hn.1.elem hlt
    injection e2 with e2
    injection e2 with e21 e22 _
    subst e21 e22
    go_simp
   simp only [Act.put,pA,pB,pC]
   refine wpY_take hCC (some 25) (i:=5) (v:=.agg #[.int .i64 mv.1.1,.int .i64 mv.1.2.1,.string mv.1.2.2,.int .i64 mv.2]) rfl rfl (by kernel_rfl) (by kernel_rfl) (by kernel_rfl) (fun _ _ _ h=>h) (Or.inl ⟨rfl,fun n hn=>?_⟩) CW ?_
   ·obtain ⟨n0,n1,n2,n3,_,_⟩:=hn.2
    go_simp
   simp only [Act.put,pA,pB,pC]
   refine wpY_step (rs:=[6]) (by kernel_rfl) (by simp) ?_
   intro w3 hb3 jj hj
   obtain rfl:jj=6:=by simpa using hj
   clear hj
   have CW3:=hCC _ _ CW hb3
   have con:=hd l[k] mv w3
   generalize hcm:cmpV l[k].1.1 l[k].1.2.1 l[k].1.2.2 mv.1.1 mv.1.2.1 mv.1.2.2=cm at con
   have HCm:Hid (cmpP l[k].1 mv.1=cm):=hcm
   clear hcm
   refine wpOp_step rfl (fun K hK=>?_)
   go_simp
   first | (refine con.mono ?_) | (go_at_fn g; refine con.mono ?_)
   rintro e w4 ⟨rfl,hb4⟩
   clear con
   have CW4:=hCC _ _ CW3 hb4
   refine hK _ _ ⟨CW4,?_⟩
   clear hK K CW3
   refine wpY_take hCC (some 27) (i:=7) (v:=.bool (decide (0<cm))) rfl rfl (by kernel_rfl) (by kernel_rfl) (by kernel_rfl) (fun _ _ _ h=>h) (Or.inl ⟨rfl,fun n hn=>?_⟩) CW4 ?_
   ·go_simp
   simp only [Act.put,pA,pB,pC]
   refine wpY_done (by kernel_rfl) ?_
   intro w7 hb7
   have D7:=chain hdr (chain hb3 (chain hb4 hb7))
   have hB7:=chain hb D7
   obtain ⟨S7,VM7⟩:=hCC _ _ CW4 hb7
   have VR7:=VR.next D7
   clear CW CW4 hCC hb3 hb4 hb7 VM VR
   by_cases hc:0<cm
   ·have hg:decide (0<cm)=true:=decide_eq_true hc
    rw [hg]
    have HM':Hid (l[k]=maxW (l.take (k+1))):=by show _=_; rw [HT.out,← HM.out,HCm.out,if_pos hc]
    obtain ⟨b2,off2,e2,_,d0,d1,d2,d3⟩:=S7.elem hlt
    injection e2 with e2
    injection e2 with e21 e22 _
    subst e21 e22
    have VS:=VM7.put l[k]
    have VRS:=VR7.far w0.heap.size l[k] (by omega)
    obtain ⟨n0,n1,n2,n3,nf,nl⟩:=VM7
    have nf0:=nf 0
    have nf1:=nf 1
    have nf2:=nf 2
    have nf3:=nf 3
    clear hc HM D7
    go_wp2_with fail
    go_roundw
    case rel=>exact ⟨k+1,l[k],by omega,by omega,by go_num,VS,VRS,HM',(((hB7.setCell (p:=⟨w0.heap.size,0,none⟩) (by show _≤w0.heap.size; omega) _).setCell (p:=⟨w0.heap.size,1,none⟩) (by show _≤w0.heap.size; omega) _).setCell (p:=⟨w0.heap.size,2,none⟩) (by show _≤w0.heap.size; omega) _).setCell (p:=⟨w0.heap.size,3,none⟩) (by show _≤w0.heap.size; omega) _⟩
    case measure=>simp [intOf]; omega
   ·have hg:decide (0<cm)=false:=decide_eq_false hc
    rw [hg]
    have HM':Hid (mv=maxW (l.take (k+1))):=by show _=_; rw [HT.out,← HM.out,HCm.out,if_neg hc]
    clear hc HM D7 S7
    go_wp2_with fail
    go_roundw
    case rel=>exact ⟨k+1,mv,by omega,by omega,by go_num,VM7,VR7,HM',hB7⟩
    case measure=>simp [intOf]; omega
  ·have e:k=l.length:=by omega
   subst e
   have er:mv=res:=by rw [HM.out,List.take_length,HRes.out]
   subst er
   obtain ⟨m0,m1,m2,m3,_,_⟩:=VM
   have VS:=VR.put mv
   obtain ⟨n0,n1,n2,n3,nf,nl⟩:=VR
   have nf0:=nf 0
   have nf1:=nf 1
   have nf2:=nf 2
   have nf3:=nf 3
   obtain ⟨s0,s1,s2,s3,_,_⟩:=VS
   clear HM
   go_wp2_with fail
   exact bodyPost_ret (v:=.agg #[.int .i64 mv.1.1,.int .i64 mv.1.2.1,.string mv.1.2.2,.int .i64 mv.2]) (by simp [results,Tryz.results155,go_sem,s0,s1,s2,s3]) rfl ⟨rfl,(((hb.setCell (p:=⟨w.heap.size,0,none⟩) (Nat.le_refl _) _).setCell (p:=⟨w.heap.size,1,none⟩) (Nat.le_refl _) _).setCell (p:=⟨w.heap.size,2,none⟩) (Nat.le_refl _) _).setCell (p:=⟨w.heap.size,3,none⟩) (Nat.le_refl _) _⟩

set_option maxRecDepth 100000 in
set_option maxHeartbeats 400000 in
theorem least_fn:FnTot 114 (totP 4):=by
 intro l a cap W hk h0 h
 have eT:totP 4 l=(minW l).1:=by rw [minW_val l h0]; simp [totP]
 rw [eT]
 have hal:Below W.heap.size W (W.alloc (.cells #[.int .i64 0,.int .i64 0,.string ⟨#[]⟩] 38)):=(Below.refl _ _).alloc (Nat.le_refl _) _
 have q0:=heap_new W #[.int .i64 0,.int .i64 0,.string ⟨#[]⟩] 38
 have con:=minFunc_at 154 (enters_of Tryz.func154 (by kernel_rfl) rfl) byValue_at a cap l _ (h.next hal) h0 hk.len
 generalize minW l=res at *
 unfold agV
 clear eT
 go_enter Tryz.func114,Tryz.ntmps114
 go_wp2_with fail
 generalize W.alloc (.cells #[.int .i64 0,.int .i64 0,.string ⟨#[]⟩] 38)=w0 at *
 refine con.mono ?_
 rintro e w2 ⟨rfl,hb2⟩
 clear con
 have q2:=(hb2.block _ (lt_of_heap q0)).trans q0
 have d0:w2.cell? ⟨W.heap.size,0,none⟩=some (.int .i64 0):=cell_of (i:=0) q2 rfl
 have d1:w2.cell? ⟨W.heap.size,1,none⟩=some (.int .i64 0):=cell_of (i:=1) q2 rfl
 have d2:w2.cell? ⟨W.heap.size,2,none⟩=some (.string ⟨#[]⟩):=cell_of (i:=2) q2 rfl
 have f0:w2.frozen? ⟨W.heap.size,0,none⟩=false:=frozen_of_row w2 W.heap.size 0 _ _ q2
 have f1:w2.frozen? ⟨W.heap.size,1,none⟩=false:=frozen_of_row w2 W.heap.size 1 _ _ q2
 have f2:w2.frozen? ⟨W.heap.size,2,none⟩=false:=frozen_of_row w2 W.heap.size 2 _ _ q2
 have hA2:=chain hal hb2
 have hfw:=field_w (.int .i64 res.1.1) (.int .i64 res.1.2.1) (.string res.1.2.2) (.int .i64 res.2) w2
 dsimp only
 go_wp2_with fail
 exact bodyPost_ret (v:=.agg #[.int .i64 res.1.1,.int .i64 res.1.2.1,.string res.1.2.2]) (by simp [results,Tryz.results114,go_sem,d0,d1,d2]) rfl ⟨rfl,((hA2.setCell (p:=⟨W.heap.size,0,none⟩) (Nat.le_refl _) _).setCell (p:=⟨W.heap.size,1,none⟩) (Nat.le_refl _) _).setCell (p:=⟨W.heap.size,2,none⟩) (Nat.le_refl _) _⟩

set_option maxRecDepth 100000 in
set_option maxHeartbeats 400000 in
theorem greatest_fn:FnTot 115 (totP 5):=by
 intro l a cap W hk h0 h
 have eT:totP 5 l=(maxW l).1:=by rw [maxW_val l h0]; simp [totP]
 rw [eT]
 have hal:Below W.heap.size W (W.alloc (.cells #[.int .i64 0,.int .i64 0,.string ⟨#[]⟩] 38)):=(Below.refl _ _).alloc (Nat.le_refl _) _
 have q0:=heap_new W #[.int .i64 0,.int .i64 0,.string ⟨#[]⟩] 38
 have con:=maxFunc_at 154 (enters_of Tryz.func154 (by kernel_rfl) rfl) byValue_at a cap l _ (h.next hal) h0 hk.len
 generalize maxW l=res at *
 unfold agV
 clear eT
 go_enter Tryz.func115,Tryz.ntmps115
 go_wp2_with fail
 generalize W.alloc (.cells #[.int .i64 0,.int .i64 0,.string ⟨#[]⟩] 38)=w0 at *
 refine con.mono ?_
 rintro e w2 ⟨rfl,hb2⟩
 clear con
 have q2:=(hb2.block _ (lt_of_heap q0)).trans q0
 have d0:w2.cell? ⟨W.heap.size,0,none⟩=some (.int .i64 0):=cell_of (i:=0) q2 rfl
 have d1:w2.cell? ⟨W.heap.size,1,none⟩=some (.int .i64 0):=cell_of (i:=1) q2 rfl
 have d2:w2.cell? ⟨W.heap.size,2,none⟩=some (.string ⟨#[]⟩):=cell_of (i:=2) q2 rfl
 have f0:w2.frozen? ⟨W.heap.size,0,none⟩=false:=frozen_of_row w2 W.heap.size 0 _ _ q2
 have f1:w2.frozen? ⟨W.heap.size,1,none⟩=false:=frozen_of_row w2 W.heap.size 1 _ _ q2
 have f2:w2.frozen? ⟨W.heap.size,2,none⟩=false:=frozen_of_row w2 W.heap.size 2 _ _ q2
 have hA2:=chain hal hb2
 have hfw:=field_w (.int .i64 res.1.1) (.int .i64 res.1.2.1) (.string res.1.2.2) (.int .i64 res.2) w2
 dsimp only
 go_wp2_with fail
 exact bodyPost_ret (v:=.agg #[.int .i64 res.1.1,.int .i64 res.1.2.1,.string res.1.2.2]) (by simp [results,Tryz.results115,go_sem,d0,d1,d2]) rfl ⟨rfl,((hA2.setCell (p:=⟨W.heap.size,0,none⟩) (Nat.le_refl _) _).setCell (p:=⟨W.heap.size,1,none⟩) (Nat.le_refl _) _).setCell (p:=⟨W.heap.size,2,none⟩) (Nat.le_refl _) _⟩
theorem total4:TotalOk 4:=total4_ok least_fn
theorem total5:TotalOk 5:=total5_ok greatest_fn
end Go.Proofs.YtcnmpiahcnkndaaGreat
/- sum: upper and lower halves by themselves. -/
namespace Go.Proofs.YtcnmpiahcnkndaaGreat
open Go.RowKit Go.Lib Go.Shelf

def sumU:List Wp→Int
 | []=>0
 | p :: r=>p.2*(p.1.2.1.tdiv 100000000)+sumU r
def sumV:List Wp→Int
 | []=>0
 | p :: r=>p.2*(p.1.2.1.tmod 100000000)+sumV r
theorem sumU_take {l:List Wp} {k:Nat} (h:k<l.length):sumU (l.take (k+1))=sumU (l.take k)+l[k].2*(l[k].1.2.1.tdiv 100000000):=by
 have aux:∀ (l:List Wp) (p:Wp),sumU (l ++ [p])=sumU l+p.2*(p.1.2.1.tdiv 100000000):=by
  intro l p
  induction l with
  | nil=>simp [sumU]
  | cons q r ih=>rw [List.cons_append,sumU,sumU,ih]; omega
 rw [List.take_succ_eq_append_getElem h,aux]
theorem sumV_take {l:List Wp} {k:Nat} (h:k<l.length):sumV (l.take (k+1))=sumV (l.take k)+l[k].2*(l[k].1.2.1.tmod 100000000):=by
 have aux:∀ (l:List Wp) (p:Wp),sumV (l ++ [p])=sumV l+p.2*(p.1.2.1.tmod 100000000):=by
  intro l p
  induction l with
  | nil=>simp [sumV]
  | cons q r ih=>rw [List.cons_append,sumV,sumV,ih]; omega
 rw [List.take_succ_eq_append_getElem h,aux]
theorem sumUV:∀ l:List Wp,sumU l*100000000+sumV l=sumN l
 | []=>rfl
 | p :: r=>by
  have ih:=sumUV r
  have e:=Int.mul_tdiv_add_tmod p.1.2.1 100000000
  rw [sumU,sumV,sumN,← ih]
  conv=>rhs; rw [← e]
  rw [Int.mul_add,Int.add_mul,Int.mul_assoc p.2,Int.mul_comm (Int.tdiv _ _) 100000000]
  omega
theorem tdiv_bd {n:Int} (h:-1000000000000000≤n∧n≤1000000000000000):-10000000≤n.tdiv 100000000∧n.tdiv 100000000≤10000000:=by
 by_cases h0:0≤n
 ·rw [Int.tdiv_eq_ediv_of_nonneg h0]; omega
 ·have e:=Int.neg_tdiv (-n) 100000000
  rw [Int.neg_neg] at e
  rw [e,Int.tdiv_eq_ediv_of_nonneg (by omega)]
  omega
theorem tmod_bd {n:Int}:-100000000≤n.tmod 100000000∧n.tmod 100000000≤100000000:=by
 by_cases h0:0≤n
 ·rw [Int.tmod_eq_emod_of_nonneg h0]; omega
 ·have e:=Int.neg_tmod (-n) 100000000
  rw [Int.neg_neg] at e
  rw [e,Int.tmod_eq_emod_of_nonneg (by omega)]
  omega
theorem tmod_bdS {n:Int}:-100000000<n.tmod 100000000∧n.tmod 100000000<100000000:=by
 by_cases h0:0≤n
 ·rw [Int.tmod_eq_emod_of_nonneg h0]; omega
 ·have e:=Int.neg_tmod (-n) 100000000
  rw [Int.neg_neg] at e
  rw [e,Int.tmod_eq_emod_of_nonneg (by omega)]
  omega
theorem mul_bd {x w B:Int} (h:0≤w∧w≤1000000) (hx:-B≤x∧x≤B) (hB:0≤B):-(1000000*B)≤w*x∧w*x≤1000000*B:=by
 constructor
 ·have h1:w*(-B)≤w*x:=Int.mul_le_mul_of_nonneg_left hx.1 h.1
  have h2:w*B≤1000000*B:=Int.mul_le_mul_of_nonneg_right h.2 hB
  rw [Int.mul_neg] at h1
  omega
 ·have h1:w*x≤w*B:=Int.mul_le_mul_of_nonneg_left hx.2 h.1
  have h2:w*B≤1000000*B:=Int.mul_le_mul_of_nonneg_right h.2 hB
  omega

set_option maxRecDepth 100000 in
set_option maxHeartbeats 2000000 in
theorem sum_fn:FnTot 113 (totP 3):=by
 intro l a cap W hok hl0 h
 have eT:totP 3 l=if inB (sumN l)=true then (3,sumN l,⟨#[]⟩) else (1,0,⟨#[]⟩):=by
  have:¬ l = []:=by intro e; rw [e] at hl0; simp at hl0
  simp only [totP,if_true,sumP]
  rw [if_neg this]
 have hl:=hok.len
 have HK:Hid (WOk l):=hok
 generalize hres:totP 3 l=res
 have HRes:Hid (res=if inB (sumN l)=true then (3,sumN l,⟨#[]⟩) else (1,0,⟨#[]⟩)):=by show _=_; rw [← hres]; exact eT
 clear hok eT hres hl0
 have hal0:Below W.heap.size W (W.alloc (.cells #[.int .i64 0,.int .i64 0,.string ⟨#[]⟩] 38)):=(Below.refl _ _).alloc (Nat.le_refl _) _
 have q00:=heap_new W #[.int .i64 0,.int .i64 0,.string ⟨#[]⟩] 38
 unfold agV
 go_enter Tryz.func113,Tryz.ntmps113
 go_wp2_with fail
 generalize W.alloc (.cells #[.int .i64 0,.int .i64 0,.string ⟨#[]⟩] 38)=w0 at *
 go_loopw [3,4,9] (fun vu vv i wr=>∃ (k:Nat) (u v:Int),k≤l.length∧i = .int .i64 k∧vu = .int .i64 u∧vv = .int .i64 v∧Hid (u=sumU (l.take k)∧v=sumV (l.take k)) ∧ -(10000000000000*(k:Int))≤u∧u≤10000000000000*(k:Int) ∧ -(100000000000000*(k:Int))≤v∧v≤100000000000000*(k:Int)∧Below w0.heap.size w0 wr) (fun _ _ i _=>l.length - (intOf i).toNat)
 case atStart=>exact ⟨0,0,0,Nat.zero_le _,rfl,rfl,rfl,⟨rfl,rfl⟩,by omega,by omega,by omega,by omega,Below.refl _ _⟩
 case round =>
  obtain ⟨k,u,v,hk,rfl,rfl,rfl,HN,hu0,hu1,hv0,hv1,hb⟩:=hrel
  have hA:=chain hal0 hb
  by_cases hlt:k<l.length
  ·obtain ⟨b,off,rfl,hbl,c0,c1,c2,c3⟩:=(h.next hA).elem hlt
   have hw:=HK.out.wt _ (List.getElem_mem hlt)
   have hn:=num_bd (HK.out.right _ (List.getElem_mem hlt)) (HK.out.num _ (List.getElem_mem hlt))
   have hal:Below wr.heap.size wr (wr.alloc (.cells #[.int .i64 l[k].1.1,.int .i64 l[k].1.2.1,.string l[k].1.2.2,.int .i64 l[k].2] 154)):=(Below.refl _ _).alloc (Nat.le_refl _) _
   have b1:=mul_bd hw (tdiv_bd hn) (by decide)
   have b2:=mul_bd hw (tmod_bd (n:=l[k].1.2.1)) (by decide)
   have HN':Hid (u+l[k].2*(l[k].1.2.1.tdiv 100000000)=sumU (l.take (k+1))∧v+l[k].2*(l[k].1.2.1.tmod 100000000)=sumV (l.take (k+1))):=⟨by rw [sumU_take hlt,HN.out.1],by rw [sumV_take hlt,HN.out.2]⟩
   have t1:=tdiv_bd hn
   have t2:=tmod_bd (n:=l[k].1.2.1)
   have hW1:IntKind.i64.wrap (l[k].2*(l[k].1.2.1.tdiv 100000000))=l[k].2*(l[k].1.2.1.tdiv 100000000):=IntWalk.i64_in _ ⟨by omega,by omega⟩
   have hW2:IntKind.i64.wrap (l[k].2*(l[k].1.2.1.tmod 100000000))=l[k].2*(l[k].1.2.1.tmod 100000000):=IntWalk.i64_in _ ⟨by omega,by omega⟩
   have hW3:IntKind.i64.wrap (u+l[k].2*(l[k].1.2.1.tdiv 100000000))=u+l[k].2*(l[k].1.2.1.tdiv 100000000):=IntWalk.i64_in _ ⟨by omega,by omega⟩
   have hW4:IntKind.i64.wrap (v+l[k].2*(l[k].1.2.1.tmod 100000000))=v+l[k].2*(l[k].1.2.1.tmod 100000000):=IntWalk.i64_in _ ⟨by omega,by omega⟩
   have hW5:IntKind.i64.wrap (l[k].1.2.1.tdiv 100000000)=l[k].1.2.1.tdiv 100000000:=IntWalk.i64_in _ ⟨by omega,by omega⟩
   have hW6:IntKind.i64.wrap (l[k].1.2.1.tmod 100000000)=l[k].1.2.1.tmod 100000000:=IntWalk.i64_in _ ⟨by omega,by omega⟩
   go_wp2_with fail
   go_roundw
   case rel=>exact ⟨k+1,u+l[k].2*(l[k].1.2.1.tdiv 100000000),v+l[k].2*(l[k].1.2.1.tmod 100000000),by omega,by go_num,rfl,rfl,HN',by omega,by omega,by omega,by omega,chain hb hal⟩
   case measure=>simp [intOf]; omega
  ·have e:k=l.length:=by omega
   subst e
   have es:sumN l=u*100000000+v:=by
    have:=HN.out
    rw [List.take_length] at this
    rw [this.1,this.2,sumUV]
   have ev:=Int.mul_tdiv_add_tmod v 100000000
   have vb:=tmod_bdS (n:=v)
   have hn4:(l.length:Int)≤400:=by omega
   generalize hq:v.tdiv 100000000=vq at *
   generalize hm:v.tmod 100000000=vm at *
   have hs:sumN l=(u+vq)*100000000+vm:=by omega
   have hW5:IntKind.i64.wrap vq=vq:=IntWalk.i64_in _ ⟨by omega,by omega⟩
   have hW6:IntKind.i64.wrap vm=vm:=IntWalk.i64_in _ ⟨by omega,by omega⟩
   have hW7:IntKind.i64.wrap (u+vq)=u+vq:=IntWalk.i64_in _ ⟨by omega,by omega⟩
   generalize hu:u+vq=u2 at *
   have HS:Hid (sumN l=u2*100000000+vm):=hs
   clear HN es hs ev
   by_cases ho:u2 < -10000001∨10000001<u2
   ·have er:res=(1,0,⟨#[]⟩):=by
     rw [HRes.out,HS.out]
     have:inB (u2*100000000+vm)=false:=by simp [inB]; omega
     rw [this]; rfl
    subst er
    clear HRes HS
    by_cases ho1:u2 < -10000001
    ·go_wp2_with fail
     refine (null_any wr).mono ?_
     rintro e w2 ⟨rfl,hb2⟩
     have q2:=((chain hb hb2).block _ (lt_of_heap q00)).trans q00
     have d0:w2.cell? ⟨W.heap.size,0,none⟩=some (.int .i64 0):=cell_of (i:=0) q2 rfl
     have d1:w2.cell? ⟨W.heap.size,1,none⟩=some (.int .i64 0):=cell_of (i:=1) q2 rfl
     have d2:w2.cell? ⟨W.heap.size,2,none⟩=some (.string ⟨#[]⟩):=cell_of (i:=2) q2 rfl
     have f0:w2.frozen? ⟨W.heap.size,0,none⟩=false:=frozen_of_row w2 W.heap.size 0 _ _ q2
     have f1:w2.frozen? ⟨W.heap.size,1,none⟩=false:=frozen_of_row w2 W.heap.size 1 _ _ q2
     have f2:w2.frozen? ⟨W.heap.size,2,none⟩=false:=frozen_of_row w2 W.heap.size 2 _ _ q2
     have hA2:=chain hA hb2
     dsimp only
     go_wp2_with fail
     exact bodyPost_ret (v:=.agg #[.int .i64 1,.int .i64 0,.string ⟨#[]⟩]) (by simp [results,Tryz.results113,go_sem,d0,d1,d2]) rfl ⟨rfl,((hA2.setCell (p:=⟨W.heap.size,0,none⟩) (Nat.le_refl _) _).setCell (p:=⟨W.heap.size,1,none⟩) (Nat.le_refl _) _).setCell (p:=⟨W.heap.size,2,none⟩) (Nat.le_refl _) _⟩
    ·have ho2:10000001<u2:=by omega
     go_wp2_with fail
     refine (null_any wr).mono ?_
     rintro e w2 ⟨rfl,hb2⟩
     have q2:=((chain hb hb2).block _ (lt_of_heap q00)).trans q00
     have d0:w2.cell? ⟨W.heap.size,0,none⟩=some (.int .i64 0):=cell_of (i:=0) q2 rfl
     have d1:w2.cell? ⟨W.heap.size,1,none⟩=some (.int .i64 0):=cell_of (i:=1) q2 rfl
     have d2:w2.cell? ⟨W.heap.size,2,none⟩=some (.string ⟨#[]⟩):=cell_of (i:=2) q2 rfl
     have f0:w2.frozen? ⟨W.heap.size,0,none⟩=false:=frozen_of_row w2 W.heap.size 0 _ _ q2
     have f1:w2.frozen? ⟨W.heap.size,1,none⟩=false:=frozen_of_row w2 W.heap.size 1 _ _ q2
     have f2:w2.frozen? ⟨W.heap.size,2,none⟩=false:=frozen_of_row w2 W.heap.size 2 _ _ q2
     have hA2:=chain hA hb2
     dsimp only
     go_wp2_with fail
     exact bodyPost_ret (v:=.agg #[.int .i64 1,.int .i64 0,.string ⟨#[]⟩]) (by simp [results,Tryz.results113,go_sem,d0,d1,d2]) rfl ⟨rfl,((hA2.setCell (p:=⟨W.heap.size,0,none⟩) (Nat.le_refl _) _).setCell (p:=⟨W.heap.size,1,none⟩) (Nat.le_refl _) _).setCell (p:=⟨W.heap.size,2,none⟩) (Nat.le_refl _) _⟩
   ·have ho1:¬ u2 < -10000001:=fun h=>ho (.inl h)
    have ho2:¬ 10000001<u2:=fun h=>ho (.inr h)
    have hW8:IntKind.i64.wrap (u2*100000000)=u2*100000000:=IntWalk.i64_in _ ⟨by omega,by omega⟩
    have hW9:IntKind.i64.wrap (u2*100000000+vm)=u2*100000000+vm:=IntWalk.i64_in _ ⟨by omega,by omega⟩
    have con:Calls Tryz.prog 134 #[.int .i64 (u2*100000000+vm)] wr fun e w'=>e = .returned (.agg #[.int .i64 res.1,.int .i64 res.2.1,.string res.2.2])∧Below wr.heap.size wr w':=by
     rw [HRes.out,HS.out]
     cases hi:inB (u2*100000000+vm) with
     | true=>exact int_in _ wr hi
     | false=>exact int_out _ wr hi
    clear HRes HS ho
    generalize hS:u2*100000000+vm=s at *
    go_wp2_with fail
    refine con.mono ?_
    rintro e w2 ⟨rfl,hb2⟩
    clear con
    have q2:=((chain hb hb2).block _ (lt_of_heap q00)).trans q00
    have d0:w2.cell? ⟨W.heap.size,0,none⟩=some (.int .i64 0):=cell_of (i:=0) q2 rfl
    have d1:w2.cell? ⟨W.heap.size,1,none⟩=some (.int .i64 0):=cell_of (i:=1) q2 rfl
    have d2:w2.cell? ⟨W.heap.size,2,none⟩=some (.string ⟨#[]⟩):=cell_of (i:=2) q2 rfl
    have f0:w2.frozen? ⟨W.heap.size,0,none⟩=false:=frozen_of_row w2 W.heap.size 0 _ _ q2
    have f1:w2.frozen? ⟨W.heap.size,1,none⟩=false:=frozen_of_row w2 W.heap.size 1 _ _ q2
    have f2:w2.frozen? ⟨W.heap.size,2,none⟩=false:=frozen_of_row w2 W.heap.size 2 _ _ q2
    have hA2:=chain hA hb2
    dsimp only
    go_wp2_with fail
    exact bodyPost_ret (v:=.agg #[.int .i64 res.1,.int .i64 res.2.1,.string res.2.2]) (by simp [results,Tryz.results113,go_sem,d0,d1,d2]) rfl ⟨rfl,((hA2.setCell (p:=⟨W.heap.size,0,none⟩) (Nat.le_refl _) _).setCell (p:=⟨W.heap.size,1,none⟩) (Nat.le_refl _) _).setCell (p:=⟨W.heap.size,2,none⟩) (Nat.le_refl _) _⟩
theorem total3:TotalOk 3:=total3_ok sum_fn
/-- totalOf makes what it should of every kind that may be asked. -/
theorem total_all (k:Int):TotalOk k:=by
 by_cases h3:k=3
 ·subst h3; exact total3
 by_cases h4:k=4
 ·subst h4; exact total4
 by_cases h5:k=5
 ·subst h5; exact total5
 exact totalC_ok k h3 h4 h5
end Go.Proofs.YtcnmpiahcnkndaaGreat
/- tidelaw15.WindowLast. -/
namespace Go.Proofs.YtcnmpiahcnkndaaGreat
open Go.RowKit Go.Lib Go.Shelf

theorem ag_last {W:World} {b B:Nat} {g2:Int} {x:Ex} {xa:Option Addr} {xc:Nat} {T:TypeId} (h:Bk W b #[.int .i64 1,.int .i64 0,.int .i64 0,.int .i64 0,.string ⟨#[]⟩,.int .i64 0,.slice none 0 0,.int .i64 g2,.int .i64 x.k,.int .i64 x.v.1,.int .i64 x.v.2.1,.string x.v.2.2,.int .i64 x.c,.slice xa x.ks.length xc] T) (hB:B≤W.heap.size) (hx:KsAt B W xa x.ks):AgAt W.heap.size W (some ⟨b,0,none⟩) [(1,.mk 0 vl0 0 []),(g2,x)]:=by
 refine .inr ⟨b,0,fun i=>if i=0 then none else xa,fun i=>if i=0 then 0 else xc,rfl,h.lt,fun i hi=>?_⟩
 match i,hi with
 | 0,_=>exact ⟨h.cell 0 rfl,⟨h.cell 1 rfl,h.cell 2 rfl,h.cell 3 rfl,h.cell 4 rfl,h.cell 5 rfl,h.cell 6 rfl⟩,.nil _⟩
 | 1,_=>exact ⟨h.cell 7 rfl,⟨h.cell 8 rfl,h.cell 9 rfl,h.cell 10 rfl,h.cell 11 rfl,h.cell 12 rfl,h.cell 13 rfl⟩,hx.up hB⟩

set_option maxRecDepth 100000 in
set_option maxHeartbeats 16000000 in
theorem windowLast_walk (ca:Option Addr) (ccap:Nat) (cols:List Int) (oa:Option Addr) (ocap:Nat) (os:List Ex) (x:Ex) (xa:Option Addr) (xcap:Nat) (a:Option Addr) (cap:Nat) (l:List Zp) (w:World) (hc:IsAt w.heap.size w ca cols) (ho:KsAt w.heap.size w oa os) (hx:KsAt w.heap.size w xa x.ks) (h:ZsAt w a l) (_nl:a=none→cap=0) (s0:cols.length≤100000000000000) :
  Calls Tryz.prog 6 #[.slice ca cols.length ccap,.slice oa os.length ocap,exV x.k x.v x.c xa x.ks.length xcap,.slice a l.length cap] w fun e w'=>e = .returned (.bool true)∧Below w.heap.size w w':=by
 have n0:=(Below.refl w.heap.size w).alloc (Nat.le_refl _) (.cells #[.int .i64 x.k,.int .i64 x.v.1,.int .i64 x.v.2.1,.string x.v.2.2,.int .i64 x.c,.slice xa x.ks.length xcap] 40)
 have X0:=Bk.new w #[.int .i64 x.k,.int .i64 x.v.1,.int .i64 x.v.2.1,.string x.v.2.2,.int .i64 x.c,.slice xa x.ks.length xcap] 40
 go_enter Tryz.func6,Tryz.ntmps6
 go_wp2_with fail
 generalize w.alloc (.cells #[.int .i64 x.k,.int .i64 x.v.1,.int .i64 x.v.2.1,.string x.v.2.2,.int .i64 x.c,.slice xa x.ks.length xcap] 40)=w0 at *
 refine (alive15_at w0).mono ?_
 rintro e w1 ⟨rfl,hb1⟩
 have X1:=X0.next hb1
 have A1:=chain n0 hb1
 have x0:=X1.cell 0 rfl
 have x1:=X1.cell 1 rfl
 have x2:=X1.cell 2 rfl
 have x3:=X1.cell 3 rfl
 have x4:=X1.cell 4 rfl
 have x5:=X1.cell 5 rfl
 clear X0
 have n1:=(Below.refl w1.heap.size w1).alloc (Nat.le_refl _) (.cells #[.int .i64 1,.int .i64 0,.int .i64 0,.int .i64 0,.string ⟨#[]⟩,.int .i64 0,.slice none 0 0,.int .i64 4,.int .i64 x.k,.int .i64 x.v.1,.int .i64 x.v.2.1,.string x.v.2.2,.int .i64 x.c,.slice xa x.ks.length xcap] 42)
 have G1:=Bk.new w1 #[.int .i64 1,.int .i64 0,.int .i64 0,.int .i64 0,.string ⟨#[]⟩,.int .i64 0,.slice none 0 0,.int .i64 4,.int .i64 x.k,.int .i64 x.v.1,.int .i64 x.v.2.1,.string x.v.2.2,.int .i64 x.c,.slice xa x.ks.length xcap] 42
 go_wp2_with fail
 clear x0 x1 x2 x3 x4 x5
 generalize w1.alloc (.cells #[.int .i64 1,.int .i64 0,.int .i64 0,.int .i64 0,.string ⟨#[]⟩,.int .i64 0,.slice none 0 0,.int .i64 4,.int .i64 x.k,.int .i64 x.v.1,.int .i64 x.v.2.1,.string x.v.2.2,.int .i64 x.c,.slice xa x.ks.length xcap] 42)=wg at *
 have A2:=chain A1 n1
 have con:Calls Tryz.prog 9 #[.slice ca cols.length ccap,.slice none 0 0,.slice oa os.length ocap,.slice (some ⟨w1.heap.size,0,none⟩) 2 2,.slice a l.length cap] wg fun e w'=>∃ v,e = .returned (.tuple #[v,.int .i64 (windowE cols [] os (gL x) l)])∧OwnZ wg.heap.size w' v (windowZ cols [] os (gL x) l)∧Below wg.heap.size wg w' :=
  window_at cols [] os (gL x) (by simp [gL]; omega) ca ccap none 0 oa ocap _ 2 a cap l wg ((hc.next A2 (Nat.le_refl _)).up A2.size) (.nil _) ((KsAt.next A2 (Nat.le_refl _) ho).up A2.size) (ag_last G1 A2.size (KsAt.next A2 (Nat.le_refl _) hx)) (h.next A2)
 generalize hE:windowE cols [] os (gL x) l=e1 at con
 generalize hZ:windowZ cols [] os (gL x) l=z1 at con
 have HE:Hid (windowE cols [] os (gL x) l=e1):=hE
 have HZ:Hid (windowZ cols [] os (gL x) l=z1):=hZ
 clear hE hZ G1
 refine con.mono ?_
 rintro e w2 ⟨v2,rfl,O2,hb2⟩
 have A3:=chain A2 hb2
 obtain ⟨a2,c2,rfl,zs2⟩:=O2.zs
 have X2:=(X1.next n1).next hb2
 clear con O2 X1
 have x0:=X2.cell 0 rfl
 have x1:=X2.cell 1 rfl
 have x2:=X2.cell 2 rfl
 have x3:=X2.cell 3 rfl
 have x4:=X2.cell 4 rfl
 have x5:=X2.cell 5 rfl
 have n3:=(Below.refl w2.heap.size w2).alloc (Nat.le_refl _) (.cells #[.int .i64 1,.int .i64 0,.int .i64 0,.int .i64 0,.string ⟨#[]⟩,.int .i64 0,.slice none 0 0,.int .i64 3,.int .i64 x.k,.int .i64 x.v.1,.int .i64 x.v.2.1,.string x.v.2.2,.int .i64 x.c,.slice xa x.ks.length xcap] 51)
 have G3:=Bk.new w2 #[.int .i64 1,.int .i64 0,.int .i64 0,.int .i64 0,.string ⟨#[]⟩,.int .i64 0,.slice none 0 0,.int .i64 3,.int .i64 x.k,.int .i64 x.v.1,.int .i64 x.v.2.1,.string x.v.2.2,.int .i64 x.c,.slice xa x.ks.length xcap] 51
 go_wp2_with fail
 clear x0 x1 x2 x3 x4 x5 X2
 generalize w2.alloc (.cells #[.int .i64 1,.int .i64 0,.int .i64 0,.int .i64 0,.string ⟨#[]⟩,.int .i64 0,.slice none 0 0,.int .i64 3,.int .i64 x.k,.int .i64 x.v.1,.int .i64 x.v.2.1,.string x.v.2.2,.int .i64 x.c,.slice xa x.ks.length xcap] 51)=wh at *
 have A4:=chain A3 n3
 have con:Calls Tryz.prog 17 #[.slice ca cols.length ccap,.slice none 0 0,.slice (some ⟨w2.heap.size,0,none⟩) 2 2,.slice a l.length cap] wh fun e w'=>∃ v,e = .returned (.tuple #[v,.int .i64 (groupE cols [] (gG x) l)])∧OwnZ wh.heap.size w' v (groupZ cols [] (gG x) l)∧Below wh.heap.size wh w' :=
  group_at cols [] (gG x) (fun g _ _=>total_all g.1) (by simp [gG]) ca ccap none 0 _ 2 a cap l wh ((hc.next A4 (Nat.le_refl _)).up A4.size) (.nil _) (ag_last G3 A4.size (KsAt.next A4 (Nat.le_refl _) hx)) (h.next A4)
 generalize hE:groupE cols [] (gG x) l=e2 at con
 generalize hZ:groupZ cols [] (gG x) l=z2 at con
 have HE2:Hid (groupE cols [] (gG x) l=e2):=hE
 have HZ2:Hid (groupZ cols [] (gG x) l=z2):=hZ
 clear hE hZ G3
 refine con.mono ?_
 rintro e w3 ⟨v3,rfl,O3,hb3⟩
 have A5:=chain A4 hb3
 have zs2:=(zs2.next n3).next hb3
 obtain ⟨a3,c3,rfl,zs3⟩:=O3.zs
 clear con O3
 dsimp only
 by_cases h0:e1=0
 ·by_cases h1:e2=0
  ·have hok:windowE cols [] os (gL x) l=0:=by rw [HE.out]; exact h0
   have hok2:groupE cols [] (gG x) l=0:=by rw [HE2.out]; exact h1
   subst h0 h1
   obtain ⟨s,hs1,hs2⟩:=last_ok hok hok2
   rw [HZ.out] at hs1 hs2
   rw [HZ2.out] at hs1
   subst hs1
   have HL:Hid (∀ y ∈ z1,(y.1.getD cols.length vl0).2.1=(z1.length:Int)→y.1.getD (cols.length+1) vl0=s):=hs2
   have hrows:=window_rows hok
   rw [HZ.out] at hrows
   have HR:Hid (∀ y ∈ z1,y.1.length=cols.length+(gL x).length∧wrongRowF y.1=0):=hrows
   have h88:cols.length+2≤8:=(windowE_ok hok).h8
   have hww:=window_wrong hok
   rw [HZ.out] at hww
   have hl4:=((wrongZ_iff _).1 hww).1
   clear hok hok2 hrows hww hs2
   obtain ⟨b,off,rfl,hbl,d1,ra,rc,d0,sr⟩:=zs3.elem (k:=0) (Nat.zero_lt_one)
   obtain ⟨rb,ro,rfl,rlt,u0,u1,u2⟩:=sr.elem (k:=0) (Nat.zero_lt_two)
   obtain ⟨rb',ro',er,-,y0,y1,y2⟩:=sr.elem (k:=1) (Nat.one_lt_two)
   have er':=Option.some.inj er
   injection er' with er1 er2
   subst er1 er2
   have d0:w3.cell? ⟨b,off,none⟩=some (.slice (some ⟨rb,ro,none⟩) 2 rc):=d0
   have u0:w3.cell? ⟨rb,ro,none⟩=some (.int .i64 3):=u0
   have u1:w3.cell? ⟨rb,ro+1,none⟩=some (.int .i64 (z1.length:Int)):=u1
   have u2:w3.cell? ⟨rb,ro+2,none⟩=some (.string ⟨#[]⟩):=u2
   have y0:w3.cell? ⟨rb,ro+3,none⟩=some (.int .i64 s.1):=y0
   have y1:w3.cell? ⟨rb,ro+3+1,none⟩=some (.int .i64 s.2.1):=y1
   have y2:w3.cell? ⟨rb,ro+3+2,none⟩=some (.string s.2.2):=y2
   simp only [List.length_cons,List.length_nil]
   clear er sr zs3 d1
   go_wp2_with fail
   have p0:=past_cell d0
   have pu0:=past_cell u0
   have pu1:=past_cell u1
   have pu2:=past_cell u2
   have ev:=fun w'=>eql_val w' 3 (z1.length:Int) ⟨#[]⟩
   haveI:Nonempty (Past w3):=⟨⟨w3,Below.refl _ _⟩⟩
   clear u0 u1 u2
   refine wp_region_past (by kernel_rfl) (by kernel_rfl) ?_
   repeat (go_big_quiet_step (first | (go_at_call 18; exact in_past (num_at _ _))))
   refine wpQuiet_nil ?_
   rintro w4 ⟨⟨v4,hb4⟩,h4⟩
   obtain rfl:w4=v4:=h4
   have A6:=chain A5 hb4
   have zs4:=zs2.next hb4
   have d0:=(hb4.cell (p:=⟨b,_,none⟩) hbl).trans d0
   have y0:=(hb4.cell (p:=⟨rb,_,none⟩) rlt).trans y0
   have y1:=(hb4.cell (p:=⟨rb,_,none⟩) rlt).trans y1
   have y2:=(hb4.cell (p:=⟨rb,_,none⟩) rlt).trans y2
   have hbl:=Nat.lt_of_lt_of_le hbl hb4.size
   have rlt:=Nat.lt_of_lt_of_le rlt hb4.size
   clear p0 pu0 pu1 pu2 ev zs2
   go_wp2_with fail
   go_loopw [61] (fun i wr=>∃ k:Nat,k≤z1.length∧i = .int .i64 k∧Below w4.heap.size w4 wr) (fun i _=>z1.length - (intOf i).toNat)
   case atStart=>exact ⟨0,Nat.zero_le _,rfl,Below.refl _ _⟩
   case round =>
    obtain ⟨k,hk,rfl,hb⟩:=hrel
    by_cases hlt:k<z1.length
    ·obtain ⟨b5,off5,rfl,hbl5,d15,ra5,rc5,d05,sr5⟩:=zs4.elem hlt
     have hyl:z1[k].1.length=cols.length+2:=(HR.out z1[k] (List.getElem_mem hlt)).1
     have hsk:=HL.out z1[k] (List.getElem_mem hlt)
     have i1:cols.length<z1[k].1.length:=by omega
     have i2:cols.length+1<z1[k].1.length:=by omega
     have f1:z1[k].1.getD cols.length vl0=z1[k].1[cols.length]:=by simp [List.getD,i1]
     have f2:z1[k].1.getD (cols.length+1) vl0=z1[k].1[cols.length+1]:=by simp [List.getD,i2]
     rw [f1,f2] at hsk
     obtain ⟨rb5,ro5,rfl,rlt5,-,t1,-⟩:=sr5.elem i1
     obtain ⟨rb',ro',er,-,q0,q1,q2⟩:=sr5.elem i2
     have er':=Option.some.inj er
     injection er' with er1 er2
     subst er1 er2
     generalize z1[k].1[cols.length]=g1 at *
     generalize z1[k].1[cols.length+1]=g2 at *
     generalize z1[k].2=wt at *
     rw [hyl] at d05
     clear f1 f2 i1 i2 er sr5 hyl
     have c1:=(hb.cell (p:=⟨b5,_,none⟩) hbl5).trans d15
     have c0:=(hb.cell (p:=⟨b5,_,none⟩) hbl5).trans d05
     have hal:Below wr.heap.size wr (wr.alloc (.cells #[.slice (some ⟨rb5,ro5,none⟩) (cols.length+2) rc5,.int .i64 wt] 33)):=(Below.refl _ _).alloc (Nat.le_refl _) _
     have P:=Bk.new wr #[.slice (some ⟨rb5,ro5,none⟩) (cols.length+2) rc5,.int .i64 wt] 33
     have hB:=chain hb hal
     have t1:=(hB.cell (p:=⟨rb5,_,none⟩) rlt5).trans t1
     have q0:=(hB.cell (p:=⟨rb5,_,none⟩) rlt5).trans q0
     have q1:=(hB.cell (p:=⟨rb5,_,none⟩) rlt5).trans q1
     have q2:=(hB.cell (p:=⟨rb5,_,none⟩) rlt5).trans q2
     have d0:=(hB.cell (p:=⟨b,_,none⟩) hbl).trans d0
     have y0:=(hB.cell (p:=⟨rb,_,none⟩) rlt).trans y0
     have y1:=(hB.cell (p:=⟨rb,_,none⟩) rlt).trans y1
     have y2:=(hB.cell (p:=⟨rb,_,none⟩) rlt).trans y2
     have hlz:(k:Int)<(z1.length:Int):=by omega
     have cn0:(0:Int)≤(cols.length:Int):=by omega
     have cn1:(cols.length:Int)<((cols.length+2:Nat):Int):=by omega
     have wa1:IntKind.i64.wrap ((cols.length:Int)+1)=(cols.length:Int)+1:=by rw [IntKind.wrap_i64]; omega
     have ea1:((cols.length:Int)+1).toNat=cols.length+1:=by omega
     have pa1:(0:Int)≤(cols.length:Int)+1:=by omega
     have ba1:(cols.length:Int)+1<((cols.length+2:Nat):Int):=by omega
     clear d15 d05
     go_upto_region 12 with fail
     clear c0 c1
     generalize wr.alloc (.cells #[.slice (some ⟨rb5,ro5,none⟩) (cols.length+2) rc5,.int .i64 wt] 33)=wa at *
     have o0:∀ n:Past wa,n.now.cell? ⟨wr.heap.size,0,none⟩=some (.slice (some ⟨rb5,ro5,none⟩) (cols.length+2) rc5):=fun n=>past_cell (P.cell 0 rfl) n
     have pt:=past_cell t1
     have pq0:=past_cell q0
     have pq1:=past_cell q1
     have pq2:=past_cell q2
     have pd:=past_cell d0
     have py0:=past_cell y0
     have py1:=past_cell y1
     have py2:=past_cell y2
     haveI:Nonempty (Past wa):=⟨⟨wa,Below.refl _ _⟩⟩
     clear t1 q0 q1 q2 d0 y0 y1 y2 P
     by_cases hn:g1.2.1=(z1.length:Int)
     ·have hg:=hsk hn
      subst hg
      have tb:(g1.2.1 == (z1.length:Int))=true:=by simpa using hn
      have ev:=fun w'=>eql_val w' g2.1 g2.2.1 g2.2.2
      clear hn hsk
      refine wp_region_past (by kernel_rfl) (by kernel_rfl) ?_
      repeat (go_big_quiet_step (fail))
      refine wpQuiet_nil ?_
      rintro w5 ⟨⟨v5,hb5⟩,h5⟩
      obtain rfl:w5=v5:=h5
      clear o0 pt pq0 pq1 pq2 pd py0 py1 py2 ev
      have hB5:=chain hB hb5
      go_wp2_with fail
      go_roundw
      case rel=>exact ⟨k+1,by omega,by go_num,hB5⟩
      case measure=>simp [intOf]; omega
     ·have tb:(g1.2.1 == (z1.length:Int))=false:=by simpa using hn
      clear hn hsk
      refine wp_region_past (by kernel_rfl) (by kernel_rfl) ?_
      repeat (go_big_quiet_step (fail))
      refine wpQuiet_nil ?_
      rintro w5 ⟨⟨v5,hb5⟩,h5⟩
      obtain rfl:w5=v5:=h5
      clear o0 pt pq0 pq1 pq2 pd py0 py1 py2
      have hB5:=chain hB hb5
      go_wp2_with fail
      go_roundw
      case rel=>exact ⟨k+1,by omega,by go_num,hB5⟩
      case measure=>simp [intOf]; omega
    ·have e:k=z1.length:=by omega
     subst e
     go_wp2_with fail
     go_ret
     exact ⟨rfl,chain A6 hb⟩
  ·subst h0
   have hne:(e2 != 0)=true:=by simpa using h1
   clear h1
   go_wp2_with fail
   go_ret
   exact ⟨rfl,A5⟩
 ·have hne:(e1 != 0)=true:=by simpa using h0
  clear h0
  go_wp2_with fail
  go_ret
  exact ⟨rfl,A5⟩
end Go.Proofs.YtcnmpiahcnkndaaGreat
/- Opening arguments: slices of values, and slices of rows with weights. -/
namespace Go.Proofs.YtcnmpiahcnkndaaGreat
open Go.ChangeShapes Go.WideShapes Go.ChangeAt Go.RowKit Go.Joins

set_option maxRecDepth 100000 in
theorem addr_add (b off i:Nat):(⟨b,off,none⟩:Addr).add i=⟨b,off+i,none⟩:=by
 unfold Addr.add
 by_cases h:i=0 <;> simp [h]
set_option maxRecDepth 100000 in
theorem open_row {H:Type} {enc:TypeId × Value→H} {W:World} {base:Nat} {sp:Nat→Bool} {hd:Bool} {fuel:Nat} {cs:List Value} {x:DataW H × List MemPlace} {a:Addr}
  (hc:W.cells? base a 3=some cs) (h:DataW.trod enc Tryz.prog W base sp hd fuel 38 cs=some x) :
  ∃ v:Vl,W.cell? (a.add 0)=some (.int .i64 v.1)∧W.cell? (a.add 1)=some (.int .i64 v.2.1)∧W.cell? (a.add 2)=some (.string v.2.2):=by
 obtain ⟨_,hlen,hcell⟩:=World.cells?_some hc
 obtain ⟨y0,y1,y2,m,_,_,h0,h1,h2⟩:=Go.Deep.trod_struct3 Tryz.underlying38 h
 have q3:Tryz.prog.cellsOf 3=1:=by kernel_rfl
 have q2:Tryz.prog.cellsOf 2=1:=by kernel_rfl
 have q9:Tryz.prog.cellsOf 9=1:=by kernel_rfl
 match cs,hlen with
 | [c0,c1,c2],_ =>
  simp only [q3,q2,q9] at h0 h1 h2
  obtain ⟨k,e0,_,_⟩:=DataW.trod_int Tryz.underlying3 h0
  obtain ⟨n,e1,_,_⟩:=DataW.trod_int Tryz.underlying2 h1
  obtain ⟨s,e2,_,_⟩:=DataW.trod_string Tryz.underlying9 h2
  simp at e0 e1 e2
  subst e0 e1 e2
  exact ⟨(k,n,s),hcell 0 (by omega),hcell 1 (by omega),hcell 2 (by omega)⟩
set_option maxRecDepth 100000 in
theorem open_valsT {H:Type} {enc:TypeId × Value→H} {W:World} {hd:Bool} {fuel:Nat} {cs:List Value} {x:DataW H × List MemPlace}
  (hf:DataW.trod enc Tryz.prog W 0 (fun _=>true) hd fuel 31 cs=some x):∃ (a:Option Addr) (cap:Nat) (l:List Vl),cs = [.slice a l.length cap]∧SlAt W a l:=by
 rcases Go.Deep.open_slice Tryz.underlying31 hf with ⟨hcs,_⟩ | ⟨a,len,cap,m,n,D,Pl,hcs,_,hl,hm,hmm,_,hx⟩
 ·exact ⟨none,0,[],hcs,by simp,.inl rfl⟩
 ·have q:Tryz.prog.cellsOf 38=3:=by kernel_rfl
  rw [q] at hx
  simp only [if_true] at hmm
  obtain ⟨f,hf'⟩:=Go.Deep.choose_lt (α:=Vl) (n:=len) (p:=fun i (v:Vl)=>W.cell? ((a.add (i*3)).add 0)=some (.int .i64 v.1)∧W.cell? ((a.add (i*3)).add 1)=some (.int .i64 v.2.1)∧W.cell? ((a.add (i*3)).add 2)=some (.string v.2.2)) (fun i hi=>by
   obtain ⟨cs',h1,h2⟩:=hx i (by omega)
   exact open_row h1 h2)
  refine ⟨some a,cap,(List.range len).map f,by simpa using hcs,?_,?_⟩
  ·simp; omega
  by_cases h0:len=0
  ·left; simp [h0]
  ·right
   obtain ⟨b,off,spot⟩:=a
   have hc:=(hf' 0 (by omega)).1
   have hspot:spot=none:=by simpa [Addr.add] using World.cell?_spot hc
   subst hspot
   refine ⟨b,off,rfl,fun i hi=>?_,?_⟩
   ·have hi':i<len:=by simpa using hi
    have:=hf' i hi'
    simp only [addr_add] at this
    simp only [List.getElem_map,List.getElem_range]
    exact this
   ·exact World.block_lt_of_cell? W _ (by simpa [Addr.add] using hc)
set_option maxRecDepth 100000 in
theorem struct2 {P:Program} {H:Type} {enc:TypeId × Value→H} {w:World} {base:Nat} {spare:Nat→Bool} {held:Bool} {t:TypeId} {f0 f1:Field} {fuel:Nat} {cs:List Value} {x:DataW H × List MemPlace} (ht:P.underlying t=some (.struct #[f0,f1])) (h:DataW.trod enc P w base spare held fuel t cs=some x) :
  ∃ y0 y1 n,DataW.trod enc P w base spare held n f0.type ((cs.drop f0.offset).take (P.cellsOf f0.type))=some y0 ∧
   DataW.trod enc P w base spare held n f1.type ((cs.drop f1.offset).take (P.cellsOf f1.type))=some y1:=by
 obtain ⟨xs,n,_,rfl,hl,hlen,hf⟩:=DataW.trod_struct ht h
 match xs,hlen with
 | [y0,y1],_=>exact ⟨y0,y1,n,by simpa using hf 0 f0 rfl,by simpa using hf 1 f1 rfl⟩
set_option maxRecDepth 100000 in
theorem open_zrow {H:Type} {enc:TypeId × Value→H} {W:World} {hd:Bool} {fuel:Nat} {cs:List Value} {x:DataW H × List MemPlace} {a:Addr}
  (hc:W.cells? 0 a 2=some cs) (h:DataW.trod enc Tryz.prog W 0 (fun _=>true) hd fuel 33 cs=some x) :
  ∃ z:Zp,W.cell? (a.add 1)=some (.int .i64 z.2)∧∃ ai cap,W.cell? (a.add 0)=some (.slice ai z.1.length cap)∧SlAt W ai z.1:=by
 obtain ⟨_,hlen,hcell⟩:=World.cells?_some hc
 obtain ⟨y0,y1,n,h0,h1⟩:=struct2 Tryz.underlying33 h
 have q23:Tryz.prog.cellsOf 31=1:=by kernel_rfl
 have q2:Tryz.prog.cellsOf 2=1:=by kernel_rfl
 match cs,hlen with
 | [c0,c1],_ =>
  simp only [q23,q2] at h0 h1
  obtain ⟨ai,cap,l,e0,hs⟩:=open_valsT h0
  obtain ⟨k,e1,_,_⟩:=DataW.trod_int Tryz.underlying2 h1
  simp at e0 e1
  subst e0 e1
  exact ⟨(l,k),hcell 1 (by omega),ai,cap,hcell 0 (by omega),hs⟩
set_option maxRecDepth 100000 in
theorem open_zrows {H:Type} {enc:TypeId × Value→H} {W:World} {r:Reach} {b0:Nat} {v:Value} {d:DataW H} {p:List MemPlace}
  (hv:Value.okWide Tryz.prog W r b0 25 v) (h:DataW.Trod enc Tryz.prog W 0 (fun _=>true) true 25 v d p):∃ (a:Option Addr) (cap:Nat) (l:List Zp),v = .slice a l.length cap∧ZsAt W a l:=by
 obtain ⟨a0,len,cap,rfl⟩:=okWide_slice Tryz.underlying25 hv
 obtain ⟨fuel,hf⟩:=h
 rcases Go.Deep.open_slice Tryz.underlying25 hf with ⟨hcs,_⟩ | ⟨a,len',cap',m,n,D,Pl,hcs,_,hl,hm,hmm,_,hx⟩
 ·simp [Value.cells] at hcs
  obtain ⟨rfl,rfl,rfl⟩:=hcs
  exact ⟨none,0,[],rfl,by simp,.inl rfl⟩
 ·simp [Value.cells] at hcs
  obtain ⟨rfl,rfl,rfl⟩:=hcs
  have q:Tryz.prog.cellsOf 33=2:=by kernel_rfl
  rw [q] at hx
  simp only [if_true] at hmm
  obtain ⟨f,hf'⟩:=Go.Deep.choose_lt (α:=Zp) (n:=len) (p:=fun i (z:Zp)=>W.cell? ((a.add (i*2)).add 1)=some (.int .i64 z.2)∧∃ ai cap,W.cell? ((a.add (i*2)).add 0)=some (.slice ai z.1.length cap)∧SlAt W ai z.1) (fun i hi=>by
   obtain ⟨cs',h1,h2⟩:=hx i (by omega)
   exact open_zrow h1 h2)
  refine ⟨some a,cap,(List.range len).map f,by simp,?_,?_⟩
  ·simp; omega
  by_cases h0:len=0
  ·left; simp [h0]
  ·right
   obtain ⟨b,off,spot⟩:=a
   obtain ⟨_,_,hc,_⟩:=(hf' 0 (by omega)).2
   have hspot:spot=none:=by simpa [Addr.add] using World.cell?_spot hc
   subst hspot
   refine ⟨b,off,rfl,?_,fun i hi=>?_⟩
   ·exact World.block_lt_of_cell? W _ (by simpa [Addr.add] using hc)
   ·have hi':i<len:=by simpa using hi
    have:=hf' i hi'
    simp only [addr_add] at this
    simp only [List.getElem_map,List.getElem_range]
    exact this
end Go.Proofs.YtcnmpiahcnkndaaGreat
/- Opening arguments: slices of rows with weights; a nil one has no room. -/
namespace Go.Proofs.YtcnmpiahcnkndaaGreat
open Go.ChangeShapes Go.WideShapes Go.ChangeAt Go.RowKit Go.Joins

set_option maxRecDepth 100000 in
theorem open_zrows2 {H:Type} {enc:TypeId × Value→H} {W:World} {r:Reach} {b0:Nat} {v:Value} {d:DataW H} {p:List MemPlace}
  (hv:Value.okWide Tryz.prog W r b0 25 v) (h:DataW.Trod enc Tryz.prog W 0 (fun _=>true) true 25 v d p):∃ (a:Option Addr) (cap:Nat) (l:List Zp),v = .slice a l.length cap∧ZsAt W a l∧(a=none→cap=0):=by
 obtain ⟨a,cap,l,rfl,hz⟩:=open_zrows hv h
 refine ⟨a,cap,l,rfl,hz,?_⟩
 intro e
 subst e
 obtain ⟨fuel,hf⟩:=h
 rcases Go.Deep.open_slice Tryz.underlying25 hf with ⟨hcs,_⟩ | ⟨a,len',cap',m,n,D,Pl,hcs,_⟩
 ·simp [Value.cells] at hcs
  exact hcs.2
 ·simp [Value.cells] at hcs
end Go.Proofs.YtcnmpiahcnkndaaGreat
/- Opening arguments: numbers, values, expressions. -/
namespace Go.Proofs.YtcnmpiahcnkndaaGreat
open Go.ChangeShapes Go.WideShapes Go.ChangeAt Go.RowKit Go.Joins

set_option maxRecDepth 100000 in
theorem addr_addX (b off i:Nat):(⟨b,off,none⟩:Addr).add i=⟨b,off+i,none⟩:=by
 unfold Addr.add
 by_cases h:i=0 <;> simp [h]
theorem q3:Tryz.prog.cellsOf 3=1:=by kernel_rfl
theorem q2:Tryz.prog.cellsOf 2=1:=by kernel_rfl
theorem q9:Tryz.prog.cellsOf 9=1:=by kernel_rfl
theorem q24:Tryz.prog.cellsOf 38=3:=by kernel_rfl
theorem q25:Tryz.prog.cellsOf 23=1:=by kernel_rfl
theorem q27:Tryz.prog.cellsOf 40=6:=by kernel_rfl
set_option maxRecDepth 100000 in
theorem open_valT {H:Type} {enc:TypeId × Value→H} {W:World} {base:Nat} {sp:Nat→Bool} {hd:Bool} {fuel:Nat} {cs:List Value} {x:DataW H × List MemPlace}
  (h:DataW.trod enc Tryz.prog W base sp hd fuel 38 cs=some x):∃ v:Vl,cs = [.int .i64 v.1,.int .i64 v.2.1,.string v.2.2]:=by
 obtain ⟨y0,y1,y2,m,_,hlen,h0,h1,h2⟩:=Go.Deep.trod_struct3 Tryz.underlying38 h
 rw [q24] at hlen
 match cs,hlen with
 | [c0,c1,c2],_ =>
  simp only [q3,q2,q9] at h0 h1 h2
  obtain ⟨k,e0,_,_⟩:=DataW.trod_int Tryz.underlying3 h0
  obtain ⟨n,e1,_,_⟩:=DataW.trod_int Tryz.underlying2 h1
  obtain ⟨s,e2,_,_⟩:=DataW.trod_string Tryz.underlying9 h2
  simp at e0 e1 e2
  subst e0 e1 e2
  exact ⟨(k,n,s),rfl⟩
set_option maxRecDepth 100000 in
theorem open_ints {H:Type} {enc:TypeId × Value→H} {W:World} {r:Reach} {b0:Nat} {v:Value} {d:DataW H} {p:List MemPlace}
  (hv:Value.okWide Tryz.prog W r b0 22 v) (h:DataW.Trod enc Tryz.prog W 0 (fun _=>true) true 22 v d p):∃ (a:Option Addr) (cap:Nat) (l:List Int),v = .slice a l.length cap∧IsAt W.heap.size W a l:=by
 obtain ⟨a0,len,cap,rfl⟩:=okWide_slice Tryz.underlying22 hv
 obtain ⟨fuel,hf⟩:=h
 rcases Go.Deep.open_slice1 Tryz.underlying22 q3 hf with ⟨hcs,_⟩ | ⟨a,len',cap',m,n,V,D,Pl,hcs,_,hl,hm,hmm,_,hx⟩
 ·simp [Value.cells] at hcs
  obtain ⟨rfl,rfl,rfl⟩:=hcs
  exact ⟨none,0,[],rfl,by simp,.inl rfl⟩
 ·simp [Value.cells] at hcs
  obtain ⟨rfl,rfl,rfl⟩:=hcs
  simp only [if_true] at hmm
  obtain ⟨f,hf'⟩:=Go.Deep.choose_lt (α:=Int) (n:=len) (p:=fun i (k:Int)=>W.cell? (a.add i)=some (.int .i64 k)) (fun i hi=>by
   obtain ⟨h1,h2⟩:=hx i (by omega)
   obtain ⟨k,e0,_,_⟩:=DataW.trod_int Tryz.underlying3 h2
   simp at e0
   exact ⟨k,by rw [h1,e0]⟩)
  refine ⟨some a,cap,(List.range len).map f,by simp,?_,?_⟩
  ·simp; omega
  by_cases h0:len=0
  ·left; simp [h0]
  ·right
   obtain ⟨b,off,spot⟩:=a
   have hc:=hf' 0 (by omega)
   have hspot:spot=none:=by simpa [Addr.add] using World.cell?_spot hc
   subst hspot
   refine ⟨b,off,rfl,World.block_lt_of_cell? W _ (by simpa [Addr.add] using hc),fun i hi=>?_⟩
   have hi':i<len:=by simpa using hi
   have:=hf' i hi'
   simp only [addr_addX] at this
   simp only [List.getElem_map,List.getElem_range]
   exact this
instance:Inhabited Ex:=⟨.mk 0 (0,0,⟨#[]⟩) 0 []⟩
/-- The kids' opening, at less fuel. -/
def KidsOpen {H:Type} (enc:TypeId × Value→H) (W:World) (hd:Bool) (m:Nat):Prop :=
 ∀ cs x,DataW.trod enc Tryz.prog W 0 (fun _=>true) hd m 23 cs=some x→∃ (a:Option Addr) (cap:Nat) (l:List Ex),cs = [.slice a l.length cap]∧KsAt W.heap.size W a l
set_option maxRecDepth 100000 in
theorem open_exprT {H:Type} {enc:TypeId × Value→H} {W:World} {hd:Bool} {fuel:Nat} (ih:∀ m,m<fuel→KidsOpen enc W hd m) {cs:List Value} {x:DataW H × List MemPlace}
  (h:DataW.trod enc Tryz.prog W 0 (fun _=>true) hd fuel 40 cs=some x) :
  ∃ (e:Ex) (a:Option Addr) (cap:Nat),cs = [.int .i64 e.k,.int .i64 e.v.1,.int .i64 e.v.2.1,.string e.v.2.2,.int .i64 e.c,.slice a e.ks.length cap]∧KsAt W.heap.size W a e.ks:=by
 obtain ⟨xs,n,hn,_,hl,hlen,hf⟩:=DataW.trod_struct Tryz.underlying40 h
 rw [q27] at hl
 match xs,hlen with
 | [y0,y1,y2,y3],_ =>
  have h0:=hf 0 _ rfl
  have h1:=hf 1 _ rfl
  have h2:=hf 2 _ rfl
  have h3:=hf 3 _ rfl
  match cs,hl with
  | [c0,c1,c2,c3,c4,c5],_ =>
   simp [q3,q24,q25] at h0 h1 h2 h3
   obtain ⟨k,e0,_,_⟩:=DataW.trod_int Tryz.underlying3 h0
   obtain ⟨v,e1⟩:=open_valT h1
   obtain ⟨c,e2,_,_⟩:=DataW.trod_int Tryz.underlying3 h2
   obtain ⟨a,cap,l,e3,hk⟩:=ih n (by omega) _ _ h3
   simp at e0 e1 e2 e3
   obtain ⟨r1,r2,r3⟩:=e1
   subst e0 r1 r2 r3 e2 e3
   exact ⟨.mk k v c l,a,cap,rfl,hk⟩
set_option maxRecDepth 100000 in
theorem kidsOpen {H:Type} (enc:TypeId × Value→H) (W:World) (hd:Bool) (fuel:Nat):KidsOpen enc W hd fuel:=by
 induction fuel using Nat.strongRecOn with
 | ind fuel ih =>
  intro cs x h
  rcases DataW.trod_slice Tryz.underlying23 h with ⟨hcs,_⟩ | ⟨a,len,cap,elems,rest,n,hn,hcs,_,_,_,_,hlen,hel,_,_⟩
  ·exact ⟨none,0,[],hcs,.nil _⟩
  ·rw [q27] at hel
   obtain ⟨f,hf⟩:=Go.Deep.choose_lt (α:=Ex × Option Addr × Nat) (n:=len) (p:=fun i (y:Ex × Option Addr × Nat) =>
     (W.cell? ((a.add (i*6)).add 0)=some (.int .i64 y.1.k)∧W.cell? ((a.add (i*6)).add 1)=some (.int .i64 y.1.v.1)∧W.cell? ((a.add (i*6)).add 2)=some (.int .i64 y.1.v.2.1)∧W.cell? ((a.add (i*6)).add 3)=some (.string y.1.v.2.2) ∧
      W.cell? ((a.add (i*6)).add 4)=some (.int .i64 y.1.c)∧W.cell? ((a.add (i*6)).add 5)=some (.slice y.2.1 y.1.ks.length y.2.2))∧KsAt W.heap.size W y.2.1 y.1.ks) (fun i hi=>by
    have key:=hel i hi
    rw [List.getElem?_eq_getElem (by omega)] at key
    obtain ⟨cs',h1,h2⟩:=Option.bind_eq_some_iff.1 key
    obtain ⟨_,hl6,hcell⟩:=World.cells?_some h1
    obtain ⟨e,ai,ci,rfl,hk⟩:=open_exprT (fun m hm=>ih m (by omega)) h2
    exact ⟨(e,ai,ci),⟨hcell 0 (by simp),hcell 1 (by simp),hcell 2 (by simp),hcell 3 (by simp),hcell 4 (by simp),hcell 5 (by simp)⟩,hk⟩)
   refine ⟨some a,cap,(List.range len).map fun i=>(f i).1,by simpa using hcs,?_⟩
   by_cases h0:len=0
   ·subst h0; exact .nil _
   ·obtain ⟨b,off,spot⟩:=a
    have hc:=(hf 0 (by omega)).1.1
    have hspot:spot=none:=by simpa [Addr.add] using World.cell?_spot hc
    subst hspot
    refine .some b off _ (fun i=>(f i).2.1) (fun i=>(f i).2.2) (World.block_lt_of_cell? W _ (by simpa [Addr.add] using hc)) (fun i hi=>?_) (fun i hi=>?_)
    ·have hi':i<len:=by simpa using hi
     have:=(hf i hi').1
     simp only [addr_addX] at this
     simp only [List.getElem_map,List.getElem_range]
     exact ⟨this.1,this.2.1,this.2.2.1,this.2.2.2.1,this.2.2.2.2.1,this.2.2.2.2.2⟩
    ·have hi':i<len:=by simpa using hi
     simp only [List.getElem_map,List.getElem_range]
     exact (hf i hi').2
set_option maxRecDepth 100000 in
theorem open_expr {H:Type} {enc:TypeId × Value→H} {W:World} {r:Reach} {b0:Nat} {v:Value} {d:DataW H} {p:List MemPlace}
  (hv:Value.okWide Tryz.prog W r b0 40 v) (h:DataW.Trod enc Tryz.prog W 0 (fun _=>true) true 40 v d p):∃ (e:Ex) (a:Option Addr) (cap:Nat),v=exV e.k e.v e.c a e.ks.length cap∧KsAt W.heap.size W a e.ks:=by
 obtain ⟨cs,rfl,_⟩:=okWide_struct Tryz.underlying40 hv
 obtain ⟨fuel,hf⟩:=h
 obtain ⟨e,a,cap,he,hk⟩:=open_exprT (fun m _=>kidsOpen enc W true m) hf
 refine ⟨e,a,cap,?_,hk⟩
 have e':cs.toList = [.int .i64 e.k,.int .i64 e.v.1,.int .i64 e.v.2.1,.string e.v.2.2,.int .i64 e.c,.slice a e.ks.length cap]:=by simpa [Value.cells] using he
 exact congrArg Value.agg (Array.toList_inj.mp e')
set_option maxRecDepth 100000 in
theorem open_exprs {H:Type} {enc:TypeId × Value→H} {W:World} {r:Reach} {b0:Nat} {v:Value} {d:DataW H} {p:List MemPlace}
  (hv:Value.okWide Tryz.prog W r b0 23 v) (h:DataW.Trod enc Tryz.prog W 0 (fun _=>true) true 23 v d p):∃ (a:Option Addr) (cap:Nat) (l:List Ex),v = .slice a l.length cap∧KsAt W.heap.size W a l:=by
 obtain ⟨a0,len,cap,rfl⟩:=okWide_slice Tryz.underlying23 hv
 obtain ⟨fuel,hf⟩:=h
 obtain ⟨a,c,l,e,hs⟩:=kidsOpen enc W true fuel _ _ hf
 refine ⟨a,c,l,?_,hs⟩
 simpa [Value.cells] using e
end Go.Proofs.YtcnmpiahcnkndaaGreat
