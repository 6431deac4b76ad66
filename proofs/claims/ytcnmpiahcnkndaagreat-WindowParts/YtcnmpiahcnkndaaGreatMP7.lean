/- Together: H3, H4, G1, G3, G4, G5, H5, H6, H7. -/
import Derived.Laws.EntriesVeiled
import Derived.Test.YtcnmpiahcnkndaaGreatMP6
import Derived.Test.YtcnmpiahcnkndaaGreatMP1
/- Ranks, and what begins to tell them. -/
namespace Go.Proofs.YtcnmpiahcnkndaaGreat
open Go.RowKit

def ChI (w1:World) (a:Nat) (h:List Lp) (W:World):Prop:=∃ sv,Bk W a #[sv] 31∧Bk W (a+1) #[.bool h.isEmpty] 4∧∀ q r,h=q :: r→∃ qa qc,sv = .slice qa q.2.1.length qc∧SlAt w1 qa q.2.1
theorem changes_tl (cols:List Int) (w1:World) (a:Nat) (ha:w1.heap.size≤a):Tl cols w1 (fun h p=>.bool (newR h p)) 177 #[.pointer (some ⟨a+1,0,none⟩),.pointer (some ⟨a,0,none⟩)] a (a+2) (ChI w1 a) where
 lo:=ha
 lt:=fun h W ⟨sv,h1,h2,_⟩=>h2.lt
 next:=fun h W W' ⟨sv,h1,h2,h3⟩ _ hs=>⟨sv,h1.same (hs _ (by omega) (by omega)),h2.same (hs _ (by omega) (by omega)),h3⟩
 enter:=enters_of Tryz.func177 (by kernel_rfl) rfl
 call:=fun h p v W ⟨sv,h1,h2,h3⟩ _ _ _ hv hb=>by
  cases h with
  | nil =>
   refine (changes1_nil w1 W hb v p a sv hv h1 h2).mono ?_
   rintro e w' ⟨rfl,⟨oa,oc,k1,k2⟩,k3,k4⟩
   exact ⟨rfl,⟨_,k1,k3,fun q r e=>by cases e; exact ⟨oa,oc,rfl,k2⟩⟩,k4⟩
  | cons q r =>
   obtain ⟨qa,qc,rfl,sq⟩:=h3 q r rfl
   refine (changes1_some w1 W hb v p q a qa qc sq hv h1 h2).mono ?_
   rintro e w' ⟨rfl,⟨oa,oc,k1,k2⟩,k3,k4⟩
   exact ⟨rfl,⟨_,k1,k3,fun q r e=>by cases e; exact ⟨oa,oc,rfl,k2⟩⟩,k4⟩

set_option maxRecDepth 100000 in
set_option maxHeartbeats 1000000 in
theorem changes_at (cols:List Int) (w1 W:World) (hb:w1.heap.size≤W.heap.size):Calls Tryz.prog 135 #[] W fun e W'=>∃ cb c d J,e = .returned (.func (.func 177) #[] cb)∧W.heap.size≤c∧c≤d∧Tl cols w1 (fun h p=>.bool (newR h p)) 177 cb c d J∧J [] W'∧Below W.heap.size W W':=by
 have hA:Below W.heap.size W (W.alloc (.cells #[.slice none 0 0] 31)):=(Below.refl _ _).alloc (Nat.le_refl _) _
 have P:=Bk.new W #[.slice none 0 0] 31
 have hz:(W.alloc (.cells #[.slice none 0 0] 31)).heap.size=W.heap.size+1:=by simp
 go_enter Tryz.func135,Tryz.ntmps135
 go_upto_region 3 with fail
 generalize W.alloc (.cells #[.slice none 0 0] 31)=Wa at *
 have hN:=(Below.refl Wa.heap.size Wa).alloc (Nat.le_refl _) (.cells #[.bool true] 4)
 have R:=Bk.new Wa #[.bool true] 4
 have P:=P.next hN
 have hB:=chain hA hN
 rw [hz] at R
 generalize Wa.alloc (.cells #[.bool true] 4)=Wb at *
 go_wp2_with fail
 go_ret
 exact ⟨_,_,_,_,rfl,Nat.le_refl _,Nat.le_add_right _ 2,changes_tl cols w1 _ hb,⟨_,P,R,fun q r e=>by cases e⟩,hB⟩

set_option maxRecDepth 100000 in
set_option maxHeartbeats 1000000 in
theorem ranks1_true (cols:List Int) (w1 W:World) (hb:Below w1.heap.size w1 W) (h:List Lp) (v:Value) (p:Lp) (a x c d n:Nat) (rk:Int) (g:Nat) (cb:Array Value) (J:List Lp→World→Prop) (t:Tl cols w1 (fun h p=>.bool (newR h p)) g cb c d J) (hJ:J h W) (hn:h.length<1000) (hnn:n<1000) (hfh:∀ q ∈ h,FitP cols q.2.2) (hfp:FitP cols p.2.2) (hac:a+2≤c) (hdx:d≤x) (hcd:c≤d) (hwa:w1.heap.size≤a) (hnb:newR h p=true) (hv:PlaceV w1 v p)
  (h1:Bk W a #[.int .i64 n] 2) (h2:Bk W (a+1) #[.int .i64 rk] 2) (h3:Bk W x #[.func (.func g) #[] cb] 171) :
  Calls Tryz.prog 136 #[v,.pointer (some ⟨a,0,none⟩),.pointer (some ⟨x,0,none⟩),.pointer (some ⟨a+1,0,none⟩)] W fun e W'=>e = .returned (agV (intV ((n:Int)+1)))∧Bk W' a #[.int .i64 ((n:Int)+1)] 2∧Bk W' (a+1) #[.int .i64 ((n:Int)+1)] 2∧Bk W' x #[.func (.func g) #[] cb] 171∧J (p :: h) W'∧KeepO a (x+1) W W':=by
 have tlt:=t.lt _ _ hJ
 obtain ⟨pa,pc,oa,oc,ra,rc,rfl,sp,so,sr⟩:=hv
 have lth1:=h1.lt
 have lth2:=h2.lt
 have lth3:=h3.lt
 have hA:Below W.heap.size W (W.alloc (.cells #[.slice pa p.1.length pc,.slice oa p.2.1.length oc,.slice ra p.2.2.length rc] 66)):=(Below.refl _ _).alloc (Nat.le_refl _) _
 have P:=Bk.new W #[.slice pa p.1.length pc,.slice oa p.2.1.length oc,.slice ra p.2.2.length rc] 66
 go_enter Tryz.func136,Tryz.ntmps136
 go_upto_region 1 with fail
 have hz:(W.alloc (.cells #[.slice pa p.1.length pc,.slice oa p.2.1.length oc,.slice ra p.2.2.length rc] 66)).heap.size=W.heap.size+1:=by simp
 generalize W.alloc (.cells #[.slice pa p.1.length pc,.slice oa p.2.1.length oc,.slice ra p.2.2.length rc] 66)=Wa at *
 have R:=Bk.new Wa #[.int .i64 0,.int .i64 0,.string ⟨#[]⟩] 38
 have hN:=(Below.refl Wa.heap.size Wa).alloc (Nat.le_refl _) (.cells #[.int .i64 0,.int .i64 0,.string ⟨#[]⟩] 38)
 have P:=P.next hN
 have hB:=chain hA hN
 rw [hz] at R
 generalize Wa.alloc (.cells #[.int .i64 0,.int .i64 0,.string ⟨#[]⟩] 38)=Wb at *
 have h1:=h1.next hB
 have h2:=h2.next hB
 have h3:=h3.next hB
 have hJ:=t.keep hJ hB
 have kp:=KeepO.of (a:=a) (b:=(x+1)) hB
 have ltW:Below w1.heap.size w1 W:=hb
 have hw:IntKind.i64.wrap ((n:Int)+1)=(n:Int)+1:=by rw [IntKind.wrap_i64]; omega
 have ch10:=h1.cell 0 rfl
 have fh10:=h1.frozen 0
 go_upto_region 2 with fail
 have h1:=h1.put1 (.int .i64 ((n:Int)+1))
 have h2:=h2.far (p:=⟨a,0,none⟩) (show (a+1)≠a by omega) (.int .i64 ((n:Int)+1))
 have h3:=h3.far (p:=⟨a,0,none⟩) (show x≠a by omega) (.int .i64 ((n:Int)+1))
 have P:=P.far (p:=⟨a,0,none⟩) (show W.heap.size≠a by omega) (.int .i64 ((n:Int)+1))
 have R:=R.far (p:=⟨a,0,none⟩) (show W.heap.size+1≠a by omega) (.int .i64 ((n:Int)+1))
 have hJ:=t.next _ _ (Wb.setCell ⟨a,0,none⟩ (.int .i64 ((n:Int)+1))) hJ (by simp [World.setCell]) (fun k k1 k2=>Below.heap_setCell _ ⟨a,0,none⟩ (.int .i64 ((n:Int)+1)) k (show k≠a by omega))
 have kp:=kp.put (p:=⟨a,0,none⟩) (.inl (show a≤a∧a<(x+1) by omega)) (.int .i64 ((n:Int)+1))
 clear ch10 fh10
 generalize (Wb.setCell ⟨a,0,none⟩ (.int .i64 ((n:Int)+1)))=w11 at *
 have bw:=kp.below (B:=w1.heap.size) hwa hb.size
 have con:=t.call h p (.agg #[.slice pa p.1.length pc,.slice oa p.2.1.length oc,.slice ra p.2.2.length rc]) w11 hJ hn hfh hfp ⟨pa,pc,oa,oc,ra,rc,rfl,sp,so,sr⟩ (hb.trans bw)
 have eg:=t.enter
 rw [hnb] at con
 have ch30:=h3.cell 0 rfl
 have fh30:=h3.frozen 0
 have cP0:=P.cell 0 rfl
 have fP0:=P.frozen 0
 have cP1:=P.cell 1 rfl
 have fP1:=P.frozen 1
 have cP2:=P.cell 2 rfl
 have fP2:=P.frozen 2
 go_wp2_with fail
 first | (refine con.mono ?_) | (go_at_fn g; refine con.mono ?_)
 rintro e w12 ⟨rfl,hJ,hk1⟩
 clear ch30 fh30 cP0 fP0 cP1 fP1 cP2 fP2
 have h1:=h1.keep hk1 (show a<c∨d≤a by omega)
 have h2:=h2.keep hk1 (show (a+1)<c∨d≤(a+1) by omega)
 have h3:=h3.keep hk1 (show x<c∨d≤x by omega)
 have P:=P.keep hk1 (show W.heap.size<c∨d≤W.heap.size by omega)
 have R:=R.keep hk1 (show W.heap.size+1<c∨d≤W.heap.size+1 by omega)
 have kp:=kp.trans (hk1.wide (a':=a) (b':=(x+1)) (by omega) (by omega))
 clear con eg
 have ch10:=h1.cell 0 rfl
 have fh10:=h1.frozen 0
 have ch20:=h2.cell 0 rfl
 have fh20:=h2.frozen 0
 go_upto_region 4 with fail
 have h1:=h1.far (p:=⟨(a+1),0,none⟩) (show a≠(a+1) by omega) (.int .i64 ((n:Int)+1))
 have h2:=h2.put1 (.int .i64 ((n:Int)+1))
 have h3:=h3.far (p:=⟨(a+1),0,none⟩) (show x≠(a+1) by omega) (.int .i64 ((n:Int)+1))
 have P:=P.far (p:=⟨(a+1),0,none⟩) (show W.heap.size≠(a+1) by omega) (.int .i64 ((n:Int)+1))
 have R:=R.far (p:=⟨(a+1),0,none⟩) (show W.heap.size+1≠(a+1) by omega) (.int .i64 ((n:Int)+1))
 have hJ:=t.next _ _ (w12.setCell ⟨(a+1),0,none⟩ (.int .i64 ((n:Int)+1))) hJ (by simp [World.setCell]) (fun k k1 k2=>Below.heap_setCell _ ⟨(a+1),0,none⟩ (.int .i64 ((n:Int)+1)) k (show k≠(a+1) by omega))
 have kp:=kp.put (p:=⟨(a+1),0,none⟩) (.inl (show a≤(a+1)∧(a+1)<(x+1) by omega)) (.int .i64 ((n:Int)+1))
 clear ch10 fh10 ch20 fh20
 generalize (w12.setCell ⟨(a+1),0,none⟩ (.int .i64 ((n:Int)+1)))=w13 at *
 have ch20:=h2.cell 0 rfl
 have fh20:=h2.frozen 0
 go_wp2_with fail
 refine (int_any _ _).mono ?_
 rintro e w14 ⟨rfl,hb1⟩
 clear ch20 fh20
 have h1:=h1.next hb1
 have h2:=h2.next hb1
 have h3:=h3.next hb1
 have P:=P.next hb1
 have R:=R.next hb1
 have hJ:=t.keep hJ hb1
 have kp:=kp.trans (KeepO.of hb1)
 have cR0:=R.cell 0 rfl
 have fR0:=R.frozen 0
 have cR1:=R.cell 1 rfl
 have fR1:=R.frozen 1
 have cR2:=R.cell 2 rfl
 have fR2:=R.frozen 2
 go_wp2_with fail
 have h1:=h1.far3 (g:=W.heap.size+1) (show a≠W.heap.size+1 by omega) (.int .i64 (intK ((n:Int)+1))) (.int .i64 (intN ((n:Int)+1))) (.string ⟨#[]⟩)
 have h2:=h2.far3 (g:=W.heap.size+1) (show (a+1)≠W.heap.size+1 by omega) (.int .i64 (intK ((n:Int)+1))) (.int .i64 (intN ((n:Int)+1))) (.string ⟨#[]⟩)
 have h3:=h3.far3 (g:=W.heap.size+1) (show x≠W.heap.size+1 by omega) (.int .i64 (intK ((n:Int)+1))) (.int .i64 (intN ((n:Int)+1))) (.string ⟨#[]⟩)
 have P:=P.far3 (g:=W.heap.size+1) (show W.heap.size≠W.heap.size+1 by omega) (.int .i64 (intK ((n:Int)+1))) (.int .i64 (intN ((n:Int)+1))) (.string ⟨#[]⟩)
 have R:=R.put3 (.int .i64 (intK ((n:Int)+1))) (.int .i64 (intN ((n:Int)+1))) (.string ⟨#[]⟩)
 have kp:=kp.put3 (g:=W.heap.size+1) (show (a≤W.heap.size+1∧W.heap.size+1<(x+1))∨W.heap.size≤W.heap.size+1 by omega) (.int .i64 (intK ((n:Int)+1))) (.int .i64 (intN ((n:Int)+1))) (.string ⟨#[]⟩)
 have hJ:=t.next _ _ (((w14.setCell ⟨W.heap.size+1,0,none⟩ (.int .i64 (intK ((n:Int)+1)))).setCell ⟨W.heap.size+1,1,none⟩ (.int .i64 (intN ((n:Int)+1)))).setCell ⟨W.heap.size+1,2,none⟩ (.string ⟨#[]⟩)) hJ (by simp [World.setCell]) (fun k k1 k2=>by rw [Below.heap_setCell _ _ _ k (show k≠W.heap.size+1 by omega),Below.heap_setCell _ _ _ k (show k≠W.heap.size+1 by omega),Below.heap_setCell _ _ _ k (show k≠W.heap.size+1 by omega)])
 clear cR0 fR0 cR1 fR1 cR2 fR2
 generalize ((w14.setCell ⟨W.heap.size+1,0,none⟩ (.int .i64 (intK ((n:Int)+1)))).setCell ⟨W.heap.size+1,1,none⟩ (.int .i64 (intN ((n:Int)+1)))).setCell ⟨W.heap.size+1,2,none⟩ (.string ⟨#[]⟩)=w15 at *
 have r0:=R.cell 0 rfl
 have r1:=R.cell 1 rfl
 have r2:=R.cell 2 rfl
 exact bodyPost_ret (v:=agV (intV ((n:Int)+1))) (by simp [results,Tryz.results136,go_sem,r0,r1,r2,intV]) rfl ⟨rfl,h1,h2,h3,hJ,kp⟩
set_option maxRecDepth 100000 in
set_option maxHeartbeats 1000000 in
theorem dense1_true (cols:List Int) (w1 W:World) (hb:Below w1.heap.size w1 W) (h:List Lp) (v:Value) (p:Lp) (a x c d:Nat) (rk:Int) (g:Nat) (cb:Array Value) (J:List Lp→World→Prop) (t:Tl cols w1 (fun h p=>.bool (newR h p)) g cb c d J) (hJ:J h W) (hn:h.length<1000) (hrk:0≤rk∧rk<1000) (hfh:∀ q ∈ h,FitP cols q.2.2) (hfp:FitP cols p.2.2) (hac:a+1≤c) (hdx:d≤x) (hcd:c≤d) (hwa:w1.heap.size≤a) (hnb:newR h p=true) (hv:PlaceV w1 v p)
  (h2:Bk W a #[.int .i64 rk] 2) (h3:Bk W x #[.func (.func g) #[] cb] 171) :
  Calls Tryz.prog 137 #[v,.pointer (some ⟨x,0,none⟩),.pointer (some ⟨a,0,none⟩)] W fun e W'=>e = .returned (agV (intV (rk+1)))∧Bk W' a #[.int .i64 (rk+1)] 2∧Bk W' x #[.func (.func g) #[] cb] 171∧J (p :: h) W'∧KeepO a (x+1) W W':=by
 have tlt:=t.lt _ _ hJ
 obtain ⟨pa,pc,oa,oc,ra,rc,rfl,sp,so,sr⟩:=hv
 have lth2:=h2.lt
 have lth3:=h3.lt
 have hA:Below W.heap.size W (W.alloc (.cells #[.slice pa p.1.length pc,.slice oa p.2.1.length oc,.slice ra p.2.2.length rc] 66)):=(Below.refl _ _).alloc (Nat.le_refl _) _
 have P:=Bk.new W #[.slice pa p.1.length pc,.slice oa p.2.1.length oc,.slice ra p.2.2.length rc] 66
 go_enter Tryz.func137,Tryz.ntmps137
 go_upto_region 1 with fail
 have hz:(W.alloc (.cells #[.slice pa p.1.length pc,.slice oa p.2.1.length oc,.slice ra p.2.2.length rc] 66)).heap.size=W.heap.size+1:=by simp
 generalize W.alloc (.cells #[.slice pa p.1.length pc,.slice oa p.2.1.length oc,.slice ra p.2.2.length rc] 66)=Wa at *
 have R:=Bk.new Wa #[.int .i64 0,.int .i64 0,.string ⟨#[]⟩] 38
 have hN:=(Below.refl Wa.heap.size Wa).alloc (Nat.le_refl _) (.cells #[.int .i64 0,.int .i64 0,.string ⟨#[]⟩] 38)
 have P:=P.next hN
 have hB:=chain hA hN
 rw [hz] at R
 generalize Wa.alloc (.cells #[.int .i64 0,.int .i64 0,.string ⟨#[]⟩] 38)=Wb at *
 have h2:=h2.next hB
 have h3:=h3.next hB
 have hJ:=t.keep hJ hB
 have kp:=KeepO.of (a:=a) (b:=(x+1)) hB
 have ltW:Below w1.heap.size w1 W:=hb
 have hw:IntKind.i64.wrap (rk+1)=rk+1:=by rw [IntKind.wrap_i64]; omega
 have bw:=kp.below (B:=w1.heap.size) hwa hb.size
 have con:=t.call h p (.agg #[.slice pa p.1.length pc,.slice oa p.2.1.length oc,.slice ra p.2.2.length rc]) Wb hJ hn hfh hfp ⟨pa,pc,oa,oc,ra,rc,rfl,sp,so,sr⟩ (hb.trans bw)
 have eg:=t.enter
 rw [hnb] at con
 have ch30:=h3.cell 0 rfl
 have fh30:=h3.frozen 0
 have cP0:=P.cell 0 rfl
 have fP0:=P.frozen 0
 have cP1:=P.cell 1 rfl
 have fP1:=P.frozen 1
 have cP2:=P.cell 2 rfl
 have fP2:=P.frozen 2
 go_wp2_with fail
 first | (refine con.mono ?_) | (go_at_fn g; refine con.mono ?_)
 rintro e w11 ⟨rfl,hJ,hk1⟩
 clear ch30 fh30 cP0 fP0 cP1 fP1 cP2 fP2
 have h2:=h2.keep hk1 (show a<c∨d≤a by omega)
 have h3:=h3.keep hk1 (show x<c∨d≤x by omega)
 have P:=P.keep hk1 (show W.heap.size<c∨d≤W.heap.size by omega)
 have R:=R.keep hk1 (show W.heap.size+1<c∨d≤W.heap.size+1 by omega)
 have kp:=kp.trans (hk1.wide (a':=a) (b':=(x+1)) (by omega) (by omega))
 clear con eg
 have ch20:=h2.cell 0 rfl
 have fh20:=h2.frozen 0
 go_upto_region 3 with fail
 have h2:=h2.put1 (.int .i64 (rk+1))
 have h3:=h3.far (p:=⟨a,0,none⟩) (show x≠a by omega) (.int .i64 (rk+1))
 have P:=P.far (p:=⟨a,0,none⟩) (show W.heap.size≠a by omega) (.int .i64 (rk+1))
 have R:=R.far (p:=⟨a,0,none⟩) (show W.heap.size+1≠a by omega) (.int .i64 (rk+1))
 have hJ:=t.next _ _ (w11.setCell ⟨a,0,none⟩ (.int .i64 (rk+1))) hJ (by simp [World.setCell]) (fun k k1 k2=>Below.heap_setCell _ ⟨a,0,none⟩ (.int .i64 (rk+1)) k (show k≠a by omega))
 have kp:=kp.put (p:=⟨a,0,none⟩) (.inl (show a≤a∧a<(x+1) by omega)) (.int .i64 (rk+1))
 clear ch20 fh20
 generalize (w11.setCell ⟨a,0,none⟩ (.int .i64 (rk+1)))=w12 at *
 have ch20:=h2.cell 0 rfl
 have fh20:=h2.frozen 0
 go_wp2_with fail
 refine (int_any _ _).mono ?_
 rintro e w13 ⟨rfl,hb1⟩
 clear ch20 fh20
 have h2:=h2.next hb1
 have h3:=h3.next hb1
 have P:=P.next hb1
 have R:=R.next hb1
 have hJ:=t.keep hJ hb1
 have kp:=kp.trans (KeepO.of hb1)
 have cR0:=R.cell 0 rfl
 have fR0:=R.frozen 0
 have cR1:=R.cell 1 rfl
 have fR1:=R.frozen 1
 have cR2:=R.cell 2 rfl
 have fR2:=R.frozen 2
 go_wp2_with fail
 have h2:=h2.far3 (g:=W.heap.size+1) (show a≠W.heap.size+1 by omega) (.int .i64 (intK (rk+1))) (.int .i64 (intN (rk+1))) (.string ⟨#[]⟩)
 have h3:=h3.far3 (g:=W.heap.size+1) (show x≠W.heap.size+1 by omega) (.int .i64 (intK (rk+1))) (.int .i64 (intN (rk+1))) (.string ⟨#[]⟩)
 have P:=P.far3 (g:=W.heap.size+1) (show W.heap.size≠W.heap.size+1 by omega) (.int .i64 (intK (rk+1))) (.int .i64 (intN (rk+1))) (.string ⟨#[]⟩)
 have R:=R.put3 (.int .i64 (intK (rk+1))) (.int .i64 (intN (rk+1))) (.string ⟨#[]⟩)
 have kp:=kp.put3 (g:=W.heap.size+1) (show (a≤W.heap.size+1∧W.heap.size+1<(x+1))∨W.heap.size≤W.heap.size+1 by omega) (.int .i64 (intK (rk+1))) (.int .i64 (intN (rk+1))) (.string ⟨#[]⟩)
 have hJ:=t.next _ _ (((w13.setCell ⟨W.heap.size+1,0,none⟩ (.int .i64 (intK (rk+1)))).setCell ⟨W.heap.size+1,1,none⟩ (.int .i64 (intN (rk+1)))).setCell ⟨W.heap.size+1,2,none⟩ (.string ⟨#[]⟩)) hJ (by simp [World.setCell]) (fun k k1 k2=>by rw [Below.heap_setCell _ _ _ k (show k≠W.heap.size+1 by omega),Below.heap_setCell _ _ _ k (show k≠W.heap.size+1 by omega),Below.heap_setCell _ _ _ k (show k≠W.heap.size+1 by omega)])
 clear cR0 fR0 cR1 fR1 cR2 fR2
 generalize ((w13.setCell ⟨W.heap.size+1,0,none⟩ (.int .i64 (intK (rk+1)))).setCell ⟨W.heap.size+1,1,none⟩ (.int .i64 (intN (rk+1)))).setCell ⟨W.heap.size+1,2,none⟩ (.string ⟨#[]⟩)=w14 at *
 have r0:=R.cell 0 rfl
 have r1:=R.cell 1 rfl
 have r2:=R.cell 2 rfl
 exact bodyPost_ret (v:=agV (intV (rk+1))) (by simp [results,Tryz.results137,go_sem,r0,r1,r2,intV]) rfl ⟨rfl,h2,h3,hJ,kp⟩
set_option maxRecDepth 100000 in
set_option maxHeartbeats 1000000 in
theorem ranks1_false (cols:List Int) (w1 W:World) (hb:Below w1.heap.size w1 W) (h:List Lp) (v:Value) (p:Lp) (a x c d n:Nat) (rk:Int) (g:Nat) (cb:Array Value) (J:List Lp→World→Prop) (t:Tl cols w1 (fun h p=>.bool (newR h p)) g cb c d J) (hJ:J h W) (hn:h.length<1000) (hnn:n<1000) (hfh:∀ q ∈ h,FitP cols q.2.2) (hfp:FitP cols p.2.2) (hac:a+2≤c) (hdx:d≤x) (hcd:c≤d) (hwa:w1.heap.size≤a) (hnb:newR h p=false) (hv:PlaceV w1 v p)
  (h1:Bk W a #[.int .i64 n] 2) (h2:Bk W (a+1) #[.int .i64 rk] 2) (h3:Bk W x #[.func (.func g) #[] cb] 171) :
  Calls Tryz.prog 136 #[v,.pointer (some ⟨a,0,none⟩),.pointer (some ⟨x,0,none⟩),.pointer (some ⟨a+1,0,none⟩)] W fun e W'=>e = .returned (agV (intV rk))∧Bk W' a #[.int .i64 ((n:Int)+1)] 2∧Bk W' (a+1) #[.int .i64 rk] 2∧Bk W' x #[.func (.func g) #[] cb] 171∧J (p :: h) W'∧KeepO a (x+1) W W':=by
 have tlt:=t.lt _ _ hJ
 obtain ⟨pa,pc,oa,oc,ra,rc,rfl,sp,so,sr⟩:=hv
 have lth1:=h1.lt
 have lth2:=h2.lt
 have lth3:=h3.lt
 have hA:Below W.heap.size W (W.alloc (.cells #[.slice pa p.1.length pc,.slice oa p.2.1.length oc,.slice ra p.2.2.length rc] 66)):=(Below.refl _ _).alloc (Nat.le_refl _) _
 have P:=Bk.new W #[.slice pa p.1.length pc,.slice oa p.2.1.length oc,.slice ra p.2.2.length rc] 66
 go_enter Tryz.func136,Tryz.ntmps136
 go_upto_region 1 with fail
 have hz:(W.alloc (.cells #[.slice pa p.1.length pc,.slice oa p.2.1.length oc,.slice ra p.2.2.length rc] 66)).heap.size=W.heap.size+1:=by simp
 generalize W.alloc (.cells #[.slice pa p.1.length pc,.slice oa p.2.1.length oc,.slice ra p.2.2.length rc] 66)=Wa at *
 have R:=Bk.new Wa #[.int .i64 0,.int .i64 0,.string ⟨#[]⟩] 38
 have hN:=(Below.refl Wa.heap.size Wa).alloc (Nat.le_refl _) (.cells #[.int .i64 0,.int .i64 0,.string ⟨#[]⟩] 38)
 have P:=P.next hN
 have hB:=chain hA hN
 rw [hz] at R
 generalize Wa.alloc (.cells #[.int .i64 0,.int .i64 0,.string ⟨#[]⟩] 38)=Wb at *
 have h1:=h1.next hB
 have h2:=h2.next hB
 have h3:=h3.next hB
 have hJ:=t.keep hJ hB
 have kp:=KeepO.of (a:=a) (b:=(x+1)) hB
 have ltW:Below w1.heap.size w1 W:=hb
 have hw:IntKind.i64.wrap ((n:Int)+1)=(n:Int)+1:=by rw [IntKind.wrap_i64]; omega
 have ch10:=h1.cell 0 rfl
 have fh10:=h1.frozen 0
 go_upto_region 2 with fail
 have h1:=h1.put1 (.int .i64 ((n:Int)+1))
 have h2:=h2.far (p:=⟨a,0,none⟩) (show (a+1)≠a by omega) (.int .i64 ((n:Int)+1))
 have h3:=h3.far (p:=⟨a,0,none⟩) (show x≠a by omega) (.int .i64 ((n:Int)+1))
 have P:=P.far (p:=⟨a,0,none⟩) (show W.heap.size≠a by omega) (.int .i64 ((n:Int)+1))
 have R:=R.far (p:=⟨a,0,none⟩) (show W.heap.size+1≠a by omega) (.int .i64 ((n:Int)+1))
 have hJ:=t.next _ _ (Wb.setCell ⟨a,0,none⟩ (.int .i64 ((n:Int)+1))) hJ (by simp [World.setCell]) (fun k k1 k2=>Below.heap_setCell _ ⟨a,0,none⟩ (.int .i64 ((n:Int)+1)) k (show k≠a by omega))
 have kp:=kp.put (p:=⟨a,0,none⟩) (.inl (show a≤a∧a<(x+1) by omega)) (.int .i64 ((n:Int)+1))
 clear ch10 fh10
 generalize (Wb.setCell ⟨a,0,none⟩ (.int .i64 ((n:Int)+1)))=w11 at *
 have bw:=kp.below (B:=w1.heap.size) hwa hb.size
 have con:=t.call h p (.agg #[.slice pa p.1.length pc,.slice oa p.2.1.length oc,.slice ra p.2.2.length rc]) w11 hJ hn hfh hfp ⟨pa,pc,oa,oc,ra,rc,rfl,sp,so,sr⟩ (hb.trans bw)
 have eg:=t.enter
 rw [hnb] at con
 have ch30:=h3.cell 0 rfl
 have fh30:=h3.frozen 0
 have cP0:=P.cell 0 rfl
 have fP0:=P.frozen 0
 have cP1:=P.cell 1 rfl
 have fP1:=P.frozen 1
 have cP2:=P.cell 2 rfl
 have fP2:=P.frozen 2
 go_wp2_with fail
 first | (refine con.mono ?_) | (go_at_fn g; refine con.mono ?_)
 rintro e w12 ⟨rfl,hJ,hk1⟩
 clear ch30 fh30 cP0 fP0 cP1 fP1 cP2 fP2
 have h1:=h1.keep hk1 (show a<c∨d≤a by omega)
 have h2:=h2.keep hk1 (show (a+1)<c∨d≤(a+1) by omega)
 have h3:=h3.keep hk1 (show x<c∨d≤x by omega)
 have P:=P.keep hk1 (show W.heap.size<c∨d≤W.heap.size by omega)
 have R:=R.keep hk1 (show W.heap.size+1<c∨d≤W.heap.size+1 by omega)
 have kp:=kp.trans (hk1.wide (a':=a) (b':=(x+1)) (by omega) (by omega))
 clear con eg
 have ch20:=h2.cell 0 rfl
 have fh20:=h2.frozen 0
 go_wp2_with fail
 refine (int_any _ _).mono ?_
 rintro e w13 ⟨rfl,hb1⟩
 clear ch20 fh20
 have h1:=h1.next hb1
 have h2:=h2.next hb1
 have h3:=h3.next hb1
 have P:=P.next hb1
 have R:=R.next hb1
 have hJ:=t.keep hJ hb1
 have kp:=kp.trans (KeepO.of hb1)
 have cR0:=R.cell 0 rfl
 have fR0:=R.frozen 0
 have cR1:=R.cell 1 rfl
 have fR1:=R.frozen 1
 have cR2:=R.cell 2 rfl
 have fR2:=R.frozen 2
 go_wp2_with fail
 have h1:=h1.far3 (g:=W.heap.size+1) (show a≠W.heap.size+1 by omega) (.int .i64 (intK rk)) (.int .i64 (intN rk)) (.string ⟨#[]⟩)
 have h2:=h2.far3 (g:=W.heap.size+1) (show (a+1)≠W.heap.size+1 by omega) (.int .i64 (intK rk)) (.int .i64 (intN rk)) (.string ⟨#[]⟩)
 have h3:=h3.far3 (g:=W.heap.size+1) (show x≠W.heap.size+1 by omega) (.int .i64 (intK rk)) (.int .i64 (intN rk)) (.string ⟨#[]⟩)
 have P:=P.far3 (g:=W.heap.size+1) (show W.heap.size≠W.heap.size+1 by omega) (.int .i64 (intK rk)) (.int .i64 (intN rk)) (.string ⟨#[]⟩)
 have R:=R.put3 (.int .i64 (intK rk)) (.int .i64 (intN rk)) (.string ⟨#[]⟩)
 have kp:=kp.put3 (g:=W.heap.size+1) (show (a≤W.heap.size+1∧W.heap.size+1<(x+1))∨W.heap.size≤W.heap.size+1 by omega) (.int .i64 (intK rk)) (.int .i64 (intN rk)) (.string ⟨#[]⟩)
 have hJ:=t.next _ _ (((w13.setCell ⟨W.heap.size+1,0,none⟩ (.int .i64 (intK rk))).setCell ⟨W.heap.size+1,1,none⟩ (.int .i64 (intN rk))).setCell ⟨W.heap.size+1,2,none⟩ (.string ⟨#[]⟩)) hJ (by simp [World.setCell]) (fun k k1 k2=>by rw [Below.heap_setCell _ _ _ k (show k≠W.heap.size+1 by omega),Below.heap_setCell _ _ _ k (show k≠W.heap.size+1 by omega),Below.heap_setCell _ _ _ k (show k≠W.heap.size+1 by omega)])
 clear cR0 fR0 cR1 fR1 cR2 fR2
 generalize ((w13.setCell ⟨W.heap.size+1,0,none⟩ (.int .i64 (intK rk))).setCell ⟨W.heap.size+1,1,none⟩ (.int .i64 (intN rk))).setCell ⟨W.heap.size+1,2,none⟩ (.string ⟨#[]⟩)=w14 at *
 have r0:=R.cell 0 rfl
 have r1:=R.cell 1 rfl
 have r2:=R.cell 2 rfl
 exact bodyPost_ret (v:=agV (intV rk)) (by simp [results,Tryz.results136,go_sem,r0,r1,r2,intV]) rfl ⟨rfl,h1,h2,h3,hJ,kp⟩
set_option maxRecDepth 100000 in
set_option maxHeartbeats 1000000 in
theorem dense1_false (cols:List Int) (w1 W:World) (hb:Below w1.heap.size w1 W) (h:List Lp) (v:Value) (p:Lp) (a x c d:Nat) (rk:Int) (g:Nat) (cb:Array Value) (J:List Lp→World→Prop) (t:Tl cols w1 (fun h p=>.bool (newR h p)) g cb c d J) (hJ:J h W) (hn:h.length<1000) (hrk:0≤rk∧rk<1000) (hfh:∀ q ∈ h,FitP cols q.2.2) (hfp:FitP cols p.2.2) (hac:a+1≤c) (hdx:d≤x) (_hcd:c≤d) (hwa:w1.heap.size≤a) (hnb:newR h p=false) (hv:PlaceV w1 v p)
  (h2:Bk W a #[.int .i64 rk] 2) (h3:Bk W x #[.func (.func g) #[] cb] 171) :
  Calls Tryz.prog 137 #[v,.pointer (some ⟨x,0,none⟩),.pointer (some ⟨a,0,none⟩)] W fun e W'=>e = .returned (agV (intV rk))∧Bk W' a #[.int .i64 rk] 2∧Bk W' x #[.func (.func g) #[] cb] 171∧J (p :: h) W'∧KeepO a (x+1) W W':=by
 have tlt:=t.lt _ _ hJ
 obtain ⟨pa,pc,oa,oc,ra,rc,rfl,sp,so,sr⟩:=hv
 have lth2:=h2.lt
 have lth3:=h3.lt
 have hA:Below W.heap.size W (W.alloc (.cells #[.slice pa p.1.length pc,.slice oa p.2.1.length oc,.slice ra p.2.2.length rc] 66)):=(Below.refl _ _).alloc (Nat.le_refl _) _
 have P:=Bk.new W #[.slice pa p.1.length pc,.slice oa p.2.1.length oc,.slice ra p.2.2.length rc] 66
 go_enter Tryz.func137,Tryz.ntmps137
 go_upto_region 1 with fail
 have hz:(W.alloc (.cells #[.slice pa p.1.length pc,.slice oa p.2.1.length oc,.slice ra p.2.2.length rc] 66)).heap.size=W.heap.size+1:=by simp
 generalize W.alloc (.cells #[.slice pa p.1.length pc,.slice oa p.2.1.length oc,.slice ra p.2.2.length rc] 66)=Wa at *
 have R:=Bk.new Wa #[.int .i64 0,.int .i64 0,.string ⟨#[]⟩] 38
 have hN:=(Below.refl Wa.heap.size Wa).alloc (Nat.le_refl _) (.cells #[.int .i64 0,.int .i64 0,.string ⟨#[]⟩] 38)
 have P:=P.next hN
 have hB:=chain hA hN
 rw [hz] at R
 generalize Wa.alloc (.cells #[.int .i64 0,.int .i64 0,.string ⟨#[]⟩] 38)=Wb at *
 have h2:=h2.next hB
 have h3:=h3.next hB
 have hJ:=t.keep hJ hB
 have kp:=KeepO.of (a:=a) (b:=(x+1)) hB
 have ltW:Below w1.heap.size w1 W:=hb
 have hw:IntKind.i64.wrap (rk+1)=rk+1:=by rw [IntKind.wrap_i64]; omega
 have bw:=kp.below (B:=w1.heap.size) hwa hb.size
 have con:=t.call h p (.agg #[.slice pa p.1.length pc,.slice oa p.2.1.length oc,.slice ra p.2.2.length rc]) Wb hJ hn hfh hfp ⟨pa,pc,oa,oc,ra,rc,rfl,sp,so,sr⟩ (hb.trans bw)
 have eg:=t.enter
 rw [hnb] at con
 have ch30:=h3.cell 0 rfl
 have fh30:=h3.frozen 0
 have cP0:=P.cell 0 rfl
 have fP0:=P.frozen 0
 have cP1:=P.cell 1 rfl
 have fP1:=P.frozen 1
 have cP2:=P.cell 2 rfl
 have fP2:=P.frozen 2
 go_wp2_with fail
 first | (refine con.mono ?_) | (go_at_fn g; refine con.mono ?_)
 rintro e w11 ⟨rfl,hJ,hk1⟩
 clear ch30 fh30 cP0 fP0 cP1 fP1 cP2 fP2
 have h2:=h2.keep hk1 (show a<c∨d≤a by omega)
 have h3:=h3.keep hk1 (show x<c∨d≤x by omega)
 have P:=P.keep hk1 (show W.heap.size<c∨d≤W.heap.size by omega)
 have R:=R.keep hk1 (show W.heap.size+1<c∨d≤W.heap.size+1 by omega)
 have kp:=kp.trans (hk1.wide (a':=a) (b':=(x+1)) (by omega) (by omega))
 clear con eg
 have ch20:=h2.cell 0 rfl
 have fh20:=h2.frozen 0
 go_wp2_with fail
 refine (int_any _ _).mono ?_
 rintro e w12 ⟨rfl,hb1⟩
 clear ch20 fh20
 have h2:=h2.next hb1
 have h3:=h3.next hb1
 have P:=P.next hb1
 have R:=R.next hb1
 have hJ:=t.keep hJ hb1
 have kp:=kp.trans (KeepO.of hb1)
 have cR0:=R.cell 0 rfl
 have fR0:=R.frozen 0
 have cR1:=R.cell 1 rfl
 have fR1:=R.frozen 1
 have cR2:=R.cell 2 rfl
 have fR2:=R.frozen 2
 go_wp2_with fail
 have h2:=h2.far3 (g:=W.heap.size+1) (show a≠W.heap.size+1 by omega) (.int .i64 (intK rk)) (.int .i64 (intN rk)) (.string ⟨#[]⟩)
 have h3:=h3.far3 (g:=W.heap.size+1) (show x≠W.heap.size+1 by omega) (.int .i64 (intK rk)) (.int .i64 (intN rk)) (.string ⟨#[]⟩)
 have P:=P.far3 (g:=W.heap.size+1) (show W.heap.size≠W.heap.size+1 by omega) (.int .i64 (intK rk)) (.int .i64 (intN rk)) (.string ⟨#[]⟩)
 have R:=R.put3 (.int .i64 (intK rk)) (.int .i64 (intN rk)) (.string ⟨#[]⟩)
 have kp:=kp.put3 (g:=W.heap.size+1) (show (a≤W.heap.size+1∧W.heap.size+1<(x+1))∨W.heap.size≤W.heap.size+1 by omega) (.int .i64 (intK rk)) (.int .i64 (intN rk)) (.string ⟨#[]⟩)
 have hJ:=t.next _ _ (((w12.setCell ⟨W.heap.size+1,0,none⟩ (.int .i64 (intK rk))).setCell ⟨W.heap.size+1,1,none⟩ (.int .i64 (intN rk))).setCell ⟨W.heap.size+1,2,none⟩ (.string ⟨#[]⟩)) hJ (by simp [World.setCell]) (fun k k1 k2=>by rw [Below.heap_setCell _ _ _ k (show k≠W.heap.size+1 by omega),Below.heap_setCell _ _ _ k (show k≠W.heap.size+1 by omega),Below.heap_setCell _ _ _ k (show k≠W.heap.size+1 by omega)])
 clear cR0 fR0 cR1 fR1 cR2 fR2
 generalize ((w12.setCell ⟨W.heap.size+1,0,none⟩ (.int .i64 (intK rk))).setCell ⟨W.heap.size+1,1,none⟩ (.int .i64 (intN rk))).setCell ⟨W.heap.size+1,2,none⟩ (.string ⟨#[]⟩)=w13 at *
 have r0:=R.cell 0 rfl
 have r1:=R.cell 1 rfl
 have r2:=R.cell 2 rfl
 exact bodyPost_ret (v:=agV (intV rk)) (by simp [results,Tryz.results137,go_sem,r0,r1,r2,intV]) rfl ⟨rfl,h2,h3,hJ,kp⟩
end Go.Proofs.YtcnmpiahcnkndaaGreat
/- What begins to tell numbers and ranks; what tells sums and what was ahead. -/
namespace Go.Proofs.YtcnmpiahcnkndaaGreat
open Go.RowKit

theorem numbers_tl (cols:List Int) (w1:World) (a:Nat) (ha:w1.heap.size≤a):Tl cols w1 (fun h p=>agV (tRow h p)) 133 #[.pointer (some ⟨a,0,none⟩)] a (a+1) (fun h W=>Bk W a #[.int .i64 h.length] 2) where
 lo:=ha
 lt:=fun h W h1=>h1.lt
 next:=fun h W W' h1 _ hs=>h1.same (hs _ (Nat.le_refl _) (by omega))
 enter:=enters_of Tryz.func133 (by kernel_rfl) rfl
 call:=fun h p v W h1 hn _ _ hv hb=>by
  refine (numbers1_at w1 W hb v p a h.length hn hv h1).mono ?_
  rintro e w' ⟨rfl,k1,k2⟩
  exact ⟨rfl,by simpa using k1,k2⟩
set_option maxRecDepth 100000 in
set_option maxHeartbeats 1000000 in
theorem numbers_at (W:World):Calls Tryz.prog 94 #[] W fun e W'=>e = .returned (.func (.func 133) #[] #[.pointer (some ⟨W.heap.size,0,none⟩)])∧Bk W' W.heap.size #[.int .i64 0] 2∧Below W.heap.size W W':=by
 have hA:Below W.heap.size W (W.alloc (.cells #[.int .i64 0] 2)):=(Below.refl _ _).alloc (Nat.le_refl _) _
 have P:=Bk.new W #[.int .i64 0] 2
 go_enter Tryz.func94,Tryz.ntmps94
 go_wp2_with fail
 go_ret
 exact ⟨rfl,P,hA⟩
theorem numbers_begs (cols:List Int) (lo:Nat) (w:World):Begs cols lo (.func (.func 94) #[] #[]) (fun h p=>agV (tRow h p)) w :=
 ⟨94,#[],rfl,enters_of Tryz.func94 (by kernel_rfl) rfl,fun w1 W _ hb=>(numbers_at W).mono fun e W' h=>⟨_,_,_,_,_,h.1,Nat.le_refl _,numbers_tl cols w1 _ hb.size,h.2.1,h.2.2⟩⟩

def RkI (a x g:Nat) (cb:Array Value) (J:List Lp→World→Prop) (h:List Lp) (W:World):Prop:=Bk W a #[.int .i64 h.length] 2∧Bk W (a+1) #[.int .i64 (rkS h)] 2∧Bk W x #[.func (.func g) #[] cb] 171∧J h W
theorem ranks_tl (cols:List Int) (w1:World) (a x c d g:Nat) (cb:Array Value) (J:List Lp→World→Prop) (t:Tl cols w1 (fun h p=>.bool (newR h p)) g cb c d J) (hac:a+2≤c) (hdx:d≤x) (hcd:c≤d) (hwa:w1.heap.size≤a):Tl cols w1 (fun h p=>agV (tRank h p)) 136 #[.pointer (some ⟨a,0,none⟩),.pointer (some ⟨x,0,none⟩),.pointer (some ⟨a+1,0,none⟩)] a (x+1) (RkI a x g cb J) where
 lo:=hwa
 lt:=fun h W ⟨_,_,h3,_⟩=>h3.lt
 next:=fun h W W' ⟨h1,h2,h3,h4⟩ hz hs=>⟨h1.same (hs _ (by omega) (by omega)),h2.same (hs _ (by omega) (by omega)),h3.same (hs _ (by omega) (by omega)),t.next h W W' h4 hz fun k k1 k2=>hs k (by omega) (by omega)⟩
 enter:=enters_of Tryz.func136 (by kernel_rfl) rfl
 call:=fun h p v W ⟨h1,h2,h3,h4⟩ hn hfh hfp hv hb=>by
  cases hnb:newR h p
  ·refine (ranks1_false cols w1 W hb h v p a x c d h.length (rkS h) g cb J t h4 hn hn hfh hfp hac hdx hcd hwa hnb hv h1 h2 h3).mono ?_
   rintro e w' ⟨rfl,k1,k2,k3,k4,k5⟩
   have e:rkS (p :: h)=rkS h:=by simp [rkS,hnb]
   exact ⟨by simp only [tRank,e],⟨by simpa using k1,by rw [e]; exact k2,k3,k4⟩,k5⟩
  ·refine (ranks1_true cols w1 W hb h v p a x c d h.length (rkS h) g cb J t h4 hn hn hfh hfp hac hdx hcd hwa hnb hv h1 h2 h3).mono ?_
   rintro e w' ⟨rfl,k1,k2,k3,k4,k5⟩
   have e:rkS (p :: h)=(h.length:Int)+1:=by simp [rkS,hnb]
   exact ⟨by simp only [tRank,e],⟨by simpa using k1,by rw [e]; exact k2,k3,k4⟩,k5⟩
def DnI (a x g:Nat) (cb:Array Value) (J:List Lp→World→Prop) (h:List Lp) (W:World):Prop:=Bk W a #[.int .i64 (dnS h)] 2∧Bk W x #[.func (.func g) #[] cb] 171∧J h W
theorem dense_tl (cols:List Int) (w1:World) (a x c d g:Nat) (cb:Array Value) (J:List Lp→World→Prop) (t:Tl cols w1 (fun h p=>.bool (newR h p)) g cb c d J) (hac:a+1≤c) (hdx:d≤x) (hcd:c≤d) (hwa:w1.heap.size≤a):Tl cols w1 (fun h p=>agV (tDense h p)) 137 #[.pointer (some ⟨x,0,none⟩),.pointer (some ⟨a,0,none⟩)] a (x+1) (DnI a x g cb J) where
 lo:=hwa
 lt:=fun h W ⟨_,h3,_⟩=>h3.lt
 next:=fun h W W' ⟨h2,h3,h4⟩ hz hs=>⟨h2.same (hs _ (by omega) (by omega)),h3.same (hs _ (by omega) (by omega)),t.next h W W' h4 hz fun k k1 k2=>hs k (by omega) (by omega)⟩
 enter:=enters_of Tryz.func137 (by kernel_rfl) rfl
 call:=fun h p v W ⟨h2,h3,h4⟩ hn hfh hfp hv hb=>by
  have hbd:=dnS_bd h
  cases hnb:newR h p
  ·refine (dense1_false cols w1 W hb h v p a x c d (dnS h) g cb J t h4 hn (by omega) hfh hfp hac hdx hcd hwa hnb hv h2 h3).mono ?_
   rintro e w' ⟨rfl,k2,k3,k4,k5⟩
   have e:dnS (p :: h)=dnS h:=by simp [dnS,hnb]
   exact ⟨by simp only [tDense,e],⟨by rw [e]; exact k2,k3,k4⟩,k5⟩
  ·refine (dense1_true cols w1 W hb h v p a x c d (dnS h) g cb J t h4 hn (by omega) hfh hfp hac hdx hcd hwa hnb hv h2 h3).mono ?_
   rintro e w' ⟨rfl,k2,k3,k4,k5⟩
   have e:dnS (p :: h)=dnS h+1:=by simp [dnS,hnb]
   exact ⟨by simp only [tDense,e],⟨by rw [e]; exact k2,k3,k4⟩,k5⟩

set_option maxRecDepth 100000 in
set_option maxHeartbeats 1000000 in
theorem ranks_at (cols:List Int) (w1 W:World) (hb:Below w1.heap.size w1 W):Calls Tryz.prog 95 #[] W fun e W'=>∃ g' cb' a b I,e = .returned (.func (.func g') #[] cb')∧W.heap.size≤a∧Tl cols w1 (fun h p=>agV (tRank h p)) g' cb' a b I∧I [] W'∧Below W.heap.size W W':=by
 have hA:Below W.heap.size W (W.alloc (.cells #[.int .i64 0] 2)):=(Below.refl _ _).alloc (Nat.le_refl _) _
 have P:=Bk.new W #[.int .i64 0] 2
 have hz:(W.alloc (.cells #[.int .i64 0] 2)).heap.size=W.heap.size+1:=by simp
 go_enter Tryz.func95,Tryz.ntmps95
 go_upto_region 2 with fail
 generalize W.alloc (.cells #[.int .i64 0] 2)=Wa at *
 have hN:=(Below.refl Wa.heap.size Wa).alloc (Nat.le_refl _) (.cells #[.int .i64 0] 2)
 have R:=Bk.new Wa #[.int .i64 0] 2
 have P:=P.next hN
 have hB:=chain hA hN
 rw [hz] at R
 generalize Wa.alloc (.cells #[.int .i64 0] 2)=Wb at *
 have ltb:=R.lt
 go_wp2_with fail
 have hsz:=hb.size
 refine (changes_at cols w1 Wb (by omega)).mono ?_
 rintro e w2 ⟨cb,c,d,J,rfl,hc1,hcd,t,hJ,hb2⟩
 have P:=P.next hb2
 have R:=R.next hb2
 have hB:=chain hB hb2
 have hl:=t.lt _ _ hJ
 have hN2:=(Below.refl w2.heap.size w2).alloc (Nat.le_refl _) (.cells #[.func (.func 177) #[] cb] 171)
 have Q:=Bk.new w2 #[.func (.func 177) #[] cb] 171
 have P:=P.next hN2
 have R:=R.next hN2
 have hB:=chain hB hN2
 have hJ:=t.keep hJ hN2
 go_wp2_with fail
 generalize w2.alloc (.cells #[.func (.func 177) #[] cb] 171)=w3 at *
 go_ret
 exact ⟨_,_,_,_,_,rfl,Nat.le_refl _,ranks_tl cols w1 W.heap.size w2.heap.size _ _ _ _ _ t (by omega) hl hcd hb.size,⟨P,R,Q,hJ⟩,hB⟩
set_option maxRecDepth 100000 in
set_option maxHeartbeats 1000000 in
theorem dense_at (cols:List Int) (w1 W:World) (hb:Below w1.heap.size w1 W):Calls Tryz.prog 96 #[] W fun e W'=>∃ g' cb' a b I,e = .returned (.func (.func g') #[] cb')∧W.heap.size≤a∧Tl cols w1 (fun h p=>agV (tDense h p)) g' cb' a b I∧I [] W'∧Below W.heap.size W W':=by
 have hA:Below W.heap.size W (W.alloc (.cells #[.int .i64 0] 2)):=(Below.refl _ _).alloc (Nat.le_refl _) _
 have R:=Bk.new W #[.int .i64 0] 2
 go_enter Tryz.func96,Tryz.ntmps96
 go_upto_region 2 with fail
 generalize W.alloc (.cells #[.int .i64 0] 2)=Wb at *
 have ltb:=R.lt
 go_wp2_with fail
 have hsz:=hb.size
 refine (changes_at cols w1 Wb (by omega)).mono ?_
 rintro e w2 ⟨cb,c,d,J,rfl,hc1,hcd,t,hJ,hb2⟩
 have R:=R.next hb2
 have hB:=chain hA hb2
 have hl:=t.lt _ _ hJ
 have hN2:=(Below.refl w2.heap.size w2).alloc (Nat.le_refl _) (.cells #[.func (.func 177) #[] cb] 171)
 have Q:=Bk.new w2 #[.func (.func 177) #[] cb] 171
 have R:=R.next hN2
 have hB:=chain hB hN2
 have hJ:=t.keep hJ hN2
 go_wp2_with fail
 generalize w2.alloc (.cells #[.func (.func 177) #[] cb] 171)=w3 at *
 go_ret
 exact ⟨_,_,_,_,_,rfl,Nat.le_refl _,dense_tl cols w1 W.heap.size w2.heap.size _ _ _ _ _ t (by omega) hl hcd hb.size,⟨R,Q,hJ⟩,hB⟩
theorem ranks_begs (cols:List Int) (lo:Nat) (w:World):Begs cols lo (.func (.func 95) #[] #[]) (fun h p=>agV (tRank h p)) w :=
 ⟨95,#[],rfl,enters_of Tryz.func95 (by kernel_rfl) rfl,fun w1 W _ hb=>ranks_at cols w1 W hb⟩
theorem dense_begs (cols:List Int) (lo:Nat) (w:World):Begs cols lo (.func (.func 96) #[] #[]) (fun h p=>agV (tDense h p)) w :=
 ⟨96,#[],rfl,enters_of Tryz.func96 (by kernel_rfl) rfl,fun w1 W _ hb=>dense_at cols w1 W hb⟩

set_option maxRecDepth 100000 in
set_option maxHeartbeats 1000000 in
theorem lags1_at (cols:List Int) (w1 W:World) (hb:Below w1.heap.size w1 W) (lo:Nat) (uv:Value) (f:List Vl→Vl) (hV:Asks cols lo uv f w1) (v:Value) (p:Lp) (x:Vl) (a y:Nat) (hay:a<y) (hwa:w1.heap.size≤a) (hfp:FitP cols p.2.2) (hv:PlaceV w1 v p)
  (h1:Bk W a #[uv] 99) (h2:Bk W y #[.int .i64 x.1,.int .i64 x.2.1,.string x.2.2] 38) :
  Calls Tryz.prog 139 #[v,.pointer (some ⟨y,0,none⟩),.pointer (some ⟨a,0,none⟩)] W fun e W'=>e = .returned (agV x)∧Bk W' a #[uv] 99∧Bk W' y #[.int .i64 (f p.2.2).1,.int .i64 (f p.2.2).2.1,.string (f p.2.2).2.2] 38∧KeepO a (y+1) W W':=by
 obtain ⟨gv,cv,rfl,egv,dv⟩:=hV
 obtain ⟨pa,pc,oa,oc,ra,rc,rfl,sp,so,sr⟩:=hv
 have lth1:=h1.lt
 have lth2:=h2.lt
 have hA:Below W.heap.size W (W.alloc (.cells #[.slice pa p.1.length pc,.slice oa p.2.1.length oc,.slice ra p.2.2.length rc] 66)):=(Below.refl _ _).alloc (Nat.le_refl _) _
 have P:=Bk.new W #[.slice pa p.1.length pc,.slice oa p.2.1.length oc,.slice ra p.2.2.length rc] 66
 go_enter Tryz.func139,Tryz.ntmps139
 go_upto_region 1 with fail
 have hz:(W.alloc (.cells #[.slice pa p.1.length pc,.slice oa p.2.1.length oc,.slice ra p.2.2.length rc] 66)).heap.size=W.heap.size+1:=by simp
 generalize W.alloc (.cells #[.slice pa p.1.length pc,.slice oa p.2.1.length oc,.slice ra p.2.2.length rc] 66)=Wa at *
 have R:=Bk.new Wa #[.int .i64 0,.int .i64 0,.string ⟨#[]⟩] 38
 have hN:=(Below.refl Wa.heap.size Wa).alloc (Nat.le_refl _) (.cells #[.int .i64 0,.int .i64 0,.string ⟨#[]⟩] 38)
 have P:=P.next hN
 have hB:=chain hA hN
 rw [hz] at R
 generalize Wa.alloc (.cells #[.int .i64 0,.int .i64 0,.string ⟨#[]⟩] 38)=Wb at *
 have h1:=h1.next hB
 have h2:=h2.next hB
 have kp:=KeepO.of (a:=a) (b:=(y+1)) hB
 have ltW:Below w1.heap.size w1 W:=hb
 have ch20:=h2.cell 0 rfl
 have fh20:=h2.frozen 0
 have ch21:=h2.cell 1 rfl
 have fh21:=h2.frozen 1
 have ch22:=h2.cell 2 rfl
 have fh22:=h2.frozen 2
 go_upto_region 2 with fail
 have hN:=(Below.refl Wb.heap.size Wb).alloc (Nat.le_refl _) (.cells #[.int .i64 x.1,.int .i64 x.2.1,.string x.2.2] 38)
 have lth1:=h1.lt
 have h1:=h1.next hN
 have lth2:=h2.lt
 have h2:=h2.next hN
 have ltP:=P.lt
 have P:=P.next hN
 have ltR:=R.lt
 have R:=R.next hN
 have kp:=kp.trans (KeepO.of hN)
 have V:=Bk.new Wb #[.int .i64 x.1,.int .i64 x.2.1,.string x.2.2] 38
 clear ch20 fh20 ch21 fh21 ch22 fh22
 generalize Wb.alloc (.cells #[.int .i64 x.1,.int .i64 x.2.1,.string x.2.2] 38)=w11 at *
 have bw:=hb.trans (kp.below (B:=w1.heap.size) hwa hb.size)
 have con:=dv p.2.2 ra rc w11 hfp (sr.next bw) (Since.of bw)
 have ch10:=h1.cell 0 rfl
 have fh10:=h1.frozen 0
 have cP2:=P.cell 2 rfl
 have fP2:=P.frozen 2
 go_wp2_with fail
 first | (refine con.mono ?_) | (go_at_fn gv; refine con.mono ?_)
 rintro e w12 ⟨rfl,hb1⟩
 clear ch10 fh10 cP2 fP2
 have h1:=h1.next hb1
 have h2:=h2.next hb1
 have P:=P.next hb1
 have R:=R.next hb1
 have V:=V.next hb1
 have kp:=kp.trans (KeepO.of hb1)
 clear con egv dv
 unfold agV
 have ch20:=h2.cell 0 rfl
 have fh20:=h2.frozen 0
 have ch21:=h2.cell 1 rfl
 have fh21:=h2.frozen 1
 have ch22:=h2.cell 2 rfl
 have fh22:=h2.frozen 2
 go_upto_region 3 with fail
 have h1:=h1.far3 (g:=y) (show a≠y by omega) (.int .i64 (f p.2.2).1) (.int .i64 (f p.2.2).2.1) (.string (f p.2.2).2.2)
 have h2:=h2.put3 (.int .i64 (f p.2.2).1) (.int .i64 (f p.2.2).2.1) (.string (f p.2.2).2.2)
 have P:=P.far3 (g:=y) (show W.heap.size≠y by omega) (.int .i64 (f p.2.2).1) (.int .i64 (f p.2.2).2.1) (.string (f p.2.2).2.2)
 have R:=R.far3 (g:=y) (show W.heap.size+1≠y by omega) (.int .i64 (f p.2.2).1) (.int .i64 (f p.2.2).2.1) (.string (f p.2.2).2.2)
 have V:=V.far3 (g:=y) (show Wb.heap.size≠y by omega) (.int .i64 (f p.2.2).1) (.int .i64 (f p.2.2).2.1) (.string (f p.2.2).2.2)
 have kp:=kp.put3 (g:=y) (show (a≤y∧y<(y+1))∨W.heap.size≤y by omega) (.int .i64 (f p.2.2).1) (.int .i64 (f p.2.2).2.1) (.string (f p.2.2).2.2)
 clear ch20 fh20 ch21 fh21 ch22 fh22
 generalize ((w12.setCell ⟨y,0,none⟩ (.int .i64 (f p.2.2).1)).setCell ⟨y,1,none⟩ (.int .i64 (f p.2.2).2.1)).setCell ⟨y,2,none⟩ (.string (f p.2.2).2.2)=w13 at *
 have cV0:=V.cell 0 rfl
 have fV0:=V.frozen 0
 have cV1:=V.cell 1 rfl
 have fV1:=V.frozen 1
 have cV2:=V.cell 2 rfl
 have fV2:=V.frozen 2
 have cR0:=R.cell 0 rfl
 have fR0:=R.frozen 0
 have cR1:=R.cell 1 rfl
 have fR1:=R.frozen 1
 have cR2:=R.cell 2 rfl
 have fR2:=R.frozen 2
 go_wp2_with fail
 have h1:=h1.far3 (g:=W.heap.size+1) (show a≠W.heap.size+1 by omega) (.int .i64 x.1) (.int .i64 x.2.1) (.string x.2.2)
 have h2:=h2.far3 (g:=W.heap.size+1) (show y≠W.heap.size+1 by omega) (.int .i64 x.1) (.int .i64 x.2.1) (.string x.2.2)
 have P:=P.far3 (g:=W.heap.size+1) (show W.heap.size≠W.heap.size+1 by omega) (.int .i64 x.1) (.int .i64 x.2.1) (.string x.2.2)
 have R:=R.put3 (.int .i64 x.1) (.int .i64 x.2.1) (.string x.2.2)
 have V:=V.far3 (g:=W.heap.size+1) (show Wb.heap.size≠W.heap.size+1 by omega) (.int .i64 x.1) (.int .i64 x.2.1) (.string x.2.2)
 have kp:=kp.put3 (g:=W.heap.size+1) (show (a≤W.heap.size+1∧W.heap.size+1<(y+1))∨W.heap.size≤W.heap.size+1 by omega) (.int .i64 x.1) (.int .i64 x.2.1) (.string x.2.2)
 clear cR0 fR0 cR1 fR1 cR2 fR2
 generalize ((w13.setCell ⟨W.heap.size+1,0,none⟩ (.int .i64 x.1)).setCell ⟨W.heap.size+1,1,none⟩ (.int .i64 x.2.1)).setCell ⟨W.heap.size+1,2,none⟩ (.string x.2.2)=w14 at *
 have r0:=R.cell 0 rfl
 have r1:=R.cell 1 rfl
 have r2:=R.cell 2 rfl
 exact bodyPost_ret (v:=agV x) (by simp [results,Tryz.results139,go_sem,r0,r1,r2,agV]) rfl ⟨rfl,h1,h2,kp⟩
set_option maxRecDepth 100000 in
set_option maxHeartbeats 1000000 in
theorem sums1_a (cols:List Int) (w1 W:World) (hb:Below w1.heap.size w1 W) (lo:Nat) (uv:Value) (f:List Vl→Vl) (hV:Asks cols lo uv f w1) (v:Value) (p:Lp) (sm:Int) (_kn:Bool) (_hsm:-1000000000000000000≤sm∧sm≤1000000000000000000) (_hfn:-1000000000000000≤(f p.2.2).2.1∧(f p.2.2).2.1≤1000000000000000) (hq:((f p.2.2).1 != 1)=false) (a:Nat) (hwa:w1.heap.size≤a) (hfp:FitP cols p.2.2) (hv:PlaceV w1 v p)
  (h1:Bk W a #[uv] 99) (h2:Bk W (a+1) #[.int .i64 sm] 2) (h3:Bk W (a+2) #[.bool false] 4) :
  Calls Tryz.prog 140 #[v,.pointer (some ⟨a,0,none⟩),.pointer (some ⟨a+1,0,none⟩),.pointer (some ⟨a+2,0,none⟩)] W fun e W'=>e = .returned (agV nulV)∧Bk W' a #[uv] 99∧Bk W' (a+1) #[.int .i64 sm] 2∧Bk W' (a+2) #[.bool false] 4∧KeepO a (a+3) W W':=by
 obtain ⟨gv,cv,rfl,egv,dv⟩:=hV
 obtain ⟨pa,pc,oa,oc,ra,rc,rfl,sp,so,sr⟩:=hv
 have lth1:=h1.lt
 have lth2:=h2.lt
 have lth3:=h3.lt
 have hA:Below W.heap.size W (W.alloc (.cells #[.slice pa p.1.length pc,.slice oa p.2.1.length oc,.slice ra p.2.2.length rc] 66)):=(Below.refl _ _).alloc (Nat.le_refl _) _
 have P:=Bk.new W #[.slice pa p.1.length pc,.slice oa p.2.1.length oc,.slice ra p.2.2.length rc] 66
 go_enter Tryz.func140,Tryz.ntmps140
 go_upto_region 1 with fail
 have hz:(W.alloc (.cells #[.slice pa p.1.length pc,.slice oa p.2.1.length oc,.slice ra p.2.2.length rc] 66)).heap.size=W.heap.size+1:=by simp
 generalize W.alloc (.cells #[.slice pa p.1.length pc,.slice oa p.2.1.length oc,.slice ra p.2.2.length rc] 66)=Wa at *
 have R:=Bk.new Wa #[.int .i64 0,.int .i64 0,.string ⟨#[]⟩] 38
 have hN:=(Below.refl Wa.heap.size Wa).alloc (Nat.le_refl _) (.cells #[.int .i64 0,.int .i64 0,.string ⟨#[]⟩] 38)
 have P:=P.next hN
 have hB:=chain hA hN
 rw [hz] at R
 generalize Wa.alloc (.cells #[.int .i64 0,.int .i64 0,.string ⟨#[]⟩] 38)=Wb at *
 have h1:=h1.next hB
 have h2:=h2.next hB
 have h3:=h3.next hB
 have kp:=KeepO.of (a:=a) (b:=(a+3)) hB
 have ltW:Below w1.heap.size w1 W:=hb
 have bw:=hb.trans (kp.below (B:=w1.heap.size) hwa hb.size)
 have con:=dv p.2.2 ra rc Wb hfp (sr.next bw) (Since.of bw)
 have ch10:=h1.cell 0 rfl
 have fh10:=h1.frozen 0
 have cP2:=P.cell 2 rfl
 have fP2:=P.frozen 2
 go_wp2_with fail
 first | (refine con.mono ?_) | (go_at_fn gv; refine con.mono ?_)
 rintro e w11 ⟨rfl,hb1⟩
 clear ch10 fh10 cP2 fP2
 have h1:=h1.next hb1
 have h2:=h2.next hb1
 have h3:=h3.next hb1
 have P:=P.next hb1
 have R:=R.next hb1
 have kp:=kp.trans (KeepO.of hb1)
 clear con egv dv
 unfold agV
 go_upto_region 2 with fail
 have hN:=(Below.refl w11.heap.size w11).alloc (Nat.le_refl _) (.cells #[.int .i64 (f p.2.2).1,.int .i64 (f p.2.2).2.1,.string (f p.2.2).2.2] 38)
 have lth1:=h1.lt
 have h1:=h1.next hN
 have lth2:=h2.lt
 have h2:=h2.next hN
 have lth3:=h3.lt
 have h3:=h3.next hN
 have ltP:=P.lt
 have P:=P.next hN
 have ltR:=R.lt
 have R:=R.next hN
 have kp:=kp.trans (KeepO.of hN)
 have V:=Bk.new w11 #[.int .i64 (f p.2.2).1,.int .i64 (f p.2.2).2.1,.string (f p.2.2).2.2] 38
 generalize w11.alloc (.cells #[.int .i64 (f p.2.2).1,.int .i64 (f p.2.2).2.1,.string (f p.2.2).2.2] 38)=w12 at *
 have cV0:=V.cell 0 rfl
 have fV0:=V.frozen 0
 go_upto_region 5 with fail
 clear cV0 fV0
 have ch30:=h3.cell 0 rfl
 have fh30:=h3.frozen 0
 go_wp2_with fail
 refine (null_any _).mono ?_
 rintro e w13 ⟨rfl,hb1⟩
 clear ch30 fh30
 have h1:=h1.next hb1
 have h2:=h2.next hb1
 have h3:=h3.next hb1
 have P:=P.next hb1
 have R:=R.next hb1
 have V:=V.next hb1
 have kp:=kp.trans (KeepO.of hb1)
 have cR0:=R.cell 0 rfl
 have fR0:=R.frozen 0
 have cR1:=R.cell 1 rfl
 have fR1:=R.frozen 1
 have cR2:=R.cell 2 rfl
 have fR2:=R.frozen 2
 go_wp2_with fail
 have h1:=h1.far3 (g:=W.heap.size+1) (show a≠W.heap.size+1 by omega) (.int .i64 1) (.int .i64 0) (.string ⟨#[]⟩)
 have h2:=h2.far3 (g:=W.heap.size+1) (show (a+1)≠W.heap.size+1 by omega) (.int .i64 1) (.int .i64 0) (.string ⟨#[]⟩)
 have h3:=h3.far3 (g:=W.heap.size+1) (show (a+2)≠W.heap.size+1 by omega) (.int .i64 1) (.int .i64 0) (.string ⟨#[]⟩)
 have P:=P.far3 (g:=W.heap.size+1) (show W.heap.size≠W.heap.size+1 by omega) (.int .i64 1) (.int .i64 0) (.string ⟨#[]⟩)
 have R:=R.put3 (.int .i64 1) (.int .i64 0) (.string ⟨#[]⟩)
 have V:=V.far3 (g:=W.heap.size+1) (show w11.heap.size≠W.heap.size+1 by omega) (.int .i64 1) (.int .i64 0) (.string ⟨#[]⟩)
 have kp:=kp.put3 (g:=W.heap.size+1) (show (a≤W.heap.size+1∧W.heap.size+1<(a+3))∨W.heap.size≤W.heap.size+1 by omega) (.int .i64 1) (.int .i64 0) (.string ⟨#[]⟩)
 clear cR0 fR0 cR1 fR1 cR2 fR2
 generalize ((w13.setCell ⟨W.heap.size+1,0,none⟩ (.int .i64 1)).setCell ⟨W.heap.size+1,1,none⟩ (.int .i64 0)).setCell ⟨W.heap.size+1,2,none⟩ (.string ⟨#[]⟩)=w14 at *
 have r0:=R.cell 0 rfl
 have r1:=R.cell 1 rfl
 have r2:=R.cell 2 rfl
 exact bodyPost_ret (v:=agV nulV) (by simp [results,Tryz.results140,go_sem,r0,r1,r2,nulV,agV]) rfl ⟨rfl,h1,h2,h3,kp⟩
set_option maxRecDepth 100000 in
set_option maxHeartbeats 1000000 in
theorem sums1_b (cols:List Int) (w1 W:World) (hb:Below w1.heap.size w1 W) (lo:Nat) (uv:Value) (f:List Vl→Vl) (hV:Asks cols lo uv f w1) (v:Value) (p:Lp) (sm:Int) (_kn:Bool) (_hsm:-1000000000000000000≤sm∧sm≤1000000000000000000) (_hfn:-1000000000000000≤(f p.2.2).2.1∧(f p.2.2).2.1≤1000000000000000) (hq:((f p.2.2).1 != 1)=false) (a:Nat) (hwa:w1.heap.size≤a) (hfp:FitP cols p.2.2) (hv:PlaceV w1 v p)
  (h1:Bk W a #[uv] 99) (h2:Bk W (a+1) #[.int .i64 sm] 2) (h3:Bk W (a+2) #[.bool true] 4) :
  Calls Tryz.prog 140 #[v,.pointer (some ⟨a,0,none⟩),.pointer (some ⟨a+1,0,none⟩),.pointer (some ⟨a+2,0,none⟩)] W fun e W'=>e = .returned (agV (intV sm))∧Bk W' a #[uv] 99∧Bk W' (a+1) #[.int .i64 sm] 2∧Bk W' (a+2) #[.bool true] 4∧KeepO a (a+3) W W':=by
 obtain ⟨gv,cv,rfl,egv,dv⟩:=hV
 obtain ⟨pa,pc,oa,oc,ra,rc,rfl,sp,so,sr⟩:=hv
 have lth1:=h1.lt
 have lth2:=h2.lt
 have lth3:=h3.lt
 have hA:Below W.heap.size W (W.alloc (.cells #[.slice pa p.1.length pc,.slice oa p.2.1.length oc,.slice ra p.2.2.length rc] 66)):=(Below.refl _ _).alloc (Nat.le_refl _) _
 have P:=Bk.new W #[.slice pa p.1.length pc,.slice oa p.2.1.length oc,.slice ra p.2.2.length rc] 66
 go_enter Tryz.func140,Tryz.ntmps140
 go_upto_region 1 with fail
 have hz:(W.alloc (.cells #[.slice pa p.1.length pc,.slice oa p.2.1.length oc,.slice ra p.2.2.length rc] 66)).heap.size=W.heap.size+1:=by simp
 generalize W.alloc (.cells #[.slice pa p.1.length pc,.slice oa p.2.1.length oc,.slice ra p.2.2.length rc] 66)=Wa at *
 have R:=Bk.new Wa #[.int .i64 0,.int .i64 0,.string ⟨#[]⟩] 38
 have hN:=(Below.refl Wa.heap.size Wa).alloc (Nat.le_refl _) (.cells #[.int .i64 0,.int .i64 0,.string ⟨#[]⟩] 38)
 have P:=P.next hN
 have hB:=chain hA hN
 rw [hz] at R
 generalize Wa.alloc (.cells #[.int .i64 0,.int .i64 0,.string ⟨#[]⟩] 38)=Wb at *
 have h1:=h1.next hB
 have h2:=h2.next hB
 have h3:=h3.next hB
 have kp:=KeepO.of (a:=a) (b:=(a+3)) hB
 have ltW:Below w1.heap.size w1 W:=hb
 have bw:=hb.trans (kp.below (B:=w1.heap.size) hwa hb.size)
 have con:=dv p.2.2 ra rc Wb hfp (sr.next bw) (Since.of bw)
 have ch10:=h1.cell 0 rfl
 have fh10:=h1.frozen 0
 have cP2:=P.cell 2 rfl
 have fP2:=P.frozen 2
 go_wp2_with fail
 first | (refine con.mono ?_) | (go_at_fn gv; refine con.mono ?_)
 rintro e w11 ⟨rfl,hb1⟩
 clear ch10 fh10 cP2 fP2
 have h1:=h1.next hb1
 have h2:=h2.next hb1
 have h3:=h3.next hb1
 have P:=P.next hb1
 have R:=R.next hb1
 have kp:=kp.trans (KeepO.of hb1)
 clear con egv dv
 unfold agV
 go_upto_region 2 with fail
 have hN:=(Below.refl w11.heap.size w11).alloc (Nat.le_refl _) (.cells #[.int .i64 (f p.2.2).1,.int .i64 (f p.2.2).2.1,.string (f p.2.2).2.2] 38)
 have lth1:=h1.lt
 have h1:=h1.next hN
 have lth2:=h2.lt
 have h2:=h2.next hN
 have lth3:=h3.lt
 have h3:=h3.next hN
 have ltP:=P.lt
 have P:=P.next hN
 have ltR:=R.lt
 have R:=R.next hN
 have kp:=kp.trans (KeepO.of hN)
 have V:=Bk.new w11 #[.int .i64 (f p.2.2).1,.int .i64 (f p.2.2).2.1,.string (f p.2.2).2.2] 38
 generalize w11.alloc (.cells #[.int .i64 (f p.2.2).1,.int .i64 (f p.2.2).2.1,.string (f p.2.2).2.2] 38)=w12 at *
 have cV0:=V.cell 0 rfl
 have fV0:=V.frozen 0
 go_upto_region 5 with fail
 clear cV0 fV0
 have ch30:=h3.cell 0 rfl
 have fh30:=h3.frozen 0
 have ch20:=h2.cell 0 rfl
 have fh20:=h2.frozen 0
 go_wp2_with fail
 refine (int_any _ _).mono ?_
 rintro e w13 ⟨rfl,hb1⟩
 clear ch30 fh30 ch20 fh20
 have h1:=h1.next hb1
 have h2:=h2.next hb1
 have h3:=h3.next hb1
 have P:=P.next hb1
 have R:=R.next hb1
 have V:=V.next hb1
 have kp:=kp.trans (KeepO.of hb1)
 have cR0:=R.cell 0 rfl
 have fR0:=R.frozen 0
 have cR1:=R.cell 1 rfl
 have fR1:=R.frozen 1
 have cR2:=R.cell 2 rfl
 have fR2:=R.frozen 2
 go_wp2_with fail
 have h1:=h1.far3 (g:=W.heap.size+1) (show a≠W.heap.size+1 by omega) (.int .i64 (intK sm)) (.int .i64 (intN sm)) (.string ⟨#[]⟩)
 have h2:=h2.far3 (g:=W.heap.size+1) (show (a+1)≠W.heap.size+1 by omega) (.int .i64 (intK sm)) (.int .i64 (intN sm)) (.string ⟨#[]⟩)
 have h3:=h3.far3 (g:=W.heap.size+1) (show (a+2)≠W.heap.size+1 by omega) (.int .i64 (intK sm)) (.int .i64 (intN sm)) (.string ⟨#[]⟩)
 have P:=P.far3 (g:=W.heap.size+1) (show W.heap.size≠W.heap.size+1 by omega) (.int .i64 (intK sm)) (.int .i64 (intN sm)) (.string ⟨#[]⟩)
 have R:=R.put3 (.int .i64 (intK sm)) (.int .i64 (intN sm)) (.string ⟨#[]⟩)
 have V:=V.far3 (g:=W.heap.size+1) (show w11.heap.size≠W.heap.size+1 by omega) (.int .i64 (intK sm)) (.int .i64 (intN sm)) (.string ⟨#[]⟩)
 have kp:=kp.put3 (g:=W.heap.size+1) (show (a≤W.heap.size+1∧W.heap.size+1<(a+3))∨W.heap.size≤W.heap.size+1 by omega) (.int .i64 (intK sm)) (.int .i64 (intN sm)) (.string ⟨#[]⟩)
 clear cR0 fR0 cR1 fR1 cR2 fR2
 generalize ((w13.setCell ⟨W.heap.size+1,0,none⟩ (.int .i64 (intK sm))).setCell ⟨W.heap.size+1,1,none⟩ (.int .i64 (intN sm))).setCell ⟨W.heap.size+1,2,none⟩ (.string ⟨#[]⟩)=w14 at *
 have r0:=R.cell 0 rfl
 have r1:=R.cell 1 rfl
 have r2:=R.cell 2 rfl
 exact bodyPost_ret (v:=agV (intV sm)) (by simp [results,Tryz.results140,go_sem,r0,r1,r2,intV]) rfl ⟨rfl,h1,h2,h3,kp⟩
set_option maxRecDepth 100000 in
set_option maxHeartbeats 1000000 in
theorem sums1_c (cols:List Int) (w1 W:World) (hb:Below w1.heap.size w1 W) (lo:Nat) (uv:Value) (f:List Vl→Vl) (hV:Asks cols lo uv f w1) (v:Value) (p:Lp) (sm:Int) (kn:Bool) (hsm:-1000000000000000000≤sm∧sm≤1000000000000000000) (hfn:-1000000000000000≤(f p.2.2).2.1∧(f p.2.2).2.1≤1000000000000000) (hq:((f p.2.2).1 != 1)=true) (a:Nat) (hwa:w1.heap.size≤a) (hfp:FitP cols p.2.2) (hv:PlaceV w1 v p)
  (h1:Bk W a #[uv] 99) (h2:Bk W (a+1) #[.int .i64 sm] 2) (h3:Bk W (a+2) #[.bool kn] 4) :
  Calls Tryz.prog 140 #[v,.pointer (some ⟨a,0,none⟩),.pointer (some ⟨a+1,0,none⟩),.pointer (some ⟨a+2,0,none⟩)] W fun e W'=>e = .returned (agV (intV (sm+(f p.2.2).2.1)))∧Bk W' a #[uv] 99∧Bk W' (a+1) #[.int .i64 (sm+(f p.2.2).2.1)] 2∧Bk W' (a+2) #[.bool true] 4∧KeepO a (a+3) W W':=by
 obtain ⟨gv,cv,rfl,egv,dv⟩:=hV
 obtain ⟨pa,pc,oa,oc,ra,rc,rfl,sp,so,sr⟩:=hv
 have lth1:=h1.lt
 have lth2:=h2.lt
 have lth3:=h3.lt
 have hA:Below W.heap.size W (W.alloc (.cells #[.slice pa p.1.length pc,.slice oa p.2.1.length oc,.slice ra p.2.2.length rc] 66)):=(Below.refl _ _).alloc (Nat.le_refl _) _
 have P:=Bk.new W #[.slice pa p.1.length pc,.slice oa p.2.1.length oc,.slice ra p.2.2.length rc] 66
 go_enter Tryz.func140,Tryz.ntmps140
 go_upto_region 1 with fail
 have hz:(W.alloc (.cells #[.slice pa p.1.length pc,.slice oa p.2.1.length oc,.slice ra p.2.2.length rc] 66)).heap.size=W.heap.size+1:=by simp
 generalize W.alloc (.cells #[.slice pa p.1.length pc,.slice oa p.2.1.length oc,.slice ra p.2.2.length rc] 66)=Wa at *
 have R:=Bk.new Wa #[.int .i64 0,.int .i64 0,.string ⟨#[]⟩] 38
 have hN:=(Below.refl Wa.heap.size Wa).alloc (Nat.le_refl _) (.cells #[.int .i64 0,.int .i64 0,.string ⟨#[]⟩] 38)
 have P:=P.next hN
 have hB:=chain hA hN
 rw [hz] at R
 generalize Wa.alloc (.cells #[.int .i64 0,.int .i64 0,.string ⟨#[]⟩] 38)=Wb at *
 have h1:=h1.next hB
 have h2:=h2.next hB
 have h3:=h3.next hB
 have kp:=KeepO.of (a:=a) (b:=(a+3)) hB
 have ltW:Below w1.heap.size w1 W:=hb
 have bw:=hb.trans (kp.below (B:=w1.heap.size) hwa hb.size)
 have con:=dv p.2.2 ra rc Wb hfp (sr.next bw) (Since.of bw)
 have ch10:=h1.cell 0 rfl
 have fh10:=h1.frozen 0
 have cP2:=P.cell 2 rfl
 have fP2:=P.frozen 2
 go_wp2_with fail
 first | (refine con.mono ?_) | (go_at_fn gv; refine con.mono ?_)
 rintro e w11 ⟨rfl,hb1⟩
 clear ch10 fh10 cP2 fP2
 have h1:=h1.next hb1
 have h2:=h2.next hb1
 have h3:=h3.next hb1
 have P:=P.next hb1
 have R:=R.next hb1
 have kp:=kp.trans (KeepO.of hb1)
 clear con egv dv
 unfold agV
 go_upto_region 2 with fail
 have hN:=(Below.refl w11.heap.size w11).alloc (Nat.le_refl _) (.cells #[.int .i64 (f p.2.2).1,.int .i64 (f p.2.2).2.1,.string (f p.2.2).2.2] 38)
 have lth1:=h1.lt
 have h1:=h1.next hN
 have lth2:=h2.lt
 have h2:=h2.next hN
 have lth3:=h3.lt
 have h3:=h3.next hN
 have ltP:=P.lt
 have P:=P.next hN
 have ltR:=R.lt
 have R:=R.next hN
 have kp:=kp.trans (KeepO.of hN)
 have V:=Bk.new w11 #[.int .i64 (f p.2.2).1,.int .i64 (f p.2.2).2.1,.string (f p.2.2).2.2] 38
 generalize w11.alloc (.cells #[.int .i64 (f p.2.2).1,.int .i64 (f p.2.2).2.1,.string (f p.2.2).2.2] 38)=w12 at *
 have hw:IntKind.i64.wrap (sm+(f p.2.2).2.1)=(sm+(f p.2.2).2.1):=by rw [IntKind.wrap_i64]; omega
 have cV0:=V.cell 0 rfl
 have fV0:=V.frozen 0
 have cV1:=V.cell 1 rfl
 have fV1:=V.frozen 1
 have ch20:=h2.cell 0 rfl
 have fh20:=h2.frozen 0
 go_upto_region 4 with fail
 have h1:=h1.far (p:=⟨(a+1),0,none⟩) (show a≠(a+1) by omega) (.int .i64 (sm+(f p.2.2).2.1))
 have h2:=h2.put1 (.int .i64 (sm+(f p.2.2).2.1))
 have h3:=h3.far (p:=⟨(a+1),0,none⟩) (show (a+2)≠(a+1) by omega) (.int .i64 (sm+(f p.2.2).2.1))
 have P:=P.far (p:=⟨(a+1),0,none⟩) (show W.heap.size≠(a+1) by omega) (.int .i64 (sm+(f p.2.2).2.1))
 have R:=R.far (p:=⟨(a+1),0,none⟩) (show W.heap.size+1≠(a+1) by omega) (.int .i64 (sm+(f p.2.2).2.1))
 have V:=V.far (p:=⟨(a+1),0,none⟩) (show w11.heap.size≠(a+1) by omega) (.int .i64 (sm+(f p.2.2).2.1))
 have kp:=kp.put (p:=⟨(a+1),0,none⟩) (.inl (show a≤(a+1)∧(a+1)<(a+3) by omega)) (.int .i64 (sm+(f p.2.2).2.1))
 clear cV0 fV0 cV1 fV1 ch20 fh20
 generalize (w12.setCell ⟨(a+1),0,none⟩ (.int .i64 (sm+(f p.2.2).2.1)))=w13 at *
 have ch30:=h3.cell 0 rfl
 have fh30:=h3.frozen 0
 go_upto_region 5 with fail
 have h1:=h1.far (p:=⟨(a+2),0,none⟩) (show a≠(a+2) by omega) (.bool true)
 have h2:=h2.far (p:=⟨(a+2),0,none⟩) (show (a+1)≠(a+2) by omega) (.bool true)
 have h3:=h3.put1 (.bool true)
 have P:=P.far (p:=⟨(a+2),0,none⟩) (show W.heap.size≠(a+2) by omega) (.bool true)
 have R:=R.far (p:=⟨(a+2),0,none⟩) (show W.heap.size+1≠(a+2) by omega) (.bool true)
 have V:=V.far (p:=⟨(a+2),0,none⟩) (show w11.heap.size≠(a+2) by omega) (.bool true)
 have kp:=kp.put (p:=⟨(a+2),0,none⟩) (.inl (show a≤(a+2)∧(a+2)<(a+3) by omega)) (.bool true)
 clear ch30 fh30
 generalize (w13.setCell ⟨(a+2),0,none⟩ (.bool true))=w14 at *
 have ch30:=h3.cell 0 rfl
 have fh30:=h3.frozen 0
 have ch20:=h2.cell 0 rfl
 have fh20:=h2.frozen 0
 go_wp2_with fail
 refine (int_any _ _).mono ?_
 rintro e w15 ⟨rfl,hb1⟩
 clear ch30 fh30 ch20 fh20
 have h1:=h1.next hb1
 have h2:=h2.next hb1
 have h3:=h3.next hb1
 have P:=P.next hb1
 have R:=R.next hb1
 have V:=V.next hb1
 have kp:=kp.trans (KeepO.of hb1)
 have cR0:=R.cell 0 rfl
 have fR0:=R.frozen 0
 have cR1:=R.cell 1 rfl
 have fR1:=R.frozen 1
 have cR2:=R.cell 2 rfl
 have fR2:=R.frozen 2
 go_wp2_with fail
 have h1:=h1.far3 (g:=W.heap.size+1) (show a≠W.heap.size+1 by omega) (.int .i64 (intK (sm+(f p.2.2).2.1))) (.int .i64 (intN (sm+(f p.2.2).2.1))) (.string ⟨#[]⟩)
 have h2:=h2.far3 (g:=W.heap.size+1) (show (a+1)≠W.heap.size+1 by omega) (.int .i64 (intK (sm+(f p.2.2).2.1))) (.int .i64 (intN (sm+(f p.2.2).2.1))) (.string ⟨#[]⟩)
 have h3:=h3.far3 (g:=W.heap.size+1) (show (a+2)≠W.heap.size+1 by omega) (.int .i64 (intK (sm+(f p.2.2).2.1))) (.int .i64 (intN (sm+(f p.2.2).2.1))) (.string ⟨#[]⟩)
 have P:=P.far3 (g:=W.heap.size+1) (show W.heap.size≠W.heap.size+1 by omega) (.int .i64 (intK (sm+(f p.2.2).2.1))) (.int .i64 (intN (sm+(f p.2.2).2.1))) (.string ⟨#[]⟩)
 have R:=R.put3 (.int .i64 (intK (sm+(f p.2.2).2.1))) (.int .i64 (intN (sm+(f p.2.2).2.1))) (.string ⟨#[]⟩)
 have V:=V.far3 (g:=W.heap.size+1) (show w11.heap.size≠W.heap.size+1 by omega) (.int .i64 (intK (sm+(f p.2.2).2.1))) (.int .i64 (intN (sm+(f p.2.2).2.1))) (.string ⟨#[]⟩)
 have kp:=kp.put3 (g:=W.heap.size+1) (show (a≤W.heap.size+1∧W.heap.size+1<(a+3))∨W.heap.size≤W.heap.size+1 by omega) (.int .i64 (intK (sm+(f p.2.2).2.1))) (.int .i64 (intN (sm+(f p.2.2).2.1))) (.string ⟨#[]⟩)
 clear cR0 fR0 cR1 fR1 cR2 fR2
 generalize ((w15.setCell ⟨W.heap.size+1,0,none⟩ (.int .i64 (intK (sm+(f p.2.2).2.1)))).setCell ⟨W.heap.size+1,1,none⟩ (.int .i64 (intN (sm+(f p.2.2).2.1)))).setCell ⟨W.heap.size+1,2,none⟩ (.string ⟨#[]⟩)=w16 at *
 have r0:=R.cell 0 rfl
 have r1:=R.cell 1 rfl
 have r2:=R.cell 2 rfl
 exact bodyPost_ret (v:=agV (intV (sm+(f p.2.2).2.1))) (by simp [results,Tryz.results140,go_sem,r0,r1,r2,intV]) rfl ⟨rfl,h1,h2,h3,kp⟩
end Go.Proofs.YtcnmpiahcnkndaaGreat
/- Parts of rows that have the same keys: plainly, and in memory. -/
namespace Go.Proofs.YtcnmpiahcnkndaaGreat
open Go.RowKit Go.Lib Go.Shelf

/-- Keys, and the rows that have them. -/
abbrev Pt:Type:=List Vl × List Zp
/-- One more row of the last part. -/
def putR (ps:List Pt) (r:Zp):List Pt:=if h:ps.length=0 then ps else ps.set (ps.length - 1) ((ps[ps.length - 1]'(by omega)).1,(ps[ps.length - 1]'(by omega)).2 ++ [r])
theorem putR_at {ps:List Pt} {m:Nat} (h:ps.length=m+1) (r:Zp):putR ps r=ps.set m ((ps[m]'(by omega)).1,(ps[m]'(by omega)).2 ++ [r]):=by
 unfold putR
 rw [dif_neg (by omega)]
 simp only [h,Nat.add_sub_cancel]
theorem own_ne {W:World} {b b':Nat} {e e':TypeId} {s s' n n':Nat} {v v':Value} {xs xs':List Value} (hne:e≠e') (h:W.ownsRow b e s v n xs) (h':W.ownsRow b' e' s' v' n' xs'):v.ownBlock=none∨v.ownBlock≠v'.ownBlock:=by
 rcases h.2 with ⟨rfl,_⟩ | ⟨g,cap,cur,rfl,_,hg,_⟩
 ·exact .inl rfl
 ·refine .inr fun e0=>?_
  rcases h'.2 with ⟨rfl,_⟩ | ⟨g',cap',cur',rfl,_,hg',_⟩
  ·simp [Value.ownBlock] at e0
  ·have e1:g=g':=by simpa [Value.ownBlock] using e0
   subst e1
   rw [hg] at hg'
   injection hg' with hg'
   injection hg' with _ he _
   exact hne he
theorem own_mono {W:World} {b b':Nat} {e:TypeId} {s n:Nat} {v:Value} {xs:List Value} (h:W.ownsRow b e s v n xs) (hb:b'≤b):W.ownsRow b' e s v n xs:=by
 obtain ⟨h0,h1⟩:=h
 refine ⟨h0,?_⟩
 rcases h1 with h1 | ⟨g,cap,cur,e,hg,h3⟩
 ·exact .inl h1
 ·exact .inr ⟨g,cap,cur,e,Nat.le_trans hb hg,h3⟩
/-- Parts in a slice of the call's own: keys and rows lie in w0; each part's rows in a slice of its own, the last one's behind all others'. -/
structure PsIn (w0:World) (B:Nat) (W:World) (v:Value) (ps:List Pt) (xs:List Value) (Bl:Nat) (rv:Nat→Value) (zs:Nat→List Value):Prop where
 own:W.ownsRow B 87 2 v ps.length xs
 lo:B≤Bl
 hi:Bl≤W.heap.size
 key:∀ i (h:i<ps.length),∃ ka kc,xs[i*2]? = some (.slice ka ps[i].1.length kc)∧SlAt w0 ka ps[i].1
 cell:∀ i (_:i<ps.length),xs[i*2+1]? = some (rv i)
 row:∀ i (h:i<ps.length),W.ownsRow (if i+1=ps.length then Bl else B) 33 2 (rv i) ps[i].2.length (zs i)∧EncB w0 (zs i) ps[i].2
 low:∀ i,i+1<ps.length→∀ g,(rv i).ownBlock=some g→g<Bl
def PsAt (w0:World) (B:Nat) (W:World) (v:Value) (ps:List Pt):Prop:=∃ xs Bl rv zs,PsIn w0 B W v ps xs Bl rv zs
theorem PsIn.next {w0:World} {B:Nat} {W w1:World} {v:Value} {ps:List Pt} {xs:List Value} {Bl:Nat} {rv:Nat→Value} {zs:Nat→List Value} (h:PsIn w0 B W v ps xs Bl rv zs) (hb:Below W.heap.size W w1):PsIn w0 B w1 v ps xs Bl rv zs :=
 ⟨own_next h.own hb,h.lo,Nat.le_trans h.hi hb.size,h.key,h.cell,fun i hi=>⟨own_next (h.row i hi).1 hb,(h.row i hi).2⟩,h.low⟩
theorem PsAt.next {w0:World} {B:Nat} {W w1:World} {v:Value} {ps:List Pt} (h:PsAt w0 B W v ps) (hb:Below W.heap.size W w1):PsAt w0 B w1 v ps:=by
 obtain ⟨xs,Bl,rv,zs,h⟩:=h
 exact ⟨xs,Bl,rv,zs,h.next hb⟩
theorem PsAt.nil (w0:World) (B:Nat) (W:World) (hB:B≤W.heap.size):PsAt w0 B W (.slice none 0 0) [] :=
 ⟨[],B,fun _=>.slice none 0 0,fun _=>[],World.ownsRow_nil _ _ _ _,Nat.le_refl _,hB,fun _ hi=>absurd hi (Nat.not_lt_zero _),fun _ hi=>absurd hi (Nat.not_lt_zero _),fun _ hi=>absurd hi (Nat.not_lt_zero _),fun _ hi=>absurd hi (Nat.not_lt_zero _)⟩
theorem PsIn.rowB {w0:World} {B:Nat} {W:World} {v:Value} {ps:List Pt} {xs:List Value} {Bl:Nat} {rv:Nat→Value} {zs:Nat→List Value} (h:PsIn w0 B W v ps xs Bl rv zs) {i:Nat} (hi:i<ps.length):W.ownsRow B 33 2 (rv i) ps[i].2.length (zs i):=by
 refine own_mono (h.row i hi).1 ?_
 split
 ·exact h.lo
 ·exact Nat.le_refl _
theorem PsIn.push {w0:World} {B:Nat} {W w1:World} {v v':Value} {ps:List Pt} {xs:List Value} {Bl:Nat} {rv:Nat→Value} {zs:Nat→List Value} (h:PsIn w0 B W v ps xs Bl rv zs) {ka:Option Addr} {kc:Nat} {k:List Vl} (hs:SlAt w0 ka k) (hg:W.grownBy w1 v.ownBlock)
  (ho:w1.ownsRow B 87 2 v' (ps.length+1) (xs ++ [.slice ka k.length kc,.slice none 0 0])):PsAt w0 B w1 v' (ps ++ [(k,[])]):=by
 have lx:=h.own.1
 refine ⟨_,w1.heap.size,fun i=>if i=ps.length then .slice none 0 0 else rv i,fun i=>if i=ps.length then [] else zs i,by simpa using ho,Nat.le_trans h.lo (Nat.le_trans h.hi hg.size),Nat.le_refl _,fun i hi=>?_,fun i hi=>?_,fun i hi=>?_,fun i hi g hgi=>?_⟩
 ·by_cases hi':i<ps.length
  ·obtain ⟨ka',kc',e0,s0⟩:=h.key i hi'
   rw [List.getElem_append_left hi']
   exact ⟨ka',kc',by rw [List.getElem?_append_left (by omega)]; exact e0,s0⟩
  ·have e:i=ps.length:=by simp at hi; omega
   subst e
   refine ⟨ka,kc,?_,?_⟩
   ·rw [List.getElem?_append_right (by omega)]; simp [lx]
   ·simpa using hs
 ·by_cases hi':i<ps.length
  ·rw [if_neg (by omega),List.getElem?_append_left (by omega)]; exact h.cell i hi'
  ·have e:i=ps.length:=by simp at hi; omega
   subst e
   rw [if_pos rfl,List.getElem?_append_right (by omega)]; simp [lx]
 ·by_cases hi':i<ps.length
  ·rw [List.getElem_append_left hi',if_neg (by simp; omega),if_neg (by omega),if_neg (by omega)]
   exact ⟨(h.rowB hi').kept hg (own_ne (by decide) (h.rowB hi') h.own),(h.row i hi').2⟩
  ·have e:i=ps.length:=by simp at hi; omega
   subst e
   simp only [List.length_append,List.length_singleton,if_true,List.getElem_concat_length]
   exact ⟨World.ownsRow_nil _ _ _ _,rfl,fun j hj=>absurd hj (Nat.not_lt_zero _)⟩
 ·have hi':i<ps.length:=by simp at hi; omega
  rw [if_neg (by omega)] at hgi
  exact Nat.lt_of_lt_of_le ((h.rowB hi').lt g hgi).2 hg.size
theorem PsIn.put {w0:World} {B:Nat} {W w8 w9:World} {g c m:Nat} {ps:List Pt} {xs:List Value} {Bl:Nat} {rv:Nat→Value} {zs:Nat→List Value} (h:PsIn w0 B W (.slice (some ⟨g,0,none⟩) (m+1) c) ps xs Bl rv zs) (hm:ps.length=m+1) {ra:Option Addr} {rc:Nat} {r:Zp} {v8:Value}
  (sr:SlAt w0 ra r.1) (g8:W.grownBy w8 (rv m).ownBlock) (o8:w8.ownsRow Bl 33 2 v8 ((ps[m]'(by omega)).2.length+1) (zs m ++ [.slice ra r.1.length rc,.int .i64 r.2])) (hb:Below w8.heap.size w8 w9) :
  PsAt w0 B (w9.setCell ⟨g,m*2+1,none⟩ v8) (.slice (some ⟨g,0,none⟩) (m+1) c) (putR ps r):=by
 have hmlt:m<ps.length:=by omega
 have lx:=h.own.1
 have ho:=h.own
 rw [hm] at ho
 have rl:W.ownsRow Bl 33 2 (rv m) (ps[m]'hmlt).2.length (zs m):=by
  have:=(h.row m hmlt).1
  rwa [if_pos hm.symm] at this
 have og:∀ {b e s n v ys},e≠87→w9.ownsRow b e s v n ys→(w9.setCell ⟨g,m*2+1,none⟩ v8).ownsRow b e s v n ys:=fun {b e s n v ys} hne hr=>by
  have o9:w9.ownsRow B 87 2 (.slice (some ⟨g,0,none⟩) (m+1) c) (m+1) xs:=own_next (ho.kept g8 (own_ne (by decide) ho (rl))) hb
  rcases own_ne hne hr o9 with e0 | e0
  ·exact ownsRow_setCell_other hr (by rw [e0]; simp) _
  ·exact ownsRow_setCell_other hr (by simpa [Value.ownBlock] using e0) _
 have o9:w9.ownsRow B 87 2 (.slice (some ⟨g,0,none⟩) (m+1) c) (m+1) xs:=own_next (ho.kept g8 (own_ne (by decide) ho rl)) hb
 have hsz:(w9.setCell ⟨g,m*2+1,none⟩ v8).heap.size=w9.heap.size:=by simp [World.setCell]
 rw [putR_at hm]
 refine ⟨xs.set (m*2+1) v8,Bl,fun i=>if i=m then v8 else rv i,fun i=>if i=m then zs m ++ [.slice ra r.1.length rc,.int .i64 r.2] else zs i,?_,h.lo,?_,fun i hi=>?_,fun i hi=>?_,fun i hi=>?_,fun i hi g' hgi=>?_⟩
 ·rw [List.length_set,hm]
  exact (o9.stored (m*2+1) v8).1
 ·rw [hsz]; exact Nat.le_trans h.hi (Nat.le_trans g8.size hb.size)
 ·have hi0:i<ps.length:=by simpa using hi
  obtain ⟨ka',kc',e0,s0⟩:=h.key i hi0
  rw [List.getElem?_set_ne (by omega),List.getElem_set]
  split
  ·rename_i e; subst e; exact ⟨ka',kc',e0,s0⟩
  ·exact ⟨ka',kc',e0,s0⟩
 ·have hi0:i<ps.length:=by simpa using hi
  by_cases e:i=m
  ·subst e
   rw [if_pos rfl,List.getElem?_set_self (by omega)]
  ·rw [if_neg e,List.getElem?_set_ne (by omega)]; exact h.cell i hi0
 ·have hi0:i<ps.length:=by simpa using hi
  by_cases e:i=m
  ·subst e
   simp only [List.length_set,if_true,List.getElem_set_self,List.length_append,List.length_singleton]
   rw [if_pos hm.symm]
   refine ⟨og (by decide) (own_next o8 hb),?_⟩
   exact EncB.push (h.row i hi0).2 (x:=r) sr
  ·simp only [List.length_set]
   rw [if_neg e,if_neg e,if_neg (by omega),List.getElem_set_ne (fun e'=>e e'.symm)]
   have ri:=h.rowB hi0
   refine ⟨og (by decide) (own_next (ri.kept g8 ?_) hb),(h.row i hi0).2⟩
   by_cases e0:(rv i).ownBlock=none
   ·exact .inl e0
   ·obtain ⟨gi,hgi⟩:=Option.ne_none_iff_exists'.1 e0
    refine .inr fun e1=>?_
    have h1:=h.low i (by omega) gi hgi
    have h2:=(rl.lt gi (e1 ▸ hgi)).1
    omega
 ·have hi0:i+1<ps.length:=by simpa using hi
  rw [if_neg (by omega)] at hgi
  exact h.low i hi0 g' hgi
end Go.Proofs.YtcnmpiahcnkndaaGreat
/- What is known of rows; how many there are. -/
namespace Go.Proofs.YtcnmpiahcnkndaaGreat
open Go.RowKit Go.Lib Go.Shelf

/-- A value, and how often it is there. -/
abbrev Wp:Type:=Vl × Int
/-- What is asked of rows, without what is not known. -/
def knownL (f:List Vl→Vl) (rows:List Zp):List Wp:=rows.filterMap fun r=>if (f r.1).1=1 then none else some (f r.1,r.2)
theorem knownL_len (f:List Vl→Vl) (rows:List Zp):(knownL f rows).length≤rows.length:=List.length_filterMap_le _ _
/-- Weighed values in a slice. -/
def WsAt (W:World) (a:Option Addr) (l:List Wp):Prop:=l.length≤maxLen∧(l = []∨∃ b off,a=some ⟨b,off,none⟩∧b<W.heap.size∧∀ (i:Nat) (h:i<l.length),W.cell? ⟨b,off+i*4,none⟩=some (.int .i64 l[i].1.1)∧W.cell? ⟨b,off+i*4+1,none⟩=some (.int .i64 l[i].1.2.1)∧W.cell? ⟨b,off+i*4+2,none⟩=some (.string l[i].1.2.2)∧W.cell? ⟨b,off+i*4+3,none⟩=some (.int .i64 l[i].2))
theorem WsAt.next {W w1:World} {a:Option Addr} {l:List Wp} (h:WsAt W a l) (hb:Below W.heap.size W w1):WsAt w1 a l:=by
 obtain ⟨h0,h | ⟨b,off,e,hlt,hr⟩⟩:=h
 ·exact ⟨h0,.inl h⟩
 ·refine ⟨h0,.inr ⟨b,off,e,Nat.lt_of_lt_of_le hlt hb.size,fun i hi=>?_⟩⟩
  obtain ⟨a0,a1,a2,a3⟩:=hr i hi
  exact ⟨(hb.cell (p:=⟨b,_,none⟩) hlt).trans a0,(hb.cell (p:=⟨b,_,none⟩) hlt).trans a1,(hb.cell (p:=⟨b,_,none⟩) hlt).trans a2,(hb.cell (p:=⟨b,_,none⟩) hlt).trans a3⟩
theorem WsAt.elem {W:World} {a:Option Addr} {l:List Wp} (h:WsAt W a l) {i:Nat} (hi:i<l.length):∃ b off,a=some ⟨b,off,none⟩∧b<W.heap.size∧W.cell? ⟨b,off+i*4,none⟩=some (.int .i64 l[i].1.1)∧W.cell? ⟨b,off+i*4+1,none⟩=some (.int .i64 l[i].1.2.1)∧W.cell? ⟨b,off+i*4+2,none⟩=some (.string l[i].1.2.2)∧W.cell? ⟨b,off+i*4+3,none⟩=some (.int .i64 l[i].2):=by
 obtain ⟨_,h | ⟨b,off,e,hlt,hr⟩⟩:=h
 ·subst h; simp at hi
 ·exact ⟨b,off,e,hlt,hr i hi⟩
/-- A value's number is nothing where its kind has none. -/
def NumB (v:Vl):Prop:=bareN v.1 v.2.1=v.2.1
theorem numB_bare (v:Vl):NumB (bareP v):=by
 unfold NumB bareP bareN
 by_cases h:v.1=2∨v.1=3 <;> simp [h]
theorem numB_tri (o:Option Bool):NumB (tri o):=by rcases o with _ | _ | _ <;> rfl
theorem numB_rec (c:Int) (a b:Vl):NumB (recP c a b):=by
 unfold NumB recP
 generalize recO c a.1 a.2.1 b.1 b.2.1=o
 cases o with
 | none=>simp [optK,optN,bareN]
 | some n =>
  simp only [optK,optN,intK,intN]
  split <;> simp [bareN]
theorem numB_join (a b:Vl):NumB (joinP a b):=by
 unfold NumB joinP
 generalize joinK a.1 a.2.2 b.1 b.2.2=k
 simp [bareN]
theorem numB_two {k:Int} {a b:Vl} (ha:NumB a) (hb:NumB b):NumB (twoP k a b):=by
 have h1:NumB (andP a b):=by unfold andP; exact numB_tri _
 have h2:NumB (orP a b):=by unfold orP; exact numB_tri _
 have h3:∀ a b,NumB (eqP a b):=fun a b=>by unfold eqP; exact numB_tri _
 have h4:∀ a,NumB (notP a):=fun a=>by unfold notP; exact numB_tri _
 have h5:∀ a b,NumB (ltP a b):=fun a b=>by unfold ltP; exact numB_tri _
 have h6:=numB_rec 43 a b
 have h7:=numB_rec 45 a b
 have h8:=numB_rec 42 a b
 have h9:=numB_join a b
 have hc:NumB (coalP a b):=by
  unfold coalP
  split
  ·exact hb
  ·exact ha
 have n1:=h4 (eqP a b)
 have n2:=h4 (ltP a b)
 have n3:=h4 (ltP b a)
 have e1:=h3 a b
 have l1:=h5 a b
 have l2:=h5 b a
 clear h3 h4 h5
 unfold twoP
 by_cases k4:k=4
 ·rw [if_pos k4]; exact h1
 rw [if_neg k4]
 by_cases k5:k=5
 ·rw [if_pos k5]; exact h2
 rw [if_neg k5]
 by_cases k6:k=6
 ·rw [if_pos k6]; exact e1
 rw [if_neg k6]
 by_cases k7:k=7
 ·rw [if_pos k7]; exact n1
 rw [if_neg k7]
 by_cases k8:k=8
 ·rw [if_pos k8]; exact l1
 rw [if_neg k8]
 by_cases k11:k=11
 ·rw [if_pos k11]; exact n2
 rw [if_neg k11]
 by_cases k10:k=10
 ·rw [if_pos k10]; exact l2
 rw [if_neg k10]
 by_cases k9:k=9
 ·rw [if_pos k9]; exact n3
 rw [if_neg k9]
 by_cases k12:k=12
 ·rw [if_pos k12]; exact h6
 rw [if_neg k12]
 by_cases k13:k=13
 ·rw [if_pos k13]; exact h7
 rw [if_neg k13]
 by_cases k14:k=14
 ·rw [if_pos k14]; exact h8
 rw [if_neg k14]
 by_cases k15:k=15
 ·rw [if_pos k15]; exact h9
 rw [if_neg k15]
 exact hc
theorem numB_valX (row:List Vl):∀ x,NumB (valX row x):=Ex.ind fun k v c ks ih=>by
 have hk:∀ i,NumB ((valsX row ks).getD i vl0):=fun i=>by
  rw [valsX_map]
  by_cases h:i<ks.length
  ·have:(ks.map (valX row)).getD i vl0=valX row ks[i]:=by simp [List.getD,h]
   rw [this]
   exact ih _ (List.getElem_mem h)
  ·have:(ks.map (valX row)).getD i vl0=vl0:=by simp [List.getD,h]
   rw [this]
   rfl
 rw [valX]
 unfold nodeV
 split
 ·exact numB_bare _
 split
 ·exact numB_bare _
 split
 ·exact numB_tri _
 split
 ·exact numB_tri _
 split
 ·split
  ·exact hk 1
  ·exact hk 2
 ·exact numB_two (hk 0) (hk 1)
/-- Values and how often they are there that may be added up. -/
structure WOk (l:List Wp):Prop where
 len:l.length≤400
 wt:∀ p ∈ l,0≤p.2∧p.2≤1000000
 right:∀ p ∈ l,wrongP p.1=0
 num:∀ p ∈ l,NumB p.1
end Go.Proofs.YtcnmpiahcnkndaaGreat
/- Aggregates as function values. -/
namespace Go.Proofs.YtcnmpiahcnkndaaGreat
open Go.RowKit Go.Lib Go.Shelf

/-- Rows of a part: of the columns, there, and not too many. -/
structure ROk (cols:List Int) (rows:List Zp):Prop where
 len:rows.length≤400
 fit:∀ p ∈ rows,FitP cols p.1
 wt:∀ p ∈ rows,0≤p.2∧p.2≤1000000
theorem ROk.known {cols:List Int} {rows:List Zp} (h:ROk cols rows) {f:List Vl→Vl} (hf:∀ row,FitP cols row→wrongP (f row)=0∧NumB (f row)):WOk (knownL f rows):=by
 have hm:∀ p ∈ knownL f rows,∃ q ∈ rows,p=(f q.1,q.2):=fun p hp=>by
  unfold knownL at hp
  obtain ⟨q,hq,e⟩:=List.mem_filterMap.1 hp
  split at e
  ·cases e
  ·exact ⟨q,hq,(Option.some.inj e).symm⟩
 refine ⟨Nat.le_trans (knownL_len f rows) h.len,fun p hp=>?_,fun p hp=>?_,fun p hp=>?_⟩
 ·obtain ⟨q,hq,rfl⟩:=hm p hp; exact h.wt q hq
 ·obtain ⟨q,hq,rfl⟩:=hm p hp; exact (hf _ (h.fit q hq)).1
 ·obtain ⟨q,hq,rfl⟩:=hm p hp; exact (hf _ (h.fit q hq)).2
/-- A function value makes T of what is known, as long as all from lo on is as it was. -/
def TotF (lo:Nat) (u:Value) (T:List Wp→Vl) (w:World):Prop :=
 ∃ g cb,u = .func (.func g) #[] cb∧(∀ args w,(callFunc g args).run Tryz.prog w = .ok (.enter g args) w) ∧
  ∀ (l:List Wp) (a:Option Addr) (cap:Nat) (W:World),WOk l→WsAt W a l→Since lo w W →
   Calls Tryz.prog g (#[.slice a l.length cap] ++ cb) W fun e w'=>e = .returned (agV (T l))∧Below W.heap.size W w'
theorem TotF.next {lo:Nat} {u:Value} {T:List Wp→Vl} {w w1:World} (h:TotF lo u T w) (hb:Since lo w w1):TotF lo u T w1:=by
 obtain ⟨g,cb,e,eg,hd⟩:=h
 exact ⟨g,cb,e,eg,fun l a cap W hk hs hW=>hd l a cap W hk hs (hb.trans hW)⟩
theorem TotF.down {lo lo':Nat} {u:Value} {T:List Wp→Vl} {w:World} (h:TotF lo u T w) (hl:lo'≤lo):TotF lo' u T w:=by
 obtain ⟨g,cb,e,eg,hd⟩:=h
 exact ⟨g,cb,e,eg,fun l a cap W hk hs hW=>hd l a cap W hk hs (hW.up hl)⟩
/-- A function value makes F of rows. -/
def RowsF (cols:List Int) (lo:Nat) (u:Value) (F:List Zp→Vl) (w:World):Prop :=
 ∃ g cb,u = .func (.func g) #[] cb∧(∀ args w,(callFunc g args).run Tryz.prog w = .ok (.enter g args) w) ∧
  ∀ (rows:List Zp) (a:Option Addr) (cap:Nat) (W:World),ROk cols rows→ZsAt W a rows→Since lo w W →
   Calls Tryz.prog g (#[.slice a rows.length cap] ++ cb) W fun e w'=>e = .returned (agV (F rows))∧Below W.heap.size W w'
theorem RowsF.next {cols:List Int} {lo:Nat} {u:Value} {F:List Zp→Vl} {w w1:World} (h:RowsF cols lo u F w) (hb:Since lo w w1):RowsF cols lo u F w1:=by
 obtain ⟨g,cb,e,eg,hd⟩:=h
 exact ⟨g,cb,e,eg,fun l a cap W hk hs hW=>hd l a cap W hk hs (hb.trans hW)⟩
theorem RowsF.down {cols:List Int} {lo lo':Nat} {u:Value} {F:List Zp→Vl} {w:World} (h:RowsF cols lo u F w) (hl:lo'≤lo):RowsF cols lo' u F w:=by
 obtain ⟨g,cb,e,eg,hd⟩:=h
 exact ⟨g,cb,e,eg,fun l a cap W hk hs hW=>hd l a cap W hk hs (hW.up hl)⟩

/-- Function values in a slice in a variable: what they make of rows. -/
def KidsR (cols:List Int) (lo:Nat) (W:World) (kb:Nat) (Fs:List (List Zp→Vl)):Prop :=
 ∃ K,lo≤kb∧kb<W.heap.size∧lo≤K∧K<W.heap.size∧W.cell? ⟨kb,0,none⟩=some (.slice (some ⟨K,0,none⟩) Fs.length Fs.length) ∧
  ∀ (i:Nat) (h:i<Fs.length),∃ u,W.cell? ⟨K,i,none⟩=some u∧RowsF cols lo u Fs[i] W
theorem KidsR.next {cols:List Int} {lo:Nat} {W w1:World} {kb:Nat} {Fs:List (List Zp→Vl)} (h:KidsR cols lo W kb Fs) (hb:Since lo W w1):KidsR cols lo w1 kb Fs:=by
 obtain ⟨K,h1,h2,h3,h4,h5,h6⟩:=h
 refine ⟨K,h1,Nat.lt_of_lt_of_le h2 hb.1,h3,Nat.lt_of_lt_of_le h4 hb.1,(hb.cell (p:=⟨kb,0,none⟩) h1 h2).trans h5,fun i hi=>?_⟩
 obtain ⟨u,c,a⟩:=h6 i hi
 exact ⟨u,(hb.cell (p:=⟨K,i,none⟩) h3 h4).trans c,a.next hb⟩

end Go.Proofs.YtcnmpiahcnkndaaGreat
/- What an aggregate asks; aggregates. -/
namespace Go.Proofs.YtcnmpiahcnkndaaGreat
open Go.RowKit Go.Lib Go.Shelf

/-- A kind, and an expression. -/
abbrev Ag:Type:=Int × Ex
/-- Aggregates in memory. -/
def AgAt (B:Nat) (W:World) (a:Option Addr) (l:List Ag):Prop:=l = []∨∃ (b off:Nat) (ai:Nat→Option Addr) (cap:Nat→Nat),a=some ⟨b,off,none⟩∧b<B∧∀ (i:Nat) (h:i<l.length),W.cell? ⟨b,off+i*7,none⟩=some (.int .i64 l[i].1)∧Six W b (off+i*7+1) l[i].2.k l[i].2.v l[i].2.c (ai i) l[i].2.ks.length (cap i)∧KsAt B W (ai i) l[i].2.ks
theorem AgAt.next {B B':Nat} {W w1:World} (hb:Below B' W w1) (hB:B≤B') {a:Option Addr} {l:List Ag} (h:AgAt B W a l):AgAt B w1 a l:=by
 rcases h with h | ⟨b,off,ai,cap,e,hlt,h⟩
 ·exact .inl h
 ·refine .inr ⟨b,off,ai,cap,e,hlt,fun i hi=>?_⟩
  obtain ⟨h1,h2,h3⟩:=h i hi
  exact ⟨(hb.cell (p:=⟨b,_,none⟩) (Nat.lt_of_lt_of_le hlt hB)).trans h1,h2.next hb (Nat.lt_of_lt_of_le hlt hB),KsAt.next hb hB h3⟩
theorem AgAt.up {B B':Nat} {W:World} (hB:B≤B') {a:Option Addr} {l:List Ag} (h:AgAt B W a l):AgAt B' W a l:=by
 rcases h with h | ⟨b,off,ai,cap,e,hlt,h⟩
 ·exact .inl h
 ·refine .inr ⟨b,off,ai,cap,e,Nat.lt_of_lt_of_le hlt hB,fun i hi=>?_⟩
  obtain ⟨h1,h2,h3⟩:=h i hi
  exact ⟨h1,h2,h3.up hB⟩
theorem AgAt.elem {B:Nat} {W:World} {a:Option Addr} {l:List Ag} (h:AgAt B W a l) {i:Nat} (hi:i<l.length):∃ b off ai ci,a=some ⟨b,off,none⟩∧b<B∧W.cell? ⟨b,off+i*7,none⟩=some (.int .i64 l[i].1)∧Six W b (off+i*7+1) l[i].2.k l[i].2.v l[i].2.c ai l[i].2.ks.length ci∧KsAt B W ai l[i].2.ks:=by
 rcases h with h | ⟨b,off,ai,cap,e,hlt,h⟩
 ·subst h; simp at hi
 ·exact ⟨b,off,ai i,cap i,e,hlt,h i hi⟩

end Go.Proofs.YtcnmpiahcnkndaaGreat
/- What begins to tell sums and what was ahead; tellerOf. -/
namespace Go.Proofs.YtcnmpiahcnkndaaGreat
open Go.RowKit

theorem numV_bd {v:Vl} (h:wrongP v=0) (hn:NumB v):-1000000000000000≤v.2.1∧v.2.1≤1000000000000000:=by
 unfold NumB bareN at hn
 unfold wrongP wrongF at h
 split at hn
 ·rename_i hk
  rcases hk with hk | hk
  ·simp [hk] at h; omega
  ·simp [hk] at h; omega
 ·omega
theorem smN_bd {cols:List Int} {f:List Vl→Vl} (hf:∀ row,FitP cols row→wrongP (f row)=0∧NumB (f row)):∀ h:List Lp,(∀ p ∈ h,FitP cols p.2.2) → -(1000000000000000*(h.length:Int))≤smN f h∧smN f h≤1000000000000000*(h.length:Int)
 | [],_=>by simp [smN]
 | p :: r,hp=>by
  have h1:=smN_bd hf r fun q hq=>hp q (by simp [hq])
  have h2:=numV_bd (hf _ (hp p (by simp))).1 (hf _ (hp p (by simp))).2
  unfold smN
  split <;> simp only [List.length_cons] <;> omega
def lagV (f:List Vl→Vl):List Lp→Vl
 | []=>nulV
 | q :: _=>f q.2.2
theorem tLag_eq (f:List Vl→Vl) (h:List Lp) (p:Lp):tLag f h p=lagV f h:=by cases h <;> rfl
def LgI (uv:Value) (f:List Vl→Vl) (a y:Nat) (h:List Lp) (W:World):Prop:=Bk W a #[uv] 99∧Bk W y #[.int .i64 (lagV f h).1,.int .i64 (lagV f h).2.1,.string (lagV f h).2.2] 38
theorem lags_tl (cols:List Int) (w1:World) (lo:Nat) (uv:Value) (f:List Vl→Vl) (hV:Asks cols lo uv f w1) (a y:Nat) (hay:a<y) (hwa:w1.heap.size≤a):Tl cols w1 (fun h p=>agV (tLag f h p)) 139 #[.pointer (some ⟨y,0,none⟩),.pointer (some ⟨a,0,none⟩)] a (y+1) (LgI uv f a y) where
 lo:=hwa
 lt:=fun h W ⟨_,h2⟩=>h2.lt
 next:=fun h W W' ⟨h1,h2⟩ _ hs=>⟨h1.same (hs _ (by omega) (by omega)),h2.same (hs _ (by omega) (by omega))⟩
 enter:=enters_of Tryz.func139 (by kernel_rfl) rfl
 call:=fun h p v W ⟨h1,h2⟩ hn hfh hfp hv hb=>by
  refine (lags1_at cols w1 W hb lo uv f hV v p (lagV f h) a y hay hwa hfp hv h1 h2).mono ?_
  rintro e w' ⟨rfl,k1,k2,k3⟩
  exact ⟨by simp only [tLag_eq],⟨k1,k2⟩,k3⟩
def SmI (uv:Value) (f:List Vl→Vl) (a:Nat) (h:List Lp) (W:World):Prop:=Bk W a #[uv] 99∧Bk W (a+1) #[.int .i64 (smN f h)] 2∧Bk W (a+2) #[.bool (smK f h)] 4
theorem sums_tl (cols:List Int) (w1:World) (lo:Nat) (uv:Value) (f:List Vl→Vl) (hV:Asks cols lo uv f w1) (hf:∀ row,FitP cols row→wrongP (f row)=0∧NumB (f row)) (a:Nat) (hwa:w1.heap.size≤a):Tl cols w1 (fun h p=>agV (tSum f h p)) 140 #[.pointer (some ⟨a,0,none⟩),.pointer (some ⟨a+1,0,none⟩),.pointer (some ⟨a+2,0,none⟩)] a (a+3) (SmI uv f a) where
 lo:=hwa
 lt:=fun h W ⟨_,_,h2⟩=>h2.lt
 next:=fun h W W' ⟨h1,h2,h3⟩ _ hs=>⟨h1.same (hs _ (by omega) (by omega)),h2.same (hs _ (by omega) (by omega)),h3.same (hs _ (by omega) (by omega))⟩
 enter:=enters_of Tryz.func140 (by kernel_rfl) rfl
 call:=fun h p v W ⟨h1,h2,h3⟩ hn hfh hfp hv hb=>by
  have bd:=smN_bd hf h hfh
  have bs:-1000000000000000000≤smN f h∧smN f h≤1000000000000000000:=by omega
  have bn:=numV_bd (hf _ hfp).1 (hf _ hfp).2
  by_cases hk:(f p.2.2).1=1
  ·have hq:((f p.2.2).1 != 1)=false:=by simpa using hk
   have eN:smN f (p :: h)=smN f h:=by simp [smN,hk]
   have eK:smK f (p :: h)=smK f h:=by simp [smK,hk]
   cases hkn:smK f h
   ·rw [hkn] at h3
    refine (sums1_a cols w1 W hb lo uv f hV v p (smN f h) false bs bn hq a hwa hfp hv h1 h2 h3).mono ?_
    rintro e w' ⟨rfl,k1,k2,k3,k4⟩
    exact ⟨by simp only [tSum,eK,hkn]; rfl,⟨k1,by rw [eN]; exact k2,by rw [eK,hkn]; exact k3⟩,k4⟩
   ·rw [hkn] at h3
    refine (sums1_b cols w1 W hb lo uv f hV v p (smN f h) false bs bn hq a hwa hfp hv h1 h2 h3).mono ?_
    rintro e w' ⟨rfl,k1,k2,k3,k4⟩
    exact ⟨by simp only [tSum,eK,hkn,eN]; rfl,⟨k1,by rw [eN]; exact k2,by rw [eK,hkn]; exact k3⟩,k4⟩
  ·have hq:((f p.2.2).1 != 1)=true:=by simpa using hk
   have eN:smN f (p :: h)=smN f h+(f p.2.2).2.1:=by simp [smN,hk]
   have eK:smK f (p :: h)=true:=by simp [smK,hk]
   refine (sums1_c cols w1 W hb lo uv f hV v p (smN f h) (smK f h) bs bn hq a hwa hfp hv h1 h2 h3).mono ?_
   rintro e w' ⟨rfl,k1,k2,k3,k4⟩
   exact ⟨by simp only [tSum,eK,eN]; rfl,⟨k1,by rw [eN]; exact k2,by rw [eK]; exact k3⟩,k4⟩

set_option maxRecDepth 100000 in
set_option maxHeartbeats 1000000 in
theorem lags_at (cols:List Int) (w1 W:World) (hb:Below w1.heap.size w1 W) (lo:Nat) (uv:Value) (f:List Vl→Vl) (hV:Asks cols lo uv f w1):Calls Tryz.prog 98 #[uv] W fun e W'=>∃ g' cb' a b I,e = .returned (.func (.func g') #[] cb')∧W.heap.size≤a∧Tl cols w1 (fun h p=>agV (tLag f h p)) g' cb' a b I∧I [] W'∧Below W.heap.size W W':=by
 have HV:Hid (Asks cols lo uv f w1):=hV
 obtain ⟨gv,cv,rfl,_,_⟩:=hV
 have hA:Below W.heap.size W (W.alloc (.cells #[.func (.func gv) #[] cv] 99)):=(Below.refl _ _).alloc (Nat.le_refl _) _
 have P:=Bk.new W #[.func (.func gv) #[] cv] 99
 go_enter Tryz.func98,Tryz.ntmps98
 go_wp2_with fail
 generalize W.alloc (.cells #[.func (.func gv) #[] cv] 99)=Wa at *
 refine (null_any _).mono ?_
 rintro e w2 ⟨rfl,hb2⟩
 have P:=P.next hb2
 have lp:=P.lt
 have hB:=chain hA hb2
 have hN:=(Below.refl w2.heap.size w2).alloc (Nat.le_refl _) (.cells #[.int .i64 1,.int .i64 0,.string ⟨#[]⟩] 38)
 have R:=Bk.new w2 #[.int .i64 1,.int .i64 0,.string ⟨#[]⟩] 38
 have P:=P.next hN
 have hB:=chain hB hN
 go_wp2_with fail
 generalize w2.alloc (.cells #[.int .i64 1,.int .i64 0,.string ⟨#[]⟩] 38)=w3 at *
 go_ret
 exact ⟨_,_,_,_,_,rfl,Nat.le_refl _,lags_tl cols w1 lo _ f HV.out W.heap.size w2.heap.size lp hb.size,⟨P,R⟩,hB⟩
set_option maxRecDepth 100000 in
set_option maxHeartbeats 1000000 in
theorem sums_at (cols:List Int) (w1 W:World) (hb:Below w1.heap.size w1 W) (lo:Nat) (uv:Value) (f:List Vl→Vl) (hV:Asks cols lo uv f w1) (hf:∀ row,FitP cols row→wrongP (f row)=0∧NumB (f row)):Calls Tryz.prog 100 #[uv] W fun e W'=>∃ g' cb' a b I,e = .returned (.func (.func g') #[] cb')∧W.heap.size≤a∧Tl cols w1 (fun h p=>agV (tSum f h p)) g' cb' a b I∧I [] W'∧Below W.heap.size W W':=by
 have HV:Hid (Asks cols lo uv f w1):=hV
 have HF:Hid (∀ row,FitP cols row→wrongP (f row)=0∧NumB (f row)):=hf
 obtain ⟨gv,cv,rfl,_,_⟩:=hV
 clear hf
 have hA:Below W.heap.size W (W.alloc (.cells #[.func (.func gv) #[] cv] 99)):=(Below.refl _ _).alloc (Nat.le_refl _) _
 have P:=Bk.new W #[.func (.func gv) #[] cv] 99
 have hz:(W.alloc (.cells #[.func (.func gv) #[] cv] 99)).heap.size=W.heap.size+1:=by simp
 go_enter Tryz.func100,Tryz.ntmps100
 go_upto_region 3 with fail
 generalize W.alloc (.cells #[.func (.func gv) #[] cv] 99)=Wa at *
 have hN:=(Below.refl Wa.heap.size Wa).alloc (Nat.le_refl _) (.cells #[.int .i64 0] 2)
 have R:=Bk.new Wa #[.int .i64 0] 2
 have hz2:(Wa.alloc (.cells #[.int .i64 0] 2)).heap.size=W.heap.size+2:=by simp [hz]
 have P:=P.next hN
 have hB:=chain hA hN
 rw [hz] at R
 generalize Wa.alloc (.cells #[.int .i64 0] 2)=Wb at *
 have hN:=(Below.refl Wb.heap.size Wb).alloc (Nat.le_refl _) (.cells #[.bool false] 4)
 have S:=Bk.new Wb #[.bool false] 4
 rw [hz2] at S
 have P:=P.next hN
 have R:=R.next hN
 have hB:=chain hB hN
 generalize Wb.alloc (.cells #[.bool false] 4)=Wc at *
 go_wp2_with fail
 go_ret
 exact ⟨_,_,_,_,_,rfl,Nat.le_refl _,sums_tl cols w1 lo _ f HV.out HF.out W.heap.size hb.size,⟨P,R,S⟩,hB⟩
set_option maxRecDepth 100000 in
set_option maxHeartbeats 1000000 in
theorem lags_begs (cols:List Int) (lo:Nat) (uv:Value) (f:List Vl→Vl) (w:World) (vb:Nat) (hV:Asks cols lo uv f w) (h1:Bk w vb #[uv] 99) (hl:lo≤vb):Begs cols lo (.func (.func 97) #[] #[.pointer (some ⟨vb,0,none⟩)]) (fun h p=>agV (tLag f h p)) w:=by
 refine ⟨97,_,rfl,enters_of Tryz.func97 (by kernel_rfl) rfl,fun w1 W hs hb=>?_⟩
 have b1:Bk W vb #[uv] 99:=(h1.same (hs.2 vb hl h1.lt)).next hb
 have con:=lags_at cols w1 W hb lo uv f (hV.next hs)
 obtain ⟨gv,cv,rfl,_,_⟩:=hV
 have c1:=b1.cell 0 rfl
 clear h1 b1
 go_enter Tryz.func97,Tryz.ntmps97
 go_wp2_with fail
 refine con.mono ?_
 rintro e w2 ⟨g',cb',a,b,I,rfl,k1,k2,k3,k4⟩
 clear con c1
 go_wp2_with fail
 go_ret
 exact ⟨_,_,_,_,_,rfl,k1,k2,k3,k4⟩
set_option maxRecDepth 100000 in
set_option maxHeartbeats 1000000 in
theorem sums_begs (cols:List Int) (lo:Nat) (uv:Value) (f:List Vl→Vl) (w:World) (vb:Nat) (hV:Asks cols lo uv f w) (h1:Bk w vb #[uv] 99) (hl:lo≤vb) (hf:∀ row,FitP cols row→wrongP (f row)=0∧NumB (f row)):Begs cols lo (.func (.func 99) #[] #[.pointer (some ⟨vb,0,none⟩)]) (fun h p=>agV (tSum f h p)) w:=by
 refine ⟨99,_,rfl,enters_of Tryz.func99 (by kernel_rfl) rfl,fun w1 W hs hb=>?_⟩
 have b1:Bk W vb #[uv] 99:=(h1.same (hs.2 vb hl h1.lt)).next hb
 have con:=sums_at cols w1 W hb lo uv f (hV.next hs) hf
 obtain ⟨gv,cv,rfl,_,_⟩:=hV
 have c1:=b1.cell 0 rfl
 clear h1 b1
 go_enter Tryz.func99,Tryz.ntmps99
 go_wp2_with fail
 refine con.mono ?_
 rintro e w2 ⟨g',cb',a,b,I,rfl,k1,k2,k3,k4⟩
 clear con c1
 go_wp2_with fail
 go_ret
 exact ⟨_,_,_,_,_,rfl,k1,k2,k3,k4⟩
end Go.Proofs.YtcnmpiahcnkndaaGreat
/- tellerOf. -/
namespace Go.Proofs.YtcnmpiahcnkndaaGreat
open Go.RowKit

/-- What is wrong with a win. -/
def winE (cols:List Int) (g:Ag):Int:=if g.1=1∨g.1=2∨g.1=3 then 0 else if g.1<1∨5<g.1 then 1 else if (typeTop cols g.2).2≠0 then (typeTop cols g.2).2 else if g.1=4∧(typeTop cols g.2).1≠3∧(typeTop cols g.2).1≠1 then 9 else 0
/-- What a win tells. -/
def winT (g:Ag):List Lp→Lp→Vl:=if g.1=1 then tRow else if g.1=2 then tRank else if g.1=3 then tDense else if g.1=4 then tSum (fun row=>valX row g.2) else tLag (fun row=>valX row g.2)
def winsE (cols:List Int):List Ag→Int
 | []=>0
 | g :: r=>if winE cols g=0 then winsE cols r else winE cols g
theorem winsE_next (cols:List Int) (gs:List Ag) (j:Nat) (h:j<gs.length) (h0:winE cols gs[j]=0):winsE cols (gs.drop j)=winsE cols (gs.drop (j+1)):=by
 rw [List.drop_eq_getElem_cons h,winsE,if_pos h0]
theorem winsE_bad (cols:List Int) (gs:List Ag) (j:Nat) (h:j<gs.length) (h0:¬ winE cols gs[j]=0):winsE cols (gs.drop j)=winE cols gs[j]:=by
 rw [List.drop_eq_getElem_cons h,winsE,if_neg h0]
theorem winsE_ok (cols:List Int):∀ gs:List Ag,winsE cols gs=0↔∀ g ∈ gs,winE cols g=0
 | []=>by simp [winsE]
 | g :: r=>by
  have ih:=winsE_ok cols r
  rw [winsE]
  by_cases h:winE cols g=0
  ·rw [if_pos h,ih]
   simp [h]
  ·rw [if_neg h]
   simp [h]
theorem valX_right {cols:List Int} {x:Ex} (h:(typeTop cols x).2=0):∀ row,FitP cols row→wrongP (valX row x)=0∧NumB (valX row x):=fun row hf=>⟨(valX_of hf x _ (typ_of h)).1,numB_valX row x⟩

set_option maxRecDepth 100000 in
set_option maxHeartbeats 1000000 in
theorem tellerOf_1 (cols:List Int) (x:Ex) (ca:Option Addr) (ccap:Nat) (a:Option Addr) (cap:Nat) (w:World) :
  Calls Tryz.prog 53 #[.slice ca cols.length ccap,.agg #[.int .i64 1,.int .i64 x.k,.int .i64 x.v.1,.int .i64 x.v.2.1,.string x.v.2.2,.int .i64 x.c,.slice a x.ks.length cap]] w fun e w'=>∃ u,e = .returned (.tuple #[u,.int .i64 0])∧Begs cols w.heap.size u (fun h p=>agV (winT (1,x) h p)) w'∧Below w.heap.size w w':=by
 have hal:Below w.heap.size w (w.alloc (.cells #[.int .i64 1,.int .i64 x.k,.int .i64 x.v.1,.int .i64 x.v.2.1,.string x.v.2.2,.int .i64 x.c,.slice a x.ks.length cap] 42)):=(Below.refl _ _).alloc (Nat.le_refl _) _
 have HF:Hid (winT (1,x)=tRow):=rfl
 generalize winT (1,x)=F at *
 go_enter Tryz.func53,Tryz.ntmps53
 go_wp2_with fail
 exact bodyPost_ret (v:=.tuple #[.func (.func 94) #[] #[],.int .i64 0]) (by simp [results,Tryz.results53,go_sem]) rfl ⟨_,rfl,by rw [HF.out]; exact numbers_begs _ _ _,hal⟩
set_option maxRecDepth 100000 in
set_option maxHeartbeats 1000000 in
theorem tellerOf_2 (cols:List Int) (x:Ex) (ca:Option Addr) (ccap:Nat) (a:Option Addr) (cap:Nat) (w:World) :
  Calls Tryz.prog 53 #[.slice ca cols.length ccap,.agg #[.int .i64 2,.int .i64 x.k,.int .i64 x.v.1,.int .i64 x.v.2.1,.string x.v.2.2,.int .i64 x.c,.slice a x.ks.length cap]] w fun e w'=>∃ u,e = .returned (.tuple #[u,.int .i64 0])∧Begs cols w.heap.size u (fun h p=>agV (winT (2,x) h p)) w'∧Below w.heap.size w w':=by
 have hal:Below w.heap.size w (w.alloc (.cells #[.int .i64 2,.int .i64 x.k,.int .i64 x.v.1,.int .i64 x.v.2.1,.string x.v.2.2,.int .i64 x.c,.slice a x.ks.length cap] 42)):=(Below.refl _ _).alloc (Nat.le_refl _) _
 have HF:Hid (winT (2,x)=tRank):=rfl
 generalize winT (2,x)=F at *
 go_enter Tryz.func53,Tryz.ntmps53
 go_wp2_with fail
 exact bodyPost_ret (v:=.tuple #[.func (.func 95) #[] #[],.int .i64 0]) (by simp [results,Tryz.results53,go_sem]) rfl ⟨_,rfl,by rw [HF.out]; exact ranks_begs _ _ _,hal⟩
set_option maxRecDepth 100000 in
set_option maxHeartbeats 1000000 in
theorem tellerOf_3 (cols:List Int) (x:Ex) (ca:Option Addr) (ccap:Nat) (a:Option Addr) (cap:Nat) (w:World) :
  Calls Tryz.prog 53 #[.slice ca cols.length ccap,.agg #[.int .i64 3,.int .i64 x.k,.int .i64 x.v.1,.int .i64 x.v.2.1,.string x.v.2.2,.int .i64 x.c,.slice a x.ks.length cap]] w fun e w'=>∃ u,e = .returned (.tuple #[u,.int .i64 0])∧Begs cols w.heap.size u (fun h p=>agV (winT (3,x) h p)) w'∧Below w.heap.size w w':=by
 have hal:Below w.heap.size w (w.alloc (.cells #[.int .i64 3,.int .i64 x.k,.int .i64 x.v.1,.int .i64 x.v.2.1,.string x.v.2.2,.int .i64 x.c,.slice a x.ks.length cap] 42)):=(Below.refl _ _).alloc (Nat.le_refl _) _
 have HF:Hid (winT (3,x)=tDense):=rfl
 generalize winT (3,x)=F at *
 go_enter Tryz.func53,Tryz.ntmps53
 go_wp2_with fail
 exact bodyPost_ret (v:=.tuple #[.func (.func 96) #[] #[],.int .i64 0]) (by simp [results,Tryz.results53,go_sem]) rfl ⟨_,rfl,by rw [HF.out]; exact dense_begs _ _ _,hal⟩
set_option maxRecDepth 100000 in
set_option maxHeartbeats 1000000 in
theorem tellerOf_4 (cols:List Int) (x:Ex) (ca:Option Addr) (ccap:Nat) (a:Option Addr) (cap:Nat) (w:World) (hk:KsAt w.heap.size w a x.ks) (hc:IsAt w.heap.size w ca cols) (h3:(typeTop cols x).2=0) (ht:(typeTop cols x).1=3∨(typeTop cols x).1=1) :
  Calls Tryz.prog 53 #[.slice ca cols.length ccap,.agg #[.int .i64 4,.int .i64 x.k,.int .i64 x.v.1,.int .i64 x.v.2.1,.string x.v.2.2,.int .i64 x.c,.slice a x.ks.length cap]] w fun e w'=>∃ u,e = .returned (.tuple #[u,.int .i64 0])∧Begs cols w.heap.size u (fun h p=>agV (winT (4,x) h p)) w'∧Below w.heap.size w w':=by
 have hal:Below w.heap.size w (w.alloc (.cells #[.int .i64 4,.int .i64 x.k,.int .i64 x.v.1,.int .i64 x.v.2.1,.string x.v.2.2,.int .i64 x.c,.slice a x.ks.length cap] 42)):=(Below.refl _ _).alloc (Nat.le_refl _) _
 have q0:=Bk.new w #[.int .i64 4,.int .i64 x.k,.int .i64 x.v.1,.int .i64 x.v.2.1,.string x.v.2.2,.int .i64 x.c,.slice a x.ks.length cap] 42
 have HF:Hid (winT (4,x)=tSum (fun row=>valX row x)):=rfl
 have HR:Hid (∀ row,FitP cols row→wrongP (valX row x)=0∧NumB (valX row x)):=valX_right h3
 have con:=readyOk_at cols x ca ccap a cap _ ((KsAt.next hal (Nat.le_refl _) hk).up hal.size) ((hc.next hal (Nat.le_refl _)).up hal.size) h3
 generalize winT (4,x)=F at *
 clear h3
 generalize (typeTop cols x).1=t at *
 unfold exV at con
 rcases ht with rfl | rfl
 all_goals (
  go_enter Tryz.func53,Tryz.ntmps53
  go_wp2_with fail
  generalize w.alloc (.cells #[.int .i64 4,.int .i64 x.k,.int .i64 x.v.1,.int .i64 x.v.2.1,.string x.v.2.2,.int .i64 x.c,.slice a x.ks.length cap] 42)=w1 at *
  refine con.mono ?_
  rintro e w2 ⟨u,rfl,hA2,hb2⟩
  clear con
  have hA:=chain hal hb2
  have hl:=hA.size
  have q2:=q0.next hb2
  have hA2:=hA2.down hal.size
  obtain ⟨g',cb,rfl⟩:∃ g' cb,u = .func (.func g') #[] cb:=by obtain ⟨g',cb,e,_⟩:=hA2; exact ⟨g',cb,e⟩
  have hN:=(Below.refl w2.heap.size w2).alloc (Nat.le_refl _) (.cells #[.func (.func g') #[] cb] 99)
  have V:=Bk.new w2 #[.func (.func g') #[] cb] 99
  have q2:=q2.next hN
  have c0:=q2.cell 0 rfl
  have hA:=chain hA hN
  have hA2:=hA2.next (Since.of hN)
  dsimp only
  go_wp2_with fail
  clear c0
  generalize w2.alloc (.cells #[.func (.func g') #[] cb] 99)=w3 at *
  exact bodyPost_ret (v:=.tuple #[.func (.func 99) #[] #[.pointer (some ⟨w2.heap.size,0,none⟩)],.int .i64 0]) (by simp [results,Tryz.results53,go_sem]) rfl ⟨_,rfl,by rw [HF.out]; exact sums_begs cols w.heap.size _ (fun row=>valX row x) w3 w2.heap.size hA2 V hl HR.out,hA⟩)
set_option maxRecDepth 100000 in
set_option maxHeartbeats 1000000 in
theorem tellerOf_5 (cols:List Int) (x:Ex) (ca:Option Addr) (ccap:Nat) (a:Option Addr) (cap:Nat) (w:World) (hk:KsAt w.heap.size w a x.ks) (hc:IsAt w.heap.size w ca cols) (h3:(typeTop cols x).2=0) :
  Calls Tryz.prog 53 #[.slice ca cols.length ccap,.agg #[.int .i64 5,.int .i64 x.k,.int .i64 x.v.1,.int .i64 x.v.2.1,.string x.v.2.2,.int .i64 x.c,.slice a x.ks.length cap]] w fun e w'=>∃ u,e = .returned (.tuple #[u,.int .i64 0])∧Begs cols w.heap.size u (fun h p=>agV (winT (5,x) h p)) w'∧Below w.heap.size w w':=by
 have hal:Below w.heap.size w (w.alloc (.cells #[.int .i64 5,.int .i64 x.k,.int .i64 x.v.1,.int .i64 x.v.2.1,.string x.v.2.2,.int .i64 x.c,.slice a x.ks.length cap] 42)):=(Below.refl _ _).alloc (Nat.le_refl _) _
 have q0:=Bk.new w #[.int .i64 5,.int .i64 x.k,.int .i64 x.v.1,.int .i64 x.v.2.1,.string x.v.2.2,.int .i64 x.c,.slice a x.ks.length cap] 42
 have HF:Hid (winT (5,x)=tLag (fun row=>valX row x)):=rfl
 have HR:Hid (∀ row,FitP cols row→wrongP (valX row x)=0∧NumB (valX row x)):=valX_right h3
 have con:=readyOk_at cols x ca ccap a cap _ ((KsAt.next hal (Nat.le_refl _) hk).up hal.size) ((hc.next hal (Nat.le_refl _)).up hal.size) h3
 generalize winT (5,x)=F at *
 clear h3
 generalize (typeTop cols x).1=t at *
 unfold exV at con
 all_goals (
  go_enter Tryz.func53,Tryz.ntmps53
  go_wp2_with fail
  generalize w.alloc (.cells #[.int .i64 5,.int .i64 x.k,.int .i64 x.v.1,.int .i64 x.v.2.1,.string x.v.2.2,.int .i64 x.c,.slice a x.ks.length cap] 42)=w1 at *
  refine con.mono ?_
  rintro e w2 ⟨u,rfl,hA2,hb2⟩
  clear con
  have hA:=chain hal hb2
  have hl:=hA.size
  have q2:=q0.next hb2
  have hA2:=hA2.down hal.size
  obtain ⟨g',cb,rfl⟩:∃ g' cb,u = .func (.func g') #[] cb:=by obtain ⟨g',cb,e,_⟩:=hA2; exact ⟨g',cb,e⟩
  have hN:=(Below.refl w2.heap.size w2).alloc (Nat.le_refl _) (.cells #[.func (.func g') #[] cb] 99)
  have V:=Bk.new w2 #[.func (.func g') #[] cb] 99
  have q2:=q2.next hN
  have c0:=q2.cell 0 rfl
  have hA:=chain hA hN
  have hA2:=hA2.next (Since.of hN)
  dsimp only
  go_wp2_with fail
  clear c0
  generalize w2.alloc (.cells #[.func (.func g') #[] cb] 99)=w3 at *
  exact bodyPost_ret (v:=.tuple #[.func (.func 97) #[] #[.pointer (some ⟨w2.heap.size,0,none⟩)],.int .i64 0]) (by simp [results,Tryz.results53,go_sem]) rfl ⟨_,rfl,by rw [HF.out]; exact lags_begs cols w.heap.size _ (fun row=>valX row x) w3 w2.heap.size hA2 V hl,hA⟩)
set_option maxRecDepth 100000 in
set_option maxHeartbeats 2000000 in
theorem tellerBad_at (cols:List Int) (kd:Int) (x:Ex) (ca:Option Addr) (ccap:Nat) (a:Option Addr) (cap:Nat) (w:World) (hk:KsAt w.heap.size w a x.ks) (hc:IsAt w.heap.size w ca cols) (h:¬ winE cols (kd,x)=0) :
  Calls Tryz.prog 53 #[.slice ca cols.length ccap,.agg #[.int .i64 kd,.int .i64 x.k,.int .i64 x.v.1,.int .i64 x.v.2.1,.string x.v.2.2,.int .i64 x.c,.slice a x.ks.length cap]] w fun e w'=>e = .returned (.tuple #[.nilFunc,.int .i64 (winE cols (kd,x))])∧Below w.heap.size w w':=by
 have hal:Below w.heap.size w (w.alloc (.cells #[.int .i64 kd,.int .i64 x.k,.int .i64 x.v.1,.int .i64 x.v.2.1,.string x.v.2.2,.int .i64 x.c,.slice a x.ks.length cap] 42)):=(Below.refl _ _).alloc (Nat.le_refl _) _
 have q0:=Bk.new w #[.int .i64 kd,.int .i64 x.k,.int .i64 x.v.1,.int .i64 x.v.2.1,.string x.v.2.2,.int .i64 x.c,.slice a x.ks.length cap] 42
 have h1:¬ (kd=1∨kd=2∨kd=3):=fun h1=>h (by unfold winE; rw [if_pos h1])
 generalize hme:winE cols (kd,x)=me at *
 have HM:Hid (winE cols (kd,x)=me):=hme
 clear hme
 by_cases h2:kd<1∨5<kd
 ·have e:me=1:=by rw [← HM.out]; unfold winE; rw [if_neg h1,if_pos h2]
  subst e
  have n1:(kd == 1)=false:=by simp; omega
  have n2:(kd == 2)=false:=by simp; omega
  have n3:(kd == 3)=false:=by simp; omega
  have n4:(kd == 4)=false:=by simp; omega
  have n5:(kd == 5)=false:=by simp; omega
  clear h h1 h2
  go_enter Tryz.func53,Tryz.ntmps53
  go_wp2_with fail
  exact bodyPost_ret (v:=.tuple #[.nilFunc,.int .i64 1]) (by simp [results,Tryz.results53,go_sem]) rfl ⟨rfl,hal⟩
 ·have hk4:kd=4∨kd=5:=by omega
  by_cases h3:(typeTop cols x).2=0
  ·have e3:kd=4∧(typeTop cols x).1≠3∧(typeTop cols x).1≠1:=Classical.byContradiction fun hn=>by
    have:=HM.out
    unfold winE at this
    rw [if_neg h1,if_neg h2,if_neg (by simpa using h3),if_neg hn] at this
    exact h this.symm
   have e9:me=9:=by rw [← HM.out]; unfold winE; rw [if_neg h1,if_neg h2,if_neg (by simpa using h3),if_pos e3]
   subst e9
   have con:=readyOk_at cols x ca ccap a cap _ ((KsAt.next hal (Nat.le_refl _) hk).up hal.size) ((hc.next hal (Nat.le_refl _)).up hal.size) h3
   obtain ⟨rfl,e32,e33⟩:=e3
   clear h h1 h2 h3 hk4 HM
   generalize (typeTop cols x).1=t at *
   have t3:(t != 3)=true:=by simpa using e32
   have t1:(t != 1)=true:=by simpa using e33
   clear e32 e33
   unfold exV at con
   go_enter Tryz.func53,Tryz.ntmps53
   go_wp2_with fail
   generalize w.alloc (.cells #[.int .i64 4,.int .i64 x.k,.int .i64 x.v.1,.int .i64 x.v.2.1,.string x.v.2.2,.int .i64 x.c,.slice a x.ks.length cap] 42)=w1 at *
   refine con.mono ?_
   rintro e w2 ⟨u,rfl,hA2,hb2⟩
   clear con
   have hA:=chain hal hb2
   have q2:=q0.next hb2
   obtain ⟨g',cb,rfl⟩:∃ g' cb,u = .func (.func g') #[] cb:=by obtain ⟨g',cb,e,_⟩:=hA2; exact ⟨g',cb,e⟩
   have hN:=(Below.refl w2.heap.size w2).alloc (Nat.le_refl _) (.cells #[.func (.func g') #[] cb] 99)
   have q2:=q2.next hN
   have c0:=q2.cell 0 rfl
   have hA:=chain hA hN
   dsimp only
   go_wp2_with fail
   exact bodyPost_ret (v:=.tuple #[.nilFunc,.int .i64 9]) (by simp [results,Tryz.results53,go_sem]) rfl ⟨rfl,hA⟩
  ·have con:=readyBad_at cols x ca ccap a cap _ ((KsAt.next hal (Nat.le_refl _) hk).up hal.size) ((hc.next hal (Nat.le_refl _)).up hal.size) h3
   have em:me=(typeTop cols x).2:=by rw [← HM.out]; unfold winE; rw [if_neg h1,if_neg h2,if_pos h3]
   have hne:(me != 0)=true:=by simpa using h
   rw [← em] at con
   unfold exV at con
   clear h h1 h2 h3 em HM
   rcases hk4 with rfl | rfl
   all_goals (
    go_enter Tryz.func53,Tryz.ntmps53
    go_wp2_with fail
    generalize w.alloc (.cells #[_,.int .i64 x.k,.int .i64 x.v.1,.int .i64 x.v.2.1,.string x.v.2.2,.int .i64 x.c,.slice a x.ks.length cap] 42)=w1 at *
    refine con.mono ?_
    rintro e w2 ⟨rfl,hb2⟩
    have hA:=chain hal hb2
    have hN:=(Below.refl w2.heap.size w2).alloc (Nat.le_refl _) (.cells #[.nilFunc] 99)
    have hA:=chain hA hN
    clear con
    dsimp only
    go_wp2_with fail
    exact bodyPost_ret (v:=.tuple #[.nilFunc,.int .i64 me]) (by simp [results,Tryz.results53,go_sem]) rfl ⟨rfl,hA⟩)
theorem tellerOk_at (cols:List Int) (kd:Int) (x:Ex) (ca:Option Addr) (ccap:Nat) (a:Option Addr) (cap:Nat) (w:World) (hk:KsAt w.heap.size w a x.ks) (hc:IsAt w.heap.size w ca cols) (h:winE cols (kd,x)=0) :
  Calls Tryz.prog 53 #[.slice ca cols.length ccap,.agg #[.int .i64 kd,.int .i64 x.k,.int .i64 x.v.1,.int .i64 x.v.2.1,.string x.v.2.2,.int .i64 x.c,.slice a x.ks.length cap]] w fun e w'=>∃ u,e = .returned (.tuple #[u,.int .i64 0])∧Begs cols w.heap.size u (fun h p=>agV (winT (kd,x) h p)) w'∧Below w.heap.size w w':=by
 by_cases h1:kd=1∨kd=2∨kd=3
 ·rcases h1 with rfl | rfl | rfl
  ·exact tellerOf_1 cols x ca ccap a cap w
  ·exact tellerOf_2 cols x ca ccap a cap w
  ·exact tellerOf_3 cols x ca ccap a cap w
 ·have h2:¬ (kd<1∨5<kd):=fun h2=>by unfold winE at h; rw [if_neg h1,if_pos h2] at h; cases h
  have h3:(typeTop cols x).2=0:=Classical.byContradiction fun h3=>by unfold winE at h; rw [if_neg h1,if_neg h2,if_pos h3] at h; exact h3 h
  have hk4:kd=4∨kd=5:=by omega
  rcases hk4 with rfl | rfl
  ·refine tellerOf_4 cols x ca ccap a cap w hk hc h3 ?_
   unfold winE at h
   rw [if_neg h1,if_neg h2,if_neg (by simpa using h3)] at h
   by_cases h5:(typeTop cols x).1=3
   ·exact .inl h5
   ·by_cases h6:(typeTop cols x).1=1
    ·exact .inr h6
    ·rw [if_pos ⟨rfl,h5,h6⟩] at h; cases h
  ·exact tellerOf_5 cols x ca ccap a cap w hk hc h3
end Go.Proofs.YtcnmpiahcnkndaaGreat
/- Tellers side by side: what is told of a row. -/
namespace Go.Proofs.YtcnmpiahcnkndaaGreat
open Go.RowKit Go.Lib Go.Shelf

def ag0:Ag:=(0,.mk 0 vl0 0 [])
/-- Tellers in the cells of a block K; each keeps blocks of its own between M and hi. -/
structure TsK (cols:List Int) (w1 W:World) (K M hi n:Nat) (Fs:Nat→List Lp→Lp→Vl) (H:Nat→List Lp) (g:Nat→Nat) (cb:Nat→Array Value) (a b:Nat→Nat) (I:Nat→List Lp→World→Prop):Prop where
 kk:K<M∧hi≤W.heap.size∧K<W.heap.size
 cell:∀ i,i<n→W.cell? ⟨K,i,none⟩=some (.func (.func (g i)) #[] (cb i))
 tl:∀ i,i<n→Tl cols w1 (fun h p=>agV (Fs i h p)) (g i) (cb i) (a i) (b i) (I i)
 inv:∀ i,i<n→I i (H i) W
 lo:∀ i,i<n→M≤a i∧b i≤hi
 apart:∀ i j,i<j→j<n→b i≤a j
theorem TsK.same {cols:List Int} {w1 W W':World} {K M hi n:Nat} {Fs:Nat→List Lp→Lp→Vl} {H:Nat→List Lp} {g:Nat→Nat} {cb:Nat→Array Value} {a b:Nat→Nat} {I:Nat→List Lp→World→Prop} (t:TsK cols w1 W K M hi n Fs H g cb a b I) (hz:W.heap.size≤W'.heap.size) (hs:∀ k,((M≤k∧k<hi)∨k=K)→W'.heap[k]? = W.heap[k]?):TsK cols w1 W' K M hi n Fs H g cb a b I where
 kk:=⟨t.kk.1,by have:=t.kk.2.1; omega,by have:=t.kk.2.2; omega⟩
 cell:=fun i h=>(World.cell?_of_block (w:=W) (a:=⟨K,i,none⟩) (hs K (.inr rfl))).trans (t.cell i h)
 tl:=t.tl
 inv:=fun i h=>(t.tl i h).next _ _ _ (t.inv i h) hz fun k k1 k2=>hs k (.inl (by have:=t.lo i h; omega))
 lo:=t.lo
 apart:=t.apart
theorem TsK.next {cols:List Int} {w1 W W':World} {K M hi n:Nat} {Fs:Nat→List Lp→Lp→Vl} {H:Nat→List Lp} {g:Nat→Nat} {cb:Nat→Array Value} {a b:Nat→Nat} {I:Nat→List Lp→World→Prop} (t:TsK cols w1 W K M hi n Fs H g cb a b I) (hb:Below W.heap.size W W'):TsK cols w1 W' K M hi n Fs H g cb a b I :=
 t.same hb.size fun k hk=>hb.block k (by have:=t.kk; omega)
/-- One of them is asked. -/
theorem TsK.step {cols:List Int} {w1 W W':World} {K M hi n:Nat} {Fs:Nat→List Lp→Lp→Vl} {h:List Lp} {p:Lp} {k:Nat} {g:Nat→Nat} {cb:Nat→Array Value} {a b:Nat→Nat} {I:Nat→List Lp→World→Prop} (t:TsK cols w1 W K M hi n Fs (fun i=>if i<k then p :: h else h) g cb a b I) (hk:k<n) (hi':I k (p :: h) W') (hb:KeepO (a k) (b k) W W'):TsK cols w1 W' K M hi n Fs (fun i=>if i<k+1 then p :: h else h) g cb a b I where
 kk:=⟨t.kk.1,by have:=t.kk.2.1; have:=hb.size; omega,by have:=t.kk.2.2; have:=hb.size; omega⟩
 cell:=fun i h=>(World.cell?_of_block (w:=W) (a:=⟨K,i,none⟩) (hb.block K t.kk.2.2 (.inl (by have:=t.kk.1; have:=(t.lo k hk).1; omega)))).trans (t.cell i h)
 tl:=t.tl
 inv:=fun i h=>by
  by_cases e:i=k
  ·subst e
   rw [if_pos (by omega)]; exact hi'
  ·have h1:=t.inv i h
   have e1:(if i<k+1 then p :: ‹List Lp› else ‹List Lp›)=if i<k then p :: ‹List Lp› else ‹List Lp›:=by
    by_cases c:i<k
    ·rw [if_pos c,if_pos (by omega)]
    ·rw [if_neg c,if_neg (by omega)]
   rw [e1]
   refine (t.tl i h).apart h1 hb ?_
   rcases Nat.lt_or_ge i k with c | c
   ·exact .inl (t.apart i k c hk)
   ·exact .inr (t.apart k i (by omega) h)
 lo:=t.lo
 apart:=t.apart
theorem VTo.same {W W':World} {B n:Nat} {f:Nat→Vl} {k:Nat} (h:VTo W B n f k) (hs:W'.heap[B]? = W.heap[B]?):VTo W' B n f k:=by
 obtain ⟨xs,⟨l,hh⟩,h2⟩:=h
 refine ⟨xs,⟨l,?_⟩,h2⟩
 rcases hh with ⟨hh,_⟩ | ⟨g,cap,cur,e,h1,hc,r⟩
 ·cases hh
 ·refine .inr ⟨g,cap,cur,e,h1,?_,r⟩
  have e2:B=g:=by injection e with e; injection e with e; injection e
  subst e2
  exact hs.trans hc

set_option maxRecDepth 100000 in
set_option maxHeartbeats 2000000 in
theorem tell1_at (cols:List Int) (w1 W:World) (hb:Below w1.heap.size w1 W) (gs:List Ag) (h8:gs.length≤8) (h:List Lp) (hn:h.length<1000) (hfh:∀ q ∈ h,FitP cols q.2.2) (v:Value) (p:Lp) (hfp:FitP cols p.2.2) (hv:PlaceV w1 v p) (tv K M hi:Nat)
  (htv:Bk W tv #[.slice (some ⟨K,0,none⟩) gs.length gs.length] 107) (htM:tv<M) (hwM:w1.heap.size≤M) (g:Nat→Nat) (cb:Nat→Array Value) (a b:Nat→Nat) (I:Nat→List Lp→World→Prop) (t:TsK cols w1 W K M hi gs.length (fun i=>winT (gs.getD i ag0)) (fun _=>h) g cb a b I) :
  Calls Tryz.prog 55 #[v,.pointer (some ⟨tv,0,none⟩)] W fun e W'=>∃ B,e = .returned (.slice (some ⟨B,0,none⟩) gs.length gs.length)∧W.heap.size≤B∧SlAt W' (some ⟨B,0,none⟩) (gs.map fun g=>winT g h p)∧Bk W' tv #[.slice (some ⟨K,0,none⟩) gs.length gs.length] 107∧TsK cols w1 W' K M hi gs.length (fun i=>winT (gs.getD i ag0)) (fun _=>p :: h) g cb a b I∧KeepO M hi W W':=by
 obtain ⟨i0,hinf,hz0,hz1,hz2⟩:=info_parts Tryz.info49
 obtain ⟨pa,pc,oa,oc,ra,rc,rfl,sp,so,sr⟩:=hv
 have hpv:PlaceV w1 (.agg #[.slice pa p.1.length pc,.slice oa p.2.1.length oc,.slice ra p.2.2.length rc]) p:=⟨pa,pc,oa,oc,ra,rc,rfl,sp,so,sr⟩
 have HPV:Hid (PlaceV w1 (.agg #[.slice pa p.1.length pc,.slice oa p.2.1.length oc,.slice ra p.2.2.length rc]) p):=hpv
 have hhi:=t.kk.2.1
 have hKM:=t.kk.1
 have hKz:=t.kk.2.2
 have hA:Below W.heap.size W (W.alloc (.cells #[.slice pa p.1.length pc,.slice oa p.2.1.length oc,.slice ra p.2.2.length rc] 66)):=(Below.refl _ _).alloc (Nat.le_refl _) _
 have P:=Bk.new W #[.slice pa p.1.length pc,.slice oa p.2.1.length oc,.slice ra p.2.2.length rc] 66
 have hz:(W.alloc (.cells #[.slice pa p.1.length pc,.slice oa p.2.1.length oc,.slice ra p.2.2.length rc] 66)).heap.size=W.heap.size+1:=by simp
 have HT:Hid (TsK cols w1 W K M hi gs.length (fun i=>winT (gs.getD i ag0)) (fun _=>h) g cb a b I):=t
 clear t hpv sp so sr
 generalize hFF:(fun j=>winT (gs.getD j ag0) h p)=F
 have HFF:Hid ((fun j=>winT (gs.getD j ag0) h p)=F):=hFF
 clear hFF
 have ltv:=htv.lt
 go_enter Tryz.func55,Tryz.ntmps55
 go_upto_region 1 with fail
 generalize W.alloc (.cells #[.slice pa p.1.length pc,.slice oa p.2.1.length oc,.slice ra p.2.2.length rc] 66)=Wa at *
 have T1:=htv.next hA
 have ct:=T1.cell 0 rfl
 go_wp2_with (first | (at_make; refine wpList_make_full _ rfl _ _ 31 rfl Wa.heap.size 38 i0 _ 3 Tryz.underlying31 hinf hz0 hz1 .i64 .i64 gs.length gs.length gs.length rfl rfl rfl rfl (by rw [hz2]; omega) (by unfold maxLen; omega) (Nat.le_refl _) ?_))
 intro w2 hown hgrow
 have hb0:Below Wa.heap.size Wa w2:=(Below.refl _ _).grown hgrow (Nat.le_refl _) (by simp)
 have V0:VTo w2 (W.heap.size+1) gs.length F 0:=⟨_,hown,fun j _ hj=>absurd hj (Nat.not_lt_zero _)⟩
 have hA2:=chain hA hb0
 have P2:=P.next hb0
 have T2:=T1.next hb0
 have H2:Hid (TsK cols w1 w2 K M hi gs.length (fun i=>winT (gs.getD i ag0)) (fun i=>if i<0 then p :: h else h) g cb a b I):=by
  show TsK cols w1 w2 K M hi gs.length (fun i=>winT (gs.getD i ag0)) (fun i=>if i<0 then p :: h else h) g cb a b I
  have:=HT.out.next hA2
  simpa using this
 clear ct T1 hown hgrow P htv HT
 have ct:=T2.cell 0 rfl
 go_wp2_with fail
 clear ct
 go_loopw [12] (fun i wr=>∃ k:Nat,k≤gs.length∧i = .int .i64 k∧VTo wr (W.heap.size+1) gs.length F k∧Hid (TsK cols w1 wr K M hi gs.length (fun i=>winT (gs.getD i ag0)) (fun i=>if i<k then p :: h else h) g cb a b I)∧Bk wr W.heap.size #[.slice pa p.1.length pc,.slice oa p.2.1.length oc,.slice ra p.2.2.length rc] 66∧Bk wr tv #[.slice (some ⟨K,0,none⟩) gs.length gs.length] 107∧KeepO M hi W wr) (fun i _=>gs.length - (intOf i).toNat)
 case atStart=>exact ⟨0,Nat.zero_le _,rfl,V0,H2,P2,T2,KeepO.of hA2⟩
 case round =>
  clear V0 H2 P2 T2 hA2 hb0
  obtain ⟨k,hk,rfl,HB,HT,P,T,kp⟩:=hrel
  have hzr:=kp.size
  by_cases hlt:k<gs.length
  ·have cu:=HT.out.cell k hlt
   have lo1:=HT.out.lo k hlt
   have eg:=(HT.out.tl k hlt).enter
   have bw:=hb.trans (kp.below (B:=w1.heap.size) hwM hb.size)
   have hin:=HT.out.inv k hlt
   rw [if_neg (Nat.lt_irrefl k)] at hin
   have d:=(HT.out.tl k hlt).call h p (.agg #[.slice pa p.1.length pc,.slice oa p.2.1.length oc,.slice ra p.2.2.length rc]) wr hin hn hfh hfp HPV.out bw
   have ev:winT (gs.getD k ag0) h p=F k:=by rw [← HFF.out]
   rw [ev] at d
   clear ev hin
   have i0:(0:Int)≤(k:Int):=by omega
   have i1:(k:Int)<(gs.length:Int):=by omega
   have cP0:=P.cell 0 rfl
   have cP1:=P.cell 1 rfl
   have cP2:=P.cell 2 rfl
   generalize g k=gk at *
   generalize cb k=ck at *
   go_wp2_with fail
   first | (refine d.mono ?_) | (go_at_fn gk; refine d.mono ?_)
   rintro e w3 ⟨rfl,hI3,k3⟩
   clear d cP0 cP1 cP2 cu eg
   have HB3:=HB.same (k3.block (W.heap.size+1) (by obtain ⟨xs,h1,_⟩:=HB; exact (h1.lt (W.heap.size+1) rfl).2) (.inr (by omega)))
   have P3:=P.keep k3 (.inr (by omega))
   have T3:=T.keep k3 (.inl (by omega))
   have H3:Hid (TsK cols w1 w3 K M hi gs.length (fun i=>winT (gs.getD i ag0)) (fun i=>if i<k+1 then p :: h else h) g cb a b I):=HT.out.step hlt hI3 k3
   have kp3:=kp.trans (k3.wide (a':=M) (b':=hi) (by omega) (by omega))
   obtain ⟨⟨u0,u1,u2,d0,d1,d2⟩,f0,f1,f2,hlb⟩:=HB3.cells hlt
   have zz:=kp3.size
   clear HB HT P T kp hI3 k3
   unfold agV
   go_wp2_with fail
   go_roundw
   case rel =>
    refine ⟨k+1,by omega,by go_num,HB3.step hlt,?_,?_,?_,?_⟩
    ·refine H3.out.same (by simp [World.setCell]) fun j hj=>?_
     rw [Below.heap_setCell _ _ _ j (show j≠W.heap.size+1 by omega),Below.heap_setCell _ _ _ j (show j≠W.heap.size+1 by omega),Below.heap_setCell _ _ _ j (show j≠W.heap.size+1 by omega)]
    ·exact ((P3.far (p:=⟨W.heap.size+1,k*3,none⟩) (show W.heap.size≠W.heap.size+1 by omega) _).far (p:=⟨W.heap.size+1,k*3+1,none⟩) (show W.heap.size≠W.heap.size+1 by omega) _).far (p:=⟨W.heap.size+1,k*3+2,none⟩) (show W.heap.size≠W.heap.size+1 by omega) _
    ·exact ((T3.far (p:=⟨W.heap.size+1,k*3,none⟩) (show tv≠W.heap.size+1 by omega) _).far (p:=⟨W.heap.size+1,k*3+1,none⟩) (show tv≠W.heap.size+1 by omega) _).far (p:=⟨W.heap.size+1,k*3+2,none⟩) (show tv≠W.heap.size+1 by omega) _
    ·exact ((kp3.put (p:=⟨W.heap.size+1,k*3,none⟩) (.inr (Nat.le_succ _)) _).put (p:=⟨W.heap.size+1,k*3+1,none⟩) (.inr (Nat.le_succ _)) _).put (p:=⟨W.heap.size+1,k*3+2,none⟩) (.inr (Nat.le_succ _)) _
   case measure=>simp [intOf]; omega
  ·have e:k=gs.length:=by omega
   subst e
   have HT':Hid (TsK cols w1 wr K M hi gs.length (fun i=>winT (gs.getD i ag0)) (fun _=>p :: h) g cb a b I):=⟨HT.out.kk,HT.out.cell,HT.out.tl,fun i hi=>by have:=HT.out.inv i hi; rwa [if_pos hi] at this,HT.out.lo,HT.out.apart⟩
   have hS:=(HB.done (gs.map fun g=>winT g h p) (by simp) (fun j hj=>by rw [← HFF.out]; simp at hj; simp [List.getD,hj]) (by simp; omega)).1
   go_wp2_with fail
   go_ret
   exact ⟨_,rfl,Nat.le_succ _,hS,T,HT'.out,kp⟩
end Go.Proofs.YtcnmpiahcnkndaaGreat
