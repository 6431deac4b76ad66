/- Together: K2, Y3a, Y3b, Y3c, Y3, Y4, Y5, K3, Y6. -/
import Derived.Deep.RegionWith
import Derived.Laws.EntriesVeiled
import Derived.Test.YtohjlfhmnmcndaaGreatB4
import Derived.Test.YtohjlfhmnmcndaaGreatB1
/- What an expression comes to, as a function value: the functions within ready. -/
namespace Go.Proofs.YtohjlfhmnmcndaaGreat
open Go.RowKit

/-- What kids come to, as function values, in a slice that lies in a variable. -/
def KidsF (cols:List Int) (lo:Nat) (W:World) (kb:Nat) (ks:List Ex):Prop :=
 ∃ K,lo≤kb∧kb<W.heap.size∧lo≤K∧K<W.heap.size∧W.cell? ⟨kb,0,none⟩=some (.slice (some ⟨K,0,none⟩) ks.length ks.length) ∧
  ∀ (i:Nat) (h:i<ks.length),∃ u,W.cell? ⟨K,i,none⟩=some u∧Asks cols lo u (fun row=>valX row ks[i]) W
theorem KidsF.next {cols:List Int} {lo:Nat} {W w1:World} {kb:Nat} {ks:List Ex} (h:KidsF cols lo W kb ks) (hb:Since lo W w1):KidsF cols lo w1 kb ks:=by
 obtain ⟨K,h1,h2,h3,h4,h5,h6⟩:=h
 refine ⟨K,h1,Nat.lt_of_lt_of_le h2 hb.1,h3,Nat.lt_of_lt_of_le h4 hb.1,(hb.cell (p:=⟨kb,0,none⟩) h1 h2).trans h5,fun i hi=>?_⟩
 obtain ⟨u,c,a⟩:=h6 i hi
 exact ⟨u,(hb.cell (p:=⟨K,i,none⟩) h3 h4).trans c,a.next hb⟩

set_option maxHeartbeats 600000 in
theorem ready1_at (cols:List Int) (lo:Nat) (kb:Nat) (ks:List Ex) (a:Option Addr) (row:List Vl) (cap:Nat) (W:World) (hK:KidsF cols lo W kb ks) (hn:0<ks.length) (hf:FitP cols row) (hs:SlAt W a row) :
  Calls Tryz.prog 205 #[.slice a row.length cap,.pointer (some ⟨kb,0,none⟩)] W fun e w'=>e = .returned (agV (notP (valX row ks[0])))∧Below W.heap.size W w':=by
 have hal:Below W.heap.size W (W.alloc (.cells #[.int .i64 0,.int .i64 0,.string ⟨#[]⟩] 24)):=(Below.refl _ _).alloc (Nat.le_refl _) _
 have R:=Box.new W (.int .i64 0) (.int .i64 0) (.string ⟨#[]⟩) 24
 obtain ⟨K,k1,k2,k3,k4,k5,k6⟩:=hK.next (Since.of hal)
 obtain ⟨u0,c0,a0⟩:=k6 0 hn
 obtain ⟨g,cb,rfl,eg,d⟩:=a0
 have d:=d row a cap _ hf (hs.next hal) (Since.refl _ _)
 dsimp only at d
 have hn':(0:Int)<(ks.length:Int):=by omega
 have e:notP (valX row ks[0])=(tk (not3 (cls (valX row ks[0]).1 (valX row ks[0]).2.1)),tn (not3 (cls (valX row ks[0]).1 (valX row ks[0]).2.1)),⟨#[]⟩):=rfl
 rw [e]
 clear e k6 hK
 generalize valX row ks[0]=v0 at *
 go_enter Tryz.func205,Tryz.ntmps205
 go_wp2_with (go_at_fn g; refine d.mono ?_; rintro e w1 ⟨rfl,hb1⟩)
 have hA:=chain hal hb1
 have R:=R.next hb1
 clear d c0 k5
 go_wp2_with fail
 refine (not_any _ _ _ _).mono ?_
 rintro e w2 ⟨rfl,hb2⟩
 have hA:=chain hA hb2
 have ⟨r0,r1,r2,r3,r4,r5,r6⟩:=R.next hb2
 go_wp2_with fail
 exact bodyPost_ret (v:=.agg #[.int .i64 (tk (not3 (cls v0.1 v0.2.1))),.int .i64 (tn (not3 (cls v0.1 v0.2.1))),.string ⟨#[]⟩]) (by simp [results,Tryz.results205,go_sem,r1,r2,r3]) rfl ⟨rfl,below_set3 hA (Nat.le_refl _)⟩

set_option maxHeartbeats 600000 in
theorem ready2_at (cols:List Int) (lo:Nat) (kb:Nat) (ks:List Ex) (a:Option Addr) (row:List Vl) (cap:Nat) (W:World) (hK:KidsF cols lo W kb ks) (hn:0<ks.length) (hf:FitP cols row) (hs:SlAt W a row) :
  Calls Tryz.prog 207 #[.slice a row.length cap,.pointer (some ⟨kb,0,none⟩)] W fun e w'=>e = .returned (agV (tri (some ((valX row ks[0]).1 == 1))))∧Below W.heap.size W w':=by
 have hal:Below W.heap.size W (W.alloc (.cells #[.int .i64 0,.int .i64 0,.string ⟨#[]⟩] 24)):=(Below.refl _ _).alloc (Nat.le_refl _) _
 have R:=Box.new W (.int .i64 0) (.int .i64 0) (.string ⟨#[]⟩) 24
 obtain ⟨K,k1,k2,k3,k4,k5,k6⟩:=hK.next (Since.of hal)
 obtain ⟨u0,c0,a0⟩:=k6 0 hn
 obtain ⟨g,cb,rfl,eg,d⟩:=a0
 have d:=d row a cap _ hf (hs.next hal) (Since.refl _ _)
 dsimp only at d
 have hn':(0:Int)<(ks.length:Int):=by omega
 have e:tri (some ((valX row ks[0]).1 == 1))=(2,tn (some ((valX row ks[0]).1 == 1)),⟨#[]⟩):=rfl
 rw [e]
 clear e k6 hK
 generalize valX row ks[0]=v0 at *
 go_enter Tryz.func207,Tryz.ntmps207
 go_wp2_with (go_at_fn g; refine d.mono ?_; rintro e w1 ⟨rfl,hb1⟩)
 have hA:=chain hal hb1
 have R:=R.next hb1
 clear d c0 k5
 go_wp2_with fail
 refine (isNull_at _ _ _ _).mono ?_
 rintro e w2 ⟨rfl,hb2⟩
 have hA:=chain hA hb2
 have R:=R.next hb2
 go_wp2_with fail
 refine (bool_any _ _).mono ?_
 rintro e w3 ⟨rfl,hb3⟩
 have hA:=chain hA hb3
 have ⟨r0,r1,r2,r3,r4,r5,r6⟩:=R.next hb3
 go_wp2_with fail
 exact bodyPost_ret (v:=.agg #[.int .i64 2,.int .i64 (tn (some (v0.1 == 1))),.string ⟨#[]⟩]) (by simp [results,Tryz.results207,go_sem,r1,r2,r3]) rfl ⟨rfl,below_set3 hA (Nat.le_refl _)⟩

set_option maxHeartbeats 2000000 in
theorem ready3_at (cols:List Int) (lo:Nat) (kb db:Nat) (k:Int) (ks:List Ex) (a:Option Addr) (row:List Vl) (cap:Nat) (W:World) (ud:Value) (cd:W.cell? ⟨db,0,none⟩=some ud) (F:Fn2 lo ud (twoP k) W)
  (hK:KidsF cols lo W kb ks) (hn:1<ks.length) (hf:FitP cols row) (hs:SlAt W a row) (g0:wrongP (valX row ks[0])=0) (g1:wrongP (valX row ks[1])=0) :
  Calls Tryz.prog 211 #[.slice a row.length cap,.pointer (some ⟨db,0,none⟩),.pointer (some ⟨kb,0,none⟩)] W fun e w'=>e = .returned (agV (twoP k (valX row ks[0]) (valX row ks[1])))∧Below W.heap.size W w':=by
 have hal:Below W.heap.size W (W.alloc (.cells #[.int .i64 0,.int .i64 0,.string ⟨#[]⟩] 24)):=(Below.refl _ _).alloc (Nat.le_refl _) _
 have R:=Box.new W (.int .i64 0) (.int .i64 0) (.string ⟨#[]⟩) 24
 obtain ⟨K,k1,k2,k3,k4,k5,k6⟩:=hK
 obtain ⟨u0,c0,a0⟩:=k6 0 (by omega)
 obtain ⟨u1,c1,a1⟩:=k6 1 hn
 obtain ⟨h0,cb0,rfl,eg0,d0⟩:=a0
 obtain ⟨h1,cb1,rfl,eg1,d1⟩:=a1
 obtain ⟨h2,cb2,rfl,eg2,d2⟩:=F
 have d0:=fun n:Past W=>d0 row a cap n.now hf (hs.next n.ok) (Since.of n.ok)
 have d1:=fun n:Past W=>d1 row a cap n.now hf (hs.next n.ok) (Since.of n.ok)
 dsimp only at d0 d1
 have d2:=fun n:Past W=>d2 (valX row ks[0]) (valX row ks[1]) n.now g0 g1 (Since.of n.ok)
 have n0:0<ks.length:=by omega
 have l0:(0:Int)<(ks.length:Int):=by omega
 have l1:(1:Int)<(ks.length:Int):=by omega
 have p0:=past_cell cd
 have p1:=past_cell k5
 have p2:=past_cell c0
 have p3:=past_cell c1
 generalize hr:twoP k (valX row ks[0]) (valX row ks[1])=r at *
 generalize valX row ks[0]=v0 at *
 generalize valX row ks[1]=v1 at *
 clear k6 hr
 go_enter Tryz.func211,Tryz.ntmps211
 go_wp2_with fail
 generalize W.alloc (.cells #[.int .i64 0,.int .i64 0,.string ⟨#[]⟩] 24)=w0 at *
 have hB0:Below W.heap.size W w0.drew:=hal.drew
 refine wp_region_ext0 W (by kernel_rfl) ?_
 refine wpX_take (some 5) (i:=0) (v:=.func (.func h2) #[] cb2) rfl rfl (by kernel_rfl) (by kernel_rfl) (by kernel_rfl) (fun _ _ _ h=>h) (Or.inl ⟨rfl,fun n=>?_⟩) hB0 ?_
 ·go_simp
 simp only [Act.put,pA,pB,pC]
 refine wpX_take (some 6) (i:=1) (v:=.slice (some ⟨K,0,none⟩) ks.length ks.length) rfl rfl (by kernel_rfl) (by kernel_rfl) (by kernel_rfl) (fun _ _ _ h=>h) (Or.inl ⟨rfl,fun n=>?_⟩) hB0 ?_
 ·go_simp
 simp only [Act.put,pA,pB,pC]
 refine wpX_take (some 7) (i:=2) (v:=.pointer (some ⟨K,0,none⟩)) rfl rfl (by kernel_rfl) (by kernel_rfl) (by kernel_rfl) (fun _ _ _ h=>h) (Or.inl ⟨rfl,fun n=>?_⟩) hB0 ?_
 ·go_simp
 simp only [Act.put,pA,pB,pC]
 refine wpX_take (some 8) (i:=3) (v:=.func (.func h0) #[] cb0) rfl rfl (by kernel_rfl) (by kernel_rfl) (by kernel_rfl) (fun _ _ _ h=>h) (Or.inl ⟨rfl,fun n=>?_⟩) hB0 ?_
 ·go_simp
 simp only [Act.put,pA,pB,pC]
 refine wpX_take (some 9) (i:=4) (v:=.slice a row.length cap) rfl rfl (by kernel_rfl) (by kernel_rfl) (by kernel_rfl) (fun _ _ _ h=>h) (Or.inl ⟨rfl,fun n=>?_⟩) hB0 ?_
 ·go_simp
 simp only [Act.put,pA,pB,pC]
 refine wpX_take (some 11) (i:=6) (v:=.slice (some ⟨K,0,none⟩) ks.length ks.length) rfl rfl (by kernel_rfl) (by kernel_rfl) (by kernel_rfl) (fun _ _ _ h=>h) (Or.inl ⟨rfl,fun n=>?_⟩) hB0 ?_
 ·go_simp
 simp only [Act.put,pA,pB,pC]
 refine wpX_take (some 12) (i:=7) (v:=.pointer (some ⟨K,1,none⟩)) rfl rfl (by kernel_rfl) (by kernel_rfl) (by kernel_rfl) (fun _ _ _ h=>h) (Or.inl ⟨rfl,fun n=>?_⟩) hB0 ?_
 ·go_simp
 simp only [Act.put,pA,pB,pC]
 refine wpX_take (some 13) (i:=8) (v:=.func (.func h1) #[] cb1) rfl rfl (by kernel_rfl) (by kernel_rfl) (by kernel_rfl) (fun _ _ _ h=>h) (Or.inl ⟨rfl,fun n=>?_⟩) hB0 ?_
 ·go_simp
 simp only [Act.put,pA,pB,pC]
 refine wpX_take (some 14) (i:=9) (v:=.slice a row.length cap) rfl rfl (by kernel_rfl) (by kernel_rfl) (by kernel_rfl) (fun _ _ _ h=>h) (Or.inl ⟨rfl,fun n=>?_⟩) hB0 ?_
 ·go_simp
 simp only [Act.put,pA,pB,pC]
 refine wpX_take (some 10) (i:=5) (v:=agV v0) rfl rfl (by kernel_rfl) (by kernel_rfl) (by kernel_rfl) (fun _ _ _ h=>h) (Or.inl ⟨rfl,fun n=>?_⟩) hB0 ?_
 ·go_simp
 simp only [Act.put,pA,pB,pC]
 refine wpX_take (some 15) (i:=10) (v:=agV v1) rfl rfl (by kernel_rfl) (by kernel_rfl) (by kernel_rfl) (fun _ _ _ h=>h) (Or.inl ⟨rfl,fun n=>?_⟩) hB0 ?_
 ·go_simp
 simp only [Act.put,pA,pB,pC]
 refine wpX_take (some 16) (i:=11) (v:=agV r) rfl rfl (by kernel_rfl) (by kernel_rfl) (by kernel_rfl) (fun _ _ _ h=>h) (Or.inl ⟨rfl,fun n=>?_⟩) hB0 ?_
 ·go_simp
 simp only [Act.put,pA,pB,pC]
 clear p0 p1 p2 p3 d0 d1 d2
 refine wpX_step (rs:=[12]) (by kernel_rfl) (by simp) ?_
 intro w12 hb12 j hj
 obtain rfl:j=12:=by simpa using hj
 clear hj
 have D12:=hB0.trans (hb12.mono hB0.size)
 have R12:=(R.next ((Below.refl _ _).drew)).next hb12
 have P12:=R12.put3 (.int .i64 r.1) (.int .i64 r.2.1) (.string r.2.2)
 have ⟨b0,b1,b2,b3,b4,b5,b6⟩:=R12
 refine wpOp_step rfl (fun K hK=>?_)
 go_simp
 refine hK _ _ ⟨below_set3 D12 (Nat.le_refl _),?_⟩
 clear hK K
 refine wpX_done (by kernel_rfl) ?_
 intro w13 hb13
 have D13:=(below_set3 D12 (Nat.le_refl _) (x:=.int .i64 r.1) (y:=.int .i64 r.2.1) (z:=.string r.2.2)).trans (hb13.mono (below_set3 D12 (Nat.le_refl _)).size)
 have ⟨g0,g1,g2,g3,g4,g5,g6⟩:=P12.next hb13
 clear b0 b1 b2 b3 b4 b5 b6
 go_wp2_with fail
 exact bodyPost_ret (v:=agV r) (by simp [results,Tryz.results211,go_sem,g1,g2,g3]) rfl ⟨rfl,D13⟩
end Go.Proofs.YtohjlfhmnmcndaaGreat
/- The walk of exprs.kidsType: all of one type -/
namespace Go.Proofs.YtohjlfhmnmcndaaGreat
open Go.RowKit

set_option maxHeartbeats 400000 in
theorem kidsType_3 (B:Nat) (a:Option Addr) (cap:Nat) (ts:List Int) (w:World) (hB:B≤w.heap.size) (h:IsAt B w a ts) :
  Calls Tryz.prog 226 #[.int .i64 3,.slice a ts.length cap] w fun e w'=>e = .returned (.tuple #[.int .i64 (resT (allO 2 ts)).1,.int .i64 (resT (allO 2 ts)).2])∧Below w.heap.size w w':=by
 have con:=allOf_at 2 B a cap ts w hB h
 generalize resT (allO 2 ts)=r at *
 generalize ts.length=n at *
 clear h
 go_enter Tryz.func226,Tryz.ntmps226
 go_wp2_with fail
 refine con.mono ?_
 rintro e w1 ⟨rfl,hb1⟩
 go_wp2_with fail
 exact bodyPost_ret (v:=.tuple #[.int .i64 r.1,.int .i64 r.2]) (by simp [results,Tryz.results226,go_sem]) rfl ⟨rfl,hb1⟩
set_option maxHeartbeats 400000 in
theorem kidsType_4 (B:Nat) (a:Option Addr) (cap:Nat) (ts:List Int) (w:World) (hB:B≤w.heap.size) (h:IsAt B w a ts) :
  Calls Tryz.prog 226 #[.int .i64 4,.slice a ts.length cap] w fun e w'=>e = .returned (.tuple #[.int .i64 (resT (allO 2 ts)).1,.int .i64 (resT (allO 2 ts)).2])∧Below w.heap.size w w':=by
 have con:=allOf_at 2 B a cap ts w hB h
 generalize resT (allO 2 ts)=r at *
 generalize ts.length=n at *
 clear h
 go_enter Tryz.func226,Tryz.ntmps226
 go_wp2_with fail
 refine con.mono ?_
 rintro e w1 ⟨rfl,hb1⟩
 go_wp2_with fail
 exact bodyPost_ret (v:=.tuple #[.int .i64 r.1,.int .i64 r.2]) (by simp [results,Tryz.results226,go_sem]) rfl ⟨rfl,hb1⟩
set_option maxHeartbeats 400000 in
theorem kidsType_5 (B:Nat) (a:Option Addr) (cap:Nat) (ts:List Int) (w:World) (hB:B≤w.heap.size) (h:IsAt B w a ts) :
  Calls Tryz.prog 226 #[.int .i64 5,.slice a ts.length cap] w fun e w'=>e = .returned (.tuple #[.int .i64 (resT (allO 2 ts)).1,.int .i64 (resT (allO 2 ts)).2])∧Below w.heap.size w w':=by
 have con:=allOf_at 2 B a cap ts w hB h
 generalize resT (allO 2 ts)=r at *
 generalize ts.length=n at *
 clear h
 go_enter Tryz.func226,Tryz.ntmps226
 go_wp2_with fail
 refine con.mono ?_
 rintro e w1 ⟨rfl,hb1⟩
 go_wp2_with fail
 exact bodyPost_ret (v:=.tuple #[.int .i64 r.1,.int .i64 r.2]) (by simp [results,Tryz.results226,go_sem]) rfl ⟨rfl,hb1⟩
set_option maxHeartbeats 400000 in
theorem kidsType_12 (B:Nat) (a:Option Addr) (cap:Nat) (ts:List Int) (w:World) (hB:B≤w.heap.size) (h:IsAt B w a ts) :
  Calls Tryz.prog 226 #[.int .i64 12,.slice a ts.length cap] w fun e w'=>e = .returned (.tuple #[.int .i64 (resT (allO 3 ts)).1,.int .i64 (resT (allO 3 ts)).2])∧Below w.heap.size w w':=by
 have con:=allOf_at 3 B a cap ts w hB h
 generalize resT (allO 3 ts)=r at *
 generalize ts.length=n at *
 clear h
 go_enter Tryz.func226,Tryz.ntmps226
 go_wp2_with fail
 refine con.mono ?_
 rintro e w1 ⟨rfl,hb1⟩
 go_wp2_with fail
 exact bodyPost_ret (v:=.tuple #[.int .i64 r.1,.int .i64 r.2]) (by simp [results,Tryz.results226,go_sem]) rfl ⟨rfl,hb1⟩
set_option maxHeartbeats 400000 in
theorem kidsType_13 (B:Nat) (a:Option Addr) (cap:Nat) (ts:List Int) (w:World) (hB:B≤w.heap.size) (h:IsAt B w a ts) :
  Calls Tryz.prog 226 #[.int .i64 13,.slice a ts.length cap] w fun e w'=>e = .returned (.tuple #[.int .i64 (resT (allO 3 ts)).1,.int .i64 (resT (allO 3 ts)).2])∧Below w.heap.size w w':=by
 have con:=allOf_at 3 B a cap ts w hB h
 generalize resT (allO 3 ts)=r at *
 generalize ts.length=n at *
 clear h
 go_enter Tryz.func226,Tryz.ntmps226
 go_wp2_with fail
 refine con.mono ?_
 rintro e w1 ⟨rfl,hb1⟩
 go_wp2_with fail
 exact bodyPost_ret (v:=.tuple #[.int .i64 r.1,.int .i64 r.2]) (by simp [results,Tryz.results226,go_sem]) rfl ⟨rfl,hb1⟩
set_option maxHeartbeats 400000 in
theorem kidsType_14 (B:Nat) (a:Option Addr) (cap:Nat) (ts:List Int) (w:World) (hB:B≤w.heap.size) (h:IsAt B w a ts) :
  Calls Tryz.prog 226 #[.int .i64 14,.slice a ts.length cap] w fun e w'=>e = .returned (.tuple #[.int .i64 (resT (allO 3 ts)).1,.int .i64 (resT (allO 3 ts)).2])∧Below w.heap.size w w':=by
 have con:=allOf_at 3 B a cap ts w hB h
 generalize resT (allO 3 ts)=r at *
 generalize ts.length=n at *
 clear h
 go_enter Tryz.func226,Tryz.ntmps226
 go_wp2_with fail
 refine con.mono ?_
 rintro e w1 ⟨rfl,hb1⟩
 go_wp2_with fail
 exact bodyPost_ret (v:=.tuple #[.int .i64 r.1,.int .i64 r.2]) (by simp [results,Tryz.results226,go_sem]) rfl ⟨rfl,hb1⟩
set_option maxHeartbeats 400000 in
theorem kidsType_15 (B:Nat) (a:Option Addr) (cap:Nat) (ts:List Int) (w:World) (hB:B≤w.heap.size) (h:IsAt B w a ts) :
  Calls Tryz.prog 226 #[.int .i64 15,.slice a ts.length cap] w fun e w'=>e = .returned (.tuple #[.int .i64 (resT (allO 4 ts)).1,.int .i64 (resT (allO 4 ts)).2])∧Below w.heap.size w w':=by
 have con:=allOf_at 4 B a cap ts w hB h
 generalize resT (allO 4 ts)=r at *
 generalize ts.length=n at *
 clear h
 go_enter Tryz.func226,Tryz.ntmps226
 go_wp2_with fail
 refine con.mono ?_
 rintro e w1 ⟨rfl,hb1⟩
 go_wp2_with fail
 exact bodyPost_ret (v:=.tuple #[.int .i64 r.1,.int .i64 r.2]) (by simp [results,Tryz.results226,go_sem]) rfl ⟨rfl,hb1⟩
theorem kidsType_16 (a:Option Addr) (n cap:Nat) (w:World) :
  Calls Tryz.prog 226 #[.int .i64 16,.slice a n cap] w fun e w'=>e = .returned (.tuple #[.int .i64 2,.int .i64 0])∧Below w.heap.size w w':=by
 go_enter Tryz.func226,Tryz.ntmps226
 go_wp2_with fail
 exact bodyPost_ret (v:=.tuple #[.int .i64 2,.int .i64 0]) (by simp [results,Tryz.results226,go_sem]) rfl ⟨rfl,Below.refl _ _⟩
end Go.Proofs.YtohjlfhmnmcndaaGreat
/- The walk of exprs.kidsType: comparisons -/
namespace Go.Proofs.YtohjlfhmnmcndaaGreat
open Go.RowKit

set_option maxHeartbeats 400000 in
theorem kidsType_6 (b off cap:Nat) (x y:Int) (w:World) (c0:w.cell? ⟨b,off,none⟩=some (.int .i64 x)) (c1:w.cell? ⟨b,off+1,none⟩=some (.int .i64 y)) (r:Int × Int) (er:r=if (togR x y).2=0 then (2,0) else (0,(togR x y).2)) :
  Calls Tryz.prog 226 #[.int .i64 6,.slice (some ⟨b,off,none⟩) 2 cap] w fun e w'=>e = .returned (.tuple #[.int .i64 r.1,.int .i64 r.2])∧Below w.heap.size w w':=by
 have p0:=past_cell c0
 have p1:=past_cell c1
 haveI:Nonempty (Past w):=⟨⟨_,Below.refl _ _⟩⟩
 go_enter Tryz.func226,Tryz.ntmps226
 go_wp2_with fail
 refine wp_region_past (by kernel_rfl) (by kernel_rfl) ?_
 repeat (go_big_quiet_step (first | (go_at_call 173; exact in_past (together_at x y _))))
 refine wpQuiet_nil ?_
 rintro w3 ⟨⟨v3,hb3⟩,h3⟩
 obtain rfl:w3=v3:=h3
 clear p0 p1 c0 c1
 generalize togR x y=t at *
 obtain ⟨t1,t2⟩:=t
 by_cases h0:t2=0
 ·subst h0
  simp only [if_true] at er
  subst er
  go_wp2_with fail
  exact bodyPost_ret (v:=.tuple #[.int .i64 2,.int .i64 0]) (by simp [results,Tryz.results226,go_sem]) rfl ⟨rfl,hb3⟩
 ·simp only [h0,if_false] at er
  subst er
  have q:(t2 != 0)=true:=by simpa using h0
  go_wp2_with fail
  exact bodyPost_ret (v:=.tuple #[.int .i64 0,.int .i64 t2]) (by simp [results,Tryz.results226,go_sem]) rfl ⟨rfl,hb3⟩
set_option maxHeartbeats 400000 in
theorem kidsType_7 (b off cap:Nat) (x y:Int) (w:World) (c0:w.cell? ⟨b,off,none⟩=some (.int .i64 x)) (c1:w.cell? ⟨b,off+1,none⟩=some (.int .i64 y)) (r:Int × Int) (er:r=if (togR x y).2=0 then (2,0) else (0,(togR x y).2)) :
  Calls Tryz.prog 226 #[.int .i64 7,.slice (some ⟨b,off,none⟩) 2 cap] w fun e w'=>e = .returned (.tuple #[.int .i64 r.1,.int .i64 r.2])∧Below w.heap.size w w':=by
 have p0:=past_cell c0
 have p1:=past_cell c1
 haveI:Nonempty (Past w):=⟨⟨_,Below.refl _ _⟩⟩
 go_enter Tryz.func226,Tryz.ntmps226
 go_wp2_with fail
 refine wp_region_past (by kernel_rfl) (by kernel_rfl) ?_
 repeat (go_big_quiet_step (first | (go_at_call 173; exact in_past (together_at x y _))))
 refine wpQuiet_nil ?_
 rintro w3 ⟨⟨v3,hb3⟩,h3⟩
 obtain rfl:w3=v3:=h3
 clear p0 p1 c0 c1
 generalize togR x y=t at *
 obtain ⟨t1,t2⟩:=t
 by_cases h0:t2=0
 ·subst h0
  simp only [if_true] at er
  subst er
  go_wp2_with fail
  exact bodyPost_ret (v:=.tuple #[.int .i64 2,.int .i64 0]) (by simp [results,Tryz.results226,go_sem]) rfl ⟨rfl,hb3⟩
 ·simp only [h0,if_false] at er
  subst er
  have q:(t2 != 0)=true:=by simpa using h0
  go_wp2_with fail
  exact bodyPost_ret (v:=.tuple #[.int .i64 0,.int .i64 t2]) (by simp [results,Tryz.results226,go_sem]) rfl ⟨rfl,hb3⟩
set_option maxHeartbeats 400000 in
theorem kidsType_8 (b off cap:Nat) (x y:Int) (w:World) (c0:w.cell? ⟨b,off,none⟩=some (.int .i64 x)) (c1:w.cell? ⟨b,off+1,none⟩=some (.int .i64 y)) (r:Int × Int) (er:r=if (togR x y).2=0 then (2,0) else (0,(togR x y).2)) :
  Calls Tryz.prog 226 #[.int .i64 8,.slice (some ⟨b,off,none⟩) 2 cap] w fun e w'=>e = .returned (.tuple #[.int .i64 r.1,.int .i64 r.2])∧Below w.heap.size w w':=by
 have p0:=past_cell c0
 have p1:=past_cell c1
 haveI:Nonempty (Past w):=⟨⟨_,Below.refl _ _⟩⟩
 go_enter Tryz.func226,Tryz.ntmps226
 go_wp2_with fail
 refine wp_region_past (by kernel_rfl) (by kernel_rfl) ?_
 repeat (go_big_quiet_step (first | (go_at_call 173; exact in_past (together_at x y _))))
 refine wpQuiet_nil ?_
 rintro w3 ⟨⟨v3,hb3⟩,h3⟩
 obtain rfl:w3=v3:=h3
 clear p0 p1 c0 c1
 generalize togR x y=t at *
 obtain ⟨t1,t2⟩:=t
 by_cases h0:t2=0
 ·subst h0
  simp only [if_true] at er
  subst er
  go_wp2_with fail
  exact bodyPost_ret (v:=.tuple #[.int .i64 2,.int .i64 0]) (by simp [results,Tryz.results226,go_sem]) rfl ⟨rfl,hb3⟩
 ·simp only [h0,if_false] at er
  subst er
  have q:(t2 != 0)=true:=by simpa using h0
  go_wp2_with fail
  exact bodyPost_ret (v:=.tuple #[.int .i64 0,.int .i64 t2]) (by simp [results,Tryz.results226,go_sem]) rfl ⟨rfl,hb3⟩
set_option maxHeartbeats 400000 in
theorem kidsType_9 (b off cap:Nat) (x y:Int) (w:World) (c0:w.cell? ⟨b,off,none⟩=some (.int .i64 x)) (c1:w.cell? ⟨b,off+1,none⟩=some (.int .i64 y)) (r:Int × Int) (er:r=if (togR x y).2=0 then (2,0) else (0,(togR x y).2)) :
  Calls Tryz.prog 226 #[.int .i64 9,.slice (some ⟨b,off,none⟩) 2 cap] w fun e w'=>e = .returned (.tuple #[.int .i64 r.1,.int .i64 r.2])∧Below w.heap.size w w':=by
 have p0:=past_cell c0
 have p1:=past_cell c1
 haveI:Nonempty (Past w):=⟨⟨_,Below.refl _ _⟩⟩
 go_enter Tryz.func226,Tryz.ntmps226
 go_wp2_with fail
 refine wp_region_past (by kernel_rfl) (by kernel_rfl) ?_
 repeat (go_big_quiet_step (first | (go_at_call 173; exact in_past (together_at x y _))))
 refine wpQuiet_nil ?_
 rintro w3 ⟨⟨v3,hb3⟩,h3⟩
 obtain rfl:w3=v3:=h3
 clear p0 p1 c0 c1
 generalize togR x y=t at *
 obtain ⟨t1,t2⟩:=t
 by_cases h0:t2=0
 ·subst h0
  simp only [if_true] at er
  subst er
  go_wp2_with fail
  exact bodyPost_ret (v:=.tuple #[.int .i64 2,.int .i64 0]) (by simp [results,Tryz.results226,go_sem]) rfl ⟨rfl,hb3⟩
 ·simp only [h0,if_false] at er
  subst er
  have q:(t2 != 0)=true:=by simpa using h0
  go_wp2_with fail
  exact bodyPost_ret (v:=.tuple #[.int .i64 0,.int .i64 t2]) (by simp [results,Tryz.results226,go_sem]) rfl ⟨rfl,hb3⟩
set_option maxHeartbeats 400000 in
theorem kidsType_10 (b off cap:Nat) (x y:Int) (w:World) (c0:w.cell? ⟨b,off,none⟩=some (.int .i64 x)) (c1:w.cell? ⟨b,off+1,none⟩=some (.int .i64 y)) (r:Int × Int) (er:r=if (togR x y).2=0 then (2,0) else (0,(togR x y).2)) :
  Calls Tryz.prog 226 #[.int .i64 10,.slice (some ⟨b,off,none⟩) 2 cap] w fun e w'=>e = .returned (.tuple #[.int .i64 r.1,.int .i64 r.2])∧Below w.heap.size w w':=by
 have p0:=past_cell c0
 have p1:=past_cell c1
 haveI:Nonempty (Past w):=⟨⟨_,Below.refl _ _⟩⟩
 go_enter Tryz.func226,Tryz.ntmps226
 go_wp2_with fail
 refine wp_region_past (by kernel_rfl) (by kernel_rfl) ?_
 repeat (go_big_quiet_step (first | (go_at_call 173; exact in_past (together_at x y _))))
 refine wpQuiet_nil ?_
 rintro w3 ⟨⟨v3,hb3⟩,h3⟩
 obtain rfl:w3=v3:=h3
 clear p0 p1 c0 c1
 generalize togR x y=t at *
 obtain ⟨t1,t2⟩:=t
 by_cases h0:t2=0
 ·subst h0
  simp only [if_true] at er
  subst er
  go_wp2_with fail
  exact bodyPost_ret (v:=.tuple #[.int .i64 2,.int .i64 0]) (by simp [results,Tryz.results226,go_sem]) rfl ⟨rfl,hb3⟩
 ·simp only [h0,if_false] at er
  subst er
  have q:(t2 != 0)=true:=by simpa using h0
  go_wp2_with fail
  exact bodyPost_ret (v:=.tuple #[.int .i64 0,.int .i64 t2]) (by simp [results,Tryz.results226,go_sem]) rfl ⟨rfl,hb3⟩
set_option maxHeartbeats 400000 in
theorem kidsType_11 (b off cap:Nat) (x y:Int) (w:World) (c0:w.cell? ⟨b,off,none⟩=some (.int .i64 x)) (c1:w.cell? ⟨b,off+1,none⟩=some (.int .i64 y)) (r:Int × Int) (er:r=if (togR x y).2=0 then (2,0) else (0,(togR x y).2)) :
  Calls Tryz.prog 226 #[.int .i64 11,.slice (some ⟨b,off,none⟩) 2 cap] w fun e w'=>e = .returned (.tuple #[.int .i64 r.1,.int .i64 r.2])∧Below w.heap.size w w':=by
 have p0:=past_cell c0
 have p1:=past_cell c1
 haveI:Nonempty (Past w):=⟨⟨_,Below.refl _ _⟩⟩
 go_enter Tryz.func226,Tryz.ntmps226
 go_wp2_with fail
 refine wp_region_past (by kernel_rfl) (by kernel_rfl) ?_
 repeat (go_big_quiet_step (first | (go_at_call 173; exact in_past (together_at x y _))))
 refine wpQuiet_nil ?_
 rintro w3 ⟨⟨v3,hb3⟩,h3⟩
 obtain rfl:w3=v3:=h3
 clear p0 p1 c0 c1
 generalize togR x y=t at *
 obtain ⟨t1,t2⟩:=t
 by_cases h0:t2=0
 ·subst h0
  simp only [if_true] at er
  subst er
  go_wp2_with fail
  exact bodyPost_ret (v:=.tuple #[.int .i64 2,.int .i64 0]) (by simp [results,Tryz.results226,go_sem]) rfl ⟨rfl,hb3⟩
 ·simp only [h0,if_false] at er
  subst er
  have q:(t2 != 0)=true:=by simpa using h0
  go_wp2_with fail
  exact bodyPost_ret (v:=.tuple #[.int .i64 0,.int .i64 t2]) (by simp [results,Tryz.results226,go_sem]) rfl ⟨rfl,hb3⟩
end Go.Proofs.YtohjlfhmnmcndaaGreat
/- The walk of exprs.kidsType: coalesce and case -/
namespace Go.Proofs.YtohjlfhmnmcndaaGreat
open Go.RowKit

set_option maxHeartbeats 400000 in
theorem kidsType_18 (b off cap:Nat) (x y:Int) (w:World) (c0:w.cell? ⟨b,off,none⟩=some (.int .i64 x)) (c1:w.cell? ⟨b,off+1,none⟩=some (.int .i64 y)) :
  Calls Tryz.prog 226 #[.int .i64 18,.slice (some ⟨b,off,none⟩) 2 cap] w fun e w'=>e = .returned (.tuple #[.int .i64 (togR x y).1,.int .i64 (togR x y).2])∧Below w.heap.size w w':=by
 have p0:=past_cell c0
 have p1:=past_cell c1
 haveI:Nonempty (Past w):=⟨⟨_,Below.refl _ _⟩⟩
 go_enter Tryz.func226,Tryz.ntmps226
 go_wp2_with fail
 refine wp_region_past (by kernel_rfl) (by kernel_rfl) ?_
 repeat (go_big_quiet_step (first | (go_at_call 173; exact in_past (together_at x y _))))
 refine wpQuiet_nil ?_
 rintro w3 ⟨⟨v3,hb3⟩,h3⟩
 obtain rfl:w3=v3:=h3
 go_wp2_with fail
 exact bodyPost_ret (v:=.tuple #[.int .i64 (togR x y).1,.int .i64 (togR x y).2]) (by simp [results,Tryz.results226,go_sem]) rfl ⟨rfl,hb3⟩
set_option maxHeartbeats 800000 in
theorem kidsType_17 (b off cap:Nat) (x y z:Int) (w:World) (hb:b<w.heap.size) (c0:w.cell? ⟨b,off,none⟩=some (.int .i64 x)) (c1:w.cell? ⟨b,off+1,none⟩=some (.int .i64 y)) (c2:w.cell? ⟨b,off+2,none⟩=some (.int .i64 z)) (r:Int × Int) (er:r=if (togR x 2).2=0 then togR y z else (0,(togR x 2).2)) :
  Calls Tryz.prog 226 #[.int .i64 17,.slice (some ⟨b,off,none⟩) 3 cap] w fun e w'=>e = .returned (.tuple #[.int .i64 r.1,.int .i64 r.2])∧Below w.heap.size w w':=by
 go_enter Tryz.func226,Tryz.ntmps226
 go_wp2_with fail
 refine (together_at _ _ _).mono ?_
 rintro e w1 ⟨rfl,hb1⟩
 have d1:=(hb1.cell (p:=⟨b,off+1,none⟩) hb).trans c1
 have d2:=(hb1.cell (p:=⟨b,off+2,none⟩) hb).trans c2
 have p1:=past_cell d1
 have p2:=past_cell d2
 haveI:Nonempty (Past w1):=⟨⟨_,Below.refl _ _⟩⟩
 clear c0 c1 c2
 generalize togR x 2=t at *
 obtain ⟨t1,t2⟩:=t
 by_cases h0:t2=0
 ·subst h0
  simp only [if_true] at er
  subst er
  go_wp2_with fail
  refine wp_region_past (by kernel_rfl) (by kernel_rfl) ?_
  repeat (go_big_quiet_step (first | (go_at_call 173; exact in_past (together_at y z _))))
  refine wpQuiet_nil ?_
  rintro w3 ⟨⟨v3,hb3⟩,h3⟩
  obtain rfl:w3=v3:=h3
  go_wp2_with fail
  exact bodyPost_ret (v:=.tuple #[.int .i64 (togR y z).1,.int .i64 (togR y z).2]) (by simp [results,Tryz.results226,go_sem]) rfl ⟨rfl,chain hb1 hb3⟩
 ·simp only [h0,if_false] at er
  subst er
  have q:(t2 != 0)=true:=by simpa using h0
  go_wp2_with fail
  exact bodyPost_ret (v:=.tuple #[.int .i64 0,.int .i64 t2]) (by simp [results,Tryz.results226,go_sem]) rfl ⟨rfl,hb1⟩
end Go.Proofs.YtohjlfhmnmcndaaGreat
/- The walk of exprs.kidsType, whole. -/
namespace Go.Proofs.YtohjlfhmnmcndaaGreat
open Go.RowKit

theorem list2 {l:List Int} (h:l.length=2):∃ x y,l = [x,y]:=by
 match l,h with
 | [x,y],_=>exact ⟨x,y,rfl⟩
theorem list3 {l:List Int} (h:l.length=3):∃ x y z,l = [x,y,z]:=by
 match l,h with
 | [x,y,z],_=>exact ⟨x,y,z,rfl⟩
theorem kidsT_two {k a b:Int} (h:6≤k) (h':k≤11):resT (kidsT k [a,b])=if (togR a b).2=0 then (2,0) else (0,(togR a b).2):=by
 have e:kidsT k [a,b]=if (tog a b).isSome then some 2 else none:=by
  unfold kidsT
  rw [if_neg (by omega),if_pos ⟨h,h'⟩]
  rfl
 rw [e]
 unfold togR
 cases tog a b <;> rfl
theorem kidsT_three {x y z:Int}:resT (kidsT 17 [x,y,z])=if (togR x 2).2=0 then togR y z else (0,(togR x 2).2):=by
 have e:kidsT 17 [x,y,z]=if (tog x 2).isSome then tog y z else none:=rfl
 rw [e]
 unfold togR
 cases tog x 2 <;> rfl
theorem IsAt.two {B:Nat} {W:World} {a:Option Addr} {x y:Int} (h:IsAt B W a [x,y]):∃ b off,a=some ⟨b,off,none⟩∧b<B∧W.cell? ⟨b,off,none⟩=some (.int .i64 x)∧W.cell? ⟨b,off+1,none⟩=some (.int .i64 y):=by
 obtain ⟨_,h | ⟨b,off,e,hlt,hr⟩⟩:=h
 ·simp at h
 ·exact ⟨b,off,e,hlt,hr 0 (by simp),hr 1 (by simp)⟩
theorem IsAt.three {B:Nat} {W:World} {a:Option Addr} {x y z:Int} (h:IsAt B W a [x,y,z]):∃ b off,a=some ⟨b,off,none⟩∧b<B∧W.cell? ⟨b,off,none⟩=some (.int .i64 x)∧W.cell? ⟨b,off+1,none⟩=some (.int .i64 y)∧W.cell? ⟨b,off+2,none⟩=some (.int .i64 z):=by
 obtain ⟨_,h | ⟨b,off,e,hlt,hr⟩⟩:=h
 ·simp at h
 ·exact ⟨b,off,e,hlt,hr 0 (by simp),hr 1 (by simp),hr 2 (by simp)⟩

theorem kidsType_at (k:Int) (B:Nat) (a:Option Addr) (cap:Nat) (ts:List Int) (w:World) (hB:B≤w.heap.size) (h:IsAt B w a ts) (h3:3≤k) (h18:k≤18) (hl:ts.length=kidsN k) :
  Calls Tryz.prog 226 #[.int .i64 k,.slice a ts.length cap] w fun e w'=>e = .returned (.tuple #[.int .i64 (resT (kidsT k ts)).1,.int .i64 (resT (kidsT k ts)).2])∧Below w.heap.size w w':=by
 obtain rfl | rfl | rfl | rfl | rfl | rfl | rfl | rfl | rfl | rfl | rfl | rfl | rfl | rfl | rfl | rfl:k=3∨k=4∨k=5∨k=12∨k=13∨k=14∨k=15∨k=16∨k=6∨k=7∨k=8∨k=9∨k=10∨k=11∨k=17∨k=18:=by omega
 ·have e:kidsT 3 ts=allO 2 ts:=rfl
  rw [e]
  exact kidsType_3 B a cap ts w hB h
 ·have e:kidsT 4 ts=allO 2 ts:=rfl
  rw [e]
  exact kidsType_4 B a cap ts w hB h
 ·have e:kidsT 5 ts=allO 2 ts:=rfl
  rw [e]
  exact kidsType_5 B a cap ts w hB h
 ·have e:kidsT 12 ts=allO 3 ts:=rfl
  rw [e]
  exact kidsType_12 B a cap ts w hB h
 ·have e:kidsT 13 ts=allO 3 ts:=rfl
  rw [e]
  exact kidsType_13 B a cap ts w hB h
 ·have e:kidsT 14 ts=allO 3 ts:=rfl
  rw [e]
  exact kidsType_14 B a cap ts w hB h
 ·have e:kidsT 15 ts=allO 4 ts:=rfl
  rw [e]
  exact kidsType_15 B a cap ts w hB h
 ·have e:resT (kidsT 16 ts)=(2,0):=rfl
  rw [e]
  exact kidsType_16 a ts.length cap w
 ·obtain ⟨x,y,rfl⟩:=list2 hl
  obtain ⟨b,off,rfl,hlt,c0,c1⟩:=h.two
  exact kidsType_6 b off cap x y w c0 c1 _ (kidsT_two (by decide) (by decide))
 ·obtain ⟨x,y,rfl⟩:=list2 hl
  obtain ⟨b,off,rfl,hlt,c0,c1⟩:=h.two
  exact kidsType_7 b off cap x y w c0 c1 _ (kidsT_two (by decide) (by decide))
 ·obtain ⟨x,y,rfl⟩:=list2 hl
  obtain ⟨b,off,rfl,hlt,c0,c1⟩:=h.two
  exact kidsType_8 b off cap x y w c0 c1 _ (kidsT_two (by decide) (by decide))
 ·obtain ⟨x,y,rfl⟩:=list2 hl
  obtain ⟨b,off,rfl,hlt,c0,c1⟩:=h.two
  exact kidsType_9 b off cap x y w c0 c1 _ (kidsT_two (by decide) (by decide))
 ·obtain ⟨x,y,rfl⟩:=list2 hl
  obtain ⟨b,off,rfl,hlt,c0,c1⟩:=h.two
  exact kidsType_10 b off cap x y w c0 c1 _ (kidsT_two (by decide) (by decide))
 ·obtain ⟨x,y,rfl⟩:=list2 hl
  obtain ⟨b,off,rfl,hlt,c0,c1⟩:=h.two
  exact kidsType_11 b off cap x y w c0 c1 _ (kidsT_two (by decide) (by decide))
 ·obtain ⟨x,y,z,rfl⟩:=list3 hl
  obtain ⟨b,off,rfl,hlt,c0,c1,c2⟩:=h.three
  exact kidsType_17 b off cap x y z w (by omega) c0 c1 c2 _ kidsT_three
 ·obtain ⟨x,y,rfl⟩:=list2 hl
  obtain ⟨b,off,rfl,hlt,c0,c1⟩:=h.two
  have e:resT (kidsT 18 [x,y])=togR x y:=rfl
  rw [e]
  exact kidsType_18 b off cap x y w c0 c1
end Go.Proofs.YtohjlfhmnmcndaaGreat
/- Expressions in memory; what a walk with a counter of its own leaves as it was. -/
namespace Go.Proofs.YtohjlfhmnmcndaaGreat
open Go.RowKit

/-- Expressions lie in a slice, and their kids behind them, all below B. -/
inductive KsAt (B:Nat) (W:World):Option Addr→List Ex→Prop
 | nil (a:Option Addr):KsAt B W a []
 | some (b off:Nat) (l:List Ex) (ai:Nat→Option Addr) (cap:Nat→Nat) (hb:b<B)
   (hc:∀ (i:Nat) (h:i<l.length),Six W b (off+i*6) l[i].k l[i].v l[i].c (ai i) l[i].ks.length (cap i))
   (hk:∀ (i:Nat) (h:i<l.length),KsAt B W (ai i) l[i].ks):KsAt B W (some ⟨b,off,none⟩) l
theorem KsAt.next {B B':Nat} {W w1:World} (hb:Below B' W w1) (hB:B≤B') {a:Option Addr} {l:List Ex} (h:KsAt B W a l):KsAt B w1 a l:=by
 induction h with
 | nil a=>exact .nil a
 | some b off l ai cap hlt hc _ ih=>exact .some b off l ai cap hlt (fun i hi=>(hc i hi).next hb (Nat.lt_of_lt_of_le hlt hB)) ih
theorem KsAt.up {B B':Nat} {W:World} (hB:B≤B') {a:Option Addr} {l:List Ex} (h:KsAt B W a l):KsAt B' W a l:=by
 induction h with
 | nil a=>exact .nil a
 | some b off l ai cap hlt hc _ ih=>exact .some b off l ai cap (Nat.lt_of_lt_of_le hlt hB) hc ih
theorem KsAt.elem {B:Nat} {W:World} {a:Option Addr} {l:List Ex} (h:KsAt B W a l) {k:Nat} (hk:k<l.length) :
  ∃ b off ai cap,a=Option.some ⟨b,off,none⟩∧b<B∧Six W b (off+k*6) l[k].k l[k].v l[k].c ai l[k].ks.length cap∧KsAt B W ai l[k].ks:=by
 cases h with
 | nil=>simp at hk
 | some b off l ai cap hlt hc hh=>exact ⟨b,off,ai k,cap k,rfl,hlt,hc k hk,hh k hk⟩

/-- As 'Below' of all that was there, but for block t. -/
def BelowX (t:Nat) (w w':World):Prop:=Below t w w'∧∀ k,k<w.heap.size→k≠t→w'.heap[k]? = w.heap[k]?
theorem BelowX.refl (t:Nat) (w:World):BelowX t w w:=⟨Below.refl _ _,fun _ _ _=>rfl⟩
theorem BelowX.size {t:Nat} {a b:World} (h:BelowX t a b):a.heap.size≤b.heap.size:=h.1.size
theorem BelowX.trans {t:Nat} {a b c:World} (h:BelowX t a b) (k:BelowX t b c):BelowX t a c :=
 ⟨h.1.trans k.1,fun i hi hn=>(k.2 i (Nat.lt_of_lt_of_le hi h.size) hn).trans (h.2 i hi hn)⟩
theorem BelowX.of {t:Nat} {a b:World} (h:Below a.heap.size a b) (ht:t≤a.heap.size):BelowX t a b:=⟨h.mono ht,fun k hk _=>h.block k hk⟩
theorem BelowX.set {t:Nat} {a b:World} (h:BelowX t a b) (o:Nat) (u:Value):BelowX t a (b.setCell ⟨t,o,none⟩ u) :=
 ⟨h.1.setCell (Nat.le_refl _) u,fun k hk hn=>(Below.heap_setCell b ⟨t,o,none⟩ u k hn).trans (h.2 k hk hn)⟩
/-- A store into a block that is newer. -/
theorem BelowX.setNew {t:Nat} {a b:World} (h:BelowX t a b) (g o:Nat) (u:Value) (hg:a.heap.size≤g) (ht:t≤a.heap.size):BelowX t a (b.setCell ⟨g,o,none⟩ u) :=
 ⟨h.1.setCell (Nat.le_trans ht hg) u,fun k hk hn=>(Below.heap_setCell b ⟨g,o,none⟩ u k (by show k≠g; omega)).trans (h.2 k hk hn)⟩
theorem BelowX.cell {t:Nat} {a b:World} (h:BelowX t a b) {p:Addr} (hp:p.block<a.heap.size) (hn:p.block≠t):b.cell? p=a.cell? p:=World.cell?_of_block (w:=a) (h.2 p.block hp hn)
theorem BelowX.frozen {t:Nat} {a b:World} (h:BelowX t a b) {p:Addr} (hp:p.block<a.heap.size) (hn:p.block≠t):b.frozen? p=a.frozen? p:=World.frozen?_of_block (w:=a) (h.2 p.block hp hn)
theorem BelowX.below {t B:Nat} {a b:World} (h:BelowX t a b) (hB:B≤t):Below B a b:=h.1.mono hB
theorem Six.nextX {W w1:World} {t b off:Nat} {k:Int} {v:Vl} {c:Int} {a:Option Addr} {n cap:Nat} (h:Six W b off k v c a n cap) (hb:BelowX t W w1) (hB:b<W.heap.size) (hn:b≠t):Six w1 b off k v c a n cap :=
 ⟨(hb.cell (p:=⟨b,_,none⟩) hB hn).trans h.c0,(hb.cell (p:=⟨b,_,none⟩) hB hn).trans h.c1,(hb.cell (p:=⟨b,_,none⟩) hB hn).trans h.c2,(hb.cell (p:=⟨b,_,none⟩) hB hn).trans h.c3,(hb.cell (p:=⟨b,_,none⟩) hB hn).trans h.c4,(hb.cell (p:=⟨b,_,none⟩) hB hn).trans h.c5⟩

/-- One who counts: the columns, and how many nodes so far. -/
structure TyC (W:World) (t:Nat) (ca:Option Addr) (n cap:Nat) (m:Int):Prop where
 lt:t<W.heap.size
 c0:W.cell? ⟨t,0,none⟩=some (.slice ca n cap)
 c1:W.cell? ⟨t,1,none⟩=some (.int .i64 m)
 f1:W.frozen? ⟨t,1,none⟩=false
theorem TyC.next {W w1:World} {t:Nat} {ca:Option Addr} {n cap:Nat} {m:Int} (h:TyC W t ca n cap m) (hb:Below W.heap.size W w1):TyC w1 t ca n cap m :=
 ⟨Nat.lt_of_lt_of_le h.lt hb.size,(hb.cell (p:=⟨t,0,none⟩) h.lt).trans h.c0,(hb.cell (p:=⟨t,1,none⟩) h.lt).trans h.c1,(hb.frozen (p:=⟨t,1,none⟩) h.lt).trans h.f1⟩
theorem TyC.count {W:World} {t:Nat} {ca:Option Addr} {n cap:Nat} {m:Int} (h:TyC W t ca n cap m) (m':Int):TyC (W.setCell ⟨t,1,none⟩ (.int .i64 m')) t ca n cap m':=by
 obtain ⟨lt,c0,c1,f1⟩:=h
 refine ⟨by simpa using lt,?_,?_,?_⟩
 ·rw [World.cell?_setCell_other _ _ _ _ (by simp)]
  exact c0
 ·exact World.cell?_setCell_same _ _ _ c1
 ·simpa using f1
/-- Numbers of one's own. -/
structure Own1 (W:World) (g:Nat) (l:List Int):Prop where
 lt:g<W.heap.size
 c:∀ (i:Nat) (h:i<l.length),W.cell? ⟨g,i,none⟩=some (.int .i64 l[i])
 f:∀ i:Nat,W.frozen? ⟨g,i,none⟩=false
theorem Own1.nextX {t:Nat} {W w1:World} {g:Nat} {l:List Int} (h:Own1 W g l) (hb:BelowX t W w1) (hn:g≠t):Own1 w1 g l :=
 ⟨Nat.lt_of_lt_of_le h.lt hb.size,fun i hi=>(hb.cell (p:=⟨g,i,none⟩) h.lt hn).trans (h.c i hi),fun i=>(hb.frozen (p:=⟨g,i,none⟩) h.lt hn).trans (h.f i)⟩
theorem Own1.set {W:World} {g:Nat} {l:List Int} (h:Own1 W g l) (i:Nat) (hi:i<l.length) (u:Int):Own1 (W.setCell ⟨g,i,none⟩ (.int .i64 u)) g (l.set i u):=by
 refine ⟨by simpa using h.lt,fun j hj=>?_,fun j=>by simpa using h.f j⟩
 have hj':j<l.length:=by simpa using hj
 by_cases e:i=j
 ·subst e
  rw [World.cell?_setCell_same _ _ _ (h.c i hi)]
  simp
 ·rw [World.cell?_setCell_other _ _ _ _ (by intro h; injection h with _ h; exact e h),h.c j hj']
  simp [List.getElem_set_ne e]
theorem Own1.is {W:World} {g:Nat} {l:List Int} (h:Own1 W g l) (hl:l.length≤maxLen):IsAt W.heap.size W (some ⟨g,0,none⟩) l :=
 ⟨hl,.inr ⟨g,0,rfl,h.lt,fun i hi=>by simpa using h.c i hi⟩⟩
theorem Own1.new (w : World) (n t : Nat) : Own1 (w.alloc (.cells (Array.replicate n (.int .i64 0)) t)) w.heap.size (List.replicate n 0) :=
  ⟨by simp, fun i hi => by have : i < n := by simpa using hi
                           simp [this], fun i => by simp⟩
/-- 'make' of no more than three numbers. -/
theorem make_ints {n:Nat} (h:n≤3) (w:World):(Instr.makeSlice 45 (.int .i64 n) (.int .i64 n)).run Tryz.prog w = .ok (.slice (some ⟨w.heap.size,0,none⟩) n n) (w.alloc (.cells (Array.replicate n (.int .i64 0)) 3)):=by
 obtain rfl | rfl | rfl | rfl:n=0∨n=1∨n=2∨n=3:=by omega
 all_goals kernel_rfl
theorem kidsN_le (k:Int):kidsN k≤3:=by
 unfold kidsN
 repeat' split
 all_goals omega
end Go.Proofs.YtohjlfhmnmcndaaGreat
/- The walk of exprs' typeOf. -/
namespace Go.Proofs.YtohjlfhmnmcndaaGreat
open Go.RowKit

/-- What typeOf is asked for. -/
def TypeOfAt (cols:List Int) (x:Ex):Prop :=
 ∀ (B t:Nat) (ca:Option Addr) (ccap:Nat) (a:Option Addr) (cap:Nat) (m d:Int) (w:World),KsAt B w a x.ks→IsAt B w ca cols→B≤t→TyC w t ca cols.length ccap m→0≤m→m≤200→0≤d→d≤21 →
  Calls Tryz.prog 197 #[.pointer (some ⟨t,0,none⟩),exV x.k x.v x.c a x.ks.length cap,.int .i64 d] w fun e w' =>
   e = .returned (.tuple #[.int .i64 (typeX cols x m d).1,.int .i64 (typeX cols x m d).2.1])∧BelowX t w w'∧TyC w' t ca cols.length ccap (typeX cols x m d).2.2

theorem typeX_bad {cols:List Int} {k:Int} {v:Vl} {c:Int} {ks:List Ex} {m d:Int} (h:¬ nodeW k ks.length (m+1) d=0):typeX cols (.mk k v c ks) m d=(0,nodeW k ks.length (m+1) d,m+1):=by
 rw [typeX,if_pos h]
theorem typeX_kid {cols:List Int} {k:Int} {v:Vl} {c:Int} {ks:List Ex} {m d:Int} (h:nodeW k ks.length (m+1) d=0) {e:Int} {ts:List Int} {n:Int} (hk:typesX cols ks [] (m+1) (d+1)=(e,ts,n)) (he:¬ e=0):typeX cols (.mk k v c ks) m d=(0,e,n):=by
 rw [typeX,if_neg (by simp [h]),hk,if_pos he]
theorem typeX_own {cols:List Int} {k:Int} {v:Vl} {c:Int} {ks:List Ex} {m d:Int} (h:nodeW k ks.length (m+1) d=0) {ts:List Int} {n:Int} (hk:typesX cols ks [] (m+1) (d+1)=(0,ts,n)):typeX cols (.mk k v c ks) m d=((nodeT cols k v c ts).1,(nodeT cols k v c ts).2,n):=by
 rw [typeX,if_neg (by simp [h]),hk,if_neg (by simp)]
theorem typesX_end (cols:List Int) (ks:List Ex) (ts:List Int) (n d:Int) (j:Nat) (h:ks.length≤j):typesX cols (ks.drop j) ts n d=(0,ts,n):=by
 rw [List.drop_eq_nil_of_le h,typesX]
theorem typesX_bad (cols:List Int) (ks:List Ex) (ts:List Int) (n d:Int) (j:Nat) (h:j<ks.length) (he:¬ (typeX cols ks[j] n d).2.1=0):typesX cols (ks.drop j) ts n d=((typeX cols ks[j] n d).2.1,ts,(typeX cols ks[j] n d).2.2):=by
 rw [List.drop_eq_getElem_cons h,typesX,if_pos he]
theorem typesX_next (cols:List Int) (ks:List Ex) (ts:List Int) (n d:Int) (j:Nat) (h:j<ks.length) (he:(typeX cols ks[j] n d).2.1=0):typesX cols (ks.drop j) ts n d=typesX cols (ks.drop (j+1)) (ts ++ [(typeX cols ks[j] n d).1]) (typeX cols ks[j] n d).2.2 d:=by
 rw [List.drop_eq_getElem_cons h,typesX,if_neg (by simp [he])]

theorem cell_far {W:World} {g o b p:Nat} {u:Value} (hn:g≠b):(W.setCell ⟨g,o,none⟩ u).cell? ⟨b,p,none⟩=W.cell? ⟨b,p,none⟩ :=
 World.cell?_setCell_other _ _ _ _ (by intro h; injection h with h; exact hn h)
theorem Six.far {W:World} {b off:Nat} {k:Int} {v:Vl} {c:Int} {a:Option Addr} {n cap:Nat} (h:Six W b off k v c a n cap) (g o:Nat) (u:Value) (hn:g≠b):Six (W.setCell ⟨g,o,none⟩ u) b off k v c a n cap :=
 ⟨(cell_far hn).trans h.c0,(cell_far hn).trans h.c1,(cell_far hn).trans h.c2,(cell_far hn).trans h.c3,(cell_far hn).trans h.c4,(cell_far hn).trans h.c5⟩
theorem TyC.far {W:World} {t:Nat} {ca:Option Addr} {n cap:Nat} {m:Int} (h:TyC W t ca n cap m) (g o:Nat) (u:Value) (hn:g≠t):TyC (W.setCell ⟨g,o,none⟩ u) t ca n cap m :=
 ⟨by simpa using h.lt,(cell_far hn).trans h.c0,(cell_far hn).trans h.c1,by simpa using h.f1⟩
theorem pad_set (ts:List Int) (n j:Nat) (x:Int) (h:ts.length=j) (hj:j<n):(ts ++ List.replicate (n - j) 0).set j x=(ts ++ [x]) ++ List.replicate (n - (j+1)) 0:=by
 subst h
 obtain ⟨q,hq⟩:∃ q,n - ts.length=q+1:=⟨n - ts.length - 1,by omega⟩
 have hq':n - (ts.length+1)=q:=by omega
 rw [hq,hq',List.replicate_succ,List.set_append_right _ _ (Nat.le_refl _)]
 simp

set_option maxHeartbeats 2000000 in
theorem typeOf_at (cols:List Int) (k:Int) (v:Vl) (c:Int) (ks:List Ex) (ih:∀ x ∈ ks,TypeOfAt cols x):TypeOfAt cols (.mk k v c ks):=by
 intro B t ca ccap a cap m d w hk hc hBt ht hm0 hm hd0 hd
 simp only [Ex.k,Ex.v,Ex.c,Ex.ks] at hk ⊢
 have H1:=ht.lt
 have H2:=ht.c1
 have H3:=ht.f1
 generalize hr:typeX cols (.mk k v c ks) m d=r
 have HR:Hid (typeX cols (.mk k v c ks) m d=r):=hr
 clear hr
 go_enter Tryz.func197,Tryz.ntmps197
 go_wp2_with fail
 have T0:=ht.count (m+1)
 have X0:=(BelowX.refl t w).set 1 (.int .i64 (m+1))
 have SA:=Six.new (w.setCell ⟨t,1,none⟩ (.int .i64 (m+1))) k v c a ks.length cap 27
 rw [World.size_setCell] at SA
 have hal:Below (w.setCell ⟨t,1,none⟩ (.int .i64 (m+1))).heap.size (w.setCell ⟨t,1,none⟩ (.int .i64 (m+1))) ((w.setCell ⟨t,1,none⟩ (.int .i64 (m+1))).alloc (.cells #[.int .i64 k,.int .i64 v.1,.int .i64 v.2.1,.string v.2.2,.int .i64 c,.slice a ks.length cap] 27)):=(Below.refl _ _).alloc (Nat.le_refl _) _
 have TA:=T0.next hal
 have XA:=X0.trans (BelowX.of hal (by simp; omega))
 have zA:w.heap.size<((w.setCell ⟨t,1,none⟩ (.int .i64 (m+1))).alloc (.cells #[.int .i64 k,.int .i64 v.1,.int .i64 v.2.1,.string v.2.2,.int .i64 c,.slice a ks.length cap] 27)).heap.size:=by simp
 clear hal T0 X0 H2 H3 ht
 generalize (w.setCell ⟨t,1,none⟩ (.int .i64 (m+1))).alloc (.cells #[.int .i64 k,.int .i64 v.1,.int .i64 v.2.1,.string v.2.2,.int .i64 c,.slice a ks.length cap] 27)=wA at *
 have p0:=past_cell SA.c0
 have p1:=past_cell SA.c1
 have p2:=past_cell SA.c2
 have p3:=past_cell SA.c3
 have p4:=past_cell SA.c4
 have p5:=past_cell SA.c5
 have p6:=past_cell TA.c1
 simp only [Nat.zero_add] at p1 p2 p3 p4 p5
 haveI:Nonempty (Past wA):=⟨⟨_,Below.refl _ _⟩⟩
 refine wp_region_past (by kernel_rfl) (by kernel_rfl) ?_
 repeat (go_big_quiet_step (first | (go_at_call 223; exact in_past (wrongNode_at k v c a ks.length cap (m+1) d _))))
 refine wpQuiet_nil ?_
 rintro w3 ⟨⟨v3,hb3⟩,h3'⟩
 obtain rfl:w3=v3:=h3'
 have T3:=TA.next hb3
 have S3:=SA.next hb3 zA
 have X3:=XA.trans (BelowX.of hb3 (by omega))
 have z3:=hb3.size
 clear p0 p1 p2 p3 p4 p5 p6 TA SA XA this
 generalize hw0:nodeW k ks.length (m+1) d=e0
 by_cases hw:e0=0
 ·subst hw
  have HW:Hid (nodeW k ks.length (m+1) d=0):=hw0
  have hq:ks.length=kidsN k∧1≤k∧k≤18∧m+1≤200∧d≤20:=by
   unfold nodeW at hw0
   by_cases g1:200<m+1∨20<d
   ·simp [g1] at hw0
   by_cases g2:k<1∨18<k
   ·simp [g1,g2] at hw0
   by_cases g3:ks.length=kidsN k
   ·exact ⟨g3,by omega⟩
   ·simp [g1,g2,g3] at hw0
  obtain ⟨hln,hk1,hk18,hm1,hd1⟩:=hq
  have hl3:ks.length≤3:=by rw [hln]; exact kidsN_le k
  have HL:Hid (ks.length=kidsN k):=hln
  have hmk:=make_ints hl3
  clear hw0 hln
  obtain ⟨s0,s1,s2,s3,s4,s5⟩:=S3
  simp only [Nat.zero_add] at s1 s2 s3 s4 s5
  have zl:w.heap.size<w3.heap.size:=by omega
  go_wp2_with fail
  have S3:Six w3 w.heap.size 0 k v c a ks.length cap:=⟨s0,s1,s2,s3,s4,s5⟩
  have O4:=Own1.new w3 ks.length 3
  have hal:Below w3.heap.size w3 (w3.alloc (.cells (Array.replicate ks.length (.int .i64 0)) 3)):=(Below.refl _ _).alloc (Nat.le_refl _) _
  have T4:=T3.next hal
  have S4:=S3.next hal zl
  have X4:=X3.trans (BelowX.of hal (by omega))
  generalize w3.alloc (.cells (Array.replicate ks.length (.int .i64 0)) 3)=w4 at *
  clear hal T3 S3 X3 s0 s1 s2 s3 s4 s5 hmk hb3 z3 zA
  generalize w3.heap.size=g at *
  go_loopw [38] (fun i wr=>∃ (j:Nat) (ts:List Int) (q:Int),j≤ks.length∧i = .int .i64 j∧Hid (ts.length=j)∧0≤q∧q≤200∧Hid (typesX cols ks [] (m+1) (d+1)=typesX cols (ks.drop j) ts q (d+1)) ∧
   BelowX t w wr∧TyC wr t ca cols.length ccap q∧Six wr w.heap.size 0 k v c a ks.length cap∧Own1 wr g (ts ++ List.replicate (ks.length - j) 0)) (fun i _=>ks.length - (intOf i).toNat)
  case atStart=>exact ⟨0,[],m+1,Nat.zero_le _,rfl,rfl,by omega,hm1,rfl,X4,T4,S4,by simpa using O4⟩
  case round =>
   obtain ⟨j,ts,q,hj,rfl,HT,hq0,hq,HE,hX,hT,hS,hO⟩:=hrel
   have hz:=hX.size
   have hOl:=hO.lt
   by_cases hlt:j<ks.length
   ·obtain ⟨b,off,ai,ci,rfl,hbl,sx,kx⟩:=(KsAt.next (hX.below hBt) (Nat.le_refl _) hk).elem hlt
    have hcr:=hc.next (hX.below hBt) (Nat.le_refl _)
    obtain ⟨x0,x1,x2,x3,x4,x5⟩:=sx
    have hal:Below wr.heap.size wr (wr.alloc (.cells #[.int .i64 ks[j].k,.int .i64 ks[j].v.1,.int .i64 ks[j].v.2.1,.string ks[j].v.2.2,.int .i64 ks[j].c,.slice ai ks[j].ks.length ci] 27)):=(Below.refl _ _).alloc (Nat.le_refl _) _
    have con:=ih ks[j] (List.getElem_mem _) B t ca ccap ai ci q (d+1) _ (KsAt.next hal (by omega) kx) (hcr.next hal (by omega)) hBt (hT.next hal) hq0 hq (by omega) (by omega)
    go_wp2_with fail
    refine con.mono ?_
    clear con
    rintro e w5 ⟨rfl,hX5,hT5⟩
    have X5:=(BelowX.of hal (t:=t) (by omega)).trans hX5
    have hX5':=hX.trans X5
    have O5:=hO.nextX X5 (by omega)
    have S5:=hS.nextX X5 (by omega) (by omega)
    generalize hty:typeX cols ks[j] q (d+1)=ty at *
    have HY:Hid (typeX cols ks[j] q (d+1)=ty):=hty
    obtain ⟨t1,e1,n1⟩:=ty
    clear hty hX5 hal hT hS hO x0 x1 x2 x3 x4 x5 kx hcr
    by_cases he:e1=0
    ·subst he
     have hn1:=typeX_n (by rw [HY.out]:(typeX cols ks[j] q (d+1)).2.1=0)
     rw [HY.out] at hn1
     have HN:Hid (n1≤200∧q<n1):=hn1
     have hlen:j<(ts ++ List.replicate (ks.length - j) 0).length:=by have:=HT.out; simp; omega
     have cc:w5.cell? ⟨g,j,none⟩=some (.int .i64 ((ts ++ List.replicate (ks.length - j) 0).getD j 0)):=by rw [O5.c j hlen]; simp [List.getD,List.getElem?_eq_getElem hlen]
     generalize (ts ++ List.replicate (ks.length - j) 0).getD j 0=old at cc
     have ff:=O5.f j
     have O6:=O5.set j hlen t1
     rw [pad_set ts ks.length j t1 HT.out hlt] at O6
     have S6:=S5.far g j (.int .i64 t1) (by omega)
     have T6:=hT5.far g j (.int .i64 t1) (by omega)
     have X6:=hX5'.setNew g j (.int .i64 t1) (by omega) (by omega)
     clear hn1 O5 S5 hT5 hX5' X5 hlen
     go_wp2_with fail
     go_roundw
     case rel=>exact ⟨j+1,ts ++ [t1],n1,by omega,by go_num,by have:=HT.out; show (ts ++ [t1]).length=j+1; simp [this],by have:=HN.out; omega,HN.out.1,by rw [HE.out,typesX_next cols ks ts q (d+1) j hlt (by rw [HY.out]),HY.out]; rfl,X6,T6,S6,O6⟩
     case measure=>simp [intOf]; omega
    ·have er:r=(0,e1,n1):=by
      rw [← HR.out]
      refine typeX_kid HW.out (ts:=ts) ?_ he
      rw [HE.out,typesX_bad cols ks ts q (d+1) j hlt (by rw [HY.out]; exact he),HY.out]
     subst er
     have q':(e1 != 0)=true:=by simpa using he
     clear HR O5 S5
     go_wp2_with fail
     exact bodyPost_ret (v:=.tuple #[.int .i64 0,.int .i64 e1]) (by simp [results,Tryz.results197,go_sem]) rfl ⟨rfl,hX5',hT5⟩
   ·have ej:j=ks.length:=by omega
    subst ej
    have hts:=HT.out
    rw [Nat.sub_self,List.replicate_zero,List.append_nil] at hO
    have er:r=((nodeT cols k v c ts).1,(nodeT cols k v c ts).2,q):=by
     rw [← HR.out]
     refine typeX_own HW.out ?_
     rw [HE.out,typesX_end cols ks ts q (d+1) _ (Nat.le_refl _)]
    have HTS:Hid (ts.length=ks.length):=hts
    clear HR HE hts HT
    obtain ⟨s0,s1,s2,s3,s4,s5⟩:=hS
    simp only [Nat.zero_add] at s1 s2 s3 s4 s5
    by_cases k1:k=1
    ·subst k1
     have e:nodeT cols 1 v c ts=litT v:=by simp [nodeT]
     rw [e] at er
     subst er
     clear e
     go_wp2_with fail
     refine (litType_at v _).mono ?_
     rintro e w5 ⟨rfl,hb5⟩
     have T5:=hT.next hb5
     have X5:=hX.trans (BelowX.of hb5 (by omega))
     clear s0 s1 s2 s3 s4 s5
     go_wp2_with fail
     exact bodyPost_ret (v:=.tuple #[.int .i64 (litT v).1,.int .i64 (litT v).2]) (by simp [results,Tryz.results197,go_sem]) rfl ⟨rfl,X5,T5⟩
    have n1:(k == 1)=false:=by simpa using k1
    by_cases k2:k=2
    ·subst k2
     have e:nodeT cols 2 v c ts=colT cols c:=by simp [nodeT]
     rw [e] at er
     subst er
     clear e
     have hcr:=hc.next (hX.below hBt) (Nat.le_refl _)
     have p0:=past_cell hT.c0
     have p4:=past_cell s4
     haveI:Nonempty (Past wr):=⟨⟨_,Below.refl _ _⟩⟩
     go_wp2_with fail
     refine wp_region_past (by kernel_rfl) (by kernel_rfl) ?_
     repeat (go_big_quiet_step (first | (go_at_call 225; exact in_past (colType_at B ca ccap cols c _ (hcr.next (Past.ok _) (by omega))))))
     refine wpQuiet_nil ?_
     rintro w5 ⟨⟨v5,hb5⟩,h5⟩
     obtain rfl:w5=v5:=h5
     have T5:=hT.next hb5
     have X5:=hX.trans (BelowX.of hb5 (by omega))
     clear p0 p4 s0 s1 s2 s3 s4 s5
     go_wp2_with fail
     exact bodyPost_ret (v:=.tuple #[.int .i64 (colT cols c).1,.int .i64 (colT cols c).2]) (by simp [results,Tryz.results197,go_sem]) rfl ⟨rfl,X5,T5⟩
    have n2:(k == 2)=false:=by simpa using k2
    have e:nodeT cols k v c ts=resT (kidsT k ts):=by simp [nodeT,k1,k2]
    rw [e] at er
    clear e
    have con:=kidsType_at k wr.heap.size (some ⟨g,0,none⟩) ks.length ts wr (Nat.le_refl _) (hO.is (by rw [HTS.out]; unfold maxLen; omega)) (by omega) hk18 (by rw [HTS.out]; exact HL.out)
    rw [HTS.out] at con
    generalize resT (kidsT k ts)=rr at *
    subst er
    go_wp2_with fail
    refine con.mono ?_
    rintro e w5 ⟨rfl,hb5⟩
    have T5:=hT.next hb5
    have X5:=hX.trans (BelowX.of hb5 (by omega))
    clear con s0 s1 s2 s3 s4 s5
    go_wp2_with fail
    exact bodyPost_ret (v:=.tuple #[.int .i64 rr.1,.int .i64 rr.2]) (by simp [results,Tryz.results197,go_sem]) rfl ⟨rfl,X5,T5⟩
 ·have er:r=(0,e0,m+1):=by rw [← HR.out,← hw0,typeX_bad (by rw [hw0]; exact hw)]
  subst er
  have q:(e0 != 0)=true:=by simpa using hw
  clear hw0 HR S3
  go_wp2_with fail
  exact bodyPost_ret (v:=.tuple #[.int .i64 0,.int .i64 e0]) (by simp [results,Tryz.results197,go_sem]) rfl ⟨rfl,X3,T3⟩
theorem typeOf_any (cols:List Int):∀ x,TypeOfAt cols x:=Ex.ind fun k v c ks ih=>typeOf_at cols k v c ks ih
end Go.Proofs.YtohjlfhmnmcndaaGreat
/- What an expression comes to, as a function value: ready. -/
namespace Go.Proofs.YtohjlfhmnmcndaaGreat
open Go.RowKit

theorem Asks.congr {cols:List Int} {lo:Nat} {u:Value} {f f':List Vl→Vl} {w:World} (h:Asks cols lo u f w) (e:∀ row,FitP cols row→f row=f' row):Asks cols lo u f' w:=by
 obtain ⟨g,cb,eu,eg,hd⟩:=h
 exact ⟨g,cb,eu,eg,fun row a cap W hf hs hW=>by rw [← e row hf]; exact hd row a cap W hf hs hW⟩
/-- 'make' of no more than eight functions. -/
theorem make_funcs {n:Nat} (h:n≤8) (w:World):(Instr.makeSlice 183 (.int .i64 n) (.int .i64 n)).run Tryz.prog w = .ok (.slice (some ⟨w.heap.size,0,none⟩) n n) (w.alloc (.cells (Array.replicate n Value.nilFunc) 179)):=by
 obtain rfl | rfl | rfl | rfl | rfl | rfl | rfl | rfl | rfl:n=0∨n=1∨n=2∨n=3∨n=4∨n=5∨n=6∨n=7∨n=8:=by omega
 all_goals kernel_rfl

/-- Functions in a slice in a variable, the first j of them made. -/
structure FTo (cols:List Int) (K kb M:Nat) (W:World) (ks:List Ex) (j:Nat):Prop where
 lt:K<M∧kb<M∧K≠kb∧M≤W.heap.size
 box:W.cell? ⟨kb,0,none⟩=some (.slice (some ⟨K,0,none⟩) ks.length ks.length)
 room:∀ i,i<ks.length→(∃ u,W.cell? ⟨K,i,none⟩=some u)∧W.frozen? ⟨K,i,none⟩=false
 done:∀ i (h:i<ks.length),i<j→∃ u,W.cell? ⟨K,i,none⟩=some u∧Asks cols M u (fun row=>valX row ks[i]) W
theorem FTo.next {cols:List Int} {K kb M:Nat} {W w1:World} {ks:List Ex} {j:Nat} (h:FTo cols K kb M W ks j) (hb:Below W.heap.size W w1):FTo cols K kb M w1 ks j:=by
 obtain ⟨h1,h2,h3,h4⟩:=h
 have z:=hb.size
 refine ⟨⟨h1.1,h1.2.1,h1.2.2.1,by omega⟩,(hb.cell (p:=⟨kb,0,none⟩) (by show kb<_; omega)).trans h2,fun i hi=>?_,fun i hi hj=>?_⟩
 ·obtain ⟨⟨u,hu⟩,hf⟩:=h3 i hi
  exact ⟨⟨u,(hb.cell (p:=⟨K,i,none⟩) (by show K<_; omega)).trans hu⟩,(hb.frozen (p:=⟨K,i,none⟩) (by show K<_; omega)).trans hf⟩
 ·obtain ⟨u,hu,ha⟩:=h4 i hi hj
  exact ⟨u,(hb.cell (p:=⟨K,i,none⟩) (by show K<_; omega)).trans hu,ha.next (Since.of hb)⟩
theorem FTo.store {cols:List Int} {K kb M:Nat} {W:World} {ks:List Ex} {j:Nat} (h:FTo cols K kb M W ks j) (hj:j<ks.length) {u:Value} (ha:Asks cols M u (fun row=>valX row ks[j]) W):FTo cols K kb M (W.setCell ⟨K,j,none⟩ u) ks (j+1):=by
 obtain ⟨h1,h2,h3,h4⟩:=h
 have hS:Since M W (W.setCell ⟨K,j,none⟩ u):=(Since.refl M W).set K j u (by omega)
 have same:(W.setCell ⟨K,j,none⟩ u).cell? ⟨K,j,none⟩=some u:=World.cell?_setCell_same' _ _ _ (by obtain ⟨⟨u',hu⟩,_⟩:=h3 j hj; rw [hu]; rfl)
 refine ⟨⟨h1.1,h1.2.1,h1.2.2.1,by simpa using h1.2.2.2⟩,?_,fun i hi=>?_,fun i hi hij=>?_⟩
 ·rw [World.cell?_setCell_other _ _ _ _ (by intro e; injection e with e; omega)]; exact h2
 ·obtain ⟨⟨u',hu⟩,hf⟩:=h3 i hi
  refine ⟨?_,by rw [World.frozen?_setCell]; exact hf⟩
  by_cases e:i=j
  ·subst e; exact ⟨_,same⟩
  ·exact ⟨u',by rw [World.cell?_setCell_other _ _ _ _ (by intro e; injection e with _ e; omega)]; exact hu⟩
 ·by_cases e:i=j
  ·subst e; exact ⟨u,same,ha.next hS⟩
  ·obtain ⟨u',hu,ha'⟩:=h4 i hi (by omega)
   exact ⟨u',by rw [World.cell?_setCell_other _ _ _ _ (by intro e; injection e with _ e; omega)]; exact hu,ha'.next hS⟩
theorem FTo.kids {cols:List Int} {K kb M lo:Nat} {W:World} {ks:List Ex} (h:FTo cols K kb M W ks ks.length) (h1:lo≤K) (h2:lo≤kb):KidsF cols lo W kb ks:=by
 obtain ⟨l1,l2,_,l4⟩:=h
 refine ⟨K,h2,by omega,h1,by omega,l2,fun i hi=>?_⟩
 obtain ⟨u,hu,ha⟩:=l4 i hi hi
 exact ⟨u,hu,ha.down (by omega)⟩
theorem FTo.new {cols:List Int} {w:World} {n:Nat} (ks:List Ex) (hn:n=ks.length) (T T':TypeId) {o:Obj} :
  FTo cols (w.heap.size+1) (w.heap.size+2) (w.heap.size+3) (((w.alloc o).alloc (.cells (Array.replicate n Value.nilFunc) T)).alloc (.cells #[.slice (some ⟨w.heap.size+1,0,none⟩) n n] T')) ks 0:=by
 subst hn
 refine ⟨⟨by omega,by omega,by omega,by simp⟩,?_,fun i hi=>⟨⟨Value.nilFunc,?_⟩,?_⟩,fun i _ h=>absurd h (Nat.not_lt_zero _)⟩
 ·rw [World.cell?_alloc_at _ _ _ _ (by simp)]; rfl
 ·rw [World.cell?_alloc_past _ _ _ (by simp),World.cell?_alloc_at _ _ _ _ (by simp)]
  simp [hi]
 ·rw [World.frozen?_alloc_past _ _ _ (by simp)]
  exact World.frozen?_alloc_at _ _ _ _ (by simp)

theorem Fn2.down {lo lo':Nat} {u:Value} {f:Vl→Vl→Vl} {w:World} (h:Fn2 lo u f w) (hl:lo'≤lo):Fn2 lo' u f w:=by
 obtain ⟨g,cb,e,eg,hd⟩:=h
 exact ⟨g,cb,e,eg,fun p q W hp hq hW=>hd p q W hp hq (hW.up hl)⟩
theorem vals_at (row:List Vl) (ks:List Ex) (i:Nat) (hi:i<ks.length):(valsX row ks).getD i vl0=valX row ks[i]:=by
 rw [valsX_map]
 simp [List.getD,hi]
/-- What ready is asked for. -/
def ReadyAt (cols:List Int) (x:Ex):Prop :=
 ∀ (B:Nat) (a:Option Addr) (cap:Nat) (w:World),KsAt B w a x.ks→B≤w.heap.size →
  Calls Tryz.prog 184 #[exV x.k x.v x.c a x.ks.length cap] w fun e w'=>∃ u,e = .returned u∧Asks cols w.heap.size u (fun row=>valX row x) w'∧Below w.heap.size w w'

set_option maxHeartbeats 4000000 in
theorem ready_at (cols:List Int) (k:Int) (v:Vl) (c:Int) (ks:List Ex) (t:Int) (ht:typP cols (.mk k v c ks)=some t) (ih:∀ x ∈ ks,ReadyAt cols x):ReadyAt cols (.mk k v c ks):=by
 obtain ⟨h1,h18,hl,ts,hts,hn⟩:=typP_node ht
 intro B a cap w hk hB
 simp only [Ex.k,Ex.v,Ex.c,Ex.ks] at hk ⊢
 have hl3:ks.length≤8:=by have:=kidsN_le k; omega
 have HL:Hid (ks.length=kidsN k):=hl
 have hmk:=make_funcs hl3
 have S0:=Six.new w k v c a ks.length cap 27
 have HI:Hid (∀ x ∈ ks,ReadyAt cols x):=ih
 clear hl ih
 obtain ⟨s0,s1,s2,s3,s4,s5⟩:=S0
 simp only [Nat.zero_add] at s1 s2 s3 s4 s5
 have S1:Six (w.alloc (.cells #[.int .i64 k,.int .i64 v.1,.int .i64 v.2.1,.string v.2.2,.int .i64 c,.slice a ks.length cap] 27)) w.heap.size 0 k v c a ks.length cap:=⟨s0,s1,s2,s3,s4,s5⟩
 have F0:FTo cols (w.heap.size+1) (w.heap.size+2) (w.heap.size+3) (((w.alloc (.cells #[.int .i64 k,.int .i64 v.1,.int .i64 v.2.1,.string v.2.2,.int .i64 c,.slice a ks.length cap] 27)).alloc (.cells (Array.replicate ks.length Value.nilFunc) 179)).alloc (.cells #[.slice (some ⟨w.heap.size+1,0,none⟩) ks.length ks.length] 183)) ks 0:=FTo.new ks rfl _ _
 have hA:Below w.heap.size w (((w.alloc (.cells #[.int .i64 k,.int .i64 v.1,.int .i64 v.2.1,.string v.2.2,.int .i64 c,.slice a ks.length cap] 27)).alloc (.cells (Array.replicate ks.length Value.nilFunc) 179)).alloc (.cells #[.slice (some ⟨w.heap.size+1,0,none⟩) ks.length ks.length] 183)):=(((Below.refl _ _).alloc (Nat.le_refl _) _).alloc (by simp) _).alloc (by simp; omega) _
 have S3:Six (((w.alloc (.cells #[.int .i64 k,.int .i64 v.1,.int .i64 v.2.1,.string v.2.2,.int .i64 c,.slice a ks.length cap] 27)).alloc (.cells (Array.replicate ks.length Value.nilFunc) 179)).alloc (.cells #[.slice (some ⟨w.heap.size+1,0,none⟩) ks.length ks.length] 183)) w.heap.size 0 k v c a ks.length cap:=(S1.next ((Below.refl _ _).alloc (Nat.le_refl _) _) (by simp)).next ((Below.refl _ _).alloc (Nat.le_refl _) _) (by simp; omega)
 clear S1
 go_enter Tryz.func184,Tryz.ntmps184
 go_wp2_with fail
 generalize ((w.alloc (.cells #[.int .i64 k,.int .i64 v.1,.int .i64 v.2.1,.string v.2.2,.int .i64 c,.slice a ks.length cap] 27)).alloc (.cells (Array.replicate ks.length Value.nilFunc) 179)).alloc (.cells #[.slice (some ⟨w.heap.size+1,0,none⟩) ks.length ks.length] 183)=w3 at *
 clear s0 s1 s2 s3 s4 s5 hmk
 go_loopw [14] (fun i wr=>∃ j:Nat,j≤ks.length∧i = .int .i64 j∧FTo cols (w.heap.size+1) (w.heap.size+2) (w.heap.size+3) wr ks j∧Six wr w.heap.size 0 k v c a ks.length cap∧Below w.heap.size w wr) (fun i _=>ks.length - (intOf i).toNat)
 case atStart=>exact ⟨0,Nat.zero_le _,rfl,F0,S3,hA⟩
 case round =>
  clear F0 S3 hA
  obtain ⟨j,hj,rfl,F,S,hb⟩:=hrel
  have hz:=hb.size
  have hzF:=F.lt.2.2.2
  by_cases hlt:j<ks.length
  ·obtain ⟨b,off,ai,ci,rfl,hbl,sx,kx⟩:=(KsAt.next hb hB hk).elem hlt
   obtain ⟨x0,x1,x2,x3,x4,x5⟩:=sx
   have hal:Below wr.heap.size wr (wr.alloc (.cells #[.int .i64 ks[j].k,.int .i64 ks[j].v.1,.int .i64 ks[j].v.2.1,.string ks[j].v.2.2,.int .i64 ks[j].c,.slice ai ks[j].ks.length ci] 27)):=(Below.refl _ _).alloc (Nat.le_refl _) _
   have hd:Below (wr.alloc (.cells #[.int .i64 ks[j].k,.int .i64 ks[j].v.1,.int .i64 ks[j].v.2.1,.string ks[j].v.2.2,.int .i64 ks[j].c,.slice ai ks[j].ks.length ci] 27)).heap.size (wr.alloc (.cells #[.int .i64 ks[j].k,.int .i64 ks[j].v.1,.int .i64 ks[j].v.2.1,.string ks[j].v.2.2,.int .i64 ks[j].c,.slice ai ks[j].ks.length ci] 27)) (wr.alloc (.cells #[.int .i64 ks[j].k,.int .i64 ks[j].v.1,.int .i64 ks[j].v.2.1,.string ks[j].v.2.2,.int .i64 ks[j].c,.slice ai ks[j].ks.length ci] 27)).drew:=(Below.refl _ _).drew
   have con:=HI.out ks[j] (List.getElem_mem _) B ai ci (wr.alloc (.cells #[.int .i64 ks[j].k,.int .i64 ks[j].v.1,.int .i64 ks[j].v.2.1,.string ks[j].v.2.2,.int .i64 ks[j].c,.slice ai ks[j].ks.length ci] 27)).drew (KsAt.next (hal.trans (hd.mono hal.size)) (by omega) kx) (by have:=hal.size; have:=hd.size; omega)
   have Fk:=F.next hal
   have bx:=Fk.box
   obtain ⟨⟨uo,ro⟩,fo⟩:=Fk.room j hlt
   have Sk:=Six.new wr ks[j].k ks[j].v ks[j].c ai ks[j].ks.length ci 27
   obtain ⟨k0,k1,k2,k3,k4,k5⟩:=Sk
   simp only [Nat.zero_add] at k1 k2 k3 k4 k5
   have hjz:(j:Int)<ks.length:=by omega
   go_wp2_with fail
   clear x0 x1 x2 x3 x4 x5 kx
   have hal2:=hal
   have zk:(wr.alloc (.cells #[.int .i64 ks[j].k,.int .i64 ks[j].v.1,.int .i64 ks[j].v.2.1,.string ks[j].v.2.2,.int .i64 ks[j].c,.slice ai ks[j].ks.length ci] 27)).heap.size=wr.heap.size+1:=by simp
   generalize wr.alloc (.cells #[.int .i64 ks[j].k,.int .i64 ks[j].v.1,.int .i64 ks[j].v.2.1,.string ks[j].v.2.2,.int .i64 ks[j].c,.slice ai ks[j].ks.length ci] 27)=wk at *
   go_region_with (go_at_call 184; refine con.mono ?_; rintro e w1 ⟨u,rfl,hA1,hb1⟩; have F1:=(Fk.next hd).next hb1; have q1:=F1.box; obtain ⟨⟨un,q2⟩,q3⟩:=F1.room j hlt; obtain ⟨ug,ucb,eu⟩:∃ g cb,u = .func (.func g) #[] cb:=(by obtain ⟨g,cb,e,_⟩:=hA1; exact ⟨g,cb,e⟩); subst eu)
   all_goals (
    go_wp2_with fail
    go_roundw
    case rel =>
     refine ⟨j+1,by omega,by go_num,F1.store hlt (hA1.down (by show w.heap.size+3≤wk.drew.heap.size; have:=hd.size; omega)),((S.next hal2 (by omega)).next (hd.trans (hb1.mono hd.size)) (by omega)).far _ _ _ (by omega),?_⟩
     exact (chain (chain hb hal2) (hd.trans (hb1.mono hd.size))).setCell (p:=⟨w.heap.size+1,j,none⟩) (by show w.heap.size≤w.heap.size+1; omega) _
    case measure=>simp [intOf]; omega)
  ·have e:j=ks.length:=by omega
   subst e
   obtain ⟨s0,s1,s2,s3,s4,s5⟩:=S
   simp only [Nat.zero_add] at s1 s2 s3 s4 s5
   by_cases k1:k=1
   ·subst k1
    go_wp2_with fail
    refine (always_at cols v wr).mono ?_
    rintro e w1 ⟨u,rfl,hA1,hb1⟩
    go_wp2_with fail
    go_ret
    exact ⟨_,rfl,(hA1.down hz).congr (fun row _=>by rw [valX,nodeV,if_pos rfl]),chain hb hb1⟩
   have n1:(k == 1)=false:=by simpa using k1
   by_cases k2:k=2
   ·subst k2
    unfold nodeT at hn
    rw [if_neg (by decide),if_pos rfl] at hn
    obtain ⟨q0,q1,_⟩:=colT_ok hn
    clear hn
    go_wp2_with fail
    refine (column_at cols c wr q0 q1).mono ?_
    rintro e w1 ⟨u,rfl,hA1,hb1⟩
    go_wp2_with fail
    go_ret
    exact ⟨_,rfl,(hA1.down hz).congr (fun row _=>by rw [valX,nodeV,if_neg (by decide),if_pos rfl]),chain hb hb1⟩
   have n2:(k == 2)=false:=by simpa using k2
   have KF:KidsF cols w.heap.size wr (w.heap.size+2) ks:=F.kids (by omega) (by omega)
   by_cases k3:k=3
   ·subst k3
    have l1:ks.length=1:=HL.out
    have HK:Hid (KidsF cols w.heap.size wr (w.heap.size+2) ks):=KF
    have H1:Hid (ks.length=1):=l1
    clear KF l1
    go_wp2_with fail
    go_ret
    refine ⟨_,rfl,⟨205,_,rfl,enters_of Tryz.func205 (by kernel_rfl) rfl,?_⟩,hb⟩
    intro row a cap W hf hs hW
    have e:valX row (.mk 3 v c ks)=notP (valX row (ks[0]'(by rw [H1.out]; omega))):=by rw [valX,nodeV,if_neg (by decide),if_neg (by decide),if_pos rfl,vals_at row ks 0 (by rw [H1.out]; omega)]
    show Calls _ _ _ _ fun e w'=>e = .returned (agV (valX row (.mk 3 v c ks)))∧_
    rw [e]
    exact ready1_at cols w.heap.size (w.heap.size+2) ks a row cap W (HK.out.next hW) (by rw [H1.out]; omega) hf hs
   have n3:(k == 3)=false:=by simpa using k3
   by_cases k16:k=16
   ·subst k16
    have l1:ks.length=1:=HL.out
    have HK:Hid (KidsF cols w.heap.size wr (w.heap.size+2) ks):=KF
    have H1:Hid (ks.length=1):=l1
    clear KF l1
    go_wp2_with fail
    go_ret
    refine ⟨_,rfl,⟨207,_,rfl,enters_of Tryz.func207 (by kernel_rfl) rfl,?_⟩,hb⟩
    intro row a cap W hf hs hW
    have e:valX row (.mk 16 v c ks)=tri (some ((valX row (ks[0]'(by rw [H1.out]; omega))).1 == 1)):=by rw [valX,nodeV,if_neg (by decide),if_neg (by decide),if_neg (by decide),if_pos rfl,vals_at row ks 0 (by rw [H1.out]; omega)]
    show Calls _ _ _ _ fun e w'=>e = .returned (agV (valX row (.mk 16 v c ks)))∧_
    rw [e]
    exact ready2_at cols w.heap.size (w.heap.size+2) ks a row cap W (HK.out.next hW) (by rw [H1.out]; omega) hf hs
   have n16:(k == 16)=false:=by simpa using k16
   by_cases k17:k=17
   ·subst k17
    have l3:ks.length=3:=HL.out
    have m0:0<ks.length:=by omega
    have m1:1<ks.length:=by omega
    have m2:2<ks.length:=by omega
    have bx:=F.box
    obtain ⟨u0,c0,A0⟩:=F.done 0 m0 m0
    obtain ⟨u1,c1,A1⟩:=F.done 1 m1 m1
    obtain ⟨u2,c2,A2⟩:=F.done 2 m2 m2
    have A0:=A0.down (show w.heap.size≤w.heap.size+3 by omega)
    have A1:=A1.down (show w.heap.size≤w.heap.size+3 by omega)
    have A2:=A2.down (show w.heap.size≤w.heap.size+3 by omega)
    obtain ⟨g0,cb0,rfl⟩:∃ g cb,u0 = .func (.func g) #[] cb:=by obtain ⟨g,cb,e,_⟩:=A0; exact ⟨g,cb,e⟩
    obtain ⟨g1,cb1,rfl⟩:∃ g cb,u1 = .func (.func g) #[] cb:=by obtain ⟨g,cb,e,_⟩:=A1; exact ⟨g,cb,e⟩
    obtain ⟨g2,cb2,rfl⟩:∃ g cb,u2 = .func (.func g) #[] cb:=by obtain ⟨g,cb,e,_⟩:=A2; exact ⟨g,cb,e⟩
    have p0:=past_cell bx
    have p1:=past_cell c0
    have p2:=past_cell c1
    have p3:=past_cell c2
    have z0:(0:Int)<(ks.length:Int):=by omega
    have z1:(1:Int)<(ks.length:Int):=by omega
    have z2:(2:Int)<(ks.length:Int):=by omega
    have H3:Hid (ks.length=3):=l3
    clear l3 KF
    go_wp2_with fail
    have hB0:Below wr.heap.size wr wr.drew:=(Below.refl _ _).drew
    refine wp_region_ext (by kernel_rfl) ?_
    refine wpX_take (some 45) (i:=0) (v:=.slice (some ⟨w.heap.size+1,0,none⟩) ks.length ks.length) rfl rfl (by kernel_rfl) (by kernel_rfl) (by kernel_rfl) (fun _ _ _ h=>h) (Or.inl ⟨rfl,fun n=>?_⟩) hB0 ?_
    ·go_simp
    simp only [Act.put,pA,pB,pC]
    refine wpX_take (some 46) (i:=1) (v:=.pointer (some ⟨w.heap.size+1,0,none⟩)) rfl rfl (by kernel_rfl) (by kernel_rfl) (by kernel_rfl) (fun _ _ _ h=>h) (Or.inl ⟨rfl,fun n=>?_⟩) hB0 ?_
    ·go_simp
    simp only [Act.put,pA,pB,pC]
    refine wpX_take (some 47) (i:=2) (v:=.func (.func g0) #[] cb0) rfl rfl (by kernel_rfl) (by kernel_rfl) (by kernel_rfl) (fun _ _ _ h=>h) (Or.inl ⟨rfl,fun n=>?_⟩) hB0 ?_
    ·go_simp
    simp only [Act.put,pA,pB,pC]
    refine wpX_take (some 48) (i:=3) (v:=.slice (some ⟨w.heap.size+1,0,none⟩) ks.length ks.length) rfl rfl (by kernel_rfl) (by kernel_rfl) (by kernel_rfl) (fun _ _ _ h=>h) (Or.inl ⟨rfl,fun n=>?_⟩) hB0 ?_
    ·go_simp
    simp only [Act.put,pA,pB,pC]
    refine wpX_take (some 49) (i:=4) (v:=.pointer (some ⟨w.heap.size+1,1,none⟩)) rfl rfl (by kernel_rfl) (by kernel_rfl) (by kernel_rfl) (fun _ _ _ h=>h) (Or.inl ⟨rfl,fun n=>?_⟩) hB0 ?_
    ·go_simp
    simp only [Act.put,pA,pB,pC]
    refine wpX_take (some 50) (i:=5) (v:=.func (.func g1) #[] cb1) rfl rfl (by kernel_rfl) (by kernel_rfl) (by kernel_rfl) (fun _ _ _ h=>h) (Or.inl ⟨rfl,fun n=>?_⟩) hB0 ?_
    ·go_simp
    simp only [Act.put,pA,pB,pC]
    refine wpX_take (some 51) (i:=6) (v:=.slice (some ⟨w.heap.size+1,0,none⟩) ks.length ks.length) rfl rfl (by kernel_rfl) (by kernel_rfl) (by kernel_rfl) (fun _ _ _ h=>h) (Or.inl ⟨rfl,fun n=>?_⟩) hB0 ?_
    ·go_simp
    simp only [Act.put,pA,pB,pC]
    refine wpX_take (some 52) (i:=7) (v:=.pointer (some ⟨w.heap.size+1,2,none⟩)) rfl rfl (by kernel_rfl) (by kernel_rfl) (by kernel_rfl) (fun _ _ _ h=>h) (Or.inl ⟨rfl,fun n=>?_⟩) hB0 ?_
    ·go_simp
    simp only [Act.put,pA,pB,pC]
    refine wpX_take (some 53) (i:=8) (v:=.func (.func g2) #[] cb2) rfl rfl (by kernel_rfl) (by kernel_rfl) (by kernel_rfl) (fun _ _ _ h=>h) (Or.inl ⟨rfl,fun n=>?_⟩) hB0 ?_
    ·go_simp
    simp only [Act.put,pA,pB,pC]
    clear p0 p1 p2 p3
    refine wpX_step (rs:=[9]) (by kernel_rfl) (by simp) ?_
    intro w5 hb5 i hi
    obtain rfl:i=9:=by simpa using hi
    clear hi
    have D5:=hB0.trans (hb5.mono hB0.size)
    refine wpOp_step rfl (fun K hK=>?_)
    go_simp
    refine (either_at cols w.heap.size _ _ _ _ _ _ w5 (by have:=D5.size; omega) (A0.next (Since.of D5)) (A1.next (Since.of D5)) (A2.next (Since.of D5))).mono ?_
    rintro e w6 ⟨u,rfl,hA6,hb6⟩
    have D6:=D5.trans (hb6.mono D5.size)
    refine hK _ _ ⟨D6,?_⟩
    clear hK K
    refine wpX_step (rs:=[10]) (by kernel_rfl) (by simp) ?_
    intro w7 hb7 i hi
    obtain rfl:i=10:=by simpa using hi
    clear hi
    have D7:=D6.trans (hb7.mono D6.size)
    refine wpOp_step rfl (fun K hK=>?_)
    go_simp
    refine hK _ _ ⟨D7,?_⟩
    clear hK K
    refine wpX_done (by kernel_rfl) ?_
    intro w8 hb8
    have D8:=D7.trans (hb8.mono D7.size)
    go_wp2_with fail
    go_ret
    refine ⟨_,rfl,(hA6.next (Since.of (chain hb7 hb8))).congr (fun row _=>?_),chain hb D8⟩
    rw [valX,nodeV,if_neg k1,if_neg k2,if_neg k3,if_neg k16,if_pos (show (17:Int)=17 from rfl),vals_at row ks 0 m0,vals_at row ks 1 m1,vals_at row ks 2 m2]
   have n17:(k == 17)=false:=by simpa using k17
   have l2:ks.length=2:=by rw [HL.out]; unfold kidsN; rw [if_neg (by omega),if_neg (by omega),if_neg k17]
   have H2:Hid (ks.length=2):=l2
   have HK:Hid (KidsF cols w.heap.size wr (w.heap.size+2) ks):=KF
   clear l2 KF
   go_wp2_with fail
   refine (ofTwo_at k (by omega) (by omega) wr).mono ?_
   rintro e w1 ⟨u,rfl,hF,hb1⟩
   obtain ⟨g0,cb0,rfl⟩:∃ g cb,u = .func (.func g) #[] cb:=by obtain ⟨g,cb,e,_⟩:=hF; exact ⟨g,cb,e⟩
   have hal:Below w1.heap.size w1 (w1.alloc (.cells #[.func (.func g0) #[] cb0] 240)):=(Below.refl _ _).alloc (Nat.le_refl _) _
   have hb1':=chain hb hb1
   go_wp2_with fail
   go_ret
   refine ⟨_,rfl,⟨211,_,rfl,enters_of Tryz.func211 (by kernel_rfl) rfl,?_⟩,chain hb1' hal⟩
   intro row a cap W hf hs hW
   have m0:0<ks.length:=by rw [H2.out]; omega
   have m1:1<ks.length:=by rw [H2.out]; omega
   have e:valX row (.mk k v c ks)=twoP k (valX row ks[0]) (valX row ks[1]):=by rw [valX,nodeV,if_neg k1,if_neg k2,if_neg k3,if_neg k16,if_neg k17,vals_at row ks 0 m0,vals_at row ks 1 m1]
   show Calls _ _ _ _ fun e w'=>e = .returned (agV (valX row (.mk k v c ks)))∧_
   rw [e]
   have zz:=hb1'.size
   exact ready3_at cols w.heap.size (w.heap.size+2) w1.heap.size k ks a row cap W _ ((hW.cell (p:=⟨w1.heap.size,0,none⟩) zz (by simp)).trans (by simp)) (((hF.down (by omega)).next (Since.of hal)).next hW) (((HK.out.next (Since.of hb1)).next (Since.of hal)).next hW) m1 hf hs
    (valX_of hf _ _ (typsP_at hts 0 m0)).1 (valX_of hf _ _ (typsP_at hts 1 m1)).1
theorem ready_any (cols:List Int):∀ x t,typP cols x=some t→ReadyAt cols x:=by
 refine Ex.ind fun k v c ks ih t ht=>ready_at cols k v c ks t ht fun x hx=>?_
 obtain ⟨_,_,_,ts,hts,_⟩:=typP_node ht
 obtain ⟨i,hi,rfl⟩:=List.getElem_of_mem hx
 exact ih _ hx _ (typsP_at hts i hi)
end Go.Proofs.YtohjlfhmnmcndaaGreat
/- The walk of exprs.Type. -/
namespace Go.Proofs.YtohjlfhmnmcndaaGreat
open Go.RowKit

theorem typeX_zero (cols:List Int):∀ (x:Ex) (n d:Int),¬ (typeX cols x n d).2.1=0→(typeX cols x n d).1=0
 | .mk k v c ks,n,d=>by
  rw [typeX]
  split
  ·intro _; rfl
  split
  ·intro _; rfl
  ·generalize (typesX cols ks [] (n+1) (d+1)).2.1=ts
   unfold nodeT
   split
   ·unfold litT; split <;> simp
   split
   ·unfold colT; split <;> simp
   ·cases kidsT k ts <;> simp [resT]
theorem typeTop_of {cols:List Int} {x:Ex} (h1:cols.length≤16) (h2:colsB cols=true):typeTop cols x=((typeX cols x 0 1).1,(typeX cols x 0 1).2.1):=by
 unfold typeTop
 rw [if_neg (by omega),if_neg (by simp [h2])]
 by_cases h:(typeX cols x 0 1).2.1=0
 ·rw [if_pos h,h]
 ·rw [if_neg h,typeX_zero cols x 0 1 h]
theorem colsB_end (l:List Int) (k:Nat) (h:l.length≤k):colsB (l.drop k)=true:=by rw [List.drop_eq_nil_of_le h]; rfl
theorem colsB_no (l:List Int) (k:Nat) (h:k<l.length) (e:l[k]<1∨4<l[k]):colsB (l.drop k)=false:=by
 rw [List.drop_eq_getElem_cons h,colsB,List.all_cons]
 have:(decide (1≤l[k]) && decide (l[k]≤4))=false:=by
  rcases e with e | e
  ·have:decide (1≤l[k])=false:=decide_eq_false (by omega)
   rw [this]; rfl
  ·have:decide (l[k]≤4)=false:=decide_eq_false (by omega)
   rw [this,Bool.and_false]
 rw [this,Bool.false_and]
theorem colsB_next (l:List Int) (k:Nat) (h:k<l.length) (e:¬ l[k]<1) (e':¬ 4<l[k]):colsB (l.drop k)=colsB (l.drop (k+1)):=by
 rw [List.drop_eq_getElem_cons h,colsB,List.all_cons]
 have:(decide (1≤l[k]) && decide (l[k]≤4))=true:=by
  rw [decide_eq_true (by omega),decide_eq_true (by omega)]; rfl
 rw [this,Bool.true_and]
 rfl

set_option maxHeartbeats 2000000 in
theorem type_at (cols:List Int) (x:Ex) (ca:Option Addr) (ccap:Nat) (a:Option Addr) (cap:Nat) (w:World) (hk:KsAt w.heap.size w a x.ks) (hc:IsAt w.heap.size w ca cols) :
  Calls Tryz.prog 171 #[.slice ca cols.length ccap,exV x.k x.v x.c a x.ks.length cap] w fun e w'=>e = .returned (.tuple #[.int .i64 (typeTop cols x).1,.int .i64 (typeTop cols x).2])∧Below w.heap.size w w':=by
 have hl:=hc.1
 unfold maxLen at hl
 generalize hr:typeTop cols x=r
 have HR:Hid (typeTop cols x=r):=hr
 clear hr
 by_cases h16:16<cols.length
 ·have er:r=(0,5):=by rw [← HR.out,typeTop,if_pos h16]
  subst er
  clear HR
  go_enter Tryz.func171,Tryz.ntmps171
  go_wp2_with fail
  exact bodyPost_ret (v:=.tuple #[.int .i64 0,.int .i64 5]) (by simp [results,Tryz.results171,go_sem]) rfl ⟨rfl,(Below.refl _ _).alloc (Nat.le_refl _) _⟩
 go_enter Tryz.func171,Tryz.ntmps171
 go_wp2_with fail
 have S0:=Six.new w x.k x.v x.c a x.ks.length cap 27
 have hal:Below w.heap.size w (w.alloc (.cells #[.int .i64 x.k,.int .i64 x.v.1,.int .i64 x.v.2.1,.string x.v.2.2,.int .i64 x.c,.slice a x.ks.length cap] 27)):=(Below.refl _ _).alloc (Nat.le_refl _) _
 have z0:w.heap.size<(w.alloc (.cells #[.int .i64 x.k,.int .i64 x.v.1,.int .i64 x.v.2.1,.string x.v.2.2,.int .i64 x.c,.slice a x.ks.length cap] 27)).heap.size:=by simp
 generalize w.alloc (.cells #[.int .i64 x.k,.int .i64 x.v.1,.int .i64 x.v.2.1,.string x.v.2.2,.int .i64 x.c,.slice a x.ks.length cap] 27)=w0 at *
 go_loopw [14] (fun i wr=>∃ j:Nat,j≤cols.length∧i = .int .i64 j∧Hid (colsB cols=colsB (cols.drop j))∧wr=w0) (fun i _=>cols.length - (intOf i).toNat)
 case atStart=>exact ⟨0,Nat.zero_le _,rfl,rfl,rfl⟩
 case round =>
  obtain ⟨j,hj,rfl,HE,rfl⟩:=hrel
  by_cases hlt:j<cols.length
  ·obtain ⟨b,off,rfl,hbl,c⟩:=(hc.next hal (Nat.le_refl _)).elem hlt
   by_cases g1:cols[j]<1
   ·have er:r=(0,1):=by
     rw [← HR.out,typeTop,if_neg h16,HE.out,colsB_no cols j hlt (.inl g1),if_pos rfl]
    subst er
    clear HR HE
    go_wp2_with fail
    exact bodyPost_ret (v:=.tuple #[.int .i64 0,.int .i64 1]) (by simp [results,Tryz.results171,go_sem]) rfl ⟨rfl,hal⟩
   by_cases g2:4<cols[j]
   ·have er:r=(0,1):=by
     rw [← HR.out,typeTop,if_neg h16,HE.out,colsB_no cols j hlt (.inr g2),if_pos rfl]
    subst er
    clear HR HE
    go_wp2_with fail
    exact bodyPost_ret (v:=.tuple #[.int .i64 0,.int .i64 1]) (by simp [results,Tryz.results171,go_sem]) rfl ⟨rfl,hal⟩
   have HC:Hid (colsB (cols.drop j)=colsB (cols.drop (j+1))):=colsB_next cols j hlt g1 g2
   go_wp2_with fail
   go_roundw
   case rel=>exact ⟨j+1,by omega,by go_num,HE.out.trans HC.out,trivial⟩
   case measure=>simp [intOf]; omega
  ·have hcb:colsB cols=true:=by rw [HE.out,colsB_end cols j (by omega)]
   have er:r=((typeX cols x 0 1).1,(typeX cols x 0 1).2.1):=by rw [← HR.out,typeTop_of (by omega) hcb]
   have T0:TyC (wr.alloc (.cells #[.slice ca cols.length ccap,.int .i64 0] 228)) wr.heap.size ca cols.length ccap 0:=⟨by simp,by simp,by simp,by simp⟩
   have hal2:Below wr.heap.size wr (wr.alloc (.cells #[.slice ca cols.length ccap,.int .i64 0] 228)):=(Below.refl _ _).alloc (Nat.le_refl _) _
   have con:=typeOf_any cols x w.heap.size wr.heap.size ca ccap a cap 0 1 _ (KsAt.next (chain hal hal2) (Nat.le_refl _) hk) (hc.next (chain hal hal2) (Nat.le_refl _)) hal.size T0 (by omega) (by omega) (by omega) (by omega)
   generalize typeX cols x 0 1=ty at *
   subst er
   clear HR HE hcb
   obtain ⟨s0,s1,s2,s3,s4,s5⟩:=S0
   simp only [Nat.zero_add] at s1 s2 s3 s4 s5
   go_wp2_with fail
   refine con.mono ?_
   rintro e w5 ⟨rfl,hX,_⟩
   have hb5:=(chain hal hal2).trans (hX.below hal.size)
   clear con s0 s1 s2 s3 s4 s5 hX T0 hal2
   go_wp2_with fail
   exact bodyPost_ret (v:=.tuple #[.int .i64 ty.1,.int .i64 ty.2.1]) (by simp [results,Tryz.results171,go_sem]) rfl ⟨rfl,hb5⟩
end Go.Proofs.YtohjlfhmnmcndaaGreat
