/- For all tables, seeds, steps and rows of tables: tidelaw10.FixQuick answers true and leaves its arguments as they were: where a step is plain, and all rows of tables are there, of what is new alone it comes to the same. No condition. -/
import Derived.Test.YtohjlfhmnmcndaaGreatRows
import Derived.Test.YtohjlfhmnmcndaaGreatM19
import Derived.Test.YtohjlfhmnmcndaaGreatM20
namespace Go.Proofs.YtohjlfhmnmcndaaGreat
open Go.ChangeShapes Go.WideShapes Go.ChangeAt Go.RowKit Go.Joins
set_option maxRecDepth 100000
set_option maxHeartbeats 16000000
theorem own:ownKnob Tryz.prog.godebug=none:=by kernel_rfl
theorem laidOut:laidOutB Tryz.prog=true:=by kernel_rfl
theorem lifted (os:Os) (started:os.Started) (H:Type) (enc:TypeId × Value→H) :
  ReturnsInHanded {} Tryz.checked os 3 .any (Rows.fixQuickSpec.pre6 enc Tryz.prog Tryz.f3 Rows.fixQuickRow.domain false) (Rows.fixQuickSpec.post enc Tryz.prog Tryz.f3 false true false false):=by
 refine returnsInHanded_of_change_sized (C:=Tryz.checked) own started (by kernel_rfl) Tryz.func3
  (ChangeSpec.witness6 (enc:=enc) (C:=Tryz.checked) false ⟨#[],#[.slice none 0 0,.agg #[.int .i64 0,.int .i64 0,.int .i64 0,.int .i64 0,.int .i64 0,.string ⟨#[]⟩,.int .i64 0,.slice none 0 0,.slice none 0 0,.slice none 0 0,.slice none 0 0],.agg #[.int .i64 0,.int .i64 0,.int .i64 0,.int .i64 0,.int .i64 0,.string ⟨#[]⟩,.int .i64 0,.slice none 0 0,.slice none 0 0,.slice none 0 0,.slice none 0 0],.slice none 0 0],[]⟩ 8 (by kernel_rfl) (by kernel_rfl) (by kernel_rfl) (by kernel_rfl)) ?_
 intro W base args ds gs before hval0 hW _hcnd hsz0 _;have hval:∀ (j:Nat) t v,Tryz.f3.params[j]? = some t→args[j]? = some v→Value.okWide Tryz.prog W .any base t v:=hval0
 have hW':=hW;obtain ⟨p,q,hA0,hV,rfl,_hfz,_hnd⟩:=hW;have hA:DataW.TrodAll enc Tryz.prog W 0 (fun _=>true) true Tryz.f3.params.toList args.toList ds p:=hA0;rw [Tryz.params3] at hA hval;obtain ⟨v0,vs0,d0,ds0,p0,q0,hargs,rfl,rfl,h0,r0⟩:=trodAll_cons hA;obtain ⟨v1,vs1,d1,ds1,p1,q1,rfl,rfl,rfl,h1,r1⟩:=trodAll_cons r0;obtain ⟨v2,vs2,d2,ds2,p2,q2,rfl,rfl,rfl,h2,r2⟩:=trodAll_cons r1;obtain ⟨v3,vs3,d3,ds3,p3,q3,rfl,rfl,rfl,h3,r3⟩:=trodAll_cons r2;obtain ⟨rfl,rfl,rfl⟩:=trodAll_nil r3;obtain rfl:args = #[v0,v1,v2,v3]:=by cases args; simp_all
 obtain ⟨rfl,rfl⟩:=trodVars_none hV;have hsz:(DataW.weightsEach Tryz.prog (Tryz.f3.params.toList ++ Rows.fixQuickSpec.plain.varTypes Tryz.prog) ([d0,d1,d2,d3] ++ [])).all (· ≤ reachBytes)=true:=hsz0;rw [Tryz.params3] at hsz;have k0:=h0;have lt0:∀ x ∈ p0,x.block<W.heap.size:=by obtain ⟨m,hm⟩:=k0; exact DataW.trod_lt m _ _ _ hm
 obtain ⟨aa0,cp0,ll0,rfl,sl0⟩:=xL (hval 0 22 v0 rfl rfl) h0;have k1:=h1;have lt1:∀ x ∈ p1,x.block<W.heap.size:=by obtain ⟨m,hm⟩:=k1; exact DataW.trod_lt m _ _ _ hm
 have g1:fD 31 d1:=oO hsz (j:=1) rfl rfl;obtain ⟨ee1,qq1,rfl,sl1,ok1⟩:=vj (hval 1 31 v1 rfl rfl) h1 g1;have k2:=h2;have lt2:∀ x ∈ p2,x.block<W.heap.size:=by obtain ⟨m,hm⟩:=k2; exact DataW.trod_lt m _ _ _ hm
 have g2:fD 31 d2:=oO hsz (j:=2) rfl rfl;obtain ⟨ee2,qq2,rfl,sl2,ok2⟩:=vj (hval 2 31 v2 rfl rfl) h2 g2;have k3:=h3;have lt3:∀ x ∈ p3,x.block<W.heap.size:=by obtain ⟨m,hm⟩:=k3; exact DataW.trod_lt m _ _ _ hm
 have g3:fD 32 d3:=oO hsz (j:=3) rfl rfl;obtain ⟨aa3,cp3,ll3,rfl,sl3,nl3⟩:=C8 (hval 3 32 v3 rfl rfl) h3 g3;clear hA0 hval0 hsz0;refine (tZ aa0 cp0 ll0 ee1 qq1 ee2 qq2 aa3 cp3 ll3 W sl0 sl1 ok1 sl2 ok2 sl3 nl3).mono fun e W' ⟨he,bel⟩=>?_
 subst he;exact ⟨_,rfl,_,_,_,[],_,[],hW',trodAll_mk1 (shut_bool Tryz.underlying4 _),(trodAll_cons_mk (Below.trod laidOut (by kernel_rfl) (of_decide_eq_true (by kernel_rfl)) k0 bel lt0) (trodAll_cons_mk (Below.trod laidOut (by kernel_rfl) (of_decide_eq_true (by kernel_rfl)) k1 bel lt1) (trodAll_cons_mk (Below.trod laidOut (by kernel_rfl) (of_decide_eq_true (by kernel_rfl)) k2 bel lt2) (trodAll_cons_mk (Below.trod laidOut (by kernel_rfl) (of_decide_eq_true (by kernel_rfl)) k3 bel lt3) trodAll_mk0)))),rfl,bel.frame _,fun h=>by cases h⟩
theorem J4:Tryz.prog.inPlace 3=Rows.fixQuickRow.inPlace:=by kernel_rfl
theorem Ja:Tryz.prog.unfollowed 3=Rows.fixQuickRow.unfollowed:=by kernel_rfl
theorem JT:Tryz.prog.recurses 3=Rows.fixQuickRow.recurses:=by kernel_rfl
theorem JG:Tryz.prog.varsNamed 3=Rows.fixQuickRow.named:=by kernel_rfl
theorem closed:joinedFacts Tryz.prog 3 Tryz.f3 Rows.fixQuickSpec Rows.fixQuickRow=true:=by
 unfold joinedFacts;rw [J4,Ja,JT,JG]
 kernel_rfl
theorem qH:Rows.FixQuickSaid :=
 OpenClaim.holds_of_wide 3 Tryz.f3 rfl rfl rfl rfl rfl rfl rfl ⟨rfl,rfl,rfl,rfl,rfl⟩ rfl rfl rfl rfl rfl (by kernel_rfl) Tryz.func3 closed
  (of_decide_eq_true (by kernel_rfl)) (by unfold Func.isWrapper; first | (rw [if_pos (by decide +kernel)]; kernel_rfl) | (rw [if_neg (by decide +kernel)]; exact ⟨rfl,rfl⟩))
  (fun os started H enc _=>lifted os started H enc)
#print axioms qH
end Go.Proofs.YtohjlfhmnmcndaaGreat
