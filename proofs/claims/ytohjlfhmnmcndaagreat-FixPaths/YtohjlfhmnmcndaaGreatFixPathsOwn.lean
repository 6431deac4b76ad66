/- For all lists of numbers: tidelaw10.FixPaths answers true and leaves its argument as it was: the ways along edges from one of ten places to another one are just those that there are. No condition. -/
import Derived.Test.YtohjlfhmnmcndaaGreatRows
import Derived.Test.YtohjlfhmnmcndaaGreatD18
namespace Go.Proofs.YtohjlfhmnmcndaaGreat
open Go.ChangeShapes Go.WideShapes Go.ChangeAt Go.RowKit Go.Joins

theorem own:ownKnob Tryz.prog.godebug=none:=by kernel_rfl
theorem laidOut:laidOutB Tryz.prog=true:=by kernel_rfl

set_option maxRecDepth 100000 in
theorem lifted (os:Os) (started:os.Started) (H:Type) (enc:TypeId × Value→H) :
  ReturnsInHanded {} Tryz.checked os 7 .any (Rows.fixPathsSpec.pre6 enc Tryz.prog Tryz.f7 Rows.fixPathsRow.domain false) (Rows.fixPathsSpec.post enc Tryz.prog Tryz.f7 false true false false):=by
 refine returnsInHanded_of_change_sized (C:=Tryz.checked) own started (by kernel_rfl) Tryz.func7
  (ChangeSpec.witness6 (enc:=enc) (C:=Tryz.checked) false ⟨#[],#[.slice none 0 0],[]⟩ 8 (by kernel_rfl) (by kernel_rfl) (by kernel_rfl) (by kernel_rfl)) ?_
 intro W base args ds gs before hval0 hW _hcnd hsz0 _;have hval:∀ (j:Nat) t v,Tryz.f7.params[j]? = some t→args[j]? = some v→Value.okWide Tryz.prog W .any base t v:=hval0
 have hW':=hW;obtain ⟨p,q,hA0,hV,rfl,_hfz,_hnd⟩:=hW;have hA:DataW.TrodAll enc Tryz.prog W 0 (fun _=>true) true Tryz.f7.params.toList args.toList ds p:=hA0;rw [Tryz.params7] at hA hval;obtain ⟨v0,vs0,d0,ds0,p0,q0,hargs,rfl,rfl,h0,r0⟩:=trodAll_cons hA;obtain ⟨rfl,rfl,rfl⟩:=trodAll_nil r0;obtain rfl:args = #[v0]:=by cases args; simp_all
 obtain ⟨rfl,rfl⟩:=trodVars_none hV;have hsz:(DataW.weightsEach Tryz.prog (Tryz.f7.params.toList ++ Rows.fixPathsSpec.plain.varTypes Tryz.prog) ([d0] ++ [])).all (· ≤ reachBytes)=true:=hsz0;rw [Tryz.params7] at hsz;have k0:=h0;have lt0:∀ x ∈ p0,x.block<W.heap.size:=by obtain ⟨m,hm⟩:=k0; exact DataW.trod_lt m _ _ _ hm
 obtain ⟨aa0,cp0,ll0,rfl,sl0⟩:=open_ints (hval 0 45 v0 rfl rfl) h0;clear hA0 hval0 hsz0;refine (fixPaths_walk aa0 cp0 ll0 W sl0).mono fun e W' ⟨he,bel⟩=>?_
 subst he;exact ⟨_,rfl,_,_,_,[],_,[],hW',trodAll_mk1 (shut_bool Tryz.underlying4 _),(trodAll_cons_mk (Below.trod laidOut (by kernel_rfl) (of_decide_eq_true (by kernel_rfl)) k0 bel lt0) trodAll_mk0),rfl,bel.frame _,fun h=>by cases h⟩
theorem closed0:Tryz.prog.inPlace 7=Rows.fixPathsRow.inPlace:=by kernel_rfl
theorem closed1:Tryz.prog.unfollowed 7=Rows.fixPathsRow.unfollowed:=by kernel_rfl
theorem closed2:Tryz.prog.recurses 7=Rows.fixPathsRow.recurses:=by kernel_rfl
theorem closed3:Tryz.prog.varsNamed 7=Rows.fixPathsRow.named:=by kernel_rfl
theorem closed:joinedFacts Tryz.prog 7 Tryz.f7 Rows.fixPathsSpec Rows.fixPathsRow=true:=by
 unfold joinedFacts;rw [closed0,closed1,closed2,closed3]
 kernel_rfl
theorem fixPaths_proved:Rows.FixPathsSaid :=
 OpenClaim.holds_of_wide 7 Tryz.f7 rfl rfl rfl rfl rfl rfl rfl ⟨rfl,rfl,rfl,rfl,rfl⟩ rfl rfl rfl rfl rfl (by kernel_rfl) Tryz.func7 closed
  (of_decide_eq_true (by kernel_rfl)) (by unfold Func.isWrapper; first | (rw [if_pos (by decide +kernel)]; kernel_rfl) | (rw [if_neg (by decide +kernel)]; exact ⟨rfl,rfl⟩))
  (fun os started H enc _=>lifted os started H enc)
#print axioms fixPaths_proved
end Go.Proofs.YtohjlfhmnmcndaaGreat
