/- For all tables and plans: tidelaw9.RewriteOnce answers true and leaves its arguments as they were: a plan with early filters is not changed again; its columns are as they were. -/
import Derived.Test.YtjebpkhkjkjphaaGreatRows
import Derived.Test.YtjebpkhkjkjphaaGreatM18
import Derived.Test.YtjebpkhkjkjphaaGreatM2
import Derived.Deep.Slices
import Derived.Deep.Strs
import Derived.ProofKit
import Derived.OpenShut
import Derived.ChangeOld
import Derived.Lib.SmallJoins
import Derived.Test.YtjebpkhkjkjphaaGreatM11
import Derived.Test.YtjebpkhkjkjphaaGreatM16
namespace Go.Proofs.YtjebpkhkjkjphaaGreat
open Go.ChangeShapes Go.WideShapes Go.ChangeAt Go.RowKit Go.Joins
set_option maxRecDepth 100000
set_option maxHeartbeats 16000000
theorem own:ownKnob Tryz.prog.godebug=none:=by kernel_rfl
theorem laidOut:laidOutB Tryz.prog=true:=by kernel_rfl
theorem lifted (os:Os) (started:os.Started) (H:Type) (enc:TypeId × Value→H) :
  ReturnsInHanded {} Tryz.checked os 4 .any (Rows.rewriteOnceSpec.pre6 enc Tryz.prog Tryz.f4 Rows.rewriteOnceRow.domain false) (Rows.rewriteOnceSpec.post enc Tryz.prog Tryz.f4 false true false false):=by
 refine returnsInHanded_of_change_sized (C:=Tryz.checked) own started (by kernel_rfl) Tryz.func4
  (ChangeSpec.witness6 (enc:=enc) (C:=Tryz.checked) false ⟨#[],#[.slice none 0 0,.agg #[.int .i64 0,.int .i64 0,.int .i64 0,.int .i64 0,.int .i64 0,.string ⟨#[]⟩,.int .i64 0,.slice none 0 0,.slice none 0 0,.slice none 0 0,.slice none 0 0]],[]⟩ 8 (by kernel_rfl) (by kernel_rfl) (by kernel_rfl) (by kernel_rfl)) ?_
 intro W base args ds gs before hval0 hW _hcnd hsz0 _;have hval:∀ (j:Nat) t v,Tryz.f4.params[j]? = some t→args[j]? = some v→Value.okWide Tryz.prog W .any base t v:=hval0
 have hW':=hW;obtain ⟨p,q,hA0,hV,rfl,_hfz,_hnd⟩:=hW;have hA:DataW.TrodAll enc Tryz.prog W 0 (fun _=>true) true Tryz.f4.params.toList args.toList ds p:=hA0;rw [Tryz.params4] at hA hval;obtain ⟨v0,vs0,d0,ds0,p0,q0,hargs,rfl,rfl,h0,r0⟩:=trodAll_cons hA;obtain ⟨v1,vs1,d1,ds1,p1,q1,rfl,rfl,rfl,h1,r1⟩:=trodAll_cons r0;obtain ⟨rfl,rfl,rfl⟩:=trodAll_nil r1;obtain rfl:args = #[v0,v1]:=by cases args; simp_all
 obtain ⟨rfl,rfl⟩:=trodVars_none hV;have hsz:(DataW.weightsEach Tryz.prog (Tryz.f4.params.toList ++ Rows.rewriteOnceSpec.plain.varTypes Tryz.prog) ([d0,d1] ++ [])).all (· ≤ reachBytes)=true:=hsz0;rw [Tryz.params4] at hsz;have k0:=h0;have lt0:∀ x ∈ p0,x.block<W.heap.size:=by obtain ⟨m,hm⟩:=k0; exact DataW.trod_lt m _ _ _ hm
 obtain ⟨aa0,cp0,ll0,rfl,sl0⟩:=tC (hval 0 22 v0 rfl rfl) h0;have k1:=h1;have lt1:∀ x ∈ p1,x.block<W.heap.size:=by obtain ⟨m,hm⟩:=k1; exact DataW.trod_lt m _ _ _ hm
 have g1:gJ 31 d1:=yn hsz (j:=1) rfl rfl;obtain ⟨ee1,qq1,rfl,sl1,ok1⟩:=xI (hval 1 31 v1 rfl rfl) h1 g1;clear hA0 hval0 hsz0;refine (lX aa0 cp0 ll0 ee1 qq1 W sl0 sl1 ok1).mono fun e W' ⟨he,bel⟩=>?_
 subst he;exact ⟨_,rfl,_,_,_,[],_,[],hW',trodAll_mk1 (shut_bool Tryz.underlying4 _),(trodAll_cons_mk (Below.trod laidOut (by kernel_rfl) (of_decide_eq_true (by kernel_rfl)) k0 bel lt0) (trodAll_cons_mk (Below.trod laidOut (by kernel_rfl) (of_decide_eq_true (by kernel_rfl)) k1 bel lt1) trodAll_mk0)),rfl,bel.frame _,fun h=>by cases h⟩
theorem C9:Tryz.prog.inPlace 4=Rows.rewriteOnceRow.inPlace:=by kernel_rfl
theorem D0:Tryz.prog.unfollowed 4=Rows.rewriteOnceRow.unfollowed:=by kernel_rfl
theorem C2:Tryz.prog.recurses 4=Rows.rewriteOnceRow.recurses:=by kernel_rfl
theorem Ds:Tryz.prog.varsNamed 4=Rows.rewriteOnceRow.named:=by kernel_rfl
theorem closed:joinedFacts Tryz.prog 4 Tryz.f4 Rows.rewriteOnceSpec Rows.rewriteOnceRow=true:=by
 unfold joinedFacts;rw [C9,D0,C2,Ds]
 kernel_rfl
theorem kC:Rows.RewriteOnceSaid :=
 OpenClaim.holds_of_wide 4 Tryz.f4 rfl rfl rfl rfl rfl rfl rfl ⟨rfl,rfl,rfl,rfl,rfl⟩ rfl rfl rfl rfl rfl (by kernel_rfl) Tryz.func4 closed
  (of_decide_eq_true (by kernel_rfl)) (by unfold Func.isWrapper; first | (rw [if_pos (by decide +kernel)]; kernel_rfl) | (rw [if_neg (by decide +kernel)]; exact ⟨rfl,rfl⟩))
  (fun os started H enc _=>lifted os started H enc)
#print axioms kC
end Go.Proofs.YtjebpkhkjkjphaaGreat
