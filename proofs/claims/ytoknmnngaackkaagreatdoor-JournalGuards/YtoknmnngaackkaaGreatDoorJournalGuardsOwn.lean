/- For every list of statements l that a call can be handed and all whole numbers which, at, one, two: tidelaw16.JournalGuards answers true and leaves its arguments as they were: where two bytes beside each other behind the length of the record of statement which are changed, what is recovered ends ahead of that statement; what the program lays in the listed variables is tied by the card. -/
import Derived.Test.YtoknmnngaackkaaGreatDoorRows
import Derived.Test.YtoknmnngaackkaaGreatDoorCards
import Derived.Test.YtoknmnngaackkaaGreatDoorTie
import Derived.Test.YtoknmnngaackkaaGreatDoorJQ14
import Derived.Test.YtoknmnngaackkaaGreatDoorJQ13
import Derived.ProofKit
import Derived.OpenShut
import Derived.Deep.DeepHandedRow
import Derived.Lib.LaidTab
import Derived.SevenTiedAt
namespace Go.Proofs.YtoknmnngaackkaaGreatDoor
open Go.ChangeShapes Go.WideShapes Go.ChangeAt Go.RowKit Go.Joins
set_option maxRecDepth 100000
set_option maxHeartbeats 16000000
theorem own:ownKnob Tryz.prog.godebug=none:=by kernel_rfl
theorem laidOut:laidOutB Tryz.prog=true:=by kernel_rfl
mutual
def p8 {H:Type}:DataW H→List Value
 | .lit (.int k n)=>[.int k n]
 | .lit (.string s)=>[.string ⟨s.toArray⟩]
 | .agg l=>zq l
 | _=>[]
def zq {H:Type}:List (DataW H)→List Value
 | []=>[]
 | d :: r=>p8 d ++ zq r
end
def oX (h:Array Obj) (g:Nat) (cs:List Value):Array Obj:=h.modify g fun
 | .cells _ t frozen=>.cells cs.toArray t frozen
 | o=>o
def AU (P:Program):Nat:=(World.holding P default ⟨#[],#[],[]⟩).heap.size
def vz (P:Program) (os:Os):World :=
 let w0:=World.holding P os ⟨#[.cells #[.string ⟨#[118,97,108,117,101,32,111,117,116,32,111,102,32,114,97,110,103,101]⟩] 270,.cells #[.string ⟨#[105,110,118,97,108,105,100,32,115,121,110,116,97,120]⟩] 270],#[],[]⟩
 { w0 with heap:=oX (oX (oX (oX (oX (oX (oX (oX (oX w0.heap 0 (p8 (Rows.laid_tidemark_sql_signs (H:=Unit)))) 1 (p8 (Rows.laid_tidemark_sql_infixes (H:=Unit)))) 2 (p8 (Rows.laid_internal_strconv_uint64pow10 (H:=Unit)))) 4 (p8 Rows.laid_unicode_utf8_first)) 5 (p8 (Rows.laid_unicode_utf8_acceptRanges (H:=Unit)))) 6 (p8 (Rows.laid_math_bits_deBruijn32tab (H:=Unit)))) 7 (p8 (Rows.laid_math_bits_deBruijn64tab (H:=Unit)))) 8 [.iface 268 (.pointer (some ⟨AU P+1,0,none⟩))]) 9 [.iface 268 (.pointer (some ⟨AU P,0,none⟩))] }
theorem nv (os:Os):laidMet Tryz.prog Rows.journalGuardsRow.laid ((vz Tryz.prog os).forCall (fun _ _=>0) ⟨#[],#[.slice none 0 0,.int .i64 0,.int .i64 0,.int .i64 0,.int .i64 0],[]⟩).memory :=
 laidMet_of_run' 8 (by kernel_rfl) (by kernel_rfl)
theorem reads (os:Os) {H:Type} (enc:TypeId × Value→H):∃ places,DataW.whole enc Tryz.prog ((vz Tryz.prog os).forCall (fun _ _=>0) ⟨#[],#[.slice none 0 0,.int .i64 0,.int .i64 0,.int .i64 0,.int .i64 0],[]⟩).memory Tryz.f6.params.toList Rows.journalGuardsSpec.vars false #[.slice none 0 0,.int .i64 0,.int .i64 0,.int .i64 0,.int .i64 0].toList 8=some ([.nil,.lit (.int .i64 0),.lit (.int .i64 0),.lit (.int .i64 0),.lit (.int .i64 0)],[],places) :=
 ⟨[],by kernel_rfl⟩
theorem lifted (os:Os) (started:os.Started) (H:Type) (enc:TypeId × Value→H) (Fi:Stop.Interp) :
  ReturnsInHanded {} Tryz.checked os 6 .any ((OpenSpec.ofChange Rows.journalGuardsSpec).preRow enc Tryz.prog Tryz.f6 Rows.journalGuardsRow.domain false Rows.journalGuardsRow.laid) (((OpenSpec.ofChange Rows.journalGuardsSpec).at Fi).post enc Tryz.prog Tryz.f6 false true false false):=by
 obtain ⟨places,hx⟩:=reads os enc;refine returnsInHanded_of_row (C:=Tryz.checked) (s:=(OpenSpec.ofChange Rows.journalGuardsSpec)) own started (by kernel_rfl) Tryz.func6
  (witness_row_at (enc:=enc) (C:=Tryz.checked) false (vz Tryz.prog os) #[.slice none 0 0,.int .i64 0,.int .i64 0,.int .i64 0,.int .i64 0] rfl (by kernel_rfl) (by kernel_rfl) (by kernel_rfl)
   (OpenSpec.preRow_of_cond 8 hx (by kernel_rfl) (fun k hk=>by cases hk) (by kernel_rfl) (nv os))) ?_
 intro W base args ds gs before hval0 hW _ hcond hsz0 hL hsh _;have hval:∀ (j:Nat) t v,Tryz.f6.params[j]? = some t→args[j]? = some v→Value.okWide Tryz.prog W .any base t v:=hval0
 have hW':=hW;obtain ⟨p,q,hA0,hV,rfl,_hfz,_hnd⟩:=hW;have hA:DataW.TrodAll enc Tryz.prog W 0 (fun _=>true) true Tryz.f6.params.toList args.toList ds p:=hA0;rw [Tryz.params6] at hA hval;obtain ⟨v0,vs0,d0,ds0,p0,q0,hargs,rfl,rfl,h0,r0⟩:=trodAll_cons hA;obtain ⟨v1,vs1,d1,ds1,p1,q1,rfl,rfl,rfl,h1,r1⟩:=trodAll_cons r0;obtain ⟨v2,vs2,d2,ds2,p2,q2,rfl,rfl,rfl,h2,r2⟩:=trodAll_cons r1;obtain ⟨v3,vs3,d3,ds3,p3,q3,rfl,rfl,rfl,h3,r3⟩:=trodAll_cons r2;obtain ⟨v4,vs4,d4,ds4,p4,q4,rfl,rfl,rfl,h4,r4⟩:=trodAll_cons r3;obtain ⟨rfl,rfl,rfl⟩:=trodAll_nil r4
 obtain rfl:args = #[v0,v1,v2,v3,v4]:=by cases args; simp_all
 obtain ⟨rfl,rfl⟩:=trodVars_none hV;have hG:GP W W.heap.size:=Bd (show laidMet Tryz.prog Rows.journalGuardsRow.laid W from hL) hsh;have hsz:(DataW.weightsEach Tryz.prog (Tryz.f6.params.toList ++ Rows.journalGuardsSpec.plain.varTypes Tryz.prog) ([d0,d1,d2,d3,d4] ++ [])).all (· ≤ reachBytes)=true:=hsz0;rw [Tryz.params6] at hsz;have k0:=h0;have lt0:∀ x ∈ p0,x.block<W.heap.size:=by obtain ⟨m,hm⟩:=k0; exact DataW.trod_lt m _ _ _ hm
 obtain ⟨aa0,cp0,ll0,rfl,sl0⟩:=rj (hval 0 22 v0 rfl rfl) h0;have n0:=qp k0 hsz (j:=0) rfl rfl;have c0:=tU k0;have k1:=h1;have lt1:∀ x ∈ p1,x.block<W.heap.size:=by obtain ⟨m,hm⟩:=k1; exact DataW.trod_lt m _ _ _ hm
 obtain ⟨aa1,rfl,rfl,rfl,w1⟩:=open_int Tryz.underlying3 (hval 1 3 v1 rfl rfl) h1;have k2:=h2;have lt2:∀ x ∈ p2,x.block<W.heap.size:=by obtain ⟨m,hm⟩:=k2; exact DataW.trod_lt m _ _ _ hm
 obtain ⟨aa2,rfl,rfl,rfl,w2⟩:=open_int Tryz.underlying3 (hval 2 3 v2 rfl rfl) h2;have k3:=h3;have lt3:∀ x ∈ p3,x.block<W.heap.size:=by obtain ⟨m,hm⟩:=k3; exact DataW.trod_lt m _ _ _ hm
 obtain ⟨aa3,rfl,rfl,rfl,w3⟩:=open_int Tryz.underlying3 (hval 3 3 v3 rfl rfl) h3;have k4:=h4;have lt4:∀ x ∈ p4,x.block<W.heap.size:=by obtain ⟨m,hm⟩:=k4; exact DataW.trod_lt m _ _ _ hm
 obtain ⟨aa4,rfl,rfl,rfl,w4⟩:=open_int Tryz.underlying3 (hval 4 3 v4 rfl rfl) h4;clear hA0 hval0 hsz0;refine (kZ ll0 aa0 cp0 aa1 aa2 aa3 aa4 hG n0 c0 sl0).mono fun e W' ⟨he,kD⟩=>?_
 subst he
 exact ⟨_,rfl,_,_,_,[],_,[],hW',trodAll_mk1 (shut_bool Tryz.underlying4 _),(trodAll_cons_mk (Below.trod laidOut (by kernel_rfl) (of_decide_eq_true (by kernel_rfl)) k0 kD lt0) (trodAll_cons_mk (Below.trod laidOut (by kernel_rfl) (of_decide_eq_true (by kernel_rfl)) k1 kD lt1) (trodAll_cons_mk (Below.trod laidOut (by kernel_rfl) (of_decide_eq_true (by kernel_rfl)) k2 kD lt2) (trodAll_cons_mk (Below.trod laidOut (by kernel_rfl) (of_decide_eq_true (by kernel_rfl)) k3 kD lt3) (trodAll_cons_mk (Below.trod laidOut (by kernel_rfl) (of_decide_eq_true (by kernel_rfl)) k4 kD lt4) trodAll_mk0))))),rfl,kD.frame _,fun h=>by cases h⟩
theorem jS:Rows.JournalGuardsSaid :=
 OpenClaim.holds_of_cond 6 Tryz.f6 rfl rfl rfl rfl rfl rfl rfl ⟨rfl,rfl,rfl,rfl,rfl⟩ rfl rfl rfl rfl rfl (by kernel_rfl) Tryz.func6 (by kernel_rfl)
  (of_decide_eq_true (by kernel_rfl)) (by unfold Func.isWrapper; first | (rw [if_pos (by decide +kernel)]; kernel_rfl) | (rw [if_neg (by decide +kernel)]; exact ⟨rfl,rfl⟩))
  (fun os started H enc _ F=>by rw [OpenClaim.pre_eq_preRow]; exact lifted os started H enc F)
theorem plain (f:FuncId) (fn:Func) (hf:Tryz.pinned.checked.prog.funcNamed "tidemark/tidelaw16.JournalGuards" = some f) (hfn:Tryz.pinned.checked.prog.funcs[f]? = some fn) :
  true=Tryz.pinned.checked.prog.looks []∧∀ (j:Nat) t,fn.params[j]? = some t→Tryz.pinned.checked.prog.wantsStandIn t=false:=by
 obtain rfl:f=6:=Du ((show Tryz.prog.funcNamed "tidemark/tidelaw16.JournalGuards" = some 6 by kernel_rfl).symm.trans hf) |>.symm;obtain rfl:fn=Tryz.f6:=(Du (Tryz.func6.symm.trans hfn)).symm;refine ⟨by kernel_rfl,fun j t ht=>?_⟩;rw [Tryz.params6] at ht;have h3:t=22∨t=3:=by have:=Array.mem_of_getElem? ht; simpa using this
 rcases h3 with rfl | rfl
 ·exact (show Tryz.prog.wantsStandIn 22=false by kernel_rfl)
 ·exact (show Tryz.prog.wantsStandIn 3=false by kernel_rfl)
theorem jU:Rows.JournalGuardsCardSaid :=
 Claim7.holds_tied_plain_at .later [] _ _ _ _ jS (fun _ h=>by cases h) (by kernel_rfl) (fun _ h=>by cases h) journalGuards_row_tie rfl ⟨rfl,rfl⟩ (by kernel_rfl) rfl plain (by kernel_rfl)
#print axioms jU
end Go.Proofs.YtoknmnngaackkaaGreatDoor
