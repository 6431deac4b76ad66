/- For every list of statements l and all bytes b that a call can be handed: tidelaw16.JournalTurns answers true and leaves its arguments as they were: the statements of l are found in their bytes, with what their kinds have, and what is found in b is laid as it was; what the program lays in the listed variables is tied by the card. -/
import Derived.Test.YtoknmnngaackkaaGreatDoorRows
import Derived.Test.YtoknmnngaackkaaGreatDoorCards
import Derived.Test.YtoknmnngaackkaaGreatDoorTie
import Derived.Test.YtoknmnngaackkaaGreatDoorST14
import Derived.Test.YtoknmnngaackkaaGreatDoorSU0
import Derived.Test.YtoknmnngaackkaaGreatDoorSV0
import Derived.ProofKit
import Derived.OpenShut
import Derived.Deep.DeepHandedRow
import Derived.Lib.LaidTab
import Derived.SevenTiedAt
namespace Go.Proofs.YtoknmnngaackkaaGreatDoor
open Go.ChangeShapes Go.WideShapes Go.ChangeAt Go.RowKit Go.Joins
set_option maxRecDepth 100000
set_option maxHeartbeats 16000000
theorem own:ownKnob Tryz.prog.godebug=none:=by kernel_rfl
theorem laidOut:laidOutB Tryz.prog=true:=by kernel_rfl
mutual
def hZ {H:Type}:DataW H→List Value
 | .lit (.int k n)=>[.int k n]
 | .lit (.string s)=>[.string ⟨s.toArray⟩]
 | .agg l=>nq l
 | _=>[]
def nq {H:Type}:List (DataW H)→List Value
 | []=>[]
 | d :: r=>hZ d ++ nq r
end
def gM (h:Array Obj) (g:Nat) (cs:List Value):Array Obj:=h.modify g fun
 | .cells _ t frozen=>.cells cs.toArray t frozen
 | o=>o
def ug (P:Program):Nat:=(World.holding P default ⟨#[],#[],[]⟩).heap.size
def kG (P:Program) (os:Os):World :=
 let w0:=World.holding P os ⟨#[.cells #[.string ⟨#[118,97,108,117,101,32,111,117,116,32,111,102,32,114,97,110,103,101]⟩] 270,.cells #[.string ⟨#[105,110,118,97,108,105,100,32,115,121,110,116,97,120]⟩] 270],#[],[]⟩
 { w0 with heap:=gM (gM (gM (gM (gM (gM (gM (gM (gM w0.heap 0 (hZ (Rows.laid_tidemark_sql_signs (H:=Unit)))) 1 (hZ (Rows.laid_tidemark_sql_infixes (H:=Unit)))) 2 (hZ (Rows.laid_internal_strconv_uint64pow10 (H:=Unit)))) 4 (hZ Rows.laid_unicode_utf8_first)) 5 (hZ (Rows.laid_unicode_utf8_acceptRanges (H:=Unit)))) 6 (hZ (Rows.laid_math_bits_deBruijn32tab (H:=Unit)))) 7 (hZ (Rows.laid_math_bits_deBruijn64tab (H:=Unit)))) 8 [.iface 268 (.pointer (some ⟨ug P+1,0,none⟩))]) 9 [.iface 268 (.pointer (some ⟨ug P,0,none⟩))] }
theorem fR (os:Os):laidMet Tryz.prog Rows.journalTurnsRow.laid ((kG Tryz.prog os).forCall (fun _ _=>0) ⟨#[],#[.slice none 0 0,.slice none 0 0],[]⟩).memory :=
 laidMet_of_run' 8 (by kernel_rfl) (by kernel_rfl)
theorem reads (os:Os) {H:Type} (enc:TypeId × Value→H):∃ places,DataW.whole enc Tryz.prog ((kG Tryz.prog os).forCall (fun _ _=>0) ⟨#[],#[.slice none 0 0,.slice none 0 0],[]⟩).memory Tryz.f4.params.toList Rows.journalTurnsSpec.vars false #[.slice none 0 0,.slice none 0 0].toList 8=some ([.nil,.nil],[],places) :=
 ⟨[],by kernel_rfl⟩
theorem lifted (os:Os) (started:os.Started) (H:Type) (enc:TypeId × Value→H) (Fi:Stop.Interp) :
  ReturnsInHanded {} Tryz.checked os 4 .any ((OpenSpec.ofChange Rows.journalTurnsSpec).preRow enc Tryz.prog Tryz.f4 Rows.journalTurnsRow.domain false Rows.journalTurnsRow.laid) (((OpenSpec.ofChange Rows.journalTurnsSpec).at Fi).post enc Tryz.prog Tryz.f4 false true false false):=by
 obtain ⟨places,hx⟩:=reads os enc;refine returnsInHanded_of_row (C:=Tryz.checked) (s:=(OpenSpec.ofChange Rows.journalTurnsSpec)) own started (by kernel_rfl) Tryz.func4
  (witness_row_at (enc:=enc) (C:=Tryz.checked) false (kG Tryz.prog os) #[.slice none 0 0,.slice none 0 0] rfl (by kernel_rfl) (by kernel_rfl) (by kernel_rfl)
   (OpenSpec.preRow_of_cond 8 hx (by kernel_rfl) (fun k hk=>by cases hk) (by kernel_rfl) (fR os))) ?_
 intro W base args ds gs before hval0 hW _ hcond hsz0 hL hsh _;have hval:∀ (j:Nat) t v,Tryz.f4.params[j]? = some t→args[j]? = some v→Value.okWide Tryz.prog W .any base t v:=hval0
 have hW':=hW;obtain ⟨p,q,hA0,hV,rfl,_hfz,_hnd⟩:=hW;have hA:DataW.TrodAll enc Tryz.prog W 0 (fun _=>true) true Tryz.f4.params.toList args.toList ds p:=hA0;rw [Tryz.params4] at hA hval;obtain ⟨v0,vs0,d0,ds0,p0,q0,hargs,rfl,rfl,h0,r0⟩:=trodAll_cons hA;obtain ⟨v1,vs1,d1,ds1,p1,q1,rfl,rfl,rfl,h1,r1⟩:=trodAll_cons r0;obtain ⟨rfl,rfl,rfl⟩:=trodAll_nil r1;obtain rfl:args = #[v0,v1]:=by cases args; simp_all
 obtain ⟨rfl,rfl⟩:=trodVars_none hV;have hG:GP W W.heap.size:=Bw (show laidMet Tryz.prog Rows.journalTurnsRow.laid W from hL) hsh;have hsz:(DataW.weightsEach Tryz.prog (Tryz.f4.params.toList ++ Rows.journalTurnsSpec.plain.varTypes Tryz.prog) ([d0,d1] ++ [])).all (· ≤ reachBytes)=true:=hsz0;rw [Tryz.params4] at hsz;have k0:=h0;have lt0:∀ x ∈ p0,x.block<W.heap.size:=by obtain ⟨m,hm⟩:=k0; exact DataW.trod_lt m _ _ _ hm
 obtain ⟨aa0,cp0,ll0,rfl,sl0⟩:=lr (hval 0 22 v0 rfl rfl) h0;have n0:=nk k0 hsz (j:=0) rfl rfl;have c0:=qf k0;have k1:=h1;have lt1:∀ x ∈ p1,x.block<W.heap.size:=by obtain ⟨m,hm⟩:=k1; exact DataW.trod_lt m _ _ _ hm
 obtain ⟨aa1,cp1,ll1,rfl,sl1⟩:=wH (hval 1 24 v1 rfl rfl) h1;have n1:=uJ k1 hsz (j:=1) rfl rfl;clear hA0 hval0 hsz0;refine (mS ll0 aa0 cp0 ll1 aa1 cp1 hG n0 c0 n1 sl0 sl1).mono fun e W' ⟨he,jS⟩=>?_
 subst he;exact ⟨_,rfl,_,_,_,[],_,[],hW',trodAll_mk1 (shut_bool Tryz.underlying4 _),(trodAll_cons_mk (Below.trod laidOut (by kernel_rfl) (of_decide_eq_true (by kernel_rfl)) k0 jS lt0) (trodAll_cons_mk (Below.trod laidOut (by kernel_rfl) (of_decide_eq_true (by kernel_rfl)) k1 jS lt1) trodAll_mk0)),rfl,jS.frame _,fun h=>by cases h⟩
theorem lO:Rows.JournalTurnsSaid :=
 OpenClaim.holds_of_cond 4 Tryz.f4 rfl rfl rfl rfl rfl rfl rfl ⟨rfl,rfl,rfl,rfl,rfl⟩ rfl rfl rfl rfl rfl (by kernel_rfl) Tryz.func4 (by kernel_rfl)
  (of_decide_eq_true (by kernel_rfl)) (by unfold Func.isWrapper; first | (rw [if_pos (by decide +kernel)]; kernel_rfl) | (rw [if_neg (by decide +kernel)]; exact ⟨rfl,rfl⟩))
  (fun os started H enc _ F=>by rw [OpenClaim.pre_eq_preRow]; exact lifted os started H enc F)
theorem plain (f:FuncId) (fn:Func) (hf:Tryz.pinned.checked.prog.funcNamed "tidemark/tidelaw16.JournalTurns" = some f) (hfn:Tryz.pinned.checked.prog.funcs[f]? = some fn) :
  true=Tryz.pinned.checked.prog.looks []∧∀ (j:Nat) t,fn.params[j]? = some t→Tryz.pinned.checked.prog.wantsStandIn t=false:=by
 obtain rfl:f=4:=Option.some.inj ((show Tryz.prog.funcNamed "tidemark/tidelaw16.JournalTurns" = some 4 by kernel_rfl).symm.trans hf) |>.symm;obtain rfl:fn=Tryz.f4:=(Option.some.inj (Tryz.func4.symm.trans hfn)).symm;refine ⟨by kernel_rfl,fun j t ht=>?_⟩;rw [Tryz.params4] at ht;have h3:t=22∨t=24:=by have:=Array.mem_of_getElem? ht; simpa using this
 rcases h3 with rfl | rfl
 ·exact (show Tryz.prog.wantsStandIn 22=false by kernel_rfl)
 ·exact (show Tryz.prog.wantsStandIn 24=false by kernel_rfl)
theorem l9:Rows.JournalTurnsCardSaid :=
 Claim7.holds_tied_plain_at .later [] _ _ _ _ lO (fun _ h=>by cases h) (by kernel_rfl) (fun _ h=>by cases h) journalTurns_row_tie rfl ⟨rfl,rfl⟩ (by kernel_rfl) rfl plain (by kernel_rfl)
#print axioms l9
end Go.Proofs.YtoknmnngaackkaaGreatDoor
