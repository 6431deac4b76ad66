/- For all lists of statements l and m that hold together at most 1,048,576 values and letters: tidelaw16.JournalJoined answers true and leaves its arguments as they were: the bytes of l and m one behind the other are the bytes of both, or these are too many; what the program lays in the listed variables is tied by the card. (The second form: where l and m are together so large that no slice can hold both, the call ends.) -/
import Derived.Test.YtoknmnngaackkaaGreatDoorRows
import Derived.Test.YtoknmnngaackkaaGreatDoorCards
import Derived.Test.YtoknmnngaackkaaGreatDoorTie
import Derived.Test.YtoknmnngaackkaaGreatDoorJJ13
import Derived.ProofKit
import Derived.OpenShut
import Derived.Deep.DeepHandedRow
import Derived.Lib.LaidTab
import Derived.SevenTiedAt
namespace Go.Proofs.YtoknmnngaackkaaGreatDoor
open Go.ChangeShapes Go.WideShapes Go.ChangeAt Go.RowKit Go.Joins

theorem own:ownKnob Tryz.prog.godebug=none:=by kernel_rfl
theorem laidOut:laidOutB Tryz.prog=true:=by kernel_rfl
theorem bulk_one {H:Type} (d:DataW H):1≤Rows.uptoBulk d:=by
 cases d with
 | lit l=>cases l <;> simp [Rows.uptoBulk]
 | nil=>simp [Rows.uptoBulk]
 | ptr d=>simp [Rows.uptoBulk]
 | slice elems spare=>simp [Rows.uptoBulk]
 | agg parts=>simp [Rows.uptoBulk]
 | iface t d=>simp [Rows.uptoBulk]
 | map entries=>simp [Rows.uptoBulk]
 | held h=>simp [Rows.uptoBulk]
theorem bulk_len {H:Type} (l:List (DataW H)):l.length≤Rows.uptoBulkAll l:=by
 induction l with
 | nil=>simp [Rows.uptoBulkAll]
 | cons x r ih=>have:=bulk_one x; simp only [Rows.uptoBulkAll,List.length_cons]; omega
theorem bulk_slice {H:Type} {enc:TypeId × Value→H} {W:World} {t e:TypeId} (hu:Tryz.prog.underlying t=some (.slice e)) {a:Option Addr} {n cap:Nat} {d:DataW H} {p:List MemPlace} (h:DataW.Trod enc Tryz.prog W 0 (fun _=>true) true t (.slice a n cap) d p):n≤Rows.uptoBulk d:=by
 obtain ⟨fuel,hf⟩:=h;rcases DataW.trod_slice hu hf with ⟨hcs,_⟩ | ⟨a',len,cap',elems,rest,m,hm,hcs,hx,_,_,_,hlen,_⟩
 ·simp [Value.cells] at hcs;omega
 ·simp [Value.cells] at hcs;obtain ⟨rfl,rfl,rfl⟩:=hcs;simp only [Prod.mk.injEq] at hx;rw [hx.1];have:=bulk_len (elems.map (·.1));rw [List.length_map] at this;simp only [Rows.uptoBulk];omega
mutual
/-- The cells of plain data. -/
def celD {H:Type}:DataW H→List Value
 | .lit (.int k n)=>[.int k n]
 | .lit (.string s)=>[.string ⟨s.toArray⟩]
 | .agg l=>celDs l
 | _=>[]
def celDs {H:Type}:List (DataW H)→List Value
 | []=>[]
 | d :: r=>celD d ++ celDs r
end
def setB (h:Array Obj) (g:Nat) (cs:List Value):Array Obj:=h.modify g fun
 | .cells _ t frozen=>.cells cs.toArray t frozen
 | o=>o
def lowW (P:Program):Nat:=(World.holding P default ⟨#[],#[],[]⟩).heap.size
/-- A world in which the listed variables lie as start-up lays them. -/
def laidW (P:Program) (os:Os):World :=
 let w0:=World.holding P os ⟨#[.cells #[.string ⟨#[118,97,108,117,101,32,111,117,116,32,111,102,32,114,97,110,103,101]⟩] 270,.cells #[.string ⟨#[105,110,118,97,108,105,100,32,115,121,110,116,97,120]⟩] 270],#[],[]⟩
 { w0 with heap:=setB (setB (setB (setB (setB (setB (setB (setB (setB w0.heap 0 (celD (Rows.laid_tidemark_sql_signs (H:=Unit)))) 1 (celD (Rows.laid_tidemark_sql_infixes (H:=Unit)))) 2 (celD (Rows.laid_internal_strconv_uint64pow10 (H:=Unit)))) 4 (celD Rows.laid_unicode_utf8_first)) 5 (celD (Rows.laid_unicode_utf8_acceptRanges (H:=Unit)))) 6 (celD (Rows.laid_math_bits_deBruijn32tab (H:=Unit)))) 7 (celD (Rows.laid_math_bits_deBruijn64tab (H:=Unit)))) 8 [.iface 268 (.pointer (some ⟨lowW P+1,0,none⟩))]) 9 [.iface 268 (.pointer (some ⟨lowW P,0,none⟩))] }
set_option maxRecDepth 100000 in
theorem laidWorld_met (os:Os):laidMet Tryz.prog Rows.journalJoinedUptoRow.laid ((laidW Tryz.prog os).forCall (fun _ _=>0) ⟨#[],#[.slice none 0 0,.slice none 0 0],[]⟩).memory :=
 laidMet_of_run' 8 (by kernel_rfl) (by kernel_rfl)
set_option maxRecDepth 100000 in
theorem reads (os:Os) {H:Type} (enc:TypeId × Value→H):∃ places,DataW.whole enc Tryz.prog ((laidW Tryz.prog os).forCall (fun _ _=>0) ⟨#[],#[.slice none 0 0,.slice none 0 0],[]⟩).memory Tryz.f3.params.toList Rows.journalJoinedSpec.vars false #[.slice none 0 0,.slice none 0 0].toList 8=some ([.nil,.nil],[],places) :=
 ⟨[],by kernel_rfl⟩
set_option maxRecDepth 100000 in
theorem lifted (os:Os) (started:os.Started) (H:Type) (enc:TypeId × Value→H) (Fi:Stop.Interp) :
  ReturnsInHanded {} Tryz.checked os 3 .any ((Rows.OpenSpec.upto Rows.journalJoinedSpec).preRow enc Tryz.prog Tryz.f3 Rows.journalJoinedUptoRow.domain false Rows.journalJoinedUptoRow.laid) (((Rows.OpenSpec.upto Rows.journalJoinedSpec).at Fi).post enc Tryz.prog Tryz.f3 false true false false):=by
 obtain ⟨places,hx⟩:=reads os enc;refine returnsInHanded_of_row (C:=Tryz.checked) (s:=(Rows.OpenSpec.upto Rows.journalJoinedSpec)) own started (by kernel_rfl) Tryz.func3
  (witness_row_at (enc:=enc) (C:=Tryz.checked) false (laidW Tryz.prog os) #[.slice none 0 0,.slice none 0 0] rfl (by kernel_rfl) (by kernel_rfl) (by kernel_rfl)
   (OpenSpec.preRow_of_cond 8 hx (by kernel_rfl) (fun k hk=>by cases hk; kernel_rfl) (by kernel_rfl) (laidWorld_met os))) ?_
 intro W base args ds gs before hval0 hW _ hcond hsz0 hL hsh _;have hval:∀ (j:Nat) t v,Tryz.f3.params[j]? = some t→args[j]? = some v→Value.okWide Tryz.prog W .any base t v:=hval0
 have hW':=hW;obtain ⟨p,q,hA0,hV,rfl,_hfz,_hnd⟩:=hW;have hA:DataW.TrodAll enc Tryz.prog W 0 (fun _=>true) true Tryz.f3.params.toList args.toList ds p:=hA0;rw [Tryz.params3] at hA hval;obtain ⟨v0,vs0,d0,ds0,p0,q0,hargs,rfl,rfl,h0,r0⟩:=trodAll_cons hA;obtain ⟨v1,vs1,d1,ds1,p1,q1,rfl,rfl,rfl,h1,r1⟩:=trodAll_cons r0;obtain ⟨rfl,rfl,rfl⟩:=trodAll_nil r1;obtain rfl:args = #[v0,v1]:=by cases args; simp_all
 obtain ⟨rfl,rfl⟩:=trodVars_none hV;have hG:GP W W.heap.size:=gp_of (show laidMet Tryz.prog Rows.journalJoinedUptoRow.laid W from hL) hsh;have hk:=of_decide_eq_true (hcond _ rfl);simp only [List.append_nil,Rows.uptoBulkAll] at hk;have k0:=h0;have lt0:∀ x ∈ p0,x.block<W.heap.size:=by obtain ⟨m,hm⟩:=k0; exact DataW.trod_lt m _ _ _ hm
 obtain ⟨aa0,cp0,ll0,rfl,sl0⟩:=open_stmts (hval 0 22 v0 rfl rfl) h0;have b0:=bulk_slice Tryz.underlying22 k0;have k1:=h1;have lt1:∀ x ∈ p1,x.block<W.heap.size:=by obtain ⟨m,hm⟩:=k1; exact DataW.trod_lt m _ _ _ hm
 obtain ⟨aa1,cp1,ll1,rfl,sl1⟩:=open_stmts (hval 1 22 v1 rfl rfl) h1;have b1:=bulk_slice Tryz.underlying22 k1;clear hA0 hval0;refine (journalJoined_at ll0 ll1 aa0 aa1 cp0 cp1 hG (by omega) sl0 sl1).mono fun e W' ⟨he,bel⟩=>?_
 subst he;exact ⟨_,rfl,_,_,_,[],_,[],hW',trodAll_mk1 (shut_bool Tryz.underlying4 _),(trodAll_cons_mk (Below.trod laidOut (by kernel_rfl) (of_decide_eq_true (by kernel_rfl)) k0 bel lt0) (trodAll_cons_mk (Below.trod laidOut (by kernel_rfl) (of_decide_eq_true (by kernel_rfl)) k1 bel lt1) trodAll_mk0)),rfl,bel.frame _,fun h=>by cases h⟩
theorem journalJoined_said:Rows.JournalJoinedUptoSaid :=
 OpenClaim.holds_of_cond 3 Tryz.f3 rfl rfl rfl rfl rfl rfl rfl ⟨rfl,rfl,rfl,rfl,rfl⟩ rfl rfl rfl rfl rfl (by kernel_rfl) Tryz.func3 (by kernel_rfl)
  (of_decide_eq_true (by kernel_rfl)) (by unfold Func.isWrapper; first | (rw [if_pos (by decide +kernel)]; kernel_rfl) | (rw [if_neg (by decide +kernel)]; exact ⟨rfl,rfl⟩))
  (fun os started H enc _ F=>by rw [OpenClaim.pre_eq_preRow]; exact lifted os started H enc F)
/-- No parameter wants a stand-in; the program's own looks are off. -/
theorem plain (f:FuncId) (fn:Func) (hf:Tryz.pinned.checked.prog.funcNamed "tidemark/tidelaw16.JournalJoined" = some f) (hfn:Tryz.pinned.checked.prog.funcs[f]? = some fn) :
  true=Tryz.pinned.checked.prog.looks []∧∀ (j:Nat) t,fn.params[j]? = some t→Tryz.pinned.checked.prog.wantsStandIn t=false:=by
 obtain rfl:f=3:=Option.some.inj ((show Tryz.prog.funcNamed "tidemark/tidelaw16.JournalJoined" = some 3 by kernel_rfl).symm.trans hf) |>.symm;obtain rfl:fn=Tryz.f3:=(Option.some.inj (Tryz.func3.symm.trans hfn)).symm;refine ⟨by kernel_rfl,fun j t ht=>?_⟩;rw [Tryz.params3] at ht;have h3:t=22:=by have:=Array.mem_of_getElem? ht; simpa using this
 subst h3
 ·exact (show Tryz.prog.wantsStandIn 22=false by kernel_rfl)
theorem journalJoined_card:Rows.JournalJoinedUptoCardSaid :=
 Claim7.holds_tied_plain_at .later [] _ _ _ _ journalJoined_said (fun _ h=>by cases h) (by kernel_rfl) (fun _ h=>by cases h) journalJoinedUpto_row_tie rfl ⟨rfl,rfl⟩ (by kernel_rfl) rfl plain (by kernel_rfl)
#print axioms journalJoined_card
end Go.Proofs.YtoknmnngaackkaaGreatDoor
