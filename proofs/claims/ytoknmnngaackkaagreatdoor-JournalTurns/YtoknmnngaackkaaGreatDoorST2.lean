/- Together: FX, I0, AE, AF, AG, AH, AI, AJ, AK. -/
import Derived.Deep.LoopGhost
import Derived.Laws.AppendOwn
import Derived.Maps.AppendAt
import Derived.Shelf.Strconv.ParseIntPublic10
import Derived.Shelf.Lay
import Derived.Ground.NamesProg
import Derived.Lib.SmallJoins
import Derived.Test.YtoknmnngaackkaaGreatDoorST1
namespace Go.Proofs.YtoknmnngaackkaaGreatDoor
open Go.RowKit
set_option maxRecDepth 100000
set_option maxHeartbeats 16000000
section
variable {P:Program} {ops:Array Oper} {Q:Exit→Act→World→Prop} {md:Region.Mode} {C:World→Prop} {Φ:Nat→World→Value→Prop} {I:Act→World→Prop}
structure Same (ops:Array Oper) (a0 a:Act):Prop where
 size:a.tmps.size=a0.tmps.size
 defers:a.defers=a0.defers
 tmps:∀ t:Tmp,(ops.all fun o=>o.dst != some t)=true→a.tmps.getD t undef=a0.tmps.getD t undef
def EF (ops:Array Oper) (Φ:Nat→World→Value→Prop) (i:Nat) (a:Act) (w:World):Prop :=
 ∀ o d,ops[i]? = some o→o.dst=some d→Φ i w (a.tmps.getD d undef)
def zZ (P:Program) (md:Region.Mode) (ops:Array Oper) (Q:Exit→Act→World→Prop) (C:World→Prop) (Φ:Nat→World→Value→Prop) (I:Act→World→Prop) (a0:Act) (i:Nat) (o:Oper):Prop :=
 ∀ a w,C w→Same ops a0 a→I a w→(∀ e ∈ o.after,Region.binds md e=true→EF ops Φ e.on a w) →
  wpOp P ops Q i (fun a' w'=>∃ v,a'=a.put o.dst v∧Below w w w'∧Φ i w' v∧I (a.put o.dst v) w') a w
def nI (P:Program) (md:Region.Mode) (ops:Array Oper) (Q:Exit→Act→World→Prop) (C:World→Prop) (Φ:Nat→World→Value→Prop) (I:Act→World→Prop) (a0:Act):Nat→List Oper→Prop
 | _,[]=>True
 | i,o :: os=>zZ P md ops Q C Φ I a0 i o∧nI P md ops Q C Φ I a0 (i+1) os
theorem nI.get {a0:Act}:∀ {l:List Oper} {k:Nat},nI P md ops Q C Φ I a0 k l→∀ {i:Nat} {o:Oper},l[i]? = some o→zZ P md ops Q C Φ I a0 (k+i) o
 | [],_,_,i,o,h=>by simp at h
 | o' :: l,k,H,0,o,h=>by simp at h; subst h; exact H.1
 | o' :: l,k,H,i+1,o,h=>by
  have:=nI.get H.2 (i:=i) (by simpa using h)
  rw [show k+1+i=k+(i+1) by omega] at this
  exact this
def mY (md:Region.Mode) (ops:Array Oper) (listed:Array Bool):Prop :=
 ∀ i o,ops[i]? = some o→listed.getD i false=true→∀ e ∈ o.after,Region.binds md e=true→listed.getD e.on false=true
theorem xN {listed:Array Bool} {i:Nat} (h:i<listed.size) (d:Bool):listed.getD i d=listed[i]:=by simp [Array.getD,h]
end
section
variable {P:Program} {ops:Array Oper} {Q:Exit→Act→World→Prop} {md:Region.Mode} {C:World→Prop} {s:Nat}
def before (md:Region.Mode) (ops:Array Oper):Nat→Nat→Nat→Bool
 | 0,s,i=>s == i
 | n+1,s,i=>s == i || (match ops[s]? with
  | none=>false
  | some o=>o.after.any fun e=>Region.binds md e && before md ops n e.on i)
theorem nz {listed:Array Bool} (hcl:mY md ops listed):∀ (n s i:Nat),before md ops n s i=true→listed.getD s false=true→listed.getD i false=true
 | 0,s,i,h,hs=>by
  have:s=i:=by simpa [before] using h
  exact this ▸ hs
 | n+1,s,i,h,hs=>by
  rw [before,Bool.or_eq_true] at h
  rcases h with h | h
  ·have:s=i:=by simpa using h
   exact this ▸ hs
  ·cases ho:ops[s]? with
   | none=>rw [ho] at h; cases h
   | some o =>
    rw [ho] at h
    obtain ⟨k,hk,h⟩:=Array.any_eq_true.1 h
    rw [Jv] at h
    exact nz hcl n _ i h.2 (hcl s o ho hs _ (Array.getElem_mem hk) h.1)
def CZ (C:World→Prop) (s:Nat) (listed:Array Bool) (w:World):Prop:=listed.getD s false=false→C w
def tI (P:Program) (md:Region.Mode) (ops:Array Oper) (Q:Exit→Act→World→Prop) (C:World→Prop) (s:Nat):Nat→Array Bool→Act→World→Prop
 | 0,listed,a,w=>Region.ready md ops listed = []∧∀ w',Below w w w'→Q .normal a w'
 | fuel+1,listed,a,w=>∀ w',Below w w w'→(Region.ready md ops listed = []→Q .normal a w') ∧
  ∀ i ∈ Region.ready md ops listed,wpOp P ops Q i (fun a' w''=>CZ C s (listed.setIfInBounds i true) w''∧tI P md ops Q C s fuel (listed.setIfInBounds i true) a' w'') a w'
theorem tI.later:∀ (fuel:Nat) {listed:Array Bool} {a:Act} {w w1:World},tI P md ops Q C s fuel listed a w→Below w w w1→tI P md ops Q C s fuel listed a w1
 | 0,_,_,_,_,h,hb=>⟨h.1,fun w' hw'=>h.2 w' (chain hb hw')⟩
 | _+1,_,_,_,_,h,hb=>fun w' hw'=>h w' (chain hb hw')
theorem mn:∀ (fuel:Nat) (listed:Array Bool) (a:Act) (w:World),tI P md ops Q C s fuel listed a w→wpAny P md ops Q fuel listed a w
 | 0,_,_,_,h=>⟨h.1,h.2 _ (I8 _ _)⟩
 | fuel+1,_,_,w,h=>⟨(h w (I8 _ _)).1,fun i hi=>wpOp_mono (fun a' w' h'=>mn fuel _ a' w' h'.2) ((h w (I8 _ _)).2 i hi)⟩
theorem wh {listed:Array Bool} {j:Nat} (hcl:mY md ops listed) (hj:j ∈ Region.ready md ops listed):mY md ops (listed.setIfInBounds j true):=by
 obtain ⟨h1,oj,hoj,hdep⟩:=mem_ready.1 hj;have up:∀ k,listed.getD k false=true→(listed.setIfInBounds j true).getD k false=true:=fun k hk=>by
  by_cases e:j=k
  ·subst e;have hlt:j<listed.size:=by
    rcases Jw j listed.size with h | h
    ·exact h
    ·simp [Array.getD,Nat.not_lt.2 h] at hk
   rw [xN (by simpa using hlt)];simp
  ·rw [getD_set_ne false e]; exact hk
 intro k ok hk hl e he hb;by_cases ej:j=k
 ·subst ej;rw [hoj] at hk;cases hk;exact up _ (hdep e he hb)
 ·rw [getD_set_ne false ej] at hl;exact up _ (hcl k ok hk hl e he hb)
theorem vm {listed:Array Bool} {i:Nat} (h:i ∈ Region.ready md ops listed):listed.getD i false=false:=by
 have:=(mem_ready.1 h).1;rcases Jw i listed.size with h' | h'
 ·rw [xN h'] at this ⊢; exact this
 ·simp [Array.getD,Nat.not_lt.2 h']
theorem yX (hC:∀ w w',C w→Below w w w'→C w') {i:Nat} {oi:Oper} {v:Value} {N:Nat} (hi:ops[i]? = some oi) (hsel:∀ (j:Nat) (o:Oper) cs b,ops[j]? = some o→o.op ≠ .select cs b)
  (hQ:∀ c a w,Q (.panic c) (a.put oi.dst v) w→Q (.panic c) a w) (hbf:before md ops N s i=true) (his:i≠s) :
  ∀ (fuel:Nat) (listed:Array Bool) (a:Act) (w:World),mY md ops listed →
   (∀ j oj,ops[j]? = some oj→j≠i→listed.getD j true=false→(∀ e ∈ oj.after,Region.binds md e=true→e.on≠i)→oi.apart ops oj=true) →
   i ∈ Region.ready md ops listed→gW P ops C oi v a→CZ C s listed w →
   tI P md ops Q C s fuel (listed.setIfInBounds i true) (a.put oi.dst v) w→tI P md ops Q C s (fuel+1) listed a w:=by
 have open_:∀ {listed:Array Bool},mY md ops listed→i ∈ Region.ready md ops listed→listed.getD s false=false:=fun hcl hr=>by
  cases h:Array.getD _ s false with
  | false=>rfl
  | true =>
   have:=nz hcl N s i hbf h;rw [vm hr] at this;cases this
 intro fuel
 induction fuel with
 | zero =>
  intro listed a w hcl _ hr hy hB H w' hw';have hB:=hB (open_ hcl hr);refine ⟨fun h=>(by rw [h] at hr; cases hr),fun j hj=>?_⟩;by_cases hji:j=i
  ·subst hji;exact hy.wpOp hi (hC _ _ hB hw') fun w'' hw''=>⟨fun _=>hC _ _ (hC _ _ hB hw') hw'',H.later 0 (chain hw' hw'')⟩
  ·have:=ready_mono hj hji;rw [H.1] at this;cases this
 | succ fuel ih =>
  intro listed a w hcl hfree hr hy hB H w' hw';have hB:=hB (open_ hcl hr);refine ⟨fun h=>(by rw [h] at hr; cases hr),fun j hj=>?_⟩;by_cases hji:j=i
  ·subst hji;exact hy.wpOp hi (hC _ _ hB hw') fun w'' hw''=>⟨fun _=>hC _ _ (hC _ _ hB hw') hw'',H.later (fuel+1) (chain hw' hw'')⟩
  ·have h1:=(H w' hw').2 j (ready_mono hj hji);obtain ⟨hjun,oj,hoj,hall⟩:=mem_ready.1 hj;have hnot:∀ e ∈ oj.after,Region.binds md e=true→e.on≠i:=fun e he hb heq=>by
    have h1:=hall e he hb;have h0:=(mem_ready.1 hr).1;rw [heq] at h1;rcases Jw i listed.size with h' | h'
    ·simp [h'] at h0 h1; rw [h0] at h1; cases h1
    ·simp [JF h'] at h1
   have hap:=hfree j oj hoj hji hjun hnot;obtain ⟨_,_,h3⟩:=Oper.apart_spec hap;have h2:=rn (Φ:=gW P ops C oi v) hoj hap (fun cs b=>hsel j oj cs b hoj) hQ
    (fun a hy u=>hy.of_same (execOp_put oi (fun cs b=>hsel i oi cs b hi) a oj.dst u h3) (wanted_put oi a oj.dst u h3)) (fun a d hy=>hy.of_same rfl rfl) hy h1
   have hfree':∀ k ok,ops[k]? = some ok→k≠i→(listed.setIfInBounds j true).getD k true=false →
     (∀ e ∈ ok.after,Region.binds md e=true→e.on≠i)→oi.apart ops ok=true:=fun k ok hk hki hun hno=>by
    refine hfree k ok hk hki ?_ hno;by_cases hjk:j=k
    ·subst hjk; exact hjun
    ·rw [getD_set_ne true hjk] at hun; exact hun
   refine wpOp_mono (fun a' w'' h4=>?_) h2;have hc:CZ C s (listed.setIfInBounds j true) w'':=fun h=>h4.2.1 (by
    rw [Array.setIfInBounds_comm _ _ (Ne.symm hji),getD_set_ne false his];exact h)
   refine ⟨hc,ih (listed.setIfInBounds j true) a' w'' (wh hcl hj) hfree' (ready_mono hr (Ne.symm hji)) h4.1 hc ?_⟩;rw [Array.setIfInBounds_comm _ _ hji];exact h4.2.2
def rS (md:Region.Mode) (ops:Array Oper) (listed:Array Bool):Bool :=
 (List.range ops.size).all fun i=>match ops[i]? with
  | none=>true
  | some o=>!listed.getD i false || o.after.all fun e=>!Region.binds md e || listed.getD e.on false
theorem rO {listed:Array Bool} (h:rS md ops listed=true):mY md ops listed:=fun i o hi hl e he hb=>by
 have h1:=List.all_eq_true.1 h i (List.mem_range.2 (Array.getElem?_eq_some_iff.1 hi).1)
 simp only [hi,hl,Bool.not_true,Bool.false_or] at h1
 have:=Array.all_eq_true_iff_forall_mem.1 h1 e he
 simpa [hb] using this
theorem pz (hC:∀ w w',C w→Below w w w'→C w') {i:Nat} {oi:Oper} {v:Value} {fuel:Nat} {listed:Array Bool} {a:Act} {w:World} (d:Option Tmp) (hi:ops[i]? = some oi) (hd:oi.dst=d)
  (hs:Region.noSelect ops=true) (hf:Region.free md ops listed i=true) (hr:(Region.ready md ops listed).contains i=true) (hcl:rS md ops listed=true) (hbf:before md ops 12 s i=true) (his:(i != s)=true)
  (hQ:∀ c a w,Q (.panic c) (a.put oi.dst v) w→Q (.panic c) a w) (hy:gW P ops C oi v a) (hB:CZ C s listed w)
  (h:tI P md ops Q C s fuel (listed.setIfInBounds i true) (a.put d v) w):tI P md ops Q C s (fuel+1) listed a w:=by
 subst hd;exact yX hC hi (Region.noSelect_spec hs) hQ hbf (by simpa using his) fuel listed a w (rO hcl) (Region.free_spec hi hf) (by simpa using hr) hy hB h
theorem bZ {rs:List Nat} {fuel:Nat} {listed:Array Bool} {a:Act} {w:World} (hr:Region.ready md ops listed=rs) (hne:rs ≠ [])
  (h:∀ w',Below w w w'→∀ i ∈ rs,wpOp P ops Q i (fun a' w''=>CZ C s (listed.setIfInBounds i true) w''∧tI P md ops Q C s fuel (listed.setIfInBounds i true) a' w'') a w'):tI P md ops Q C s (fuel+1) listed a w :=
 fun w' hw'=>⟨fun h0=>absurd (hr ▸ h0) hne,hr ▸ h w' hw'⟩
theorem fP (hC:∀ w w',C w→Below w.heap.size w w'→C w') (d:Tmp) (i:Nat) (v:Value) {oi:Oper} {fuel:Nat} {listed:Array Bool} {a:Act} {w:World} (hy:∀ n:World,C n→Oper.quietUpon P (fun w'=>Below n.heap.size n w') n v ((execOp a.eval oi).run P n)) (hB:CZ C s listed w) (h:tI P md ops Q C s fuel (listed.setIfInBounds i true) (a.put (some d) v) w) (hi:ops[i]? = some oi:=by exact rfl) (hd:oi.dst = some d:=by exact rfl) (hs:Region.noSelect ops=true:=by kernel_rfl) (hf:Region.free md ops listed i=true:=by kernel_rfl) (hr:(Region.ready md ops listed).contains i=true:=by kernel_rfl) (hcl:rS md ops listed=true:=by kernel_rfl) (hbf:before md ops 12 s i=true:=by kernel_rfl) (his:(i != s)=true:=by exact rfl) (hQ:∀ c a w,Q (.panic c) (a.put oi.dst v) w→Q (.panic c) a w:=by exact fun _ _ _ h=>h) (hw:Region.wanted oi (yielded ops a.tmps)=true:=by exact rfl):tI P md ops Q C s (fuel+1) listed a w:=pz hC (some d) hi hd hs hf hr hcl hbf his hQ (.inl ⟨hw,hy⟩) hB h
theorem pJ (j:Nat) {fuel:Nat} {listed:Array Bool} {a:Act} {w:World} (hr:Region.ready md ops listed=[j]) (h:∀ w',Below w.heap.size w w'→wpOp P ops Q j (fun a' w''=>CZ C s (listed.setIfInBounds j true) w''∧tI P md ops Q C s fuel (listed.setIfInBounds j true) a' w'') a w'):tI P md ops Q C s (fuel+1) listed a w:=bZ hr (by simp) fun w' hb i hi=>by
 obtain rfl:i=j:=by simpa using hi
 exact h w' hb
theorem eJ {listed:Array Bool} {a:Act} {w:World} (hr:Region.ready md ops listed = []) (h:∀ w',Below w w w'→Q .normal a w'):tI P md ops Q C s 0 listed a w:=⟨hr,h⟩
theorem dC {id:Nat} {a:Act} {w:World} (C:World→Prop) (s:Nat) (hm:P.follows .mixedOrders=true)
  (h:tI P .any ops Q C s ops.size (Array.replicate ops.size false) a w.drew):(Code.region id ops true).wp P Q a w :=
 wp_region_any hm (mn _ _ _ _ h)
end
end Go.Proofs.YtoknmnngaackkaaGreatDoor
namespace Go.Proofs.YtoknmnngaackkaaGreatDoor
open Go.RowKit Go.Lib Go.Shelf
set_option maxRecDepth 100000
set_option maxHeartbeats 16000000
set_option maxRecDepth 100000
set_option maxHeartbeats 8000000
def S1 (B g:Nat) (b:Nat):Prop:=B≤b∧b≠g
theorem oW (lvl:Int) (ts:List Tk):∀ l:List (Int × ByteArray × Int),(∀ i ∈ l,i.1≠0)→(dP lvl ts l).1=0→(dP lvl ts l).2=ts
 | [],_,_=>rfl
 | i :: r,hn,h=>by
  rw [dP] at h ⊢
  by_cases hc:i.2.2=lvl∧bK i.2.1 ts=true
  ·rw [if_pos hc] at h
   exact absurd h (hn i (by simp))
  ·rw [if_neg hc] at h ⊢
   exact oW lvl ts r (fun j hj=>hn j (by simp [hj])) h
theorem nZ {lvl:Int} {ts:List Tk} (h:(cC lvl ts).1=0):(cC lvl ts).2=ts:=oW lvl ts dV (by decide) h
theorem vF {n:Nat} {lvl o:Int} (hl:1≤lvl∧lvl≤7) (hv:∀ m,m≤n→mD 219 [.int .i64 (lvl+1)] (dj m (lvl+1) o) o):mD 197 [.int .i64 lvl] (cd (n+1) lvl o) o:=by
 intro w R tb ts h hf;rw [cd] at hf ⊢;have hltR:=h.lt;have hltT:=h.lK;obtain ⟨hal,QZ0⟩:=dZ w gQ 55;have hz':=lt_of_heap QZ0;have con:=hv n (I6 _) (w.alloc (.cells gQ 55)) R tb ts (h.next hal) (fun hc=>hf (by rw [hc]; rfl));have HV:=ah hv;generalize hM:aK (dj n (lvl+1) o ts) (fun x r=>fI n lvl o x r)=M at *;generalize dj n (lvl+1) o ts=L at *
 have HM:=ah hM;have HF:=ah hf;clear h hf hM hv;go_enter Tryz.func197,Tryz.ntmps197;go_wp2_with fail
 generalize w.alloc _=w1 at *;refine con.mono ?_;rintro e w2 ⟨hb2,hW⟩;have QZ2:=(hb2.2 _ (lt_of_heap QZ0) ak).trans QZ0;have hx2:aj R w w2:=(aj.of hal ak).trans hb2;have hz2:=hb2.size;clear con;rcases L with c | ⟨x,rs⟩
 ·obtain ⟨rfl,us,hE⟩:=hW;have HE:=ah hE;clear hE;have e:=HM.out.symm;subst e;clear HM HF;go_wp2_with fail
  exact ⟨rfl,Ends.err rfl hx2 HE.out⟩
 obtain ⟨v,rfl,⟨a,c,rfl,hks⟩,hRW⟩:=hW;have HL:=ah HM.out;obtain ⟨hal3,QX3⟩:=dZ w2 (bE x a c) 55;have HR3:=ah (hRW.next hal3);have HK3:Hid (aJ (S1 (w+1) w2.heap.size) (w2.alloc (.cells (bE x a c) 55)) a x.ks):=aJ.next hal3 (aJ.mono (fun b h1 h2=>⟨by have:w1.heap.size≤b:=h1; omega,by omega⟩) hks);have QZ3:=bH hal3 QZ2
 have hx3:aj R w (w2.alloc (.cells (bE x a c) 55)):=hx2.trans (.of hal3 ak);have con4:=sj HR3.out lvl;clear HM hRW hks QZ0;generalize hsg:cC lvl rs=sg at *;go_wp2_with fail
 generalize w2.alloc _=w3 at *;refine con4.mono ?_;rintro e w4 ⟨rfl,h4,hb4⟩;have HS4:=ah h4;have QX4:=(hb4.2 _ (lt_of_heap QX3) ak).trans QX3;have QZ4:=(hb4.2 _ (lt_of_heap QZ3) ak).trans QZ3;have HK4:=ah (aJ.k1 hb4.k1 (fun h=>by have:=h.1; omega) HK3.out);have hx4:=hx3.trans hb4;subst hsg;clear con4 h4 HK3 QX3 QZ3 HR3 hal3 hb4;go_wp2_with fail
 go_loopg [6] n (fun m kv wr=>m≤n∧∃ (x:SX) (a:Option Addr) (c:Nat) (rs:List Tk),kv = .int .i64 (cC lvl rs).1∧Hid (fI m lvl o x rs=M)∧aj R w wr∧Hid (aR wr R tb (cC lvl rs).2 o)∧wr.heap[w2.heap.size]? = some (.cells (bE x a c) 55 (0,0))∧Hid (aJ (S1 (w+1) w2.heap.size) wr a x.ks)∧wr.heap[w.heap.size]? = some (.cells gQ 55 (0,0)))
 case atStart=>exact ⟨I6 _,x,a,c,rs,rfl,HL,hx4,HS4,QX4,HK4,QZ4⟩
 case round =>
  clear HL hx4 HS4 QX4 HK4 QZ4;obtain ⟨hgk,x,a,c,rs,rfl,HL,hx,HR,QX,HK,QZ⟩:=hrel;have hzw:=lt_of_heap QX;obtain ⟨m,rfl⟩:∃ m,gk=m+1:=by
   cases gk with
   | zero=>exact absurd HL.out.symm HF.out
   | succ m=>exact ⟨m,rfl⟩
  have HL2:=HL.out;rw [fI] at HL2;by_cases hs0:(cC lvl rs).1=0
  ·have e:M = .ok (x,rs):=by rw [← HL2,if_pos hs0]
   subst e;have HR2:Hid (aR wr R tb rs o):=by have:=HR.out; rw [nZ hs0] at this; exact this
   have b0:((cC lvl rs).1 != 0)=false:=by simpa using hs0
   obtain ⟨u0,u1,u2,u3,u4,u5,u6⟩:=aN QX;obtain ⟨z0,z1,z2,z3,z4,z5,z6⟩:=aN QZ;obtain ⟨y0,y1,y2,y3,y4,y5,y6⟩:=dT QZ;clear HL HL2 HR HF;go_wp2_with fail
   obtain ⟨QE,hRE,hKE,hbE,_⟩:=gD (w:=w) (cap:=c) QZ HR2.out HK.out hx (I6 _) (fun h=>by have:=h.1; omega) hltR hltT;generalize (((((((wr.setCell (af w 0) x.k).setCell (af w 1) x.v.1).setCell (af w 2) x.v.2.1).setCell (af w 3) x.v.2.2).setCell (af w 4) x.bp).setCell (af w 5) x.name).setCell (af w 6) (.slice a x.ks.length c))=wE at *;obtain ⟨x0,x1,x2,x3,x4,x5,x6⟩:=aN QE
   exact I7 (v:=.agg (bE x a c)) (by simp [results,Tryz.results197,go_sem,x0,x1,x2,x3,x4,x5,x6]) rfl (Ends.cK rfl hbE ⟨a,c,rfl,aJ.mono (fun b h _=>by have:=h.1; show w.heap.size≤b; omega) hKE⟩ hRE)
  ·rw [if_neg hs0] at HL2;have b0:((cC lvl rs).1 != 0)=true:=by simpa using hs0
   have HL3:=ah HL2;have hne:dj m (lvl+1) o (cC lvl rs).2≠eG:=fun hc=>HF.out (by rw [← HL2,hc]; rfl)
   generalize cC lvl rs=sg at *;obtain ⟨sk,ss⟩:=sg;clear HL HL2;go_upto_region 5 with fail
   have hCC:∀ W W':World,W.heap[w2.heap.size]? = some (.cells (bE x a c) 55 (0,0))→Below W W W'→W'.heap[w2.heap.size]? = some (.cells (bE x a c) 55 (0,0)):=fun W W' h hb=>(hb.block _ (lt_of_heap h)).trans h
   have hdr:Below wr wr wr.drew:=(I8 _ _).drew;have CW:=hCC _ _ QX hdr;refine dC (fun W=>W.heap[w2.heap.size]? = some (.cells (bE x a c) 55 (0,0))) 8 bm ?_;refine fP hCC 19 0 sk (fun n hn=>?_) (fun _=>CW) ?_
   ·go_simp
   simp only [Act.put,pA,pB,pC];refine fP hCC 20 1 (.agg (bE x a c)) (fun n hn=>?_) (fun _=>CW) ?_
   ·obtain ⟨u0,u1,u2,u3,u4,u5,u6⟩:=aN hn;go_simp
   simp only [Act.put,pA,pB,pC];refine fP hCC 21 2 (af R 0) (fun n hn=>?_) (fun _=>CW) ?_
   ·go_simp
   simp only [Act.put,pA,pB,pC];refine fP hCC 22 3 lvl (fun n hn=>?_) (fun _=>CW) ?_
   ·go_simp
   simp only [Act.put,pA,pB,pC];refine fP hCC 23 4 (.int .i64 (lvl+1)) (fun n hn=>?_) (fun _=>CW) ?_
   ·go_simp;rw [IntKind.wrap_i64];omega
   simp only [Act.put,pA,pB,pC];refine pJ 5 bm fun w5 hb5=>?_
   have D5:=chain hdr hb5;have CW5:=hCC _ _ CW hb5;have con:=HV.out m ak w5 R tb ss (HR.out.next D5) hne;generalize dj m (lvl+1) o ss=L at *;refine wpOp_step rfl (fun K hK=>?_);go_simp;refine con.mono ?_;rintro e w6 ⟨hb6,hW⟩;clear con;have C6:=(hb6.2 _ (lt_of_heap CW5) ak).trans CW5;have hx6:aj R w w6:=(hx.trans (.of D5 ak)).trans hb6;have hz5:=D5.size;have hz6:=hb6.size;rcases L with ce | ⟨y,r2⟩
   ·obtain ⟨rfl,us,hE⟩:=hW;have e:=HL3.out.symm;subst e;exact ⟨rfl,Ends.err rfl hx6 hE⟩
   obtain ⟨v,rfl,⟨b,d,rfl,hks⟩,hRW⟩:=hW;have HL4:=ah HL3.out;refine hK _ _ ⟨fun _=>C6,?_⟩;clear hK K CW CW5 HL3 hne;refine pJ 6 bm fun w7 hb7=>?_
   have C7:=hCC _ _ C6 hb7;have hal8:=bR w7 (.cells #[x.k,x.v.1,x.v.2.1,x.v.2.2,x.bp,x.name,.slice a x.ks.length c,y.k,y.v.1,y.v.2.1,y.v.2.2,y.bp,y.name,.slice b y.ks.length d] 55);have hz7:=hb7.size;have KX7:aJ (S1 (w+1) w2.heap.size) w7 a x.ks:=aJ.next hb7 (aJ.k1 hb6.k1 (fun h=>by have:=h.1; omega) (aJ.next D5 HK.out))
   have KY7:aJ (S1 (w+1) w2.heap.size) w7 b y.ks:=aJ.next hb7 (aJ.mono (fun b h1 h2=>⟨by have:w5.heap.size≤b:=h1; omega,by have:w5.heap.size≤b:=h1; omega⟩) hks);have K8:Hid (aJ (S1 (w+1) w2.heap.size) (w7.alloc (.cells #[x.k,x.v.1,x.v.2.1,x.v.2.2,x.bp,x.name,.slice a x.ks.length c,y.k,y.v.1,y.v.2.1,y.v.2.2,y.bp,y.name,.slice b y.ks.length d] 55)) (some (af w7 0)) [x,y]):=aJ.two _ KX7 KY7 ⟨by omega,by omega⟩;have C8:=hCC _ _ C7 hal8
   refine wpOp_step rfl (fun K hK=>?_);go_simp;refine hK _ _ ⟨fun _=>C8,?_⟩;clear hK K KX7 KY7 hks;generalize w7.alloc _=w8 at *;refine pJ 7 bm fun w9 hb9=>?_
   have C9:=hCC _ _ C8 hb9;have con9:=gF sk (some (af w7 0)) 2 2 w9;refine wpOp_step rfl (fun K hK=>?_);go_simp;refine cR con9 fun w10 hb10=>?_;have C10:=hCC _ _ C9 hb10;refine hK _ _ ⟨fun _=>C10,?_⟩;clear hK K con9;refine pJ 8 bm fun w11 hb11=>?_
   have C11:=hCC _ _ C10 hb11;have D11:=chain hal8 (chain hb9 (chain hb10 hb11));have D6:=chain hb7 D11;have K11:=aJ.next (chain hb9 (chain hb10 hb11)) K8.out;have R11:=hRW.next D6;have hx11:aj R w w11:=hx6.trans (.of D6 ak);have QZ11:=(D6.block _ ak).trans ((hb6.2 _ ak ak).trans ((D5.block _ ak).trans QZ));obtain ⟨u0,u1,u2,u3,u4,u5,u6⟩:=aN C11
   obtain ⟨y0,y1,y2,y3,y4,y5,y6⟩:=dT C11;obtain ⟨QE,hRE,hKE,hbE,hk1⟩:=gD (w:=w) (x:=nd sk [x,y]) (a:=some ⟨w7,0,none⟩) (cap:=2) C11 R11 K11 hx11 ak (fun h=>h.2 rfl) hltR hltT
   change (((((((w11.setCell (af w2 0) sk).setCell (af w2 1) aB).setCell (af w2 2) aB).setCell (af w2 3) ()).setCell (af w2 4) ()).setCell (af w2 5) ()).setCell (af w2 6) (.slice (some (af w7 0)) 2 2)).heap[w2.heap.size]? = some (.cells #[sk,aB,aB,(),(),(),.slice (some (af w7 0)) 2 2] 55 (0,0)) at QE
   change aR (((((((w11.setCell (af w2 0) sk).setCell (af w2 1) aB).setCell (af w2 2) aB).setCell (af w2 3) ()).setCell (af w2 4) ()).setCell (af w2 5) ()).setCell (af w2 6) (.slice (some (af w7 0)) 2 2)) R tb r2 o at hRE
   change aJ _ (((((((w11.setCell (af w2 0) sk).setCell (af w2 1) aB).setCell (af w2 2) aB).setCell (af w2 3) ()).setCell (af w2 4) ()).setCell (af w2 5) ()).setCell (af w2 6) (.slice (some (af w7 0)) 2 2)) _ _ at hKE
   change aj R w (((((((w11.setCell (af w2 0) sk).setCell (af w2 1) aB).setCell (af w2 2) aB).setCell (af w2 3) ()).setCell (af w2 4) ()).setCell (af w2 5) ()).setCell (af w2 6) (.slice (some (af w7 0)) 2 2)) at hbE
   change aI _ w11 (((((((w11.setCell (af w2 0) sk).setCell (af w2 1) aB).setCell (af w2 2) aB).setCell (af w2 3) ()).setCell (af w2 4) ()).setCell (af w2 5) ()).setCell (af w2 6) (.slice (some (af w7 0)) 2 2)) at hk1;refine wpOp_step rfl (fun K hK=>?_);go_simp
   generalize (((((((w11.setCell (af w2 0) sk).setCell (af w2 1) aB).setCell (af w2 2) aB).setCell (af w2 3) ()).setCell (af w2 4) ()).setCell (af w2 5) ()).setCell (af w2 6) (.slice (some (af w7 0)) 2 2))=wE at *;have QZE:=(hk1.2 _ (lt_of_heap QZ11) ak).trans QZ11;refine hK _ _ ⟨fun h=>by simp at h,?_⟩;clear hK K;refine eJ bm ?_;intro w12 hb12;have QX12:=bH hb12 QE
   have QZ12:=bH hb12 QZE;have K12:=ah (aJ.next hb12 hKE);have R12:=hRE.next hb12;have hx12:aj R w w12:=hbE.trans (.of hb12 (by have:=hbE.size; omega));have con12:=sj R12 lvl;clear QE QZE hKE hRE hbE hk1 C11 C10 C9 C8 C7 C6 u0 u1 u2 u3 u4 u5 u6 y0 y1 y2 y3 y4 y5 y6 R11 K11 QZ11;generalize hsg:cC lvl r2=sg at *;go_wp2_with fail
   refine con12.mono ?_;rintro e w13 ⟨rfl,h13,hb13⟩;have H13:=ah h13;have QX13:=(hb13.2 _ (lt_of_heap QX12) ak).trans QX12;have QZ13:=(hb13.2 _ (lt_of_heap QZ12) ak).trans QZ12;have K13:=ah (aJ.k1 hb13.k1 (fun h=>by have:=h.1; omega) K12.out);have hx13:=hx12.trans hb13;subst hsg;clear con12 h13;go_wp2_with fail
   go_roundg m
   case measure=>omega
   case rel=>exact ⟨by omega,nd sk [x,y],_,2,r2,rfl,HL4,hx13,H13,QX13,K13,QZ13⟩
theorem pS {n:Nat} {o:Int} (hv:mD 197 [.int .i64 5] (cd n 5 o) o):mD 243 [] (b7 (n+1) o) o:=by
 intro w R tb ts h hf;rw [b7] at hf ⊢;have hltR:=h.lt;have hltT:=h.lK;obtain ⟨hal,QZ0⟩:=dZ w gQ 55;have hz':=lt_of_heap QZ0;have con:=hv (w.alloc (.cells gQ 55)) R tb ts (h.next hal) (fun hc=>hf (by rw [hc]; rfl));have HV:=ah hv;generalize hM:aK (cd n 5 o ts) _=M at *;have HF:=ah hf
 have HM:=ah hM;generalize cd n 5 o ts=L at *;clear h hf hM hv;go_enter Tryz.func243,Tryz.ntmps243;go_wp2_with fail
 generalize w.alloc _=w1 at *;refine con.mono ?_;rintro e w2 ⟨hb2,hW⟩;have QZ2:=(hb2.2 _ (lt_of_heap QZ0) ak).trans QZ0;have hx2:aj R w w2:=(aj.of hal ak).trans hb2;have hz2:=hb2.size;clear con;rcases L with c | ⟨x,rs⟩
 ·obtain ⟨rfl,us,hE⟩:=hW;have HE:=ah hE;clear hE;have e:=HM.out.symm;subst e;clear HM HF;go_wp2_with fail
  exact ⟨rfl,Ends.err rfl hx2 HE.out⟩
 obtain ⟨v,rfl,⟨a,c,rfl,hks⟩,hRW⟩:=hW;have HL:Hid ((if bK ⟨#[105,115]⟩ rs=true then fF x (aC rs) else if (cC 4 rs).1=0 then .ok (x,rs) else aK (cd n 5 o (cC 4 rs).2) fun y r2=>.ok (nd (cC 4 rs).1 [x,y],r2))=M):=HM.out;have hal3:=bR w2 (.cells (bE x a c) 55);have QX3:=aD w2 (bE x a c) 55;have HR3:Hid (aR (w2.alloc (.cells (bE x a c) 55)) R tb rs o):=hRW.next hal3
 have HK3:Hid (aJ (S1 (w+1) w2.heap.size) (w2.alloc (.cells (bE x a c) 55)) a x.ks):=aJ.next hal3 (aJ.mono (fun b h1 h2=>⟨by have:w1.heap.size≤b:=h1; omega,by omega⟩) hks);have QZ3:=bH hal3 QZ2;have hx3:aj R w (w2.alloc (.cells (bE x a c) 55)):=hx2.trans (.of hal3 ak);have con4:=aY HR3.out ⟨#[105,115]⟩;clear HM hRW hks QZ0;rcases hi:bK ⟨#[105,115]⟩ rs with _ | _
 case true =>
  rw [hi,cG hi] at con4;have e:fF x (aC rs)=M:=by rw [← HL.out,hi]; rfl
  go_wp2_with fail
  generalize w2.alloc _=w3 at *;refine con4.mono ?_;rintro e' w4 ⟨rfl,h4,hb4⟩;have QX4:=(hb4.2 _ (lt_of_heap QX3) ak).trans QX3;have QZ4:=(hb4.2 _ (lt_of_heap QZ3) ak).trans QZ3;have K4:=aJ.k1 hb4.k1 (fun h=>by have:=h.1; omega) HK3.out;have con5:=xY (c:=c) (B:=w.heap.size+1) h4 (aJ.mono (fun b h _=>h.1) K4) (by have:=lt_of_heap QX4; omega) ak;rw [e] at con5;obtain ⟨u0,u1,u2,u3,u4,u5,u6⟩:=aN QX4;have hx4:=hx3.trans hb4;clear con4 h4 K4 HK3 e HL HF;go_wp2_with fail
  refine con5.mono ?_;rintro e' w5 ⟨hb5,hW⟩;have QZ:=(hb5.2 _ (lt_of_heap QZ4) ak).trans QZ4;clear con5;rcases M with c | ⟨x,rs⟩
  ·obtain ⟨rfl,us,hE⟩:=hW;have HE:Hid (aR w5 R tb us o):=hE;clear hE;go_wp2_with fail
   exact ⟨rfl,Ends.err rfl (hx4.trans hb5) HE.out⟩
  ·obtain ⟨v,rfl,⟨a,cap,rfl,hks⟩,hRW⟩:=hW;obtain ⟨z0,z1,z2,z3,z4,z5,z6⟩:=aN QZ;obtain ⟨y0,y1,y2,y3,y4,y5,y6⟩:=dT QZ;have HRW:Hid (aR w5 R tb rs o):=hRW;have HKW:Hid (df _ w5 a x.ks):=hks;clear hRW hks;go_wp2_with fail
   obtain ⟨QE,hRE,hKE,hbE⟩:=dR (w:=w) (cap:=cap) QZ HRW.out HKW.out (hx4.trans hb5) ak ak hltR hltT;generalize (((((((w5.setCell (af w 0) x.k).setCell (af w 1) x.v.1).setCell (af w 2) x.v.2.1).setCell (af w 3) x.v.2.2).setCell (af w 4) x.bp).setCell (af w 5) x.name).setCell (af w 6) (.slice a x.ks.length cap))=wE at *;obtain ⟨x0,x1,x2,x3,x4,x5,x6⟩:=aN QE
   exact I7 (v:=.agg (bE x a cap)) (by simp [results,Tryz.results243,go_sem,x0,x1,x2,x3,x4,x5,x6]) rfl (Ends.cK rfl hbE ⟨a,cap,rfl,hKE.mono ak⟩ hRE)
 rw [hi,bT hi] at con4;have HL2:Hid ((if (cC 4 rs).1=0 then .ok (x,rs) else aK (cd n 5 o (cC 4 rs).2) fun y r2=>.ok (nd (cC 4 rs).1 [x,y],r2))=M):=by have:=HL.out; rw [hi] at this; exact this
 clear HL;go_wp2_with fail
 generalize w2.alloc _=w3 at *;refine con4.mono ?_;rintro e' w4 ⟨rfl,h4,hb4⟩;have QX4:=(hb4.2 _ (lt_of_heap QX3) ak).trans QX3;have QZ4:=(hb4.2 _ (lt_of_heap QZ3) ak).trans QZ3;have HK4:=ah (aJ.k1 hb4.k1 (fun h=>by have:=h.1; omega) HK3.out);have hx4:=hx3.trans hb4;have con5:=sj h4 4;have H4:=ah h4;clear con4 h4 HK3 QX3 QZ3;generalize hsg:cC 4 rs=sg at *;go_wp2_with fail
 refine con5.mono ?_;rintro e' wr ⟨rfl,h5,hb5⟩;have QX:=(hb5.2 _ (lt_of_heap QX4) ak).trans QX4;have QZ:=(hb5.2 _ (lt_of_heap QZ4) ak).trans QZ4;have HK:=ah (aJ.k1 hb5.k1 (fun h=>by have:=h.1; omega) HK4.out);have hx:=hx4.trans hb5;have HR:=ah h5;have hzw:=lt_of_heap QX;clear con5 h5 QX4 QZ4 HK4;by_cases hs0:sg.1=0
 ·have HR2:Hid (aR wr R tb rs o):=by
   have:=HR.out;rw [← hsg] at this hs0;rw [nZ hs0] at this;exact this
  have e:M = .ok (x,rs):=by rw [← HL2.out,if_pos hs0]
  subst e;have b0:(sg.1 != 0)=false:=by simpa using hs0
  obtain ⟨u0,u1,u2,u3,u4,u5,u6⟩:=aN QX;obtain ⟨z0,z1,z2,z3,z4,z5,z6⟩:=aN QZ;obtain ⟨y0,y1,y2,y3,y4,y5,y6⟩:=dT QZ;clear HL2 HR HF hsg;go_wp2_with fail
  obtain ⟨QE,hRE,hKE,hbE,_⟩:=gD (w:=w) (cap:=c) QZ HR2.out HK.out hx (I6 _) (fun h=>by have:=h.1; omega) hltR hltT;generalize (((((((wr.setCell (af w 0) x.k).setCell (af w 1) x.v.1).setCell (af w 2) x.v.2.1).setCell (af w 3) x.v.2.2).setCell (af w 4) x.bp).setCell (af w 5) x.name).setCell (af w 6) (.slice a x.ks.length c))=wE at *;obtain ⟨x0,x1,x2,x3,x4,x5,x6⟩:=aN QE
  exact I7 (v:=.agg (bE x a c)) (by simp [results,Tryz.results243,go_sem,x0,x1,x2,x3,x4,x5,x6]) rfl (Ends.cK rfl hbE ⟨a,c,rfl,aJ.mono (fun b h _=>by have:=h.1; show w.heap.size≤b; omega) hKE⟩ hRE)
 ·have b0:(sg.1 != 0)=true:=by simpa using hs0
  have HL3:Hid (aK (cd n 5 o sg.2) (fun y r2=>.ok (nd sg.1 [x,y],r2))=M):=by have:=HL2.out; rw [if_neg hs0] at this; exact this
  have hne:cd n 5 o sg.2≠eG:=fun hc=>HF.out (by rw [← HL3.out,hc]; rfl)
  clear HL2 hsg;obtain ⟨sk,ss⟩:=sg;go_upto_region 6 with fail
  have hCC:∀ W W':World,W.heap[w2.heap.size]? = some (.cells (bE x a c) 55 (0,0))→Below W W W'→W'.heap[w2.heap.size]? = some (.cells (bE x a c) 55 (0,0)):=fun W W' h hb=>(hb.block _ (lt_of_heap h)).trans h
  have hdr:Below wr wr wr.drew:=(I8 _ _).drew;have CW:=hCC _ _ QX hdr;refine bX (fun W=>W.heap[w2.heap.size]? = some (.cells (bE x a c) 55 (0,0))) bm ?_;refine cT hCC 16 0 sk (fun n hn=>?_) CW ?_
  ·go_simp
  simp only [Act.put,pA,pB,pC];refine cT hCC 17 1 (.agg (bE x a c)) (fun n hn=>?_) CW ?_
  ·obtain ⟨u0,u1,u2,u3,u4,u5,u6⟩:=aN hn;go_simp
  simp only [Act.put,pA,pB,pC];refine cT hCC 18 2 (af R 0) (fun n hn=>?_) CW ?_
  ·go_simp
  simp only [Act.put,pA,pB,pC];refine pN 3 bm fun w5 hb5=>?_
  have D5:=chain hdr hb5;have CW5:=hCC _ _ CW hb5;have con:=HV.out w5 R tb ss (HR.out.next D5) hne;generalize cd n 5 o ss=L at *;refine wpOp_step rfl (fun K hK=>?_);go_simp;refine con.mono ?_;rintro e w6 ⟨hb6,hW⟩;clear con;have C6:=(hb6.2 _ (lt_of_heap CW5) ak).trans CW5;have hx6:aj R w w6:=(hx.trans (.of D5 ak)).trans hb6;have hz5:=D5.size;have hz6:=hb6.size;rcases L with ce | ⟨y,r2⟩
  ·obtain ⟨rfl,us,hE⟩:=hW;have e:=HL3.out.symm;subst e;exact ⟨rfl,Ends.err rfl hx6 hE⟩
  obtain ⟨v,rfl,⟨b,d,rfl,hks⟩,hRW⟩:=hW;have e:=HL3.out.symm;subst e;refine hK _ _ ⟨C6,?_⟩;clear hK K CW CW5 HL3 hne;refine pN 4 bm fun w7 hb7=>?_
  have C7:=hCC _ _ C6 hb7;have hal8:=bR w7 (.cells #[x.k,x.v.1,x.v.2.1,x.v.2.2,x.bp,x.name,.slice a x.ks.length c,y.k,y.v.1,y.v.2.1,y.v.2.2,y.bp,y.name,.slice b y.ks.length d] 55);have hz7:=hb7.size;have KX7:aJ (S1 (w+1) w2.heap.size) w7 a x.ks:=aJ.next hb7 (aJ.k1 hb6.k1 (fun h=>by have:=h.1; omega) (aJ.next D5 HK.out))
  have KY7:aJ (S1 (w+1) w2.heap.size) w7 b y.ks:=aJ.next hb7 (aJ.mono (fun b h1 h2=>⟨by have:w5.heap.size≤b:=h1; omega,by have:w5.heap.size≤b:=h1; omega⟩) hks);have K8:Hid (aJ (S1 (w+1) w2.heap.size) (w7.alloc (.cells #[x.k,x.v.1,x.v.2.1,x.v.2.2,x.bp,x.name,.slice a x.ks.length c,y.k,y.v.1,y.v.2.1,y.v.2.2,y.bp,y.name,.slice b y.ks.length d] 55)) (some (af w7 0)) [x,y]):=aJ.two _ KX7 KY7 ⟨by omega,by omega⟩;have C8:=hCC _ _ C7 hal8
  refine wpOp_step rfl (fun K hK=>?_);go_simp;refine hK _ _ ⟨C8,?_⟩;clear hK K KX7 KY7 hks;generalize w7.alloc _=w8 at *;refine pN 5 bm fun w9 hb9=>?_
  have C9:=hCC _ _ C8 hb9;have con9:=gF sk (some (af w7 0)) 2 2 w9;refine wpOp_step rfl (fun K hK=>?_);go_simp;refine cR con9 fun w10 hb10=>?_;have C10:=hCC _ _ C9 hb10;refine hK _ _ ⟨C10,?_⟩;clear hK K con9;refine pN 6 bm fun w11 hb11=>?_
  have C11:=hCC _ _ C10 hb11;have D11:=chain hal8 (chain hb9 (chain hb10 hb11));have D6:=chain hb7 D11;have K11:=aJ.next (chain hb9 (chain hb10 hb11)) K8.out;have R11:=hRW.next D6;have hx11:aj R w w11:=hx6.trans (.of D6 ak);have QZ11:=(D6.block _ ak).trans ((hb6.2 _ ak ak).trans ((D5.block _ ak).trans QZ));obtain ⟨u0,u1,u2,u3,u4,u5,u6⟩:=aN QZ11
  obtain ⟨y0,y1,y2,y3,y4,y5,y6⟩:=dT QZ11;obtain ⟨QE,hRE,hKE,hbE,hk1⟩:=gD (w:=w) (x:=nd sk [x,y]) (a:=some ⟨w7,0,none⟩) (cap:=2) QZ11 R11 K11 hx11 (I6 _) (fun h=>by have:=h.1; omega) hltR hltT
  change (((((((w11.setCell (af w 0) sk).setCell (af w 1) aB).setCell (af w 2) aB).setCell (af w 3) ()).setCell (af w 4) ()).setCell (af w 5) ()).setCell (af w 6) (.slice (some (af w7 0)) 2 2)).heap[w.heap.size]? = some (.cells #[sk,aB,aB,(),(),(),.slice (some (af w7 0)) 2 2] 55 (0,0)) at QE
  change aR (((((((w11.setCell (af w 0) sk).setCell (af w 1) aB).setCell (af w 2) aB).setCell (af w 3) ()).setCell (af w 4) ()).setCell (af w 5) ()).setCell (af w 6) (.slice (some (af w7 0)) 2 2)) R tb r2 o at hRE
  change aJ _ (((((((w11.setCell (af w 0) sk).setCell (af w 1) aB).setCell (af w 2) aB).setCell (af w 3) ()).setCell (af w 4) ()).setCell (af w 5) ()).setCell (af w 6) (.slice (some (af w7 0)) 2 2)) _ _ at hKE
  change aj R w (((((((w11.setCell (af w 0) sk).setCell (af w 1) aB).setCell (af w 2) aB).setCell (af w 3) ()).setCell (af w 4) ()).setCell (af w 5) ()).setCell (af w 6) (.slice (some (af w7 0)) 2 2)) at hbE
  change aI _ w11 (((((((w11.setCell (af w 0) sk).setCell (af w 1) aB).setCell (af w 2) aB).setCell (af w 3) ()).setCell (af w 4) ()).setCell (af w 5) ()).setCell (af w 6) (.slice (some (af w7 0)) 2 2)) at hk1;refine wpOp_step rfl (fun K hK=>?_);go_simp
  generalize (((((((w11.setCell (af w 0) sk).setCell (af w 1) aB).setCell (af w 2) aB).setCell (af w 3) ()).setCell (af w 4) ()).setCell (af w 5) ()).setCell (af w 6) (.slice (some (af w7 0)) 2 2))=wE at *;have CE:=(hk1.2 _ (lt_of_heap C11) ak).trans C11;refine hK _ _ ⟨CE,?_⟩;clear hK K;refine eK bm ?_;intro w12 hb12;have QZ12:=bH hb12 QE;have K12:=aJ.next hb12 hKE
  have R12:=hRE.next hb12;have hx12:aj R w w12:=hbE.trans (.of hb12 (by have:=hbE.size; omega));clear u0 u1 u2 u3 u4 u5 u6 y0 y1 y2 y3 y4 y5 y6;obtain ⟨x0,x1,x2,x3,x4,x5,x6⟩:=aN QZ12;have HR12:=ah R12;have HK12:=ah K12;clear R12 K12 hRE hKE;go_wp2_with fail
  exact I7 (v:=.agg (bE (nd sk [x,y]) (some (af w7 0)) 2)) (by simp [results,Tryz.results243,go_sem,x0,x1,x2,x3,x4,x5,x6]; and_intros <;> rfl) rfl (Ends.cK rfl hx12 ⟨_,2,rfl,aJ.mono (fun b h _=>by have:=h.1; show w.heap.size≤b; omega) HK12.out⟩ HR12.out)
theorem AB {n:Nat} {kind o:Int} (hv:mD 164 [] (dy n o) o):mD 246 [.int .i64 kind] (ia (n+1) kind o) o:=by
 intro w R tb ts h hf;rw [ia] at hf ⊢;have hltR:=h.lt;have hltT:=h.lK;obtain ⟨hA,QZ1⟩:=dZ w gQ 55;have hz1:=lt_of_heap QZ1;have h1:=h.next hA;have hal2:Below (w.alloc (.cells gQ 55)).heap.size (w.alloc (.cells gQ 55)) ((w.alloc (.cells gQ 55)).alloc (.cells #[.string ⟨#[40]⟩] 9)):=bR ..;have hst:dh ((w.alloc (.cells gQ 55)).alloc (.cells #[.string ⟨#[40]⟩] 9)) (w+1) 0 [⟨#[40]⟩]:=by
  have:=dh.one (w.alloc (.cells gQ 55)) ⟨#[40]⟩ 9;rw [show (w.alloc (.cells gQ 55)).heap.size=w.heap.size+1 by simp] at this;exact this
 have con:=de (cap:=1) (h1.next hal2) hst ak (by simp);clear hst;have HV:=ah hv;generalize hM:aK (aV [⟨#[40]⟩] ts) _=M at *;have HF:=ah hf;have HM:Hid (aK (aV [⟨#[40]⟩] ts) (fun _ r=>if kind=20∧bK ⟨#[42]⟩ r=true then aK (aV [⟨#[41]⟩] (aC r)) fun _ r2=>.ok (nd 19 [],r2) else aK (dy n o r) fun x r2=>aK (aV [⟨#[41]⟩] r2) fun _ r3=>.ok (nd kind [x],r3))=M):=hM;generalize aV [⟨#[40]⟩] ts=L at *;clear h h1 hf hM hv;go_enter Tryz.func246,Tryz.ntmps246;go_wp2_with fail
 generalize (w.alloc (.cells gQ 55)).alloc (.cells #[.string ⟨#[40]⟩] 9)=w1' at *;generalize w.alloc (.cells gQ 55)=w1 at *;refine con.mono ?_;rintro e w2 ⟨hb2,hW⟩;have hx12:aj R w1 w2:=(aj.of hal2 ak).trans hb2;have QZ2:=(hx12.2 _ (lt_of_heap QZ1) ak).trans QZ1;have hx2:aj R w w2:=(aj.of hA ak).trans hx12;have hz2:=lt_of_heap QZ2;clear con hal2 hb2;rcases L with ce | ⟨u,rs⟩
 ·obtain ⟨rfl,us,hE⟩:=hW;have HE:=ah hE;clear hE;have e:M = .error ce:=HM.out.symm;subst e;clear HM HF;go_wp2_with fail
  exact ⟨rfl,Ends.err rfl hx2 HE.out⟩
 obtain ⟨v,rfl,rfl,hR2⟩:=hW;have HL:Hid ((if kind=20∧bK ⟨#[42]⟩ rs=true then aK (aV [⟨#[41]⟩] (aC rs)) fun _ r2=>.ok (nd 19 [],r2) else aK (dy n o rs) fun x r2=>aK (aV [⟨#[41]⟩] r2) fun _ r3=>.ok (nd kind [x],r3))=M):=HM.out;have HR2:Hid (aR w2 R tb rs o):=hR2;clear HM hR2;by_cases hst:kind=20∧bK ⟨#[42]⟩ rs=true
 case pos =>
  obtain ⟨rfl,hi⟩:=hst;have HL2:Hid (aK (aV [⟨#[41]⟩] (aC rs)) (fun _ r2=>.ok (nd 19 [],r2))=M):=by have:=HL.out; rw [if_pos ⟨rfl,hi⟩] at this; exact this
  have con2:=aY HR2.out ⟨#[42]⟩;rw [hi,cG hi] at con2;clear HL;go_wp2_with fail
  refine con2.mono ?_;rintro e w3 ⟨rfl,h3,hb3⟩;have hal4:=bR w3 (.cells #[.string ⟨#[41]⟩] 9);have con3:=de (cap:=1) (h3.next hal4) (dh.one w3 ⟨#[41]⟩ 9) (by have:=h3.lt; omega) (by simp);have hx3:=hx2.trans hb3;have QZ3:=(hb3.2 _ (lt_of_heap QZ2) ak).trans QZ2;have hz3:=lt_of_heap QZ3;generalize aV [⟨#[41]⟩] (aC rs)=L2 at *;clear con2 h3;go_wp2_with fail
  generalize w3.alloc _=w4 at *;refine con3.mono ?_;rintro e w5 ⟨hb5,hW⟩;have hx35:aj R w3 w5:=(aj.of hal4 ak).trans hb5;have QZ5:=(hx35.2 _ (lt_of_heap QZ3) ak).trans QZ3;have hx5:=hx3.trans hx35;have hz5:=lt_of_heap QZ5;clear con3;rcases L2 with ce | ⟨u2,r2⟩
  ·obtain ⟨rfl,us,hE⟩:=hW;have HE:=ah hE;clear hE;have e:=HL2.out.symm;subst e;clear HL2 HF;go_wp2_with fail
   exact ⟨rfl,Ends.err rfl hx5 HE.out⟩
  obtain ⟨v,rfl,rfl,hR5⟩:=hW;have e:M = .ok (nd 19 [],r2):=HL2.out.symm;subst e;have HR5:Hid (aR w5 R tb r2 o):=hR5;have con6:=gF 19 none 0 0 w5;clear HL2 HF hR5;go_wp2_with fail
  refine cR con6 fun w8 hb8=>?_;have QZ8:=bH hb8 QZ5;obtain ⟨z0,z1,z2,z3,z4,z5,z6⟩:=aN QZ8;obtain ⟨y0,y1,y2,y3,y4,y5,y6⟩:=dT QZ8;have hx8:aj R w w8:=hx5.trans (.of hb8 ak);have HR8:Hid (aR w8 R tb r2 o):=HR5.out.next hb8;clear con6;go_wp2_with fail
  obtain ⟨QE,hRE,hKE,hbE⟩:=dR (w:=w) (x:=nd 19 []) (a:=none) (cap:=0) (B:=w.heap.size+1) QZ8 HR8.out (aJ.nil _) hx8 (I6 _) ak hltR hltT;change (((((((w8.setCell (af w 0) (19:Int)).setCell (af w 1) aB).setCell (af w 2) aB).setCell (af w 3) ()).setCell (af w 4) ()).setCell (af w 5) ()).setCell (af w 6) aL).heap[w.heap.size]? = _ at QE
  change aR (((((((w8.setCell (af w 0) (19:Int)).setCell (af w 1) aB).setCell (af w 2) aB).setCell (af w 3) ()).setCell (af w 4) ()).setCell (af w 5) ()).setCell (af w 6) aL) R tb r2 o at hRE
  change df _ (((((((w8.setCell (af w 0) (19:Int)).setCell (af w 1) aB).setCell (af w 2) aB).setCell (af w 3) ()).setCell (af w 4) ()).setCell (af w 5) ()).setCell (af w 6) aL) _ _ at hKE
  change aj R w (((((((w8.setCell (af w 0) (19:Int)).setCell (af w 1) aB).setCell (af w 2) aB).setCell (af w 3) ()).setCell (af w 4) ()).setCell (af w 5) ()).setCell (af w 6) aL) at hbE
  generalize (((((((w8.setCell (af w 0) (19:Int)).setCell (af w 1) aB).setCell (af w 2) aB).setCell (af w 3) ()).setCell (af w 4) ()).setCell (af w 5) ()).setCell (af w 6) aL)=wE at *;obtain ⟨x0,x1,x2,x3,x4,x5,x6⟩:=aN QE;exact I7 (v:=.agg (bE (nd 19 []) none 0)) (by simp [results,Tryz.results246,go_sem,x0,x1,x2,x3,x4,x5,x6]) rfl (Ends.cK rfl hbE ⟨_,0,rfl,hKE.mono ak⟩ hRE)
 have HL2:Hid (aK (dy n o rs) (fun x r2=>aK (aV [⟨#[41]⟩] r2) fun _ r3=>.ok (nd kind [x],r3))=M):=by have:=HL.out; rw [if_neg hst] at this; exact this
 have hne:dy n o rs≠eG:=fun hc=>HF.out (by rw [← HL2.out,hc]; rfl)
 clear HL;rcases hk:kind == 20 with _ | _
 ·have conx:=HV.out w2 R tb rs HR2.out hne;generalize dy n o rs=L3 at *;go_wp2_with fail
  refine conx.mono ?_;rintro e w5 ⟨hb5,hW⟩;have hx5:=hx2.trans hb5;have QZ5:=(hb5.2 _ (lt_of_heap QZ2) ak).trans QZ2;have hz5:=lt_of_heap QZ5;clear conx hne;rcases L3 with ce | ⟨x,r2⟩
  ·obtain ⟨rfl,us,hE⟩:=hW;have HE:Hid (aR w5 R tb us o):=hE;clear hE;have e:M = .error ce:=HL2.out.symm;subst e;clear HL2 HF;go_wp2_with fail
   exact ⟨rfl,Ends.err rfl hx5 HE.out⟩
  obtain ⟨v,rfl,⟨a,c,rfl,hks⟩,hR5⟩:=hW;have HL3:Hid (aK (aV [⟨#[41]⟩] r2) (fun _ r3=>.ok (nd kind [x],r3))=M):=HL2.out;have hal6:=bR w5 (.cells (bE x a c) 55);have QX6:=aD w5 (bE x a c) 55;have QZ6:=bH hal6 QZ5;have h6:=hR5.next hal6;have HK6:Hid (df (w+1) (w5.alloc (.cells (bE x a c) 55)) a x.ks):=df.next hal6 (df.mono ak hks)
  have hal7:Below (w5.alloc (.cells (bE x a c) 55)).heap.size (w5.alloc (.cells (bE x a c) 55)) ((w5.alloc (.cells (bE x a c) 55)).alloc (.cells #[.string ⟨#[41]⟩] 9)):=bR ..;have hst7:dh ((w5.alloc (.cells (bE x a c) 55)).alloc (.cells #[.string ⟨#[41]⟩] 9)) (w5+1) 0 [⟨#[41]⟩]:=by
   have:=dh.one (w5.alloc (.cells (bE x a c) 55)) ⟨#[41]⟩ 9;rw [show (w5.alloc (.cells (bE x a c) 55)).heap.size=w5.heap.size+1 by simp] at this;exact this
  have con7:=de (cap:=1) (h6.next hal7) hst7 ak (by simp);clear hst7;have hx6:aj R w (w5.alloc (.cells (bE x a c) 55)):=hx5.trans (.of hal6 ak);have hz6:=lt_of_heap QX6;generalize aV [⟨#[41]⟩] r2=L4 at *;clear HL2 hR5 hks h6;go_wp2_with fail
  generalize (w5.alloc (.cells (bE x a c) 55)).alloc (.cells #[.string ⟨#[41]⟩] 9)=w7 at *;generalize w5.alloc (.cells (bE x a c) 55)=w6 at *;refine con7.mono ?_;rintro e w8 ⟨hb8,hW⟩;have hx68:aj R w6 w8:=(aj.of hal7 ak).trans hb8;have hx8:=hx6.trans hx68;have QX8:=(hx68.2 _ (lt_of_heap QX6) ak).trans QX6;have QZ8:=(hx68.2 _ (lt_of_heap QZ6) ak).trans QZ6;have HK8:Hid (df (w+1) w8 a x.ks):=df.k1 hx68.k1 ak HK6.out;have hz8:=lt_of_heap QX8;clear con7;rcases L4 with ce | ⟨u4,r4⟩
  ·obtain ⟨rfl,us,hE⟩:=hW;have HE:Hid (aR w8 R tb us o):=hE;clear hE;have e:M = .error ce:=HL3.out.symm;subst e;clear HL3 HF;go_wp2_with fail
   exact ⟨rfl,Ends.err rfl hx8 HE.out⟩
  obtain ⟨v,rfl,rfl,hR8⟩:=hW;have e:M = .ok (nd kind [x],r4):=HL3.out.symm;subst e;have HR8:Hid (aR w8 R tb r4 o):=hR8;obtain ⟨b0,b1,b2,b3,b4,b5,b6⟩:=aN QX8;have hal9:=bR w8 (.cells (bE x a c) 55);have K9:Hid (df (w+1) (w8.alloc (.cells (bE x a c) 55)) (some (af w8 0)) [x]):=aJ.one _ HK8.out (by show _≤_; omega);have con9:=gF kind (some (af w8 0)) 1 1 (w8.alloc (.cells (bE x a c) 55));clear HL3 HF hR8;go_wp2_with fail
  generalize w8.alloc (.cells (bE x a c) 55)=w9 at *;refine cR con9 fun w10 hb10=>?_;have hb8x:=chain hal9 hb10;have QZ10:=bH hb8x QZ8;obtain ⟨z0,z1,z2,z3,z4,z5,z6⟩:=aN QZ10;obtain ⟨y0,y1,y2,y3,y4,y5,y6⟩:=dT QZ10;have K10:Hid (df (w+1) w10 (some (af w8 0)) [x]):=df.next hb10 K9.out;have hx10:aj R w w10:=hx8.trans (.of hb8x ak);have HR10:Hid (aR w10 R tb r4 o):=HR8.out.next hb8x;clear con9 b0 b1 b2 b3 b4 b5 b6;go_wp2_with fail
  obtain ⟨QE,hRE,hKE,hbE⟩:=dR (w:=w) (x:=nd kind [x]) (a:=some ⟨w8,0,none⟩) (cap:=1) QZ10 HR10.out K10.out hx10 (I6 _) ak hltR hltT;change (((((((w10.setCell (af w 0) kind).setCell (af w 1) aB).setCell (af w 2) aB).setCell (af w 3) ()).setCell (af w 4) ()).setCell (af w 5) ()).setCell (af w 6) (.slice (some (af w8 0)) 1 1)).heap[w.heap.size]? = _ at QE
  change aR (((((((w10.setCell (af w 0) kind).setCell (af w 1) aB).setCell (af w 2) aB).setCell (af w 3) ()).setCell (af w 4) ()).setCell (af w 5) ()).setCell (af w 6) (.slice (some (af w8 0)) 1 1)) R tb r4 o at hRE
  change df _ (((((((w10.setCell (af w 0) kind).setCell (af w 1) aB).setCell (af w 2) aB).setCell (af w 3) ()).setCell (af w 4) ()).setCell (af w 5) ()).setCell (af w 6) (.slice (some (af w8 0)) 1 1)) _ _ at hKE
  change aj R w (((((((w10.setCell (af w 0) kind).setCell (af w 1) aB).setCell (af w 2) aB).setCell (af w 3) ()).setCell (af w 4) ()).setCell (af w 5) ()).setCell (af w 6) (.slice (some (af w8 0)) 1 1)) at hbE
  generalize (((((((w10.setCell (af w 0) kind).setCell (af w 1) aB).setCell (af w 2) aB).setCell (af w 3) ()).setCell (af w 4) ()).setCell (af w 5) ()).setCell (af w 6) (.slice (some (af w8 0)) 1 1))=wE at *;obtain ⟨x0,x1,x2,x3,x4,x5,x6⟩:=aN QE
  exact I7 (v:=.agg (bE (nd kind [x]) (some (af w8 0)) 1)) (by simp [results,Tryz.results246,go_sem,x0,x1,x2,x3,x4,x5,x6]) rfl (Ends.cK rfl hbE ⟨_,1,rfl,hKE.mono ak⟩ hRE)
 ·have hkk:kind=20:=by simpa using hk
  have hi:bK ⟨#[42]⟩ rs=false:=by
   rcases hh:bK ⟨#[42]⟩ rs with _ | _
   ·rfl
   ·exact absurd ⟨hkk,hh⟩ hst
  subst hkk;clear hk hst;have con2:=aY HR2.out ⟨#[42]⟩;rw [hi,bT hi] at con2;go_wp2_with fail
  refine con2.mono ?_;rintro e w3 ⟨rfl,h3,hb3⟩;have HR3:=ah h3;have hx3:=hx2.trans hb3;have QZ3:=(hb3.2 _ (lt_of_heap QZ2) ak).trans QZ2;have hz3:=lt_of_heap QZ3;clear con2 h3;have conx:=HV.out w3 R tb rs HR3.out hne;generalize dy n o rs=L3 at *;go_wp2_with fail
  refine conx.mono ?_;rintro e w5 ⟨hb5,hW⟩;have hx5:=hx3.trans hb5;have QZ5:=(hb5.2 _ (lt_of_heap QZ3) ak).trans QZ3;have hz5:=lt_of_heap QZ5;clear conx hne;rcases L3 with ce | ⟨x,r2⟩
  ·obtain ⟨rfl,us,hE⟩:=hW;have HE:Hid (aR w5 R tb us o):=hE;clear hE;have e:M = .error ce:=HL2.out.symm;subst e;clear HL2 HF;go_wp2_with fail
   exact ⟨rfl,Ends.err rfl hx5 HE.out⟩
  obtain ⟨v,rfl,⟨a,c,rfl,hks⟩,hR5⟩:=hW;have HL3:Hid (aK (aV [⟨#[41]⟩] r2) (fun _ r3=>.ok (nd 20 [x],r3))=M):=HL2.out;have hal6:=bR w5 (.cells (bE x a c) 55);have QX6:=aD w5 (bE x a c) 55;have QZ6:=bH hal6 QZ5;have h6:=hR5.next hal6;have HK6:Hid (df (w+1) (w5.alloc (.cells (bE x a c) 55)) a x.ks):=df.next hal6 (df.mono ak hks)
  have hal7:Below (w5.alloc (.cells (bE x a c) 55)).heap.size (w5.alloc (.cells (bE x a c) 55)) ((w5.alloc (.cells (bE x a c) 55)).alloc (.cells #[.string ⟨#[41]⟩] 9)):=bR ..;have hst7:dh ((w5.alloc (.cells (bE x a c) 55)).alloc (.cells #[.string ⟨#[41]⟩] 9)) (w5+1) 0 [⟨#[41]⟩]:=by
   have:=dh.one (w5.alloc (.cells (bE x a c) 55)) ⟨#[41]⟩ 9;rw [show (w5.alloc (.cells (bE x a c) 55)).heap.size=w5.heap.size+1 by simp] at this;exact this
  have con7:=de (cap:=1) (h6.next hal7) hst7 ak (by simp);clear hst7;have hx6:aj R w (w5.alloc (.cells (bE x a c) 55)):=hx5.trans (.of hal6 ak);have hz6:=lt_of_heap QX6;generalize aV [⟨#[41]⟩] r2=L4 at *;clear HL2 hR5 hks h6;go_wp2_with fail
  generalize (w5.alloc (.cells (bE x a c) 55)).alloc (.cells #[.string ⟨#[41]⟩] 9)=w7 at *;generalize w5.alloc (.cells (bE x a c) 55)=w6 at *;refine con7.mono ?_;rintro e w8 ⟨hb8,hW⟩;have hx68:aj R w6 w8:=(aj.of hal7 ak).trans hb8;have hx8:=hx6.trans hx68;have QX8:=(hx68.2 _ (lt_of_heap QX6) ak).trans QX6;have QZ8:=(hx68.2 _ (lt_of_heap QZ6) ak).trans QZ6;have HK8:Hid (df (w+1) w8 a x.ks):=df.k1 hx68.k1 ak HK6.out;have hz8:=lt_of_heap QX8;clear con7;rcases L4 with ce | ⟨u4,r4⟩
  ·obtain ⟨rfl,us,hE⟩:=hW;have HE:Hid (aR w8 R tb us o):=hE;clear hE;have e:M = .error ce:=HL3.out.symm;subst e;clear HL3 HF;go_wp2_with fail
   exact ⟨rfl,Ends.err rfl hx8 HE.out⟩
  obtain ⟨v,rfl,rfl,hR8⟩:=hW;have e:M = .ok (nd 20 [x],r4):=HL3.out.symm;subst e;have HR8:Hid (aR w8 R tb r4 o):=hR8;obtain ⟨b0,b1,b2,b3,b4,b5,b6⟩:=aN QX8;have hal9:=bR w8 (.cells (bE x a c) 55);have K9:Hid (df (w+1) (w8.alloc (.cells (bE x a c) 55)) (some (af w8 0)) [x]):=aJ.one _ HK8.out (by show _≤_; omega);have con9:=gF 20 (some (af w8 0)) 1 1 (w8.alloc (.cells (bE x a c) 55));clear HL3 HF hR8;go_wp2_with fail
  generalize w8.alloc (.cells (bE x a c) 55)=w9 at *;refine cR con9 fun w10 hb10=>?_;have hb8x:=chain hal9 hb10;have QZ10:=bH hb8x QZ8;obtain ⟨z0,z1,z2,z3,z4,z5,z6⟩:=aN QZ10;obtain ⟨y0,y1,y2,y3,y4,y5,y6⟩:=dT QZ10;have K10:Hid (df (w+1) w10 (some (af w8 0)) [x]):=df.next hb10 K9.out;have hx10:aj R w w10:=hx8.trans (.of hb8x ak);have HR10:Hid (aR w10 R tb r4 o):=HR8.out.next hb8x;clear con9 b0 b1 b2 b3 b4 b5 b6;go_wp2_with fail
  obtain ⟨QE,hRE,hKE,hbE⟩:=dR (w:=w) (x:=nd 20 [x]) (a:=some ⟨w8,0,none⟩) (cap:=1) QZ10 HR10.out K10.out hx10 (I6 _) ak hltR hltT;change (((((((w10.setCell (af w 0) (20:Int)).setCell (af w 1) aB).setCell (af w 2) aB).setCell (af w 3) ()).setCell (af w 4) ()).setCell (af w 5) ()).setCell (af w 6) (.slice (some (af w8 0)) 1 1)).heap[w.heap.size]? = _ at QE
  change aR (((((((w10.setCell (af w 0) (20:Int)).setCell (af w 1) aB).setCell (af w 2) aB).setCell (af w 3) ()).setCell (af w 4) ()).setCell (af w 5) ()).setCell (af w 6) (.slice (some (af w8 0)) 1 1)) R tb r4 o at hRE
  change df _ (((((((w10.setCell (af w 0) (20:Int)).setCell (af w 1) aB).setCell (af w 2) aB).setCell (af w 3) ()).setCell (af w 4) ()).setCell (af w 5) ()).setCell (af w 6) (.slice (some (af w8 0)) 1 1)) _ _ at hKE
  change aj R w (((((((w10.setCell (af w 0) (20:Int)).setCell (af w 1) aB).setCell (af w 2) aB).setCell (af w 3) ()).setCell (af w 4) ()).setCell (af w 5) ()).setCell (af w 6) (.slice (some (af w8 0)) 1 1)) at hbE
  generalize (((((((w10.setCell (af w 0) (20:Int)).setCell (af w 1) aB).setCell (af w 2) aB).setCell (af w 3) ()).setCell (af w 4) ()).setCell (af w 5) ()).setCell (af w 6) (.slice (some (af w8 0)) 1 1))=wE at *;obtain ⟨x0,x1,x2,x3,x4,x5,x6⟩:=aN QE
  exact I7 (v:=.agg (bE (nd 20 [x]) (some (af w8 0)) 1)) (by simp [results,Tryz.results246,go_sem,x0,x1,x2,x3,x4,x5,x6]) rfl (Ends.cK rfl hbE ⟨_,1,rfl,hKE.mono ak⟩ hRE)
set_option maxHeartbeats 4000000
theorem aS {P:Program} {w:World} {ops:Array Oper} {rest:List Oper} {o:Oper} {a:Act} {Q:Exit→Act→World→Prop} (hgd:o.guard=none) (s x:Operand) (t:TypeId)
  (ho:o.op = .call { callee:=.builtin .append,args:=#[s,x],argTypes:=#[t,t] })
  (base:Nat) (e:TypeId) (i:TypeInfo) (z:Value) (size bytes:Nat) (ht:P.underlying t=some (.slice e)) (hi:P.info? e=some i) (hz:i.zero=some z)
  (hsize:i.size=size) (hby:i.bytes=bytes) (hzs:z.cells.size=size) (hsz:0<size)
  (v:Value) (n:Nat) (xs:List Value) (hs:a.eval s=v) (hown:w.ownsRow base e size v n xs)
  (ad:Addr) (m c:Nat) (news:List Value) (hx:a.eval x = .slice (some ad) m c) (hl:news.length=m*size) (hnews:∀ j u,news[j]? = some u→w.cell? (ad.add j)=some u) (h1:∀ u ∈ news,u.oneCell'=true)
  (h63:n+m≤maxLen) (hbytes:(n+m)*bytes≤140737488355328) (hbase:base≤w.heap.size)
  (h:∀ v' w',w'.ownsRow base e size v' (n+m) (xs ++ news)→w.grownBy w' v.ownBlock→(v'.ownBlock=v.ownBlock∨v'.ownBlock=some w.heap.size)→wpList P ops Q rest (a.put o.dst v') w'):wpList P ops Q (o :: rest) a w:=by
 refine wpList_plain hgd fun K hK=>?_
 obtain ⟨v',w',hr,h2,h3,_,h5⟩:=run_append_own_at (P:=P) w base t o.type e i z size bytes ht hi hz hsize hby hzs hsz v n xs hown ad m c news hl hnews h1 h63 hbytes hbase;unfold Oper.wp;simp [execOp,ho,resolve,invoke,builtin,hs,hx,hr,Result.andThen];exact hK _ _ (h v' w' h2 h3 h5)
theorem bG (b off i:Nat):((af b off):Addr).add i=⟨b,off+i,none⟩:=by
 unfold Addr.add; split <;> simp_all
theorem ku {W w1:World} (hb:Below W W w1) (row:Option Nat):W.grownBy w1 row:=⟨hb.os,hb.tape,hb.output,hb.size,fun k hk _=>hb.block k hk⟩
theorem jN {W w1:World} {base e size n:Nat} {v:Value} {xs:List Value} (h:W.ownsRow base e size v n xs) (hb:Below W W w1):w1.ownsRow base e size v n xs:=by
 refine h.kept (ku hb none) ?_;cases v.ownBlock <;> simp
def ay (S:Nat→Prop) (W W':World):Prop:=W.heap.size≤W'.heap.size∧∀ b,S b→b<W.heap.size→W'.heap[b]? = W.heap[b]?
theorem ay.cell {S:Nat→Prop} {W W':World} (h:ay S W W') {b o:Nat} {u:Value} (hb:S b) (hc:W.cell? (af b o)=some u):W'.cell? (af b o)=some u:=by
 have hlt:b<W.heap.size:=by
  rcases Jw b W with h' | h'
  ·exact h'
  ·simp [World.cell?,JF h'] at hc
 rw [Jp (w:=W) (a:=af b o) (h.2 b hb hlt)];exact hc
theorem ay.of {S:Nat→Prop} {W W':World} (h:Below W W W'):ay S W W':=⟨h.size,fun b _ hb=>h.block b hb⟩
theorem ay.trans {S:Nat→Prop} {a b c:World} (h:ay S a b) (k:ay S b c):ay S a c:=⟨Jj h.1 k.1,fun i hi hl=>(k.2 i hi (Ja hl h.1)).trans (h.2 i hi hl)⟩
theorem ay.mono {S S':Nat→Prop} {a b:World} (h:ay S a b) (hs:∀ i,S' i→S i):ay S' a b:=⟨h.1,fun i hi=>h.2 i (hs i hi)⟩
theorem ay.refl (S:Nat→Prop) (a:World):ay S a a:=⟨I6 _,fun _ _ _=>rfl⟩
theorem ay.set {S:Nat→Prop} {a b:World} (h:ay S a b) (g o:Nat) (u:Value) (hg:¬ S g):ay S a (b.setCell (af g o) u) :=
 ⟨by simpa using h.1,fun i hi hl=>(JD b (af g o) u i (by show i≠g; rintro rfl; exact hg hi)).trans (h.2 i hi hl)⟩
def DO (S:Nat→Prop) (v:Value) (W:World) (b:Nat):Prop:=S b∧b<W.heap.size∧v.ownBlock≠some b
def bC {α:Type} (En:(Nat→Prop)→World→α→List Value→Prop) (e size base:Nat) (S:Nat→Prop) (W:World) (v:Value) (l:List α):Prop :=
 ∃ xs,W.ownsRow base e size v l.length xs∧∀ (i:Nat) (h:i<l.length),∃ cs,cs.length=size∧(∀ j,j<size→xs[i*size+j]? = cs[j]?)∧En (DO S v W) W l[i] cs
structure fW {α:Type} (En:(Nat→Prop)→World→α→List Value→Prop):Prop where
 next:∀ {S:Nat→Prop} {W W':World} {x:α} {cs:List Value},ay S W W'→En S W x cs→En S W' x cs
 mono:∀ {S S':Nat→Prop} {W:World} {x:α} {cs:List Value},(∀ b,S b→b<W.heap.size→S' b)→En S W x cs→En S' W x cs
theorem bC.nil {α:Type} (En:(Nat→Prop)→World→α→List Value→Prop) (e size base:Nat) (S:Nat→Prop) (W:World):bC En e size base S W aL [] :=
 ⟨[],by simpa using World.ownsRow_nil _ _ _ _,fun i hi=>by simp at hi⟩
theorem bC.next {α:Type} {En:(Nat→Prop)→World→α→List Value→Prop} (ok:fW En) {e size base:Nat} {S:Nat→Prop} {W W1:World} {v:Value} {l:List α} (h:bC En e size base S W v l) (hb:Below W W W1):bC En e size base S W1 v l:=by
 obtain ⟨xs,h1,h2⟩:=h;refine ⟨xs,jN h1 hb,fun i hi=>?_⟩;obtain ⟨cs,c1,c2,c3⟩:=h2 i hi;exact ⟨cs,c1,c2,ok.mono (fun b hb' _=>⟨hb'.1,Ja hb'.2.1 hb.size,hb'.2.2⟩) (ok.next (ay.of hb) c3)⟩
theorem bC.aM {α:Type} {En:(Nat→Prop)→World→α→List Value→Prop} (ok:fW En) {e size base:Nat} {S:Nat→Prop} {W W1:World} {v:Value} {l:List α} (h:bC En e size base S W v l) (hs:∀ b,base≤b→S b) (hk:ay S W W1):bC En e size base S W1 v l:=by
 obtain ⟨xs,h1,h2⟩:=h;refine ⟨xs,?_,fun i hi=>?_⟩
 ·obtain ⟨h0,⟨h1,h2⟩ | ⟨k,cap,cur,h1,h2,h3,h4⟩⟩:=h1
  ·exact ⟨h0,.inl ⟨h1,h2⟩⟩
  ·exact ⟨h0,.inr ⟨k,cap,cur,h1,h2,(hk.2 k (hs k h2) (lt_of_heap h3)).trans h3,h4⟩⟩
 ·obtain ⟨cs,c1,c2,c3⟩:=h2 i hi;exact ⟨cs,c1,c2,ok.mono (fun b hb' _=>⟨hb'.1,Ja hb'.2.1 hk.1,hb'.2.2⟩) (ok.next (hk.mono fun _ h=>h.1) c3)⟩
theorem bC.len {α:Type} {En:(Nat→Prop)→World→α→List Value→Prop} {e size base:Nat} {S:Nat→Prop} {W:World} {v:Value} {l:List α} (h:bC En e size base S W v l):∃ a cap,v = .slice a l.length cap:=by
 obtain ⟨xs,⟨_,⟨h1,h2⟩ | ⟨k,cap,cur,h1,_⟩⟩,_⟩:=h
 ·exact ⟨none,0,by rw [h1,h2]⟩
 ·exact ⟨_,cap,h1⟩
theorem bC.lt {α:Type} {En:(Nat→Prop)→World→α→List Value→Prop} {e size base:Nat} {S:Nat→Prop} {W:World} {v:Value} {l:List α} (h:bC En e size base S W v l):∀ g,v.ownBlock=some g→base≤g∧g<W.heap.size:=by
 obtain ⟨xs,h1,_⟩:=h;exact h1.lt
theorem bC.push {α:Type} {En:(Nat→Prop)→World→α→List Value→Prop} (ok:fW En) {e size base:Nat} {S:Nat→Prop} {W W1:World} {v v':Value} {l:List α} {xs cs:List Value} {y:α}
  (h1:W.ownsRow base e size v l.length xs) (h2:∀ (i:Nat) (h:i<l.length),∃ cs,cs.length=size∧(∀ j,j<size→xs[i*size+j]? = cs[j]?)∧En (DO S v W) W l[i] cs)
  (hc:cs.length=size) (hy:En (DO S v W) W y cs) (ho:W1.ownsRow base e size v' (l.length+1) (xs ++ cs)) (hg:W.grownBy W1 v.ownBlock) (hd:v'.ownBlock=v.ownBlock∨v'.ownBlock=some W.heap.size):bC En e size base S W1 v' (l ++ [y]):=by
 have hk:ay (DO S v W) W W1:=⟨hg.size,fun b hb hl=>hg.block b hl (fun e=>hb.2.2 e.symm)⟩
 have mv:∀ {x:α} {cs:List Value},En (DO S v W) W x cs→En (DO S v' W1) W1 x cs:=fun h =>
  ok.mono (fun b hb _=>⟨hb.1,Ja hb.2.1 hg.size,fun e=>by
   rcases hd with hd | hd
   ·exact hb.2.2 (hd ▸ e)
   ·rw [hd] at e;have e:=Jt e;have:=hb.2.1;omega⟩) (ok.next hk h)
 have hx:=h1.1;refine ⟨xs ++ cs,by rw [Jf]; exact ho,fun i hi=>?_⟩;by_cases hi':i<l.length
 ·obtain ⟨c,c1,c2,c3⟩:=h2 i hi';refine ⟨c,c1,fun j hj=>?_,by rw [List.getElem_append_left hi']; exact mv c3⟩;rw [List.getElem?_append_left (by rw [hx]; have:(i+1)*size≤l.length*size:=JH _ hi'; rw [Nat.add_mul,Nat.one_mul] at this; omega)];exact c2 j hj
 ·have:i=l.length:=by simp at hi; omega
  subst this;refine ⟨cs,hc,fun j hj=>?_,by simpa using mv hy⟩;rw [List.getElem?_append_right ak,hx]
  congr 1
  omega
theorem bC.fin {α:Type} {En:(Nat→Prop)→World→α→List Value→Prop} (ok:fW En) {e size base:Nat} {S:Nat→Prop} {W:World} {v:Value} {l:List α} (h:bC En e size base S W v l) :
  (l = []∧v = .slice none 0 0)∨∃ g cap,v = .slice (some (af g 0)) l.length cap∧base≤g∧g<W.heap.size∧∀ (i:Nat) (h:i<l.length),∃ cs,cs.length=size∧(∀ j u,cs[j]? = some u→W.cell? ⟨g,i*size+j,none⟩=some u)∧En S W l[i] cs:=by
 obtain ⟨xs,h1,h2⟩:=h;have cells:=fun g hg i u hu=>World.ownsRow.cells h1 (g:=g) hg i u hu
 have hlt:=h1.lt;obtain ⟨hx,⟨e1,e2⟩ | ⟨k,cap,cur,e1,h4⟩⟩:=h1
 ·exact .inl ⟨List.eq_nil_of_length_eq_zero e2,e1⟩
 ·subst e1;have:=hlt k rfl;refine .inr ⟨k,cap,rfl,this.1,this.2,fun i hi=>?_⟩;obtain ⟨cs,c1,c2,c3⟩:=h2 i hi;refine ⟨cs,c1,fun j u hj=>?_,ok.mono (fun b hb _=>hb.1) c3⟩;have hj':j<size:=by
   rcases Jw j cs.length with h | h
   ·omega
   ·rw [Jy h] at hj; cases hj
  have:=cells k rfl (i*size+j) u ((c2 j hj').trans hj)
  rwa [bG,Jm] at this
theorem aI.k {g:Nat} {S:Nat→Prop} {W W':World} (h:aI g W W') (hg:¬ S g):ay S W W':=⟨h.1,fun b hb hl=>h.2 b hl (by rintro rfl; exact hg hb)⟩
theorem aJ.aM {S:Nat→Prop} {W W':World} (hk:ay S W W') {a:Option Addr} {l:List SX} (h:aJ S W a l):aJ S W' a l:=by
 induction h with
 | nil a=>exact .nil a
 | some b off l ai cap hb hlt hc _ ih =>
  have f:∀ o,W'.cell? (af b o)=W.cell? (af b o):=fun o=>Jp (a:=af b o) (hk.2 b hb hlt)
  exact .some b off l ai cap hb (Ja hlt hk.1) (fun i hi=>⟨(f _).trans (hc i hi).c0,(f _).trans (hc i hi).c1,(f _).trans (hc i hi).c2,(f _).trans (hc i hi).c3,(f _).trans (hc i hi).c4,(f _).trans (hc i hi).c5,(f _).trans (hc i hi).c6⟩) ih
def mf (x:SX) (a:Option Addr) (c:Nat):List Value:=[.int .i64 x.k,x.v.1,x.v.2.1,x.v.2.2,x.bp,x.name,.slice a x.ks.length c]
def fu (S:Nat→Prop) (W:World) (x:SX) (cs:List Value):Prop:=∃ a c,cs=mf x a c∧aJ S W a x.ks
theorem b9:fW fu:=⟨fun hk ⟨a,c,e,h⟩=>⟨a,c,e,h.aM hk⟩,fun hs ⟨a,c,e,h⟩=>⟨a,c,e,aJ.mono hs h⟩⟩
theorem Ch {W:World} {g off:Nat} {x:SX} {a:Option Addr} {c:Nat} (h:∀ j u,(mf x a c)[j]? = some u→W.cell? ⟨g,off+j,none⟩=some u):qF W g off x a c :=
 ⟨h 0 _ rfl,h 1 _ rfl,h 2 _ rfl,h 3 _ rfl,h 4 _ rfl,h 5 _ rfl,h 6 _ rfl⟩
theorem bC.Da {e base:Nat} {S:Nat→Prop} {W:World} {v:Value} {l:List SX} (h:bC fu e 7 base S W v l) (hs:∀ b,base≤b→S b):∃ a cap,v = .slice a l.length cap∧aJ S W a l:=by
 rcases h.fin b9 with ⟨rfl,rfl⟩ | ⟨g,cap,rfl,h1,h2,h3⟩
 ·exact ⟨none,0,rfl,.nil _⟩
 ·refine ⟨_,cap,rfl,?_⟩;have:∀ i:Nat,∃ (a:Option Addr) (c:Nat),∀ h:i<l.length,qF W g (0+i*7) l[i] a c∧aJ S W a l[i].ks:=fun i=>by
   by_cases hi:i<l.length
   ·obtain ⟨cs,_,c2,a,c,rfl,hk⟩:=h3 i hi;exact ⟨a,c,fun _=>⟨Ch (by simpa using c2),hk⟩⟩
   ·exact ⟨none,0,fun h=>absurd h hi⟩
  obtain ⟨ai,ha⟩:=Classical.axiomOfChoice this;obtain ⟨ci,hc⟩:=Classical.axiomOfChoice ha;exact .some g 0 l ai ci (hs g h1) h2 (fun i hi=>(hc i hi).1) (fun i hi=>(hc i hi).2)
theorem ve:(Tryz.prog.info? 55).map (fun i=>(i.zero,i.size,i.bytes))=some (some (.agg gQ),7,96):=by kernel_rfl
theorem info_parts {P:Program} {t:TypeId} {z:Option Value} {s b:Nat} (h:(P.info? t).map (fun i=>(i.zero,i.size,i.bytes))=some (z,s,b)):∃ i,P.info? t=some i∧i.zero=z∧i.size=s∧i.bytes=b:=by
 rcases hi:P.info? t with _ | i
 ·rw [hi] at h; cases h
 ·rw [hi] at h;simp only [Option.map_some,Option.some.injEq,Prod.mk.injEq] at h;exact ⟨i,rfl,h.1,h.2.1,h.2.2⟩
def IG (B:Nat) (W:World) (v:Value) (l:List SX):Prop:=∃ a cap,v = .slice a l.length cap∧df B W a l
theorem aR.low {B:Nat} {W w1:World} {R tb:Nat} {ts:List Tk} {o:Int} (h:aR W R tb ts o) (hb:Below B W w1) (h1:R<B) (h2:tb<B):aR w1 R tb ts o:=by
 obtain ⟨off,cap,e1,e2,e3⟩:=h.ex;have f:∀ k o,k<B→w1.cell? (af k o)=W.cell? (af k o):=fun k o hk=>Jp (a:=af k o) (hb.block k hk)
 have:=h.r2;exact ⟨⟨off,cap,(hb.block _ h1).trans e1,e2,⟨Ja e3.lt hb.size,fun i hi=>(f _ _ h2).trans (e3.c0 i hi),fun i hi=>(f _ _ h2).trans (e3.c1 i hi),fun i hi=>(f _ _ h2).trans (e3.c2 i hi)⟩⟩,h.ne,h.iU,h.small,⟨Ja h.gl.lt hb.size,fun j hj=>(f 1 j ak).trans (h.gl.inf j hj),fun j hj=>(f 0 j ak).trans (h.gl.sig j hj)⟩,h.r2⟩
theorem aj.low {t B:Nat} {a b c:World} (h:aj t a b) (k:Below B b c) (hB:a.heap.size≤B) (ht:t≤B):aj t a c :=
 ⟨h.1.trans (k.mono ht),fun i hi hn=>(k.block i ak).trans (h.2 i hi hn)⟩
theorem na {n:Nat} {o:Int} (hv:∀ m,m≤n→mD 164 [] (dy m o) o) {w:World} {R tb b cap:Nat} {ts:List Tk} {s:ByteArray} {l:List ByteArray} (h:aR w R tb ts o) (hs:dh w b 0 (s :: l)) (hb:b≠R) (hl:1≤l.length∧l.length≤3) (hcap:l.length+1≤cap) (hf:cB (n+1) o (s :: l) ts≠eG) :
  Calls Tryz.prog 245 #[af R 0,.slice (some (af b 0)) (s :: l).length cap] w (Ends R tb o w (IG w) (cB (n+1) o (s :: l) ts)):=by
 rw [cB] at hf ⊢;obtain ⟨i0,hi,hj0,hj1,hj2⟩:=info_parts ve;have hltR:=h.lt;have hltT:=h.lK;have hltb:=hs.lt;have s0:=hs.c 0 (by simp);have hal1:=bR w (.cells #[s] 9);have con:=de (cap:=1) (h.next hal1) (dh.one w s 9) ak (by simp);have HV:=ah hv;have HS:=ah hs;generalize hM:aK (aV [s] ts) (fun _ r=>dk n o l [] r)=M at *;have HF:=ah hf
 have HM:=ah hM;generalize aV [s] ts=L at *;have hlz:(0:Int)<((s :: l).length:Int):=by simp
 clear h hf hM hv hs;go_enter Tryz.func245,Tryz.ntmps245;go_wp2_with fail
 generalize w.alloc _=w1 at *;refine con.mono ?_;rintro e w2 ⟨hb2,hW⟩;have hx2:aj R w w2:=(aj.of hal1 ak).trans hb2;clear con s0;rcases L with ce | ⟨u,rs⟩
 ·obtain ⟨rfl,us,hE⟩:=hW;have HE:=ah hE;clear hE;have e:=HM.out.symm;subst e;clear HM HF;go_wp2_with fail
  exact ⟨rfl,Ends.err rfl hx2 HE.out⟩
 obtain ⟨v,rfl,rfl,hR2⟩:=hW;have HL:=ah HM.out;have HR2:=ah hR2;clear HM hR2 hlz;have hcap1:¬ cap=1:=by omega
 have hz2:=hx2.size;go_wp2_with fail
 go_loopg [5,17] n (fun m ow iv wr=>m≤n∧∃ (ov:Value) (k:Nat) (acc:List SX) (us:List Tk),ov=ow∧iv = .int .i64 k∧k≤l.length∧Hid (dk m o (l.drop k) acc us=M)∧aj R w wr∧Hid (aR wr R tb us o)∧Hid (acc.length=k)∧Hid (bC fu 55 7 w.heap.size (fun b=>w.heap.size≤b) wr ov acc))
 case atStart=>exact ⟨I6 _,_,0,[],rs,rfl,rfl,Jc _,HL,hx2,HR2,rfl,bC.nil _ _ _ _ _ _⟩
 case round =>
  clear HL hx2 HR2 hz2;obtain ⟨hgk,ov,k,acc,us,rfl,rfl,hk,HL,hx,HR,hacc,HO⟩:=hrel;obtain ⟨m,rfl⟩:∃ m,gk=m+1:=by
   cases gk with
   | zero=>exact absurd (by have:=HL.out; rw [dk] at this; exact this.symm) HF.out
   | succ m=>exact ⟨m,rfl⟩
  have hzr:=hx.size;have HL2:=HL.out;by_cases hlt:k<l.length
  ·have hkz:(k:Int)<(l.length:Int):=by omega
   rw [I9 hlt,dk] at HL2;have c0:wr.cell? ⟨b,1+k,none⟩=some (.string l[k]):=by
    have:=(HS.out.kF hx hb).c (k+1) (by simp; omega);rw [show 0+(k+1)=1+k by omega] at this
    simpa using this
   have hne:dy m o us≠eG:=fun hc=>HF.out (by rw [← HL2,hc]; rfl)
   have con:=HV.out m ak wr R tb us HR.out hne;have HL3:=ah HL2;generalize dy m o us=L at *;clear HL HL2 hne HR;go_wp2_with fail
   refine con.mono ?_;rintro e w3 ⟨hb3,hW⟩;have hx3:=hx.trans hb3;have hz3:=hb3.size;clear con;rcases L with ce | ⟨x,r3⟩
   ·obtain ⟨rfl,us',hE⟩:=hW;have HE:=ah hE;clear hE;have e:M = .error ce:=HL3.out.symm;subst e;clear HL3 HF;go_wp2_with fail
    exact ⟨rfl,Ends.err rfl hx3 HE.out⟩
   obtain ⟨v,rfl,⟨a,c,rfl,hks⟩,hR3⟩:=hW;have HR3:Hid (aR w3 R tb r3 o):=hR3;have HL4:Hid (aK (aV [l[k]] r3) (fun _ r2=>dk m o (l.drop (k+1)) (acc ++ [x]) r2)=M):=HL3.out;have hal4:=bR w3 (.cells #[x.k,x.v.1,x.v.2.1,x.v.2.2,x.bp,x.name,.slice a x.ks.length c] 55);have q4:=aD w3 #[x.k,x.v.1,x.v.2.1,x.v.2.2,x.bp,x.name,.slice a x.ks.length c] 55
   have O3:bC fu 55 7 w.heap.size (fun b=>w.heap.size≤b) w3 ov acc:=HO.out.aM b9 (fun _ h=>h) (hb3.k1.k (by show ¬ w.heap.size≤R; omega));have hnb:=HO.out.lt;obtain ⟨ys,o4,en4⟩:=O3.next b9 hal4;have HKS:Hid (df wr (w3.alloc (.cells #[x.k,x.v.1,x.v.2.1,x.v.2.2,x.bp,x.name,.slice a x.ks.length c] 55)) a x.ks):=df.next hal4 hks
   have EN4:Hid (∀ (i:Nat) (h:i<acc.length),∃ cs,cs.length=7∧(∀ j,j<7→ys[i*7+j]? = cs[j]?)∧fu (DO (fun b=>w.heap.size≤b) ov (w3.alloc (.cells #[x.k,x.v.1,x.v.2.1,x.v.2.2,x.bp,x.name,.slice a x.ks.length c] 55))) (w3.alloc (.cells #[x.k,x.v.1,x.v.2.1,x.v.2.2,x.bp,x.name,.slice a x.ks.length c] 55)) acc[i] cs):=en4;clear hR3 HL3 hks O3 en4 c0
   go_wp2_with (first | (at_builtin; refine aS rfl _ _ 48 rfl w 55 i0 _ 7 96 Tryz.underlying48 hi hj0 hj1 hj2 rfl (by decide) _ _ _ rfl o4 (af w3 0) 1 1 (mf x a c) rfl rfl ?Ac1 ?Ac2 ?Ac3 ?Ac4 ?Ac5 ?_))
   case Ac1 =>
    intro i u hu;have:i<7:=by
     rcases Jw i 7 with h | h
     ·exact h
     ·rw [Jy (by simpa [mf] using h)] at hu; cases hu
    rw [bG,Jm];exact cell_of (i:=i) q4 (by rw [← hu]; simp [mf])
   case Ac2=>intro u hu; simp [mf] at hu; rcases hu with rfl | rfl | rfl | rfl | rfl | rfl | rfl <;> rfl
   case Ac3=>unfold maxLen; have:=hacc.out; omega
   case Ac4=>have:=hacc.out; omega
   case Ac5=>have:=hacc.out; have:=hal4.size; omega
   intro v' w5 o5 g5 hd5;have z5:=g5.size;have hz4:=hal4.size;have O5:Hid (bC fu 55 7 w.heap.size (fun b=>w.heap.size≤b) w5 v' (acc ++ [x])):=bC.push b9 o4 EN4.out rfl ⟨a,c,rfl,aJ.mono (fun b h1 h2=>⟨by have:wr.heap.size≤b:=h1; show w.heap.size≤b; omega,h2,fun e=>by have:=(hnb b e).2; have:wr.heap.size≤b:=h1; omega⟩) HKS.out⟩ o5 g5 (by simpa using hd5);have D5:Below w w3 w5:=(hal4.mono ak).trans ((I8 _ _).grown g5 ak (fun q hq=>by have:=(hnb q hq).1; omega));have hx5:aj R w w5:=hx3.low D5 (I6 _) ak
   have h5:=HR3.out.low D5 hltR hltT;have hal6:=bR w5 (.cells #[.string l[k]] 9);have con6:=de (cap:=1) (h5.next hal6) (dh.one w5 l[k] 9) ak (by simp);generalize aV [l[k]] r3=L6 at *;clear o4 EN4 o5 g5 hd5 HO HKS q4 h5 HR3 hal4;go_wp2_with fail
   generalize w5.alloc (.cells #[.string l[k]] 9)=w6 at *;refine con6.mono ?_;rintro e w7 ⟨hb7,hW⟩;have hx57:aj R w5 w7:=(aj.of hal6 ak).trans hb7;have hx7:=hx5.trans hx57;have O7:Hid (bC fu 55 7 w.heap.size (fun b=>w.heap.size≤b) w7 v' (acc ++ [x])):=O5.out.aM b9 (fun _ h=>h) (hx57.k1.k (by show ¬ w.heap.size≤R; omega));clear con6;rcases L6 with ce | ⟨u6,r6⟩
   ·obtain ⟨rfl,us',hE⟩:=hW;have HE:Hid (aR w7 R tb us' o):=hE;clear hE;have e:M = .error ce:=HL4.out.symm;subst e;clear HL4 HF;go_wp2_with fail
    exact ⟨rfl,Ends.err rfl hx7 HE.out⟩
   obtain ⟨v,rfl,rfl,hR7⟩:=hW;have HL5:Hid (dk m o (l.drop (k+1)) (acc ++ [x]) r6=M):=HL4.out;have HR7:Hid (aR w7 R tb r6 o):=hR7;clear HL4 hR7;go_wp2_with fail
   go_roundg m
   case measure=>omega
   case rel=>exact ⟨by omega,_,k+1,acc ++ [x],r6,rfl,by go_num,by omega,HL5,hx7,HR7,by show _=_; simp [hacc.out],O7⟩
  ·have hkz:¬ (k:Int)<(l.length:Int):=by omega
   rw [Jh ak,dk] at HL2;subst HL2;obtain ⟨av,cv,rfl,hks⟩:=HO.out.Da (fun _ h=>h);have HK:=ah hks;clear HL HF hks HO;go_wp2_with fail
   refine I7 (v:=.slice av acc.length cv) (by simp [results,Tryz.results245,go_sem]) rfl ?_;exact Ends.cK rfl hx ⟨av,cv,rfl,HK.out⟩ HR.out
theorem p7 {w:World} {R tb:Nat} {ts:List Tk} {o:Int} (h:aR w R tb ts o):Calls Tryz.prog 247 #[af R 0] w (Ends R tb o w (VX w) (dD ts)):=by
 have hltR:=h.lt;have hltT:=h.lK;obtain ⟨hal,QZ0⟩:=dZ w gQ 55;have hz':=lt_of_heap QZ0;have con:=iA (h.next hal);generalize hM:dD ts=M;have HM:Hid (aK (dt ts) (fun n r=>if bK ⟨#[46]⟩ r=true then aK (dt (aC r)) fun m r2=>.ok (.mk 2 v0 n m [],r2) else .ok (.mk 2 v0 eB n [],r))=M):=hM;generalize dt ts=L at *;clear h hM;go_enter Tryz.func247,Tryz.ntmps247;go_wp2_with fail
 generalize w.alloc (.cells gQ 55)=w1 at *;refine con.mono ?_;rintro e w2 ⟨hb2,hW⟩;have QZ2:=(hb2.2 _ (lt_of_heap QZ0) ak).trans QZ0;have hx2:aj R w w2:=(aj.of hal ak).trans hb2;have hz2:=lt_of_heap QZ2;clear con;rcases L with ce | ⟨nm,rs⟩
 ·obtain ⟨rfl,us,hE⟩:=hW;have HE:Hid (aR w2 R tb us o):=hE;clear hE;have e:M = .error ce:=HM.out.symm;subst e;clear HM;go_wp2_with fail
  exact ⟨rfl,Ends.err rfl hx2 HE.out⟩
 obtain ⟨v,rfl,rfl,hR2⟩:=hW;have HL:Hid ((if bK ⟨#[46]⟩ rs=true then aK (dt (aC rs)) fun m r2=>.ok (.mk 2 v0 nm m [],r2) else .ok (.mk 2 v0 eB nm [],rs))=M):=HM.out;have hal3:=bR w2 (.cells #[(2:Int),aB,aB,(),(),nm,aL] 55);have QX3:=aD w2 #[(2:Int),aB,aB,(),(),nm,aL] 55;have QZ3:=bH hal3 QZ2
 have hx3:aj R w (w2.alloc (.cells #[(2:Int),aB,aB,(),(),nm,aL] 55)):=hx2.trans (.of hal3 ak);have hz3:=lt_of_heap QX3;have con4:=aY (hR2.next hal3) ⟨#[46]⟩;clear HM hR2;rcases hi:bK ⟨#[46]⟩ rs with _ | _
 ·rw [hi,bT hi] at con4;have e:M = .ok (.mk 2 v0 eB nm [],rs):=by rw [← HL.out,hi]; rfl
  subst e;clear HL;go_wp2_with fail
  generalize w2.alloc (.cells #[(2:Int),aB,aB,(),(),nm,aL] 55)=w3 at *;refine con4.mono ?_;rintro e' w4 ⟨rfl,h4,hb4⟩;have QX4:=(hb4.2 _ (lt_of_heap QX3) ak).trans QX3;have QZ4:=(hb4.2 _ (lt_of_heap QZ3) ak).trans QZ3;have hx4:=hx3.trans hb4;have HR4:Hid (aR w4 R tb rs o):=h4;obtain ⟨u0,u1,u2,u3,u4,u5,u6⟩:=aN QX4;obtain ⟨z0,z1,z2,z3,z4,z5,z6⟩:=aN QZ4;obtain ⟨y0,y1,y2,y3,y4,y5,y6⟩:=dT QZ4;clear con4 h4;go_wp2_with fail
  obtain ⟨QE,hRE,hKE,hbE⟩:=dR (w:=w) (x:=.mk 2 v0 eB nm []) (a:=none) (cap:=0) (B:=w.heap.size+1) QZ4 HR4.out (aJ.nil _) hx4 (I6 _) ak hltR hltT;change (((((((w4.setCell (af w 0) (2:Int)).setCell (af w 1) aB).setCell (af w 2) aB).setCell (af w 3) ()).setCell (af w 4) ()).setCell (af w 5) nm).setCell (af w 6) aL).heap[w.heap.size]? = _ at QE
  change aR (((((((w4.setCell (af w 0) (2:Int)).setCell (af w 1) aB).setCell (af w 2) aB).setCell (af w 3) ()).setCell (af w 4) ()).setCell (af w 5) nm).setCell (af w 6) aL) R tb rs o at hRE
  change df _ (((((((w4.setCell (af w 0) (2:Int)).setCell (af w 1) aB).setCell (af w 2) aB).setCell (af w 3) ()).setCell (af w 4) ()).setCell (af w 5) nm).setCell (af w 6) aL) _ _ at hKE
  change aj R w (((((((w4.setCell (af w 0) (2:Int)).setCell (af w 1) aB).setCell (af w 2) aB).setCell (af w 3) ()).setCell (af w 4) ()).setCell (af w 5) nm).setCell (af w 6) aL) at hbE
  generalize (((((((w4.setCell (af w 0) (2:Int)).setCell (af w 1) aB).setCell (af w 2) aB).setCell (af w 3) ()).setCell (af w 4) ()).setCell (af w 5) nm).setCell (af w 6) aL)=wE at *;obtain ⟨x0,x1,x2,x3,x4,x5,x6⟩:=aN QE;exact I7 (v:=.agg (bE (.mk 2 v0 eB nm []) none 0)) (by simp [results,Tryz.results247,go_sem,x0,x1,x2,x3,x4,x5,x6]) rfl (Ends.cK rfl hbE ⟨_,0,rfl,hKE.mono ak⟩ hRE)
 ·rw [hi,cG hi] at con4;have HL2:Hid (aK (dt (aC rs)) (fun m r2=>.ok (.mk 2 v0 nm m [],r2))=M):=by have:=HL.out; rw [hi] at this; exact this
  clear HL;go_wp2_with fail
  generalize w2.alloc _=w3 at *;refine con4.mono ?_;rintro e' wr ⟨rfl,h4,hb4⟩;have QX:=(hb4.2 _ (lt_of_heap QX3) ak).trans QX3;have QZ:=(hb4.2 _ (lt_of_heap QZ3) ak).trans QZ3;have hx:=hx3.trans hb4;have HR:=ah h4;have hzw:=lt_of_heap QX;clear con4 h4;go_upto_region 3 with fail
  have hCC:∀ W W':World,W.heap[w2.heap.size]? = some (.cells #[(2:Int),aB,aB,(),(),nm,aL] 55 (0,0))→Below W W W'→W'.heap[w2.heap.size]? = some (.cells #[(2:Int),aB,aB,(),(),nm,aL] 55 (0,0)):=fun W W' h hb=>(hb.block _ (lt_of_heap h)).trans h
  have hdr:Below wr wr wr.drew:=(I8 _ _).drew;have CW:=hCC _ _ QX hdr;refine dC (fun W=>W.heap[w2.heap.size]? = some (.cells #[(2:Int),aB,aB,(),(),nm,aL] 55 (0,0))) 5 bm ?_;refine fP hCC 9 0 (af w2 5) (fun n hn=>?_) (fun _=>CW) ?_
  ·go_simp
  simp only [Act.put,pA,pB,pC];refine fP hCC 10 1 nm (fun n hn=>?_) (fun _=>CW) ?_
  ·have u5:=cell_of (i:=5) hn rfl;go_simp
  simp only [Act.put,pA,pB,pC];refine fP hCC 11 2 (af R 0) (fun n hn=>?_) (fun _=>CW) ?_
  ·go_simp
  simp only [Act.put,pA,pB,pC];refine fP hCC 13 4 (af w2 4) (fun n hn=>?_) (fun _=>CW) ?_
  ·go_simp
  simp only [Act.put,pA,pB,pC];refine pJ 3 bm fun w5 hb5=>?_
  have D5:=chain hdr hb5;have CW5:=hCC _ _ CW hb5;have con:=iA (HR.out.next D5);generalize dt (aC rs)=L at *;refine wpOp_step rfl (fun K hK=>?_);go_simp;refine con.mono ?_;rintro e w6 ⟨hb6,hW⟩;clear con;have C6:=(hb6.2 _ (lt_of_heap CW5) ak).trans CW5;have hx6:aj R w w6:=(hx.trans (.of D5 ak)).trans hb6;have hz5:=D5.size;have hz6:=hb6.size;have QZ6:=(hb6.2 _ ak ak).trans ((D5.block _ ak).trans QZ);rcases L with ce | ⟨n2,r2⟩
  ·obtain ⟨rfl,us,hE⟩:=hW;have e:=HL2.out.symm;subst e;exact ⟨rfl,Ends.err rfl hx6 hE⟩
  obtain ⟨v,rfl,rfl,hR6⟩:=hW;have e:=HL2.out.symm;subst e;refine hK _ _ ⟨fun _=>C6,?_⟩;clear hK K CW CW5 HL2;refine pJ 5 bm fun w7 hb7=>?_
  have C7:=hCC _ _ C6 hb7;have c4:=cell_of (i:=4) C7 rfl;have f4:=I0 w7 w2 4 _ _ C7;have H8:=I5 w7 w2 4 _ _ nm C7;have K8:aI w2 w7 (w7.setCell (af w2 4) nm):=(aI.refl _ _).set _ _;have hx7:aj R w w7:=hx6.trans (.of hb7 ak);have hx8:aj R w (w7.setCell (af w2 4) nm):=hx7.aW _ _ _ ak ak;have R8:=(hR6.next hb7).k1 K8 ak ak (by have:=HR.out.r2; omega)
  refine wpOp_step rfl (fun K hK=>?_);go_simp;generalize w7.setCell (af w2 4) nm=w8 at *;refine hK _ _ ⟨fun h=>absurd h (by decide),?_⟩;clear hK K c4 f4;refine pJ 6 bm fun w9 hb9=>?_
  refine wpOp_step rfl (fun K hK=>?_);go_simp;refine hK _ _ ⟨fun h=>absurd h (by decide),?_⟩;clear hK K;refine pJ 7 bm fun w10 hb10=>?_
  have D10:=chain hb9 hb10;have H10:=bH D10 H8;have c5:=cell_of (i:=5) H10 rfl;have f5:=I0 w10 w2 5 _ _ H10;have H11:=I5 w10 w2 5 _ _ n2 H10;have K11:aI w2 w10 (w10.setCell (af w2 5) n2):=(aI.refl _ _).set _ _;have hx11:aj R w (w10.setCell (af w2 5) n2):=(hx8.trans (.of D10 (by have:=hx8.size; omega))).aW _ _ _ ak ak
  have R11:=(R8.next D10).k1 K11 ak ak (by have:=HR.out.r2; omega);have QZ7:=(hb7.block _ ak).trans QZ6;have QZ8:=(K8.2 _ (by have:=hb7.size; omega) ak).trans QZ7;have QZ11:=(K11.2 _ (by have:=D10.size; have:=K8.1; have:=hb7.size; omega) ak).trans ((D10.block _ (by have:=K8.1; have:=hb7.size; omega)).trans QZ8);refine wpOp_step rfl (fun K hK=>?_);go_simp;generalize w10.setCell (af w2 5) n2=w11 at *;refine hK _ _ ⟨fun h=>absurd h (by decide),?_⟩;clear hK K c5 f5;refine eJ bm ?_;intro w12 hb12
  have QX12:=bH hb12 H11;have QZ12:=bH hb12 QZ11;have hx12:aj R w w12:=hx11.trans (.of hb12 (by have:=hx11.size; omega));have HR12:=ah (R11.next hb12);obtain ⟨u0,u1,u2,u3,u4,u5,u6⟩:=aN QX12;obtain ⟨z0,z1,z2,z3,z4,z5,z6⟩:=aN QZ12;obtain ⟨y0,y1,y2,y3,y4,y5,y6⟩:=dT QZ12;clear R8 R11 hR6;go_wp2_with fail
  obtain ⟨QE,hRE,hKE,hbE⟩:=dR (w:=w) (x:=.mk 2 v0 nm n2 []) (a:=none) (cap:=0) (B:=w.heap.size+1) QZ12 HR12.out (aJ.nil _) hx12 (I6 _) ak hltR hltT;change (((((((w12.setCell (af w 0) (2:Int)).setCell (af w 1) aB).setCell (af w 2) aB).setCell (af w 3) ()).setCell (af w 4) nm).setCell (af w 5) n2).setCell (af w 6) aL).heap[w.heap.size]? = _ at QE
  change aR (((((((w12.setCell (af w 0) (2:Int)).setCell (af w 1) aB).setCell (af w 2) aB).setCell (af w 3) ()).setCell (af w 4) nm).setCell (af w 5) n2).setCell (af w 6) aL) R tb r2 o at hRE
  change df _ (((((((w12.setCell (af w 0) (2:Int)).setCell (af w 1) aB).setCell (af w 2) aB).setCell (af w 3) ()).setCell (af w 4) nm).setCell (af w 5) n2).setCell (af w 6) aL) _ _ at hKE
  change aj R w (((((((w12.setCell (af w 0) (2:Int)).setCell (af w 1) aB).setCell (af w 2) aB).setCell (af w 3) ()).setCell (af w 4) nm).setCell (af w 5) n2).setCell (af w 6) aL) at hbE
  generalize (((((((w12.setCell (af w 0) (2:Int)).setCell (af w 1) aB).setCell (af w 2) aB).setCell (af w 3) ()).setCell (af w 4) nm).setCell (af w 5) n2).setCell (af w 6) aL)=wE at *;obtain ⟨x0,x1,x2,x3,x4,x5,x6⟩:=aN QE;exact I7 (v:=.agg (bE (.mk 2 v0 nm n2 []) none 0)) (by simp [results,Tryz.results247,go_sem,x0,x1,x2,x3,x4,x5,x6]) rfl (Ends.cK rfl hbE ⟨_,0,rfl,hKE.mono ak⟩ hRE)
end Go.Proofs.YtoknmnngaackkaaGreatDoor
namespace Go.Proofs
open Go.Shelf
set_option maxRecDepth 100000
set_option maxHeartbeats 16000000
shelf_lay LaysC.n174 Nm 174 at Tryz as Tryz.parseI
end Go.Proofs
namespace Go.Proofs.YtoknmnngaackkaaGreatDoor
open Go.RowKit Go.Lib Go.Shelf
set_option maxRecDepth 100000
set_option maxHeartbeats 16000000
theorem tD (s:ByteArray) (hs:s.size≤4000) (v:Int) (h:Lib.parseIntB 64 s.data.toList = .ok v) (w:World):Calls Tryz.prog 198 #[s,(10:Int),(64:Int)] w fun e w'=>e = .returned (.tuple #[v,.nilIface])∧Below w w w':=by
 refine (Any.strconv_ParseInt_10_at64_ok Tryz.parseI s ak v h w).mono ?_;rintro e w' ⟨rfl,hw⟩;refine ⟨rfl,?_⟩;rcases hw with rfl | ⟨t,rfl⟩
 ·exact I8 _ _
 ·exact Go.Joins.below_bytesWorld _ _ _ _ (I6 _)
def CV (n:Nat) (l:List UInt8):Nat:=l.foldl (fun n c=>n*10+(c.toNat - 48)) n
theorem zY:∀ (l:List UInt8) (acc:Nat),(∀ c ∈ l,48≤c.toNat∧c.toNat≤57)→(acc+1)*10 ^ l.length≤10 ^ 16→Lib.parseUintM (2 ^ 64 - 1) acc l = .ok (CV acc l)∧CV acc l<10 ^ 16
 | [],acc,_,h=>by
  simp only [JQ,Nat.pow_zero,Nat.mul_one] at h
  exact ⟨rfl,by show acc<_; omega⟩
 | c :: r,acc,hd,h=>by
  have hc:=hd c (by simp)
  have h1:(acc*10+(c.toNat - 48)+1)*10 ^ r.length≤(acc+1)*10 ^ (c :: r).length:=by
   rw [Jo,Nat.pow_succ,Nat.mul_comm (10 ^ r.length) 10,← Nat.mul_assoc];exact JH _ ak
  have h2:=zY r (acc*10+(c.toNat - 48)) (fun x hx=>hd x (by simp [hx])) (Jj h1 h);have h3:acc*10+(c.toNat - 48)+1≤10 ^ 16:=by
   refine Jj ?_ (Jj h1 h);exact Nat.le_mul_of_pos_right _ (Nat.pow_pos ak)
  refine ⟨?_,h2.2⟩;rw [Lib.parseUintM,if_pos hc,if_neg ak,if_neg ak];exact h2.1
theorem wM (s:ByteArray) (hd:∀ c ∈ s.data.toList,48≤c.toNat∧c.toNat≤57):bS s=(CV 0 s.data.toList:Nat):=by
 have:∀ (l:List UInt8) (n:Nat),(∀ c ∈ l,48≤c.toNat∧c.toNat≤57)→(l.map fun c=>((c.toNat:Nat):Int)).foldl (fun n c=>n*10+(c - 48)) (n:Int)=(CV n l:Nat):=by
  intro l
  induction l with
  | nil=>intro n _; rfl
  | cons c r ih =>
   intro n hd;have hc:=hd c (by simp);rw [JI,List.foldl_cons];have:=ih (n*10+(c.toNat - 48)) (fun x hx=>hd x (by simp [hx]));rw [show ((n:Int)*10+((c.toNat:Int) - 48))=((n*10+(c.toNat - 48):Nat):Int) by omega,this];rfl
 exact this s.data.toList 0 hd
theorem tm {t : Tk} (h : Dl t) (h2 : t.1 = 2) : Lib.parseIntB 64 t.2.1.data.toList = .ok (bS t.2.1) ∧ 0 ≤ bS t.2.1 ∧ bS t.2.1 < 10000000000000000 := by
  obtain ⟨h1, hl, hd⟩ := h.2 h2
  have hle : t.2.1.data.toList.length ≤ 16 := by rw [Ji]; exact hl
  have hp := zY t.2.1.data.toList 0 hd (by
    rw [Jm, Nat.one_mul]
    exact Nat.pow_le_pow_right ak hle)
  rw [wM _ hd]
  refine ⟨?_, by omega, by have := hp.2; omega⟩
  cases hs : t.2.1.data.toList with
  | nil => have : t.2.1.data.toList.length = 0 := by rw [hs]; rfl
           rw [Ji] at this
           have h1' : 1 ≤ t.2.1.data.size := h1
           omega
  | cons c r =>
    rw [hs] at hp hd
    have hc := hd c (by simp)
    rw [Lib.parseIntB, if_neg ak, Lib.parseUintB, if_neg (by simp), hp.1]
    have := hp.2
    simp only
    rw [if_neg ak, if_neg ak, if_neg ak]
end Go.Proofs.YtoknmnngaackkaaGreatDoor
