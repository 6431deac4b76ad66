/- Together: CA, CB, CJ, CK, CL. -/
import Derived.Deep.DeepCutAuto
import Derived.Test.YtklgehkhfidpmaaGreatDoorRows
import Derived.Lib.LaidTab
import Derived.OpenShut
import Derived.Deep.Strs
import Derived.Stop.LaidErr
import Derived.LaidHandle
import Derived.Test.YtklgehkhfidpmaaGreatDoorZ0
import Derived.Test.YtklgehkhfidpmaaGreatDoorZ7
import Derived.Test.YtklgehkhfidpmaaGreatDoorZ8
/- What is read hangs on no place, and on nothing behind it: plainly. -/
namespace Go.Proofs.YtklgehkhfidpmaaGreatDoor
set_option maxRecDepth 100000
set_option maxHeartbeats 1000000

def SimT (t u:Tk):Prop:=t.1=u.1∧t.2.1=u.2.1
def EndL (ts:List Tk):Prop:=∃ e:Tk,e.1=5∧ts = [e]
/-- The same tokens, one at least; behind them the end, or q. -/
inductive Al (q:List Tk):List Tk→List Tk→Prop
 | one {t u e:Tk}:SimT t u→t.1≠5→e.1=5→Al q [t,e] (u :: q)
 | cons {t u:Tk} {ts us:List Tk}:SimT t u→t.1≠5→Al q ts us→Al q (t :: ts) (u :: us)
theorem Al.now {q ts us:List Tk} (h:Al q ts us):SimT (nowP ts) (nowP us)∧(nowP ts).1≠5:=by
 cases h with
 | one h1 h2 h3=>exact ⟨h1,h2⟩
 | cons h1 h2 h3=>exact ⟨h1,h2⟩
theorem Al.is {q ts us:List Tk} (h:Al q ts us) (s:ByteArray):isP s ts=isP s us:=by
 obtain ⟨⟨h1,h2⟩,_⟩:=h.now
 unfold isP
 rw [h1,h2]
theorem Al.pass {q ts us:List Tk} (h:Al q ts us):(EndL (passP ts)∧passP us=q)∨Al q (passP ts) (passP us):=by
 cases h with
 | @one t u e h1 h2 h3 =>
  have h4:u.1≠5:=h1.1 ▸ h2
  rw [passP,if_neg h2,passP,if_neg h4]
  exact .inl ⟨⟨e,h3,rfl⟩,rfl⟩
 | @cons t u ts us h1 h2 h3 =>
  have h4:u.1≠5:=h1.1 ▸ h2
  rw [passP,if_neg h2,passP,if_neg h4]
  exact .inr h3
theorem EndL.pass {ts:List Tk} (h:EndL ts):EndL (passP ts):=by
 obtain ⟨e,h1,rfl⟩:=h
 rw [passP,if_pos h1]
 exact ⟨e,h1,rfl⟩
structure Loc (q:List Tk) {α:Type} (f:List Tk→PR α):Prop where
 e:∀ {ts x r},EndL ts→f ts = .ok (x,r)→EndL r
 a:∀ {ts us x r},Al q ts us→f ts = .ok (x,r)→EndL r∨∃ us',Al q r us'∧f us = .ok (x,us')
 n:∀ {ts c},f ts = .error c→c.1≠0
section
variable {q:List Tk} {α β:Type}
theorem Loc.val {g:List Tk→α} (hg:∀ {ts us},Al q ts us→g ts=g us):Loc q (fun ts=>.ok (g ts,ts)) where
 e h H:=by cases H; exact h
 a h H:=by cases H; exact .inr ⟨_,h,by rw [hg h]⟩
 n H:=by cases H
theorem Loc.valp {g:List Tk→α} (hg:∀ {ts us},Al q ts us→g ts=g us):Loc q (fun ts=>.ok (g ts,passP ts)) where
 e h H:=by cases H; exact h.pass
 a h H:=by
  cases H
  rcases h.pass with hp | hp
  ·exact .inl hp.1
  ·exact .inr ⟨_,hp,by rw [hg h]⟩
 n H:=by cases H
theorem Loc.ok (x:α):Loc q (fun ts=>.ok (x,ts)):=.val fun _=>rfl
theorem Loc.okp (x:α):Loc q (fun ts=>.ok (x,passP ts)):=.valp fun _=>rfl
theorem Loc.err {g:List Tk→Er} (hg:∀ ts,(g ts).1≠0:=by intro _; simp):Loc q (α:=α) (fun ts=>.error (g ts)) where
 e _ H:=by cases H
 a _ H:=by cases H
 n H:=by cases H; exact hg _
theorem Loc.pass {f:List Tk→PR α} (h:Loc q f):Loc q (fun ts=>f (passP ts)) where
 e h1 H:=h.e h1.pass H
 a h1 H:=by
  rcases h1.pass with hp | hp
  ·exact .inl (h.e hp.1 H)
  ·exact h.a hp H
 n H:=h.n H
theorem Loc.bnd {f:List Tk→PR α} {k:α→List Tk→PR β} (h:Loc q f) (hk:∀ x,Loc q (k x)):Loc q (fun ts=>Go.Proofs.YtklgehkhfidpmaaGreatDoor.bnd (f ts) k) where
 e {ts x r} h1 H:=by
  rcases hf:f ts with e | ⟨y,r1⟩
  ·rw [hf] at H; cases H
  ·rw [hf] at H; exact (hk y).e (h.e h1 hf) H
 a {ts us x r} h1 H:=by
  rcases hf:f ts with e | ⟨y,r1⟩
  ·rw [hf] at H; cases H
  ·rw [hf] at H
   rcases h.a h1 hf with hp | ⟨us1,hp,hu⟩
   ·exact .inl ((hk y).e hp H)
   ·rcases (hk y).a hp H with hp2 | ⟨us2,hp2,hu2⟩
    ·exact .inl hp2
    ·exact .inr ⟨us2,hp2,by simp only [hu]; exact hu2⟩
 n {ts c} H:=by
  rcases hf:f ts with e | ⟨y,r1⟩
  ·rw [hf] at H; cases H; exact h.n hf
  ·rw [hf] at H; exact (hk y).n H
theorem Loc.ifc {c:List Tk→Prop} [DecidablePred c] {f g:List Tk→PR α} (hc:∀ {ts us},Al q ts us→(c ts↔c us)) (hf:Loc q f) (hg:Loc q g):Loc q (fun ts=>if c ts then f ts else g ts) where
 e {ts x r} h1 H:=by
  split at H
  ·exact hf.e h1 H
  ·exact hg.e h1 H
 a {ts us x r} h1 H:=by
  split at H
  ·rename_i hh; rw [if_pos ((hc h1).1 hh)]; exact hf.a h1 H
  ·rename_i hh; rw [if_neg (fun h=>hh ((hc h1).2 h))]; exact hg.a h1 H
 n {ts c} H:=by
  split at H
  ·exact hf.n H
  ·exact hg.n H
theorem Loc.is {s:ByteArray} {f g:List Tk→PR α} (hf:Loc q f) (hg:Loc q g):Loc q (fun ts=>if isP s ts then f ts else g ts):=.ifc (fun h=>by rw [h.is s]) hf hg
theorem Loc.ite {c:Prop} [Decidable c] {f g:List Tk→PR α} (hf:Loc q f) (hg:Loc q g):Loc q (fun ts=>if c then f ts else g ts):=.ifc (c:=fun _=>c) (fun _=>Iff.rfl) hf hg
theorem Loc.congr {f g:List Tk→PR α} (h:∀ ts x r,f ts = .ok (x,r)↔g ts = .ok (x,r)) (hn:∀ ts c,f ts = .error c→c.1≠0) (hg:Loc q g):Loc q f where
 e h1 H:=hg.e h1 ((h ..).1 H)
 a h1 H:=by
  rcases hg.a h1 ((h ..).1 H) with hp | ⟨us,hp,hu⟩
  ·exact .inl hp
  ·exact .inr ⟨us,hp,(h ..).2 hu⟩
 n H:=hn _ _ H
theorem Loc.of {f g:List Tk→PR α} (h:∀ ts,f ts=g ts) (hg:Loc q g):Loc q f:=(funext h:f=g) ▸ hg
theorem loc_must:∀ l,Loc q (mustP l)
 | []=>.of (fun _=>rfl) (Loc.ok ())
 | s :: l=>.of (fun _=>rfl) (Loc.is (s:=s) (loc_must l).pass .err)
theorem Al.k {ts us:List Tk} (h:Al q ts us):(nowP ts).1=(nowP us).1:=h.now.1.1
theorem Al.t {ts us:List Tk} (h:Al q ts us):(nowP ts).2.1=(nowP us).2.1:=h.now.1.2
theorem loc_name:Loc q nameP:=.of (fun _=>rfl) (Loc.ifc (c:=fun ts=>(nowP ts).1≠1) (fun h=>by rw [h.k]) .err (Loc.ifc (c:=fun ts=>namedP (nowP ts).2.1=false) (fun h=>by rw [h.t]) .err (Loc.valp (g:=fun ts=>(nowP ts).2.1) fun h=>h.t)))
theorem loc_byName:Loc q byNameP:=.of (fun _=>rfl) (Loc.is loc_name.pass (Loc.ok _))
def numQ (sg:Bool) (least most:Int) (ts:List Tk):PR Int :=
 if (nowP ts).1≠2 then .error (2,0) else if (if sg then -digitsP (nowP ts).2.1 else digitsP (nowP ts).2.1)<least∨most<(if sg then -digitsP (nowP ts).2.1 else digitsP (nowP ts).2.1) then .error (2,0) else .ok (if sg then -digitsP (nowP ts).2.1 else digitsP (nowP ts).2.1,passP ts)
theorem loc_numQ (sg:Bool) (least most:Int):Loc q (numQ sg least most):=.of (fun _=>rfl) (Loc.ifc (c:=fun ts=>(nowP ts).1≠2) (fun h=>by rw [h.k]) (.err (g:=fun _=>(2,0))) (Loc.ifc (c:=fun ts=>(if sg then -digitsP (nowP ts).2.1 else digitsP (nowP ts).2.1)<least∨most<(if sg then -digitsP (nowP ts).2.1 else digitsP (nowP ts).2.1)) (fun h=>by rw [h.t]) (.err (g:=fun _=>(2,0))) (Loc.valp (g:=fun ts=>if sg then -digitsP (nowP ts).2.1 else digitsP (nowP ts).2.1) fun h=>by rw [h.t])))
theorem loc_number (least most:Int):Loc q (numberP least most):=by
 refine .congr ?_ ?_ (Loc.is (s:=⟨#[45]⟩) (loc_numQ true least most).pass (loc_numQ false least most))
 rotate_left
 ·intro ts c h
  unfold numberP at h
  simp only at h
  split at h
  ·split at h
   ·cases h; simp
   ·split at h
    ·cases h; simp
    ·cases h
  ·split at h
   ·cases h; simp
   ·split at h
    ·cases h; simp
    ·cases h
 intro ts x r
 unfold numberP numQ
 by_cases h:isP ⟨#[45]⟩ ts=true
 ·simp only [h,if_true]
  by_cases h1:(nowP (passP ts)).1≠2
  ·rw [if_pos h1,if_pos h1]; simp
  ·rw [if_neg h1,if_neg h1]
   split <;> simp
 ·simp only [h,if_false,Bool.false_eq_true]
  by_cases h1:(nowP ts).1≠2
  ·rw [if_pos h1,if_pos h1]; simp
  ·rw [if_neg h1,if_neg h1]
   split <;> simp
theorem loc_value:Loc q valueP:=.of (fun _=>rfl) (Loc.ifc (c:=fun ts=>(nowP ts).1=3) (fun h=>by rw [h.k]) (Loc.valp (g:=fun ts=>((4,0,(nowP ts).2.1):Vl)) fun h=>by rw [h.t]) (Loc.is (Loc.okp _) (Loc.is (Loc.okp _) (Loc.is (Loc.okp _) (Loc.bnd (loc_number _ _) fun n=>Loc.ok _)))))
theorem sign_end {lvl:Int} {ts:List Tk} (h:EndL ts):∀ l,signF lvl ts l=(0,ts)
 | []=>rfl
 | i :: l=>by
  obtain ⟨e,h1,rfl⟩:=h
  rw [signF,if_neg,sign_end ⟨e,h1,rfl⟩ l]
  rintro ⟨_,h2⟩
  simp [isP,nowP,h1] at h2
theorem sign_al {lvl:Int} {ts us:List Tk} (h:Al q ts us):∀ l,(signF lvl ts l).1=(signF lvl us l).1∧(((signF lvl ts l).2=ts∧(signF lvl us l).2=us)∨((signF lvl ts l).2=passP ts∧(signF lvl us l).2=passP us))
 | []=>⟨rfl,.inl ⟨rfl,rfl⟩⟩
 | i :: l=>by
  rw [signF,signF,h.is i.2.1]
  split
  ·exact ⟨rfl,.inr ⟨rfl,rfl⟩⟩
  ·exact sign_al h l
theorem loc_sign (lvl:Int):Loc q (fun ts=>.ok (signP lvl ts)) where
 e {ts x r} h H:=by
  have:signP lvl ts=(x,r):=by injection H
  rw [signP,sign_end h] at this
  cases this
  exact h
 a {ts us x r} h H:=by
  have h0:signP lvl ts=(x,r):=by injection H
  rw [signP] at h0
  obtain ⟨h1,h2⟩:=sign_al (lvl:=lvl) h infL
  rw [h0] at h1 h2
  have e1:signP lvl us=(x,(signF lvl us infL).2):=by rw [signP]; exact Prod.ext h1.symm rfl
  rcases h2 with ⟨h2,h3⟩ | ⟨h2,h3⟩
  ·simp only at h2
   subst h2
   exact .inr ⟨us,h,by rw [e1,h3]⟩
  ·simp only at h2
   subst h2
   rcases h.pass with hp | hp
   ·exact .inl hp.1
   ·exact .inr ⟨_,hp,by rw [e1,h3]⟩
 n H:=by cases H
theorem sign_zero {lvl:Int} {ts:List Tk}:∀ {l:List (Int × ByteArray × Int)},(∀ i ∈ l,i.1≠0)→(signF lvl ts l).1=0→(signF lvl ts l).2=ts
 | [],_,_=>rfl
 | i :: l,h,h0=>by
  rw [signF] at h0 ⊢
  split at h0
  ·exact absurd h0 (h i (by simp))
  ·rename_i hc
   rw [if_neg hc]
   exact sign_zero (fun i hi=>h i (by simp [hi])) h0
theorem sgnP_zero {lvl:Int} {ts:List Tk} (h:(signP lvl ts).1=0):(signP lvl ts).2=ts:=sign_zero (by intro i hi; simp only [infL,List.mem_cons,List.not_mem_nil,or_false] at hi; rcases hi with rfl | rfl | rfl | rfl | rfl | rfl | rfl | rfl | rfl | rfl | rfl | rfl <;> decide) h
theorem Loc.signed {lvl:Int} {x:α} {k:Int→List Tk→PR α} (hk:∀ y,Loc q (k y)):Loc q (fun ts=>if (signP lvl ts).1=0 then .ok (x,ts) else k (signP lvl ts).1 (signP lvl ts).2):=by
 refine .of (fun ts=>?_) (Loc.bnd (loc_sign lvl) (k:=fun y r=>if y=0 then .ok (x,r) else k y r) fun y=>Loc.ite (Loc.ok x) (hk y))
 show _=if (signP lvl ts).1=0 then Except.ok (x,(signP lvl ts).2) else k (signP lvl ts).1 (signP lvl ts).2
 split
 ·rename_i h; rw [sgnP_zero h]
 ·rfl
theorem loc_isNull (x:SX):Loc q (isNullP x):=by
 refine .of (fun ts=>?_) (Loc.is (s:=⟨#[110,111,116]⟩) (Loc.bnd (loc_must [⟨#[110,117,108,108]⟩]).pass fun _=>Loc.ok (nd 3 [nd 16 [x]])) (Loc.bnd (loc_must [⟨#[110,117,108,108]⟩]) fun _=>Loc.ok (nd 16 [x])))
 unfold isNullP
 split <;> rfl
theorem loc_colName:Loc q columnNameP:=.of (fun _=>rfl) (Loc.bnd loc_name fun _n=>Loc.is (Loc.bnd loc_name.pass fun _m=>Loc.ok _) (Loc.ok _))
theorem begins_al {ts us:List Tk} (h:Al q ts us):beginsP ts=beginsP us:=by
 unfold beginsP
 rw [h.k,h.is,h.is,h.is,h.is]
/-- All readings of expressions, with so much fuel. -/
structure LocE (q:List Tk) (n:Nat):Prop where
 expr:∀ o,Loc q (exprP n o)
 level:∀ l o,Loc q (levelP n l o)
 chain:∀ l o,Loc q (chainP n l o)
 loop:∀ l o x,Loc q (loopP n l o x)
 denied:∀ o,Loc q (deniedP n o)
 compared:∀ o,Loc q (comparedP n o)
 piece:∀ o,Loc q (pieceP n o)
 behind:∀ o l,Loc q (behindP n o l)
 exprs:∀ o l acc,Loc q (exprsP n o l acc)
 agg:∀ k o,Loc q (aggP n k o)
theorem Loc.fuel:Loc q (α:=α) (fun _=>fuelE):=.err
theorem locE:∀ n,LocE q n
 | 0=>by
  constructor <;> intros
  ·exact .of (fun _=>by rw [exprP]) .fuel
  ·exact .of (fun _=>by rw [levelP]) .fuel
  ·exact .of (fun _=>by rw [chainP]) .fuel
  ·exact .of (fun _=>by rw [loopP]) .fuel
  ·exact .of (fun _=>by rw [deniedP]) .fuel
  ·exact .of (fun _=>by rw [comparedP]) .fuel
  ·exact .of (fun _=>by rw [pieceP]) .fuel
  ·exact .of (fun _=>by rw [behindP]) .fuel
  ·exact .of (fun _=>by rw [exprsP]) .fuel
  ·exact .of (fun _=>by rw [aggP]) .fuel
 | n+1=>by
  have ih:=locE n
  constructor
  ·intro o; exact .of (fun _=>by rw [exprP]) (Loc.ite .err (ih.chain _ _))
  ·intro l o; exact .of (fun _=>by rw [levelP]) (Loc.ite (ih.denied _) (Loc.ite (ih.piece _) (ih.chain _ _)))
  ·intro l o; exact .of (fun _=>by rw [chainP]) (Loc.bnd (ih.level _ _) fun x=>ih.loop _ _ _)
  ·intro l o x; exact .of (fun _=>by rw [loopP]) (Loc.signed (k:=fun kk r=>Go.Proofs.YtklgehkhfidpmaaGreatDoor.bnd (levelP n (l+1) o r) fun y r=>loopP n l o (nd kk [x,y]) r) fun kk=>Loc.bnd (ih.level _ _) fun y=>ih.loop _ _ _)
  ·intro o; exact .of (fun _=>by rw [deniedP]) (Loc.is (Loc.bnd (Loc.ite .err (ih.denied _).pass) fun x=>Loc.ok _) (ih.compared _))
  ·intro o; exact .of (fun _=>by rw [comparedP]) (Loc.bnd (ih.chain _ _) fun x=>Loc.is (loc_isNull x).pass (Loc.signed (k:=fun kk r=>Go.Proofs.YtklgehkhfidpmaaGreatDoor.bnd (chainP n 5 o r) fun y r2=>.ok (nd kk [x,y],r2)) fun kk=>Loc.bnd (ih.chain _ _) fun y=>Loc.ok _))
  ·intro o
   exact .of (fun _=>by rw [pieceP]) (Loc.ifc (c:=fun ts=>beginsP ts=true) (fun h=>by rw [begins_al h]) (Loc.bnd loc_value fun v=>Loc.ok _) (Loc.is (Loc.bnd (ih.expr _).pass fun x=>Loc.bnd (loc_must _) fun _=>Loc.ok _) (Loc.is (Loc.bnd (ih.behind _ _).pass fun x=>Loc.ok _) (Loc.is (Loc.bnd (ih.behind _ _).pass fun x=>Loc.ok _) (Loc.is (ih.agg _ _).pass (Loc.is (ih.agg _ _).pass (Loc.is (ih.agg _ _).pass (Loc.is (ih.agg _ _).pass loc_colName))))))))
  ·intro o l
   cases l with
   | nil=>exact .of (fun _=>by rw [behindP]) .fuel
   | cons s l=>exact .of (fun _=>by rw [behindP]) (Loc.bnd (loc_must _) fun _=>ih.exprs _ _ _)
  ·intro o l acc
   cases l with
   | nil=>exact .of (fun _=>by rw [exprsP]) (Loc.ok _)
   | cons s l=>exact .of (fun _=>by rw [exprsP]) (Loc.bnd (ih.expr _) fun x=>Loc.bnd (loc_must _) fun _=>ih.exprs _ _ _)
  ·intro k o
   exact .of (fun _=>by rw [aggP]) (Loc.bnd (loc_must _) fun _=>Loc.ifc (c:=fun ts=>k=20∧isP ⟨#[42]⟩ ts=true) (fun h=>by rw [h.is]) (Loc.bnd (loc_must _).pass fun _=>Loc.ok _) (Loc.bnd (ih.expr _) fun x=>Loc.bnd (loc_must _) fun _=>Loc.ok _))
theorem loc_eP:Loc q eP:=(locE exF).expr 0
theorem loc_com {one:List Tk→PR α} (h:Loc q one) (most:Int):∀ n acc,Loc q (comLoopP one most n acc)
 | 0,acc=>.of (fun _=>by rw [comLoopP]) .fuel
 | n+1,acc=>.of (fun _=>by rw [comLoopP]) (Loc.is (Loc.ite (.err (g:=fun ts=>(5,atP (passP ts)))) (Loc.bnd h.pass fun x=>loc_com h most n _)) (Loc.ok _))
theorem loc_commas {one:List Tk→PR α} (h:Loc q one) (most:Int) (n:Nat):Loc q (commasP one most n):=.of (fun _=>rfl) (Loc.bnd h fun _x=>loc_com h most n _)
theorem loc_colType:Loc q columnTypeP:=.of (fun _=>rfl) (Loc.is (Loc.okp _) (Loc.is (Loc.okp _) (Loc.is (Loc.okp _) .err)))
theorem loc_col:Loc q columnP:=.of (fun _=>rfl) (Loc.bnd loc_name fun _n=>Loc.bnd loc_colType fun _t=>Loc.ok _)
theorem loc_row:Loc q rowP:=.of (fun _=>rfl) (Loc.bnd (loc_must _) fun _=>Loc.bnd (loc_commas loc_value _ _) fun _l=>Loc.bnd (loc_must _) fun _=>Loc.ok _)
theorem loc_exprBehind (s:ByteArray):Loc q (exprBehindP s):=.of (fun _=>rfl) (Loc.is (Loc.bnd loc_eP.pass fun _x=>Loc.ok _) (Loc.ok _))
theorem loc_item:Loc q itemP:=.of (fun _=>rfl) (Loc.bnd loc_eP fun _x=>Loc.bnd loc_byName fun _s=>Loc.ok _)
theorem loc_source (k:Int):Loc q (sourceP k):=.of (fun _=>rfl) (Loc.bnd loc_name fun _x=>Loc.bnd loc_byName fun _s=>Loc.ok _)
theorem loc_joined:Loc q joinedP:=.of (fun _=>rfl) (Loc.is (Loc.okp _) (Loc.is (Loc.bnd (loc_must _).pass fun _=>Loc.ok _) (Loc.is (Loc.bnd (loc_must _).pass fun _=>Loc.ok _) (Loc.is (Loc.bnd (loc_must _).pass fun _=>Loc.ok _) (Loc.ok _)))))
theorem loc_srcLoop:∀ n acc,Loc q (sourcesLoopP n acc)
 | 0,acc=>.of (fun _=>by rw [sourcesLoopP]) .fuel
 | n+1,acc=>.of (fun _=>by rw [sourcesLoopP]) (Loc.bnd loc_joined fun k=>Loc.ite (Loc.ok _) (Loc.ite (.err (g:=fun r=>(5,atP r))) (Loc.bnd (loc_source k) fun s=>Loc.bnd (loc_must _) fun _=>Loc.bnd loc_eP fun x=>loc_srcLoop n _)))
theorem loc_sources:Loc q sourcesP:=.of (fun _=>rfl) (Loc.bnd (loc_source 1) fun s=>loc_srcLoop 5 [s])
theorem loc_group:Loc q groupP:=.of (fun _=>rfl) (Loc.is (Loc.bnd (loc_must _).pass fun _=>loc_commas loc_eP _ _) (Loc.ok _))
theorem loc_items (st:Bool):Loc q (itemsP st):=.of (fun _=>rfl) (Loc.ite (Loc.ok _) (loc_commas loc_item _ _))
def optP (s:ByteArray) (ts:List Tk):PR Bool:=if isP s ts then .ok (true,passP ts) else .ok (false,ts)
theorem loc_opt (s:ByteArray):Loc q (optP s):=.of (fun _=>rfl) (Loc.is (Loc.okp _) (Loc.ok _))
theorem opt_bnd {s:ByteArray} {ts:List Tk} {k:Bool→List Tk→PR α}:Go.Proofs.YtklgehkhfidpmaaGreatDoor.bnd (optP s ts) k=k (isP s ts) (if isP s ts then passP ts else ts):=by
 unfold optP
 cases isP s ts <;> rfl
theorem loc_selected:Loc q selectedP:=by
 refine .of (fun ts=>?_) (Loc.bnd (loc_must [⟨#[115,101,108,101,99,116]⟩]) fun _=>Loc.bnd (loc_opt ⟨#[100,105,115,116,105,110,99,116]⟩) fun di=>Loc.bnd (loc_opt ⟨#[42]⟩) fun st=>Loc.bnd (loc_items st) fun its=>Loc.bnd (loc_must [⟨#[102,114,111,109]⟩]) fun _=>Loc.bnd loc_sources fun fs=>Loc.bnd (loc_exprBehind ⟨#[119,104,101,114,101]⟩) fun hw=>Loc.bnd loc_group fun gs=>Loc.bnd (loc_exprBehind ⟨#[104,97,118,105,110,103]⟩) fun hh=>Loc.ok ⟨di,st,its,fs,hw.1,hh.1,hw.2,hh.2,gs⟩)
 unfold selectedP
 simp only [opt_bnd]
def betQ (ts:List Tk):PR Int :=
 if isP ⟨#[117,110,105,111,110]⟩ ts then bnd (optP ⟨#[97,108,108]⟩ (passP ts)) fun b r=>.ok (if b then 1 else 2,r)
 else if isP ⟨#[101,120,99,101,112,116]⟩ ts then bnd (optP ⟨#[97,108,108]⟩ (passP ts)) fun b r=>.ok (if b then 3 else 4,r)
 else .ok (0,ts)
theorem bet_eq (ts:List Tk):.ok (betweenP ts)=betQ ts:=by
 unfold betQ betweenP
 simp only [opt_bnd]
 split
 ·cases isP ⟨#[97,108,108]⟩ (passP ts) <;> rfl
 ·split
  ·cases isP ⟨#[97,108,108]⟩ (passP ts) <;> rfl
  ·rfl
theorem loc_between:Loc q (fun ts=>.ok (betweenP ts)):=.of bet_eq (.of (fun _=>rfl) (Loc.is (Loc.bnd (loc_opt _).pass fun _b=>Loc.ok _) (Loc.is (Loc.bnd (loc_opt _).pass fun _b=>Loc.ok _) (Loc.ok _))))
theorem btw_zero {ts:List Tk} (h:(betweenP ts).1=0):(betweenP ts).2=ts:=by
 unfold betweenP at h ⊢
 split at h
 ·split at h <;> cases h
 ·split at h
  ·split at h <;> cases h
  ·rename_i h1 h2; rw [if_neg h1,if_neg h2]
theorem loc_parts:∀ n ps ops,Loc q (partsLoopP n ps ops)
 | 0,_,_=>.of (fun _=>by rw [partsLoopP]) .fuel
 | n+1,ps,ops=>by
  refine .of (fun ts=>?_) (Loc.bnd loc_between (k:=fun y r=>if y=0 then .ok ((ps,ops),r) else if (ps.length:Int) ≥ 4 then .error (5,atP r) else bnd (selectedP r) fun s r=>partsLoopP n (ps ++ [s]) (ops ++ [y]) r) fun y=>Loc.ite (Loc.ok _) (Loc.ite (.err (g:=fun r=>(5,atP r))) (Loc.bnd loc_selected fun s=>loc_parts n _ _)))
  rw [partsLoopP]
  show _=if (betweenP ts).1=0 then Except.ok ((ps,ops),(betweenP ts).2) else _
  split
  ·rename_i h; rw [btw_zero h]
  ·rfl
theorem loc_query:Loc q queryP:=.of (fun _=>rfl) (Loc.bnd loc_selected fun _s=>Loc.bnd (loc_parts _ _ _) fun _po=>Loc.is (Loc.bnd (loc_must _).pass fun _=>Loc.bnd (loc_commas loc_eP _ _) fun _l=>Loc.bnd (loc_must _) fun _=>Loc.bnd (loc_number _ _) fun _n=>Loc.ok _) (Loc.ok _))
theorem loc_created:Loc q createdP:=.of (fun _=>rfl) (Loc.is (Loc.bnd loc_name.pass fun _n=>Loc.bnd (loc_must _) fun _=>Loc.bnd loc_query fun _x=>Loc.ok _) (Loc.bnd (loc_must _) fun _=>Loc.bnd loc_name fun _n=>Loc.bnd (loc_must _) fun _=>Loc.bnd (loc_commas loc_col _ _) fun _l=>Loc.bnd (loc_must _) fun _=>Loc.ok _))
theorem loc_inserted:Loc q insertedP:=.of (fun _=>rfl) (Loc.bnd (loc_must _) fun _=>Loc.bnd loc_name fun _n=>Loc.bnd (loc_must _) fun _=>Loc.bnd (loc_commas loc_row _ _) fun _l=>Loc.ok _)
theorem loc_deleted:Loc q deletedP:=.of (fun _=>rfl) (Loc.bnd (loc_must _) fun _=>Loc.bnd loc_name fun _n=>Loc.bnd (loc_exprBehind _) fun _hw=>Loc.ok _)
theorem loc_statement:Loc q statementP:=.of (fun _=>rfl) (Loc.is loc_created.pass (Loc.is loc_inserted.pass (Loc.is loc_deleted.pass (Loc.is (Loc.bnd loc_query.pass fun x=>Loc.ok _) .err))))
theorem stm_step {n:Nat} {acc:List Stm} {ts:List Tk} (h5:(nowP ts).1≠5) (ha:acc.length<60):statementsP (n+1) acc ts=bnd (statementP ts) fun s r=>bnd (mustP [⟨#[59]⟩] r) fun _ r2=>statementsP n (acc ++ [s]) r2:=by
 rw [statementsP,if_neg h5,if_neg (by omega)]
/-- Statements of some tokens, then of what is behind them. -/
theorem stm_go:∀ (n:Nat) (acc:List Stm) (ts us:List Tk) {l:List Stm} {r:List Tk},(EndL ts∧us=q)∨Al q ts us→statementsP n acc ts = .ok (l,r)→∃ b,l=acc ++ b∧∀ (acc':List Stm) (m:Nat),acc'.length+b.length≤60→statementsP (m+b.length) acc' us=statementsP m (acc' ++ b) q
 | 0,acc,ts,us,l,r,_,h=>by rw [statementsP] at h; cases h
 | n+1,acc,ts,us,l,r,hs,h=>by
  rcases hs with ⟨⟨e,he,rfl⟩,rfl⟩ | hs
  ·rw [statementsP,if_pos (show (nowP [e]).1=5 from he)] at h
   have e1:acc=l:=(Prod.mk.inj (Except.ok.inj h)).1
   subst e1
   exact ⟨[],by simp,fun acc' m _=>by simp⟩
  ·obtain ⟨hk,h5⟩:=hs.now
   rw [statementsP,if_neg h5] at h
   split at h
   ·cases h
   ·rcases hf:statementP ts with e | ⟨s,r1⟩
    ·rw [hf] at h; cases h
    ·rw [hf] at h
     have h:bnd (mustP [⟨#[59]⟩] r1) (fun _ r2=>statementsP n (acc ++ [s]) r2) = .ok (l,r):=h
     rcases loc_statement.a hs hf with ⟨e,he,rfl⟩ | ⟨us1,ha1,hu1⟩
     ·rw [mustP,if_neg (by simp [isP,nowP,he])] at h; cases h
     ·by_cases hi:isP ⟨#[59]⟩ r1=true
      ·rw [mustP,if_pos hi] at h
       have h:statementsP n (acc ++ [s]) (passP r1) = .ok (l,r):=h
       obtain ⟨b,hb,hgo⟩:=stm_go n (acc ++ [s]) (passP r1) (passP us1) ha1.pass h
       refine ⟨s :: b,by rw [hb]; simp,fun acc' m hm=>?_⟩
       simp only [List.length_cons] at hm ⊢
       rw [← Nat.add_assoc,stm_step (hk.1 ▸ h5) (by omega),hu1]
       show bnd (mustP [⟨#[59]⟩] us1) (fun _ r2=>statementsP (m+b.length) (acc' ++ [s]) r2)=_
       rw [mustP,if_pos (by rw [← ha1.is]; exact hi)]
       show statementsP (m+b.length) (acc' ++ [s]) (passP us1)=_
       rw [hgo (acc' ++ [s]) m (by simp; omega)]
       simp
      ·rw [mustP,if_neg hi] at h; cases h
theorem stm_err:∀ (n:Nat) (acc:List Stm) (ts:List Tk) {c:Er},statementsP n acc ts = .error c→c.1≠0
 | 0,acc,ts,c,h=>by rw [statementsP] at h; cases h; simp
 | n+1,acc,ts,c,h=>by
  rw [statementsP] at h
  split at h
  ·cases h
  ·split at h
   ·cases h; simp
   ·rcases hf:statementP ts with e | ⟨s,r1⟩
    ·rw [hf] at h; cases h; exact (loc_statement (q:=[])).n hf
    ·rw [hf] at h
     have h:bnd (mustP [⟨#[59]⟩] r1) (fun _ r2=>statementsP n (acc ++ [s]) r2) = .error c:=h
     rcases hm:mustP [⟨#[59]⟩] r1 with e | ⟨u,r2⟩
     ·rw [hm] at h; cases h; exact (loc_must (q:=[]) _).n hm
     ·rw [hm] at h; exact stm_err n _ _ h
end
end Go.Proofs.YtklgehkhfidpmaaGreatDoor
namespace Go.Proofs.YtklgehkhfidpmaaGreatDoor
open Go.RowKit Go.Lib Go.Shelf
set_option maxRecDepth 100000
set_option maxHeartbeats 1000000

def stp (l:List UInt8):List UInt8:=l.drop (clsN blaB l)
theorem cls_cons (f:Int→Bool) (c:UInt8) (l:List UInt8):clsN f (c :: l)=if f ((c.toNat:Nat):Int) then clsN f l+1 else 0:=by unfold clsN; rw [List.map_cons,spanL]
theorem cls_app {f:Int→Bool} (h:f 10=false) (m:List UInt8):∀ l,clsN f (l ++ 10 :: m)=clsN f l
 | []=>by
  rw [List.nil_append,cls_cons,if_neg]
  ·rfl
  ·show ¬ f 10=true
   rw [h]; decide
 | c :: l=>by rw [List.cons_append,cls_cons,cls_cons,cls_app h m l]
theorem stp_cons (c:UInt8) (l:List UInt8):stp (c :: l)=if blaB ((c.toNat:Nat):Int) then stp l else c :: l:=by
 unfold stp
 rw [cls_cons]
 split
 ·rw [List.drop_succ_cons]
 ·rfl
theorem stp_app (m:List UInt8):∀ l,stp (l ++ 10 :: m)=if stp l = [] then stp m else stp l ++ 10 :: m
 | []=>by rw [List.nil_append,stp_cons,if_pos (by decide),if_pos (show stp [] = [] from rfl)]
 | c :: l=>by
  rw [List.cons_append,stp_cons,stp_cons]
  split
  ·exact stp_app m l
  ·rw [if_neg (by simp)]; rfl
theorem stp_stp:∀ l,stp (stp l)=stp l
 | []=>rfl
 | c :: l=>by
  rw [stp_cons]
  split
  ·exact stp_stp l
  ·rename_i h; rw [stp_cons,if_neg h]
theorem stp_len (l:List UInt8):(stp l).length≤l.length:=by unfold stp; simp
theorem take_app {l m:List UInt8} {n:Nat} (h:n≤l.length):(l ++ m).take n=l.take n:=by rw [List.take_append,Nat.sub_eq_zero_of_le h]; simp
theorem textF_shift {p p':Int} {k:Nat} {out:List UInt8} {t:Tk} {j:Nat} (h:textF p k out = .ok (t,j)):textF p' k out = .ok ((t.1,t.2.1,p'),j):=by
 unfold textF at h ⊢
 split at h
 ·cases h
 ·rename_i hc; rw [if_neg hc]; cases h; rfl
theorem text_shift {p p':Int}:∀ (l:List UInt8) (k:Nat) (out:List UInt8) {t:Tk} {j:Nat},textL p l k out = .ok (t,j)→textL p' l k out = .ok ((t.1,t.2.1,p'),j)
 | [],k,out,t,j,h=>by rw [textL] at h; cases h
 | [c],k,out,t,j,h=>by
  rw [textL] at h ⊢
  split at h
  ·rename_i hc; rw [if_pos hc]; exact textF_shift h
  ·cases h
 | c :: d :: r,k,out,t,j,h=>by
  rw [textL] at h ⊢
  split at h
  ·rename_i hc
   rw [if_pos hc]
   split at h
   ·rename_i hd; rw [if_pos hd]; exact text_shift r _ _ h
   ·rename_i hd; rw [if_neg hd]; exact textF_shift h
  ·rename_i hc; rw [if_neg hc]; exact text_shift (d :: r) _ _ h
theorem text_app {p:Int} (m:List UInt8):∀ (l:List UInt8) (k:Nat) (out:List UInt8) {t:Tk} {j:Nat},textL p l k out = .ok (t,j)→textL p (l ++ 10 :: m) k out = .ok (t,j)
 | [],k,out,t,j,h=>by rw [textL] at h; cases h
 | [c],k,out,t,j,h=>by
  rw [textL] at h
  show textL p (c :: 10 :: m) k out=_
  rw [textL]
  split at h
  ·rename_i hc; rw [if_pos hc,if_neg (by decide)]; exact h
  ·cases h
 | c :: d :: r,k,out,t,j,h=>by
  rw [textL] at h
  show textL p (c :: d :: (r ++ 10 :: m)) k out=_
  rw [textL]
  split at h
  ·rename_i hc
   rw [if_pos hc]
   split at h
   ·rename_i hd; rw [if_pos hd]; exact text_app m r _ _ h
   ·rename_i hd; rw [if_neg hd]; exact h
  ·rename_i hc; rw [if_neg hc]; exact text_app m (d :: r) _ _ h
theorem sign_shift {l:List UInt8} {p p':Int}:∀ (gs:List (List UInt8)) {t:Tk} {j:Nat},signL l p gs = .ok (t,j)→signL l p' gs = .ok ((t.1,t.2.1,p'),j)
 | [],t,j,h=>by rw [signL] at h; cases h
 | g :: gs,t,j,h=>by
  rw [signL] at h ⊢
  split at h
  ·rename_i hc; rw [if_pos hc]; cases h; rfl
  ·rename_i hc; rw [if_neg hc]; exact sign_shift gs h
theorem pre_app {m:List UInt8}:∀ (g l:List UInt8),(10:UInt8) ∉ g→g.isPrefixOf (l ++ 10 :: m)=g.isPrefixOf l
 | [],l,_=>by simp
 | c :: g,[],h=>by
  have:c≠10:=fun e=>h (by simp [e])
  simp [List.isPrefixOf,this]
 | c :: g,d :: l,h=>by
  rw [List.cons_append,List.isPrefixOf,List.isPrefixOf,pre_app g l (fun e=>h (by simp [e]))]
theorem sign_app {l m:List UInt8} {p:Int}:∀ (gs:List (List UInt8)),(∀ g ∈ gs,(10:UInt8) ∉ g)→signL (l ++ 10 :: m) p gs=signL l p gs
 | [],_=>rfl
 | g :: gs,h=>by
  rw [signL,signL,Lib.hasPrefix,Lib.hasPrefix,pre_app g l (h g (by simp)),sign_app gs (fun g hg=>h g (by simp [hg]))]
theorem tok_shift {l:List UInt8} {p p':Int} {t:Tk} {j:Nat} (h:tokAtL l p = .ok (t,j)):tokAtL l p' = .ok ((t.1,t.2.1,p'),j):=by
 unfold tokAtL at h ⊢
 split at h
 ·rename_i hc; rw [if_pos hc]; cases h; rfl
 ·rename_i hc
  rw [if_neg hc]
  split at h
  ·rename_i hd
   rw [if_pos hd]
   unfold numberL at h ⊢
   split at h
   ·cases h
   ·rename_i he; rw [if_neg he]; cases h; rfl
  ·rename_i hd
   rw [if_neg hd]
   split at h
   ·rename_i he; rw [if_pos he]; exact text_shift _ _ _ h
   ·rename_i he; rw [if_neg he]; exact sign_shift _ h
theorem tokAt_cons (c:UInt8) (r:List UInt8) (p:Int):tokAtL (c :: r) p=if letB ((c.toNat:Nat):Int) then .ok ((1,subB ((c :: r).take (clsN worB (c :: r))),p),clsN worB (c :: r)) else if digB ((c.toNat:Nat):Int) then (if clsN digB (c :: r) > 16 then .error (3,p) else .ok ((2,subB ((c :: r).take (clsN digB (c :: r))),p),clsN digB (c :: r))) else if c=39 then textL p r 1 [] else signL (c :: r) p sigL:=rfl
theorem tok_app {l:List UInt8} {p:Int} {t:Tk} {j:Nat} (hl:l ≠ []) (m:List UInt8) (h:tokAtL l p = .ok (t,j)):tokAtL (l ++ 10 :: m) p = .ok (t,j):=by
 obtain ⟨c,r,rfl⟩:∃ c r,l=c :: r:=by
  rcases l with _ | ⟨c,r⟩
  ·exact absurd rfl hl
  ·exact ⟨c,r,rfl⟩
 have hw:=cls_app (f:=worB) (by decide) m (c :: r)
 have hd:=cls_app (f:=digB) (by decide) m (c :: r)
 have hw2:=clsN_le worB (c :: r)
 have hd2:=clsN_le digB (c :: r)
 have hg:=sign_app (l:=c :: r) (m:=m) (p:=p) sigL (by decide)
 have tw:=take_app (m:=10 :: m) hw2
 have td:=take_app (m:=10 :: m) hd2
 rw [tokAt_cons] at h
 rw [List.cons_append] at hw hd hg tw td ⊢
 rw [tokAt_cons,hw,hd,tw,td,hg]
 by_cases h1:letB ((c.toNat:Nat):Int)=true
 ·rw [if_pos h1] at h ⊢; exact h
 rw [if_neg h1] at h ⊢
 by_cases h2:digB ((c.toNat:Nat):Int)=true
 ·rw [if_pos h2] at h ⊢; exact h
 rw [if_neg h2] at h ⊢
 by_cases h3:c=39
 ·rw [if_pos h3] at h ⊢; exact text_app m _ _ _ h
 ·rw [if_neg h3] at h ⊢; exact h
theorem tok_one {n:Nat} {l:List UInt8} {p:Int} {t:Tk} {j:Nat} {rs:List Tk} (hl:l ≠ []) (h:tokAtL l p = .ok (t,j)) (hr:tokG n (stp (l.drop j)) (p+j+clsN blaB (l.drop j)) = .ok rs):tokG (n+1) l p = .ok (t :: rs):=by
 rw [tokG_cons n l p hl,h]
 simp only
 rw [show tokG n ((l.drop j).drop (clsN blaB (l.drop j))) (p+j+clsN blaB (l.drop j)) = .ok rs from hr]
 rfl
theorem tok_two {n:Nat} {l:List UInt8} {p:Int} {ts:List Tk} (hl:l ≠ []) (h:tokG (n+1) l p = .ok ts):∃ t j rs,tokAtL l p = .ok (t,j)∧tokG n (stp (l.drop j)) (p+j+clsN blaB (l.drop j)) = .ok rs∧ts=t :: rs:=by
 rw [tokG_cons n l p hl] at h
 rcases ht:tokAtL l p with e | ⟨t,j⟩
 ·rw [ht] at h; cases h
 ·rw [ht] at h
  simp only at h
  rcases hg:tokG n ((l.drop j).drop (clsN blaB (l.drop j))) (p+j+clsN blaB (l.drop j)) with e | rs
  ·rw [hg] at h; cases h
  ·rw [hg] at h
   exact ⟨t,j,rs,rfl,hg,(Except.ok.inj h).symm⟩
theorem tok_kind {l:List UInt8} {p:Int} (_hl:l ≠ []) {t:Tk} {j:Nat} (h:tokAtL l p = .ok (t,j)):t.1≠5:=by
 unfold tokAtL at h
 split at h
 ·cases h; show (1:Int)≠5; decide
 ·split at h
  ·unfold numberL at h
   split at h
   ·cases h
   ·cases h; show (2:Int)≠5; decide
  ·split at h
   ·rw [(textL_tok _ _ _ h).1]; decide
   ·rw [(signL_tok sigL (by decide) h).1]; decide
def Go2 (q ts us:List Tk):Prop:=(EndL ts∧us=q)∨Al q ts us
theorem Go2.cons {q ts us:List Tk} {t u:Tk} (h1:SimT t u) (h2:t.1≠5) (h:Go2 q ts us):Go2 q (t :: ts) (u :: us):=by
 rcases h with ⟨⟨e,he,rfl⟩,rfl⟩ | h
 ·exact .inr (.one h1 h2 he)
 ·exact .inr (.cons h1 h2 h)
/-- The tokens from another place on. -/
theorem toks_shift:∀ (n:Nat) (l:List UInt8) (p:Int) {ts:List Tk},tokG n l p = .ok ts→∀ (N:Nat) (p':Int),l.length<N→∃ e us,e.1=5∧tokG N l p' = .ok us∧Go2 [e] ts us
 | 0,l,p,ts,h,_,_,_=>by rw [tokG] at h; cases h
 | n+1,l,p,ts,h,N,p',hN=>by
  obtain ⟨N,rfl⟩:∃ M,N=M+1:=⟨N - 1,by omega⟩
  by_cases hl:l = []
  ·subst hl
   rw [tokG_nil] at h
   have e:=Except.ok.inj h
   subst e
   exact ⟨(5,eB,p'),_,rfl,tokG_nil N p',.inl ⟨⟨_,rfl,rfl⟩,rfl⟩⟩
  ·obtain ⟨t,j,rs,h1,h2,rfl⟩:=tok_two hl h
   have hj:=tokAtL_len hl h1
   have hle:=stp_len (l.drop j)
   rw [List.length_drop] at hle
   obtain ⟨e,us,he,h3,h4⟩:=toks_shift n _ _ h2 N (p'+j+clsN blaB (l.drop j)) (by omega)
   exact ⟨e,_,he,tok_one hl (tok_shift h1) h3,h4.cons ⟨rfl,rfl⟩ (tok_kind hl h1)⟩
/-- The tokens of a text, a line and another text. -/
theorem toks_join {m:List UInt8} {Q:List Tk→Prop} (hq:∀ (N:Nat) (p:Int),(stp m).length<N→∃ us,tokG N (stp m) p = .ok us∧Q us):∀ (n:Nat) (l:List UInt8) (p:Int) {ts:List Tk},stp l=l→tokG n l p = .ok ts→∀ (N:Nat) (p':Int),l.length+m.length+1<N→∃ q us,Q q∧tokG N (stp (l ++ 10 :: m)) p' = .ok us∧Go2 q ts us
 | 0,l,p,ts,_,h,_,_,_=>by rw [tokG] at h; cases h
 | n+1,l,p,ts,hs,h,N,p',hN=>by
  obtain ⟨N,rfl⟩:∃ M,N=M+1:=⟨N - 1,by omega⟩
  by_cases hl:l = []
  ·subst hl
   rw [tokG_nil] at h
   have e:=Except.ok.inj h
   subst e
   have hm:=stp_len m
   obtain ⟨us,h1,h2⟩:=hq (N+1) p' (by omega)
   exact ⟨us,us,h2,by rw [stp_app,if_pos (show stp [] = [] from rfl)]; exact h1,.inl ⟨⟨_,rfl,rfl⟩,rfl⟩⟩
  ·obtain ⟨t,j,rs,h1,h2,rfl⟩:=tok_two hl h
   have hj:=tokAtL_len hl h1
   have hle:=stp_len (l.drop j)
   rw [List.length_drop] at hle
   have hd:(l ++ 10 :: m).drop j=l.drop j ++ 10 :: m:=by rw [List.drop_append,Nat.sub_eq_zero_of_le hj.2]; rfl
   obtain ⟨q,us,hQ,h3,h4⟩:=toks_join hq n _ _ (stp_stp _) h2 N (p'+j+clsN blaB ((l ++ 10 :: m).drop j)) (by omega)
   rw [stp_app,stp_stp,← stp_app,← hd] at h3
   refine ⟨q,(t.1,t.2.1,p') :: us,hQ,?_,h4.cons ⟨rfl,rfl⟩ (tok_kind hl h1)⟩
   ·rw [stp_app,hs,if_neg hl]
    exact tok_one (by simp) (tok_app hl m (tok_shift h1)) h3
theorem allC_ok:∀ (l:List Stm) (i:Int),(allC l i).1=0↔∀ x ∈ l,stmC x=0
 | [],i=>by simp [allC]
 | x :: l,i=>by
  rw [allC]
  split
  ·rename_i h; rw [allC_ok l (i+1)]; simp [h]
  ·rename_i h
   constructor
   ·intro h1; exact absurd h1 h
   ·intro h1; exact absurd (h1 x (by simp)) h
theorem wrongC_ok (l:List Stm):(wrongC l).1=0↔l.length≤60∧∀ x ∈ l,stmC x=0:=by
 unfold wrongC cntC
 by_cases h:l.length≤60
 ·rw [if_pos (by rw [if_pos (by simp; omega)]),allC_ok]; simp [h]
 ·rw [if_neg (by rw [if_neg (by simp; omega)]; decide)]
  simp [h]
theorem read_inv {s:ByteArray} {a:List Stm} (h:readP s = .ok a):s.size≤4000∧∃ ts r,tokensP s = .ok ts∧statementsP 61 [] ts = .ok (a,r)∧(wrongC a).1=0:=by
 unfold readP at h
 split at h
 ·cases h
 ·rename_i hz
  split at h
  ·cases h
  ·rename_i ts ht
   split at h
   ·cases h
   ·rename_i l r hl
    split at h
    ·rename_i hw; cases h; exact ⟨by omega,ts,r,ht,hl,hw⟩
    ·cases h
theorem text_err {p:Int}:∀ (l:List UInt8) (k:Nat) (out:List UInt8) {c:Er},textL p l k out = .error c→c.1≠0
 | [],k,out,c,h=>by rw [textL] at h; cases h; simp
 | [x],k,out,c,h=>by
  rw [textL] at h
  split at h
  ·unfold textF at h
   split at h
   ·cases h; simp
   ·cases h
  ·cases h; simp
 | x :: d :: r,k,out,c,h=>by
  rw [textL] at h
  split at h
  ·split at h
   ·exact text_err r _ _ h
   ·unfold textF at h
    split at h
    ·cases h; simp
    ·cases h
  ·exact text_err (d :: r) _ _ h
theorem sign_err {l:List UInt8} {p:Int}:∀ (gs:List (List UInt8)) {c:Er},signL l p gs = .error c→c.1≠0
 | [],c,h=>by rw [signL] at h; cases h; simp
 | g :: gs,c,h=>by
  rw [signL] at h
  split at h
  ·cases h
  ·exact sign_err gs h
theorem tok_err {l:List UInt8} {p:Int} {c:Er} (h:tokAtL l p = .error c):c.1≠0:=by
 unfold tokAtL numberL at h
 split at h
 ·cases h
 ·split at h
  ·split at h
   ·cases h; simp
   ·cases h
  ·split at h
   ·exact text_err _ _ _ h
   ·exact sign_err _ h
theorem toks_err:∀ (n:Nat) (l:List UInt8) (p:Int) {c:Er},tokG n l p = .error c→c.1≠0
 | 0,l,p,c,h=>by rw [tokG] at h; cases h; simp
 | n+1,l,p,c,h=>by
  by_cases hl:l = []
  ·subst hl
   rw [tokG_nil] at h
   cases h
  ·rw [tokG_cons n l p hl] at h
   rcases ht:tokAtL l p with e | ⟨t,j⟩
   ·rw [ht] at h; cases h; exact tok_err ht
   ·rw [ht] at h
    simp only at h
    rcases hg:tokG n ((l.drop j).drop (clsN blaB (l.drop j))) (p+j+clsN blaB (l.drop j)) with e | rs
    ·rw [hg] at h; cases h; exact toks_err n _ _ hg
    ·rw [hg] at h; cases h
theorem read_err {s:ByteArray} {c:Er} (h:readP s = .error c):c.1≠0:=by
 unfold readP at h
 split at h
 ·cases h; simp
 ·split at h
  ·rename_i ht; cases h; exact toks_err _ _ _ ht
  ·split at h
   ·rename_i hl; cases h; exact stm_err _ _ _ hl
   ·split at h
    ·cases h
    ·rename_i hw; cases h; exact hw
/-- TWO TEXTS ARE ONE, plainly. -/
theorem read_join {s t u:ByteArray} {a b:List Stm} (ha:readP s = .ok a) (hb:readP t = .ok b) (hu:u.data.toList=s.data.toList ++ 10 :: t.data.toList) (hz:s.size+t.size+1≤4000) (hn:a.length+b.length≤60):readP u = .ok (a ++ b):=by
 obtain ⟨_,ts,r,h1,h2,h3⟩:=read_inv ha
 obtain ⟨_,ts2,r2,g1,g2,g3⟩:=read_inv hb
 have es:s.data.toList.length=s.size:=Array.length_toList
 have et:t.data.toList.length=t.size:=Array.length_toList
 have eu:u.data.toList.length=u.size:=Array.length_toList
 have ez:u.size=s.size+t.size+1:=by rw [← eu,hu,List.length_append,List.length_cons]; omega
 have hl1:=stp_len s.data.toList
 obtain ⟨q,us,⟨e,he,hq⟩,h4,h5⟩:=toks_join (m:=t.data.toList) (Q:=fun us=>∃ e:Tk,e.1=5∧Go2 [e] ts2 us) (fun N p hN=>by obtain ⟨e,us,k1,k2,k3⟩:=toks_shift _ _ _ g1 N p hN; exact ⟨us,k2,e,k1,k3⟩) _ _ _ (stp_stp _) h1 (u.size+1) (clsN blaB u.data.toList) (by omega)
 have hT:tokensP u = .ok us:=by
  rw [stp_app,stp_stp,← stp_app,← hu] at h4
  exact h4
 obtain ⟨a,ea,k1⟩:=stm_go _ _ _ _ h5 h2
 obtain ⟨b,eb,k2⟩:=stm_go _ _ _ _ hq g2
 rw [List.nil_append] at ea eb
 subst ea
 subst eb
 have h6:=k1 [] (61 - a.length) (by simp; omega)
 rw [Nat.sub_add_cancel (by omega),List.nil_append] at h6
 have h7:=k2 a (61 - a.length - b.length) (by omega)
 rw [Nat.sub_add_cancel (by omega)] at h7
 have h8:statementsP (61 - a.length - b.length) (a ++ b) [e] = .ok (a ++ b,[e]):=by
  obtain ⟨k,hk⟩:∃ k,61 - a.length - b.length=k+1:=⟨60 - a.length - b.length,by omega⟩
  rw [hk,statementsP,if_pos (show (nowP [e]).1=5 from he)]
 have hw:(wrongC (a ++ b)).1=0:=by
  rw [wrongC_ok] at h3 g3 ⊢
  refine ⟨by simp; omega,fun x hx=>?_⟩
  rcases List.mem_append.1 hx with hx | hx
  ·exact h3.2 x hx
  ·exact g3.2 x hx
 unfold readP
 rw [if_neg (by omega),hT]
 simp only
 rw [h6,h7,h8]
 simp only
 rw [if_pos hw]
set_option maxHeartbeats 8000000

abbrev aliveT:ByteArray:=⟨#[115,104,111,119,32,115,101,108,101,99,116,32,97,32,43,32,49,32,97,115,32,98,32,102,114,111,109,32,116,32,119,104,101,114,101,32,110,111,116,32,97,32,105,115,32,110,117,108,108,32,59]⟩
def okB (r:Except Er (List Stm)):Bool:=match r with
 | .ok [s]=>s.kind == 5 && (match s.query.parts with | [p]=>(match p.items with | [i]=>i.2.data.toList == [98] | _=>false) && p.wher.k == 3 | _=>false)
 | _=>false
theorem okB_inv {r:Except Er (List Stm)} (h:okB r=true):∃ s p i,r = .ok [s]∧s.kind=5∧s.query.parts = [p]∧p.items = [i]∧i.2=⟨#[98]⟩∧p.wher.k=3:=by
 unfold okB at h
 split at h
 ·rename_i s
  simp only [Bool.and_eq_true,beq_iff_eq] at h
  obtain ⟨h1,h2⟩:=h
  split at h2
  ·rename_i p hp
   simp only [Bool.and_eq_true,beq_iff_eq] at h2
   obtain ⟨h2,h3⟩:=h2
   split at h2
   ·rename_i i hi
    refine ⟨s,p,i,rfl,h1,hp,hi,?_,h3⟩
    apply ByteArray.ext
    apply Array.ext'
    simpa using h2
   ·cases h2
  ·cases h2
 ·cases h
theorem alive_ok:okB (readP aliveT)=true:=by decide +kernel
theorem LsE.one {α:Type} {En:EnT α} {size:Nat} {S:Nat→Prop} {W:World} {a:Option Addr} {x:α} (h:LsE En size S W a [x]):∃ b off cs,a=some ⟨b,off,none⟩∧AtL W b off cs∧En S W x cs:=by
 obtain ⟨b,off,cs,h1,h2,h3⟩:=h.get (i:=0) (by simp)
 refine ⟨b,off,cs,h1,?_,h3⟩
 simpa using h2
theorem alive_at {w:World} (hg:Gl w):Calls Tryz.prog 6 #[] w (Yes w):=by
 obtain ⟨s,p,i,hr,h1,h2,h3,h4,h5⟩:=okB_inv alive_ok
 have con:=Read_at aliveT hg
 rw [hr] at con
 simp only [listOf,errOf] at con
 clear hr hg
 go_enter Tryz.func6,Tryz.ntmps6
 go_upto_region 1 with fail
 go_wp2_with fail
 refine con.mono ?_
 rintro e w2 ⟨hb2,a,cap,rfl,hls⟩
 clear con
 obtain ⟨b1,o1,_,rfl,t1,a1,c1,p1,d1,p2,d2,p3,d3,a2,c2,a3,c3,rfl,_,l2,_⟩:=hls.one
 rw [h2] at l2
 obtain ⟨b2,o2,_,rfl,t2,e1,f1,e2,f2,e3,f3,e4,f4,e5,f5,rfl,l1,_⟩:=l2.one
 rw [h3] at l1
 obtain ⟨b3,o3,_,rfl,t3,g1,k1,rfl,_⟩:=l1.one
 clear hls
 have hal:Below w2.heap.size w2 (w2.alloc (.cells #[.int .i64 0,.int .i64 0] 26)):=(Below.refl _ _).alloc (Nat.le_refl _) _
 have QF:=heap_new w2 #[.int .i64 0,.int .i64 0] 26
 go_upto_region 2 with fail
 generalize w2.alloc (.cells #[.int .i64 0,.int .i64 0] 26)=w3 at *
 obtain ⟨x0,_⟩:=cells2 QF
 have T1:=t1.nx hal
 have T2:=t2.nx hal
 have T3:=t3.nx hal
 have y0:w3.cell? ⟨b1,o1,none⟩=some (.int .i64 5):=by have:=T1.2 0 _ rfl; rwa [h1] at this
 have y3:w3.cell? ⟨b1,o1+3,none⟩=some (.slice (some ⟨b2,o2,none⟩) 1 d1):=by have:=T1.2 3 _ rfl; rwa [h2] at this
 have z2:w3.cell? ⟨b2,o2+2,none⟩=some (.slice (some ⟨b3,o3,none⟩) 1 f1):=by have:=T2.2 2 _ rfl; rwa [h3] at this
 have z6:w3.cell? ⟨b2,o2+6,none⟩=some (.int .i64 3):=by have:=T2.2 6 _ rfl; rwa [h5] at this
 have u7:w3.cell? ⟨b3,o3+7,none⟩=some (.string ⟨#[98]⟩):=by have:=T3.2 7 _ rfl; rwa [h4] at this
 have A:=chain hb2 hal
 clear T1 T2 T3 t1 t2 t3 hb2 hal QF
 go_wp2_with fail
 exact bodyPost_ret (results_tmp rfl _ _ _) rfl ⟨by first | rfl | trivial,A⟩
set_option maxHeartbeats 16000000

theorem wpList_append_ls {ops:Array Oper} {rest:List Oper} {w:World} {o:Oper} {a:Act} {Q:Exit→Act→World→Prop} (hw:Region.wanted o (yielded ops a.tmps)=true) (s x:Operand)
  (ho:o.op = .call { callee:=.builtin .append,args:=#[s,x],argTypes:=#[23,23] })
  {base B:Nat} {v:Value} {l1 l2:List Stm} (hs:a.eval s=v) (h1:OwnE En16 49 16 base (fun _=>True) w v l1) {k:Nat} (hv:v.ownBlock=some k) (hB:B≤k) {ad:Option Addr} {c:Nat} (hx:a.eval x = .slice ad l2.length c) (h2:LsE En16 16 (fun b=>b<B) w ad l2) (hn:l1.length+l2.length≤60) (hbase:base≤w.heap.size)
  (h:∀ v' w',OwnE En16 49 16 base (fun _=>True) w' v' (l1 ++ l2)→w.grownBy w' v.ownBlock→(v'.ownBlock=v.ownBlock∨v'.ownBlock=some w.heap.size)→wpList Tryz.prog ops Q rest (a.put o.dst v') w'):wpList Tryz.prog ops Q (o :: rest) a w :=
 wpList_step fun K hK=>by
  rw [if_pos hw]
  exact wp_append_ls s x ho hs h1 hv hB hx h2 hn hbase fun v' w' k1 k2 k3=>hK _ _ (h v' w' k1 k2 k3)
theorem err_zero {s:ByteArray} (h:(errOf (readP s)).1=0):readP s = .ok (listOf (readP s)):=by
 rcases hr:readP s with c | l
 ·rw [hr] at h; exact absurd h (read_err hr)
 ·rfl
theorem read_bd {s:ByteArray} {a:List Stm} (h:readP s = .ok a):BdL BdS a:=by
 obtain ⟨_,ts,r,_,h2,_⟩:=read_inv h
 exact (bd_statements 61 [] (by simp) (by simp)).h h2
theorem LsE.low {S:Nat→Prop} {W:World} {a:Option Addr} {l:List Stm} (h:LsE En16 16 S W a l):LsE En16 16 (fun b=>b<W.heap.size) W a l:=h.mono en16 fun _ _ hb=>hb
theorem LsE.by_grown {B:Nat} {W W':World} {row:Option Nat} {a:Option Addr} {l:List Stm} (h:LsE En16 16 (fun b=>b<B) W a l) (hg:W.grownBy W' row) (hr:∀ k,row=some k→B≤k):LsE En16 16 (fun b=>b<B) W' a l :=
 h.keep en16 ⟨hg.size,fun b hb hl=>hg.block b hl (fun e=>by have:=hr b e.symm; have:b<B:=hb; omega)⟩
theorem sqlJoined_at (s t:ByteArray) {w:World} (hg:Gl w):Calls Tryz.prog 3 #[.string s,.string t] w (Yes w):=by
 have con:=alive_at hg
 go_enter Tryz.func3,Tryz.ntmps3
 go_wp2_with fail
 refine con.mono ?_
 rintro e w1 ⟨rfl,hb1⟩
 have hg1:=hg.next hb1
 clear con hg
 have con:=Read_at s hg1
 have e1:=@err_zero s
 have i1:∀ a,readP s = .ok a→s.size≤4000:=fun a h=>(read_inv h).1
 generalize hP1:readP s=P1 at con e1 i1
 generalize hL1:listOf P1=l1 at con e1
 generalize hR1:errOf P1=r1 at con e1
 go_wp2_with fail
 refine con.mono ?_
 rintro e w2 ⟨hb2,a,ca,rfl,la⟩
 clear con
 have hal2:Below w2.heap.size w2 (w2.alloc (.cells #[.int .i64 r1.1,.int .i64 r1.2] 26)):=(Below.refl _ _).alloc (Nat.le_refl _) _
 have Q2:=heap_new w2 #[.int .i64 r1.1,.int .i64 r1.2] 26
 go_upto_region 4 with fail
 generalize w2.alloc (.cells #[.int .i64 r1.1,.int .i64 r1.2] 26)=w3 at *
 have HA:Hid (LsE En16 16 (fun _=>True) w3 a l1):=(la.mono en16 fun _ _ _=>trivial).nx en16 hal2
 have A3:=chain hb1 (chain hb2 hal2)
 have hg3:=hg1.next (chain hb2 hal2)
 clear la hb1 hb2 hal2 hg1
 have con:=Read_at t hg3
 have e2:=@err_zero t
 have i2:∀ a,readP t = .ok a→t.size≤4000:=fun a h=>(read_inv h).1
 generalize hP2:readP t=P2 at con e2 i2
 generalize hL2:listOf P2=l2 at con e2
 generalize hR2:errOf P2=r2 at con e2
 go_wp2_with fail
 refine con.mono ?_
 rintro e w4 ⟨hb4,b,cb,rfl,lb⟩
 clear con
 have hal4:Below w4.heap.size w4 (w4.alloc (.cells #[.int .i64 r2.1,.int .i64 r2.2] 26)):=(Below.refl _ _).alloc (Nat.le_refl _) _
 have Q4:=heap_new w4 #[.int .i64 r2.1,.int .i64 r2.2] 26
 go_upto_region 5 with fail
 generalize w4.alloc (.cells #[.int .i64 r2.1,.int .i64 r2.2] 26)=w5 at *
 have HB:Hid (LsE En16 16 (fun _=>True) w5 b l2):=(lb.mono en16 fun _ _ _=>trivial).nx en16 hal4
 have D5:=chain hb4 hal4
 have HA5:Hid (LsE En16 16 (fun _=>True) w5 a l1):=HA.out.nx en16 D5
 have A5:=chain A3 D5
 have hg5:=hg3.next D5
 have Q2b:=(D5.block _ (lt_of_heap Q2)).trans Q2
 have x0:w5.cell? ⟨w2.heap.size,0,none⟩=some (.int .i64 r1.1):=cell_of (i:=0) Q2b rfl
 have y0:w5.cell? ⟨w4.heap.size,0,none⟩=some (.int .i64 r2.1):=cell_of (i:=0) Q4 rfl
 have HG:Hid (Gl w5):=hg5
 have HE1:Hid (r1.1=0→P1 = .ok l1):=e1
 have HE2:Hid (r2.1=0→P2 = .ok l2):=e2
 have HI1:Hid _:=i1
 have HI2:Hid _:=i2
 have HP1:Hid _:=hP1
 have HP2:Hid _:=hP2
 clear lb hb4 hal4 hg3 D5 A3 HA Q2 Q2b Q4 hg5 e1 e2 i1 i2 hP1 hP2 hL1 hL2 hR1 hR2
 have fin:∀ (v:Value) (W:World),Below w.heap.size w W→v = .bool true→(Ending.returned v = .returned (.bool true)∧Below w.heap.size w W):=fun v W h e=>by subst e; exact ⟨rfl,h⟩
 by_cases E1:r1.1=0
 case neg =>
  have b1:(r1.1 != 0)=true:=by simpa using E1
  clear E1 HE1 HE2
  go_wp2_with fail
  exact bodyPost_ret (results_tmp rfl _ _ _) rfl (fin _ _ A5 rfl)
 have b1:(r1.1 != 0)=false:=by simpa using E1
 have F1:=HE1.out E1
 have S1:=HI1.out _ F1
 clear E1 HE1 HI1
 by_cases E2:r2.1=0
 case neg =>
  have b2:(r2.1 != 0)=true:=by simpa using E2
  clear E2 HE2 F1 S1
  go_wp2_with fail
  exact bodyPost_ret (results_tmp rfl _ _ _) rfl (fin _ _ A5 rfl)
 have b2:(r2.1 != 0)=false:=by simpa using E2
 have F2:=HE2.out E2
 have S2:=HI2.out _ F2
 clear E2 HE2 HI2
 have R1:readP s = .ok l1:=HP1.out.trans F1
 have R2:readP t = .ok l2:=HP2.out.trans F2
 have N1:=(read_bd R1).1
 have N2:=(read_bd R2).1
 have HR:Hid (readP s = .ok l1∧readP t = .ok l2):=⟨R1,R2⟩
 clear F1 F2 HP1 HP2 R1 R2
 by_cases hz:s.size+t.size+1≤4000
 case neg =>
  have hz2:(4000:Int)<(s.size:Int)+(t.size:Int)+1:=by omega
  clear hz
  go_wp2_with fail
  exact bodyPost_ret (results_tmp rfl _ _ _) rfl (fin _ _ A5 rfl)
 have hz2:¬ (4000:Int)<(s.size:Int)+(t.size:Int)+1:=by omega
 by_cases hn:l1.length+l2.length≤60
 case neg =>
  have hn2:(60:Int)<(l1.length:Int)+(l2.length:Int):=by omega
  clear hn hz
  go_wp2_with fail
  exact bodyPost_ret (results_tmp rfl _ _ _) rfl (fin _ _ A5 rfl)
 have hn2:¬ (60:Int)<(l1.length:Int)+(l2.length:Int):=by omega
 have hu:(s ++ ⟨#[10]⟩ ++ t).data.toList=s.data.toList ++ 10 :: t.data.toList:=by simp
 have RJ:=read_join HR.out.1 HR.out.2 hu hz hn
 obtain ⟨l,hl⟩:∃ l,l1 ++ l2=l:=⟨_,rfl⟩
 rw [hl] at RJ
 have bd:BdL BdS l:=read_bd RJ
 have con:=Read_at (s ++ ⟨#[10]⟩ ++ t) HG.out
 rw [RJ] at con
 simp only [listOf,errOf] at con
 have HN:Hid (l1.length+l2.length≤60∧BdL BdS l):=⟨hn,bd⟩
 have HLL:Hid (l1 ++ l2=l):=hl
 clear hn hz hu RJ bd HR hl
 go_wp2_with fail
 refine con.mono ?_
 rintro e w6 ⟨hb6,c,cc,rfl,lc⟩
 clear con b1 b2 x0 y0 hz2 hn2 N1 N2 S1 S2 HG
 have hal6:Below w6.heap.size w6 (w6.alloc (.cells #[.int .i64 0,.int .i64 0] 26)):=(Below.refl _ _).alloc (Nat.le_refl _) _
 have Q6:=heap_new w6 #[.int .i64 0,.int .i64 0] 26
 go_upto_region 8 with fail
 generalize w6.alloc (.cells #[.int .i64 0,.int .i64 0] 26)=w7 at *
 have D7:=chain hb6 hal6
 have A7:=chain A5 D7
 have LC:=((lc.mono en16 fun _ _ _=>trivial).nx en16 hal6:LsE En16 16 (fun _=>True) w7 c l).low
 have LA:=(HA5.out.nx en16 D7).low
 have LB:=(HB.out.nx en16 D7).low
 have x0:w7.cell? ⟨w6.heap.size,0,none⟩=some (.int .i64 0):=cell_of (i:=0) Q6 rfl
 have hal8:Below w7.heap.size w7 (w7.alloc (.cells #[] 49)):=(Below.refl _ _).alloc (Nat.le_refl _) _
 have O8:OwnE En16 49 16 w7.heap.size (fun _=>True) (w7.alloc (.cells #[] 49)) (.slice (some ⟨w7.heap.size,0,none⟩) 0 0) ([]:List Stm):=⟨[],World.ownsRow_made w7 #[] 0 (Nat.le_refl _) (Nat.zero_le _) rfl,fun i hi=>by simp at hi⟩
 have LA8:=LA.nx en16 hal8
 have LB8:Hid (LsE En16 16 (fun b=>b<w7.heap.size) (w7.alloc (.cells #[] 49)) b l2):=LB.nx en16 hal8
 have LC8:Hid (LsE En16 16 (fun b=>b<w7.heap.size) (w7.alloc (.cells #[] 49)) c l):=LC.nx en16 hal8
 have A8:=chain A7 hal8
 have z8:w7.heap.size≤(w7.alloc (.cells #[] 49)).heap.size:=hal8.size
 clear hb6 hal6 Q6 D7 LC LA LB lc A5 HA5 HB
 have hN1:([]:List Stm).length+l1.length≤60:=by have:=HN.out.1; simp; omega
 go_wp2_with (first | (at_builtin; refine wpList_append_ls rfl _ _ rfl rfl O8 rfl (Nat.le_refl _) rfl LA8 hN1 z8 ?_))
 intro v1 w9 O9 g9 d9
 have r8:∀ k,Value.ownBlock (.slice (some ⟨w7.heap.size,0,none⟩) 0 0)=some k→w7.heap.size≤k:=fun k e=>Nat.le_of_eq (Option.some.inj e)
 have A9:=A8.grown g9 A8.size (fun k e=>Nat.le_trans A7.size (r8 k e))
 have LB9:=LB8.out.by_grown g9 r8
 have LC9:=LC8.out.by_grown g9 r8
 obtain ⟨k9,hk9,hB9⟩:∃ k,v1.ownBlock=some k∧w7.heap.size≤k:=by
  rcases d9 with d | d
  ·exact ⟨_,d,Nat.le_refl _⟩
  ·exact ⟨_,d,by omega⟩
 have z9:w7.heap.size≤w9.heap.size:=Nat.le_trans z8 g9.size
 have hN2:=HN.out.1
 clear O8 LA8 LB8 LC8 A8 z8 g9 d9 r8 hN1 hal8
 go_wp2_with (first | (at_builtin; refine wpList_append_ls rfl _ _ rfl rfl O9 hk9 hB9 rfl LB9 hN2 z9 ?_))
 intro v2 w10 O10 g10 d10
 rw [HLL.out] at O10
 have r9:∀ k,some k9=some k→w7.heap.size≤k:=fun k e=>by rw [← Option.some.inj e]; exact hB9
 have A10:=A9.grown g10 A9.size (fun k e=>Nat.le_trans A7.size (r9 k e))
 have LC10:=LC9.by_grown g10 r9
 obtain ⟨a2,c2,rfl,l10⟩:=O10.ls en16 (fun _ _=>trivial)
 have con:=same_at l HN.out.2 c a2 cc c2 w10 ⟨LC10.mono en16 (fun _ _ _=>trivial),l10⟩
 clear O9 O10 LB9 LC9 LC10 l10 g10 d10 hN2 A9 z9 hk9 hB9 r9 HN A7 HLL
 go_wp2_with fail
 refine con.mono ?_
 rintro e w11 ⟨rfl,hb11⟩
 go_wp2_with fail
 exact bodyPost_ret (results_tmp rfl _ _ _) rfl (fin _ _ (chain A10 hb11) rfl)
set_option maxHeartbeats 4000000

theorem chunk {α:Type} (l:List α) {c:Nat} (hc:0<c) (j:Nat):l[j]? = ((l.drop (j / c*c)).take c)[j % c]?:=by
 have hm:=Nat.mod_lt j hc
 rw [List.getElem?_take_of_lt hm,List.getElem?_drop]
 congr 1
 rw [Nat.mul_comm]
 exact (Nat.div_add_mod j c).symm
theorem flat_chunk {α β:Type} {g:α→List β} {c:Nat} (hg:∀ x,(g x).length=c):∀ (l:List α) (i:Nat),((l.flatMap g).drop (i*c)).take c=match l[i]? with | some x=>g x | none=>[]
 | [],i=>by simp
 | x :: l,0=>by
  simp only [Nat.zero_mul,List.drop_zero,List.flatMap_cons,List.getElem?_cons_zero]
  rw [List.take_append_of_le_length (by rw [hg]; exact Nat.le_refl _),List.take_of_length_le (by rw [hg]; exact Nat.le_refl _)]
 | x :: l,i+1=>by
  rw [List.flatMap_cons,List.drop_append,List.getElem?_cons_succ,← flat_chunk hg l i]
  congr 1
  rw [hg,Nat.add_mul,Nat.one_mul,Nat.add_sub_cancel,List.drop_of_length_le (by rw [hg]; omega),List.nil_append]
abbrev strD (b:List UInt8):DataW Unit:=.lit (.string b)
abbrev strV (b:List UInt8):Value:=.string ⟨b.toArray⟩
theorem str_eq {s:ByteArray} {b:List UInt8} (h:s.data.toList=b):s=⟨b.toArray⟩:=by
 apply ByteArray.ext
 apply Array.ext'
 simpa using h
theorem cells_of_strs {P:Program} {w:World} {base:Nat} {sp:Nat→Bool} {held:Bool} {fuel:Nat} {t e:TypeId} {n:Nat} {cs:List Value} {bs:List (List UInt8)} {p:List MemPlace} {enc:TypeId × Value→Unit}
  (ht:P.underlying t=some (.array n e)) (he:P.underlying e=some .string) (hce:P.cellsOf e=1) (hct:P.cellsOf t=n) (h:DataW.trod enc P w base sp held fuel t cs=some (.agg (bs.map strD),p)):∀ i,i<n→cs[i]? = (bs.map strV)[i]?:=by
 obtain ⟨xs,m,_,hx,hl,hn,hf⟩:=DataW.trod_array ht h
 intro i hi
 have h1:=hf i hi
 rw [hce,List.getElem?_eq_getElem (by omega)] at h1
 obtain ⟨s,hc,h2,_⟩:=DataW.trod_string he h1
 have h3:cs[i]? = some (.string s):=by
  have:=congrArg (·[0]?) hc
  simpa [List.getElem?_take,List.getElem?_drop] using this
 have h4:(bs.map strD)[i]? = some (.lit (.string s.data.toList)):=by
  have e:=congrArg Prod.fst hx
  have e:(DataW.agg (bs.map strD):DataW Unit) = .agg (xs.map (·.1)):=e
  injection e with e
  rw [e,List.getElem?_map,List.getElem?_eq_getElem (by omega),h2]
  rfl
 rw [List.getElem?_map] at h4 ⊢
 obtain ⟨b,hb,h5⟩:=Option.map_eq_some_iff.1 h4
 rw [hb,h3]
 injection h5 with h5
 injection h5 with h5
 show some (Value.string s)=some (strV b)
 rw [str_eq h5.symm]
abbrev InfD (r:Int × List UInt8 × Int):DataW Unit:=.agg [.lit (.int .i64 r.1),.lit (.string r.2.1),.lit (.int .i64 r.2.2)]
abbrev InfV (r:Int × List UInt8 × Int):List Value:=[.int .i64 r.1,strV r.2.1,.int .i64 r.2.2]
theorem cells_of_infs {P:Program} {w:World} {base:Nat} {sp:Nat→Bool} {held:Bool} {fuel:Nat} {t e ti ts:TypeId} {f0 f1 f2:Field} {n:Nat} {cs:List Value} {rs:List (Int × List UInt8 × Int)} {p:List MemPlace} {enc:TypeId × Value→Unit}
  (ht:P.underlying t=some (.array n e)) (he:P.underlying e=some (.struct #[f0,f1,f2])) (hf0:f0.type=ti∧f0.offset=0) (hf1:f1.type=ts∧f1.offset=1) (hf2:f2.type=ti∧f2.offset=2) (hti:P.underlying ti=some (.int .i64)) (hts:P.underlying ts=some .string) (hce:P.cellsOf e=3) (hci:P.cellsOf ti=1) (hcs:P.cellsOf ts=1) (h:DataW.trod enc P w base sp held fuel t cs=some (.agg (rs.map InfD),p)):∀ j,j<n*3→cs[j]? = (rs.flatMap InfV)[j]?:=by
 obtain ⟨xs,m,_,hx,hl,hn,hf⟩:=DataW.trod_array ht h
 have key:∀ i,i<n→(cs.drop (i*3)).take 3=((rs.flatMap InfV).drop (i*3)).take 3:=by
  intro i hi
  have h1:=hf i hi
  rw [hce,List.getElem?_eq_getElem (by omega)] at h1
  obtain ⟨y0,y1,y2,m2,h2,h3,k0,k1,k2⟩:=Deep.trod_struct3 he h1
  rw [hf0.1,hf0.2,hci] at k0
  rw [hf1.1,hf1.2,hcs] at k1
  rw [hf2.1,hf2.2,hci] at k2
  obtain ⟨z0,c0,rfl,_⟩:=DataW.trod_int hti k0
  obtain ⟨s,c1,rfl,_⟩:=DataW.trod_string hts k1
  obtain ⟨z2,c2,rfl,_⟩:=DataW.trod_int hti k2
  rw [hce] at h3
  have h4:(cs.drop (i*3)).take 3 = [.int .i64 z0,.string s,.int .i64 z2]:=by
   generalize (cs.drop (i*3)).take 3=l at *
   match l,h3 with
   | [a,b,c],_ =>
    simp only [List.drop_zero,List.take_succ_cons,List.take_zero,List.drop_succ_cons,List.cons.injEq,and_true] at c0 c1 c2
    rw [c0,c1,c2]
  have h5:(rs.map InfD)[i]? = some (.agg [.lit (.int .i64 z0),.lit (.string s.data.toList),.lit (.int .i64 z2)]):=by
   have e:=congrArg Prod.fst hx
   have e:(DataW.agg (rs.map InfD):DataW Unit) = .agg (xs.map (·.1)):=e
   injection e with e
   rw [e,List.getElem?_map,List.getElem?_eq_getElem (by omega),h2]
   rfl
  rw [List.getElem?_map] at h5
  obtain ⟨r,hr,h6⟩:=Option.map_eq_some_iff.1 h5
  rw [h4,flat_chunk (g:=InfV) (c:=3) (fun _=>rfl),hr]
  simp only [InfD,DataW.agg.injEq,List.cons.injEq,DataW.lit.injEq,Lit.int.injEq,Lit.string.injEq,true_and,and_true] at h6
  obtain ⟨h7,h8,h9⟩:=h6
  show _=InfV r
  rw [str_eq h8.symm,← h7,← h9]
 intro j hj
 rw [chunk cs (by decide:0<3),chunk (rs.flatMap InfV) (by decide:0<3),key (j / 3) (by omega)]
def sigBs:List (List UInt8):=[[60,62],[60,61],[62,61],[124,124],[60],[62],[61],[43],[45],[42],[40],[41],[44],[46],[59]]
def infRs:List (Int × List UInt8 × Int):=[(5,[111,114],1),(4,[97,110,100],2),(6,[61],4),(7,[60,62],4),(8,[60],4),(9,[60,61],4),(10,[62],4),(11,[62,61],4),(12,[43],5),(13,[45],5),(14,[42],6),(15,[124,124],7)]
theorem gl_of {W:World} (h:laidMet Tryz.prog [("tidemark/sql.signs",.agg (sigBs.map strD)),("tidemark/sql.infixes",.agg (infRs.map InfD))] W):Gl W:=by
 obtain ⟨ps,⟨g0,t0,cs0,f0,p0,q0,hg0,ht0,hv0,hd0,⟨g1,t1,cs1,f1,p1,q1,hg1,ht1,hv1,hd1,_,_⟩,_⟩,_⟩:=h
 have G0:Tryz.prog.globalNamed "tidemark/sql.signs" = some 0:=by kernel_rfl
 have G1:Tryz.prog.globalNamed "tidemark/sql.infixes" = some 1:=by kernel_rfl
 have T0:(Tryz.prog.globals[0]?).map (·.type)=some 167:=by kernel_rfl
 have T1:(Tryz.prog.globals[1]?).map (·.type)=some 216:=by kernel_rfl
 obtain rfl:=Option.some.inj (G0.symm.trans hg0)
 obtain rfl:=Option.some.inj (G1.symm.trans hg1)
 obtain rfl:=Option.some.inj (T0.symm.trans ht0)
 obtain rfl:=Option.some.inj (T1.symm.trans ht1)
 have s0:=cells_of_strs Tryz.underlying167 Tryz.underlying9 (by kernel_rfl) (by kernel_rfl) hd0
 have s1:=cells_of_infs (ti:=3) (ts:=9) Tryz.underlying216 Tryz.underlying194 ⟨rfl,rfl⟩ ⟨rfl,rfl⟩ ⟨rfl,rfl⟩ Tryz.underlying3 Tryz.underlying9 (by kernel_rfl) (by kernel_rfl) (by kernel_rfl) hd1
 refine ⟨?_,fun j hj=>?_,fun j hj=>?_⟩
 ·unfold World.var? at hv1
  rw [G1] at hv1
  simp only [Option.bind_some] at hv1
  rcases Nat.lt_or_ge 1 W.heap.size with h | h
  ·exact h
  ·simp [Array.getElem?_eq_none h] at hv1
 ·have:=World.var?_cell G1 hv1 j
  rw [this]
  have e:=s1 j (by omega)
  have ea:infA.toList=infRs.flatMap InfV:=rfl
  rw [← ea] at e
  simpa using e
 ·have:=World.var?_cell G0 hv0 j
  rw [this]
  have e:=s0 j (by omega)
  have ea:sigA.toList=sigBs.map strV:=rfl
  rw [← ea] at e
  simpa using e
theorem gl_of_laid {W:World} (h:laidMetH Tryz.prog Rows.sqlJoinedRow.laid W):Gl W:=by
 have h':laidMet Tryz.prog Rows.sqlJoinedRow.laid W:=h
 exact gl_of h'.tail.tail.tail.tail.tail
end Go.Proofs.YtklgehkhfidpmaaGreatDoor
