/- The laws' rising. -/
import Derived.Test.YtohjlfhmnmcndaaGreatB15
namespace Go.Proofs.YtohjlfhmnmcndaaGreat
open Go.RowKit Go.Lib Go.Shelf

/-- Plans whose lists of kids are no longer than any can be. -/
inductive PlKs:Pl→Prop
 | mk (k n:Int) (x:Ex) (xs:List Ex) (gs:List Ag) (ks:List Pl) (hl:ks.length≤100000000000000) (hk:∀ p ∈ ks,PlKs p):PlKs (.mk k n x xs gs ks)
theorem PlKs.len {p:Pl} (h:PlKs p):p.ks.length≤100000000000000:=by cases h with | mk _ _ _ _ _ _ hl _=>exact hl
theorem PlKs.ks {p:Pl} (h:PlKs p):∀ q ∈ p.ks,PlKs q:=by cases h with | mk _ _ _ _ _ _ _ hk=>exact hk
theorem look_ks {ts:List (List Int)}:∀ (p:Pl) (m d:Int),(lookX ts p m d).1=0→PlKs p :=
 Pl.ind fun k n x xs gs ks ih m d h=>by
  obtain ⟨_,h2,h3⟩:=look_kids h
  refine .mk _ _ _ _ _ _ (by rw [h2]; have:=kidsQ_le k; omega) fun p hp=>?_
  obtain ⟨m',hm⟩:=h3 p hp
  exact ih p hp m' (d+1) hm
def RisAt (p:Pl):Prop:=∀ (q:Pw) (w:World),PlKs p→PlB w.heap.size w p q→Calls Tryz.prog 19 #[plV p q] w fun e w'=>e = .returned (.bool (risB p))∧Below w.heap.size w w'
theorem riss_next {l:List Pl} {j:Nat} (h:j<l.length):rissB (l.drop j)=(risB l[j] && rissB (l.drop (j+1))):=by rw [List.drop_eq_getElem_cons h,rissB]
theorem riss_end {l:List Pl} {j:Nat} (h:l.length≤j):rissB (l.drop j)=true:=by rw [List.drop_eq_nil_of_le h,rissB]
theorem risB_eq (p:Pl):risB p=((p.k == 1 || p.k == 2 || p.k == 3 || p.k == 4 || p.k == 5 || p.k == 8 || p.k == 10 || p.k == 11) && rissB p.ks):=by cases p; rw [risB]; rfl

set_option maxRecDepth 100000 in
set_option maxHeartbeats 16000000 in
theorem rising_at (p:Pl) (ih:∀ r ∈ p.ks,RisAt r):RisAt p:=by
 rintro ⟨xa,xc,sa,sc,ga,gc,ka,kc⟩ w hlk hp
 have HLk:Hid (∀ r ∈ p.ks,PlKs r):=hlk.ks
 have hl2:=hlk.len
 clear hlk
 have hA:Below w.heap.size w (w.alloc (.cells #[.int .i64 p.k,.int .i64 p.n,.int .i64 p.x.k,.int .i64 p.x.v.1,.int .i64 p.x.v.2.1,.string p.x.v.2.2,.int .i64 p.x.c,.slice xa p.x.ks.length xc,.slice sa p.xs.length sc,.slice ga p.gs.length gc,.slice ka p.ks.length kc] 31)):=(Below.refl _ _).alloc (Nat.le_refl _) _
 have EL:=Elv.new w p ⟨xa,xc,sa,sc,ga,gc,ka,kc⟩ 31
 have IH:Hid (∀ r ∈ p.ks,RisAt r):=ih
 have HE:Hid (risB p=((p.k == 1 || p.k == 2 || p.k == 3 || p.k == 4 || p.k == 5 || p.k == 8 || p.k == 10 || p.k == 11) && rissB p.ks)):=risB_eq p
 generalize hr:risB p=r at HE ⊢
 have hks:PlAt w.heap.size w ka p.ks:=hp.ks
 clear hr ih hp
 obtain ⟨y0,y1,_,_,_,y10⟩:=EL
 simp only [Nat.zero_add] at y0 y1 y10
 unfold plV
 dsimp only
 go_enter Tryz.func19,Tryz.ntmps19
 go_upto_region 1 with fail
 generalize w.alloc (.cells #[.int .i64 p.k,.int .i64 p.n,.int .i64 p.x.k,.int .i64 p.x.v.1,.int .i64 p.x.v.2.1,.string p.x.v.2.2,.int .i64 p.x.c,.slice xa p.x.ks.length xc,.slice sa p.xs.length sc,.slice ga p.gs.length gc,.slice ka p.ks.length kc] 31)=wA at *
 by_cases hkk:(p.k == 1 || p.k == 2 || p.k == 3 || p.k == 4 || p.k == 5 || p.k == 8 || p.k == 10 || p.k == 11)=true
 rotate_left
 ·have hkk:(p.k == 1 || p.k == 2 || p.k == 3 || p.k == 4 || p.k == 5 || p.k == 8 || p.k == 10 || p.k == 11)=false:=by simpa using hkk
  have e:r=false:=by rw [HE.out,hkk]; rfl
  simp only [Bool.or_eq_false_iff] at hkk
  obtain ⟨⟨⟨⟨⟨⟨⟨h1,h2⟩,h3⟩,h4⟩,h5⟩,h8⟩,h10⟩,h11⟩:=hkk
  subst e
  clear HE
  go_wp2_with fail
  go_ret
  exact ⟨rfl,hA⟩
 have HR:Hid (r=rissB (p.ks.drop 0)):=by show _=_; rw [HE.out,hkk]; rfl
 have hc:((p.k == 1)=true)∨((p.k == 1)=false∧(p.k == 2)=true)∨((p.k == 1)=false∧(p.k == 2)=false∧(p.k == 3)=true)∨((p.k == 1)=false∧(p.k == 2)=false∧(p.k == 3)=false∧(p.k == 4)=true)∨((p.k == 1)=false∧(p.k == 2)=false∧(p.k == 3)=false∧(p.k == 4)=false∧(p.k == 5)=true)∨((p.k == 1)=false∧(p.k == 2)=false∧(p.k == 3)=false∧(p.k == 4)=false∧(p.k == 5)=false∧(p.k == 8)=true)∨((p.k == 1)=false∧(p.k == 2)=false∧(p.k == 3)=false∧(p.k == 4)=false∧(p.k == 5)=false∧(p.k == 8)=false∧(p.k == 10)=true)∨((p.k == 1)=false∧(p.k == 2)=false∧(p.k == 3)=false∧(p.k == 4)=false∧(p.k == 5)=false∧(p.k == 8)=false∧(p.k == 10)=false∧(p.k == 11)=true):=by
  revert hkk
  cases (p.k == 1) <;> cases (p.k == 2) <;> cases (p.k == 3) <;> cases (p.k == 4) <;> cases (p.k == 5) <;> cases (p.k == 8) <;> cases (p.k == 10) <;> cases (p.k == 11) <;> simp
 clear HE hkk
 rcases hc with h1 | ⟨h1,h2⟩ | ⟨h1,h2,h3⟩ | ⟨h1,h2,h3,h4⟩ | ⟨h1,h2,h3,h4,h5⟩ | ⟨h1,h2,h3,h4,h5,h8⟩ | ⟨h1,h2,h3,h4,h5,h8,h10⟩ | ⟨h1,h2,h3,h4,h5,h8,h10,h11⟩
 all_goals
  go_upto_region 12 with fail
  clear y0 y1 y10
  go_loopw [19] (fun i wr=>∃ j:Nat,j≤p.ks.length∧i = .int .i64 j∧Hid (r=rissB (p.ks.drop j))∧Below w.heap.size w wr) (fun i _=>p.ks.length - (intOf i).toNat)
  case atStart=>exact ⟨0,Nat.zero_le _,rfl,HR,hA⟩
  case round =>
   obtain ⟨j,hj,rfl,HT,hb⟩:=hrel
   clear HR hA
   by_cases hlt:j<p.ks.length
   ·obtain ⟨b,off,q1,rfl,hbl,E1,PB⟩:=(PlAt.next hb (Nat.le_refl _) hks).elem hlt
    obtain ⟨y0,y1,⟨y2,y3,y4,y5,y6,y7⟩,y8,y9,y10⟩:=E1
    have hjz:(j:Int)<(p.ks.length:Int):=by omega
    have hz:=hb.size
    have hal:Below wr.heap.size wr (wr.alloc (.cells #[.int .i64 p.ks[j].k,.int .i64 p.ks[j].n,.int .i64 p.ks[j].x.k,.int .i64 p.ks[j].x.v.1,.int .i64 p.ks[j].x.v.2.1,.string p.ks[j].x.v.2.2,.int .i64 p.ks[j].x.c,.slice q1.xa p.ks[j].x.ks.length q1.xc,.slice q1.sa p.ks[j].xs.length q1.sc,.slice q1.ga p.ks[j].gs.length q1.gc,.slice q1.ka p.ks[j].ks.length q1.kc] 31)):=(Below.refl _ _).alloc (Nat.le_refl _) _
    have EK:=Elv.new wr p.ks[j] q1 31
    have con:=IH.out p.ks[j] (List.getElem_mem hlt) q1 (wr.alloc (.cells #[.int .i64 p.ks[j].k,.int .i64 p.ks[j].n,.int .i64 p.ks[j].x.k,.int .i64 p.ks[j].x.v.1,.int .i64 p.ks[j].x.v.2.1,.string p.ks[j].x.v.2.2,.int .i64 p.ks[j].x.c,.slice q1.xa p.ks[j].x.ks.length q1.xc,.slice q1.sa p.ks[j].xs.length q1.sc,.slice q1.ga p.ks[j].gs.length q1.gc,.slice q1.ka p.ks[j].ks.length q1.kc] 31)) (HLk.out p.ks[j] (List.getElem_mem hlt)) (((PB.next hal hz).up hz).up hal.size)
    have HN:Hid (r=(risB p.ks[j] && rissB (p.ks.drop (j+1)))):=by show _=_; rw [HT.out,riss_next hlt]
    unfold plV at con
    clear HT PB
    go_upto_region 14 with fail
    clear y0 y1 y2 y3 y4 y5 y6 y7 y8 y9 y10
    generalize wr.alloc (.cells #[.int .i64 p.ks[j].k,.int .i64 p.ks[j].n,.int .i64 p.ks[j].x.k,.int .i64 p.ks[j].x.v.1,.int .i64 p.ks[j].x.v.2.1,.string p.ks[j].x.v.2.2,.int .i64 p.ks[j].x.c,.slice q1.xa p.ks[j].x.ks.length q1.xc,.slice q1.sa p.ks[j].xs.length q1.sc,.slice q1.ga p.ks[j].gs.length q1.gc,.slice q1.ka p.ks[j].ks.length q1.kc] 31)=wk at *
    obtain ⟨y0,y1,⟨y2,y3,y4,y5,y6,y7⟩,y8,y9,y10⟩:=EK
    simp only [Nat.zero_add] at y1 y2 y3 y4 y5 y6 y7 y8 y9 y10
    go_wp2_with fail
    refine con.mono ?_
    rintro e w5 ⟨rfl,hb5⟩
    clear con y0 y1 y2 y3 y4 y5 y6 y7 y8 y9 y10
    have hA5:=chain hb (chain hal hb5)
    generalize risB p.ks[j]=sb at *
    cases sb with
    | false =>
     have e:r=false:=by rw [HN.out]; rfl
     subst e
     clear HN
     go_wp2_with fail
     go_ret
     exact ⟨rfl,hA5⟩
    | true =>
     have HT':Hid (r=rissB (p.ks.drop (j+1))):=by show _=_; rw [HN.out]; rfl
     clear HN
     go_wp2_with fail
     go_roundw
     case rel=>exact ⟨j+1,by omega,by go_num,HT',hA5⟩
     case measure=>simp [intOf]; omega
   ·have e:r=true:=by rw [HT.out,riss_end (by omega)]
    have hjn:¬ (j:Int)<(p.ks.length:Int):=by omega
    subst e
    clear HT
    go_wp2_with fail
    go_ret
    exact ⟨rfl,hb⟩
theorem rising_all:∀ p,RisAt p:=Pl.ind fun kd n x xs gs ks ih=>rising_at (.mk kd n x xs gs ks) ih
end Go.Proofs.YtohjlfhmnmcndaaGreat
