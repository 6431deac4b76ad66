/- Together: T4, R1, R2, R3, VI. -/
import Derived.Test.YtoefpglknaiaeaaGreatB6
import Derived.Test.YtoefpglknaiaeaaGreatB7
import Derived.Test.YtoefpglknaiaeaaGreatB5
import Derived.Test.YtoefpglknaiaeaaGreatB14
/- The walk of the document's Fits. -/
namespace Go.Proofs.YtoefpglknaiaeaaGreat
open Go.RowKit

set_option maxHeartbeats 2000000 in
theorem refFits_at (cols:List Int) (row:List Vl) (ca:Option Addr) (ccap:Nat) (ra:Option Addr) (rcap:Nat) (w:World) (hc:IsAt w.heap.size w ca cols) (hs:SlAt w ra row) :
  Calls Tryz.prog 86 #[.slice ca cols.length ccap,.slice ra row.length rcap] w fun e w'=>e = .returned (.int .i64 (fitsL cols row))∧Below w.heap.size w w':=by
 have hl:=hs.1
 unfold maxLen at hl
 generalize hr:fitsL cols row=r
 have HR:Hid (fitsL cols row=r):=hr
 clear hr
 by_cases hlen:row.length=cols.length
 ·have HG:Hid (fitsG cols row=r):=by show fitsG cols row=r; rw [← HR.out,fitsL,if_neg (by simp [hlen])]
  have HL:Hid (row.length=cols.length):=hlen
  have q:((cols.length:Int) != (row.length:Int))=false:=by simp; omega
  clear HR hlen
  go_enter Tryz.func86,Tryz.ntmps86
  go_wp2_with fail
  go_loopw [14] (fun i wr=>∃ j:Nat,j≤row.length∧i = .int .i64 j∧Hid (fitsG cols row=fitsG (cols.drop j) (row.drop j))∧Below w.heap.size w wr) (fun i _=>row.length - (intOf i).toNat)
  case atStart=>exact ⟨0,Nat.zero_le _,rfl,rfl,Below.refl _ _⟩
  case round =>
   obtain ⟨j,hj,rfl,HE,hb⟩:=hrel
   have hz:=hb.size
   by_cases hlt:j<row.length
   ·have hlt':j<cols.length:=by have:=HL.out; omega
    obtain ⟨b,off,rfl,hbl,r0,r1,r2⟩:=(hs.next hb).elem hlt
    obtain ⟨b',off',rfl,hbl',c0⟩:=(hc.next hb (Nat.le_refl _)).elem hlt'
    generalize hv:row[j]=v at *
    generalize hcj:cols[j]=cj at *
    have HV:Hid (row[j]=v):=hv
    have HC:Hid (cols[j]=cj):=hcj
    clear hv hcj
    obtain ⟨k,n,s⟩:=v
    go_wp2_with fail
    refine (refWrong_any _ _ _ _).mono ?_
    rintro e w1 ⟨rfl,hb1⟩
    have hb1':=chain hb hb1
    have d0:=(hb1.cell (p:=⟨b,off+j*3,none⟩) hbl).trans r0
    have c1:=(hb1.cell (p:=⟨b',off'+j,none⟩) (by show b'<_; omega)).trans c0
    clear r0 r1 r2 c0
    by_cases hw:wrongF k n s=0
    ·rw [hw]
     have HW:Hid (wrongP row[j]=0):=by show wrongP row[j]=0; rw [HV.out]; exact hw
     clear hw
     have p0:=past_cell d0
     have p1:=past_cell c1
     haveI:Nonempty (Past w1):=⟨⟨_,Below.refl _ _⟩⟩
     by_cases kc:k=cj
     ·subst kc
      have HN:Hid (fitsG (cols.drop j) (row.drop j)=fitsG (cols.drop (j+1)) (row.drop (j+1))):=fitsG_next cols row j hlt hlt' HW.out (.inr (by rw [HV.out,HC.out]))
      go_wp2_with fail
      refine wp_region_past (by kernel_rfl) (by kernel_rfl) ?_
      repeat (go_big_quiet_step (fail))
      refine wpQuiet_nil ?_
      rintro w2 ⟨⟨v2,hb2⟩,h2⟩
      obtain rfl:w2=v2:=h2
      clear p0 p1 d0 c1
      go_wp2_with fail
      go_roundw
      case rel=>exact ⟨j+1,by omega,by go_num,HE.out.trans HN.out,chain hb1' hb2⟩
      case measure=>simp [intOf]; omega
     have q2:(k != cj)=true:=by simpa using kc
     by_cases k1:k=1
     ·subst k1
      have HN:Hid (fitsG (cols.drop j) (row.drop j)=fitsG (cols.drop (j+1)) (row.drop (j+1))):=fitsG_next cols row j hlt hlt' HW.out (.inl (by rw [HV.out]))
      go_wp2_with fail
      refine wp_region_past (by kernel_rfl) (by kernel_rfl) ?_
      repeat (go_big_quiet_step (fail))
      refine wpQuiet_nil ?_
      rintro w2 ⟨⟨v2,hb2⟩,h2⟩
      obtain rfl:w2=v2:=h2
      clear p0 p1 d0 c1
      go_wp2_with fail
      go_roundw
      case rel=>exact ⟨j+1,by omega,by go_num,HE.out.trans HN.out,chain hb1' hb2⟩
      case measure=>simp [intOf]; omega
     have q1:(k != 1)=true:=by simpa using k1
     have er:r=9:=by rw [← HG.out,HE.out,fitsG_type cols row j hlt hlt' HW.out (by rw [HV.out]; exact k1) (by rw [HV.out,HC.out]; exact kc)]
     subst er
     clear HG HE
     go_wp2_with fail
     refine wp_region_past (by kernel_rfl) (by kernel_rfl) ?_
     repeat (go_big_quiet_step (fail))
     refine wpQuiet_nil ?_
     rintro w2 ⟨⟨v2,hb2⟩,h2⟩
     obtain rfl:w2=v2:=h2
     clear p0 p1 d0 c1
     go_wp2_with fail
     go_ret
     exact ⟨rfl,chain hb1' hb2⟩
    ·have er:r=wrongF k n s:=by rw [← HG.out,HE.out,fitsG_wrong cols row j hlt hlt' (by rw [HV.out]; exact hw),HV.out]; rfl
     subst er
     clear HG HE
     have q3:(wrongF k n s != 0)=true:=by simpa using hw
     go_wp2_with fail
     go_ret
     exact ⟨rfl,hb1'⟩
   ·have er:r=0:=by rw [← HG.out,HE.out,fitsG_end cols row j (by omega)]
    subst er
    clear HG HE
    go_wp2_with fail
    go_ret
    exact ⟨rfl,hb⟩
 ·have er:r=8:=by rw [← HR.out,fitsL,if_pos hlen]
  subst er
  have q:((cols.length:Int) != (row.length:Int))=true:=by simp; omega
  clear HR
  go_enter Tryz.func86,Tryz.ntmps86
  go_wp2_with fail
  go_ret
  exact ⟨rfl,Below.refl _ _⟩
end Go.Proofs.YtoefpglknaiaeaaGreat
/- For the document's answer: rows of old and of new memory in a slice of the call's own; the walk of its Bare. -/
namespace Go.Proofs.YtoefpglknaiaeaaGreat
open Go.RowKit Go.Lib Go.Shelf

/-- A row's values lie below B, or in a block of values. -/
def Safe (B:Nat) (W:World) (a:Option Addr) (r:List Vl):Prop:=r = []∨TyAt W a∨∀ b off,a=some ⟨b,off,none⟩→b<B
theorem Safe.next {B:Nat} {W w1:World} {a:Option Addr} {r:List Vl} (h:Safe B W a r) (hb:Below W.heap.size W w1):Safe B w1 a r:=by
 rcases h with h | h | h
 ·exact .inl h
 ·exact .inr (.inl (h.next hb))
 ·exact .inr (.inr h)
def EncM (B:Nat) (W:World) (xs:List Value) (l:List Zp):Prop :=
 xs.length=l.length*2∧∀ (i:Nat) (h:i<l.length),∃ a cap,xs[i*2]? = some (.slice a l[i].1.length cap)∧xs[i*2+1]? = some (.int .i64 l[i].2)∧SlAt W a l[i].1∧Safe B W a l[i].1
theorem EncM.next {B:Nat} {W w1:World} {xs:List Value} {l:List Zp} (h:EncM B W xs l) (hb:Below W.heap.size W w1):EncM B w1 xs l :=
 ⟨h.1,fun i hi=>by
  obtain ⟨a,cap,h1,h2,h3,h4⟩:=h.2 i hi
  exact ⟨a,cap,h1,h2,h3.next hb,h4.next hb⟩⟩
theorem EncM.append {B:Nat} {W:World} {xs ys:List Value} {l t:List Zp} (h:EncM B W xs l) (k:EncM B W ys t):EncM B W (xs ++ ys) (l ++ t):=by
 have lx:=h.1
 have ly:=k.1
 refine ⟨by simp [lx,ly]; omega,fun i hi=>?_⟩
 by_cases hi':i<l.length
 ·obtain ⟨a',c',h1,h2,h3⟩:=h.2 i hi'
  rw [List.getElem_append_left hi']
  refine ⟨a',c',?_,?_,h3⟩
  ·rw [List.getElem?_append_left (by omega),h1]
  ·rw [List.getElem?_append_left (by omega),h2]
 ·have hi2:i - l.length<t.length:=by simp at hi; omega
  obtain ⟨a',c',h1,h2,h3⟩:=k.2 (i - l.length) hi2
  rw [List.getElem_append_right (by omega)]
  refine ⟨a',c',?_,?_,h3⟩
  ·rw [List.getElem?_append_right (by omega),← h1]; congr 1; omega
  ·rw [List.getElem?_append_right (by omega),← h2]; congr 1; omega
/-- A slice of the call's own holds these rows. -/
def OwnM (B:Nat) (W:World) (v:Value) (l:List Zp):Prop:=∃ xs,W.ownsRow B 47 2 v l.length xs∧EncM B W xs l
theorem OwnM.next {B:Nat} {W w1:World} {v:Value} {l:List Zp} (h:OwnM B W v l) (hb:Below W.heap.size W w1):OwnM B w1 v l:=by
 obtain ⟨xs,h1,h2⟩:=h
 exact ⟨xs,own_next h1 hb,h2.next hb⟩
/-- How a slice may lie: nil has no room; there is room for what there is. -/
structure Lie (a:Option Addr) (cap n:Nat):Prop where
 nil:a=none→cap=0
 room:n≤cap
 max:cap≤maxLen
theorem OwnM.zs {B:Nat} {W:World} {v:Value} {l:List Zp} (h:OwnM B W v l):∃ a cap,v = .slice a l.length cap∧ZsAt W a l∧Lie a cap l.length:=by
 obtain ⟨xs,h1,h2⟩:=h
 have h1':=h1
 obtain ⟨hx,h1 | ⟨g,cap,cur,e,hg,hh,hn,hc,hs,ht⟩⟩:=h1
 ·obtain ⟨rfl,h0⟩:=h1
  have:l = []:=List.eq_nil_of_length_eq_zero h0
  subst this
  exact ⟨none,0,rfl,⟨Nat.zero_le _,.inl rfl⟩,fun _=>rfl,by simp,Nat.zero_le _⟩
 ·subst e
  refine ⟨_,cap,rfl,⟨Nat.le_trans hn hc,.inr ⟨g,0,rfl,?_,?_⟩⟩,fun e=>(by cases e),hn,hc⟩
  ·exact (h1'.lt g rfl).2
  ·intro i hi
   obtain ⟨a,cp,e0,e1,e2,e3⟩:=h2.2 i hi
   refine ⟨?_,a,cp,?_,e2⟩
   ·rw [h1'.cellAt _ (by omega),← e1]; congr 1; omega
   ·rw [h1'.cellAt _ (by omega),← e0]; congr 1; omega

/-- Cells that hold bare values. -/
def EncV (xs:List Value) (l:List Vl):Prop:=xs.length=l.length*3∧∀ (i:Nat) (h:i<l.length),xs[i*3]? = some (.int .i64 l[i].1)∧xs[i*3+1]? = some (.int .i64 l[i].2.1)∧xs[i*3+2]? = some (.string l[i].2.2)
theorem EncV.push {xs:List Value} {l:List Vl} (h:EncV xs l) (v:Vl):EncV (xs ++ [.int .i64 v.1,.int .i64 v.2.1,.string v.2.2]) (l ++ [v]):=by
 have lx:=h.1
 refine ⟨by simp [lx]; omega,fun i hi=>?_⟩
 by_cases hi':i<l.length
 ·obtain ⟨h0,h1,h2⟩:=h.2 i hi'
  rw [List.getElem_append_left hi']
  refine ⟨?_,?_,?_⟩
  ·rw [List.getElem?_append_left (by omega),h0]
  ·rw [List.getElem?_append_left (by omega),h1]
  ·rw [List.getElem?_append_left (by omega),h2]
 ·have:i=l.length:=by simp at hi; omega
  subst this
  simp only [List.getElem_concat_length]
  refine ⟨?_,?_,?_⟩
  ·rw [List.getElem?_append_right (by omega)]; simp [lx]
  ·rw [List.getElem?_append_right (by omega)]; simp [lx]
  ·rw [List.getElem?_append_right (by omega)]; simp [lx]
end Go.Proofs.YtoefpglknaiaeaaGreat
/- The walk of the document's Put. -/
namespace Go.Proofs.YtoefpglknaiaeaaGreat
open Go.RowKit Go.Lib Go.Shelf

theorem ZsAt.take {W:World} {a:Option Addr} {z:List Zp} (h:ZsAt W a z) (k:Nat):ZsAt W a (z.take k):=by
 obtain ⟨h0,rfl | ⟨b,off,e,hlt,hr⟩⟩:=h
 ·exact ⟨by simp,.inl (by simp)⟩
 ·refine ⟨by rw [List.length_take]; omega,.inr ⟨b,off,e,hlt,fun i hi=>?_⟩⟩
  rw [List.length_take] at hi
  rw [List.getElem_take]
  exact hr i (by omega)
theorem ZsAt.drop {W:World} {b off:Nat} {z:List Zp} (h:ZsAt W (some ⟨b,off,none⟩) z) (k:Nat):ZsAt W (some ⟨b,off+k*2,none⟩) (z.drop k):=by
 obtain ⟨h0,rfl | ⟨b',off',e,hlt,hr⟩⟩:=h
 ·exact ⟨by simp,.inl (by simp)⟩
 ·injection e with e
  injection e with e1 e2 _
  subst e1 e2
  refine ⟨by rw [List.length_drop]; omega,.inr ⟨b,off+k*2,rfl,hlt,fun i hi=>?_⟩⟩
  rw [List.length_drop] at hi
  rw [List.getElem_drop]
  have:=hr (k+i) (by omega)
  rw [show off+(k+i)*2=off+k*2+i*2 by omega] at this
  exact this

end Go.Proofs.YtoefpglknaiaeaaGreat
/- The walks of the document's Wrong, Fit, Sum, Of and Weight. -/
namespace Go.Proofs.YtoefpglknaiaeaaGreat
open Go.RowKit Go.Lib Go.Shelf

set_option maxRecDepth 100000 in
set_option maxHeartbeats 4000000 in
theorem refWrongZ_at (a:Option Addr) (cap:Nat) (l:List Zp) (w:World) (h:ZsAt w a l) :
  Calls Tryz.prog 80 #[.slice a l.length cap] w fun e w'=>e = .returned (.int .i64 (wrongZ l))∧Below w.heap.size w w':=by
 have hl:=h.1
 unfold maxLen at hl
 by_cases h8:400<l.length
 ·have e:wrongZ l=5:=by simp [wrongZ,h8]
  rw [e]
  clear e
  go_enter Tryz.func80,Tryz.ntmps80
  go_wp2_with fail
  go_ret
  exact ⟨rfl,Below.refl _ _⟩
 ·have e:wrongZ l=goW none l:=by simp [wrongZ,h8]
  rw [e]
  clear e
  go_enter Tryz.func80,Tryz.ntmps80
  go_wp2_with fail
  go_loopw [10] (fun i w1=>∃ k:Nat,k≤l.length∧i = .int .i64 k∧Hid (goW none l=goW (prevOf l k) (l.drop k))∧Hid (∀ t (ht:t<l.length),t<k→wrongRowF l[t].1=0)∧Below w.heap.size w w1) (fun i _=>l.length - (intOf i).toNat)
  case atStart=>exact ⟨0,Nat.zero_le _,rfl,rfl,fun t _ ht=>absurd ht (Nat.not_lt_zero _),Below.refl _ _⟩
  case round =>
   obtain ⟨k,hk,rfl,HC,HA,hb⟩:=hrel
   by_cases hlt:k<l.length
   ·have i0:(0:Int)≤(k:Int):=by omega
    have i4:(k:Int)<(l.length:Int):=by omega
    obtain ⟨b,off,rfl,hbl,c1,ar,cr,c0,sr⟩:=(h.next hb).elem hlt
    have HZ:Hid (ZsAt w (some ⟨b,off,none⟩) l):=h
    clear h
    by_cases hw:wrongRowF l[k].1=0
    ·have Hw:Hid (wrongRowF l[k].1=0):=hw
     clear hw
     go_wp2_with fail
     refine (refRow_at _ _ _ _ sr).mono ?_
     rintro e w1 ⟨rfl,hb1⟩
     rw [Hw.out]
     have hb1':=chain1 hb hb1
     have e1:=(hb1.cell (p:=⟨b,_,none⟩) hbl).trans c1
     have e0:=(hb1.cell (p:=⟨b,_,none⟩) hbl).trans c0
     by_cases h0:l[k].2=0
     ·have HN:Hid (goW none l=3):=HC.out.trans (goW_zero l k hlt Hw.out (.inl h0))
      go_wp2_with fail
      go_ret
      exact ⟨ret_int HN.out.symm,hb1'⟩
     ·have g0:(l[k].2 == 0)=false:=by simpa using h0
      cases h1:inW l[k].2
      ·have HN:Hid (goW none l=3):=HC.out.trans (goW_zero l k hlt Hw.out (.inr h1))
       have H1:Hid (inW l[k].2=false):=h1
       clear h1
       go_wp2_with fail
       refine (refBig_any _ _).mono ?_
       rintro e w2 ⟨rfl,rfl⟩
       rw [H1.out]
       go_wp2_with fail
       go_ret
       exact ⟨ret_int HN.out.symm,hb1'⟩
      ·have H1:Hid (inW l[k].2=true):=h1
       clear h1
       by_cases hp:0<k
       ·obtain ⟨b',off',hh,hbl',⟨d1,ap,cp,d0,sp⟩,-⟩:=(HZ.out.next hb1').elem2 (j:=k - 1) (k:=k) (by omega) hlt
        simp only [Option.some.injEq,Addr.mk.injEq] at hh
        obtain ⟨rfl,rfl,-⟩:=hh
        have sr1:=sr.next hb1
        have j0:(0:Int)<(k:Int):=by omega
        have j1:(0:Int)≤(k:Int) - 1:=by omega
        have j2:(k:Int) - 1<(l.length:Int):=by omega
        have j3:((k:Int) - 1).toNat=k - 1:=by omega
        have p0:=past_cell d0
        have p1:=past_cell e0
        have HR:Hid (rightB (l[k - 1]'(by omega)).1=true):=((wrongRowF_zero _).1 (HA.out (k - 1) (by omega) (by omega))).2
        haveI:Nonempty (Past w1):=⟨⟨w1,Below.refl _ _⟩⟩
        have hbd:=cmpL_bd (l[k - 1]'(by omega)).1 l[k].1
        by_cases hc:0≤cmpL (l[k - 1]'(by omega)).1 l[k].1
        ·have HN:Hid (goW none l=2):=HC.out.trans (goW_form l k hlt Hw.out h0 H1.out hp hc)
         have hcm:(cmpL (l[k - 1]'(by omega)).1 l[k].1 != -1)=true:=by simp; omega
         clear hbd hc
         go_wp2_with fail
         refine (refBig_any _ _).mono ?_
         rintro e w2 ⟨rfl,rfl⟩
         rw [H1.out]
         go_wp2_with fail
         refine wp_region_past (by kernel_rfl) (by kernel_rfl) ?_
         repeat (go_big_quiet_step (first | (go_at_call 114; exact in_past (refRows_at _ _ _ _ _ _ _ (sp.next (Past.ok _)) (sr1.next (Past.ok _)) HR.out))))
         refine wpQuiet_nil ?_
         rintro w3 ⟨⟨v3,hb3⟩,h3⟩
         obtain rfl:w3=v3:=h3
         go_wp2_with fail
         go_ret
         exact ⟨ret_int HN.out.symm,chain1 hb1' hb3⟩
        ·have HN:Hid (goW none l=goW (prevOf l (k+1)) (l.drop (k+1))):=HC.out.trans (goW_next l k hlt Hw.out h0 H1.out (fun _=>hc))
         have hcm:cmpL (l[k - 1]'(by omega)).1 l[k].1 = -1:=by omega
         clear hbd hc
         go_wp2_with fail
         refine (refBig_any _ _).mono ?_
         rintro e w2 ⟨rfl,rfl⟩
         rw [H1.out]
         go_wp2_with fail
         refine wp_region_past (by kernel_rfl) (by kernel_rfl) ?_
         repeat (go_big_quiet_step (first | (go_at_call 114; exact in_past (refRows_at _ _ _ _ _ _ _ (sp.next (Past.ok _)) (sr1.next (Past.ok _)) HR.out))))
         refine wpQuiet_nil ?_
         rintro w3 ⟨⟨v3,hb3⟩,h3⟩
         obtain rfl:w3=v3:=h3
         go_wp2_with fail
         go_roundw
         case rel=>exact ⟨k+1,by omega,by go_num,HN.out,fun t ht htk=>by
          by_cases e:t=k
          ·subst e; exact Hw.out
          ·exact HA.out t ht (by omega),chain1 hb1' hb3⟩
         case measure=>simp [intOf]; omega
       ·have k0:k=0:=by omega
        subst k0
        have HN:Hid (goW none l=goW (prevOf l (0+1)) (l.drop (0+1))):=HC.out.trans (goW_next l 0 hlt Hw.out h0 H1.out (fun h=>absurd h hp))
        haveI:Nonempty (Past w1):=⟨⟨w1,Below.refl _ _⟩⟩
        go_wp2_with fail
        refine (refBig_any _ _).mono ?_
        rintro e w2 ⟨rfl,rfl⟩
        rw [H1.out]
        go_wp2_with fail
        refine wp_region_past (by kernel_rfl) (by kernel_rfl) ?_
        repeat (go_big_quiet_step (fail))
        refine wpQuiet_nil ?_
        rintro w3 ⟨⟨v3,hb3⟩,h3⟩
        obtain rfl:w3=v3:=h3
        go_wp2_with fail
        go_roundw
        case rel=>exact ⟨0+1,by omega,by go_num,HN.out,fun t ht htk=>by
         have:t=0:=by omega
         subst this; exact Hw.out,chain1 hb1' hb3⟩
        case measure=>simp [intOf]; omega
    ·have Hw:Hid (¬ wrongRowF l[k].1=0):=hw
     have hne:(wrongRowF l[k].1 != 0)=true:=by simpa using hw
     have HN:Hid (goW none l=wrongRowF l[k].1):=HC.out.trans (goW_row l k hlt hw)
     clear hw
     go_wp2_with fail
     refine (refRow_at _ _ _ _ sr).mono ?_
     rintro e w1 ⟨rfl,hb1⟩
     go_wp2_with fail
     go_ret
     exact ⟨ret_int HN.out.symm,chain1 hb hb1⟩
   ·go_wp2_with fail
    go_ret
    exact ⟨ret_int (by rw [HC.out,goW_end l k (by omega)]),hb⟩

end Go.Proofs.YtoefpglknaiaeaaGreat
/- The document's answer: what is wrong with the rows of tables. -/
namespace Go.Proofs.YtoefpglknaiaeaaGreat
open Go.RowKit Go.Lib Go.Shelf

set_option maxRecDepth 100000 in
set_option maxHeartbeats 2000000 in
theorem refInput_at (cols:List Int) (ca:Option Addr) (ccap:Nat) (a:Option Addr) (cap:Nat) (l:List Zp) (w:World) (hc:IsAt w.heap.size w ca cols) (h:ZsAt w a l) :
  Calls Tryz.prog 60 #[.slice ca cols.length ccap,.slice a l.length cap] w fun e w'=>e = .returned (.int .i64 (inpE cols l))∧Below w.heap.size w w':=by
 have hl:=h.1
 unfold maxLen at hl
 have hcl:=hc.1
 unfold maxLen at hcl
 by_cases h8:8<cols.length
 ·have e:inpE cols l=5:=by simp [inpE,h8]
  rw [e]
  have hz:(8:Int)<(cols.length:Int):=by omega
  go_enter Tryz.func60,Tryz.ntmps60
  go_wp2_with fail
  go_ret
  exact ⟨rfl,Below.refl _ _⟩
 have hz:¬ (8:Int)<(cols.length:Int):=by omega
 by_cases hw:wrongZ l=0
 ·have e:inpE cols l=fitsZ cols l:=by simp [inpE,h8,hw]
  rw [e]
  clear e
  have Hw:Hid (wrongZ l=0):=hw
  clear hw
  go_enter Tryz.func60,Tryz.ntmps60
  go_wp2_with fail
  refine (refWrongZ_at _ _ _ _ h).mono ?_
  rintro e w1 ⟨rfl,hb1⟩
  rw [Hw.out]
  go_wp2_with fail
  go_loopw [18] (fun i wr=>∃ k:Nat,k≤l.length∧i = .int .i64 k∧Hid (fitsZ cols l=fitsZ cols (l.drop k))∧Below w.heap.size w wr) (fun i _=>l.length - (intOf i).toNat)
  case atStart=>exact ⟨0,Nat.zero_le _,rfl,rfl,hb1⟩
  case round =>
   obtain ⟨k,hk,rfl,HC,hb⟩:=hrel
   have hz:=hb.size
   by_cases hlt:k<l.length
   ·obtain ⟨b,off,rfl,hbl,c1,ar,cr,c0,sr⟩:=(h.next hb).elem hlt
    have con:=refFits_at cols l[k].1 ca ccap ar cr wr ((hc.next hb (Nat.le_refl _)).up hb.size) sr
    have i0:(0:Int)≤(k:Int):=by omega
    have i1:(k:Int)<(l.length:Int):=by omega
    by_cases hw:fitsL cols l[k].1=0
    ·have Hw:Hid (fitsL cols l[k].1=0):=hw
     rw [hw] at con
     clear hw
     go_wp2_with fail
     refine con.mono ?_
     rintro e w2 ⟨rfl,hb2⟩
     go_wp2_with fail
     go_roundw
     case rel=>exact ⟨k+1,by omega,by go_num,HC.out.trans (fitsZ_next cols l k hlt Hw.out),chain hb hb2⟩
     case measure=>simp [intOf]; omega
    ·have HN:Hid (fitsZ cols l=fitsL cols l[k].1):=HC.out.trans (fitsZ_bad cols l k hlt hw)
     have hne:(fitsL cols l[k].1 != 0)=true:=by simpa using hw
     generalize fitsL cols l[k].1=t at *
     go_wp2_with fail
     refine con.mono ?_
     rintro e w2 ⟨rfl,hb2⟩
     go_wp2_with fail
     go_ret
     exact ⟨ret_int HN.out.symm,chain hb hb2⟩
   ·have HN:Hid (fitsZ cols l=0):=HC.out.trans (fitsZ_end cols l k (by omega))
    go_wp2_with fail
    go_ret
    exact ⟨ret_int HN.out.symm,hb⟩
 ·have e:inpE cols l=wrongZ l:=by simp [inpE,h8,hw]
  rw [e]
  have hne:(wrongZ l != 0)=true:=by simpa using hw
  clear e hw
  have con:=refWrongZ_at a cap l w h
  generalize wrongZ l=t at *
  go_enter Tryz.func60,Tryz.ntmps60
  go_wp2_with fail
  refine con.mono ?_
  rintro e w1 ⟨rfl,hb1⟩
  go_wp2_with fail
  go_ret
  exact ⟨rfl,hb1⟩


set_option maxRecDepth 100000 in
set_option maxHeartbeats 4000000 in
theorem refData_at (ts:List (List Int)) (data:List (List Zp)) (ta:Option Addr) (tc:Nat) (a:Option Addr) (cap:Nat) (w:World) (hT:TbAt w.heap.size w ta ts) (hD:DtAt w a data) (hn:data.length≤10000000000000) :
  Calls Tryz.prog 35 #[.slice ta ts.length tc,.slice a data.length cap] w fun e w'=>e = .returned (.int .i64 (dataE ts data))∧Below w.heap.size w w':=by
 generalize hr:dataE ts data=r
 have HR:Hid (dataE ts data=r):=hr
 clear hr
 go_enter Tryz.func35,Tryz.ntmps35
 by_cases hl:data.length=ts.length
 rotate_left
 ·have hne:((ts.length:Int) != (data.length:Int))=true:=by simp; omega
  have e:r=8:=by rw [← HR.out]; unfold dataE; rw [if_pos hl]
  subst e
  go_wp2_with fail
  go_ret
  exact ⟨rfl,Below.refl _ _⟩
 have hne:((ts.length:Int) != (data.length:Int))=false:=by simp; omega
 have HR':Hid (r=datasE (ts.drop 0) (data.drop 0)):=by show _=_; rw [← HR.out]; unfold dataE; rw [if_neg (by simpa using hl)]; rfl
 have hl1:data.length≤ts.length:=by omega
 have hl2:ts.length≤data.length:=by omega
 clear HR hl
 go_wp2_with fail
 clear hne
 go_loopw [14] (fun i wr=>∃ j:Nat,j≤data.length∧i = .int .i64 j∧Hid (r=datasE (ts.drop j) (data.drop j))∧Below w.heap.size w wr) (fun i _=>data.length - (intOf i).toNat)
 case atStart=>exact ⟨0,Nat.zero_le _,rfl,HR',Below.refl _ _⟩
 case round =>
  obtain ⟨j,hj,rfl,HT,hb⟩:=hrel
  by_cases hlt:j<data.length
  ·have hlt':j<ts.length:=by omega
   obtain ⟨b1,o1,ai,ci,rfl,hb1,c1,hi⟩:=(hT.next hb (Nat.le_refl _)).elem hlt'
   obtain ⟨b2,o2,zi,zc,rfl,hb2,c2,hz,_⟩:=(hD.next hb).elem hlt
   have hjz:(j:Int)<(data.length:Int):=by omega
   have hjt:(j:Int)<(ts.length:Int):=by omega
   have hj0:(0:Int)≤(j:Int):=by omega
   have HBad:Hid (¬ inpE ts[j] data[j]=0→r=inpE ts[j] data[j]):=fun c=>HT.out.trans (datasE_bad hlt' hlt c)
   have HOk:Hid (inpE ts[j] data[j]=0→r=datasE (ts.drop (j+1)) (data.drop (j+1))):=fun c=>HT.out.trans (datasE_next hlt' hlt c)
   have con:∀ n:Past wr,Calls Tryz.prog 60 #[.slice ai ts[j].length ci,.slice zi data[j].length zc] n.now fun e w'=>e = .returned (.int .i64 (inpE ts[j] data[j]))∧Below n.now.heap.size n.now w':=fun n=>refInput_at ts[j] ai ci zi zc data[j] n.now (((hi.up hb.size).next n.ok (Nat.le_refl _)).up n.ok.size) (hz.next n.ok)
   clear HT
   generalize inpE ts[j] data[j]=er at *
   have p1:=past_cell c1
   have p2:=past_cell c2
   haveI:Nonempty (Past wr):=⟨⟨_,Below.refl _ _⟩⟩
   go_wp2_with fail
   refine wp_region_past (by kernel_rfl) (by kernel_rfl) ?_
   repeat (go_big_quiet_step (first | (go_at_call 60; exact in_past (con _))))
   refine wpQuiet_nil ?_
   rintro w5 ⟨⟨v5,hb5⟩,h5⟩
   obtain rfl:w5=v5:=h5
   clear p1 p2 this c1 c2 con
   by_cases h0:er=0
   ·have HT':Hid (r=datasE (ts.drop (j+1)) (data.drop (j+1))):=HOk.out h0
    subst h0
    clear HBad HOk
    go_wp2_with fail
    go_roundw
    case rel=>exact ⟨j+1,by omega,by go_num,HT',chain hb hb5⟩
    case measure=>simp [intOf]; omega
   ·have e:r=er:=HBad.out h0
    have h0b:(er != 0)=true:=by simpa using h0
    subst e
    clear HBad HOk
    go_wp2_with fail
    go_ret
    exact ⟨rfl,chain hb hb5⟩
  ·have e:r=0:=by rw [HT.out,datasE_end (by omega)]
   have hjn:¬ (j:Int)<(data.length:Int):=by omega
   subst e
   clear HT
   go_wp2_with fail
   go_ret
   exact ⟨rfl,hb⟩
end Go.Proofs.YtoefpglknaiaeaaGreat
