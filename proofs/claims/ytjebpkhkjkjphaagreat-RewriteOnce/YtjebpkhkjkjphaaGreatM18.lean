/- Together: IV, JB, RewriteOnce, AOpen, EOpen. -/
import Derived.SizedLaws
import Derived.Test.YtjebpkhkjkjphaaGreatM17
import Derived.Test.YtjebpkhkjkjphaaGreatM11
import Derived.Test.YtjebpkhkjkjphaaGreatM8
namespace Go.Proofs.YtjebpkhkjkjphaaGreat
open Go.RowKit Go.Lib Go.Shelf
set_option maxRecDepth 100000
set_option maxHeartbeats 16000000
theorem ints_at (l r:List Int) (la:Option Addr) (lc:Nat) (ra:Option Addr) (rc:Nat) (w:World) (hl:bo w.heap.size w la l) (hr:bo w.heap.size w ra r) (ER:Hid (r.length=l.length)) (h8:l.length≤1000) :
  Calls Tryz.prog 11 #[.slice la l.length lc,.slice ra r.length rc] w fun e w'=>e = .returned (.bool (decide (l=r)))∧Below w.heap.size w w':=by
 have hne:((l.length:Int) != (r.length:Int))=false:=by simp [ER.out]
 obtain ⟨bb,hbb⟩:∃ bb,decide (l=r)=bb:=⟨_,rfl⟩
 have HB:Hid (decide (l=r)=bb):=hbb;rw [hbb];clear hbb;go_enter Tryz.func11,Tryz.ntmps11;go_wp2_with fail
 clear hne;go_loopw [13] (fun i wr=>∃ j:Nat,j≤l.length∧i = .int .i64 j∧Hid (∀ k,k<j→l[k]? = r[k]?)∧Below w.heap.size w wr) (fun i _=>l.length - (intOf i).toNat)
 case atStart=>exact ⟨0,Hl _,rfl,fun k hk=>by omega,He _ _⟩
 case round =>
  obtain ⟨j,hj,rfl,HT,hb⟩:=hrel;by_cases hlt:j<l.length
  ·have hjl:=hlt;have hjr:j<r.length:=by rw [ER.out]; exact hlt
   obtain ⟨b1,o1,rfl,hb1,c1⟩:=(hl.next hb (Hd _)).elem hjl;obtain ⟨b2,o2,rfl,hb2,c2⟩:=(hr.next hb (Hd _)).elem hjr;have hjz:(j:Int)<(l.length:Int):=by omega
   have hjq:(j:Int)<(r.length:Int):=by rw [ER.out]; omega
   have hj0:(0:Int)≤(j:Int):=by omega
   have HBad:Hid (¬ l[j]=r[j]→bb=false):=fun c=>by
    rw [← HB.out];refine decide_eq_false fun e=>c ?_
    subst e;rfl
   have HOk:Hid (l[j]=r[j]→∀ k,k<j+1→l[k]? = r[k]?):=fun c k hk=>by
    rcases Ic k j with h | h
    ·exact HT.out k h
    ·obtain rfl:k=j:=by omega
     rw [H4 hjl,H4 hjr,c]
   clear HT;generalize l[j]=lj at *;generalize r[j]=rj at *;have p1:=ax c1;have p2:=ax c2;haveI:Nonempty (du wr):=⟨⟨_,He _ _⟩⟩
   go_wp2_with fail
   refine aI (by kernel_rfl) (by kernel_rfl) ?_
   repeat (go_big_quiet_step (first | fail))
   refine wpQuiet_nil ?_;rintro w5 ⟨⟨v5,hb5⟩,h5⟩;obtain rfl:w5=v5:=h5;clear p1 p2 this c1 c2;by_cases h0:lj=rj
   ·have HT':Hid (∀ k,k<j+1→l[k]? = r[k]?):=HOk.out h0;subst h0;clear HBad HOk;go_wp2
    go_roundw
    case rel=>exact ⟨j+1,by omega,by go_num,HT',chain hb hb5⟩
    case measure=>simp [intOf]; omega
   ·have e:=HBad.out h0;subst e;have hne:(lj != rj)=true:=by simpa using h0
    clear HBad HOk;go_wp2
    go_ret;exact ⟨rfl,chain hb hb5⟩
  ·have hjn:¬ (j:Int)<(l.length:Int):=by omega
   have e:bb=true:=by
    rw [← HB.out];refine decide_eq_true (List.ext_getElem? fun k=>?_);rcases Ic k j with h | h
    ·exact HT.out k h
    ·rw [Is (by omega),Is (by rw [ER.out]; omega)]
   subst e;go_wp2
   go_ret;exact ⟨rfl,hb⟩
def FV:Ex:=.mk 2 fV 0 []
def AT:Ex:=.mk 16 fV 0 [FV]
def Bp:Pl:=.mk 1 0 yE [] [] []
def EU:Pl:=.mk 11 0 yE [] [] [Bp]
def vi:Pl:=.mk 2 0 AT [] [] [EU]
theorem ze:bu [[3]] vi=0:=by rfl
theorem pQ:de [[3]] vi = .mk 11 0 yE [] [] [.mk 2 0 AT [] [] [Bp]]:=by rfl
theorem xt:cF vi:=by
 refine .mk _ _ _ _ _ _ (by omega) (by simp) (by simp) fun p hp=>?_
 rw [List.mem_singleton.1 hp];refine .mk _ _ _ _ _ _ (by omega) (by simp) (by simp) fun p hp=>?_
 rw [List.mem_singleton.1 hp];exact .mk _ _ _ _ _ _ (by omega) (by simp) (by simp) fun p hp=>by cases hp
theorem xX (w:World):Calls Tryz.prog 5 #[] w fun e w'=>e = .returned (.bool true)∧Below w.heap.size w w':=by
 have aA:Below w.heap.size w (w.alloc (.cells #[.int .i64 1,.int .i64 0,.int .i64 0,.int .i64 0,.int .i64 0,.string ⟨#[]⟩,.int .i64 0,.slice none 0 0,.slice none 0 0,.slice none 0 0,.slice none 0 0] 31)):=((He w.heap.size w).alloc (Hd _) (.cells #[.int .i64 1,.int .i64 0,.int .i64 0,.int .i64 0,.int .i64 0,.string ⟨#[]⟩,.int .i64 0,.slice none 0 0,.slice none 0 0,.slice none 0 0,.slice none 0 0] 31))
 have aZ:w.heap.size+1≤(w.alloc (.cells #[.int .i64 1,.int .i64 0,.int .i64 0,.int .i64 0,.int .i64 0,.string ⟨#[]⟩,.int .i64 0,.slice none 0 0,.slice none 0 0,.slice none 0 0,.slice none 0 0] 31)).heap.size:=by simp only [Hg]; omega
 have aQ0:(w.alloc (.cells #[.int .i64 1,.int .i64 0,.int .i64 0,.int .i64 0,.int .i64 0,.string ⟨#[]⟩,.int .i64 0,.slice none 0 0,.slice none 0 0,.slice none 0 0,.slice none 0 0] 31)).heap[w.heap.size]? = some (.cells #[.int .i64 1,.int .i64 0,.int .i64 0,.int .i64 0,.int .i64 0,.string ⟨#[]⟩,.int .i64 0,.slice none 0 0,.slice none 0 0,.slice none 0 0,.slice none 0 0] 31 (0,0)):=by
  exact aw w #[.int .i64 1,.int .i64 0,.int .i64 0,.int .i64 0,.int .i64 0,.string ⟨#[]⟩,.int .i64 0,.slice none 0 0,.slice none 0 0,.slice none 0 0,.slice none 0 0] 31 rfl
 go_enter Tryz.func5,Tryz.ntmps5;go_upto_region 2 with fail
 generalize (w.alloc (.cells #[.int .i64 1,.int .i64 0,.int .i64 0,.int .i64 0,.int .i64 0,.string ⟨#[]⟩,.int .i64 0,.slice none 0 0,.slice none 0 0,.slice none 0 0,.slice none 0 0] 31))=w1 at *
 have bA:Below w1.heap.size w1 ((w1.alloc (.cells #[.int .i64 2,.int .i64 0,.int .i64 0,.string ⟨#[]⟩,.int .i64 0,.slice none 0 0] 27)).alloc (.cells #[.int .i64 16,.int .i64 0,.int .i64 0,.string ⟨#[]⟩,.int .i64 0,.slice (some ⟨w1.heap.size,0,none⟩) 1 1] 27)):=(((He w1.heap.size w1).alloc (Hd _) (.cells #[.int .i64 2,.int .i64 0,.int .i64 0,.string ⟨#[]⟩,.int .i64 0,.slice none 0 0] 27)).alloc (by simp only [Hg]; omega) (.cells #[.int .i64 16,.int .i64 0,.int .i64 0,.string ⟨#[]⟩,.int .i64 0,.slice (some ⟨w1.heap.size,0,none⟩) 1 1] 27))
 have bZ:w1.heap.size+2≤((w1.alloc (.cells #[.int .i64 2,.int .i64 0,.int .i64 0,.string ⟨#[]⟩,.int .i64 0,.slice none 0 0] 27)).alloc (.cells #[.int .i64 16,.int .i64 0,.int .i64 0,.string ⟨#[]⟩,.int .i64 0,.slice (some ⟨w1.heap.size,0,none⟩) 1 1] 27)).heap.size:=by simp only [Hg]; omega
 have bQ0:((w1.alloc (.cells #[.int .i64 2,.int .i64 0,.int .i64 0,.string ⟨#[]⟩,.int .i64 0,.slice none 0 0] 27)).alloc (.cells #[.int .i64 16,.int .i64 0,.int .i64 0,.string ⟨#[]⟩,.int .i64 0,.slice (some ⟨w1.heap.size,0,none⟩) 1 1] 27)).heap[w1.heap.size]? = some (.cells #[.int .i64 2,.int .i64 0,.int .i64 0,.string ⟨#[]⟩,.int .i64 0,.slice none 0 0] 27 (0,0)):=by
  rw [aD _ _ (by simp only [Hg]; omega)];exact aw w1 #[.int .i64 2,.int .i64 0,.int .i64 0,.string ⟨#[]⟩,.int .i64 0,.slice none 0 0] 27 rfl
 have bQ1:((w1.alloc (.cells #[.int .i64 2,.int .i64 0,.int .i64 0,.string ⟨#[]⟩,.int .i64 0,.slice none 0 0] 27)).alloc (.cells #[.int .i64 16,.int .i64 0,.int .i64 0,.string ⟨#[]⟩,.int .i64 0,.slice (some ⟨w1.heap.size,0,none⟩) 1 1] 27)).heap[w1.heap.size+1]? = some (.cells #[.int .i64 16,.int .i64 0,.int .i64 0,.string ⟨#[]⟩,.int .i64 0,.slice (some ⟨w1.heap.size,0,none⟩) 1 1] 27 (0,0)):=by
  exact aw (w1.alloc (.cells #[.int .i64 2,.int .i64 0,.int .i64 0,.string ⟨#[]⟩,.int .i64 0,.slice none 0 0] 27)) #[.int .i64 16,.int .i64 0,.int .i64 0,.string ⟨#[]⟩,.int .i64 0,.slice (some ⟨w1.heap.size,0,none⟩) 1 1] 27 (by simp only [Hg])
 go_upto_region 3 with fail
 have A3:=chain aA bA;have T3:=(bA.block _ (ae aQ0)).trans aQ0;generalize ((w1.alloc (.cells #[.int .i64 2,.int .i64 0,.int .i64 0,.string ⟨#[]⟩,.int .i64 0,.slice none 0 0] 27)).alloc (.cells #[.int .i64 16,.int .i64 0,.int .i64 0,.string ⟨#[]⟩,.int .i64 0,.slice (some ⟨w1.heap.size,0,none⟩) 1 1] 27))=w3 at *
 have cA:Below w3.heap.size w3 ((((w3.alloc (.cells #[.int .i64 3] 3)).alloc (.cells #[.slice (some ⟨w3.heap.size,0,none⟩) 1 1] 42)).alloc (.cells #[.int .i64 1,.int .i64 0,.int .i64 0,.int .i64 0,.int .i64 0,.string ⟨#[]⟩,.int .i64 0,.slice none 0 0,.slice none 0 0,.slice none 0 0,.slice none 0 0] 31)).alloc (.cells #[.int .i64 11,.int .i64 0,.int .i64 0,.int .i64 0,.int .i64 0,.string ⟨#[]⟩,.int .i64 0,.slice none 0 0,.slice none 0 0,.slice none 0 0,.slice (some ⟨w3.heap.size+2,0,none⟩) 1 1] 31)):=(((((He w3.heap.size w3).alloc (Hd _) (.cells #[.int .i64 3] 3)).alloc (by simp only [Hg]; omega) (.cells #[.slice (some ⟨w3.heap.size,0,none⟩) 1 1] 42)).alloc (by simp only [Hg]; omega) (.cells #[.int .i64 1,.int .i64 0,.int .i64 0,.int .i64 0,.int .i64 0,.string ⟨#[]⟩,.int .i64 0,.slice none 0 0,.slice none 0 0,.slice none 0 0,.slice none 0 0] 31)).alloc (by simp only [Hg]; omega) (.cells #[.int .i64 11,.int .i64 0,.int .i64 0,.int .i64 0,.int .i64 0,.string ⟨#[]⟩,.int .i64 0,.slice none 0 0,.slice none 0 0,.slice none 0 0,.slice (some ⟨w3.heap.size+2,0,none⟩) 1 1] 31))
 have cZ:w3.heap.size+4≤((((w3.alloc (.cells #[.int .i64 3] 3)).alloc (.cells #[.slice (some ⟨w3.heap.size,0,none⟩) 1 1] 42)).alloc (.cells #[.int .i64 1,.int .i64 0,.int .i64 0,.int .i64 0,.int .i64 0,.string ⟨#[]⟩,.int .i64 0,.slice none 0 0,.slice none 0 0,.slice none 0 0,.slice none 0 0] 31)).alloc (.cells #[.int .i64 11,.int .i64 0,.int .i64 0,.int .i64 0,.int .i64 0,.string ⟨#[]⟩,.int .i64 0,.slice none 0 0,.slice none 0 0,.slice none 0 0,.slice (some ⟨w3.heap.size+2,0,none⟩) 1 1] 31)).heap.size:=by simp only [Hg]; omega
 have cQ0:((((w3.alloc (.cells #[.int .i64 3] 3)).alloc (.cells #[.slice (some ⟨w3.heap.size,0,none⟩) 1 1] 42)).alloc (.cells #[.int .i64 1,.int .i64 0,.int .i64 0,.int .i64 0,.int .i64 0,.string ⟨#[]⟩,.int .i64 0,.slice none 0 0,.slice none 0 0,.slice none 0 0,.slice none 0 0] 31)).alloc (.cells #[.int .i64 11,.int .i64 0,.int .i64 0,.int .i64 0,.int .i64 0,.string ⟨#[]⟩,.int .i64 0,.slice none 0 0,.slice none 0 0,.slice none 0 0,.slice (some ⟨w3.heap.size+2,0,none⟩) 1 1] 31)).heap[w3.heap.size]? = some (.cells #[.int .i64 3] 3 (0,0)):=by
  rw [aD _ _ (by simp only [Hg]; omega),aD _ _ (by simp only [Hg]; omega),aD _ _ (by simp only [Hg]; omega)];exact aw w3 #[.int .i64 3] 3 rfl
 have cQ1:((((w3.alloc (.cells #[.int .i64 3] 3)).alloc (.cells #[.slice (some ⟨w3.heap.size,0,none⟩) 1 1] 42)).alloc (.cells #[.int .i64 1,.int .i64 0,.int .i64 0,.int .i64 0,.int .i64 0,.string ⟨#[]⟩,.int .i64 0,.slice none 0 0,.slice none 0 0,.slice none 0 0,.slice none 0 0] 31)).alloc (.cells #[.int .i64 11,.int .i64 0,.int .i64 0,.int .i64 0,.int .i64 0,.string ⟨#[]⟩,.int .i64 0,.slice none 0 0,.slice none 0 0,.slice none 0 0,.slice (some ⟨w3.heap.size+2,0,none⟩) 1 1] 31)).heap[w3.heap.size+1]? = some (.cells #[.slice (some ⟨w3.heap.size,0,none⟩) 1 1] 42 (0,0)):=by
  rw [aD _ _ (by simp only [Hg]; omega),aD _ _ (by simp only [Hg]; omega)];exact aw (w3.alloc (.cells #[.int .i64 3] 3)) #[.slice (some ⟨w3.heap.size,0,none⟩) 1 1] 42 (by simp only [Hg])
 have cQ2:((((w3.alloc (.cells #[.int .i64 3] 3)).alloc (.cells #[.slice (some ⟨w3.heap.size,0,none⟩) 1 1] 42)).alloc (.cells #[.int .i64 1,.int .i64 0,.int .i64 0,.int .i64 0,.int .i64 0,.string ⟨#[]⟩,.int .i64 0,.slice none 0 0,.slice none 0 0,.slice none 0 0,.slice none 0 0] 31)).alloc (.cells #[.int .i64 11,.int .i64 0,.int .i64 0,.int .i64 0,.int .i64 0,.string ⟨#[]⟩,.int .i64 0,.slice none 0 0,.slice none 0 0,.slice none 0 0,.slice (some ⟨w3.heap.size+2,0,none⟩) 1 1] 31)).heap[w3.heap.size+2]? = some (.cells #[.int .i64 1,.int .i64 0,.int .i64 0,.int .i64 0,.int .i64 0,.string ⟨#[]⟩,.int .i64 0,.slice none 0 0,.slice none 0 0,.slice none 0 0,.slice none 0 0] 31 (0,0)):=by
  rw [aD _ _ (by simp only [Hg]; omega)];exact aw ((w3.alloc (.cells #[.int .i64 3] 3)).alloc (.cells #[.slice (some ⟨w3.heap.size,0,none⟩) 1 1] 42)) #[.int .i64 1,.int .i64 0,.int .i64 0,.int .i64 0,.int .i64 0,.string ⟨#[]⟩,.int .i64 0,.slice none 0 0,.slice none 0 0,.slice none 0 0,.slice none 0 0] 31 (by simp only [Hg])
 have cQ3:((((w3.alloc (.cells #[.int .i64 3] 3)).alloc (.cells #[.slice (some ⟨w3.heap.size,0,none⟩) 1 1] 42)).alloc (.cells #[.int .i64 1,.int .i64 0,.int .i64 0,.int .i64 0,.int .i64 0,.string ⟨#[]⟩,.int .i64 0,.slice none 0 0,.slice none 0 0,.slice none 0 0,.slice none 0 0] 31)).alloc (.cells #[.int .i64 11,.int .i64 0,.int .i64 0,.int .i64 0,.int .i64 0,.string ⟨#[]⟩,.int .i64 0,.slice none 0 0,.slice none 0 0,.slice none 0 0,.slice (some ⟨w3.heap.size+2,0,none⟩) 1 1] 31)).heap[w3.heap.size+3]? = some (.cells #[.int .i64 11,.int .i64 0,.int .i64 0,.int .i64 0,.int .i64 0,.string ⟨#[]⟩,.int .i64 0,.slice none 0 0,.slice none 0 0,.slice none 0 0,.slice (some ⟨w3.heap.size+2,0,none⟩) 1 1] 31 (0,0)):=by
  exact aw (((w3.alloc (.cells #[.int .i64 3] 3)).alloc (.cells #[.slice (some ⟨w3.heap.size,0,none⟩) 1 1] 42)).alloc (.cells #[.int .i64 1,.int .i64 0,.int .i64 0,.int .i64 0,.int .i64 0,.string ⟨#[]⟩,.int .i64 0,.slice none 0 0,.slice none 0 0,.slice none 0 0,.slice none 0 0] 31)) #[.int .i64 11,.int .i64 0,.int .i64 0,.int .i64 0,.int .i64 0,.string ⟨#[]⟩,.int .i64 0,.slice none 0 0,.slice none 0 0,.slice none 0 0,.slice (some ⟨w3.heap.size+2,0,none⟩) 1 1] 31 (by simp only [Hg])
 have KX:aO w3.heap.size w3 (some ⟨w1.heap.size,0,none⟩) [FV]:=by
  refine .some w1.heap.size 0 [FV] (fun _=>none) (fun _=>0) (ae bQ0) (fun i hi=>?_) (fun i hi=>?_)
  ·obtain rfl:i=0:=by simp at hi; omega
   exact ⟨cell_of (i:=0) bQ0 rfl,cell_of (i:=1) bQ0 rfl,cell_of (i:=2) bQ0 rfl,cell_of (i:=3) bQ0 rfl,cell_of (i:=4) bQ0 rfl,cell_of (i:=5) bQ0 rfl⟩
  ·obtain rfl:i=0:=by simp at hi; omega
   exact .nil _
 have A7:=chain A3 cA
 have TB:gP ((((w3.alloc (.cells #[.int .i64 3] 3)).alloc (.cells #[.slice (some ⟨w3.heap.size,0,none⟩) 1 1] 42)).alloc (.cells #[.int .i64 1,.int .i64 0,.int .i64 0,.int .i64 0,.int .i64 0,.string ⟨#[]⟩,.int .i64 0,.slice none 0 0,.slice none 0 0,.slice none 0 0,.slice none 0 0] 31)).alloc (.cells #[.int .i64 11,.int .i64 0,.int .i64 0,.int .i64 0,.int .i64 0,.string ⟨#[]⟩,.int .i64 0,.slice none 0 0,.slice none 0 0,.slice none 0 0,.slice (some ⟨w3.heap.size+2,0,none⟩) 1 1] 31)).heap.size ((((w3.alloc (.cells #[.int .i64 3] 3)).alloc (.cells #[.slice (some ⟨w3.heap.size,0,none⟩) 1 1] 42)).alloc (.cells #[.int .i64 1,.int .i64 0,.int .i64 0,.int .i64 0,.int .i64 0,.string ⟨#[]⟩,.int .i64 0,.slice none 0 0,.slice none 0 0,.slice none 0 0,.slice none 0 0] 31)).alloc (.cells #[.int .i64 11,.int .i64 0,.int .i64 0,.int .i64 0,.int .i64 0,.string ⟨#[]⟩,.int .i64 0,.slice none 0 0,.slice none 0 0,.slice none 0 0,.slice (some ⟨w3.heap.size+2,0,none⟩) 1 1] 31)) (some ⟨w3.heap.size+1,0,none⟩) [[3]]:=by
  refine .inr ⟨w3.heap.size+1,0,fun _=>some ⟨w3.heap.size,0,none⟩,fun _=>1,rfl,ae cQ1,fun i hi=>?_⟩;obtain rfl:i=0:=by simp at hi; omega
  refine ⟨cell_of (i:=0) cQ1 rfl,by simp [maxLen],.inr ⟨w3.heap.size,0,rfl,ae cQ0,fun i hi=>?_⟩⟩;obtain rfl:i=0:=by simp at hi; omega
  exact cell_of (i:=0) cQ0 rfl
 have elv:∀ {W:World} {b:Nat} {L:List Value},W.heap[b]? = some (.cells L.toArray 31 (0,0))→At W b 0 L:=fun h=>At.of h
 have P2:gS ((((w3.alloc (.cells #[.int .i64 3] 3)).alloc (.cells #[.slice (some ⟨w3.heap.size,0,none⟩) 1 1] 42)).alloc (.cells #[.int .i64 1,.int .i64 0,.int .i64 0,.int .i64 0,.int .i64 0,.string ⟨#[]⟩,.int .i64 0,.slice none 0 0,.slice none 0 0,.slice none 0 0,.slice none 0 0] 31)).alloc (.cells #[.int .i64 11,.int .i64 0,.int .i64 0,.int .i64 0,.int .i64 0,.string ⟨#[]⟩,.int .i64 0,.slice none 0 0,.slice none 0 0,.slice none 0 0,.slice (some ⟨w3.heap.size+2,0,none⟩) 1 1] 31)).heap.size ((((w3.alloc (.cells #[.int .i64 3] 3)).alloc (.cells #[.slice (some ⟨w3.heap.size,0,none⟩) 1 1] 42)).alloc (.cells #[.int .i64 1,.int .i64 0,.int .i64 0,.int .i64 0,.int .i64 0,.string ⟨#[]⟩,.int .i64 0,.slice none 0 0,.slice none 0 0,.slice none 0 0,.slice none 0 0] 31)).alloc (.cells #[.int .i64 11,.int .i64 0,.int .i64 0,.int .i64 0,.int .i64 0,.string ⟨#[]⟩,.int .i64 0,.slice none 0 0,.slice none 0 0,.slice none 0 0,.slice (some ⟨w3.heap.size+2,0,none⟩) 1 1] 31)) (some ⟨w3.heap.size+2,0,none⟩) [Bp]:=by
  refine .some (w3.heap.size+2) 0 [Bp] (fun _=>⟨none,0,none,0,none,0,none,0⟩) (ae cQ2) (fun i hi=>?_) (fun i hi=>?_) (fun i hi=>?_) (fun i hi=>?_) (fun i hi=>?_)
  all_goals obtain rfl:i=0:=by simp at hi; omega
  ·exact uk (At.of cQ2)
  ·exact .nil _
  ·exact .nil _
  ·exact .inl rfl
  ·exact .nil _
 have P1:gS ((((w3.alloc (.cells #[.int .i64 3] 3)).alloc (.cells #[.slice (some ⟨w3.heap.size,0,none⟩) 1 1] 42)).alloc (.cells #[.int .i64 1,.int .i64 0,.int .i64 0,.int .i64 0,.int .i64 0,.string ⟨#[]⟩,.int .i64 0,.slice none 0 0,.slice none 0 0,.slice none 0 0,.slice none 0 0] 31)).alloc (.cells #[.int .i64 11,.int .i64 0,.int .i64 0,.int .i64 0,.int .i64 0,.string ⟨#[]⟩,.int .i64 0,.slice none 0 0,.slice none 0 0,.slice none 0 0,.slice (some ⟨w3.heap.size+2,0,none⟩) 1 1] 31)).heap.size ((((w3.alloc (.cells #[.int .i64 3] 3)).alloc (.cells #[.slice (some ⟨w3.heap.size,0,none⟩) 1 1] 42)).alloc (.cells #[.int .i64 1,.int .i64 0,.int .i64 0,.int .i64 0,.int .i64 0,.string ⟨#[]⟩,.int .i64 0,.slice none 0 0,.slice none 0 0,.slice none 0 0,.slice none 0 0] 31)).alloc (.cells #[.int .i64 11,.int .i64 0,.int .i64 0,.int .i64 0,.int .i64 0,.string ⟨#[]⟩,.int .i64 0,.slice none 0 0,.slice none 0 0,.slice none 0 0,.slice (some ⟨w3.heap.size+2,0,none⟩) 1 1] 31)) (some ⟨w3.heap.size+3,0,none⟩) [EU]:=by
  refine .some (w3.heap.size+3) 0 [EU] (fun _=>⟨none,0,none,0,none,0,some ⟨w3.heap.size+2,0,none⟩,1⟩) (ae cQ3) (fun i hi=>?_) (fun i hi=>?_) (fun i hi=>?_) (fun i hi=>?_) (fun i hi=>?_)
  all_goals obtain rfl:i=0:=by simp at hi; omega
  ·exact uk (At.of cQ3)
  ·exact .nil _
  ·exact .nil _
  ·exact .inl rfl
  ·exact P2
 have con:=rn [[3]] vi ⟨some ⟨w1.heap.size,0,none⟩,1,none,0,none,0,some ⟨w3.heap.size+3,0,none⟩,1⟩ (some ⟨w3.heap.size+1,0,none⟩) 1 ((((w3.alloc (.cells #[.int .i64 3] 3)).alloc (.cells #[.slice (some ⟨w3.heap.size,0,none⟩) 1 1] 42)).alloc (.cells #[.int .i64 1,.int .i64 0,.int .i64 0,.int .i64 0,.int .i64 0,.string ⟨#[]⟩,.int .i64 0,.slice none 0 0,.slice none 0 0,.slice none 0 0,.slice none 0 0] 31)).alloc (.cells #[.int .i64 11,.int .i64 0,.int .i64 0,.int .i64 0,.int .i64 0,.string ⟨#[]⟩,.int .i64 0,.slice none 0 0,.slice none 0 0,.slice none 0 0,.slice (some ⟨w3.heap.size+2,0,none⟩) 1 1] 31)) TB ⟨(aO.next cA (Hd _) KX).up cA.size,.nil _,.inl rfl,P1⟩ xt (uu xt)
 rw [ze] at con
 have con:Calls Tryz.prog 6 #[.slice (some ⟨w3.heap.size+1,0,none⟩) 1 1,.agg #[.int .i64 2,.int .i64 0,.int .i64 16,.int .i64 0,.int .i64 0,.string ⟨#[]⟩,.int .i64 0,.slice (some ⟨w1.heap.size,0,none⟩) 1 1,.slice none 0 0,.slice none 0 0,.slice (some ⟨w3.heap.size+3,0,none⟩) 1 1]] ((((w3.alloc (.cells #[.int .i64 3] 3)).alloc (.cells #[.slice (some ⟨w3.heap.size,0,none⟩) 1 1] 42)).alloc (.cells #[.int .i64 1,.int .i64 0,.int .i64 0,.int .i64 0,.int .i64 0,.string ⟨#[]⟩,.int .i64 0,.slice none 0 0,.slice none 0 0,.slice none 0 0,.slice none 0 0] 31)).alloc (.cells #[.int .i64 11,.int .i64 0,.int .i64 0,.int .i64 0,.int .i64 0,.string ⟨#[]⟩,.int .i64 0,.slice none 0 0,.slice none 0 0,.slice none 0 0,.slice (some ⟨w3.heap.size+2,0,none⟩) 1 1] 31)) fun e w'=>(∃ q',e = .returned (.tuple #[fp (de [[3]] vi) q',.int .i64 0])∧lD (fun b=>((((w3.alloc (.cells #[.int .i64 3] 3)).alloc (.cells #[.slice (some ⟨w3.heap.size,0,none⟩) 1 1] 42)).alloc (.cells #[.int .i64 1,.int .i64 0,.int .i64 0,.int .i64 0,.int .i64 0,.string ⟨#[]⟩,.int .i64 0,.slice none 0 0,.slice none 0 0,.slice none 0 0,.slice none 0 0] 31)).alloc (.cells #[.int .i64 11,.int .i64 0,.int .i64 0,.int .i64 0,.int .i64 0,.string ⟨#[]⟩,.int .i64 0,.slice none 0 0,.slice none 0 0,.slice none 0 0,.slice (some ⟨w3.heap.size+2,0,none⟩) 1 1] 31)).heap.size≤b) w' (de [[3]] vi) q')∧Below ((((w3.alloc (.cells #[.int .i64 3] 3)).alloc (.cells #[.slice (some ⟨w3.heap.size,0,none⟩) 1 1] 42)).alloc (.cells #[.int .i64 1,.int .i64 0,.int .i64 0,.int .i64 0,.int .i64 0,.string ⟨#[]⟩,.int .i64 0,.slice none 0 0,.slice none 0 0,.slice none 0 0,.slice none 0 0] 31)).alloc (.cells #[.int .i64 11,.int .i64 0,.int .i64 0,.int .i64 0,.int .i64 0,.string ⟨#[]⟩,.int .i64 0,.slice none 0 0,.slice none 0 0,.slice none 0 0,.slice (some ⟨w3.heap.size+2,0,none⟩) 1 1] 31)).heap.size ((((w3.alloc (.cells #[.int .i64 3] 3)).alloc (.cells #[.slice (some ⟨w3.heap.size,0,none⟩) 1 1] 42)).alloc (.cells #[.int .i64 1,.int .i64 0,.int .i64 0,.int .i64 0,.int .i64 0,.string ⟨#[]⟩,.int .i64 0,.slice none 0 0,.slice none 0 0,.slice none 0 0,.slice none 0 0] 31)).alloc (.cells #[.int .i64 11,.int .i64 0,.int .i64 0,.int .i64 0,.int .i64 0,.string ⟨#[]⟩,.int .i64 0,.slice none 0 0,.slice none 0 0,.slice none 0 0,.slice (some ⟨w3.heap.size+2,0,none⟩) 1 1] 31)) w':=con.mono fun e w' h=>⟨h.2.1 rfl,h.2.2⟩
 have L1:w1.heap.size+1<w3.heap.size:=by omega
 have L0:w.heap.size<w3.heap.size:=ae T3;have L2:w1.heap.size<w3.heap.size:=by omega
 have L3:w1.heap.size<w3.heap.size+1:=by omega
 have L4:w.heap.size<w3.heap.size+1:=by omega
 have L5:w.heap.size<w3.heap.size+1+1:=by omega
 have L6:w.heap.size<w3.heap.size+2:=by omega
 have L7:w1.heap.size+1<w3.heap.size+1:=by omega
 obtain ⟨x0,x1,x2,x3,x4,x5⟩:=cU bQ1;obtain ⟨t0,t1,t2,t3,t4,t5,t6,t7,t8,t9,t10⟩:=bz T3;go_wp2_with fail
 refine con.mono ?_;rintro e w8 ⟨_,h8,hb8⟩;obtain ⟨rq,rfl,P8⟩:=h8 (by first | rfl | trivial);clear con x0 x1 x2 x3 x4 x5 t0 t1 t2 t3 t4 t5 t6 t7 t8 t9 t10 TB P1 P2 KX;have A8:=chain A7 hb8;obtain ⟨rp,hrp⟩:∃ rp,de [[3]] vi=rp:=⟨_,rfl⟩
 rw [hrp] at P8 ⊢;have b11:(rp.k == 11)=true:=by rw [← hrp,pQ]; rfl
 have hks:rp.ks = [.mk 2 0 AT [] [] [Bp]]:=by rw [← hrp,pQ]; rfl
 have HL:Hid (rp.ks.length=1):=by rw [hks]; rfl
 obtain ⟨b,off,q1,eka,hbl,hel,hrest⟩:=P8.b.ks.elem (k:=0) (by rw [hks]; simp);have k2:w8.cell? ⟨b,off,none⟩=some (.int .i64 2):=by
  have:=hel.c0;simp only [hks,List.getElem_cons_zero,Jg,IY] at this;exact this
 unfold fp gq;rw [eka,HL.out];clear hrest hel hks hrp eka P8;have al:=aa w8 (.cells #[.int .i64 rp.k,.int .i64 rp.n,.int .i64 rp.x.k,.int .i64 rp.x.v.1,.int .i64 rp.x.v.2.1,.string rp.x.v.2.2,.int .i64 rp.x.c,.slice rq.xa rp.x.ks.length rq.xc,.slice rq.sa rp.xs.length rq.sc,.slice rq.ga rp.gs.length rq.gc,.slice (some ⟨b,off,none⟩) 1 rq.kc] 31)
 have QR:=an w8 #[.int .i64 rp.k,.int .i64 rp.n,.int .i64 rp.x.k,.int .i64 rp.x.v.1,.int .i64 rp.x.v.2.1,.string rp.x.v.2.2,.int .i64 rp.x.c,.slice rq.xa rp.x.ks.length rq.xc,.slice rq.sa rp.xs.length rq.sc,.slice rq.ga rp.gs.length rq.gc,.slice (some ⟨b,off,none⟩) 1 rq.kc] 31;have k2':=(al.cell (p:=⟨b,off,none⟩) hbl).trans k2;dsimp only;go_upto_region 4 with fail
 have A9:=chain A8 al;generalize w8.alloc (.cells #[.int .i64 rp.k,.int .i64 rp.n,.int .i64 rp.x.k,.int .i64 rp.x.v.1,.int .i64 rp.x.v.2.1,.string rp.x.v.2.2,.int .i64 rp.x.c,.slice rq.xa rp.x.ks.length rq.xc,.slice rq.sa rp.xs.length rq.sc,.slice rq.ga rp.gs.length rq.gc,.slice (some ⟨b,off,none⟩) 1 rq.kc] 31)=w9 at *;obtain ⟨r0,r1,r2,r3,r4,r5,r6,r7,r8,r9,r10⟩:=bz QR;go_wp2_with fail
 go_ret;exact ⟨rfl,A9⟩
theorem uQ {ts:List (List Int)} {p:Pl} (hl:bu ts p=0):bu ts (de ts p)=0∧de ts (de ts p)=de ts p∧dv ts (de ts p)=dv ts p∧kG (de ts p):=by
 have hs:=mG p 0 1 (eH hl).2;have hr:=um hs hl;refine ⟨hr,vU hs,?_,(nL _ 0 1 (eH hr).2).1⟩;unfold dv;rw [if_pos hr,if_pos hl,zi hs]
theorem lX (ta:Option Addr) (tc:Nat) (ts:List (List Int)) (p:Pl) (q:Pw) (w:World) (hT:gP w.heap.size w ta ts) (hp:ki w.heap.size w p q) (hk:cF p) :
  Calls Tryz.prog 4 #[.slice ta ts.length tc,fp p q] w fun e w'=>e = .returned (.bool true)∧Below w.heap.size w w':=by
 have HT:Hid (gP w.heap.size w ta ts):=hT;have HP:Hid (ki w.heap.size w p q):=hp;have HK:Hid (cF p):=hk;clear hT hp hk;unfold fp;have A:Below w.heap.size w (w.alloc (.cells (jt p q p.ks.length) 31)):=((He w.heap.size w).alloc (Hd _) (.cells (jt p q p.ks.length) 31))
 have Z:w.heap.size+1≤(w.alloc (.cells (jt p q p.ks.length) 31)).heap.size:=by simp only [Hg]; omega
 have Q0:(w.alloc (.cells (jt p q p.ks.length) 31)).heap[w.heap.size]? = some (.cells (jt p q p.ks.length) 31 (0,0)):=by
  exact aw w (jt p q p.ks.length) 31 rfl
 go_enter Tryz.func4,Tryz.ntmps4;go_upto_region 1 with fail
 generalize (w.alloc (.cells (jt p q p.ks.length) 31))=w1 at *;have con:=xX w1;go_wp2_with fail
 refine con.mono ?_;rintro e w2 ⟨rfl,hb2⟩;clear con;have A2:=chain A hb2;have Q2:=(hb2.block _ (ae Q0)).trans Q0;have con:=rn ts p q ta tc w2 ((HT.out.next A2 (Hd _)).up A2.size) ((HP.out.next A2 (Hd _)).up A2.size) HK.out (uu HK.out);have HLC:Hid (bu ts p=0→(dv ts p).length≤1000):=fun h=>by
  unfold dv;rw [if_pos h];have:=qm (eH h).1 p 0 1 (eH h).2;omega
 obtain ⟨le,hle⟩:∃ le,bu ts p=le:=⟨_,rfl⟩
 rw [hle] at con;have HLE:Hid (bu ts p=le):=hle;clear hle A Q0 hb2;unfold fp at con;dsimp only;obtain ⟨n0,n1,n2,n3,n4,n5,n6,n7,n8,n9,n10⟩:=bz Q2;go_wp2_with fail
 refine con.mono ?_;rintro e w3 ⟨hbad,hgood,hb3⟩;clear con n0 n1 n2 n3 n4 n5 n6 n7 n8 n9 n10;have A3:=chain A2 hb3;have Q3:=(hb3.block _ (ae Q2)).trans Q2;by_cases h0:le=0;rotate_left
 ·have e0:=hbad h0;subst e0;have hb0:(le != 0)=true:=by simpa using h0
  have al:=aa w3 (.cells dT 31);have A4:=chain A3 al;have Q4:=(al.block _ (ae Q3)).trans Q3;clear hbad hgood h0;unfold GI;dsimp only;go_upto_region 4 with fail
  generalize w3.alloc (.cells dT 31)=w4 at *;have con:=jL ts p q ta tc w4 ((HT.out.next A4 (Hd _)).up A4.size) ((HP.out.next A4 (Hd _)).up A4.size) HK.out;rw [HLE.out] at con;unfold fp at con;generalize dv ts p=cl at con;obtain ⟨n0,n1,n2,n3,n4,n5,n6,n7,n8,n9,n10⟩:=bz Q4;go_wp2_with fail
  refine con.mono ?_;rintro e w5 ⟨a5,c5,rfl,I5,hb5⟩;clear con n0 n1 n2 n3 n4 n5 n6 n7 n8 n9 n10;go_wp2_with fail
  go_ret;exact ⟨rfl,chain A4 hb5⟩
 obtain ⟨rq,rfl,P3⟩:=hgood h0;subst h0;clear hbad hgood;obtain ⟨r1,r2,r3,r4⟩:=uQ HLE.out;have cl5:=HLC.out HLE.out;clear HLC;obtain ⟨rp,hrp⟩:∃ rp,de ts p=rp:=⟨_,rfl⟩
 have HKR:Hid (cF rp):=by rw [← hrp]; exact DK HK.out
 rw [hrp] at P3 r1 r2 r3 r4 ⊢;have HR1:Hid (bu ts rp=0):=r1;have HR2:Hid (de ts rp=rp):=r2;have HR3:Hid (dv ts rp=dv ts p):=r3;have HR4:Hid (kG rp):=r4;clear hrp r1 r2 r3 r4;have al:=aa w3 (.cells (jt rp rq rp.ks.length) 31);have QR:=an w3 (jt rp rq rp.ks.length) 31;dsimp only;go_upto_region 4 with fail
 have A4:=chain A3 al;have Q4:=(al.block _ (ae Q3)).trans Q3;have P4:=P3.next (ah.of al);generalize hw4:w3.alloc (.cells (jt rp rq rp.ks.length) 31)=w4 at *;clear hw4 Q2 Q3 A2 A3 P3 al;have con:=jL ts p q ta tc w4 ((HT.out.next A4 (Hd _)).up A4.size) ((HP.out.next A4 (Hd _)).up A4.size) HK.out;rw [HLE.out] at con;unfold fp at con;obtain ⟨cl,hcl⟩:∃ cl,dv ts p=cl:=⟨_,rfl⟩
 have HCL:Hid (dv ts p=cl):=hcl;rw [hcl] at con cl5;clear hcl;obtain ⟨n0,n1,n2,n3,n4,n5,n6,n7,n8,n9,n10⟩:=bz Q4;go_wp2_with fail
 refine con.mono ?_;rintro e w5 ⟨a5,c5,rfl,I5,hb5⟩;clear con n0 n1 n2 n3 n4 n5 n6 n7 n8 n9 n10 Q4;have A5:=chain A4 hb5;have QR5:=(hb5.block _ (ae QR)).trans QR;have P5:=P4.next (ah.of hb5);clear P4 QR;have con:=rn ts rp rq ta tc w5 ((HT.out.next A5 (Hd _)).up A5.size) P5.b HKR.out (uu HKR.out);rw [HR1.out,HR2.out] at con;unfold fp at con;dsimp only;obtain ⟨n0,n1,n2,n3,n4,n5,n6,n7,n8,n9,n10⟩:=bz QR5;go_wp2_with fail
 refine con.mono ?_;rintro e w6 ⟨_,hgood,hb6⟩;clear con n0 n1 n2 n3 n4 n5 n6 n7 n8 n9 n10;obtain ⟨rr,rfl,P6⟩:=hgood (by simp);clear hgood;have A6:=chain A5 hb6;have QR6:=(hb6.block _ (ae QR5)).trans QR5;have P56:=P5.next (ah.of hb6);have I6:bo w6.heap.size w6 a5 cl:=(bo.next I5 hb6 (Hd _)).up hb6.size;clear QR5 P5 I5;have al:=aa w6 (.cells (jt rp rr rp.ks.length) 31);have QS:=an w6 (jt rp rr rp.ks.length) 31;dsimp only;go_upto_region 8 with fail
 have A7:=chain A6 al;have QR7:=(al.block _ (ae QR6)).trans QR6;have P67:=P56.next (ah.of al);have P7:=P6.next (ah.of al);have I7:bo (w6.alloc (.cells (jt rp rr rp.ks.length) 31)).heap.size (w6.alloc (.cells (jt rp rr rp.ks.length) 31)) a5 cl:=(bo.next I6 al (Hd _)).up al.size;generalize hw7:w6.alloc (.cells (jt rp rr rp.ks.length) 31)=w7 at *;clear hw7 QR6 A6 P56 P6 al I6;have con:=jL ts rp rq ta tc w7 ((HT.out.next A7 (Hd _)).up A7.size) P67.b HKR.out;rw [HR1.out,HR3.out,HCL.out] at con;unfold fp at con
 obtain ⟨n0,n1,n2,n3,n4,n5,n6,n7,n8,n9,n10⟩:=bz QR7;go_wp2_with fail
 refine con.mono ?_;rintro e w8 ⟨a8,c8,rfl,I8,hb8⟩;clear con n0 n1 n2 n3 n4 n5 n6 n7 n8 n9 n10;have A8:=chain A7 hb8;have QR8:=(hb8.block _ (ae QR7)).trans QR7;have QS8:=(hb8.block _ (ae QS)).trans QS;have P68:=P67.next (ah.of hb8);have P8:=P7.next (ah.of hb8);have I78:bo w8.heap.size w8 a5 cl:=(bo.next I7 hb8 (Hd _)).up hb8.size;clear QR7 QS P67 P7 I7;have con:=DI rp rq rr w8 HR4.out P68.b P8.b;unfold fp at con;dsimp only;obtain ⟨n0,n1,n2,n3,n4,n5,n6,n7,n8,n9,n10⟩:=bz QR8;obtain ⟨m0,m1,m2,m3,m4,m5,m6,m7,m8,m9,m10⟩:=bz QS8;go_wp2_with fail
 refine con.mono ?_;rintro e w9 ⟨rfl,hb9⟩;clear con n0 n1 n2 n3 n4 n5 n6 n7 n8 n9 n10 m0 m1 m2 m3 m4 m5 m6 m7 m8 m9 m10;have A9:=chain A8 hb9;have con:=ints_at cl cl a5 c5 a8 c8 w9 ((bo.next I78 hb9 (Hd _)).up hb9.size) ((bo.next I8 hb9 (Hd _)).up hb9.size) (show Hid _ from rfl) cl5;rw [decide_eq_true rfl] at con;go_wp2_with fail
 refine con.mono ?_;rintro e wa ⟨rfl,hba⟩;go_wp2_with fail
 go_ret;exact ⟨rfl,chain A9 hba⟩
end Go.Proofs.YtjebpkhkjkjphaaGreat
namespace Go.Proofs.YtjebpkhkjkjphaaGreat
open Go.ChangeShapes Go.WideShapes Go.ChangeAt Go.RowKit Go.Joins
set_option maxRecDepth 100000
set_option maxHeartbeats 16000000
theorem GA:Tryz.prog.cellsOf 67=7:=by kernel_rfl
theorem yB {H:Type} {enc:TypeId × Value→H} {W:World} {hd:Bool} {fuel:Nat} {cs:List Value} {x:DataW H × List MemPlace}
  (h:DataW.trod enc Tryz.prog W 0 (fun _=>true) hd fuel 67 cs=some x) :
  ∃ (g:Ag) (a:Option Addr) (cap:Nat),cs = [.int .i64 g.1,.int .i64 g.2.k,.int .i64 g.2.v.1,.int .i64 g.2.v.2.1,.string g.2.v.2.2,.int .i64 g.2.c,.slice a g.2.ks.length cap]∧aO W.heap.size W a g.2.ks:=by
 obtain ⟨xs,n,hn,_,hl,hlen,hf⟩:=DataW.trod_struct Tryz.underlying67 h
 rw [GA] at hl
 match xs,hlen with
 | [y0,y1],_ =>
  have h0:=hf 0 _ rfl
  have h1:=hf 1 _ rfl
  match cs,hl with
  | [c0,c1,c2,c3,c4,c5,c6],_ =>
   simp [q3,GG] at h0 h1
   obtain ⟨k,e0,_,_⟩:=DataW.trod_int Tryz.underlying3 h0
   obtain ⟨e,a,cap,e1,hk⟩:=ko (fun m _=>oc enc W hd m) h1
   simp at e0 e1
   obtain ⟨r1,r2,r3,r4,r5,r6⟩:=e1
   subst e0 r1 r2 r3 r4 r5 r6
   exact ⟨(k,e),a,cap,rfl,hk⟩
instance:Inhabited Ag:=⟨(0,.mk 0 (0,0,⟨#[]⟩) 0 [])⟩
theorem yo:8≤Tryz.prog.bytesOf 67:=by decide +kernel
theorem ve:8≤Tryz.prog.bytesOf 27:=by decide +kernel
end Go.Proofs.YtjebpkhkjkjphaaGreat
