/- Together: EW. -/
import Derived.Test.YtohjlfhmnmcndaaGreatB15
/- Plainly: more rows, no fewer. -/
namespace Go.Proofs.YtohjlfhmnmcndaaGreat

theorem fix_more {ts:List (List Int)} {p p':Pl} {data now:List (List Zp)} (A:∀ (i:Nat) q,0≤wt (data.getD i []) q∧wt (data.getD i []) q≤wt (now.getD i []) q) (hl:now.length=data.length) (hr:risB p=true) (hr':risB p'=true) (h:(fixR ts p p' data).2.2=0) (h':(fixR ts p p' now).2.2=0):witB (fixR ts p p' data).1 (fixR ts p p' now).1=true:=by
 have F':=fix_ok (P:=fun x=>∀ q,wt (dstZ ts now p) q≤wt x q) h' (fun _ _=>Int.le_refl _) fun x hx px h1 h2 q=>Int.le_trans (px q) (uni_more hx h2 (one_dst h1).nonneg q)
 have F:=fix_ok (P:=fun x=>∀ q,wt x q≤wt (fixR ts p p' now).1 q) h (fun h1 q=>Int.le_trans (step_mono hr A h1 F'.seed q) (F'.prop q)) fun x hx px h1 h2=>uni_le hx (one_dst h1) h2 F'.one.nonneg px fun q=>Int.le_trans (step_mono hr' (fun i q=>by
  rw [snoc_get,snoc_get,hl]
  split
  ·exact A i q
  ·split
   ·exact ⟨hx.nonneg q,px q⟩
   ·exact ⟨Int.le_refl _,Int.le_refl _⟩) h1 F'.ev q) (F'.step q)
 exact wit_of F.one F.prop
def allL (data more:List (List Zp)) (k:Nat):List (List Zp):=(List.range k).map fun i=>bothZ 1 (data.getD i []) (more.getD i [])
theorem all_len (data more:List (List Zp)) (k:Nat):(allL data more k).length=k:=by simp [allL]
theorem all_succ (data more:List (List Zp)) (k:Nat):allL data more (k+1)=allL data more k ++ [bothZ 1 (data.getD k []) (more.getD k [])]:=by simp [allL,List.range_succ]
theorem all_more {data more:List (List Zp)} (h1:theB data=true) (h2:theB more=true) (h:∀ j,j<data.length→bothE 1 (data.getD j []) (more.getD j [])=0) (i:Nat) (q:List Vl):0≤wt (data.getD i []) q∧wt (data.getD i []) q≤wt ((allL data more data.length).getD i []) q:=by
 refine ⟨the_get h1 i q,?_⟩
 by_cases hi:i<data.length
 ·have e:(allL data more data.length).getD i []=bothZ 1 (data.getD i []) (more.getD i []):=by simp [allL,hi]
  rw [e,(both_inv (h i hi)).2.2.2.2]
  have:=the_get h2 i q
  omega
 ·have e:data.getD i [] = []:=by simp [List.getD_eq_getElem?_getD,List.getElem?_eq_none (Nat.le_of_not_lt hi)]
  have e2:(allL data more data.length).getD i [] = []:=by rw [List.getD_eq_getElem?_getD,List.getElem?_eq_none (by rw [all_len]; omega)]; rfl
  rw [e,e2]
  exact Int.le_refl _
end Go.Proofs.YtohjlfhmnmcndaaGreat
