/- Together: SOpen. -/
import Derived.SizedLaws
import Derived.Test.YtcnmpiahcnkndaaGreatMM12
/- How long the lists of numbers may be that are read. -/
namespace Go.Proofs.YtcnmpiahcnkndaaGreat
open Go.ChangeShapes Go.WideShapes Go.ChangeAt Go.RowKit Go.Joins

theorem bytes_int:Tryz.prog.bytesOf 3=8:=by kernel_rfl
theorem ints_sized {H:Type} {enc:TypeId × Value→H} {W:World} {a:Option Addr} {n cap:Nat} {d:DataW H} {p:List MemPlace} (h:DataW.Trod enc Tryz.prog W 0 (fun _=>true) true 22 (.slice a n cap) d p)
  {ts:List TypeId} {ds:List (DataW H)} (hs:(DataW.weightsEach Tryz.prog ts ds).all (· ≤ reachBytes)=true) {j:Nat} (ht:ts[j]? = some 22) (hd:ds[j]? = some d):n≤100000000000000:=by
 obtain ⟨fuel,hf⟩:=h
 rcases Go.Deep.open_slice1 Tryz.underlying22 q3 hf with ⟨hcs,_⟩ | ⟨a,len',cap',m,k,V,D,Pl,hcs,_,hl,hm,hmm,hx,_⟩
 ·simp [Value.cells] at hcs
  omega
 ·simp [Value.cells] at hcs
  obtain ⟨rfl,rfl,rfl⟩:=hcs
  simp only [Prod.mk.injEq] at hx
  have e:=hx.1
  subst e
  have:=sized_slice hs ht hd Tryz.underlying22
  rw [bytes_int] at this
  simp only [List.length_map,List.length_range] at this
  have h2:=reachBytes_lt
  omega
end Go.Proofs.YtcnmpiahcnkndaaGreat
