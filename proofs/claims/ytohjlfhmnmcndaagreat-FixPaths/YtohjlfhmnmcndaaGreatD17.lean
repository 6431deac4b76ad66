/- Together: PD, ET, RP, R1, R2, R3, RB, RO, PE. -/
import Derived.Deep.CutBlock
import Derived.Deep.DeepCutAuto
import Derived.Test.YtohjlfhmnmcndaaGreatD16
import Derived.Test.YtohjlfhmnmcndaaGreatD15
import Derived.Test.YtohjlfhmnmcndaaGreatD7
import Derived.Test.YtohjlfhmnmcndaaGreatD6
import Derived.Test.YtohjlfhmnmcndaaGreatD2
import Derived.Test.YtohjlfhmnmcndaaGreatD13
/- Plainly: Fix, and Quick, of edges. -/
namespace Go.Proofs.YtohjlfhmnmcndaaGreat

theorem uni_ok (S T:Nat→Nat→Bool):bothE 1 (relL S) (relL T)=0∧uniZ (relL S) (relL T)=relL (uniR S T):=by
 have hw:∀ x ∈ relL S ++ weighL (timesF 1) (relL T),x.2=1:=fun x hx=>by
  rcases List.mem_append.1 hx with hx | hx
  ·exact rel_ones S x hx
  ·obtain ⟨y,hy,rfl,_⟩:=weighL_mem _ _ x hx;have:=rel_ones T y hy;simp only [timesF];omega
 have hb:bothE 1 (relL S) (relL T)=0:=by
  unfold bothE;rw [if_pos (rel_inp S).set,if_pos (rel_inp T).set];refine small_gather (fun x hx=>by rw [hw x hx]; decide) ?_;rw [tot_ones hw,List.length_append];have h1:=rel_len S;have h2:=rel_len T;have h3:=weighL_len (timesF 1) (relL T);omega
 refine ⟨hb,rel_eq (one_uni hb).set (fun i j hi hj=>?_) fun q hq=>?_⟩
 ·rw [uni_wt hb,rel_wt S hi hj,rel_wt T hi hj];unfold uniR;cases S i j <;> cases T i j <;> rfl
 ·rw [uni_wt hb,rel_off S hq,rel_off T hq];rfl
theorem rel_wt0 (S:Nat→Nat→Bool) (q:List Vl):0≤wt (relL S) q:=(rel_one S).nonneg q
theorem less_ok {S T:Nat→Nat→Bool} (h:∀ i j,S i j=true→T i j=true):bothE (-1) (relL T) (relL S)=0:=by
 unfold bothE;rw [if_pos (rel_inp T).set,if_pos (rel_inp S).set];refine gather_mono (rel_gat T) fun q=>?_
 rw [wt_append,times_wt (rel_inp S).set];have h0:=rel_wt0 S q;have h1:wt (relL S) q≤wt (relL T) q:=by
  rcases at_or_off q with ⟨i,j,hi,hj,c⟩ | hq
  ·rw [← wt_congr c,← wt_congr c,rel_wt S hi hj,rel_wt T hi hj];by_cases k:S i j=true
   ·rw [if_pos k,if_pos (h i j k)]; omega
   ·rw [if_neg k];exact ite01 _
  ·rw [rel_off S hq,rel_off T hq]; omega
 omega
theorem rel_inj {S T:Nat→Nat→Bool} (hS:Ten S) (hT:Ten T) (h:relL S=relL T) (i j:Nat):S i j=T i j:=by
 by_cases hi:i<10∧j<10
 ·have e:=rel_wt S hi.1 hi.2;rw [h,rel_wt T hi.1 hi.2] at e;cases h1:S i j <;> cases h2:T i j <;> simp_all
 ·have a:=fun k=>hi (hS i j k)
  have b:=fun k=>hi (hT i j k)
  rw [Bool.eq_false_iff.2 a,Bool.eq_false_iff.2 b]
theorem rel_same {S T:Nat→Nat→Bool} (hS:Ten S) (hT:Ten T) (h:∀ i j,S i j=true→T i j=true) (hl:(relL T).length=(relL S).length) (i j:Nat):T i j=S i j:=by
 have e:=(rel_one S).same (rel_one T) (fun q=>by
  rcases at_or_off q with ⟨i,j,hi,hj,c⟩ | hq
  ·rw [← wt_congr c,← wt_congr c,rel_wt S hi hj,rel_wt T hi hj]
   by_cases k:S i j=true
   ·rw [if_pos k,if_pos (h i j k)]; omega
   ·rw [if_neg k]
    exact ite01 _
  ·rw [rel_off S hq,rel_off T hq]; omega) hl
 exact (rel_inj hS hT e i j).symm
section
variable {d:List Zp} {E:Nat→Nat→Bool}
theorem gr_paths (h:Edg d E):∀ (n k:Nat) (r:Int) (y:List Zp),k≤11→n+k=50 →
  (grP (fun x _=>evE [[3,3],[3,3]] ([d] ++ [x]) stpP) (fun x _=>dstZ [[3,3],[3,3]] ([d] ++ [x]) stpP) n r (relL (relN E k)) y).2.2=0 ∧
  (grP (fun x _=>evE [[3,3],[3,3]] ([d] ++ [x]) stpP) (fun x _=>dstZ [[3,3],[3,3]] ([d] ++ [x]) stpP) n r (relL (relN E k)) y).1=relL (warN E 10)
 | 0,k,_,_,h1,h2=>by omega
 | n+1,k,r,y,h1,h2=>by
  have s1:evE [[3,3],[3,3]] ([d] ++ [relL (relN E k)]) stpP=0:=(step_ok h (relN E k)).1
  have s2:dstZ [[3,3],[3,3]] ([d] ++ [relL (relN E k)]) stpP=relL (stpR E (relN E k)):=(step_ok h (relN E k)).2
  obtain ⟨u1,u2⟩:=uni_ok (relN E k) (stpR E (relN E k))
  have u2:uniZ (relL (relN E k)) (relL (stpR E (relN E k)))=relL (relN E (k+1)):=u2
  have inc:∀ i j,relN E k i j=true→relN E (k+1) i j=true:=fun i j hh=>uniR_iff.2 (.inl hh)
  have l1:=less_ok inc
  rw [grP]
  simp only [s1,s2,u1,u2,l1,ne_eq,not_true_eq_false,if_false]
  by_cases hl:(relL (relN E (k+1))).length=(relL (relN E k)).length
  ·rw [if_pos hl]
   have st:=rel_same (h.ten.rel k) (h.ten.rel (k+1)) inc hl
   have e:relL (relN E (k+1))=relL (warN E 10):=rel_congr fun i j _ _=>by rw [st,war_rel h.ten st]
   exact ⟨rfl,e⟩
  ·rw [if_neg hl]
   have hk:k≠11:=fun e=>hl (by
    subst e
    rw [rel_congr fun i j _ _=>rel_end h.ten i j])
   exact gr_paths h n (k+1) _ _ (by omega) (by omega)
theorem wid_paths (h:Edg d E):widE [[3,3]] (tabP 0) stpP [d]=0:=by
 have e1:lookE [[3,3]] (tabP 0)=0:=by decide +kernel
 have e2:widL [[3,3]] (tabP 0) = [[3,3],[3,3]]:=by decide +kernel
 have e3:lookE [[3,3],[3,3]] stpP=0:=by decide +kernel
 have e4:colsT [[3,3],[3,3]] stpP=colsT [[3,3]] (tabP 0):=by decide +kernel
 unfold widE;rw [e1,e2,e3,e4,tab_data h.inp];simp
theorem fix_paths (h:Edg d E):(fixR [[3,3]] (tabP 0) stpP [d]).2.2=0∧(fixR [[3,3]] (tabP 0) stpP [d]).1=relL (warN E 10):=by
 have e2:widL [[3,3]] (tabP 0) = [[3,3],[3,3]]:=by decide +kernel
 obtain ⟨s1,s2⟩:=seed_ok h;unfold fixR;rw [wid_paths h,s1,s2,e2];simp only [ne_eq,not_true_eq_false,if_false];exact gr_paths h 50 0 0 _ (by omega) rfl
theorem quick_paths (h:Edg d E):qckR [[3,3]] (tabP 0) stpP [d]=(relL (warN E 10),0):=by
 obtain ⟨f1,f2⟩:=fix_paths h
 have ht:theB [d]=true:=by
  unfold theB theB1
  simp only [List.all_cons,List.all_nil,Bool.and_true]
  rw [List.all_eq_true]
  exact fun x hx=>decide_eq_true (h.pos x hx)
 obtain ⟨s1,s2⟩:=quick_same f1 (by show pthB 1 stpP=true; decide +kernel) (by decide +kernel) ht
 have hp:plnB (([[3,3]]:List (List Int)).length:Int) stpP=true:=by decide +kernel
 unfold qckR
 rw [wid_paths h,hp,(seed_ok h).1,s1,s2,f2]
 simp
end
/-- Edges as they are given. -/
def edgL (es:List (Nat × Nat)):List Zp:=es.map fun p=>(lnk p.1 p.2,1)
def edgR (es:List (Nat × Nat)) (i j:Nat):Bool:=es.any fun p=>p.1 == i && p.2 == j
theorem edgR_iff {es:List (Nat × Nat)} {i j:Nat}:edgR es i j=true↔(i,j) ∈ es:=by
 unfold edgR;rw [List.any_eq_true];constructor
 ·rintro ⟨⟨a,b⟩,h1,h2⟩;rw [Bool.and_eq_true,beq_iff_eq,beq_iff_eq] at h2;obtain ⟨rfl,rfl⟩:=h2;exact h1
 ·exact fun h=>⟨(i,j),h,by simp⟩
theorem edg_of {es:List (Nat × Nat)} (h:∀ p ∈ es,p.1<10∧p.2<10) (hl:es.length≤30):Edg (canon (edgL es)) (edgR es):=by
 have h1:∀ x ∈ edgL es,x.2=1:=fun x hx=>by
  obtain ⟨p,_,rfl⟩:=List.mem_map.1 hx;rfl
 have hp:∀ x ∈ edgL es,1≤x.2:=fun x hx=>by rw [h1 x hx]; decide
 refine ⟨canon_set _,fun x hx=>?_,fun i j hij=>?_,fun i j hij=>h _ (edgR_iff.1 hij),?_⟩
 ·have hx1:=canon_pos1 hp x hx;have e:=canon_mem hx;obtain ⟨y,hy,c,_⟩:=wt_posAt (l:=edgL es) (q:=x.1) (by omega);obtain ⟨p,hp',rfl⟩:=List.mem_map.1 hy;have e2:=bareL_of c;rw [(canon_set _).bare x hx,lnk_bare] at e2;exact ⟨p.1,p.2,(h p hp').1,(h p hp').2,edgR_iff.2 hp',e2.symm,hx1⟩
 ·have hm:(lnk i j,(1:Int)) ∈ edgL es:=List.mem_map.2 ⟨(i,j),edgR_iff.1 hij,rfl⟩;have hw:0<wt (canon (edgL es)) (lnk i j):=by
   rw [canon_wt,wt_tot];exact (pos_tot (fun _=>ite01 _) hp).2 ⟨_,hm,by rw [if_pos (cmpL_refl _)]; decide⟩
  obtain ⟨y,hy,c,_⟩:=wt_posAt hw;have e2:=bareL_of c;rw [(canon_set _).bare y hy,lnk_bare] at e2;exact ⟨y.2,by rw [← e2]; exact hy⟩
 ·rw [tot_canon (fun _ _ _=>rfl),tot_ones h1];unfold edgL;rw [List.length_map];omega
end Go.Proofs.YtohjlfhmnmcndaaGreat
namespace Go.Proofs.YtohjlfhmnmcndaaGreat
open Go.RowKit Go.Lib Go.Shelf

theorem sl_two {W:World} {s:Nat} {x y:Int} (h:W.heap[s]? = some (.cells #[.int .i64 3,.int .i64 x,.string ⟨#[]⟩,.int .i64 3,.int .i64 y,.string ⟨#[]⟩] 24 (0,0))):SlAt W (some ⟨s,0,none⟩) (lnk x y) :=
 ⟨by simp [lnk,maxLen],.inr ⟨s,0,rfl,fun i hi=>by
  match i,hi with
  | 0,_=>exact ⟨cell_of (i:=0) h rfl,cell_of (i:=1) h rfl,cell_of (i:=2) h rfl⟩
  | 1,_=>exact ⟨cell_of (i:=3) h rfl,cell_of (i:=4) h rfl,cell_of (i:=5) h rfl⟩,lt_of_heap h⟩⟩
/-- Facts of alive's region. -/
def f8 (lo s c:Nat) (_d:Nat→Bool) (k:Nat) (W:World) (v:Value):Prop:=match k with
 | 0=>∃ b,v = .slice (some ⟨b,0,none⟩) 2 2∧IX W (some ⟨b,0,none⟩) [3,3]
 | 1=>∃ b,v = .slice (some ⟨b,0,none⟩) 1 1∧TbX W (some ⟨b,0,none⟩) [[3,3]]
 | 2=>v=plV (tabP 0) pw0
 | 3=>v=plV stpP (sq s c)
 | 4=>∃ x,v = .agg #[.slice (some ⟨x,0,none⟩) 2 2,.int .i64 1]∧SlAt W (some ⟨x,0,none⟩) (lnk 1 2)
 | 5=>∃ x,v = .agg #[.slice (some ⟨x,0,none⟩) 2 2,.int .i64 1]∧SlAt W (some ⟨x,0,none⟩) (lnk 2 3)
 | 6=>∃ b,v = .slice (some ⟨b,0,none⟩) 2 2∧ZsAt W (some ⟨b,0,none⟩) edgs
 | 7=>∃ b,v = .slice (some ⟨b,0,none⟩) 1 1∧DtAt W (some ⟨b,0,none⟩) [edgs]
 | 8=>∃ u,v = .tuple #[u,.int .i64 2,.int .i64 0]∧OwnZ lo W u (fixR [[3,3]] (tabP 0) stpP [edgs]).1
 | 9=>∃ u,v = .tuple #[u,.int .i64 2,.int .i64 0]∧OwnZ lo W u (fixR [[3,3]] (tabP 0) stpP [edgs]).1
 | 10=>OwnZ lo W v (fixR [[3,3]] (tabP 0) stpP [edgs]).1
 | 11=>v = .int .i64 2
 | 12=>v = .int .i64 0
 | 13=>OwnZ lo W v (fixR [[3,3]] (tabP 0) stpP [edgs]).1
 | 14=>v = .int .i64 2
 | 15=>v = .int .i64 0
 | _=>True
theorem tab_ok (n:Int) (h:-9223372036854775808≤n∧n≤9223372036854775807):PlOk (tabP n):=.mk _ _ _ _ _ _ h (by simp) (by simp) (fun p hp=>by cases hp)
theorem stp_ok:PlOk stpP:=.mk _ _ _ _ _ _ (by omega) (by simp) (by simp) fun p hp=>by
 simp at hp
 subst hp
 refine .mk _ _ _ _ _ _ (by omega) (by simp) (by simp) fun p hp=>?_
 simp at hp
 rcases hp with rfl | rfl
 ·exact tab_ok 1 (by omega)
 ·exact tab_ok 0 (by omega)
theorem is_two {W:World} {b:Nat} (h:W.heap[b]? = some (.cells #[.int .i64 3,.int .i64 3] 3 (0,0))):IX W (some ⟨b,0,none⟩) [3,3] :=
 ⟨by simp [maxLen],.inr ⟨b,0,rfl,lt_of_heap h,fun i hi=>by
  match i,hi with
  | 0,_=>exact cell_of (i:=0) h rfl
  | 1,_=>exact cell_of (i:=1) h rfl⟩⟩

/-- An append to a slice of the call's own, of whatever other slice. -/
theorem wpList_append_opt {P:Program} {w:World} {ops:Array Oper} {rest:List Oper} {o:Oper} {a:Act} {Q:Exit→Act→World→Prop} (hgd:o.guard=none) (s x:Operand) (t:TypeId)
  (ho:o.op = .call { callee:=.builtin .append,args:=#[s,x],argTypes:=#[t,t] })
  (base:Nat) (e:TypeId) (i:TypeInfo) (z:Value) (size bytes:Nat) (ht:P.underlying t=some (.slice e)) (hi:P.info? e=some i) (hz:i.zero=some z)
  (hsize:i.size=size) (hby:i.bytes=bytes) (hzs:z.cells.size=size) (hsz:0<size)
  (v:Value) (n:Nat) (xs:List Value) (hs:a.eval s=v) (hown:w.ownsRow base e size v n xs)
  (ao:Option Addr) (m c:Nat) (news:List Value) (hx:a.eval x = .slice ao m c) (hn0:ao=none→m=0∧c=0) (hl:news.length=m*size) (hnews:∀ ad,ao=some ad→∀ j u,news[j]? = some u→w.cell? (ad.add j)=some u) (h1:∀ u ∈ news,u.oneCell'=true)
  (h63:n+m≤maxLen) (hbytes:(n+m)*bytes≤140737488355328) (hbase:base≤w.heap.size)
  (h:∀ v' w',w'.ownsRow base e size v' (n+m) (xs ++ news)→w.grownBy w' v.ownBlock→wpList P ops Q rest (a.put o.dst v') w'):wpList P ops Q (o :: rest) a w:=by
 cases ao with
 | none =>
  obtain ⟨rfl,rfl⟩:=hn0 rfl;have e0:news = []:=List.eq_nil_of_length_eq_zero (by simpa using hl);subst e0;refine wpList_append_own_none hgd s x t ho base e i size ht hi v n xs hs hown hx ?_;exact h v w (by simpa using hown) ⟨rfl,rfl,rfl,Nat.le_refl _,fun _ _ _=>rfl⟩
 | some ad=>exact wpList_append_own w hgd s x t ho base e i z size bytes ht hi hz hsize hby hzs hsz v n xs hs hown ad m c news hx hl (hnews ad rfl) h1 h63 hbytes hbase fun v' w' g1 g2 _=>h v' w' g1 g2

/-- A row's values lie below B, or in a block of values. -/
def Safe (B:Nat) (W:World) (a:Option Addr) (r:List Vl):Prop:=r = []∨TyAt W a∨∀ b off,a=some ⟨b,off,none⟩→b<B
theorem Safe.next {B:Nat} {W w1:World} {a:Option Addr} {r:List Vl} (h:Safe B W a r) (hb:Below W.heap.size W w1):Safe B w1 a r:=by
 rcases h with h | h | h
 ·exact .inl h
 ·exact .inr (.inl (h.next hb))
 ·exact .inr (.inr h)
theorem sl_grownM {W w1:World} {B n:Nat} {v:Value} {xs:List Value} {a:Option Addr} {r:List Vl} (h:SlAt W a r) (hs:Safe B W a r) (ho:W.ownsRow B 58 2 v n xs) (hg:W.grownBy w1 v.ownBlock):SlAt w1 a r∧Safe B w1 a r:=by
 rcases hs with hs | hs | hs
 ·subst hs; exact ⟨⟨by simp,.inl rfl⟩,.inl rfl⟩
 ·have:=sl_grown h hs ho hg;exact ⟨this.1,.inr (.inl this.2)⟩
 ·refine ⟨⟨h.1,?_⟩,.inr (.inr hs)⟩;rcases h.2 with h | ⟨b,off,e,hr,hlt⟩
  ·exact .inl h
  ·refine .inr ⟨b,off,e,fun i hi=>?_,Nat.lt_of_lt_of_le hlt hg.size⟩;have k:w1.heap[b]? = W.heap[b]?:=hg.block b hlt fun e'=>by
    have:=(ho.lt b e'.symm).1;have:=hs b off e;omega
   obtain ⟨c0,c1,c2⟩:=hr i hi;exact ⟨(World.cell?_of_block (a:=⟨b,_,none⟩) k).trans c0,(World.cell?_of_block (a:=⟨b,_,none⟩) k).trans c1,(World.cell?_of_block (a:=⟨b,_,none⟩) k).trans c2⟩
def EncM (B:Nat) (W:World) (xs:List Value) (l:List Zp):Prop :=
 xs.length=l.length*2∧∀ (i:Nat) (h:i<l.length),∃ a cap,xs[i*2]? = some (.slice a l[i].1.length cap)∧xs[i*2+1]? = some (.int .i64 l[i].2)∧SlAt W a l[i].1∧Safe B W a l[i].1
theorem EncM.next {B:Nat} {W w1:World} {xs:List Value} {l:List Zp} (h:EncM B W xs l) (hb:Below W.heap.size W w1):EncM B w1 xs l :=
 ⟨h.1,fun i hi=>by
  obtain ⟨a,cap,h1,h2,h3,h4⟩:=h.2 i hi
  exact ⟨a,cap,h1,h2,h3.next hb,h4.next hb⟩⟩
theorem EncM.append {B:Nat} {W:World} {xs ys:List Value} {l t:List Zp} (h:EncM B W xs l) (k:EncM B W ys t):EncM B W (xs ++ ys) (l ++ t):=by
 have lx:=h.1;have ly:=k.1;refine ⟨by simp [lx,ly]; omega,fun i hi=>?_⟩;by_cases hi':i<l.length
 ·obtain ⟨a',c',h1,h2,h3⟩:=h.2 i hi';rw [List.getElem_append_left hi'];refine ⟨a',c',?_,?_,h3⟩
  ·rw [List.getElem?_append_left (by omega),h1]
  ·rw [List.getElem?_append_left (by omega),h2]
 ·have hi2:i - l.length<t.length:=by simp at hi; omega
  obtain ⟨a',c',h1,h2,h3⟩:=k.2 (i - l.length) hi2;rw [List.getElem_append_right (by omega)];refine ⟨a',c',?_,?_,h3⟩
  ·rw [List.getElem?_append_right (by omega),← h1]; congr 1; omega
  ·rw [List.getElem?_append_right (by omega),← h2]; congr 1; omega
theorem encM_of {w W:World} {xs:List Value} {l:List Zp} (h:EncB w xs l) (hb:Below w.heap.size w W):EncM w.heap.size W xs l :=
 ⟨h.1,fun i hi=>by
  obtain ⟨a,cap,h1,h2,h3⟩:=h.2 i hi
  refine ⟨a,cap,h1,h2,h3.next hb,?_⟩
  rcases h3.2 with h | ⟨b,off,e,_,hlt⟩
  ·exact .inl h
  ·refine .inr (.inr fun b' off' e'=>?_)
   rw [e] at e'
   injection e' with e'
   injection e' with e' _ _
   omega⟩
/-- A slice of the call's own holds these rows. -/
def OwnM (B:Nat) (W:World) (v:Value) (l:List Zp):Prop:=∃ xs,W.ownsRow B 58 2 v l.length xs∧EncM B W xs l
theorem OwnM.next {B:Nat} {W w1:World} {v:Value} {l:List Zp} (h:OwnM B W v l) (hb:Below W.heap.size W w1):OwnM B w1 v l:=by
 obtain ⟨xs,h1,h2⟩:=h;exact ⟨xs,own_next h1 hb,h2.next hb⟩
theorem ownM_push {B n:Nat} {W w1:World} {v v':Value} {xs ys:List Value} {l t:List Zp} (ho:W.ownsRow B 58 2 v n xs) (he:EncM B W xs l) (hk:EncM B W ys t) (ho':w1.ownsRow B 58 2 v' (l ++ t).length (xs ++ ys)) (hg:W.grownBy w1 v.ownBlock):OwnM B w1 v' (l ++ t):=by
 refine ⟨_,ho',?_⟩;have h:=he.append hk;exact ⟨h.1,fun i hi=>by
  obtain ⟨a,cap,h1,h2,h3,h4⟩:=h.2 i hi;have g:=sl_grownM h3 h4 ho hg;exact ⟨a,cap,h1,h2,g.1,g.2⟩⟩
/-- How a slice may lie: nil has no room; there is room for what there is. -/
structure Lie (a:Option Addr) (cap n:Nat):Prop where
 nil:a=none→cap=0
 room:n≤cap
 max:cap≤maxLen
theorem OwnM.zs {B:Nat} {W:World} {v:Value} {l:List Zp} (h:OwnM B W v l):∃ a cap,v = .slice a l.length cap∧ZsAt W a l∧Lie a cap l.length:=by
 obtain ⟨xs,h1,h2⟩:=h;have h1':=h1;obtain ⟨hx,h1 | ⟨g,cap,cur,e,hg,hh,hn,hc,hs,ht⟩⟩:=h1
 ·obtain ⟨rfl,h0⟩:=h1;have:l = []:=List.eq_nil_of_length_eq_zero h0;subst this;exact ⟨none,0,rfl,⟨Nat.zero_le _,.inl rfl⟩,fun _=>rfl,by simp,Nat.zero_le _⟩
 ·subst e;refine ⟨_,cap,rfl,⟨Nat.le_trans hn hc,.inr ⟨g,0,rfl,?_,?_⟩⟩,fun e=>(by cases e),hn,hc⟩
  ·exact (h1'.lt g rfl).2
  ·intro i hi;obtain ⟨a,cp,e0,e1,e2,e3⟩:=h2.2 i hi;refine ⟨?_,a,cp,?_,e2⟩
   ·rw [h1'.cellAt _ (by omega),← e1]; congr 1; omega
   ·rw [h1'.cellAt _ (by omega),← e0]; congr 1; omega
theorem own_shapeE {W:World} {base e size n:Nat} {v:Value} {xs:List Value} (h:W.ownsRow base e size v n xs):∃ a c,v = .slice a n c:=by
 obtain ⟨_,⟨rfl,h0⟩ | ⟨g,c1,cur,rfl,_⟩⟩:=h
 ·exact ⟨none,0,by rw [h0]⟩
 ·exact ⟨_,c1,rfl⟩
/-- Cells that hold bare values. -/
def EncV (xs:List Value) (l:List Vl):Prop:=xs.length=l.length*3∧∀ (i:Nat) (h:i<l.length),xs[i*3]? = some (.int .i64 l[i].1)∧xs[i*3+1]? = some (.int .i64 l[i].2.1)∧xs[i*3+2]? = some (.string l[i].2.2)
theorem EncV.push {xs:List Value} {l:List Vl} (h:EncV xs l) (v:Vl):EncV (xs ++ [.int .i64 v.1,.int .i64 v.2.1,.string v.2.2]) (l ++ [v]):=by
 have lx:=h.1;refine ⟨by simp [lx]; omega,fun i hi=>?_⟩;by_cases hi':i<l.length
 ·obtain ⟨h0,h1,h2⟩:=h.2 i hi';rw [List.getElem_append_left hi'];refine ⟨?_,?_,?_⟩
  ·rw [List.getElem?_append_left (by omega),h0]
  ·rw [List.getElem?_append_left (by omega),h1]
  ·rw [List.getElem?_append_left (by omega),h2]
 ·have:i=l.length:=by simp at hi; omega
  subst this;simp only [List.getElem_concat_length];refine ⟨?_,?_,?_⟩
  ·rw [List.getElem?_append_right (by omega)]; simp [lx]
  ·rw [List.getElem?_append_right (by omega)]; simp [lx]
  ·rw [List.getElem?_append_right (by omega)]; simp [lx]
theorem own_valsR {W:World} {B n:Nat} {v:Value} {xs:List Value} {l:List Vl} (ho:W.ownsRow B 24 3 v n xs) (hn:n=l.length) (he:EncV xs l):∃ a cap,v = .slice a l.length cap∧SlAt W a l∧TyAt W a:=by
 subst hn;have ho':=ho;obtain ⟨hx,h1 | ⟨g,cap,cur,e,hg,hh,hn,hc,hs,ht⟩⟩:=ho
 ·obtain ⟨rfl,h0⟩:=h1;have:l = []:=List.eq_nil_of_length_eq_zero h0;subst this;exact ⟨none,0,rfl,⟨Nat.zero_le _,.inl rfl⟩,fun b off e=>by cases e⟩
 ·subst e;refine ⟨_,cap,rfl,⟨Nat.le_trans hn hc,.inr ⟨g,0,rfl,?_,(ho'.lt g rfl).2⟩⟩,?_⟩
  ·intro i hi;obtain ⟨e0,e1,e2⟩:=he.2 i hi;refine ⟨?_,?_,?_⟩
   ·rw [ho'.cellAt _ (by omega),← e0]; congr 1; omega
   ·rw [ho'.cellAt _ (by omega),← e1]; congr 1; omega
   ·rw [ho'.cellAt _ (by omega),← e2]; congr 1; omega
  ·intro b off e;injection e with e
   injection e with e _ _
   subst e;exact ⟨_,_,hh⟩
theorem news3 {W:World} {B:Nat} (hB:W.heap.size=B) (u0 u1 u2:Value):∀ j u,[u0,u1,u2][j]? = some u→(W.alloc (.cells #[u0,u1,u2] 24)).cell? ((⟨B,0,none⟩:Addr).add j)=some u:=by
 subst hB;intro j u hj
 match j,hj with
 | 0,hj=>simp at hj; subst hj; simp [Addr.add]
 | 1,hj=>simp at hj; subst hj; simp [Addr.add]
 | 2,hj=>simp at hj; subst hj; simp [Addr.add]
theorem one3 (x y:Int) (s:ByteArray):∀ u ∈ [Value.int .i64 x,.int .i64 y,.string s],u.oneCell'=true:=by
 intro u hu; simp at hu; rcases hu with rfl | rfl | rfl <;> rfl
set_option maxRecDepth 100000 in
set_option maxHeartbeats 2000000 in
theorem refBareRow_at (a:Option Addr) (cap:Nat) (l:List Vl) (w:World) (h:SlAt w a l) (h8:l.length≤8) :
  Calls Tryz.prog 108 #[.slice a l.length cap] w fun e w'=>(∃ a' c',e = .returned (.slice a' l.length c')∧SlAt w' a' (bareL l)∧TyAt w' a')∧Below w.heap.size w w':=by
 obtain ⟨i0,hi,hj0,hj1,hj2⟩:=info_parts Tryz.info49;go_enter Tryz.func108,Tryz.ntmps108;go_wp2_with fail
 go_loopw [3,8] (fun v i wr=>∃ k:Nat,k≤l.length∧i = .int .i64 k∧(∃ xs,wr.ownsRow w.heap.size 24 3 v k xs∧EncV xs (bareL (l.take k)))∧Below w.heap.size w wr) (fun _ i _=>l.length - (intOf i).toNat)
 case atStart=>exact ⟨0,Nat.zero_le _,rfl,⟨[],World.ownsRow_nil _ _ _ _,rfl,fun i hi=>by simp [bareL] at hi⟩,Below.refl _ _⟩
 case round =>
  obtain ⟨k,hk,rfl,⟨xs,ho,he⟩,hb⟩:=hrel;have hz:=hb.size;by_cases hlt:k<l.length
  ·obtain ⟨b,off,rfl,hbl,c0,c1,c2⟩:=(h.next hb).elem hlt;obtain ⟨a3,c3,rfl⟩:=own_shapeE ho;go_wp2_with fail
   refine (refBare_any _ _ _ _).mono ?_;rintro e w1 ⟨rfl,hb1⟩;have hb1':=chain2 hb hb1;have hz1:=hb1'.size;have ho1:=own_next (own_next ho ((Below.refl _ _).alloc (Nat.le_refl _) _)) hb1;have stp:Hid (bareL (l.take (k+1))=bareL (l.take k) ++ [bareP l[k]]):=by
    show List.map bareP (l.take (k+1))=List.map bareP (l.take k) ++ [bareP l[k]];rw [List.take_succ_eq_append_getElem hlt,List.map_append]; rfl
   clear ho;go_wp2_with (at_builtin; refine wpList_append_own _ rfl _ _ 56 rfl w.heap.size 24 i0 _ 3 32 Tryz.underlying56 hi hj0 hj1 hj2 rfl (by decide) _ _ _ rfl (ho1.alloc _) ⟨w1.heap.size,0,none⟩ 1 1 [.int .i64 l[k].1,.int .i64 (bareN l[k].1 l[k].2.1),.string (bareS l[k].1 l[k].2.2)] rfl rfl (news3 rfl _ _ _) (one3 _ _ _) (by unfold maxLen; omega) (by omega) (by simp; omega) ?_)
   intro v' w2 ho2 hg2 _;have hb2:Below w.heap.size w w2:=(hb1'.alloc hz1 _).grown hg2 (by simp; omega) (fun q hq=>((ho1.alloc (.cells #[.int .i64 l[k].1,.int .i64 (bareN l[k].1 l[k].2.1),.string (bareS l[k].1 l[k].2.2)] 24)).lt q hq).1);clear hg2 ho1;go_wp2
   go_roundw
   case rel=>exact ⟨k+1,by omega,by go_num,⟨_,ho2,by rw [stp.out]; exact he.push (bareP l[k])⟩,hb2⟩
   case measure=>simp [intOf]; omega
  ·have e:k=l.length:=by omega
   subst e;rw [List.take_length] at he;obtain ⟨a3,c3,e3,s3,t3⟩:=own_valsR ho (bareL_length l).symm he;rw [bareL_length] at e3;subst e3;go_wp2
   go_ret;exact ⟨⟨a3,c3,rfl,s3,t3⟩,hb⟩

def midL (r:List Vl) (x:Int):List Zp:=if x=0 then [] else [(bareL r,x)]
theorem putL_end (r:List Vl) (x:Int):∀ z:List Zp,(∀ y ∈ z,cmpL y.1 r<0)→putL z r x=z ++ midL r x
 | [],_=>rfl
 | y :: t,h=>by
  rw [putL,if_pos (h y (by simp)),putL_end r x t (fun u hu=>h u (by simp [hu]))]; rfl
theorem putL_skip (r:List Vl) (x:Int) (t:List Zp):∀ z:List Zp,(∀ y ∈ z,cmpL y.1 r<0)→putL (z ++ t) r x=z ++ putL t r x
 | [],_=>rfl
 | y :: u,h=>by
  rw [List.cons_append,putL,if_pos (h y (by simp)),putL_skip r x t u (fun v hv=>h v (by simp [hv]))]; rfl
theorem take_lt {z:List Zp} {r:List Vl} {k:Nat} (h:∀ t (ht:t<z.length),t<k→cmpL z[t].1 r<0):∀ y ∈ z.take k,cmpL y.1 r<0:=by
 intro y hy;obtain ⟨t,ht,rfl⟩:=List.getElem_of_mem hy;rw [List.length_take] at ht;rw [List.getElem_take];exact h t (by omega) (by omega)
theorem putL_all {z:List Zp} {r:List Vl} {k:Nat} (x:Int) (hk:k=z.length) (h:∀ t (ht:t<z.length),t<k→cmpL z[t].1 r<0):putL z r x=z.take k ++ midL r x ++ z.drop k:=by
 subst hk;have:=take_lt h;rw [List.take_length] at this;rw [putL_end r x z this,List.take_length,List.drop_length,List.append_nil]
theorem putL_same {z:List Zp} {r:List Vl} {k:Nat} (x:Int) (hk:k<z.length) (h:∀ t (ht:t<z.length),t<k→cmpL z[t].1 r<0) (hc:cmpL z[k].1 r=0):putL z r x=z.take k ++ midL r (x+z[k].2) ++ z.drop (k+1):=by
 have e:z=z.take k ++ z[k] :: z.drop (k+1):=by rw [← List.drop_eq_getElem_cons hk,List.take_append_drop]
 have:=putL_skip r x (z[k] :: z.drop (k+1)) (z.take k) (take_lt h);rw [← e] at this;rw [this,putL,if_neg (by omega),if_pos hc,List.append_assoc]
 congr 1
 unfold midL
 split <;> rfl
theorem putL_new {z:List Zp} {r:List Vl} {k:Nat} (x:Int) (hk:k<z.length) (h:∀ t (ht:t<z.length),t<k→cmpL z[t].1 r<0) (hc:0<cmpL z[k].1 r):putL z r x=z.take k ++ midL r x ++ z.drop k:=by
 have e:z=z.take k ++ z[k] :: z.drop (k+1):=by rw [← List.drop_eq_getElem_cons hk,List.take_append_drop]
 have:=putL_skip r x (z[k] :: z.drop (k+1)) (z.take k) (take_lt h);rw [← e] at this;rw [this,putL,if_neg (by omega),if_neg (by omega),List.append_assoc,List.drop_eq_getElem_cons hk]
 congr 1
 unfold midL
 split <;> rfl
theorem ZsAt.take {W:World} {a:Option Addr} {z:List Zp} (h:ZsAt W a z) (k:Nat):ZsAt W a (z.take k):=by
 obtain ⟨h0,rfl | ⟨b,off,e,hlt,hr⟩⟩:=h
 ·exact ⟨by simp,.inl (by simp)⟩
 ·refine ⟨by rw [List.length_take]; omega,.inr ⟨b,off,e,hlt,fun i hi=>?_⟩⟩;rw [List.length_take] at hi;rw [List.getElem_take];exact hr i (by omega)
theorem ZsAt.drop {W:World} {b off:Nat} {z:List Zp} (h:ZsAt W (some ⟨b,off,none⟩) z) (k:Nat):ZsAt W (some ⟨b,off+k*2,none⟩) (z.drop k):=by
 obtain ⟨h0,rfl | ⟨b',off',e,hlt,hr⟩⟩:=h
 ·exact ⟨by simp,.inl (by simp)⟩
 ·injection e with e
  injection e with e1 e2 _
  subst e1 e2;refine ⟨by rw [List.length_drop]; omega,.inr ⟨b,off+k*2,rfl,hlt,fun i hi=>?_⟩⟩;rw [List.length_drop] at hi;rw [List.getElem_drop];have:=hr (k+i) (by omega);rw [show off+(k+i)*2=off+k*2+i*2 by omega] at this;exact this
theorem ownM_pushN {B n N:Nat} {W w1:World} {v v':Value} {xs ys:List Value} {l t:List Zp} (ho:W.ownsRow B 58 2 v n xs) (he:EncM B W xs l) (hk:EncM B W ys t) (ho':w1.ownsRow B 58 2 v' N (xs ++ ys)) (hN:N=(l ++ t).length) (hg:W.grownBy w1 v.ownBlock):OwnM B w1 v' (l ++ t):=ownM_push ho he hk (hN ▸ ho') hg
theorem encM_new {B:Nat} {W:World} {a:Option Addr} {cap n:Nat} {r:List Vl} {x:Int} (hn:n=r.length) (hs:SlAt W a r) (ht:TyAt W a):EncM B W [.slice a n cap,.int .i64 x] [(r,x)]:=by
 subst hn;refine ⟨rfl,fun i hi=>?_⟩;have:i=0:=by simp at hi; omega
 subst this;exact ⟨a,cap,rfl,rfl,hs,.inr (.inl ht)⟩
set_option maxRecDepth 100000 in
set_option maxHeartbeats 4000000 in
theorem put_nil (a:Option Addr) (cap:Nat) (b:Option Addr) (cb:Nat) (r:List Vl) (x:Int) (w:World) (hn:a=none→cap=0) (hmax:cap≤9223372036854775807) (h':SlAt w b r) (h8:r.length≤8) (hx:-400000000000000000≤x∧x≤400000000000000000) :
  Calls Tryz.prog 77 #[.slice a 0 cap,.slice b r.length cb,.int .i64 x] w fun e w'=>∃ v,e = .returned v∧OwnM w.heap.size w' v (putL [] r x)∧Below w.heap.size w w':=by
 obtain ⟨i0,hi,hj0,hj1,hj2⟩:=info_parts Tryz.info42;rcases a with _ | ad
 ·have hc0:cap=0:=hn rfl;subst hc0;clear hn hmax;have hbA:Below w.heap.size w (w.alloc (.cells #[] 58)):=(Below.refl _ _).alloc (Nat.le_refl _) _;have O2:OwnM w.heap.size (w.alloc (.cells #[] 58)) (.slice (some ⟨w.heap.size,0,none⟩) 0 0) []:=⟨[],World.ownsRow_made w #[] 0 (Nat.le_refl _) (Nat.zero_le _) (by simp),rfl,fun i hi=>by simp at hi⟩
  by_cases hx0:x=0
  ·subst hx0;go_enter Tryz.func77,Tryz.ntmps77;go_wp2_with fail
   refine wp_loop_rounds 1 ?_;rw [rounds_succ];go_wp2
   go_ret;exact ⟨_,rfl,by simpa [putL] using O2,hbA⟩
  ·have bx:(x != 0)=true:=by simp [hx0]
   have HM:Hid (putL [] r x = [] ++ [(bareL r,x)] ++ []):=by show _=_; simp [putL,hx0]
   have hlT:([]:List Zp).length=0:=rfl;clear hx0;go_enter Tryz.func77,Tryz.ntmps77;go_wp2_with fail
   refine wp_loop_rounds 1 ?_;rw [rounds_succ];go_wp2_with fail
   refine (refBareRow_at _ _ _ _ (h'.next hbA) h8).mono ?_;rintro e w5 ⟨⟨ab,cbb,rfl,sb,tb⟩,hb5⟩;have hb5':=chain1 hbA hb5;have hz5:=hb5'.size;obtain ⟨xm,hom,hem⟩:=O2.next hb5;have bN:Below w5.heap.size w5 (w5.alloc (.cells #[.slice ab r.length cbb,.int .i64 (x)] 58)):=(Below.refl _ _).alloc (Nat.le_refl _) _;have hemN:=hem.next bN;have newN:EncM w.heap.size (w5.alloc (.cells #[.slice ab r.length cbb,.int .i64 (x)] 58)) [.slice ab r.length cbb,.int .i64 (x)] [(bareL r,x)]:=encM_new (bareL_length r).symm (sb.next bN) (tb.next bN)
   go_wp2_with (at_builtin; refine wpList_append_own _ rfl (.tmp 55) (.tmp 60) 34 rfl w.heap.size 58 i0 _ 2 32 Tryz.underlying34 hi hj0 hj1 hj2 rfl (by decide) _ _ _ rfl (hom.alloc _) ⟨w5.heap.size,0,none⟩ 1 1 [.slice ab r.length cbb,.int .i64 (x)] rfl rfl (news2 rfl _ _) (one2 _ _ _ _) (by unfold maxLen; omega) (by omega) (by simp; omega) ?_)
   intro v6 w6 ho6 hg6 _;have hb6:Below w.heap.size w w6:=(hb5'.alloc hz5 _).grown hg6 (by simp; omega) (fun q hq=>((hom.alloc (.cells #[.slice ab r.length cbb,.int .i64 (x)] 58)).lt q hq).1);have O6:OwnM w.heap.size w6 v6 (([]:List Zp) ++ [(bareL r,x)]):=ownM_pushN (hom.alloc _) hemN newN ho6 (by simp [hlT]) hg6;have hl6:(([]:List Zp) ++ [(bareL r,x)]).length=0+1:=by rw [List.length_append,hlT]; rfl
   obtain ⟨a6,c6,rfl⟩:=own_shape ho6;clear ho6 hg6 hom hem hemN newN sb tb;obtain ⟨xo,ho,he⟩:=O6;go_wp2_with (at_builtin; refine wpList_append_opt rfl (.tmp 62) (.tmp 65) 34 rfl w.heap.size 58 i0 _ 2 32 Tryz.underlying34 hi hj0 hj1 hj2 rfl (by decide) _ _ _ rfl ho _ _ _ [] rfl (fun _=>⟨rfl,rfl⟩) (by simp) (fun ad e j u hj=>by simp at hj) (by simp) (by unfold maxLen; simp) (by simp) hb6.size ?_)
   intro v9 w9 ho9 hg9;have hb9:Below w.heap.size w w9:=hb6.grown hg9 hb6.size (fun q hq=>(ho.lt q hq).1);have R:OwnM w.heap.size w9 v9 ([] ++ [(bareL r,x)] ++ []):=ownM_pushN (ys:=[]) ho he ⟨rfl,fun i hi=>by simp at hi⟩ (by rw [List.append_nil]; simpa using ho9) (by simp) hg9;obtain ⟨a9,c9,rfl⟩:=own_shape ho9;clear ho9 hg9 ho he;go_wp2
   go_ret;exact ⟨_,rfl,by rw [HM.out]; exact R,hb9⟩
 ·clear hn;by_cases hcp:cap=0
  ·subst hcp;have hbA:Below w.heap.size w (w.alloc (.cells #[] 58)):=(Below.refl _ _).alloc (Nat.le_refl _) _;have O2:OwnM w.heap.size (w.alloc (.cells #[] 58)) (.slice (some ⟨w.heap.size,0,none⟩) 0 0) []:=⟨[],World.ownsRow_made w #[] 0 (Nat.le_refl _) (Nat.zero_le _) (by simp),rfl,fun i hi=>by simp at hi⟩
   by_cases hx0:x=0
   ·subst hx0;go_enter Tryz.func77,Tryz.ntmps77;go_wp2_with fail
    refine wp_loop_rounds 1 ?_;rw [rounds_succ];go_wp2
    go_ret;exact ⟨_,rfl,by simpa [putL] using O2,hbA⟩
   ·have bx:(x != 0)=true:=by simp [hx0]
    have HM:Hid (putL [] r x = [] ++ [(bareL r,x)] ++ []):=by show _=_; simp [putL,hx0]
    have hlT:([]:List Zp).length=0:=rfl;clear hx0;go_enter Tryz.func77,Tryz.ntmps77;go_wp2_with fail
    refine wp_loop_rounds 1 ?_;rw [rounds_succ];go_wp2_with fail
    refine (refBareRow_at _ _ _ _ (h'.next hbA) h8).mono ?_;rintro e w5 ⟨⟨ab,cbb,rfl,sb,tb⟩,hb5⟩;have hb5':=chain1 hbA hb5;have hz5:=hb5'.size;obtain ⟨xm,hom,hem⟩:=O2.next hb5;have bN:Below w5.heap.size w5 (w5.alloc (.cells #[.slice ab r.length cbb,.int .i64 (x)] 58)):=(Below.refl _ _).alloc (Nat.le_refl _) _;have hemN:=hem.next bN;have newN:EncM w.heap.size (w5.alloc (.cells #[.slice ab r.length cbb,.int .i64 (x)] 58)) [.slice ab r.length cbb,.int .i64 (x)] [(bareL r,x)]:=encM_new (bareL_length r).symm (sb.next bN) (tb.next bN)
    go_wp2_with (at_builtin; refine wpList_append_own _ rfl (.tmp 55) (.tmp 60) 34 rfl w.heap.size 58 i0 _ 2 32 Tryz.underlying34 hi hj0 hj1 hj2 rfl (by decide) _ _ _ rfl (hom.alloc _) ⟨w5.heap.size,0,none⟩ 1 1 [.slice ab r.length cbb,.int .i64 (x)] rfl rfl (news2 rfl _ _) (one2 _ _ _ _) (by unfold maxLen; omega) (by omega) (by simp; omega) ?_)
    intro v6 w6 ho6 hg6 _;have hb6:Below w.heap.size w w6:=(hb5'.alloc hz5 _).grown hg6 (by simp; omega) (fun q hq=>((hom.alloc (.cells #[.slice ab r.length cbb,.int .i64 (x)] 58)).lt q hq).1);have O6:OwnM w.heap.size w6 v6 (([]:List Zp) ++ [(bareL r,x)]):=ownM_pushN (hom.alloc _) hemN newN ho6 (by simp [hlT]) hg6;have hl6:(([]:List Zp) ++ [(bareL r,x)]).length=0+1:=by rw [List.length_append,hlT]; rfl
    obtain ⟨a6,c6,rfl⟩:=own_shape ho6;clear ho6 hg6 hom hem hemN newN sb tb;obtain ⟨xo,ho,he⟩:=O6;go_wp2_with (at_builtin; refine wpList_append_opt rfl (.tmp 62) (.tmp 65) 34 rfl w.heap.size 58 i0 _ 2 32 Tryz.underlying34 hi hj0 hj1 hj2 rfl (by decide) _ _ _ rfl ho _ _ _ [] rfl (by intro e; cases e) (by simp) (fun ad e j u hj=>by simp at hj) (by simp) (by unfold maxLen; simp) (by simp) hb6.size ?_)
    intro v9 w9 ho9 hg9;have hb9:Below w.heap.size w w9:=hb6.grown hg9 hb6.size (fun q hq=>(ho.lt q hq).1);have R:OwnM w.heap.size w9 v9 ([] ++ [(bareL r,x)] ++ []):=ownM_pushN (ys:=[]) ho he ⟨rfl,fun i hi=>by simp at hi⟩ (by rw [List.append_nil]; simpa using ho9) (by simp) hg9;obtain ⟨a9,c9,rfl⟩:=own_shape ho9;clear ho9 hg9 ho he;go_wp2
    go_ret;exact ⟨_,rfl,by rw [HM.out]; exact R,hb9⟩
  ·have hcp':0<cap:=by omega
   have hbA:Below w.heap.size w (w.alloc (.cells #[] 58)):=(Below.refl _ _).alloc (Nat.le_refl _) _;have O2:OwnM w.heap.size (w.alloc (.cells #[] 58)) (.slice (some ⟨w.heap.size,0,none⟩) 0 0) []:=⟨[],World.ownsRow_made w #[] 0 (Nat.le_refl _) (Nat.zero_le _) (by simp),rfl,fun i hi=>by simp at hi⟩
   by_cases hx0:x=0
   ·subst hx0;go_enter Tryz.func77,Tryz.ntmps77;go_wp2_with fail
    refine wp_loop_rounds 1 ?_;rw [rounds_succ];go_wp2
    go_ret;exact ⟨_,rfl,by simpa [putL] using O2,hbA⟩
   ·have bx:(x != 0)=true:=by simp [hx0]
    have HM:Hid (putL [] r x = [] ++ [(bareL r,x)] ++ []):=by show _=_; simp [putL,hx0]
    have hlT:([]:List Zp).length=0:=rfl;clear hx0;go_enter Tryz.func77,Tryz.ntmps77;go_wp2_with fail
    refine wp_loop_rounds 1 ?_;rw [rounds_succ];go_wp2_with fail
    refine (refBareRow_at _ _ _ _ (h'.next hbA) h8).mono ?_;rintro e w5 ⟨⟨ab,cbb,rfl,sb,tb⟩,hb5⟩;have hb5':=chain1 hbA hb5;have hz5:=hb5'.size;obtain ⟨xm,hom,hem⟩:=O2.next hb5;have bN:Below w5.heap.size w5 (w5.alloc (.cells #[.slice ab r.length cbb,.int .i64 (x)] 58)):=(Below.refl _ _).alloc (Nat.le_refl _) _;have hemN:=hem.next bN;have newN:EncM w.heap.size (w5.alloc (.cells #[.slice ab r.length cbb,.int .i64 (x)] 58)) [.slice ab r.length cbb,.int .i64 (x)] [(bareL r,x)]:=encM_new (bareL_length r).symm (sb.next bN) (tb.next bN)
    go_wp2_with (at_builtin; refine wpList_append_own _ rfl (.tmp 55) (.tmp 60) 34 rfl w.heap.size 58 i0 _ 2 32 Tryz.underlying34 hi hj0 hj1 hj2 rfl (by decide) _ _ _ rfl (hom.alloc _) ⟨w5.heap.size,0,none⟩ 1 1 [.slice ab r.length cbb,.int .i64 (x)] rfl rfl (news2 rfl _ _) (one2 _ _ _ _) (by unfold maxLen; omega) (by omega) (by simp; omega) ?_)
    intro v6 w6 ho6 hg6 _;have hb6:Below w.heap.size w w6:=(hb5'.alloc hz5 _).grown hg6 (by simp; omega) (fun q hq=>((hom.alloc (.cells #[.slice ab r.length cbb,.int .i64 (x)] 58)).lt q hq).1);have O6:OwnM w.heap.size w6 v6 (([]:List Zp) ++ [(bareL r,x)]):=ownM_pushN (hom.alloc _) hemN newN ho6 (by simp [hlT]) hg6;have hl6:(([]:List Zp) ++ [(bareL r,x)]).length=0+1:=by rw [List.length_append,hlT]; rfl
    obtain ⟨a6,c6,rfl⟩:=own_shape ho6;clear ho6 hg6 hom hem hemN newN sb tb;obtain ⟨xo,ho,he⟩:=O6;go_wp2_with (at_builtin; refine wpList_append_opt rfl (.tmp 62) (.tmp 65) 34 rfl w.heap.size 58 i0 _ 2 32 Tryz.underlying34 hi hj0 hj1 hj2 rfl (by decide) _ _ _ rfl ho _ _ _ [] rfl (by intro e; cases e) (by simp) (fun ad e j u hj=>by simp at hj) (by simp) (by unfold maxLen; simp) (by simp) hb6.size ?_)
    intro v9 w9 ho9 hg9;have hb9:Below w.heap.size w w9:=hb6.grown hg9 hb6.size (fun q hq=>(ho.lt q hq).1);have R:OwnM w.heap.size w9 v9 ([] ++ [(bareL r,x)] ++ []):=ownM_pushN (ys:=[]) ho he ⟨rfl,fun i hi=>by simp at hi⟩ (by rw [List.append_nil]; simpa using ho9) (by simp) hg9;obtain ⟨a9,c9,rfl⟩:=own_shape ho9;clear ho9 hg9 ho he;go_wp2
    go_ret;exact ⟨_,rfl,by rw [HM.out]; exact R,hb9⟩
set_option maxRecDepth 100000 in
set_option maxHeartbeats 8000000 in
theorem put_at (a:Option Addr) (cap:Nat) (z:List Zp) (b:Option Addr) (cb:Nat) (r:List Vl) (x:Int) (w:World) (h:ZsAt w a z) (hL:Lie a cap z.length) (h':SlAt w b r) (h8:r.length≤8) (hz:z.length≤200000)
  (hr:∀ y ∈ z,rightB y.1=true) (hw:∀ y ∈ z,-400000000000000000≤y.2∧y.2≤400000000000000000) (hx:-400000000000000000≤x∧x≤400000000000000000) :
  Calls Tryz.prog 77 #[.slice a z.length cap,.slice b r.length cb,.int .i64 x] w fun e w'=>∃ v,e = .returned v∧OwnM w.heap.size w' v (putL z r x)∧Below w.heap.size w w':=by
 by_cases hz0:z = []
 ·subst hz0;exact put_nil a cap b cb r x w hL.nil (by have:=hL.max; unfold maxLen at this; omega) h' h8 hx
 have hpos:0<z.length:=List.length_pos_iff.2 hz0;clear hz0;obtain ⟨i0,hi,hj0,hj1,hj2⟩:=info_parts Tryz.info42;have HRt:Hid (∀ y ∈ z,rightB y.1=true):=hr;clear hr;go_enter Tryz.func77,Tryz.ntmps77;go_wp2_with fail
 go_loopw [7] (fun i wr=>∃ k:Nat,k≤z.length∧i = .int .i64 k∧Hid (∀ t (ht:t<z.length),t<k→cmpL z[t].1 r<0)∧Below w.heap.size w wr) (fun i _=>z.length - (intOf i).toNat)
 case atStart=>exact ⟨0,Nat.zero_le _,rfl,fun t _ ht=>absurd ht (Nat.not_lt_zero _),Below.refl _ _⟩
 case round =>
  obtain ⟨k,hk,rfl,HC,hb⟩:=hrel;have hzz:=hb.size;have hcap:=hL.room;have hmax:=hL.max;unfold maxLen at hmax;by_cases hlt:k<z.length
  ·have i1:(0:Int)≤(k:Int):=by omega
   have i2:(k:Int)<(z.length:Int):=by omega
   obtain ⟨bz,off,rfl,hbl,c1,ar,cr,c0,sr⟩:=(h.next hb).elem hlt;have hR1:Hid (rightB z[k].1=true):=HRt.out _ (List.getElem_mem hlt);by_cases hc:cmpL z[k].1 r<0
   ·go_wp2_with fail
    refine (refRows_at _ _ _ _ _ _ _ sr (h'.next hb) hR1.out).mono ?_;rintro e w1 ⟨rfl,hb1⟩;go_wp2
    go_roundw
    case rel=>exact ⟨k+1,by omega,by go_num,fun t ht htk=>by
     by_cases e:t=k
     ·subst e; exact hc
     ·exact HC.out t ht (by omega),chain1 hb hb1⟩
    case measure=>simp [intOf]; omega
   ·go_wp2_with fail
    refine (refRows_at _ _ _ _ _ _ _ sr (h'.next hb) hR1.out).mono ?_;rintro e w1 ⟨rfl,hb1⟩;have hb1':=chain1 hb hb1;have hz1:=hb1'.size;obtain ⟨nT,eT,oT,eT0,cT⟩:=src_of (h.take k);have hlT:(z.take k).length=k:=by rw [List.length_take]; omega
    have eTl:=eT.1;rw [hlT] at eTl;go_wp2_with (at_builtin; refine wpList_append_opt rfl (.tmp 25) (.tmp 28) 34 rfl w.heap.size 58 i0 _ 2 32 Tryz.underlying34 hi hj0 hj1 hj2 rfl (by decide) _ _ _ rfl (World.ownsRow_made w1 #[] 0 hz1 (Nat.zero_le _) (by simp)) _ k cap nT rfl (by intro e; cases e) eTl (fun ad e j u hj=>Lib.cell?_alloc_some _ ((hb1'.cell (World.block_lt_of_cell? _ _ (cT ad e j u hj))).trans (cT ad e j u hj))) oT (by unfold maxLen; omega) (by omega) (by simp; omega) ?_)
    intro v2 w2 ho2 hg2;have hb2:Below w.heap.size w w2:=(hb1'.alloc hz1 _).grown hg2 (by simp; omega) (fun q hq=>by simp [Value.ownBlock] at hq; omega);have hb12:Below w1.heap.size w1 w2:=((Below.refl _ _).alloc (Nat.le_refl _) _).grown hg2 (by simp) (fun q hq=>by simp [Value.ownBlock] at hq; omega);have O2:OwnM w.heap.size w2 v2 (z.take k):=⟨nT,by rw [hlT]; simpa using ho2,encM_of eT hb2⟩
    obtain ⟨a2,c2,rfl⟩:=own_shape ho2;clear ho2 hg2 eT oT eT0 cT eTl;have d0:=(hb12.cell (p:=⟨bz,_,none⟩) (Nat.lt_of_lt_of_le hbl hb1.size)).trans ((hb1.cell (p:=⟨bz,_,none⟩) hbl).trans c0);have d1:=(hb12.cell (p:=⟨bz,_,none⟩) (Nat.lt_of_lt_of_le hbl hb1.size)).trans ((hb1.cell (p:=⟨bz,_,none⟩) hbl).trans c1);have hbl2:=Nat.lt_of_lt_of_le (Nat.lt_of_lt_of_le hbl hb1.size) hb12.size;have sr2:=(sr.next hb1).next hb12;clear c0 c1 sr;by_cases h0:cmpL z[k].1 r=0
    ·have HP:Hid (putL z r x=z.take k ++ midL r (x+z[k].2) ++ z.drop (k+1)):=putL_same x hlt HC.out h0;have b0:(cmpL z[k].1 r == 0)=true:=by simpa using h0
     have hwk:=hw z[k] (List.getElem_mem hlt);clear h0 hc;go_wp2_with fail
     refine (refRows_at _ _ _ _ _ _ _ sr2 (h'.next hb2) hR1.out).mono ?_;rintro e w3 ⟨rfl,hb3⟩;have d3:=(hb3.cell (p:=⟨bz,_,none⟩) hbl2).trans d1;have hb3':=chain1 hb2 hb3;have O3:=O2.next hb3;clear d0 d1 O2;by_cases hx0:x+z[k].2=0
     ·have HM:Hid (putL z r x=z.take k ++ z.drop (k+1)):=by
       show _=_;rw [HP.out];simp only [midL,hx0,if_true,List.append_nil]
      have bx:((x+z[k].2) != 0)=false:=by simp [hx0]
      obtain ⟨nD,eD,oD,eD0,cD⟩:=src_of (h.drop (k+1));have eDl:=eD.1;have hlD:(z.drop (k+1)).length=z.length - (k+1):=List.length_drop;rw [hlD] at eDl;by_cases hcc:k+1<cap
      ·have hcc1:((cap:Int) - ((k+1:Nat):Int)=0)=False:=by simp; omega
       have hcc2:¬ cap=k+1:=by omega
       have hcc3:¬ cap - (k+1)=0:=by omega
       obtain ⟨xo,ho,he⟩:=O3;go_wp2_with (at_builtin; refine wpList_append_opt rfl (.tmp 62) (.tmp 65) 34 rfl w.heap.size 58 i0 _ 2 32 Tryz.underlying34 hi hj0 hj1 hj2 rfl (by decide) _ _ _ rfl ho _ _ _ nD rfl (by intro e; cases e) (by omega) (fun ad e j u hj=>by injection e with e; subst e; exact (hb3'.cell (World.block_lt_of_cell? _ _ (cD _ rfl j u hj))).trans (cD _ rfl j u hj)) oD (by unfold maxLen; omega) (by omega) hb3'.size ?_)
       intro v9 w9 ho9 hg9;have hb9:Below w.heap.size w w9:=hb3'.grown hg9 hb3'.size (fun q hq=>(ho.lt q hq).1);have R:OwnM w.heap.size w9 v9 (z.take k ++ z.drop (k+1)):=ownM_pushN ho he (encM_of eD hb3') ho9 (by first | (rw [List.length_append]; omega) | (rw [List.length_append,List.length_append,List.length_singleton]; omega)) hg9;obtain ⟨a9,c9,rfl⟩:=own_shape ho9;clear ho9 hg9 ho he;go_wp2
       go_ret;exact ⟨_,rfl,by rw [HM.out]; exact R,hb9⟩
      ·have hcc1:cap=k+1:=by omega
       have hcc2:cap - (k+1)=0:=by omega
       have hcc3:z.length - (k+1)=0:=by omega
       have ND0:Hid (nD = []):=List.eq_nil_of_length_eq_zero (by omega);obtain ⟨xo,ho,he⟩:=O3;go_wp2_with (at_builtin; refine wpList_append_opt rfl (.tmp 62) (.tmp 65) 34 rfl w.heap.size 58 i0 _ 2 32 Tryz.underlying34 hi hj0 hj1 hj2 rfl (by decide) _ _ _ rfl ho _ _ _ nD rfl (by intro e; cases e) (by omega) (fun ad e j u hj=>by rw [ND0.out] at hj; simp at hj) oD (by unfold maxLen; omega) (by omega) hb3'.size ?_)
       intro v9 w9 ho9 hg9;have hb9:Below w.heap.size w w9:=hb3'.grown hg9 hb3'.size (fun q hq=>(ho.lt q hq).1);have R:OwnM w.heap.size w9 v9 (z.take k ++ z.drop (k+1)):=ownM_pushN ho he (encM_of eD hb3') ho9 (by first | (rw [List.length_append]; omega) | (rw [List.length_append,List.length_append,List.length_singleton]; omega)) hg9;obtain ⟨a9,c9,rfl⟩:=own_shape ho9;clear ho9 hg9 ho he;go_wp2
       go_ret;exact ⟨_,rfl,by rw [HM.out]; exact R,hb9⟩
     ·have HM:Hid (putL z r x=z.take k ++ [(bareL r,x+z[k].2)] ++ z.drop (k+1)):=by
       show _=_;rw [HP.out];simp only [midL,hx0,if_false]
      have bx:((x+z[k].2) != 0)=true:=by simp [hx0]
      clear hx0;go_wp2_with fail
      refine (refBareRow_at _ _ _ _ (h'.next hb3') h8).mono ?_;rintro e w5 ⟨⟨ab,cbb,rfl,sb,tb⟩,hb5⟩;have hb5':=chain1 hb3' hb5;have hz5:=hb5'.size;obtain ⟨xm,hom,hem⟩:=O3.next hb5;have bN:Below w5.heap.size w5 (w5.alloc (.cells #[.slice ab r.length cbb,.int .i64 (x+z[k].2)] 58)):=(Below.refl _ _).alloc (Nat.le_refl _) _;have hemN:=hem.next bN;have newN:EncM w.heap.size (w5.alloc (.cells #[.slice ab r.length cbb,.int .i64 (x+z[k].2)] 58)) [.slice ab r.length cbb,.int .i64 (x+z[k].2)] [(bareL r,x+z[k].2)]:=encM_new (bareL_length r).symm (sb.next bN) (tb.next bN)
      go_wp2_with (at_builtin; refine wpList_append_own _ rfl (.tmp 55) (.tmp 60) 34 rfl w.heap.size 58 i0 _ 2 32 Tryz.underlying34 hi hj0 hj1 hj2 rfl (by decide) _ _ _ rfl (hom.alloc _) ⟨w5.heap.size,0,none⟩ 1 1 [.slice ab r.length cbb,.int .i64 (x+z[k].2)] rfl rfl (news2 rfl _ _) (one2 _ _ _ _) (by unfold maxLen; omega) (by omega) (by simp; omega) ?_)
      intro v6 w6 ho6 hg6 _;try rw [hlT] at ho6
      have hb6:Below w.heap.size w w6:=(hb5'.alloc hz5 _).grown hg6 (by simp; omega) (fun q hq=>((hom.alloc (.cells #[.slice ab r.length cbb,.int .i64 (x+z[k].2)] 58)).lt q hq).1);have O6:OwnM w.heap.size w6 v6 (z.take k ++ [(bareL r,x+z[k].2)]):=ownM_pushN (hom.alloc _) hemN newN ho6 (by simp [hlT]) hg6;have hl6:(z.take k ++ [(bareL r,x+z[k].2)]).length=k+1:=by rw [List.length_append,hlT]; rfl
      obtain ⟨a6,c6,rfl⟩:=own_shape ho6;clear ho6 hg6 hom hem hemN newN sb tb;obtain ⟨nD,eD,oD,eD0,cD⟩:=src_of (h.drop (k+1));have eDl:=eD.1;have hlD:(z.drop (k+1)).length=z.length - (k+1):=List.length_drop;rw [hlD] at eDl;by_cases hcc:k+1<cap
      ·have hcc1:((cap:Int) - ((k+1:Nat):Int)=0)=False:=by simp; omega
       have hcc2:¬ cap=k+1:=by omega
       have hcc3:¬ cap - (k+1)=0:=by omega
       obtain ⟨xo,ho,he⟩:=O6;go_wp2_with (at_builtin; refine wpList_append_opt rfl (.tmp 62) (.tmp 65) 34 rfl w.heap.size 58 i0 _ 2 32 Tryz.underlying34 hi hj0 hj1 hj2 rfl (by decide) _ _ _ rfl ho _ _ _ nD rfl (by intro e; cases e) (by omega) (fun ad e j u hj=>by injection e with e; subst e; exact (hb6.cell (World.block_lt_of_cell? _ _ (cD _ rfl j u hj))).trans (cD _ rfl j u hj)) oD (by unfold maxLen; omega) (by omega) hb6.size ?_)
       intro v9 w9 ho9 hg9;have hb9:Below w.heap.size w w9:=hb6.grown hg9 hb6.size (fun q hq=>(ho.lt q hq).1);have R:OwnM w.heap.size w9 v9 (z.take k ++ [(bareL r,x+z[k].2)] ++ z.drop (k+1)):=ownM_pushN ho he (encM_of eD hb6) ho9 (by first | (rw [List.length_append]; omega) | (rw [List.length_append,List.length_append,List.length_singleton]; omega)) hg9;obtain ⟨a9,c9,rfl⟩:=own_shape ho9;clear ho9 hg9 ho he;go_wp2
       go_ret;exact ⟨_,rfl,by rw [HM.out]; exact R,hb9⟩
      ·have hcc1:cap=k+1:=by omega
       have hcc2:cap - (k+1)=0:=by omega
       have hcc3:z.length - (k+1)=0:=by omega
       have ND0:Hid (nD = []):=List.eq_nil_of_length_eq_zero (by omega);obtain ⟨xo,ho,he⟩:=O6;go_wp2_with (at_builtin; refine wpList_append_opt rfl (.tmp 62) (.tmp 65) 34 rfl w.heap.size 58 i0 _ 2 32 Tryz.underlying34 hi hj0 hj1 hj2 rfl (by decide) _ _ _ rfl ho _ _ _ nD rfl (by intro e; cases e) (by omega) (fun ad e j u hj=>by rw [ND0.out] at hj; simp at hj) oD (by unfold maxLen; omega) (by omega) hb6.size ?_)
       intro v9 w9 ho9 hg9;have hb9:Below w.heap.size w w9:=hb6.grown hg9 hb6.size (fun q hq=>(ho.lt q hq).1);have R:OwnM w.heap.size w9 v9 (z.take k ++ [(bareL r,x+z[k].2)] ++ z.drop (k+1)):=ownM_pushN ho he (encM_of eD hb6) ho9 (by first | (rw [List.length_append]; omega) | (rw [List.length_append,List.length_append,List.length_singleton]; omega)) hg9;obtain ⟨a9,c9,rfl⟩:=own_shape ho9;clear ho9 hg9 ho he;go_wp2
       go_ret;exact ⟨_,rfl,by rw [HM.out]; exact R,hb9⟩
    ·have HP:Hid (putL z r x=z.take k ++ midL r x ++ z.drop k):=putL_new x hlt HC.out (by omega);have b0:(cmpL z[k].1 r == 0)=false:=by simpa using h0
     clear h0;go_wp2_with fail
     refine (refRows_at _ _ _ _ _ _ _ sr2 (h'.next hb2) hR1.out).mono ?_;rintro e w3 ⟨rfl,hb3⟩;have hb3':=chain1 hb2 hb3;have O3:=O2.next hb3;clear d0 d1 O2;by_cases hx0:x=0
     ·have HM:Hid (putL z r x=z.take k ++ z.drop (k)):=by
       show _=_;rw [HP.out];simp only [midL,hx0,if_true,List.append_nil]
      have bx:((x) != 0)=false:=by simp [hx0]
      obtain ⟨nD,eD,oD,eD0,cD⟩:=src_of (h.drop (k));have eDl:=eD.1;have hlD:(z.drop (k)).length=z.length - (k):=List.length_drop;rw [hlD] at eDl;by_cases hcc:k<cap
      ·have hcc1:((cap:Int) - ((k:Nat):Int)=0)=False:=by simp; omega
       have hcc2:¬ cap=k:=by omega
       have hcc3:¬ cap - (k)=0:=by omega
       obtain ⟨xo,ho,he⟩:=O3;go_wp2_with (at_builtin; refine wpList_append_opt rfl (.tmp 62) (.tmp 65) 34 rfl w.heap.size 58 i0 _ 2 32 Tryz.underlying34 hi hj0 hj1 hj2 rfl (by decide) _ _ _ rfl ho _ _ _ nD rfl (by intro e; cases e) (by omega) (fun ad e j u hj=>by injection e with e; subst e; exact (hb3'.cell (World.block_lt_of_cell? _ _ (cD _ rfl j u hj))).trans (cD _ rfl j u hj)) oD (by unfold maxLen; omega) (by omega) hb3'.size ?_)
       intro v9 w9 ho9 hg9;have hb9:Below w.heap.size w w9:=hb3'.grown hg9 hb3'.size (fun q hq=>(ho.lt q hq).1);have R:OwnM w.heap.size w9 v9 (z.take k ++ z.drop (k)):=ownM_pushN ho he (encM_of eD hb3') ho9 (by first | (rw [List.length_append]; omega) | (rw [List.length_append,List.length_append,List.length_singleton]; omega)) hg9;obtain ⟨a9,c9,rfl⟩:=own_shape ho9;clear ho9 hg9 ho he;go_wp2
       go_ret;exact ⟨_,rfl,by rw [HM.out]; exact R,hb9⟩
      ·have hcc1:cap=k:=by omega
       have hcc2:cap - (k)=0:=by omega
       have hcc3:z.length - (k)=0:=by omega
       have ND0:Hid (nD = []):=List.eq_nil_of_length_eq_zero (by omega);obtain ⟨xo,ho,he⟩:=O3;go_wp2_with (at_builtin; refine wpList_append_opt rfl (.tmp 62) (.tmp 65) 34 rfl w.heap.size 58 i0 _ 2 32 Tryz.underlying34 hi hj0 hj1 hj2 rfl (by decide) _ _ _ rfl ho _ _ _ nD rfl (by intro e; cases e) (by omega) (fun ad e j u hj=>by rw [ND0.out] at hj; simp at hj) oD (by unfold maxLen; omega) (by omega) hb3'.size ?_)
       intro v9 w9 ho9 hg9;have hb9:Below w.heap.size w w9:=hb3'.grown hg9 hb3'.size (fun q hq=>(ho.lt q hq).1);have R:OwnM w.heap.size w9 v9 (z.take k ++ z.drop (k)):=ownM_pushN ho he (encM_of eD hb3') ho9 (by first | (rw [List.length_append]; omega) | (rw [List.length_append,List.length_append,List.length_singleton]; omega)) hg9;obtain ⟨a9,c9,rfl⟩:=own_shape ho9;clear ho9 hg9 ho he;go_wp2
       go_ret;exact ⟨_,rfl,by rw [HM.out]; exact R,hb9⟩
     ·have HM:Hid (putL z r x=z.take k ++ [(bareL r,x)] ++ z.drop (k)):=by
       show _=_;rw [HP.out];simp only [midL,hx0,if_false]
      have bx:((x) != 0)=true:=by simp [hx0]
      clear hx0;go_wp2_with fail
      refine (refBareRow_at _ _ _ _ (h'.next hb3') h8).mono ?_;rintro e w5 ⟨⟨ab,cbb,rfl,sb,tb⟩,hb5⟩;have hb5':=chain1 hb3' hb5;have hz5:=hb5'.size;obtain ⟨xm,hom,hem⟩:=O3.next hb5;have bN:Below w5.heap.size w5 (w5.alloc (.cells #[.slice ab r.length cbb,.int .i64 (x)] 58)):=(Below.refl _ _).alloc (Nat.le_refl _) _;have hemN:=hem.next bN;have newN:EncM w.heap.size (w5.alloc (.cells #[.slice ab r.length cbb,.int .i64 (x)] 58)) [.slice ab r.length cbb,.int .i64 (x)] [(bareL r,x)]:=encM_new (bareL_length r).symm (sb.next bN) (tb.next bN)
      go_wp2_with (at_builtin; refine wpList_append_own _ rfl (.tmp 55) (.tmp 60) 34 rfl w.heap.size 58 i0 _ 2 32 Tryz.underlying34 hi hj0 hj1 hj2 rfl (by decide) _ _ _ rfl (hom.alloc _) ⟨w5.heap.size,0,none⟩ 1 1 [.slice ab r.length cbb,.int .i64 (x)] rfl rfl (news2 rfl _ _) (one2 _ _ _ _) (by unfold maxLen; omega) (by omega) (by simp; omega) ?_)
      intro v6 w6 ho6 hg6 _;try rw [hlT] at ho6
      have hb6:Below w.heap.size w w6:=(hb5'.alloc hz5 _).grown hg6 (by simp; omega) (fun q hq=>((hom.alloc (.cells #[.slice ab r.length cbb,.int .i64 (x)] 58)).lt q hq).1);have O6:OwnM w.heap.size w6 v6 (z.take k ++ [(bareL r,x)]):=ownM_pushN (hom.alloc _) hemN newN ho6 (by simp [hlT]) hg6;have hl6:(z.take k ++ [(bareL r,x)]).length=k+1:=by rw [List.length_append,hlT]; rfl
      obtain ⟨a6,c6,rfl⟩:=own_shape ho6;clear ho6 hg6 hom hem hemN newN sb tb;obtain ⟨nD,eD,oD,eD0,cD⟩:=src_of (h.drop (k));have eDl:=eD.1;have hlD:(z.drop (k)).length=z.length - (k):=List.length_drop;rw [hlD] at eDl;by_cases hcc:k<cap
      ·have hcc1:((cap:Int) - ((k:Nat):Int)=0)=False:=by simp; omega
       have hcc2:¬ cap=k:=by omega
       have hcc3:¬ cap - (k)=0:=by omega
       obtain ⟨xo,ho,he⟩:=O6;go_wp2_with (at_builtin; refine wpList_append_opt rfl (.tmp 62) (.tmp 65) 34 rfl w.heap.size 58 i0 _ 2 32 Tryz.underlying34 hi hj0 hj1 hj2 rfl (by decide) _ _ _ rfl ho _ _ _ nD rfl (by intro e; cases e) (by omega) (fun ad e j u hj=>by injection e with e; subst e; exact (hb6.cell (World.block_lt_of_cell? _ _ (cD _ rfl j u hj))).trans (cD _ rfl j u hj)) oD (by unfold maxLen; omega) (by omega) hb6.size ?_)
       intro v9 w9 ho9 hg9;have hb9:Below w.heap.size w w9:=hb6.grown hg9 hb6.size (fun q hq=>(ho.lt q hq).1);have R:OwnM w.heap.size w9 v9 (z.take k ++ [(bareL r,x)] ++ z.drop (k)):=ownM_pushN ho he (encM_of eD hb6) ho9 (by first | (rw [List.length_append]; omega) | (rw [List.length_append,List.length_append,List.length_singleton]; omega)) hg9;obtain ⟨a9,c9,rfl⟩:=own_shape ho9;clear ho9 hg9 ho he;go_wp2
       go_ret;exact ⟨_,rfl,by rw [HM.out]; exact R,hb9⟩
      ·have hcc1:cap=k:=by omega
       have hcc2:cap - (k)=0:=by omega
       have hcc3:z.length - (k)=0:=by omega
       have ND0:Hid (nD = []):=List.eq_nil_of_length_eq_zero (by omega);obtain ⟨xo,ho,he⟩:=O6;go_wp2_with (at_builtin; refine wpList_append_opt rfl (.tmp 62) (.tmp 65) 34 rfl w.heap.size 58 i0 _ 2 32 Tryz.underlying34 hi hj0 hj1 hj2 rfl (by decide) _ _ _ rfl ho _ _ _ nD rfl (by intro e; cases e) (by omega) (fun ad e j u hj=>by rw [ND0.out] at hj; simp at hj) oD (by unfold maxLen; omega) (by omega) hb6.size ?_)
       intro v9 w9 ho9 hg9;have hb9:Below w.heap.size w w9:=hb6.grown hg9 hb6.size (fun q hq=>(ho.lt q hq).1);have R:OwnM w.heap.size w9 v9 (z.take k ++ [(bareL r,x)] ++ z.drop (k)):=ownM_pushN ho he (encM_of eD hb6) ho9 (by first | (rw [List.length_append]; omega) | (rw [List.length_append,List.length_append,List.length_singleton]; omega)) hg9;obtain ⟨a9,c9,rfl⟩:=own_shape ho9;clear ho9 hg9 ho he;go_wp2
       go_ret;exact ⟨_,rfl,by rw [HM.out]; exact R,hb9⟩
  ·have hke:k=z.length:=by omega
   obtain ⟨bz,off,rfl,hbl,-⟩:=(h.next hb).elem hpos;have HP:Hid (putL z r x=z.take k ++ midL r x ++ z.drop k):=putL_all x hke HC.out;clear hke;have hb1:Below wr.heap.size wr wr:=Below.refl _ _;have hb1':=chain1 hb hb1;have hz1:=hb1'.size;obtain ⟨nT,eT,oT,eT0,cT⟩:=src_of (h.take k);have hlT:(z.take k).length=k:=by rw [List.length_take]; omega
   have eTl:=eT.1;rw [hlT] at eTl;go_wp2_with (at_builtin; refine wpList_append_opt rfl (.tmp 25) (.tmp 28) 34 rfl w.heap.size 58 i0 _ 2 32 Tryz.underlying34 hi hj0 hj1 hj2 rfl (by decide) _ _ _ rfl (World.ownsRow_made wr #[] 0 hz1 (Nat.zero_le _) (by simp)) _ k cap nT rfl (by intro e; cases e) eTl (fun ad e j u hj=>Lib.cell?_alloc_some _ ((hb1'.cell (World.block_lt_of_cell? _ _ (cT ad e j u hj))).trans (cT ad e j u hj))) oT (by unfold maxLen; omega) (by omega) (by simp; omega) ?_)
   intro v2 w2 ho2 hg2;have hb2:Below w.heap.size w w2:=(hb1'.alloc hz1 _).grown hg2 (by simp; omega) (fun q hq=>by simp [Value.ownBlock] at hq; omega);have hb12:Below wr.heap.size wr w2:=((Below.refl _ _).alloc (Nat.le_refl _) _).grown hg2 (by simp) (fun q hq=>by simp [Value.ownBlock] at hq; omega);have O2:OwnM w.heap.size w2 v2 (z.take k):=⟨nT,by rw [hlT]; simpa using ho2,encM_of eT hb2⟩
   obtain ⟨a2,c2,rfl⟩:=own_shape ho2;clear ho2 hg2 eT oT eT0 cT eTl;by_cases hx0:x=0
   ·have HM:Hid (putL z r x=z.take k ++ z.drop (k)):=by
     show _=_;rw [HP.out];simp only [midL,hx0,if_true,List.append_nil]
    have bx:((x) != 0)=false:=by simp [hx0]
    obtain ⟨nD,eD,oD,eD0,cD⟩:=src_of (h.drop (k));have eDl:=eD.1;have hlD:(z.drop (k)).length=z.length - (k):=List.length_drop;rw [hlD] at eDl;by_cases hcc:k<cap
    ·have hcc1:((cap:Int) - ((k:Nat):Int)=0)=False:=by simp; omega
     have hcc2:¬ cap=k:=by omega
     have hcc3:¬ cap - (k)=0:=by omega
     obtain ⟨xo,ho,he⟩:=O2;go_wp2_with (at_builtin; refine wpList_append_opt rfl (.tmp 62) (.tmp 65) 34 rfl w.heap.size 58 i0 _ 2 32 Tryz.underlying34 hi hj0 hj1 hj2 rfl (by decide) _ _ _ rfl ho _ _ _ nD rfl (by intro e; cases e) (by omega) (fun ad e j u hj=>by injection e with e; subst e; exact (hb2.cell (World.block_lt_of_cell? _ _ (cD _ rfl j u hj))).trans (cD _ rfl j u hj)) oD (by unfold maxLen; omega) (by omega) hb2.size ?_)
     intro v9 w9 ho9 hg9;have hb9:Below w.heap.size w w9:=hb2.grown hg9 hb2.size (fun q hq=>(ho.lt q hq).1);have R:OwnM w.heap.size w9 v9 (z.take k ++ z.drop (k)):=ownM_pushN ho he (encM_of eD hb2) ho9 (by first | (rw [List.length_append]; omega) | (rw [List.length_append,List.length_append,List.length_singleton]; omega)) hg9;obtain ⟨a9,c9,rfl⟩:=own_shape ho9;clear ho9 hg9 ho he;go_wp2
     go_ret;exact ⟨_,rfl,by rw [HM.out]; exact R,hb9⟩
    ·have hcc1:cap=k:=by omega
     have hcc2:cap - (k)=0:=by omega
     have hcc3:z.length - (k)=0:=by omega
     have ND0:Hid (nD = []):=List.eq_nil_of_length_eq_zero (by omega);obtain ⟨xo,ho,he⟩:=O2;go_wp2_with (at_builtin; refine wpList_append_opt rfl (.tmp 62) (.tmp 65) 34 rfl w.heap.size 58 i0 _ 2 32 Tryz.underlying34 hi hj0 hj1 hj2 rfl (by decide) _ _ _ rfl ho _ _ _ nD rfl (by intro e; cases e) (by omega) (fun ad e j u hj=>by rw [ND0.out] at hj; simp at hj) oD (by unfold maxLen; omega) (by omega) hb2.size ?_)
     intro v9 w9 ho9 hg9;have hb9:Below w.heap.size w w9:=hb2.grown hg9 hb2.size (fun q hq=>(ho.lt q hq).1);have R:OwnM w.heap.size w9 v9 (z.take k ++ z.drop (k)):=ownM_pushN ho he (encM_of eD hb2) ho9 (by first | (rw [List.length_append]; omega) | (rw [List.length_append,List.length_append,List.length_singleton]; omega)) hg9;obtain ⟨a9,c9,rfl⟩:=own_shape ho9;clear ho9 hg9 ho he;go_wp2
     go_ret;exact ⟨_,rfl,by rw [HM.out]; exact R,hb9⟩
   ·have HM:Hid (putL z r x=z.take k ++ [(bareL r,x)] ++ z.drop (k)):=by
     show _=_;rw [HP.out];simp only [midL,hx0,if_false]
    have bx:((x) != 0)=true:=by simp [hx0]
    clear hx0;go_wp2_with fail
    refine (refBareRow_at _ _ _ _ (h'.next hb2) h8).mono ?_;rintro e w5 ⟨⟨ab,cbb,rfl,sb,tb⟩,hb5⟩;have hb5':=chain1 hb2 hb5;have hz5:=hb5'.size;obtain ⟨xm,hom,hem⟩:=O2.next hb5;have bN:Below w5.heap.size w5 (w5.alloc (.cells #[.slice ab r.length cbb,.int .i64 (x)] 58)):=(Below.refl _ _).alloc (Nat.le_refl _) _;have hemN:=hem.next bN;have newN:EncM w.heap.size (w5.alloc (.cells #[.slice ab r.length cbb,.int .i64 (x)] 58)) [.slice ab r.length cbb,.int .i64 (x)] [(bareL r,x)]:=encM_new (bareL_length r).symm (sb.next bN) (tb.next bN)
    go_wp2_with (at_builtin; refine wpList_append_own _ rfl (.tmp 55) (.tmp 60) 34 rfl w.heap.size 58 i0 _ 2 32 Tryz.underlying34 hi hj0 hj1 hj2 rfl (by decide) _ _ _ rfl (hom.alloc _) ⟨w5.heap.size,0,none⟩ 1 1 [.slice ab r.length cbb,.int .i64 (x)] rfl rfl (news2 rfl _ _) (one2 _ _ _ _) (by unfold maxLen; omega) (by omega) (by simp; omega) ?_)
    intro v6 w6 ho6 hg6 _;try rw [hlT] at ho6
    have hb6:Below w.heap.size w w6:=(hb5'.alloc hz5 _).grown hg6 (by simp; omega) (fun q hq=>((hom.alloc (.cells #[.slice ab r.length cbb,.int .i64 (x)] 58)).lt q hq).1);have O6:OwnM w.heap.size w6 v6 (z.take k ++ [(bareL r,x)]):=ownM_pushN (hom.alloc _) hemN newN ho6 (by simp [hlT]) hg6;have hl6:(z.take k ++ [(bareL r,x)]).length=k+1:=by rw [List.length_append,hlT]; rfl
    obtain ⟨a6,c6,rfl⟩:=own_shape ho6;clear ho6 hg6 hom hem hemN newN sb tb;obtain ⟨nD,eD,oD,eD0,cD⟩:=src_of (h.drop (k));have eDl:=eD.1;have hlD:(z.drop (k)).length=z.length - (k):=List.length_drop;rw [hlD] at eDl;by_cases hcc:k<cap
    ·have hcc1:((cap:Int) - ((k:Nat):Int)=0)=False:=by simp; omega
     have hcc2:¬ cap=k:=by omega
     have hcc3:¬ cap - (k)=0:=by omega
     obtain ⟨xo,ho,he⟩:=O6;go_wp2_with (at_builtin; refine wpList_append_opt rfl (.tmp 62) (.tmp 65) 34 rfl w.heap.size 58 i0 _ 2 32 Tryz.underlying34 hi hj0 hj1 hj2 rfl (by decide) _ _ _ rfl ho _ _ _ nD rfl (by intro e; cases e) (by omega) (fun ad e j u hj=>by injection e with e; subst e; exact (hb6.cell (World.block_lt_of_cell? _ _ (cD _ rfl j u hj))).trans (cD _ rfl j u hj)) oD (by unfold maxLen; omega) (by omega) hb6.size ?_)
     intro v9 w9 ho9 hg9;have hb9:Below w.heap.size w w9:=hb6.grown hg9 hb6.size (fun q hq=>(ho.lt q hq).1);have R:OwnM w.heap.size w9 v9 (z.take k ++ [(bareL r,x)] ++ z.drop (k)):=ownM_pushN ho he (encM_of eD hb6) ho9 (by first | (rw [List.length_append]; omega) | (rw [List.length_append,List.length_append,List.length_singleton]; omega)) hg9;obtain ⟨a9,c9,rfl⟩:=own_shape ho9;clear ho9 hg9 ho he;go_wp2
     go_ret;exact ⟨_,rfl,by rw [HM.out]; exact R,hb9⟩
    ·have hcc1:cap=k:=by omega
     have hcc2:cap - (k)=0:=by omega
     have hcc3:z.length - (k)=0:=by omega
     have ND0:Hid (nD = []):=List.eq_nil_of_length_eq_zero (by omega);obtain ⟨xo,ho,he⟩:=O6;go_wp2_with (at_builtin; refine wpList_append_opt rfl (.tmp 62) (.tmp 65) 34 rfl w.heap.size 58 i0 _ 2 32 Tryz.underlying34 hi hj0 hj1 hj2 rfl (by decide) _ _ _ rfl ho _ _ _ nD rfl (by intro e; cases e) (by omega) (fun ad e j u hj=>by rw [ND0.out] at hj; simp at hj) oD (by unfold maxLen; omega) (by omega) hb6.size ?_)
     intro v9 w9 ho9 hg9;have hb9:Below w.heap.size w w9:=hb6.grown hg9 hb6.size (fun q hq=>(ho.lt q hq).1);have R:OwnM w.heap.size w9 v9 (z.take k ++ [(bareL r,x)] ++ z.drop (k)):=ownM_pushN ho he (encM_of eD hb6) ho9 (by first | (rw [List.length_append]; omega) | (rw [List.length_append,List.length_append,List.length_singleton]; omega)) hg9;obtain ⟨a9,c9,rfl⟩:=own_shape ho9;clear ho9 hg9 ho he;go_wp2
     go_ret;exact ⟨_,rfl,by rw [HM.out]; exact R,hb9⟩
def fitE (z:List Zp):Int:=if outW z=true then 3 else if 400<z.length then 5 else 0
def fitZ (z:List Zp):List Zp:=if fitE z=0 then z else []
theorem zs_nil (W:World):ZsAt W none []:=⟨by simp,.inl rfl⟩

theorem canon_snoc (l:List Zp) (x:Zp):canon (l ++ [x])=putL (canon l) x.1 x.2:=by simp [canon]
theorem wt_bd2 {l:List Zp} (h:∀ x ∈ l,-1000000≤x.2∧x.2≤1000000) (q:List Vl):-(1000000*(l.length:Int))≤wt l q∧wt l q≤1000000*(l.length:Int):=by
 induction l with
 | nil=>simp [wt]
 | cons x r ih =>
  have ih:=ih (fun y hy=>h y (by simp [hy]));have hx:=h x (by simp);rw [wt,List.length_cons]
  split <;> omega

theorem putL_lenR (r:List Vl) (w:Int):∀ z:List Zp,(putL z r w).length≤z.length+1
 | []=>by unfold putL; split <;> simp
 | y :: t=>by
  have ih:=putL_lenR r w t
  unfold putL
  split
  ·simp; omega
  ·split
   ·split <;> simp <;> omega
   ·split <;> simp <;> omega
theorem canonF_len (l:List Zp):∀ z:List Zp,(l.foldl (fun z x=>putL z x.1 x.2) z).length≤z.length+l.length:=by
 induction l with
 | nil=>intro z; simp
 | cons x r ih =>
  intro z;have h1:=ih (putL z x.1 x.2);have h2:=putL_lenR x.1 x.2 z;simp only [List.foldl_cons,List.length_cons] at *;omega
theorem canon_len (l:List Zp):(canon l).length≤l.length:=by have:=canonF_len l []; simpa [canon] using this
structure AccOk (z:List Zp):Prop where
 len:z.length≤200000
 right:∀ y ∈ z,rightB y.1=true
 bd:∀ y ∈ z,-400000000000000000≤y.2∧y.2≤400000000000000000
theorem acc_ok {l:List Zp} (hl:l.length≤200000) (h:∀ x ∈ l,wrongRowF x.1=0∧inW x.2=true):AccOk (canon l):=by
 refine ⟨Nat.le_trans (canon_len l) hl,fun y hy=>?_,fun y hy=>?_⟩
 ·obtain ⟨x,hx,e⟩:=canon_row l y hy;rw [e,right_bare];exact ((wrongRowF_zero _).1 (h x hx).1).2
 ·rw [← wt_mem (canon_set l).rise y hy,canon_wt];have:=wt_bd2 (l:=l) (fun x hx=>(inW_iff _).1 (h x hx).2) y.1;omega
theorem fit_canon (l:List Zp):fitE (canon l)=gatherE l∧fitZ (canon l)=gatherZ l:=by
 have e:fitE (canon l)=gatherE l:=rfl;exact ⟨e,by unfold fitZ gatherZ; rw [e]⟩

def GivesN (z:List Zp) (n:Int) (w:World) (e:Ending) (w':World):Prop:=(∃ a cap,e = .returned (.tuple #[.slice a z.length cap,.int .i64 n])∧ZsAt w' a z∧(a=none→cap=0))∧Below w.heap.size w w'

set_option maxRecDepth 100000 in
set_option maxHeartbeats 2000000 in
theorem fitN_at (a:Option Addr) (cap:Nat) (m:List Zp) (w:World) (h:ZsAt w a m) (hl:m.length≤200000) (hn:a=none→cap=0) :
  Calls Tryz.prog 78 #[.slice a m.length cap] w (GivesN (fitZ m) (fitE m) w):=by
 unfold GivesN;go_enter Tryz.func78,Tryz.ntmps78;go_wp2_with fail
 go_loopw [8] (fun i wr=>∃ k:Nat,k≤m.length∧i = .int .i64 k∧Hid (∀ j (hj:j<m.length),j<k→inW m[j].2=true)∧Below w.heap.size w wr) (fun i _=>m.length - (intOf i).toNat)
 case atStart=>exact ⟨0,Nat.zero_le _,rfl,fun j _ hj=>absurd hj (Nat.not_lt_zero _),Below.refl _ _⟩
 case round =>
  obtain ⟨k,hk,rfl,HI,hb⟩:=hrel;have hz:=hb.size;by_cases hlt:k<m.length
  ·obtain ⟨b,off,rfl,hbl,d1,ar,cr,d0,sr⟩:=(h.next hb).elem hlt;cases hin:inW m[k].2
   ·have HO:Hid (inW m[k].2=false):=hin;have he:Hid (fitE m=3):=by
     show fitE m=3;unfold fitE;rw [if_pos (outW_no hlt hin)]
    have hfz:Hid (fitZ m = []):=by show fitZ m = []; unfold fitZ; rw [he.out]; rfl
    clear hin;go_wp2_with fail
    refine (refBig_any _ _).mono ?_;rintro e w2 ⟨rfl,rfl⟩;rw [HO.out];go_wp2
    exact bodyPost_ret (v:=.tuple #[.slice none 0 0,.int .i64 3]) (by simp [results,Tryz.results78,go_sem]) rfl ⟨⟨none,0,by rw [he.out,hfz.out]; rfl,by rw [hfz.out]; exact zs_nil _,fun _=>rfl⟩,hb.alloc hz _⟩
   ·have HO:Hid (inW m[k].2=true):=hin;clear hin;go_wp2_with fail
    refine (refBig_any _ _).mono ?_;rintro e w2 ⟨rfl,rfl⟩;rw [HO.out];go_wp2
    go_roundw
    case rel=>exact ⟨k+1,by omega,by go_num,fun j hj hjk=>by
     by_cases e:j=k
     ·subst e; exact HO.out
     ·exact HI.out j hj (by omega),hb.alloc hz _⟩
    case measure=>simp [intOf]; omega
  ·have e:k=m.length:=by omega
   subst e;have ho:outW m=false:=outW_ok fun j hj=>HI.out j hj hj
   by_cases h4:400<m.length
   ·have he:Hid (fitE m=5):=by
     show fitE m=5;unfold fitE;rw [ho,if_neg (by decide),if_pos h4]
    have hfz:Hid (fitZ m = []):=by show fitZ m = []; unfold fitZ; rw [he.out]; rfl
    go_wp2
    exact bodyPost_ret (v:=.tuple #[.slice none 0 0,.int .i64 5]) (by simp [results,Tryz.results78,go_sem]) rfl ⟨⟨none,0,by rw [he.out,hfz.out]; rfl,by rw [hfz.out]; exact zs_nil _,fun _=>rfl⟩,hb⟩
   ·have he:Hid (fitE m=0):=by
     show fitE m=0;unfold fitE;rw [ho,if_neg (by decide),if_neg h4]
    have hfz:Hid (fitZ m=m):=by show fitZ m=m; unfold fitZ; rw [he.out]; rfl
    go_wp2
    exact bodyPost_ret (v:=.tuple #[.slice a m.length cap,.int .i64 0]) (by simp [results,Tryz.results78,go_sem]) rfl ⟨⟨a,cap,by rw [he.out,hfz.out],by rw [hfz.out]; exact h.next hb,hn⟩,hb⟩
set_option maxRecDepth 100000 in
set_option maxHeartbeats 2000000 in
theorem sumN_at (a:Option Addr) (cap:Nat) (l:List Zp) (w:World) (h:ZsAt w a l) (hl:l.length≤1600) (hall:∀ x ∈ l,wrongRowF x.1=0∧inW x.2=true) :
  Calls Tryz.prog 49 #[.slice a l.length cap] w (GivesN (gatherZ l) (gatherE l) w):=by
 rw [← (fit_canon l).1,← (fit_canon l).2];have HAll:Hid (∀ x ∈ l,wrongRowF x.1=0∧inW x.2=true):=hall;clear hall;unfold GivesN;go_enter Tryz.func49,Tryz.ntmps49;go_wp2_with fail
 go_loopw [4,9] (fun v i wr=>∃ k:Nat,k≤l.length∧i = .int .i64 k∧(∃ az cz,v = .slice az (canon (l.take k)).length cz∧ZsAt wr az (canon (l.take k))∧Lie az cz (canon (l.take k)).length)∧Below w.heap.size w wr) (fun _ i _=>l.length - (intOf i).toNat)
 case atStart=>exact ⟨0,Nat.zero_le _,rfl,⟨none,0,rfl,zs_nil _,fun _=>rfl,by simp [canon],by simp⟩,Below.refl _ _⟩
 case round =>
  obtain ⟨k,hk,rfl,⟨az,cz,rfl,zz,lz⟩,hb⟩:=hrel;have hz:=hb.size;by_cases hlt:k<l.length
  ·obtain ⟨b,off,rfl,hbl,c1,ar,cr,c0,sr⟩:=(h.next hb).elem hlt;have hA:=HAll.out l[k] (List.getElem_mem hlt);have hx:=(inW_iff _).1 hA.2;have h8:=((wrongRowF_zero _).1 hA.1).1;have ok:=acc_ok (l:=l.take k) (by rw [List.length_take]; omega) (fun x hx=>HAll.out x (List.mem_of_mem_take hx));have stp:Hid (canon (l.take (k+1))=putL (canon (l.take k)) l[k].1 l[k].2):=by
    show canon (l.take (k+1))=_;rw [List.take_succ_eq_append_getElem hlt,canon_snoc]
   have bN:Below wr.heap.size wr (wr.alloc (.cells #[.slice ar l[k].1.length cr,.int .i64 l[k].2] 58)):=(Below.refl _ _).alloc (Nat.le_refl _) _;have pc:=put_at az cz _ ar cr l[k].1 l[k].2 _ (zz.next bN) lz (sr.next bN) h8 ok.len ok.right ok.bd (by omega);have bb:=chain1 hb bN;clear ok hA zz lz sr;generalize canon (l.take k)=acc at *;go_wp2_with fail
   refine pc.mono ?_;clear pc;rintro e w1 ⟨v,rfl,O1,hb1⟩;obtain ⟨a1,cp1,rfl,z1,l1⟩:=O1.zs;clear O1;go_wp2
   go_roundw
   case rel=>exact ⟨k+1,by omega,by go_num,⟨a1,cp1,by rw [stp.out],by rw [stp.out]; exact z1,by rw [stp.out]; exact l1⟩,chain1 bb hb1⟩
   case measure=>simp [intOf]; omega
  ·have e:k=l.length:=by omega
   subst e;rw [List.take_length] at zz;have hcl:=canon_len l;have ff:=fitN_at az cz (canon l) _ zz (by omega) lz.nil;unfold GivesN at ff;rw [List.take_length];clear zz lz;go_wp2_with fail
   refine ff.mono ?_;clear ff;rintro e w1 ⟨⟨a1,cp1,rfl,z1,n1⟩,hb1⟩;go_wp2
   exact bodyPost_ret (v:=.tuple #[.slice a1 (fitZ (canon l)).length cp1,.int .i64 (fitE (canon l))]) (by simp [results,Tryz.results49,go_sem]) rfl ⟨⟨a1,cp1,rfl,z1,n1⟩,chain1 hb hb1⟩
set_option maxRecDepth 100000 in
set_option maxHeartbeats 2000000 in
theorem refOfN_at (a:Option Addr) (cap:Nat) (l:List Zp) (w:World) (h:ZsAt w a l) :
  Calls Tryz.prog 23 #[.slice a l.length cap] w (GivesN (ofZ l) (ofE l) w):=by
 have hl:=h.1;unfold maxLen at hl;unfold GivesN;by_cases h16:1600<l.length
 ·have e:ofE l=5:=by simp [ofE,h16]
  have e':ofZ l = []:=by simp [ofZ,e]
  rw [e,e'];go_enter Tryz.func23,Tryz.ntmps23;go_wp2
  exact bodyPost_ret (v:=.tuple #[.slice none 0 0,.int .i64 5]) (by simp [results,Tryz.results23,go_sem]) rfl ⟨⟨none,0,rfl,zs_nil _,fun _=>rfl⟩,Below.refl _ _⟩
 ·have hof:ofE l=if goO l=0 then gatherE l else goO l:=by simp [ofE,h16]
  have HOf:Hid (ofE l=if goO l=0 then gatherE l else goO l):=hof;clear hof;go_enter Tryz.func23,Tryz.ntmps23;go_wp2_with fail
  go_loopw [12] (fun i wr=>∃ k:Nat,k≤l.length∧i = .int .i64 k∧Hid (goO l=goO (l.drop k))∧Below w.heap.size w wr) (fun i _=>l.length - (intOf i).toNat)
  case atStart=>exact ⟨0,Nat.zero_le _,rfl,rfl,Below.refl _ _⟩
  case round =>
   obtain ⟨k,hk,rfl,HC,hb⟩:=hrel;have hz:=hb.size;by_cases hlt:k<l.length
   ·obtain ⟨b,off,rfl,hbl,c1,ar,cr,c0,sr⟩:=(h.next hb).elem hlt;have HZ:Hid (ZsAt w (some ⟨b,off,none⟩) l):=h;clear h;by_cases hw:wrongRowF l[k].1=0
    ·have Hw:Hid (wrongRowF l[k].1=0):=hw;clear hw;go_wp2_with fail
     refine (refRow_at _ _ _ _ (sr.next ((Below.refl _ _).alloc (Nat.le_refl _) _))).mono ?_;rintro e w1 ⟨rfl,hb1⟩;rw [Hw.out];have hb1':=chain2 hb hb1;have e1:w1.cell? ⟨wr.heap.size,1,none⟩=some (.int .i64 l[k].2):=(hb1.cell (p:=⟨wr.heap.size,1,none⟩) (by simp)).trans (by simp);cases h1:inW l[k].2
     ·have HN:Hid (ofE l=3):=by
       show ofE l=3;have:=HC.out.trans (goO_w l k hlt Hw.out h1);rw [HOf.out,this]; rfl
      have HF:Hid (ofZ l = []):=by show ofZ l = []; unfold ofZ; rw [HN.out]; rfl
      have H1:Hid (inW l[k].2=false):=h1;clear h1;go_wp2_with fail
      refine (refBig_any _ _).mono ?_;rintro e w2 ⟨rfl,rfl⟩;rw [H1.out];go_wp2
      exact bodyPost_ret (v:=.tuple #[.slice none 0 0,.int .i64 3]) (by simp [results,Tryz.results23,go_sem]) rfl ⟨⟨none,0,by rw [HN.out,HF.out]; rfl,by rw [HF.out]; exact zs_nil _,fun _=>rfl⟩,hb1'⟩
     ·have H1:Hid (inW l[k].2=true):=h1;clear h1;go_wp2_with fail
      refine (refBig_any _ _).mono ?_;rintro e w2 ⟨rfl,rfl⟩;rw [H1.out];go_wp2
      go_roundw
      case rel=>exact ⟨k+1,by omega,by go_num,HC.out.trans (goO_next l k hlt Hw.out H1.out),hb1'⟩
      case measure=>simp [intOf]; omega
    ·have Hw:Hid (¬ wrongRowF l[k].1=0):=hw;have hne:(wrongRowF l[k].1 != 0)=true:=by simpa using hw
     have HN:Hid (ofE l=wrongRowF l[k].1):=by
      show ofE l=_;have:=HC.out.trans (goO_row l k hlt hw);rw [HOf.out,this,if_neg hw]
     have HF:Hid (ofZ l = []):=by show ofZ l = []; unfold ofZ; rw [HN.out,if_neg hw]
     clear hw;go_wp2_with fail
     refine (refRow_at _ _ _ _ (sr.next ((Below.refl _ _).alloc (Nat.le_refl _) _))).mono ?_;rintro e w1 ⟨rfl,hb1⟩;go_wp2
     exact bodyPost_ret (v:=.tuple #[.slice none 0 0,.int .i64 (wrongRowF l[k].1)]) (by simp [results,Tryz.results23,go_sem]) rfl ⟨⟨none,0,by rw [HN.out,HF.out]; rfl,by rw [HF.out]; exact zs_nil _,fun _=>rfl⟩,chain2 hb hb1⟩
   ·have e:k=l.length:=by omega
    subst e;have g0:goO l=0:=HC.out.trans (goO_end l _ (Nat.le_refl _));have hall:=(goO_iff l).1 g0;have HN:Hid (ofE l=gatherE l):=by
     show ofE l=_;rw [HOf.out,if_pos g0]
    have HF:Hid (ofZ l=gatherZ l):=by show ofZ l=gatherZ l; unfold ofZ gatherZ; rw [HN.out]
    have sc:=sumN_at a cap l _ (h.next hb) (by omega) hall;unfold GivesN at sc;clear hall g0;go_wp2_with fail
    refine sc.mono ?_;clear sc;rintro e w1 ⟨⟨a1,c1,rfl,z1,n1⟩,hb1⟩;go_wp2
    exact bodyPost_ret (v:=.tuple #[.slice a1 (gatherZ l).length c1,.int .i64 (gatherE l)]) (by simp [results,Tryz.results23,go_sem]) rfl ⟨⟨a1,c1,by rw [HN.out,HF.out],by rw [HF.out]; exact z1,n1⟩,chain1 hb hb1⟩

/-- Block b holds truths, ten times ten. -/
structure MatAt (W:World) (b:Nat) (M:Nat→Nat→Bool):Prop where
 ty:∃ c y,W.heap[b]? = some (.cells c 55 y)
 cell:∀ i j:Nat,i<10→j<10→W.cell? ⟨b,i*10+j,none⟩=some (.bool (M i j))
 fz:∀ o,W.frozen? ⟨b,o,none⟩=false
theorem MatAt.lt {W:World} {b:Nat} {M:Nat→Nat→Bool} (h:MatAt W b M):b<W.heap.size:=by obtain ⟨_,_,h⟩:=h.ty; exact lt_of_heap h
theorem MatAt.low {W W':World} {b B:Nat} {M:Nat→Nat→Bool} (h:MatAt W b M) (hb:Below B W W') (hB:b<B):MatAt W' b M:=by
 obtain ⟨c,y,q⟩:=h.ty;exact ⟨⟨c,y,(hb.block _ hB).trans q⟩,fun i j hi hj=>(hb.cell (p:=⟨b,i*10+j,none⟩) hB).trans (h.cell i j hi hj),fun o=>(hb.frozen (p:=⟨b,o,none⟩) hB).trans (h.fz o)⟩
theorem MatAt.next {W W':World} {b:Nat} {M:Nat→Nat→Bool} (h:MatAt W b M) (hb:Below W.heap.size W W'):MatAt W' b M:=h.low hb h.lt
theorem MatAt.congr {W:World} {b:Nat} {M M':Nat→Nat→Bool} (h:MatAt W b M) (e:∀ i j,i<10→j<10→M i j=M' i j):MatAt W b M':=⟨h.ty,fun i j hi hj=>by rw [← e i j hi hj]; exact h.cell i j hi hj,h.fz⟩
theorem zero_mat:Tryz.zeroCells55=Array.replicate 100 (.bool false):=by kernel_rfl
theorem MatAt.new (w:World):MatAt (w.alloc (.cells Tryz.zeroCells55 55)) w.heap.size (fun _ _=>false):=by
 have q:=heap_new w Tryz.zeroCells55 55;refine ⟨⟨_,_,q⟩,fun i j hi hj=>cell_of (i:=i*10+j) q ?_,fun o=>frozen_of_row _ w.heap.size o _ _ q⟩;rw [zero_mat,Array.getElem?_replicate,if_pos (by omega)]
theorem MatAt.set {W:World} {b:Nat} {M M':Nat→Nat→Bool} (h:MatAt W b M) {i j:Nat} (hi:i<10) (hj:j<10) {v:Bool} (e1:M' i j=v) (e2:∀ i' j',i'<10→j'<10→¬ (i'=i∧j'=j)→M' i' j'=M i' j'):MatAt (W.setCell ⟨b,i*10+j,none⟩ (.bool v)) b M':=by
 obtain ⟨c,y,q⟩:=h.ty;refine ⟨?_,fun i' j' hi' hj'=>?_,fun o=>by rw [World.frozen?_setCell]; exact h.fz o⟩
 ·have hlt:=lt_of_heap q;have q':W.heap[b] = .cells c 55 y:=by simpa [Array.getElem?_eq_getElem hlt] using q
  refine ⟨c.setIfInBounds (i*10+j) (.bool v),y,?_⟩;show (W.heap.modify b _)[b]? = _;rw [Array.getElem?_eq_getElem (by simpa using hlt),Array.getElem_modify_self,q'];rfl
 ·by_cases k:i'=i∧j'=j
  ·obtain ⟨rfl,rfl⟩:=k;rw [e1];exact World.cell?_setCell_same _ _ _ (h.cell i' j' hi' hj')
  ·rw [World.cell?_setCell_other _ _ _ _ (by intro e; injection e with _ e; omega),e2 i' j' hi' hj' k];exact h.cell i' j' hi' hj'
theorem OwnZ.mat {W:World} {b o:Nat} {u v:Value} {l:List Zp} {M:Nat→Nat→Bool} (h:OwnZ (b+1) W v l) (hM:MatAt W b M):OwnZ (b+1) (W.setCell ⟨b,o,none⟩ u) v l:=by
 obtain ⟨c,y,q⟩:=hM.ty;exact h.far q (by decide) ((BelowX.refl b W).set o u) (by omega)
theorem link_ty (x y:Int) (w:World):Calls Tryz.prog 21 #[.int .i64 x,.int .i64 y] w fun e w'=>∃ s,e = .returned (.agg #[.slice (some ⟨s,0,none⟩) 2 2,.int .i64 1])∧(SlAt w' (some ⟨s,0,none⟩) (lnk x y)∧TyAt w' (some ⟨s,0,none⟩))∧Below w.heap.size w w':=by
 have hA:Below w.heap.size w ((w.alloc (.cells #[.slice (some ⟨w.heap.size+1,0,none⟩) 2 2,.int .i64 1] 58)).alloc (.cells #[.int .i64 3,.int .i64 x,.string ⟨#[]⟩,.int .i64 3,.int .i64 y,.string ⟨#[]⟩] 24)):=((Below.refl _ _).alloc (Nat.le_refl _) _).alloc (by simp) _;have H:=heap_new (w.alloc (.cells #[.slice (some ⟨w.heap.size+1,0,none⟩) 2 2,.int .i64 1] 58)) #[.int .i64 3,.int .i64 x,.string ⟨#[]⟩,.int .i64 3,.int .i64 y,.string ⟨#[]⟩] 24;rw [show (w.alloc (.cells #[.slice (some ⟨w.heap.size+1,0,none⟩) 2 2,.int .i64 1] 58)).heap.size=w.heap.size+1 by simp] at H;have S:=sl_two H
 have T:TyAt ((w.alloc (.cells #[.slice (some ⟨w.heap.size+1,0,none⟩) 2 2,.int .i64 1] 58)).alloc (.cells #[.int .i64 3,.int .i64 x,.string ⟨#[]⟩,.int .i64 3,.int .i64 y,.string ⟨#[]⟩] 24)) (some ⟨w.heap.size+1,0,none⟩):=fun b off e=>by
  injection e with e
  injection e with e1 e2
  subst e1;exact ⟨_,_,H⟩
 go_enter Tryz.func21,Tryz.ntmps21;go_wp2
 exact bodyPost_ret (v:=.agg #[.slice (some ⟨w.heap.size+1,0,none⟩) 2 2,.int .i64 1]) (by simp [results,Tryz.results21,go_sem]) rfl ⟨_,rfl,⟨S,T⟩,hA⟩
/-- The first k pairs of edges. -/
def prs (L:List Int) (k:Nat):List (Nat × Nat):=(List.range k).map fun m=>((L.getD (2*m) 0).toNat,(L.getD (2*m+1) 0).toNat)
theorem edg_len (L:List Int) (k:Nat):(edgL (prs L k)).length=k:=by simp [edgL,prs]
theorem prs_len (L:List Int) (k:Nat):(prs L k).length=k:=by simp [prs]
theorem prs_next {L:List Int} {n k i j:Nat} (hn:n=2*k) (hc:n+1<L.length) (hi:(i:Int)=L[n]) (hj:(j:Int)=L[n+1]):prs L (k+1)=prs L k ++ [(i,j)]:=by
 subst hn;unfold prs;rw [List.range_succ,List.map_append,List.map_singleton];have e1:L.getD (2*k) 0=(i:Int):=by rw [hi]; simp [List.getD_eq_getElem?_getD,show 2*k<L.length by omega]
 have e2:L.getD (2*k+1) 0=(j:Int):=by rw [hj]; simp [List.getD_eq_getElem?_getD,hc]
 rw [e1,e2];rfl
theorem edgL_next (es:List (Nat × Nat)) (i j:Nat):edgL (es ++ [(i,j)])=edgL es ++ [(lnk i j,1)]:=by unfold edgL; rw [List.map_append]; rfl
theorem edgR_same (es:List (Nat × Nat)) (i j:Nat):edgR (es ++ [(i,j)]) i j=true:=edgR_iff.2 (by simp)
theorem edgR_other (es:List (Nat × Nat)) {i j i' j':Nat} (h:¬ (i'=i∧j'=j)):edgR (es ++ [(i,j)]) i' j'=edgR es i' j':=by
 unfold edgR;rw [List.any_append,List.any_cons,List.any_nil,Bool.or_false];have:(i == i' && j == j')=false:=by
  rw [Bool.and_eq_false_iff];by_cases e:i=i'
  ·exact .inr (by simpa using fun e2=>h ⟨e.symm,e2.symm⟩)
  ·exact .inl (by simpa using e)
 simp only [this,Bool.or_false]
theorem IX.two {W:World} {a:Option Addr} {l:List Int} (h:IX W a l) {k:Nat} (hk:k+1<l.length):∃ b off,a=some ⟨b,off,none⟩∧b<W.heap.size∧W.cell? ⟨b,off+k,none⟩=some (.int .i64 l[k])∧W.cell? ⟨b,off+(k+1),none⟩=some (.int .i64 l[k+1]):=by
 obtain ⟨_,h | ⟨b,off,e,hlt,hr⟩⟩:=h
 ·subst h; simp at hk
 ·exact ⟨b,off,e,hlt,hr k (by omega),hr (k+1) hk⟩
/-- How many pairs stand ahead of place c. -/
def cntR (T:Nat→Nat→Bool) (c:Nat):Nat:=(((List.range 100).take c).filter fun n=>T (n / 10) (n % 10)).length
theorem filt_get (p:Nat→Bool) (l:List Nat) (c:Nat) (h:c<l.length) (hp:p l[c]=true):(l.filter p)[((l.take c).filter p).length]? = some l[c]:=by
 have e:l.filter p=(l.take c).filter p ++ (l.drop c).filter p:=by rw [← List.filter_append,List.take_append_drop]
 rw [e,List.getElem?_append_right (Nat.le_refl _),Nat.sub_self,List.drop_eq_getElem_cons h,List.filter_cons,if_pos hp];rfl
theorem rel_get {T:Nat→Nat→Bool} {i j:Nat} (hi:i<10) (hj:j<10) (h:T i j=true):(relL T)[cntR T (i*10+j)]? = some (lnk i j,1):=by
 have e1:(i*10+j) / 10=i:=by omega
 have e2:(i*10+j) % 10=j:=by omega
 have hl:i*10+j<(List.range 100).length:=by rw [List.length_range]; omega
 have g:=filt_get (fun n=>T (n / 10) (n % 10)) (List.range 100) (i*10+j) hl (by rw [List.getElem_range]; simp only [e1,e2]; exact h);unfold relL cntR;rw [List.getElem?_map,g,List.getElem_range];simp only [Option.map_some,e1,e2]
theorem cnt_next {T:Nat→Nat→Bool} {i j:Nat} (hi:i<10) (hj:j<10):cntR T (i*10+j+1)=cntR T (i*10+j)+if T i j=true then 1 else 0:=by
 have e1:(i*10+j) / 10=i:=by omega
 have e2:(i*10+j) % 10=j:=by omega
 have hl:i*10+j<(List.range 100).length:=by rw [List.length_range]; omega
 unfold cntR;rw [List.take_succ_eq_append_getElem hl,List.filter_append,List.length_append,List.getElem_range,List.filter_cons,e1,e2]
 split <;> rfl
theorem cnt_all (T:Nat→Nat→Bool):cntR T 100=(relL T).length:=by
 unfold cntR relL;rw [List.length_map,List.take_of_length_le (by rw [List.length_range]; omega)]
theorem rel_lt {T:Nat→Nat→Bool} {i j:Nat} (hi:i<10) (hj:j<10) (h:T i j=true):∃ hlt:cntR T (i*10+j)<(relL T).length,(relL T)[cntR T (i*10+j)]=(lnk i j,1):=by
 obtain ⟨hlt,e⟩:=List.getElem?_eq_some_iff.1 (rel_get hi hj h);exact ⟨hlt,e⟩
/-- The tables' columns, and the data, as they are laid for a call. -/
abbrev lyA (w:World):World:=(w.alloc (.cells #[.int .i64 3,.int .i64 3] 3)).alloc (.cells #[.slice (some ⟨w.heap.size,0,none⟩) 2 2] 45)
abbrev lyB (w:World) (a:Option Addr) (n cap:Nat):World:=(lyA w).alloc (.cells #[.slice a n cap] 34)
theorem lay_two (w:World) {a:Option Addr} {cap:Nat} {d:List Zp} (h:ZsAt w a d) (hn:a=none→cap=0):Below w.heap.size w (lyA w)∧Below w.heap.size w (lyB w a d.length cap)∧TbX (lyB w a d.length cap) (some ⟨w.heap.size+1,0,none⟩) [[3,3]]∧DtAt (lyB w a d.length cap) (some ⟨w.heap.size+2,0,none⟩) [d]:=by
 have z1:(w.alloc (.cells #[.int .i64 3,.int .i64 3] 3)).heap.size=w.heap.size+1:=by simp
 have z2:(lyA w).heap.size=w.heap.size+2:=by simp [lyA]
 have b1:Below w.heap.size w (w.alloc (.cells #[.int .i64 3,.int .i64 3] 3)):=(Below.refl _ _).alloc (Nat.le_refl _) _;have b2:Below w.heap.size w (lyA w):=b1.alloc (by omega) _;have b3:Below (lyA w).heap.size (lyA w) (lyB w a d.length cap):=(Below.refl _ _).alloc (Nat.le_refl _) _;have T1:=TbX.one 2 (is_two (heap_new w #[.int .i64 3,.int .i64 3] 3));rw [z1] at T1;have D1:=dt_one (w:=lyA w) (cap:=cap) (h.next b2) hn;rw [z2] at D1;exact ⟨b2,chain b2 b3,TbX.next T1 b3,D1⟩
theorem field_row (a b:Value) (n:World):(Instr.field 58 (.agg #[a,b]) 0).run Tryz.prog n = .ok a n:=by kernel_rfl
/-- What the last region asks of memory. -/
def Cl42 (b o:Nat) (ar:Option Addr) (cr:Nat) (r:List Vl) (W:World):Prop:=W.cell? ⟨b,o,none⟩=some (.slice ar 2 cr)∧b<W.heap.size∧SlAt W ar r
theorem Cl42.next {b o cr:Nat} {ar:Option Addr} {r:List Vl} {W W':World} (h:Cl42 b o ar cr r W) (hb:Below W.heap.size W W'):Cl42 b o ar cr r W':=⟨(hb.cell (p:=⟨b,o,none⟩) h.2.1).trans h.1,Nat.lt_of_lt_of_le h.2.1 hb.size,h.2.2.next hb⟩
end Go.Proofs.YtohjlfhmnmcndaaGreat
