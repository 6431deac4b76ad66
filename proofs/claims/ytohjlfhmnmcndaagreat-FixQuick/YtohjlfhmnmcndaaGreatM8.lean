/- Together: Ext2, J7, S6, J8, J9, J10, S7, S8, S9. -/
import Derived.OrdersHeld
import Derived.RegionTactic
import Derived.Maps.AppendAt
import Derived.Shelf.Lay
import Derived.Test.YtohjlfhmnmcndaaGreatM1
import Derived.Test.YtohjlfhmnmcndaaGreatM7
import Derived.Test.YtohjlfhmnmcndaaGreatM4
namespace Go.Proofs.YtohjlfhmnmcndaaGreat
open Go.RowKit
set_option maxRecDepth 100000
set_option maxHeartbeats 16000000
section
variable {P:Program} {ops:Array Oper} {Q:Exit→Act→World→Prop} {md:Region.Mode} {C:World→Prop}
def kP (P:Program) (ops:Array Oper) (C:World→Prop) (o:Oper) (v:Value) (a:Act):Prop :=
 (Region.wanted o (yielded ops a.tmps)=true∧∀ n:World,C n→Oper.quietUpon P (fun w'=>Below n.heap.size n w') n v ((execOp a.eval o).run P n)) ∨
 (Region.wanted o (yielded ops a.tmps)=false∧v=undef)
theorem kP.of_same {o:Oper} {v:Value} {a a':Act} (hy:kP P ops C o v a) (he:execOp a'.eval o=execOp a.eval o)
  (hw:Region.wanted o (yielded ops a'.tmps)=Region.wanted o (yielded ops a.tmps)):kP P ops C o v a':=by
 unfold kP at *;rw [he,hw];exact hy
theorem kP.wpOp {i:Nat} {o:Oper} {v:Value} {a:Act} (hi:ops[i]? = some o) (hy:kP P ops C o v a)
  {K:Act→World→Prop} {w:World} (hB:C w) (h:∀ w',Below w.heap.size w w'→K (a.put o.dst v) w'):wpOp P ops Q i K a w:=by
 unfold Go.wpOp;simp only [hi];rcases hy with ⟨hw,hv⟩ | ⟨hw,rfl⟩
 ·simp only [hw,if_true];left;have h3:=hv w hB;unfold Oper.wp;generalize (execOp a.eval o).run P w=r at *;cases r with
  | ok n w' =>
   cases n <;> simp only [Oper.quietUpon] at h3 <;> simp only [Oper.upon]
   case value u =>
    obtain ⟨e1,e2⟩:=h3;rw [e1,e2];exact h _ (Nk _ _)
   case skip =>
    obtain ⟨e1,e2⟩:=h3;rw [e1,← e2];exact h _ (Nk _ _)
   case enter f args =>
    obtain ⟨e1,hc⟩:=h3;rw [e1];exact hc.mono fun e w'' ⟨he,hw''⟩=>by subst he; exact h _ hw''
  | halt x w'=>simp only [Oper.quietUpon] at h3
 ·simp only [hw,Ox,if_false];exact h _ (Nk _ _)
theorem Dd {Φ:Act→Prop} {j:Nat} {oi oj:Oper} {v:Value} (hj:ops[j]? = some oj) (hap:oi.apart ops oj=true)
  (hsj:∀ cs b,oj.op ≠ .select cs b) (hQ:∀ c a w,Q (.panic c) (a.put oi.dst v) w→Q (.panic c) a w)
  (keep:∀ (a:Act),Φ a→∀ u,Φ (a.put oj.dst u)) (keepD:∀ (a:Act) (d:Deferred),Φ a→Φ { a with defers:=d :: a.defers })
  {K:Act→World→Prop} {a:Act} {w:World} (hy:Φ a) (h:wpOp P ops Q j K (a.put oi.dst v) w) :
  wpOp P ops Q j (fun a' w'=>Φ a'∧K (a'.put oi.dst v) w') a w:=by
 obtain ⟨h1,h2,_⟩:=Oper.apart_spec hap;unfold wpOp at *;simp only [hj] at *;rw [wanted_put oj a oi.dst v h1] at h
 split
 ·rename_i hw
  simp only [hw,if_true] at h;rcases h with h | ⟨hasks,hlets⟩
  case inr=>exact .inr ⟨by unfold Oper.asks at *; rw [execOp_put oj hsj a oi.dst v h1] at hasks; exact hasks,hlets⟩
  refine .inl ?_;unfold Oper.wp at *;rw [execOp_put oj hsj a oi.dst v h1] at h;generalize (execOp a.eval oj).run P w=r at *;cases r with
  | ok n w' =>
   cases n <;> simp only [Oper.upon] at h ⊢
   case value u=>exact ⟨keep a hy u,by rw [← Act.put_comm a v u h2]; exact h⟩
   case skip=>exact ⟨keep a hy _,by rw [← Act.put_comm a v undef h2]; exact h⟩
   case defer d =>
    refine ⟨keep _ (keepD a d hy) _,?_⟩;rw [← Act.put_comm _ v undef h2,← Act.put_defers];exact h
   case enter f args =>
    refine Calls.mono h fun e w'' he=>?_
    cases e with
    | returned u=>exact ⟨keep a hy u,by rw [← Act.put_comm a v u h2]; exact he⟩
    | panicked c=>exact hQ _ _ _ he
    | outgrown=>exact he
   case row row args=>exact Rows.mono h fun u w'' he=>⟨keep a hy u,by rw [← Act.put_comm a v u h2]; exact he⟩
  | halt x w' =>
   cases x <;> simp only [Oper.upon] at h ⊢
   case panic u=>exact hQ _ _ _ h
 ·rename_i hw
  simp only [hw] at h;exact ⟨keep a hy _,by rw [← Act.put_comm a v undef h2]; exact h⟩
def Eb (P:Program) (md:Region.Mode) (ops:Array Oper) (Q:Exit→Act→World→Prop) (C:World→Prop):Nat→Array Bool→Act→World→Prop
 | 0,listed,a,w=>Region.ready md ops listed = []∧∀ w',Below w.heap.size w w'→Q .normal a w'
 | fuel+1,listed,a,w=>∀ w',Below w.heap.size w w'→(Region.ready md ops listed = []→Q .normal a w') ∧
  ∀ i ∈ Region.ready md ops listed,wpOp P ops Q i (fun a' w''=>C w''∧Eb P md ops Q C fuel (listed.setIfInBounds i true) a' w'') a w'
theorem Eb.dX:∀ (fuel:Nat) {listed:Array Bool} {a:Act} {w w1:World},Eb P md ops Q C fuel listed a w→Below w.heap.size w w1→Eb P md ops Q C fuel listed a w1
 | 0,_,_,_,_,h,hb=>⟨h.1,fun w' hw'=>h.2 w' (chain hb hw')⟩
 | _+1,_,_,_,_,h,hb=>fun w' hw'=>h w' (chain hb hw')
theorem oC:∀ (fuel:Nat) (listed:Array Bool) (a:Act) (w:World),Eb P md ops Q C fuel listed a w→wpAny P md ops Q fuel listed a w
 | 0,_,_,_,h=>⟨h.1,h.2 _ (Nk _ _)⟩
 | fuel+1,_,_,w,h=>⟨(h w (Nk _ _)).1,fun i hi=>wpOp_mono (fun a' w' h'=>oC fuel _ a' w' h'.2) ((h w (Nk _ _)).2 i hi)⟩
theorem CY (hC:∀ w w',C w→Below w.heap.size w w'→C w') {i:Nat} {oi:Oper} {v:Value} (hi:ops[i]? = some oi) (hsel:∀ (j:Nat) (o:Oper) cs b,ops[j]? = some o→o.op ≠ .select cs b)
  (hQ:∀ c a w,Q (.panic c) (a.put oi.dst v) w→Q (.panic c) a w) :
  ∀ (fuel:Nat) (listed:Array Bool) (a:Act) (w:World),
   (∀ j oj,ops[j]? = some oj→j≠i→listed.getD j true=false→(∀ e ∈ oj.after,Region.binds md e=true→e.on≠i)→oi.apart ops oj=true) →
   i ∈ Region.ready md ops listed→kP P ops C oi v a→C w →
   Eb P md ops Q C fuel (listed.setIfInBounds i true) (a.put oi.dst v) w→Eb P md ops Q C (fuel+1) listed a w:=by
 intro fuel
 induction fuel with
 | zero =>
  intro listed a w _ hr hy hB H w' hw';refine ⟨fun h=>(by rw [h] at hr; cases hr),fun j hj=>?_⟩;by_cases hji:j=i
  ·subst hji;exact hy.wpOp hi (hC _ _ hB hw') fun w'' hw''=>⟨hC _ _ (hC _ _ hB hw') hw'',H.dX 0 (chain hw' hw'')⟩
  ·have:=ready_mono hj hji;rw [H.1] at this;cases this
 | succ fuel ih =>
  intro listed a w hfree hr hy hB H w' hw';refine ⟨fun h=>(by rw [h] at hr; cases hr),fun j hj=>?_⟩;by_cases hji:j=i
  ·subst hji;exact hy.wpOp hi (hC _ _ hB hw') fun w'' hw''=>⟨hC _ _ (hC _ _ hB hw') hw'',H.dX (fuel+1) (chain hw' hw'')⟩
  ·have h1:=(H w' hw').2 j (ready_mono hj hji);obtain ⟨hjun,oj,hoj,hall⟩:=mem_ready.1 hj;have hnot:∀ e ∈ oj.after,Region.binds md e=true→e.on≠i:=fun e he hb heq=>by
    have h1:=hall e he hb;have h0:=(mem_ready.1 hr).1;rw [heq] at h1;rcases NY i listed.size with h' | h'
    ·simp [h'] at h0 h1; rw [h0] at h1; cases h1
    ·simp [Array.getElem?_eq_none h'] at h1
   have hap:=hfree j oj hoj hji hjun hnot;obtain ⟨_,_,h3⟩:=Oper.apart_spec hap;have h2:=Dd (Φ:=kP P ops C oi v) hoj hap (fun cs b=>hsel j oj cs b hoj) hQ
    (fun a hy u=>hy.of_same (execOp_put oi (fun cs b=>hsel i oi cs b hi) a oj.dst u h3) (wanted_put oi a oj.dst u h3)) (fun a d hy=>hy.of_same rfl rfl) hy h1
   have hfree':∀ k ok,ops[k]? = some ok→k≠i→(listed.setIfInBounds j true).getD k true=false →
     (∀ e ∈ ok.after,Region.binds md e=true→e.on≠i)→oi.apart ops ok=true:=fun k ok hk hki hun hno=>by
    refine hfree k ok hk hki ?_ hno;by_cases hjk:j=k
    ·subst hjk; exact hjun
    ·rw [getD_set_ne true hjk] at hun; exact hun
   refine wpOp_mono (fun a' w'' h4=>⟨h4.2.1,ih (listed.setIfInBounds j true) a' w'' hfree' (ready_mono hr (Ne.symm hji)) h4.1 h4.2.1 ?_⟩) h2;rw [Array.setIfInBounds_comm _ _ hji];exact h4.2.2
theorem af (hC:∀ w w',C w→Below w.heap.size w w'→C w') {i:Nat} {oi:Oper} {v:Value} {fuel:Nat} {listed:Array Bool} {a:Act} {w:World} (d:Option Tmp) (hi:ops[i]? = some oi) (hd:oi.dst=d)
  (hs:Region.noSelect ops=true) (hf:Region.free md ops listed i=true) (hr:(Region.ready md ops listed).contains i=true)
  (hQ:∀ c a w,Q (.panic c) (a.put oi.dst v) w→Q (.panic c) a w) (hy:kP P ops C oi v a) (hB:C w)
  (h:Eb P md ops Q C fuel (listed.setIfInBounds i true) (a.put d v) w):Eb P md ops Q C (fuel+1) listed a w:=by
 subst hd;exact CY hC hi (Region.noSelect_spec hs) hQ fuel listed a w (Region.free_spec hi hf) (by simpa using hr) hy hB h
theorem ab (hC:∀ w w',C w→Below w.heap.size w w'→C w') {i:Nat} {oi:Oper} {v:Value} {fuel:Nat} {listed:Array Bool} {a:Act} {w:World} (d:Tmp) (hy:∀ n:World,C n→Oper.quietUpon P (fun w'=>Below n.heap.size n w') n v ((execOp a.eval oi).run P n)) (hB:C w) (h:Eb P md ops Q C fuel (listed.setIfInBounds i true) (a.put (some d) v) w) (hi:ops[i]? = some oi:=by exact rfl) (hd:oi.dst = some d:=by exact rfl) (hs:Region.noSelect ops=true:=by kernel_rfl) (hf:Region.free md ops listed i=true:=by kernel_rfl) (hr:(Region.ready md ops listed).contains i=true:=by kernel_rfl) (hQ:∀ c a w,Q (.panic c) (a.put oi.dst v) w→Q (.panic c) a w:=by exact fun _ _ _ h=>h) (hw:Region.wanted oi (yielded ops a.tmps)=true:=by exact rfl):Eb P md ops Q C (fuel+1) listed a w:=af hC (some d) hi hd hs hf hr hQ (.inl ⟨hw,hy⟩) hB h
theorem az {rs:List Nat} {fuel:Nat} {listed:Array Bool} {a:Act} {w:World} (hr:Region.ready md ops listed=rs) (hne:rs ≠ [])
  (h:∀ w',Below w.heap.size w w'→∀ i ∈ rs,wpOp P ops Q i (fun a' w''=>C w''∧Eb P md ops Q C fuel (listed.setIfInBounds i true) a' w'') a w'):Eb P md ops Q C (fuel+1) listed a w :=
 fun w' hw'=>⟨fun h0=>absurd (hr ▸ h0) hne,hr ▸ h w' hw'⟩
theorem bL {listed:Array Bool} {a:Act} {w:World} (hr:Region.ready md ops listed = []) (h:∀ w',Below w.heap.size w w'→Q .normal a w'):Eb P md ops Q C 0 listed a w:=⟨hr,h⟩
theorem aK {id:Nat} {a:Act} {w:World} (C:World→Prop) (hm:P.follows .mixedOrders=true)
  (h:Eb P .any ops Q C ops.size (Array.replicate ops.size false) a w.drew):(Code.region id ops true).wp P Q a w :=
 wp_region_any hm (oC _ _ _ _ h)
end
end Go.Proofs.YtohjlfhmnmcndaaGreat
namespace Go.Proofs.YtohjlfhmnmcndaaGreat
open Go.RowKit Go.Lib Go.Shelf
set_option maxRecDepth 100000
set_option maxHeartbeats 16000000
def j4 (base:Nat) (W:World) (v:Value) (l:List Zp):Prop:=∃ xs,W.ownsRow base 58 2 v l.length xs∧yp W xs l∧∀ (i:Nat) (b o cap n:Nat),i<l.length→xs[i*2]? = some (.slice (some ⟨b,o,none⟩) n cap)→base≤b
theorem j4.z {base:Nat} {W:World} {v:Value} {l:List Zp} (h:j4 base W v l):bZ base W v l:=by
 obtain ⟨xs,h1,h2,_⟩:=h;exact ⟨xs,h1,h2⟩
theorem Is {lo:Nat} {W w1:World} {a:Option Addr} {r:List Vl} (h:aM W a r) (ht:gm W a) (hb:∀ b o,a=some ⟨b,o,none⟩→lo≤b) (hs:ax lo W w1):aM w1 a r∧gm w1 a:=by
 have key:∀ b off,a=some ⟨b,off,none⟩→w1.heap[b]? = W.heap[b]?:=by
  intro b off e;obtain ⟨c,z,h1⟩:=ht b off e;have hlt:b<W.heap.size:=by
   rcases NY b W.heap.size with h | h
   ·exact h
   ·rw [OF h] at h1; cases h1
  exact hs.2 b (hb b off e) hlt
 refine ⟨⟨h.1,?_⟩,?_⟩
 ·rcases h.2 with h | ⟨b,off,e,hr,hlt⟩
  ·exact .inl h
  ·refine .inr ⟨b,off,e,fun i hi=>?_,Nn hlt hs.1⟩;have k:=key b off e;obtain ⟨c0,c1,c2⟩:=hr i hi;exact ⟨(NA (a:=⟨b,_,none⟩) k).trans c0,(NA (a:=⟨b,_,none⟩) k).trans c1,(NA (a:=⟨b,_,none⟩) k).trans c2⟩
 ·intro b off e;obtain ⟨c,z,h1⟩:=ht b off e;exact ⟨c,z,(key b off e).trans h1⟩
theorem j4.since {base lo:Nat} {W w1:World} {v:Value} {l:List Zp} (h:j4 base W v l) (hl:lo≤base) (hs:ax lo W w1):j4 base w1 v l:=by
 obtain ⟨xs,h1,h2,h3⟩:=h;refine ⟨xs,jN h1 hl hs,⟨h2.1,fun i hi=>?_⟩,h3⟩;obtain ⟨a,cap,e0,e1,e2,e3⟩:=h2.2 i hi;obtain ⟨g0,g1⟩:=Is e2 e3 (fun b o e=>by subst e; exact Nw hl (h3 i b o cap _ hi e0)) hs;exact ⟨a,cap,e0,e1,g0,g1⟩
theorem j4.nil (base:Nat) (W:World):j4 base W (.slice none 0 0) []:=⟨[],by simpa using NP _ _ _ _,⟨rfl,fun i hi=>by simp at hi⟩,fun i b o cap n hi=>by simp at hi⟩
theorem j4.slice {base:Nat} {W:World} {v:Value} {l:List Zp} (h:j4 base W v l):∃ a cap,v = .slice a l.length cap:=by
 obtain ⟨a,cap,e,_⟩:=h.z.zs;exact ⟨a,cap,e⟩
theorem j4.push {W w1:World} {base:Nat} {v v':Value} {xs:List Value} {l:List Zp} {a:Option Addr} {cap:Nat} {r:List Vl} {x:Int}
  (ho:W.ownsRow base 58 2 v l.length xs) (he:yp W xs l) (hb:∀ (i:Nat) (b o cap n:Nat),i<l.length→xs[i*2]? = some (.slice (some ⟨b,o,none⟩) n cap)→base≤b) (hs:aM W a r) (ht:gm W a) (ha:∀ b o,a=some ⟨b,o,none⟩→base≤b)
  (ho':w1.ownsRow base 58 2 v' (l.length+1) (xs ++ [.slice a r.length cap,.int .i64 x])) (hg:W.grownBy w1 v.ownBlock):j4 base w1 v' (l ++ [(r,x)]):=by
 have lx:=he.1;refine ⟨_,by simpa using ho',⟨by simp [he.1]; omega,?_⟩,?_⟩
 ·intro i hi;by_cases hi':i<l.length
  ·obtain ⟨a',c',h1,h2,h3,h4⟩:=he.2 i hi';have g:=ko h3 h4 ho hg;refine ⟨a',c',?_,?_,?_,g.2⟩
   ·rw [NC (by omega),h1,Ny hi']
   ·rw [NC (by omega),h2,Ny hi']
   ·rw [Ny hi']; exact g.1
  ·have:i=l.length:=by simp at hi; omega
   subst this;have g:=ko hs ht ho hg;refine ⟨a,cap,?_,?_,?_,g.2⟩
   ·rw [NG (by omega)]; simp [lx]
   ·rw [NG (by omega)]; simp [lx]
   ·simpa using g.1
 ·intro i b o c n hi h;by_cases hi':i<l.length
  ·rw [NC (by omega)] at h;exact hb i b o c n hi' h
  ·have:i=l.length:=by simp at hi; omega
   subst this;rw [NG (by omega)] at h;simp [lx] at h;exact ha b o h.1
theorem j4.lt {base:Nat} {W:World} {v:Value} {l:List Zp} (h:j4 base W v l) {g:Nat} (hg:v.ownBlock=some g):base≤g∧g<W.heap.size:=by
 obtain ⟨xs,h1,_⟩:=h;exact h1.lt g hg
theorem dQ {P:Program} {w:World} {o:Oper} {a:Act} {K:Act→World→Prop} {Q:Exit→Act→World→Prop} (d:Option Tmp) (hd:o.dst=d) (s x:Operand) (t:TypeId)
  (ho:o.op = .call { callee:=.builtin .append,args:=#[s,x],argTypes:=#[t,t] })
  (base:Nat) (e:TypeId) (i:TypeInfo) (z:Value) (size bytes:Nat) (ht:P.underlying t=some (.slice e)) (hi:P.info? e=some i) (hz:i.zero=some z)
  (hsize:i.size=size) (hby:i.bytes=bytes) (hzs:z.cells.size=size) (hsz:0<size)
  (v:Value) (n:Nat) (xs:List Value) (hs:a.eval s=v) (hown:w.ownsRow base e size v n xs)
  (ad:Addr) (m c:Nat) (news:List Value) (hx:a.eval x = .slice (some ad) m c) (hl:news.length=m*size) (hnews:∀ j u,news[j]? = some u→w.cell? (ad.add j)=some u) (h1:∀ u ∈ news,u.oneCell'=true)
  (h63:n+m≤maxLen) (hbytes:(n+m)*bytes≤140737488355328) (hbase:base≤w.heap.size)
  (h:∀ v' w',w'.ownsRow base e size v' (n+m) (xs ++ news)→w.grownBy w' v.ownBlock→(v'.ownBlock=v.ownBlock∨v'.ownBlock=some w.heap.size)→K (a.put d v') w'):o.wp P a w K Q:=by
 subst hd;obtain ⟨v',w',hr,h2,h3,_,h5⟩:=run_append_own_at (P:=P) w base t o.type e i z size bytes ht hi hz hsize hby hzs hsz v n xs hown ad m c news hl hnews h1 h63 hbytes hbase;unfold Oper.wp execOp;simp only [ho,resolve,invoke,builtin,Sem.run_bind,Sem.run_pure,Result.andThen_ok,NM,NO,NS,hs,hx,hr];exact h v' w' h2 h3 h5
theorem Bn (x:Ex) {l r:List Zp} {k:Nat} (h:k<l.length):bH x (l.take (k+1)) r=bH x (l.take k) r ++ cS x l[k] r:=by
 unfold bH;rw [Nz h,List.flatMap_append];simp
theorem wX (x:Ex) (p:Zp) {r:List Zp} {k:Nat} (h:k<r.length):cS x p (r.take (k+1))=cS x p (r.take k) ++ (if bF x (p.1 ++ r[k].1)=true then [(p.1 ++ r[k].1,p.2*r[k].2)] else []):=by
 unfold cS;rw [Nz h,List.filter_append,Om,List.filter_cons]
 congr 1
 split <;> rfl
theorem qi (x:Ex) (p:Zp) (r:List Zp):(cS x p r).length≤r.length:=by
 unfold cS;rw [Od];exact Oi _ _
theorem pq (x:Ex):∀ (l r:List Zp),(bH x l r).length≤l.length*r.length
 | [],_=>by simp [bH]
 | p :: t,r=>by
  have h1:=pq x t r
  have h2:=qi x p r
  unfold bH at h1 ⊢
  rw [List.flatMap_cons,Nx,N4,Nat.add_mul,Nat.one_mul]
  omega
theorem cell_of {W:World} {b:Nat} {xs:Array Value} {T:TypeId} {i:Nat} {v:Value} (h:W.heap[b]? = some (.cells xs T (0,0))) (hv:xs[i]? = some v):W.cell? ⟨b,i,none⟩=some v:=by
 simp [World.cell?,h,hv]
theorem aw (W:World) (xs:Array Value) (T:TypeId):(W.alloc (.cells xs T)).heap[W.heap.size]? = some (.cells xs T (0,0)):=by
 show (W.heap.push (.cells xs T (0,0)))[W.heap.size]? = _;exact Array.getElem?_push_size
theorem ae {W:World} {b:Nat} {o:Obj} (h:W.heap[b]? = some o):b<W.heap.size:=by
 rcases NY b W.heap.size with h' | h'
 ·exact h'
 ·rw [OF h'] at h; cases h
abbrev Kp:Type:=List Vl × Zp
def qR (x y:Kp):Prop:=aG x.1 y.1<0∨(aG x.1 y.1=0∧aG x.2.1 y.2.1<0)
instance (x y:Kp):Decidable (qR x y):=by unfold qR; exact inferInstance
theorem qR.trans {x y z:Kp} (h1:qR x y) (h2:qR y z):qR x z:=by
 rcases h1 with h1 | ⟨h1,g1⟩
 ·rcases h2 with h2 | ⟨h2,_⟩
  ·exact .inl (dS h1 (by omega))
  ·exact .inl (dS h1 (by omega))
 ·rcases h2 with h2 | ⟨h2,g2⟩
  ·exact .inl (Ax (by omega) h2)
  ·refine .inr ⟨?_,dS g1 (by omega)⟩;have a1:=dv x.1 y.1 z.1 (by omega) (by omega);have n1:=aZ x.1 y.1;have n2:=aZ y.1 z.1;have n3:=aZ x.1 z.1;have a2:=dv z.1 y.1 x.1 (by omega) (by omega);omega
theorem qR.not {x y:Kp} (h1:qR x y) (h2:qR y x):False:=by
 have n1:=aZ x.1 y.1;have n2:=aZ x.2.1 y.2.1;rcases h1 with h1 | ⟨h1,g1⟩ <;> rcases h2 with h2 | ⟨h2,g2⟩ <;> omega
def insK (x:Kp):List Kp→List Kp
 | []=>[x]
 | y :: r=>if qR x y then x :: y :: r else y :: insK x r
def Gk:List Kp→List Kp
 | []=>[]
 | x :: r=>insK x (Gk r)
theorem oM (x:Kp):∀ l,(insK x l).Perm (x :: l)
 | []=>List.Perm.refl _
 | y :: r=>by
  unfold insK
  split
  ·exact List.Perm.refl _
  ·exact ((oM x r).cons y).trans (List.Perm.swap x y r)
theorem pv:∀ l,(Gk l).Perm l
 | []=>List.Perm.refl _
 | x :: r=>(oM x (Gk r)).trans ((pv r).cons x)
theorem ql (x:Kp):∀ l,l.Pairwise qR→(∀ y ∈ l,qR x y∨qR y x)→(insK x l).Pairwise qR
 | [],_,_=>by simp [insK]
 | y :: r,h,ht=>by
  obtain ⟨h1,h2⟩:=List.pairwise_cons.1 h
  unfold insK
  split
  ·rename_i c
   exact List.pairwise_cons.2 ⟨fun z hz=>by
    rcases List.mem_cons.1 hz with rfl | hz
    ·exact c
    ·exact c.trans (h1 z hz),h⟩
  ·rename_i c
   have c':qR y x:=by rcases ht y (by simp) with h | h; exact absurd h c; exact h
   exact List.pairwise_cons.2 ⟨fun z hz=>by
    rcases List.mem_cons.1 ((oM x r).mem_iff.1 hz) with rfl | hz
    ·exact c'
    ·exact h1 z hz,ql x r h2 fun z hz=>ht z (by simp [hz])⟩
theorem qh:∀ l,l.Pairwise (fun x y=>qR x y∨qR y x)→(Gk l).Pairwise qR
 | [],_=>List.Pairwise.nil
 | x :: r,h=>by
  obtain ⟨h1,h2⟩:=List.pairwise_cons.1 h
  exact ql x _ (qh r h2) fun y hy=>h1 y ((pv r).mem_iff.1 hy)
theorem qe:∀ (l1 l2:List Kp),l1.Perm l2→l1.Pairwise qR→l2.Pairwise qR→l1=l2
 | [],l2,p,_,_=>(List.Perm.nil_eq p)
 | x :: t,[],p,_,_=>by have:=p.length_eq; simp at this
 | x :: t,y :: s,p,h1,h2=>by
  obtain ⟨a1,a2⟩:=List.pairwise_cons.1 h1
  obtain ⟨b1,b2⟩:=List.pairwise_cons.1 h2
  have e:x=y:=by
   by_cases e:x=y
   ·exact e
   ·exfalso;have hx:x ∈ s:=by
     rcases List.mem_cons.1 (p.mem_iff.1 (List.mem_cons_self)) with h | h
     ·exact absurd h e
     ·exact h
    have hy:y ∈ t:=by
     rcases List.mem_cons.1 (p.mem_iff.2 (List.mem_cons_self)) with h | h
     ·exact absurd h.symm e
     ·exact h
    exact qR.not (a1 y hy) (b1 x hx)
  subst e;rw [qe t s (List.Perm.cons_inv p) a2 b2]
def j9 (xs:List Ex) (z:List Zp):List Kp:=(z.filter fun p=>decide (0<p.2)).map fun p=>(dV xs p.1,p)
def ba (xs:List Ex) (z:List Zp):List Kp:=Gk (j9 xs z)
theorem sQ {xs:List Ex} {z:List Zp} (h:fL z):(j9 xs z).Pairwise fun x y=>aG x.2.1 y.2.1<0:=by
 unfold j9;rw [List.pairwise_map];exact List.Pairwise.filter _ h
theorem vN (xs:List Ex) (z:List Zp):(j9 xs z).length≤z.length:=by
 unfold j9;rw [Od];exact Oi _ _
theorem kS (xs:List Ex) (z:List Zp):(ba xs z).Perm (j9 xs z):=pv _
theorem wP {xs:List Ex} {z:List Zp} (h:fL z):(ba xs z).Pairwise qR:=qh _ ((sQ h).imp fun {x y} hr=>by
 have n:=aZ x.1 y.1
 by_cases c1:aG x.1 y.1<0
 ·exact .inl (.inl c1)
 ·by_cases c2:aG x.1 y.1=0
  ·exact .inl (.inr ⟨c2,hr⟩)
  ·exact .inr (.inl (by omega)))
theorem mA (xs:List Ex) (z:List Zp):(ba xs z).length≤z.length:=by rw [(kS xs z).length_eq]; exact vN xs z
structure LV (W:World) (b o:Nat) (x:Kp):Prop where
 w:W.cell? ⟨b,o+2,none⟩=some (.int .i64 x.2.2)
 r:∃ ra rc,W.cell? ⟨b,o+1,none⟩=some (.slice ra x.2.1.length rc)∧aM W ra x.2.1
 k:∃ ka kc,W.cell? ⟨b,o,none⟩=some (.slice ka x.1.length kc)∧aM W ka x.1
def uk (W:World) (a:Option Addr) (l:List Kp):Prop:=l = []∨∃ b off,a=some ⟨b,off,none⟩∧b<W.heap.size∧∀ i (hi:i<l.length),LV W b (off+i*3) l[i]
theorem LV.next {W w1:World} {b o:Nat} {x:Kp} (h:LV W b o x) (hlt:b<W.heap.size) (hb:Below W.heap.size W w1):LV w1 b o x:=by
 obtain ⟨h1,⟨ra,rc,h2,h3⟩,ka,kc,h4,h5⟩:=h;exact ⟨(hb.cell (p:=⟨b,_,none⟩) hlt).trans h1,⟨ra,rc,(hb.cell (p:=⟨b,_,none⟩) hlt).trans h2,h3.next hb⟩,ka,kc,(hb.cell (p:=⟨b,_,none⟩) hlt).trans h4,h5.next hb⟩
theorem uk.next {W w1:World} {a:Option Addr} {l:List Kp} (h:uk W a l) (hb:Below W.heap.size W w1):uk w1 a l:=by
 rcases h with h | ⟨b,off,e,hlt,hr⟩
 ·exact .inl h
 ·exact .inr ⟨b,off,e,Nn hlt hb.size,fun i hi=>(hr i hi).next hlt hb⟩
theorem uk.elem {W:World} {a:Option Addr} {l:List Kp} (h:uk W a l) {k:Nat} (hk:k<l.length):∃ b off,a=some ⟨b,off,none⟩∧b<W.heap.size∧LV W b (off+k*3) l[k]:=by
 rcases h with h | ⟨b,off,e,hlt,hr⟩
 ·subst h; simp at hk
 ·exact ⟨b,off,e,hlt,hr k hk⟩
structure Kr where
 ka:Option Addr
 kc:Nat
 keys:List Vl
 ra:Option Addr
 rc:Nat
 row:List Vl
 w:Int
def Md (g:Nat) (a:Option Addr) (l:List Vl):Prop:=l = []∨∀ b off,a=some ⟨b,off,none⟩→b≠g
abbrev Kg (w:World) (g:Nat):Type:={ x:Kr // (aM w x.ka x.keys∧Md g x.ka x.keys)∧aM w x.ra x.row∧Md g x.ra x.row }
instance (w:World) (g:Nat):Inhabited (Kg w g):=⟨⟨⟨none,0,[],none,0,[],0⟩,⟨⟨by simp,.inl rfl⟩,.inl rfl⟩,⟨by simp,.inl rfl⟩,.inl rfl⟩⟩
section
variable (w:World) (g:Nat)
def nr (x:Kg w g):List Value:=[.slice x.1.ka x.1.keys.length x.1.kc,.slice x.1.ra x.1.row.length x.1.rc,.int .i64 x.1.w]
def KJ (x y:Kg w g):Int:=aG x.1.keys y.1.keys
def Ik (x y:Kg w g):Prop:=aG x.1.row y.1.row<0
def Lm (x:Kg w g):Kp:=(x.1.keys,x.1.row,x.1.w)
theorem CM:iC (KJ w g) (Ik w g) where
 neg x y:=by have:=aZ x.1.keys y.1.keys; unfold KJ; omega
 trans x y z h1 h2:=dv _ _ _ h1 h2
 FY x y z h1 h2:=dS h1 (by unfold Ik at h2; omega)
end
theorem Ay {α:Type} [Inhabited α] (enc:α→List Value) (k:Nat) (w:World) (bm off m:Nat) (dk:Array α) (os:Array Obj) {j:Nat} (hj:j<w.heap.size) (hne:j≠bm):(sortWorldK enc k w bm off m dk os).heap[j]? = w.heap[j]?:=by
 show ((Go.Sort.mapBlock _ _ _).heap ++ os)[j]? = _;rw [Array.getElem?_append_left (by simp [Go.Sort.mapBlock,Go.Sort.ahead]; omega)];simp only [Go.Sort.mapBlock,Go.Sort.ahead,Array.getElem?_modify];rw [if_neg (by omega)]
theorem mu {α:Type} [Inhabited α] {enc:α→List Value} {k:Nat} {w w':World} {bm off:Nat} {dk:Array α} {a:Option Addr} {l:List Vl} (h:aM w a l) (ho:Md bm a l) (hS:SWK enc k w bm off dk w'):aM w' a l:=by
 have hle:=hS.le;obtain ⟨m,os,rfl⟩:=hS;refine ⟨h.1,?_⟩;rcases ho with ho | ho
 ·exact .inl ho
 rcases h.2 with h | ⟨b,o,e,hr,hlt⟩
 ·exact .inl h
 ·refine .inr ⟨b,o,e,fun i hi=>?_,Nn hlt hle⟩;have k:=Ay enc k w bm off m dk os hlt (ho b o e);obtain ⟨c0,c1,c2⟩:=hr i hi;exact ⟨(NA (a:=⟨b,_,none⟩) k).trans c0,(NA (a:=⟨b,_,none⟩) k).trans c1,(NA (a:=⟨b,_,none⟩) k).trans c2⟩
theorem AB {α:Type} [Inhabited α] {enc:α→List Value} {k:Nat} {w0 w w':World} {bm off:Nat} {dk:Array α} (hb:Below w0.heap.size w0 w) (hk:w0.heap.size≤bm) (hS:SWK enc k w bm off dk w'):Below w0.heap.size w0 w':=by
 obtain ⟨m,os,rfl⟩:=hS;exact fJ hb hk
theorem pV (ka ra ka' ra':Option Addr) (kc rc kc' rc':Nat) (x x':Int) (l l' r r':List Vl) (w:World) (h:aM w ka l) (h':aM w ka' l') :
  Calls Tryz.prog 159 #[.agg #[.slice ka l.length kc,.slice ra r.length rc,.int .i64 x],.agg #[.slice ka' l'.length kc',.slice ra' r'.length rc',.int .i64 x']] w fun e w'=>e = .returned (.int .i64 (aG l l'))∧∃ q os',w'=Go.Sort.grow (w.drewN q) os':=by
 have b2:Below w.heap.size w ((w.alloc (.cells #[.slice ka l.length kc,.slice ra r.length rc,.int .i64 x] 157)).alloc (.cells #[.slice ka' l'.length kc',.slice ra' r'.length rc',.int .i64 x'] 157)):=((Nk _ _).alloc (Nj _) _).alloc (by simp) _;go_enter Tryz.func159,Tryz.ntmps159;go_wp2_with fail
 refine (A5 _ _ _ _ _ _ _ (h.next b2) (h'.next b2)).mono ?_;rintro e w1 ⟨rfl,hb1,hd1⟩;go_wp2
 go_ret;exact ⟨rfl,mL (chain b2 hb1) hd1⟩
theorem FJ (w:World) (bm off size:Nat):CmpLays Tryz.prog 159 #[] (nr w bm) 3 (KJ w bm) bm off size w :=
 fun m os _ _ x y=>pV _ _ _ _ _ _ _ _ _ _ _ _ _ _ _ (mu x.2.1.1 x.2.1.2 ⟨m,os,rfl⟩) (mu y.2.1.1 y.2.1.2 ⟨m,os,rfl⟩)
end Go.Proofs.YtohjlfhmnmcndaaGreat
namespace Go.Proofs
open Go.Shelf Go.RowKit Go.Lib
shelf_lay_g SlLaysF0.n20 Slsf 20 at Tryz 217 as Tryz.insK
end Go.Proofs
namespace Go.Proofs.YtohjlfhmnmcndaaGreat
open Go.RowKit Go.Lib Go.Shelf Go.Sort
set_option maxRecDepth 100000
set_option maxHeartbeats 16000000
theorem Lw (wS:World) (bm off cap:Nat) (d:Array (Kg wS bm)) (R:RowK (nr wS bm) 3 wS bm off d) (hsz:d.size≤1000000):Ch Tryz.prog 3 (nr wS bm) (KJ wS bm) 159 #[] bm off cap d wS:=fun a b dk w hs S hab hbd=>by
 have eg:∀ args w,(callFunc 159 args).run Tryz.prog w = .ok (.enter 159 args) w:=enters_of Tryz.func159 (by kernel_rfl) rfl
 have hH:=S.holds R.hblk R.hH hs.symm
 have hC:CmpLays Tryz.prog 159 #[] (nr wS bm) 3 (KJ wS bm) bm off dk.size w:=fun m os dj hj x y=>by
  have S2:=S.on R.hblk m dj os hj
  exact pV _ _ _ _ _ _ _ _ _ _ _ _ _ _ _ (mu x.2.1.1 x.2.1.2 S2) (mu y.2.1.1 y.2.1.2 S2)
 refine (AnyQ.insertionSortCmpFunc Tryz.insK 3 Tryz.isAgg157 Tryz.sizeOf157 (nr wS bm) R.hk R.h1 (KJ wS bm) 159 #[] bm off cap a b dk w eg hC hH (S.lt R.hblk) hab hbd (by omega)).mono ?_
 rintro e w' ⟨rfl,n,os,rfl⟩
 refine ⟨rfl,S.on R.hblk _ _ _ ?_⟩
 exact (nE (pre:=fun _ _=>True) ⟨(CM wS bm).neg,(CM wS bm).trans,fun _ _ _ _ _=>trivial⟩ a b dk hab hbd (fun _ _ _ _ _=>trivial)).1.1
end Go.Proofs.YtohjlfhmnmcndaaGreat
namespace Go.Proofs.YtohjlfhmnmcndaaGreat
open Go.RowKit Go.Lib Go.Shelf
set_option maxRecDepth 100000
set_option maxHeartbeats 16000000
def dB (cols:List Int) (x:Ex) (w0 wp:World) (a b:Option Addr) (ca cb:Nat) (l r:List Zp) (v:Value) (R rv:Nat):Prop :=
 ∃ (lo:Nat) (wc:World) (hv:Nat) (u:Value),v = .agg #[.slice a l.length ca,.slice b r.length cb,.func (.func 219) #[] #[.pointer (some ⟨rv,0,none⟩),.pointer (some ⟨hv,0,none⟩)]] ∧
  pG wp R rv∧hv<R∧wp.cell? ⟨hv,0,none⟩=some u∧jU cols lo u x wc∧wc.heap.size≤R∧ax lo wc wp∧w0.heap.size≤R∧Below w0.heap.size w0 wp
theorem qW.M9 {cols:List Int} {x:Ex} {w0 wp:World} {a b:Option Addr} {ca cb:Nat} {l r:List Zp} {v:Value} (h:qW cols x w0 wp a b ca cb l r v):∃ R rv,dB cols x w0 wp a b ca cb l r v R rv∧cP wp R rv wp:=by
 obtain ⟨lo,wc,R,rv,hv,u,e,h1,h2,h3,h4,h5,h6,h7,h8,h9⟩:=h.ex;exact ⟨R,rv,⟨lo,wc,hv,u,e,h1,h2,h3,h4,h5,h6,h7,h8⟩,h9⟩
structure nM (cols:List Int) (l r:List Zp):Prop where
 ll:l.length≤400
 rl:r.length≤400
 row:∀ p ∈ l,∀ q ∈ r,p.1.length+q.1.length≤8
 fit:∀ p ∈ l,∀ q ∈ r,cL cols (p.1 ++ q.1)
 mul:∀ p ∈ l,∀ q ∈ r,-1000000000000≤p.2*q.2∧p.2*q.2≤1000000000000
theorem vw (cols:List Int) (x:Ex) (w0 wp w:World) (a b:Option Addr) (ca cb:Nat) (l r:List Zp) (v:Value) (R rv:Nat) (hP:dB cols x w0 wp a b ca cb l r v R rv) (hI:cP wp R rv w) (za:aL w0 a l) (zb:aL w0 b r) (hq:nM cols l r) :
  Calls Tryz.prog 128 #[v] w fun e w'=>∃ u,e = .returned u∧j4 (w.heap.size+1) w' u (bH x l r)∧cP wp R rv w'∧w.heap.size≤w'.heap.size:=by
 obtain ⟨lo,wc,hv,u,rfl,hn,hv0,hc,hC,hcR,hcp,h0,h0p⟩:=hP;obtain ⟨i0,hi,hj0,hj1,hj2⟩:=info_parts Tryz.gX;have hrv:=hI.sz hn;have hrr:=hn.r;have hl:=hq.ll;have hr:=hq.rl;have HQ:Hid (nM cols l r):=hq;have h1:=aa w (.cells #[.slice a l.length ca,.slice b r.length cb,.func (.func 219) #[] #[.pointer (some ⟨rv,0,none⟩),.pointer (some ⟨hv,0,none⟩)]] 162);have p1:=aw w #[.slice a l.length ca,.slice b r.length cb,.func (.func 219) #[] #[.pointer (some ⟨rv,0,none⟩),.pointer (some ⟨hv,0,none⟩)]] 162
 have I1:cP wp R rv (w.alloc (.cells #[.slice a l.length ca,.slice b r.length cb,.func (.func 219) #[] #[.pointer (some ⟨rv,0,none⟩),.pointer (some ⟨hv,0,none⟩)]] 162)):=hI.dX hn hI.size h1;have z1:(w.alloc (.cells #[.slice a l.length ca,.slice b r.length cb,.func (.func 219) #[] #[.pointer (some ⟨rv,0,none⟩),.pointer (some ⟨hv,0,none⟩)]] 162)).heap.size=w.heap.size+1:=by simp
 clear hq;go_enter Tryz.func128,Tryz.ntmps128;go_wp2_with fail
 go_loopw [3,11] (fun v i wr=>∃ k:Nat,k≤l.length∧i = .int .i64 k∧j4 (w.heap.size+1) wr v (bH x (l.take k) r)∧Hid (cP wp R rv wr)∧wr.heap[w.heap.size]? = some (.cells #[.slice a l.length ca,.slice b r.length cb,.func (.func 219) #[] #[.pointer (some ⟨rv,0,none⟩),.pointer (some ⟨hv,0,none⟩)]] 162 (0,0))) (fun _ i _=>l.length - (intOf i).toNat)
 case atStart=>exact ⟨0,Nr _,rfl,j4.nil _ _,I1,p1⟩
 case round =>
  obtain ⟨k,hk,rfl,HO,HI,hp⟩:=hrel;clear h1 p1 I1 z1;by_cases hlt:k<l.length
  ·obtain ⟨wl,hwl⟩:∃ z,z=wr:=⟨_,rfl⟩
   obtain ⟨uo,huo⟩:∃ z,z=u3:=⟨_,rfl⟩
   subst hwl huo;have hpl:=ae hp;obtain ⟨bl,off,rfl,hbl,d1,ar,cr,d0,sr⟩:=za.elem hlt;have hB:Below w0.heap.size w0 wl:=h0p.trans ((HI.out.below hn).mono h0);have c1:=(hB.cell (p:=⟨bl,_,none⟩) hbl).trans d1;have c0:=(hB.cell (p:=⟨bl,_,none⟩) hbl).trans d0;have hbl':bl<wl.heap.size:=Nn hbl hB.size;have hal:=aa wl (.cells #[.slice ar l[k].1.length cr,.int .i64 l[k].2] 58);have pa:=(hal.block w.heap.size hpl).trans hp;have q5:=aw wl #[.slice ar l[k].1.length cr,.int .i64 l[k].2] 58
   have x1:(wl.alloc (.cells #[.slice ar l[k].1.length cr,.int .i64 l[k].2] 58)).cell? ⟨w.heap.size,1,none⟩=some (.slice b r.length cb):=cell_of (i:=1) pa rfl;have IA:Hid (cP wp R rv (wl.alloc (.cells #[.slice ar l[k].1.length cr,.int .i64 l[k].2] 58))):=HI.out.dX hn HI.out.size hal;have OA:=HO.since (lo:=0) (Nr _) (ax.of hal);have HS:Hid (aM w0 ar l[k].1):=sr;have nb:∀ g,uo.ownBlock=some g→g≠wl.heap.size:=fun g hg=>by have:=(HO.lt hg).2; omega
   have HT:Hid (bH x (l.take (k+1)) r=bH x (l.take k) r ++ cS x l[k] r):=Bn x hlt;have HL:Hid ((bH x (l.take k) r).length≤160000):=by
    show (bH x (l.take k) r).length≤160000;have h1:=pq x (l.take k) r;have h2:(l.take k).length*r.length≤400*400:=Nat.mul_le_mul (by simp; omega) hr;omega
   clear d0 d1 sr;go_wp2_with fail
   go_loopw [3,18] (fun v i ws=>∃ m:Nat,m≤r.length∧i = .int .i64 m∧j4 (w.heap.size+1) ws v (bH x (l.take k) r ++ cS x l[k] (r.take m))∧Hid (cP wp R rv ws)∧ws.heap[w.heap.size]? = some (.cells #[.slice (some ⟨bl,off,none⟩) l.length ca,.slice b r.length cb,.func (.func 219) #[] #[.pointer (some ⟨rv,0,none⟩),.pointer (some ⟨hv,0,none⟩)]] 162 (0,0))∧ws.heap[wl.heap.size]? = some (.cells #[.slice ar l[k].1.length cr,.int .i64 l[k].2] 58 (0,0))∧Hid (∀ g,v.ownBlock=some g→g≠wl.heap.size)) (fun _ i _=>r.length - (intOf i).toNat)
   case atStart=>exact ⟨0,Nr _,rfl,by simpa [cS] using OA,IA,pa,q5,nb⟩
   case round =>
    clear IA OA nb x1 pa q5 hal HO HI hp;obtain ⟨m,hm,rfl,HO,HI,hp,hq5,hnb⟩:=hrel;by_cases hmt:m<r.length
    ·obtain ⟨bl2,off2,rfl,hbl2,d1,br,cr2,d0,sr⟩:=zb.elem hmt;have hB:Below w0.heap.size w0 wr:=h0p.trans ((HI.out.below hn).mono h0);have e1:=(hB.cell (p:=⟨bl2,_,none⟩) hbl2).trans d1;have e0:=(hB.cell (p:=⟨bl2,_,none⟩) hbl2).trans d0;have hlw:wl.heap.size<wr.heap.size:=ae hq5;have hbl2':bl2<wr.heap.size:=Nn hbl2 hB.size;have hal:=aa wr (.cells #[.slice br r[m].1.length cr2,.int .i64 r[m].2] 58)
     have z7:(wr.alloc (.cells #[.slice br r[m].1.length cr2,.int .i64 r[m].2] 58)).heap.size=wr.heap.size+1:=by simp
     have pA:=(hal.block w.heap.size (by omega)).trans hp;have q5A:=(hal.block wl.heap.size hlw).trans hq5;have q7A:=aw wr #[.slice br r[m].1.length cr2,.int .i64 r[m].2] 58;have x2:(wr.alloc (.cells #[.slice br r[m].1.length cr2,.int .i64 r[m].2] 58)).cell? ⟨w.heap.size,2,none⟩=some (.func (.func 219) #[] #[.pointer (some ⟨rv,0,none⟩),.pointer (some ⟨hv,0,none⟩)]):=cell_of (i:=2) pA rfl;have y0:(wr.alloc (.cells #[.slice br r[m].1.length cr2,.int .i64 r[m].2] 58)).cell? ⟨wl.heap.size,0,none⟩=some (.slice ar l[k].1.length cr):=cell_of (i:=0) q5A rfl
     have con:=zp cols lo x wc wp w0 R rv hv u hn hv0 hc hC hcR hcp h0 h0p ar br cr cr2 l[k].1 r[m].1 _ (HI.out.dX hn HI.out.size hal) HS.out sr (HQ.out.row _ (Ns hlt) _ (Ns hmt)) (HQ.out.fit _ (Ns hlt) _ (Ns hmt));have OA:=HO.since (lo:=0) (Nr _) (ax.of hal);have HM:=HQ.out.mul _ (Ns hlt) _ (Ns hmt);have HR:Hid (aM w0 br r[m].1):=sr
     have HT2:Hid (cS x l[k] (r.take (m+1))=cS x l[k] (r.take m) ++ (if bF x (l[k].1 ++ r[m].1)=true then [(l[k].1 ++ r[m].1,l[k].2*r[m].2)] else [])):=wX x l[k] hmt;have hrow:=HQ.out.row _ (Ns hlt) _ (Ns hmt);have hnb7:Hid (∀ g,u3.ownBlock=some g→w.heap.size+1≤g∧g<wr.heap.size):=fun g hg=>HO.lt hg
     have hlen:(bH x (l.take k) r ++ cS x l[k] (r.take m)).length≤160400:=by
      have h1:=HL.out;have h2:=qi x l[k] (r.take m);simp only [Nx,NN] at h2 ⊢;omega
     clear HO d0 d1 sr hp hq5 HI hC c1 c0;by_cases hh:bF x (l[k].1 ++ r[m].1)=true
     ·rw [hh] at con;have HH:Hid (bF x (l[k].1 ++ r[m].1)=true):=hh;clear hh;go_wp2_with fail
      refine con.mono ?_;rintro e w1 ⟨rfl,I1,s1⟩;have HI1:Hid (cP wp R rv w1):=I1;have OB:=OA.since (by omega) s1;have pB:=(s1.2 w.heap.size (by omega) (by omega)).trans pA;have q5B:=(s1.2 wl.heap.size (by omega) (by omega)).trans q5A;have q7B:=(s1.2 wr.heap.size (by omega) (by omega)).trans q7A;have zB:=s1.1;clear con I1 s1 OA pA q5A q7A x2 y0 hal;dsimp only;go_wp2_with fail
      have hCC:∀ W W':World,(W.heap[wl.heap.size]? = some (.cells #[.slice ar l[k].1.length cr,.int .i64 l[k].2] 58 (0,0))∧W.heap[wr.heap.size]? = some (.cells #[.slice br r[m].1.length cr2,.int .i64 r[m].2] 58 (0,0)))→Below W.heap.size W W'→(W'.heap[wl.heap.size]? = some (.cells #[.slice ar l[k].1.length cr,.int .i64 l[k].2] 58 (0,0))∧W'.heap[wr.heap.size]? = some (.cells #[.slice br r[m].1.length cr2,.int .i64 r[m].2] 58 (0,0))):=fun W W' h hb=>⟨(hb.block _ (ae h.1)).trans h.1,(hb.block _ (ae h.2)).trans h.2⟩
      have hd:Below w1.heap.size w1 w1.drew:=(Nk _ _).drew;have CW:w1.drew.heap[wl.heap.size]? = some (.cells #[.slice ar l[k].1.length cr,.int .i64 l[k].2] 58 (0,0))∧w1.drew.heap[wr.heap.size]? = some (.cells #[.slice br r[m].1.length cr2,.int .i64 r[m].2] 58 (0,0)):=hCC _ _ ⟨q5B,q7B⟩ hd;have HW:IntKind.i64.wrap (l[k].2*r[m].2)=l[k].2*r[m].2:=IntWalk.i64_in _ ⟨by omega,by omega⟩
      refine aK (fun W=>W.heap[wl.heap.size]? = some (.cells #[.slice ar l[k].1.length cr,.int .i64 l[k].2] 58 (0,0))∧W.heap[wr.heap.size]? = some (.cells #[.slice br r[m].1.length cr2,.int .i64 r[m].2] 58 (0,0))) (by kernel_rfl) ?_;refine ab hCC 29 (i:=0) (v:=u3) (fun n hn=>?_) CW ?_
      ·go_simp
      simp only [Act.put,NK,NX,N0];refine ab hCC 30 (i:=1) (v:=.pointer (some ⟨wl.heap.size,0,none⟩)) (fun n hn=>?_) CW ?_
      ·go_simp
      simp only [Act.put,NK,NX,N0];refine ab hCC 31 (i:=2) (v:=.slice ar l[k].1.length cr) (fun n hn=>?_) CW ?_
      ·have hcell:n.cell? ⟨wl.heap.size,0,none⟩=some (.slice ar l[k].1.length cr):=cell_of (i:=0) hn.1 rfl;go_simp
      simp only [Act.put,NK,NX,N0];refine ab hCC 32 (i:=3) (v:=.pointer (some ⟨wr.heap.size,0,none⟩)) (fun n hn=>?_) CW ?_
      ·go_simp
      simp only [Act.put,NK,NX,N0];refine ab hCC 33 (i:=4) (v:=.slice br r[m].1.length cr2) (fun n hn=>?_) CW ?_
      ·have hcell:n.cell? ⟨wr.heap.size,0,none⟩=some (.slice br r[m].1.length cr2):=cell_of (i:=0) hn.2 rfl;go_simp
      simp only [Act.put,NK,NX,N0];refine ab hCC 36 (i:=7) (v:=.pointer (some ⟨wl.heap.size,1,none⟩)) (fun n hn=>?_) CW ?_
      ·go_simp
      simp only [Act.put,NK,NX,N0];refine ab hCC 37 (i:=8) (v:=.int .i64 l[k].2) (fun n hn=>?_) CW ?_
      ·have hcell:n.cell? ⟨wl.heap.size,1,none⟩=some (.int .i64 l[k].2):=cell_of (i:=1) hn.1 rfl;go_simp
      simp only [Act.put,NK,NX,N0];refine ab hCC 38 (i:=9) (v:=.pointer (some ⟨wr.heap.size,1,none⟩)) (fun n hn=>?_) CW ?_
      ·go_simp
      simp only [Act.put,NK,NX,N0];refine ab hCC 39 (i:=10) (v:=.int .i64 r[m].2) (fun n hn=>?_) CW ?_
      ·have hcell:n.cell? ⟨wr.heap.size,1,none⟩=some (.int .i64 r[m].2):=cell_of (i:=1) hn.2 rfl;go_simp
      simp only [Act.put,NK,NX,N0];refine ab hCC 40 (i:=11) (v:=.int .i64 (l[k].2*r[m].2)) (fun n hn=>?_) CW ?_
      ·go_simp
      simp only [Act.put,NK,NX,N0];refine az (rs:=[5]) (by kernel_rfl) (by simp) ?_;intro w3 hb3 jj hj;obtain rfl:jj=5:=by simpa using hj
      clear hj;refine wpOp_step rfl (fun K hK=>?_);go_simp;have D3:=chain hd hb3;have CW3:=hCC _ _ CW hb3;have B3:Below w0.heap.size w0 w3:=(h0p.trans ((HI1.out.below hn).mono h0)).trans (D3.mono (by have:=HI1.out.size; have:=h0p.size; omega));have hal3:=aa w3 (.cells #[.slice ar l[k].1.length cr,.slice br r[m].1.length cr2] 56);have PC:=gA.new cr cr2 (fG (HS.out.next B3)) (fG (HR.out.next B3)) 56;have D4:=chain D3 hal3;have CW4:=hCC _ _ CW3 hal3;refine hK _ _ ⟨CW4,?_⟩;clear hK K hal3 hb3 CW CW3
      generalize w3.alloc (.cells #[.slice ar l[k].1.length cr,.slice br r[m].1.length cr2] 56)=w4 at *;refine az (rs:=[6]) (by kernel_rfl) (by simp) ?_;intro w5 hb5 jj hj;obtain rfl:jj=6:=by simpa using hj
      clear hj;refine wpOp_step rfl (fun K hK=>?_);go_simp;have D5:=chain D4 hb5;have CW5:=hCC _ _ CW4 hb5;refine (kX _ _ _ _ _ w5 (PC.next hb5) (by omega)).mono ?_;rintro e w6 ⟨v6,rfl,O6,hb6⟩;rw [← bQ] at O6;have ge6:∀ b o n c,v6 = .slice (some ⟨b,o,none⟩) n c→w.heap.size+1≤b:=fun b o n c e=>by
       subst e;have:=(O6.lt b rfl).1;have:=D5.size;omega
      obtain ⟨a6,c6,rfl,S6,T6,_⟩:=lV O6 (by simp);have D6:=chain D5 hb6;have CW6:=hCC _ _ CW5 hb6;refine hK _ _ ⟨CW6,?_⟩;clear hK K PC O6 CW4 CW5;refine ab hCC 41 (i:=12) (v:=.agg #[.slice a6 (l[k].1 ++ r[m].1).length c6,.int .i64 (l[k].2*r[m].2)]) (fun n hn=>?_) CW6 ?_
      ·go_simp
      simp only [Act.put,NK,NX,N0];refine az (rs:=[13]) (by kernel_rfl) (by simp) ?_;intro w7 hb7 jj hj;obtain rfl:jj=13:=by simpa using hj
      clear hj;refine wpOp_step rfl (fun K hK=>?_);go_simp;have D7:=chain D6 hb7;have CW7:=hCC _ _ CW6 hb7;have hal7:=aa w7 (.cells #[.slice a6 (l[k].1.length+r[m].1.length) c6,.int .i64 (l[k].2*r[m].2)] 58);have q8:=aw w7 #[.slice a6 (l[k].1.length+r[m].1.length) c6,.int .i64 (l[k].2*r[m].2)] 58;have D8:=chain D7 hal7;have CW8:=hCC _ _ CW7 hal7;have S8:=(S6.next hb7).next hal7;have T8:=(T6.next hb7).next hal7;refine hK _ _ ⟨CW8,?_⟩;clear hK K CW6 CW7 S6 T6
      generalize hw8:w7.alloc (.cells #[.slice a6 (l[k].1.length+r[m].1.length) c6,.int .i64 (l[k].2*r[m].2)] 58)=w8 at *;clear hw8;refine az (rs:=[14]) (by kernel_rfl) (by simp) ?_;intro w9 hb9 jj hj;obtain rfl:jj=14:=by simpa using hj
      clear hj;have D9:=chain D8 hb9;have CW9:=hCC _ _ CW8 hb9;have S9:=S8.next hb9;have T9:=T8.next hb9;have q9:=(hb9.block _ (ae q8)).trans q8;obtain ⟨xs,o9,en9,bb9⟩:=OB.since (lo:=0) (Nr _) (ax.of D9);have zz:=D9.size;refine wpOp_step rfl (fun K hK=>?_);refine Eq.mpr (if_pos (by kernel_rfl)) ?_
      refine dQ (some 43) rfl (Operand.tmp 29) (Operand.tmp 42) 34 rfl (w.heap.size+1) 58 i0 _ 2 32 Tryz.underlying34 hi hj0 hj1 hj2 rfl (by decide) u3 _ xs rfl o9 ⟨w7.heap.size,0,none⟩ 1 1 [.slice a6 (l[k].1.length+r[m].1.length) c6,.int .i64 (l[k].2*r[m].2)] rfl rfl ?Ac1 ?Ac2 ?Ac3 ?Ac4 ?Ac5 ?_
      case Ac1 =>
       intro j u hj
       match j,hj with
       | 0,hj=>simp at hj; subst hj; exact cell_of (i:=0) q9 rfl
       | 1,hj=>simp at hj; subst hj; exact cell_of (i:=1) q9 rfl
      case Ac2=>intro u hu; simp at hu; rcases hu with rfl | rfl <;> rfl
      case Ac3=>unfold maxLen; omega
      case Ac4=>omega
      case Ac5=>omega
      intro v' w10 o10 g10 at10;have CW10:w10.heap[wl.heap.size]? = some (.cells #[.slice ar l[k].1.length cr,.int .i64 l[k].2] 58 (0,0))∧w10.heap[wr.heap.size]? = some (.cells #[.slice br r[m].1.length cr2,.int .i64 r[m].2] 58 (0,0)):=⟨(g10.block _ (ae CW9.1) (fun e=>hnb.out _ e.symm rfl)).trans CW9.1,(g10.block _ (ae CW9.2) (fun e=>by have:=(hnb7.out _ e.symm).2; omega)).trans CW9.2⟩
      have p10:=(g10.block w.heap.size (by omega) (fun e=>by have:=(hnb7.out _ e.symm).1; omega)).trans ((D9.block w.heap.size (by omega)).trans pB);have OJ10:j4 (w.heap.size+1) w10 v' ((bH x (l.take k) r ++ cS x l[k] (r.take m)) ++ [(l[k].1 ++ r[m].1,l[k].2*r[m].2)]):=j4.push o9 en9 bb9 S9 T9 (fun b o e=>ge6 b o _ _ (by rw [e])) (by simpa using o10) g10;have b10:Below wp.heap.size w9 w10:=(Nk _ _).grown g10 (by have:=HI1.out.size; omega) (fun q hq=>by have:=(hnb7.out q hq).1; have:=hI.size; omega)
      have I10:cP wp R rv w10:=(HI1.out.dX hn HI1.out.size D9).dX hn (Nj _) b10;have nb10:∀ g,v'.ownBlock=some g→g≠wl.heap.size:=fun g hg=>by
       rcases at10 with e | e
       ·exact hnb.out g (by rw [← e]; exact hg)
       ·rw [hg] at e; have:=NU e; omega
      refine hK _ _ ⟨CW10,?_⟩;clear hK K CW9 CW8 S9 T9 S8 T8 o9 en9 bb9 o10 at10 D9 D8 D7 D6 D5 D4 D3 q8 q9 OB;simp only [Act.put,NK,NX,N0];refine ab hCC 3 (i:=15) (v:=v') (fun n hn=>?_) CW10 ?_
      ·go_simp
      simp only [Act.put,NK,NX,N0];refine bL (by kernel_rfl) ?_;intro w11 hb11;have OJ11:=OJ10.since (lo:=0) (Nr _) (ax.of hb11);have I11:Hid (cP wp R rv w11):=I10.dX hn I10.size hb11;have CW11:=hCC _ _ CW10 hb11;have p11:=(hb11.block _ (ae p10)).trans p10;have nb11:Hid (∀ g,v'.ownBlock=some g→g≠wl.heap.size):=nb10;clear I10 OJ10 CW10 p10 hb11 g10 b10 nb10;go_wp2
      go_roundw
      case rel=>exact ⟨m+1,by omega,by go_num,by rw [HT2.out,HH.out,if_pos rfl,← Pf]; exact OJ11,I11,p11,CW11.1,nb11⟩
      case measure=>simp [intOf]; omega
     ·have hh:bF x (l[k].1 ++ r[m].1)=false:=by simpa using hh
      rw [hh] at con;have HH:Hid (bF x (l[k].1 ++ r[m].1)=false):=hh;clear hh;go_wp2_with fail
      refine con.mono ?_;rintro e w1 ⟨rfl,I1,s1⟩;have HI1:Hid (cP wp R rv w1):=I1;have OB:=OA.since (by omega) s1;have pB:=(s1.2 w.heap.size (by omega) (by omega)).trans pA;have q5B:=(s1.2 wl.heap.size (by omega) (by omega)).trans q5A;clear con I1 s1 OA pA q5A q7A x2 y0 hal;dsimp only;go_wp2
      go_roundw
      case rel=>exact ⟨m+1,by omega,by go_num,by rw [HT2.out,HH.out,if_neg (by decide),OG]; exact OB,HI1,pB,q5B,hnb⟩
      case measure=>simp [intOf]; omega
    ·have e:m=r.length:=by omega
     subst e;rw [NL] at HO;have HO':j4 (w.heap.size+1) wr u3 (bH x (l.take (k+1)) r):=by rw [HT.out]; exact HO
     go_wp2
     go_roundw
     case rel=>exact ⟨k+1,by omega,by go_num,HO',HI,hp⟩
     case measure=>simp [intOf]; omega
  ·have e:k=l.length:=by omega
   subst e;rw [NL] at HO;obtain ⟨av,cv,rfl⟩:=HO.slice;go_wp2
   go_ret;exact ⟨_,rfl,HO,HI.out,NV (ae hp)⟩
theorem Kl {a b:Int} (h1:-1000000≤a) (h2:a≤1000000) (h3:-1000000≤b) (h4:b≤1000000):-1000000000000≤a*b∧a*b≤1000000000000:=by
 have ha:a.natAbs≤1000000:=by omega
 have hb:b.natAbs≤1000000:=by omega
 have:=Nat.mul_le_mul ha hb;rw [← Int.natAbs_mul] at this;omega
theorem dB.dX {cols:List Int} {x:Ex} {w0 wp W:World} {a b:Option Addr} {ca cb:Nat} {l r:List Zp} {v:Value} {R rv:Nat} (h:dB cols x w0 wp a b ca cb l r v R rv) (hI:cP wp R rv wp) (hb:Below wp.heap.size wp W):dB cols x w0 W a b ca cb l r v R rv∧cP W R rv W:=by
 obtain ⟨lo,wc,hv,u,e,hn,h2,h3,h4,h5,h6,h7,h8⟩:=h;have hr:=hn.r;have hrv:=hn.v;have hI':=hI.dX hn (Nj _) hb;have z:=hb.size;exact ⟨⟨lo,wc,hv,u,e,⟨hr,by omega⟩,h2,(hb.cell (p:=⟨hv,0,none⟩) (by show hv<_; omega)).trans h3,h4,h5,h6.trans (ax.of hb),h7,chain h8 hb⟩,⟨rfl,rfl,rfl,Nj _,fun _ _ _ _=>rfl,hI'.var,hI'.Fy,hI'.room⟩⟩
theorem dB.down {cols:List Int} {x:Ex} {w w0 wp:World} {a b:Option Addr} {ca cb:Nat} {l r:List Zp} {v:Value} {R rv:Nat} (h:dB cols x w0 wp a b ca cb l r v R rv) (hb:Below w.heap.size w w0):dB cols x w wp a b ca cb l r v R rv:=by
 obtain ⟨lo,wc,hv,u,e,hn,h2,h3,h4,h5,h6,h7,h8⟩:=h;exact ⟨lo,wc,hv,u,e,hn,h2,h3,h4,h5,h6,Nw hb.size h7,chain hb h8⟩
theorem nH {left right:List Int} {x:Ex} {l r:List Zp} (h:ow left right x l r):nM (left ++ right) l r where
 ll:=iD h.left
 rl:=iD h.right
 row p hp q hq:=by
  have h1:=(h.left.fit p hp).len;have h2:=(h.right.fit q hq).len;have:=h.len;omega
 fit p hp q hq:=tN (h.left.fit p hp) (h.right.fit q hq)
 mul p hp q hq:=by
  have h1:=nm h.left p hp;have h2:=nm h.right q hq;rw [gr] at h1 h2;exact Kl h1.1 h1.2 h2.1 h2.2
theorem Cu {left right:List Int} {x:Ex} {l r:List Zp} (h:ow left right x l r):(bH x l r).length≤160000∧∀ y ∈ bH x l r,uh y.2=true∧y.1.length≤8:=by
 have hq:=nH h;refine ⟨Nw (pq x l r) (Nat.mul_le_mul hq.ll hq.rl),fun y hy=>?_⟩;unfold bH at hy;obtain ⟨p,hp,hy⟩:=List.mem_flatMap.1 hy;unfold cS at hy;obtain ⟨q,hq',rfl⟩:=List.mem_map.1 hy;have hq'':=(List.mem_filter.1 hq').1;have h1:=hq.row p hp q hq'';exact ⟨(lP _).2 (hq.mul p hp q hq''),by simpa using h1⟩
theorem Jd {left right:List Int} {x:Ex} {l r:List Zp} (what:Nat) (h:ow left right x l r):(fP what right.length x l r).length≤200000∧∀ y ∈ fP what right.length x l r,uh y.2=true∧y.1.length≤8:=by
 have hj:=Cu h;have hl:=iD h.left;have one:∀ y ∈ l,uh y.2=true∧y.1.length≤8:=fun y hy=>⟨ov (nm h.left y hy),LG h.left y hy⟩
 unfold fP
 split
 ·exact ⟨by omega,hj.2⟩
 split
 ·refine ⟨Nw (Oi _ _) (by omega),fun y hy=>one y (List.mem_filter.1 hy).1⟩
 split
 ·refine ⟨Nw (Oi _ _) (by omega),fun y hy=>one y (List.mem_filter.1 hy).1⟩
 ·have ha:(ir x l r).length≤l.length:=Oi _ _;refine ⟨?_,fun y hy=>?_⟩
  ·unfold pR gJ;rw [Nx,Od];omega
  ·rcases List.mem_append.1 hy with hy | hy
   ·exact hj.2 y hy
   ·obtain ⟨p,hp,rfl⟩:=List.mem_map.1 hy;have hp':=(List.mem_filter.1 hp).1;have h1:=(h.left.fit p hp').len;have h2:=h.len;refine ⟨(one p hp').1,?_⟩;simp only [Nx,gy,List.length_replicate];omega
theorem kG (what:Nat) (g:Nat) (cbs:Array Value) (left right:List Int) (x:Ex) (la:Option Addr) (lcap:Nat) (ra:Option Addr) (rcap:Nat) (xa:Option Addr) (xcap:Nat) (a:Option Addr) (ca:Nat) (l:List Zp) (b:Option Addr) (cb:Nat) (r:List Zp) (w:World)
  (hcl:bc w.heap.size w la left) (hcr:bc w.heap.size w ra right) (hx:bd w.heap.size w xa x.ks) (h:aL w a l) (h':aL w b r) (hll:left.length≤100000000000000) (hrl:right.length≤100000000000000)
  (eg:∀ args w,(callFunc g args).run Tryz.prog w = .ok (.enter g args) w)
  (hcall:∀ (W:World) (v:Value) (R rv:Nat),dB (left ++ right) x w W a b ca cb l r v R rv→cP W R rv W→ow left right x l r→Calls Tryz.prog g (#[v] ++ cbs) W fun e w'=>∃ ua uc,e = .returned (.slice ua (fP what right.length x l r).length uc)∧aL w' ua (fP what right.length x l r)∧Below w.heap.size w w') :
  Calls Tryz.prog 127 #[.slice la left.length lcap,.slice ra right.length rcap,lC x.k x.v x.c xa x.ks.length xcap,.slice a l.length ca,.slice b r.length cb,.func (.func g) #[] cbs] w fun e w'=>∃ v,e = .returned (.tuple #[v,.int .i64 (bY what left right x l r)])∧bZ w.heap.size w' v (dg what left right x l r)∧Below w.heap.size w w':=by
 have h1:=aa w (.cells (ig x xa xcap) 27);have con:=En left right x la lcap ra rcap xa xcap a ca l b cb r (w.alloc (.cells (ig x xa xcap) 27)) ((hcl.next h1 (Nj _)).up h1.size) ((hcr.next h1 (Nj _)).up h1.size) ((bd.next h1 (Nj _) hx).up h1.size) (h.next h1) (h'.next h1) hll hrl
 have HC:Hid (∀ (W:World) (v:Value) (R rv:Nat),dB (left ++ right) x w W a b ca cb l r v R rv→cP W R rv W→ow left right x l r→Calls Tryz.prog g (#[v] ++ cbs) W fun e w'=>∃ ua uc,e = .returned (.slice ua (fP what right.length x l r).length uc)∧aL w' ua (fP what right.length x l r)∧Below w.heap.size w w'):=hcall;clear hcall;generalize hfz:dg what left right x l r=fz;generalize hfe:bY what left right x l r=fe;have HZ:Hid (dg what left right x l r=fz):=hfz;have HF:Hid (bY what left right x l r=fe):=hfe;clear hfz hfe;by_cases ht:jH left right x l r=0
 ·rw [ht] at con;have HT:=(wi left right x l r).1 ht;have H2:Hid (jH left right x l r=0):=ht;clear ht;go_enter Tryz.func127,Tryz.ntmps127;go_wp2_with fail
  generalize w.alloc (.cells (ig x xa xcap) 27)=w1 at *;refine con.mono ?_;rintro e w2 ⟨v2,rfl,hor,hb2⟩;have PO:qW (left ++ right) x w1 w2 a b ca cb l r v2:=by
   rcases hor with ⟨_,h⟩ | ⟨c,_⟩
   ·exact h
   ·exact absurd trivial c
  clear hor;obtain ⟨R,rv,PI,I2⟩:=PO.M9;have PI:=PI.down h1;clear con PO;have hv2:∃ hv,v2 = .agg #[.slice a l.length ca,.slice b r.length cb,.func (.func 219) #[] #[.pointer (some ⟨rv,0,none⟩),.pointer (some ⟨hv,0,none⟩)]]:=by obtain ⟨_,_,hv,_,e,_⟩:=PI; exact ⟨hv,e⟩
  obtain ⟨hv,rfl⟩:=hv2;have hal2:=aa w2 (.cells #[.slice a l.length ca,.slice b r.length cb,.func (.func 219) #[] #[.pointer (some ⟨rv,0,none⟩),.pointer (some ⟨hv,0,none⟩)]] 162);obtain ⟨PI3,I3⟩:=PI.dX I2 hal2;have con:=HC.out _ _ R rv PI3 I3 HT;have hn:=Jd what HT;have H3:Hid (ow left right x l r):=HT;clear HT PI PI3 I3 I2 hal2;dsimp only;go_wp2_with fail
  generalize w2.alloc (.cells #[.slice a l.length ca,.slice b r.length cb,.func (.func 219) #[] #[.pointer (some ⟨rv,0,none⟩),.pointer (some ⟨hv,0,none⟩)]] 162)=w3 at *;refine con.mono ?_;rintro e w4 ⟨a4,c4,rfl,zs4,hb4⟩;clear con;have con:=ep a4 c4 (fP what right.length x l r) w4 zs4 hn.1 (fun y hy=>(hn.2 y hy).1) (fun y hy=>(hn.2 y hy).2);have e0:bY what left right x l r=aH (fP what right.length x l r):=by unfold bY; rw [H2.out,if_neg (by simp)]
  have e1:bg (fP what right.length x l r)=fz:=by rw [← HZ.out]; unfold dg bg; rw [e0]
  rw [← e0,HF.out,e1] at con;clear e0 e1 zs4 hn;generalize (fP what right.length x l r).length=nl at *;dsimp only;go_wp2_with fail
  refine con.mono ?_;rintro e w5 ⟨v5,rfl,O5,hb5⟩;have O5':=O5.mono hb4.size;obtain ⟨a5,c5,rfl,_⟩:=O5.zs;clear con O5;dsimp only;go_wp2
  exact Nl (v:=.tuple #[.slice a5 fz.length c5,.int .i64 fe]) (by simp [results,Tryz.results127,go_sem]) rfl ⟨_,rfl,O5',chain hb4 hb5⟩
 ·have e0:fe=jH left right x l r:=by rw [← HF.out]; unfold bY; rw [if_pos ht]
  have e1:fz = []:=by rw [← HZ.out]; unfold dg; rw [if_neg (by rw [HF.out,e0]; exact ht)]
  rw [← e0] at con ht;have hne:(fe != 0)=true:=by simpa using ht
  subst e1;clear e0;go_enter Tryz.func127,Tryz.ntmps127;go_wp2_with fail
  generalize w.alloc (.cells (ig x xa xcap) 27)=w1 at *;refine con.mono ?_;rintro e w2 ⟨v2,rfl,hor,hb2⟩;obtain ⟨c,_⟩ | ⟨_,rfl⟩:=hor
  ·exact absurd c ht
  clear con;dsimp only;go_wp2
  exact Nl (v:=.tuple #[.slice none 0 0,.int .i64 fe]) (by simp [results,Tryz.results127,go_sem]) rfl ⟨_,rfl,⟨[],by simpa using NP _ _ _ _,⟨rfl,fun i hi=>by simp at hi⟩⟩,(chain h1 hb2).alloc (by have:=(chain h1 hb2).size; omega) _⟩
theorem Cf (left right:List Int) (x:Ex) (la:Option Addr) (lcap:Nat) (ra:Option Addr) (rcap:Nat) (xa:Option Addr) (xcap:Nat) (a:Option Addr) (ca:Nat) (l:List Zp) (b:Option Addr) (cb:Nat) (r:List Zp) (w:World)
  (hcl:bc w.heap.size w la left) (hcr:bc w.heap.size w ra right) (hx:bd w.heap.size w xa x.ks) (h:aL w a l) (h':aL w b r) (hll:left.length≤100000000000000) (hrl:right.length≤100000000000000) :
  Calls Tryz.prog 99 #[.slice la left.length lcap,.slice ra right.length rcap,lC x.k x.v x.c xa x.ks.length xcap,.slice a l.length ca,.slice b r.length cb] w fun e w'=>∃ v,e = .returned (.tuple #[v,.int .i64 (bY 0 left right x l r)])∧bZ w.heap.size w' v (dg 0 left right x l r)∧Below w.heap.size w w':=by
 have h1:=aa w (.cells (ig x xa xcap) 27);have zs1:=h.next h1;have zs1':=h'.next h1;have con:=kG 0 128 #[] left right x la lcap ra rcap xa xcap a ca l b cb r (w.alloc (.cells (ig x xa xcap) 27)) ((hcl.next h1 (Nj _)).up h1.size) ((hcr.next h1 (Nj _)).up h1.size) ((bd.next h1 (Nj _) hx).up h1.size) zs1 zs1' hll hrl (enters_of Tryz.func128 (by kernel_rfl) rfl) (fun W v R rv hP hI hT=>by
  refine (vw (left ++ right) x _ W W a b ca cb l r v R rv hP hI zs1 zs1' (nH hT)).mono ?_;rintro e w' ⟨u,rfl,OJ,I',z'⟩;obtain ⟨_,_,_,_,_,hn,_,_,_,_,_,hR,hB⟩:=hP;obtain ⟨ua,uc,rfl,zu⟩:=OJ.z.zs;exact ⟨ua,uc,rfl,zu,hB.trans ((I'.below hn).mono hR)⟩)
 generalize hfz:dg 0 left right x l r=fz at *;generalize hfe:bY 0 left right x l r=fe at *;clear hfz hfe;go_enter Tryz.func99,Tryz.ntmps99;go_wp2_with fail
 generalize w.alloc (.cells (ig x xa xcap) 27)=w1 at *;refine con.mono ?_;rintro e w2 ⟨v2,rfl,O2,hb2⟩;have O2':=O2.mono h1.size;obtain ⟨a2,c2,rfl,_⟩:=O2.zs;clear con O2;dsimp only;go_wp2
 exact Nl (v:=.tuple #[.slice a2 fz.length c2,.int .i64 fe]) (by simp [results,Tryz.results99,go_sem]) rfl ⟨_,rfl,O2',chain h1 hb2⟩
def nR (p:Zp→Bool):Nat→List Zp→Int
 | _,[]=>-1
 | k,y :: r=>if p y then k else nR p (k+1) r
theorem yf (p:Zp→Bool):∀ (k:Nat) (l:List Zp),decide (0≤nR p k l)=l.any p
 | _,[]=>rfl
 | k,y :: r=>by
  rw [nR,List.any_cons,← yf p (k+1) r]
  cases p y <;> simp
theorem Ej (p:Zp→Bool) {l:List Zp} {k:Nat} (h:k<l.length):nR p k (l.drop k)=if p l[k] then (k:Int) else nR p (k+1) (l.drop (k+1)):=by
 rw [Nq h,nR]
theorem FM (g:Nat) (cb:Array Value) (p:Zp→Bool) (a:Option Addr) (cap:Nat) (l:List Zp) (w0 w:World) (Inv:World→Prop) (h:aL w0 a l) (hl:l.length≤100000)
  (eg:∀ args w,(callFunc g args).run Tryz.prog w = .ok (.enter g args) w) (hI0:Inv w) (hI1:∀ W,Inv W→Below w0.heap.size w0 W)
  (hcall:∀ x ∈ l,∀ (ra:Option Addr) (rc:Nat) (W:World),Inv W→aM w0 ra x.1→w.heap.size≤W.heap.size→Calls Tryz.prog g (#[.agg #[.slice ra x.1.length rc,.int .i64 x.2]] ++ cb) W fun e w'=>e = .returned (.bool (p x))∧Inv w'∧w.heap.size≤w'.heap.size) :
  Calls Tryz.prog 220 #[.slice a l.length cap,.func (.func g) #[] cb] w fun e w'=>e = .returned (.int .i64 (nR p 0 l))∧Inv w'∧w.heap.size≤w'.heap.size:=by
 have HC:Hid (∀ x ∈ l,∀ (ra:Option Addr) (rc:Nat) (W:World),Inv W→aM w0 ra x.1→w.heap.size≤W.heap.size→Calls Tryz.prog g (#[.agg #[.slice ra x.1.length rc,.int .i64 x.2]] ++ cb) W fun e w'=>e = .returned (.bool (p x))∧Inv w'∧w.heap.size≤w'.heap.size):=hcall;have H1:Hid (∀ W,Inv W→Below w0.heap.size w0 W):=hI1;clear hcall hI1;generalize hf:nR p 0 l=f;have HF:Hid (nR p 0 l=f):=hf;clear hf;go_enter Tryz.func220,Tryz.ntmps220;go_wp2_with fail
 go_loopw [8] (fun i wr=>∃ k:Nat,k≤l.length∧i = .int .i64 k∧Hid (f=nR p k (l.drop k))∧Hid (Inv wr)∧w.heap.size≤wr.heap.size) (fun i _=>l.length - (intOf i).toNat)
 case atStart=>exact ⟨0,Nr _,rfl,HF.out.symm,hI0,Nj _⟩
 case round =>
  clear hI0;obtain ⟨k,hk,rfl,HK,HI,hz⟩:=hrel;by_cases hlt:k<l.length
  ·obtain ⟨b,off,rfl,hbl,d1,ar,cr,d0,sr⟩:=h.elem hlt;have hB:=H1.out _ HI.out;have c1:=(hB.cell (p:=⟨b,_,none⟩) hbl).trans d1;have c0:=(hB.cell (p:=⟨b,_,none⟩) hbl).trans d0;have con:=HC.out l[k] (Ns hlt) ar cr wr HI.out sr hz;have HD:Hid (nR p k (l.drop k)=if p l[k] then (k:Int) else nR p (k+1) (l.drop (k+1))):=Ej p hlt;clear d0 d1 sr;by_cases hp:p l[k]=true
   ·rw [hp] at con;have HP:Hid (p l[k]=true):=hp;clear hp;have e:f=(k:Int):=by rw [HK.out,HD.out,HP.out,if_pos rfl]
    go_wp2_with (go_at_fn g; refine con.mono ?_; rintro e w1 ⟨rfl,I1,s1⟩)
    go_ret;exact ⟨by rw [e]; rfl,I1,s1⟩
   ·have hp:p l[k]=false:=by simpa using hp
    rw [hp] at con;have HP:Hid (p l[k]=false):=hp;clear hp;have HE:Hid (f=nR p (k+1) (l.drop (k+1))):=by show f=_; rw [HK.out,HD.out,HP.out,if_neg (by decide)]
    go_wp2_with (go_at_fn g; refine con.mono ?_; rintro e w1 ⟨rfl,I1,s1⟩)
    have HI1:Hid (Inv w1):=I1;clear con I1;go_roundw
    case rel=>exact ⟨k+1,by omega,by go_num,HE,HI1,s1⟩
    case measure=>simp [intOf]; omega
  ·have e:k=l.length:=by omega
   subst e;have e:f = -1:=by rw [HK.out,List.drop_length]; rfl
   go_wp2
   go_ret;exact ⟨by rw [e]; rfl,HI.out,hz⟩
theorem yG (g:Nat) (cb:Array Value) (p:Zp→Bool) (a:Option Addr) (cap:Nat) (l:List Zp) (w0 w:World) (Inv:World→Prop) (h:aL w0 a l) (hl:l.length≤100000)
  (eg:∀ args w,(callFunc g args).run Tryz.prog w = .ok (.enter g args) w) (hI0:Inv w) (hI1:∀ W,Inv W→Below w0.heap.size w0 W)
  (hcall:∀ x ∈ l,∀ (ra:Option Addr) (rc:Nat) (W:World),Inv W→aM w0 ra x.1→w.heap.size≤W.heap.size→Calls Tryz.prog g (#[.agg #[.slice ra x.1.length rc,.int .i64 x.2]] ++ cb) W fun e w'=>e = .returned (.bool (p x))∧Inv w'∧w.heap.size≤w'.heap.size) :
  Calls Tryz.prog 194 #[.slice a l.length cap,.func (.func g) #[] cb] w fun e w'=>e = .returned (.bool (l.any p))∧Inv w'∧w.heap.size≤w'.heap.size:=by
 have con:=FM g cb p a cap l w0 w Inv h hl eg hI0 hI1 hcall;have ha:=yf p 0 l;generalize nR p 0 l=f at *;rw [← ha];clear hcall hI1 hI0 ha;go_enter Tryz.func194,Tryz.ntmps194;go_wp2_with fail
 refine con.mono ?_;rintro e w1 ⟨rfl,I1,s1⟩;have H1:Hid (Inv w1):=I1;clear con I1;go_wp2
 go_ret;exact ⟨rfl,H1.out,s1⟩
theorem rW (ra:Option Addr) (n rc:Nat) (x:Int) (w:World) :
  Calls Tryz.prog 157 #[.agg #[.slice ra n rc,.int .i64 x]] w fun e w'=>e = .returned (.bool (decide (0<x)))∧Below w.heap.size w w':=by
 go_enter Tryz.func157,Tryz.ntmps157;go_wp2
 go_ret;exact ⟨rfl,(Nk _ _).alloc (Nj _) _⟩
theorem xy (cols:List Int) (lo:Nat) (x:Ex) (wc wp w0:World) (R rv hv:Nat) (u:Value) (hn:pG wp R rv) (hv0:hv<R) (hc:wp.cell? ⟨hv,0,none⟩=some u) (hC:jU cols lo u x wc) (hcR:wc.heap.size≤R) (hcp:ax lo wc wp) (h0:w0.heap.size≤R) (h0p:Below w0.heap.size w0 wp)
  (a b:Option Addr) (ca cb:Nat) (l r:List Zp) (pb lb:Nat) (pa qa:Option Addr) (pc qc:Nat) (y q:Zp) (W:World) (hI:cP wp R rv W) (sy:aM w0 pa y.1) (sq:aM w0 qa q.1) (h8:y.1.length+q.1.length≤8) (hf:cL cols (y.1 ++ q.1))
  (cp:W.heap[pb]? = some (.cells #[.slice a l.length ca,.slice b r.length cb,.func (.func 219) #[] #[.pointer (some ⟨rv,0,none⟩),.pointer (some ⟨hv,0,none⟩)]] 162 (0,0))) (cl:W.heap[lb]? = some (.cells #[.slice pa y.1.length pc,.int .i64 y.2] 58 (0,0))) :
  Calls Tryz.prog 195 #[.agg #[.slice qa q.1.length qc,.int .i64 q.2],.pointer (some ⟨pb,0,none⟩),.pointer (some ⟨lb,0,none⟩)] W fun e w'=>e = .returned (.bool (decide (0<q.2) && bF x (y.1 ++ q.1)))∧cP wp R rv w'∧ax (rv+1) W w':=by
 have h1:=aa W (.cells #[.slice qa q.1.length qc,.int .i64 q.2] 58);have q1:=aw W #[.slice qa q.1.length qc,.int .i64 q.2] 58;have p1:=(h1.block pb (ae cp)).trans cp;have l1:=(h1.block lb (ae cl)).trans cl;have I1:cP wp R rv (W.alloc (.cells #[.slice qa q.1.length qc,.int .i64 q.2] 58)):=hI.dX hn hI.size h1;have e1:(W.alloc (.cells #[.slice qa q.1.length qc,.int .i64 q.2] 58)).heap.size=W.heap.size+1:=by simp
 have hrv:=hI.sz hn;generalize hans:(decide (0<q.2) && bF x (y.1 ++ q.1))=ans;have HA:Hid ((decide (0<q.2) && bF x (y.1 ++ q.1))=ans):=hans;clear hans;go_enter Tryz.func195,Tryz.ntmps195;go_wp2_with fail
 generalize W.alloc (.cells #[.slice qa q.1.length qc,.int .i64 q.2] 58)=w1 at *;refine (rW qa q.1.length qc q.2 w1).mono ?_;rintro e w2 ⟨rfl,hb2⟩;have q2:=(hb2.block _ (ae q1)).trans q1;have p2:=(hb2.block _ (ae p1)).trans p1;have l2:=(hb2.block _ (ae l1)).trans l1;have I2:=I1.dX hn I1.size hb2;have S2:ax (rv+1) W w2:=ax.of (chain h1 hb2);have k0:w2.cell? ⟨pb,2,none⟩=some (.func (.func 219) #[] #[.pointer (some ⟨rv,0,none⟩),.pointer (some ⟨hv,0,none⟩)]):=cell_of (i:=2) p2 rfl
 have k1:w2.cell? ⟨lb,0,none⟩=some (.slice pa y.1.length pc):=cell_of (i:=0) l2 rfl;have k2:w2.cell? ⟨W.heap.size,0,none⟩=some (.slice qa q.1.length qc):=cell_of (i:=0) q2 rfl;have con:=zp cols lo x wc wp w0 R rv hv u hn hv0 hc hC hcR hcp h0 h0p pa qa pc qc y.1 q.1 w2 I2 sy sq h8 hf;generalize hhp:bF x (y.1 ++ q.1)=t at *;clear hhp;have HI2:Hid (cP wp R rv w2):=I2;clear q1 p1 l1 I1 q2 p2 l2 I2 hC hI cp cl;dsimp only;by_cases hq:0<q.2
 ·have hd:decide (0<q.2)=true:=by simpa using hq
  rw [hd];have ea:t=ans:=by rw [← HA.out,hd,Bool.true_and]
  subst ea;go_wp2_with fail
  refine con.mono ?_;rintro e w3 ⟨rfl,I3,S3⟩;have HI3:Hid (cP wp R rv w3):=I3;have S4:=S2.trans S3;clear con I3;dsimp only;go_wp2
  go_ret;exact ⟨rfl,HI3.out,S4⟩
 ·have hd:decide (0<q.2)=false:=by simpa using hq
  rw [hd];have ea:ans=false:=by rw [← HA.out,hd,Bool.false_and]
  subst ea;clear con;go_wp2
  go_ret;exact ⟨rfl,HI2.out,S2⟩
theorem oF (cols:List Int) (x:Ex) (w0 wp w:World) (a b:Option Addr) (ca cb:Nat) (l r:List Zp) (v:Value) (R rv:Nat) (hP:dB cols x w0 wp a b ca cb l r v R rv) (hI:cP wp R rv w) (zb:aL w0 b r) (hr:r.length≤400) (pa:Option Addr) (pc:Nat) (y:Zp) (sy:aM w0 pa y.1) (h8:∀ q ∈ r,y.1.length+q.1.length≤8) (hf:∀ q ∈ r,cL cols (y.1 ++ q.1)) :
  Calls Tryz.prog 162 #[v,.agg #[.slice pa y.1.length pc,.int .i64 y.2]] w fun e w'=>e = .returned (.bool (lg x r y.1))∧cP wp R rv w'∧ax (rv+1) w w':=by
 obtain ⟨lo,wc,hv,u,rfl,hn,hv0,hc,hC,hcR,hcp,h0,h0p⟩:=hP;have hrv:=hI.sz hn;have h1:=aa w (.cells #[.slice a l.length ca,.slice b r.length cb,.func (.func 219) #[] #[.pointer (some ⟨rv,0,none⟩),.pointer (some ⟨hv,0,none⟩)]] 162);have p1:=aw w #[.slice a l.length ca,.slice b r.length cb,.func (.func 219) #[] #[.pointer (some ⟨rv,0,none⟩),.pointer (some ⟨hv,0,none⟩)]] 162
 have e1:(w.alloc (.cells #[.slice a l.length ca,.slice b r.length cb,.func (.func 219) #[] #[.pointer (some ⟨rv,0,none⟩),.pointer (some ⟨hv,0,none⟩)]] 162)).heap.size=w.heap.size+1:=by simp
 generalize hans:lg x r y.1=t;have HA:Hid (lg x r y.1=t):=hans;clear hans;go_enter Tryz.func162,Tryz.ntmps162;go_wp2_with fail
 generalize w.alloc (.cells #[.slice a l.length ca,.slice b r.length cb,.func (.func 219) #[] #[.pointer (some ⟨rv,0,none⟩),.pointer (some ⟨hv,0,none⟩)]] 162)=w1 at *;have h2:=aa w1 (.cells #[.slice pa y.1.length pc,.int .i64 y.2] 58);have l2:=aw w1 #[.slice pa y.1.length pc,.int .i64 y.2] 58;have e2:(w1.alloc (.cells #[.slice pa y.1.length pc,.int .i64 y.2] 58)).heap.size=w1.heap.size+1:=by simp
 have p2:=(h2.block _ (ae p1)).trans p1;generalize w1.alloc (.cells #[.slice pa y.1.length pc,.int .i64 y.2] 58)=w2 at *;rw [e1] at l2;have I2:cP wp R rv w2:=hI.dX hn hI.size (chain h1 h2);refine (yG 195 #[.pointer (some ⟨w.heap.size,0,none⟩),.pointer (some ⟨w.heap.size+1,0,none⟩)] (fun q=>decide (0<q.2) && bF x (y.1 ++ q.1)) b cb r w0 w2 (fun W=>cP wp R rv W∧ax (rv+1) w2 W) zb (by omega) (enters_of Tryz.func195 (by kernel_rfl) rfl) ⟨I2,ax.refl _ _⟩ (fun W hW=>h0p.trans ((hW.1.below hn).mono h0)) ?_).mono ?_
 ·intro q hq qa qc W hW sq _;refine (xy cols lo x wc wp w0 R rv hv u hn hv0 hc hC hcR hcp h0 h0p a b ca cb l r w.heap.size (w.heap.size+1) pa qa pc qc y q W hW.1 sy sq (h8 q hq) (hf q hq) ((hW.2.2 w.heap.size (by omega) (by omega)).trans p2) ((hW.2.2 (w.heap.size+1) (by omega) (by omega)).trans l2)).mono ?_;rintro e w' ⟨rfl,I',S'⟩;exact ⟨rfl,⟨I',hW.2.trans S'⟩,by have:=hW.2.1; have:=S'.1; omega⟩
 rintro e w3 ⟨rfl,⟨I3,S3⟩,_⟩;have HI3:Hid (cP wp R rv w3):=I3;have S4:ax (rv+1) w w3:=(ax.of (chain h1 h2)).trans S3;have ha:(r.any fun q=>decide (0<q.2) && bF x (y.1 ++ q.1))=t:=HA.out;rw [ha];clear p1 p2 l2 I2 I3 ha hC hI;dsimp only;go_wp2
 go_ret;exact ⟨rfl,HI3.out,S4⟩
def F9 (w0 W:World) (xs:List Value) (l:List Kp):Prop:=xs.length=l.length*3∧∀ i (hi:i<l.length),∃ ka kc ra rc,xs[i*3]? = some (.slice ka l[i].1.length kc)∧xs[i*3+1]? = some (.slice ra l[i].2.1.length rc)∧xs[i*3+2]? = some (.int .i64 l[i].2.2)∧(aM W ka l[i].1∧gm W ka)∧aM w0 ra l[i].2.1
def py (w0:World) (base:Nat) (W:World) (v:Value) (l:List Kp):Prop:=∃ xs,W.ownsRow base 157 3 v l.length xs∧F9 w0 W xs l
theorem py.nil (w0:World) (base:Nat) (W:World):py w0 base W (.slice none 0 0) []:=⟨[],by simpa using NP _ _ _ _,rfl,fun i hi=>by simp at hi⟩
theorem F9.next {w0 W w1:World} {xs:List Value} {l:List Kp} (h:F9 w0 W xs l) (hb:Below W.heap.size W w1):F9 w0 w1 xs l:=by
 obtain ⟨h2,h3⟩:=h;refine ⟨h2,fun i hi=>?_⟩;obtain ⟨ka,kc,ra,rc,e0,e1,e2,⟨e3,e4⟩,e5⟩:=h3 i hi;exact ⟨ka,kc,ra,rc,e0,e1,e2,⟨e3.next hb,e4.next hb⟩,e5⟩
theorem py.next {w0 W w1:World} {base:Nat} {v:Value} {l:List Kp} (h:py w0 base W v l) (hb:Below W.heap.size W w1):py w0 base w1 v l:=by
 obtain ⟨xs,h1,h2⟩:=h;exact ⟨xs,aS h1 hb,h2.next hb⟩
theorem vZ {W w1:World} {base n:Nat} {v:Value} {xs:List Value} {a:Option Addr} {r:List Vl} (h:aM W a r) (ht:gm W a) (ho:W.ownsRow base 157 3 v n xs) (hg:W.grownBy w1 v.ownBlock):aM w1 a r∧gm w1 a:=by
 have key:∀ b off,a=some ⟨b,off,none⟩→w1.heap[b]? = W.heap[b]?:=by
  intro b off e;obtain ⟨c,z,h1⟩:=ht b off e;have hlt:b<W.heap.size:=ae h1;refine hg.block b hlt ?_;obtain ⟨_,⟨rfl,_⟩ | ⟨g,cap,cur,rfl,_,hh,_⟩⟩:=ho
  ·simp [Value.ownBlock]
  ·simp only [Value.ownBlock];intro e;injection e with e
   subst e;rw [hh] at h1;simp at h1
 refine ⟨⟨h.1,?_⟩,?_⟩
 ·rcases h.2 with h | ⟨b,off,e,hr,hlt⟩
  ·exact .inl h
  ·refine .inr ⟨b,off,e,fun i hi=>?_,Nn hlt hg.size⟩;have k:=key b off e;obtain ⟨c0,c1,c2⟩:=hr i hi;exact ⟨(NA (a:=⟨b,_,none⟩) k).trans c0,(NA (a:=⟨b,_,none⟩) k).trans c1,(NA (a:=⟨b,_,none⟩) k).trans c2⟩
 ·intro b off e;obtain ⟨c,z,h1⟩:=ht b off e;exact ⟨c,z,(key b off e).trans h1⟩
theorem py.push {w0 W w1:World} {base:Nat} {v v':Value} {xs:List Value} {l:List Kp} {ka ra:Option Addr} {kc rc:Nat} {x:Kp}
  (ho:W.ownsRow base 157 3 v l.length xs) (he:F9 w0 W xs l) (hs:aM W ka x.1) (ht:gm W ka) (hr:aM w0 ra x.2.1)
  (ho':w1.ownsRow base 157 3 v' (l.length+1) (xs ++ [.slice ka x.1.length kc,.slice ra x.2.1.length rc,.int .i64 x.2.2])) (hg:W.grownBy w1 v.ownBlock):py w0 base w1 v' (l ++ [x]):=by
 have lx:=he.1;refine ⟨_,by simpa using ho',by simp [he.1]; omega,?_⟩;intro i hi;by_cases hi':i<l.length
 ·obtain ⟨ka',kc',ra',rc',h1,h2,h3,⟨h4,h5⟩,h6⟩:=he.2 i hi';have g:=vZ h4 h5 ho hg;rw [Ny hi'];exact ⟨ka',kc',ra',rc',by rw [NC (by omega),h1],by rw [NC (by omega),h2],by rw [NC (by omega),h3],g,h6⟩
 ·have:i=l.length:=by simp at hi; omega
  subst this;have g:=vZ hs ht ho hg;refine ⟨ka,kc,ra,rc,?_,?_,?_,?_,?_⟩
  ·rw [NG (by omega)]; simp [lx]
  ·rw [NG (by omega)]; simp [lx]
  ·rw [NG (by omega)]; simp [lx]
  ·simpa using g
  ·simpa using hr
theorem A6 {xs:List Ex} {m:List Zp} {k:Nat} (h:k<m.length):((m.take (k+1)).map fun p=>(dV xs p.1,p))=((m.take k).map fun p=>(dV xs p.1,p)) ++ [(dV xs m[k].1,m[k])]:=by
 rw [Nz h,Om]; rfl
theorem L8:(Tryz.prog.info? 157).map (fun i=>(i.zero,i.size,i.bytes))=some (some (.agg #[.slice none 0 0,.slice none 0 0,.int .i64 0]),3,56):=by kernel_rfl
theorem py.arr {w0 W:World} {base:Nat} {v:Value} {l:List Kp} (h:py w0 base W v l) (hb:Below w0.heap.size w0 W) (hbs:w0.heap.size≤base):(l = []∧v = .slice none 0 0)∨∃ (g cap:Nat) (d:Array (Kg W g)),v = .slice (some ⟨g,0,none⟩) l.length cap∧base≤g∧g<W.heap.size∧d.size=l.length∧d.toList.map (Lm W g)=l∧Go.Sort.HoldsK (nr W g) 3 W g 0 d:=by
 obtain ⟨xs,h1,h2,h3⟩:=h;have h1':=h1;obtain ⟨hx,⟨rfl,h0⟩ | ⟨g,cap,cur,rfl,hg,hh,hn,hc,hs,ht⟩⟩:=h1
 ·exact .inl ⟨Nu h0,rfl⟩
 ·right;have offK:∀ a r,gm W a→Md g a r:=fun a r ha=>.inr fun b off e hbg=>by
   obtain ⟨c,z,h1⟩:=ha b off e;rw [hbg,hh] at h1;simp at h1
  have offR:∀ a r,aM w0 a r→Md g a r:=fun a r ha=>by
   rcases ha.2 with e | ⟨b,o,e,hr,hlt⟩
   ·exact .inl e
   ·exact .inr fun b' o' e' hbg=>by
     rw [e] at e';have e':=NU e';injection e' with e1
     have:=(h1'.lt g rfl).1;omega
  obtain ⟨f,hf⟩:=Go.Deep.choose_lt (α:=Kg W g) (n:=l.length) (p:=fun i x=>∀ hi:i<l.length,Lm W g x=l[i]∧xs[i*3]? = some (.slice x.1.ka x.1.keys.length x.1.kc)∧xs[i*3+1]? = some (.slice x.1.ra x.1.row.length x.1.rc)∧xs[i*3+2]? = some (.int .i64 x.1.w)) (fun i hi=>by
   obtain ⟨ka,kc,ra,rc,e0,e1,e2,⟨e3,e4⟩,e5⟩:=h3 i hi;exact ⟨⟨⟨ka,kc,l[i].1,ra,rc,l[i].2.1,l[i].2.2⟩,⟨e3,offK _ _ e4⟩,e5.next hb,offR _ _ e5⟩,fun _=>⟨rfl,e0,e1,e2⟩⟩)
  have hd:∀ i,i<l.length→((Array.range l.length).map f)[i]! = f i:=fun i hi=>by simp [hi]
  refine ⟨g,cap,(Array.range l.length).map f,rfl,(h1'.lt g rfl).1,(h1'.lt g rfl).2,by simp,?_,?_⟩
  ·apply List.ext_getElem
   ·simp
   ·intro i g1 g2;have:=(hf i g2 g2).1
    simpa using this
  ·intro j hj;have hj':j<l.length*3:=by simpa using hj
   refine ⟨?_,by rw [Np]; exact h1'.frozenAt j⟩;have hi:j / 3<l.length:=by omega
   obtain ⟨_,g0,g1,g2⟩:=hf (j / 3) hi hi;rw [Np,h1'.cellAt j hj'];show _=some (Go.Sort.flatK (nr W g) 3 ((Array.range l.length).map f))[j]!;rw [Go.Sort.get_flatK _ _ _ _ (by simpa using hj'),hd _ hi];have h3':j % 3=0∨j % 3=1∨j % 3=2:=by omega
   rcases h3' with e | e | e
   ·rw [e]; rw [show j / 3*3=j by omega] at g0; rw [g0]; rfl
   ·rw [e]; rw [show j / 3*3+1=j by omega] at g1; rw [g1]; rfl
   ·rw [e]; rw [show j / 3*3+2=j by omega] at g2; rw [g2]; rfl
theorem C6 {w W:World} {g:Nat} {d:Array (Kg w g)} (hS:SWK (nr w g) 3 w g 0 d W) (hH:Go.Sort.HoldsK (nr w g) 3 W g 0 d) (hlt:g<W.heap.size):uk W (some ⟨g,0,none⟩) (d.toList.map (Lm w g)):=by
 refine .inr ⟨g,0,rfl,hlt,fun i hi=>?_⟩;have hi':i<d.size:=by simpa using hi
 have e:d[i]! = d[i]:=getElem!_pos d i hi';have h0:=(hH (i*3) (by simp; omega)).1;have h1:=(hH (i*3+1) (by simp; omega)).1;have h2:=(hH (i*3+2) (by simp; omega)).1;show LV W g (0+i*3) _;rw [Go.Sort.get_flatK _ _ _ _ (by omega),show i*3 / 3=i by omega,show i*3 % 3=0 by omega,e] at h0;rw [Go.Sort.get_flatK _ _ _ _ (by omega),show (i*3+1) / 3=i by omega,show (i*3+1) % 3=1 by omega,e,← Nat.add_assoc] at h1;rw [Go.Sort.get_flatK _ _ _ _ (by omega),show (i*3+2) / 3=i by omega,show (i*3+2) % 3=2 by omega,e,← Nat.add_assoc] at h2;simp only [Oe,OK]
 exact ⟨h2,⟨d[i].1.ra,d[i].1.rc,h1,mu d[i].2.2.1 d[i].2.2.2 hS⟩,d[i].1.ka,d[i].1.kc,h0,mu d[i].2.1.1 d[i].2.1.2 hS⟩
theorem Jf {W:World} {g:Nat} {d:Array (Kg W g)} (hH:Go.Sort.HoldsK (nr W g) 3 W g 0 d) (hlt:g<W.heap.size):RowK (nr W g) 3 W g 0 d where
 hk _:=rfl
 h1 x v hv:=by simp [nr] at hv; rcases hv with rfl | rfl | rfl <;> rfl
 hH:=hH
 hblk:=hlt
theorem ordered {W:World} {g:Nat} {d d':Array (Kg W g)} {xs:List Ex} {z:List Zp} (hz:fL z) (hd:d.toList.map (Lm W g)=j9 xs z) (hp:Go.Sort.PermIn 0 d.size d d') (hs:aN (KJ W g) (Ik W g) 0 d.size d'):d'.toList.map (Lm W g)=ba xs z:=by
 have hl:d'.size=d.size:=hp.1;refine qe _ _ ?_ ?_ (wP hz)
 ·refine List.Perm.trans ?_ ((kS xs z).symm);rw [← hd];refine List.Perm.map _ ?_;have:=hp.2.2;rw [Array.extract_eq_self_of_le (by omega),Array.extract_eq_self_of_le (by omega)] at this;exact this
 ·rw [List.pairwise_map,List.pairwise_iff_getElem];intro i j hi hj hij;have hi':i<d'.size:=by simpa using hi
  have hj':j<d'.size:=by simpa using hj
  have:=hs i j (Nr _) hij (by omega);rw [getElem!_pos d' i hi',getElem!_pos d' j hj'] at this;exact this
theorem Ka {W:World} {g:Nat} {d:Array (Kg W g)} {xs:List Ex} {z:List Zp} (hz:fL z) (hd:d.toList.map (Lm W g)=j9 xs z):xC (Ik W g) 0 d.size d:=fun i j _ hij hj=>by
 have hr:=sQ (xs:=xs) hz
 rw [← hd,List.pairwise_map,List.pairwise_iff_getElem] at hr
 have:=hr i j (by simpa using (by omega:i<d.size)) (by simpa using hj) hij
 rw [getElem!_pos d i (by omega),getElem!_pos d j hj]
 exact this
theorem Em (W:World) (g cap:Nat) (d:Array (Kg W g)) (xs:List Ex) (z:List Zp) (hz:fL z) (hl:d.size≤1000000) (hlt:g<W.heap.size) (hd:d.toList.map (Lm W g)=j9 xs z) (hH:Go.Sort.HoldsK (nr W g) 3 W g 0 d) (w0:World) (hw:w0.heap.size≤g) (hb:Below w0.heap.size w0 W) :
  Calls Tryz.prog 158 #[.slice (some ⟨g,0,none⟩) d.size cap,.func (.func 159) #[] #[]] W fun e w'=>e = .returned (.tuple #[])∧uk w' (some ⟨g,0,none⟩) (ba xs z)∧Below w0.heap.size w0 w':=by
 have R:=Jf hH hlt;have eg:∀ args w,(callFunc 159 args).run Tryz.prog w = .ok (.enter 159 args) w:=enters_of Tryz.func159 (by kernel_rfl) rfl
 have eSw:∀ args w,(callFunc 249 args).run Tryz.prog w = .ok (.enter 249 args) w:=enters_of Tryz.func249 (by kernel_rfl) rfl
 have eRo:∀ args w,(callFunc 241 args).run Tryz.prog w = .ok (.enter 241 args) w:=enters_of Tryz.func241 (by kernel_rfl) rfl
 have eSy:∀ args w,(callFunc 218 args).run Tryz.prog w = .ok (.enter 218 args) w:=enters_of Tryz.func218 (by kernel_rfl) rfl
 have eIn:∀ args w,(callFunc 217 args).run Tryz.prog w = .ok (.enter 217 args) w:=enters_of Tryz.func217 (by kernel_rfl) rfl
 have eSt:∀ args w,(callFunc 192 args).run Tryz.prog w = .ok (.enter 192 args) w:=enters_of Tryz.func192 (by kernel_rfl) rfl
 refine (uu 3 Tryz.L9 (nr W g) (CM W g) 159 #[] g 0 cap d W hl (SWK.start hH) (Ka hz hd) eIn eSy eSt (Lw W g 0 cap d R hl) (Gd 3 Tryz.L9 (nr W g) (KJ W g) (Ik W g) (CM W g) 159 #[] g 0 cap d W (by omega) eg (FJ W g 0 d.size) R eSw eRo eSy)).mono ?_;rintro e w' ⟨rfl,d',hp,hs,S⟩;refine ⟨rfl,?_,AB hb hw S⟩;rw [← ordered hz hd hp hs];exact C6 S (S.holds hlt hH hp.1) (S.lt hlt)
theorem An (cap:Nat) (w:World):Calls Tryz.prog 217 #[.slice none 0 cap,.int .i64 0,.int .i64 0,.func (.func 159) #[] #[]] w fun e w'=>e = .returned (.tuple #[])∧w'=w:=by
 go_enter Tryz.func217,Tryz.ntmps217;go_wp2
 refine wp_loop_rounds 1 ?_;rw [OZ];go_wp2
 go_end0
 exact ⟨rfl,rfl⟩
theorem tU (cap:Nat) (w:World):Calls Tryz.prog 192 #[.slice none 0 cap,.int .i64 0,.func (.func 159) #[] #[]] w fun e w'=>e = .returned (.tuple #[])∧w'=w:=by
 go_enter Tryz.func192,Tryz.ntmps192;go_wp2
 refine wp_loop_rounds 1 ?_;rw [OZ];go_wp2_with fail
 refine (An cap w).mono ?_;rintro e w1 ⟨rfl,rfl⟩;dsimp only;go_wp2
 refine wp_loop_rounds 1 ?_;rw [OZ];go_wp2
 go_end0
 exact ⟨rfl,rfl⟩
theorem zI (cap:Nat) (w:World):Calls Tryz.prog 158 #[.slice none 0 cap,.func (.func 159) #[] #[]] w fun e w'=>e = .returned (.tuple #[])∧Below w.heap.size w w':=by
 go_enter Tryz.func158,Tryz.ntmps158;go_wp2_with fail
 refine (tU cap w).mono ?_;rintro e w1 ⟨rfl,rfl⟩;dsimp only;go_wp2
 go_end0
 exact ⟨rfl,Nk _ _⟩
theorem rY (cols:List Int) (xs:List Ex) (u:Value) (lo:Nat) (a:Option Addr) (cap:Nat) (l:List Zp) (w:World) (hu:kj cols lo u xs w) (hz:eU cols l) (h:aL w a l) :
  Calls Tryz.prog 125 #[.slice a l.length cap,u] w fun e w'=>∃ a' c',e = .returned (.slice a' (ba xs l).length c')∧uk w' a' (ba xs l)∧Below w.heap.size w w':=by
 obtain ⟨i0,hi,hj0,hj1,hj2⟩:=info_parts L8;have hl:=iD hz;have hR:fL l:=((bD l).1 hz.set).2.2;obtain ⟨g,cb,rfl,eg,hd⟩:=hu;have HD:Hid (∀ (row:List Vl) (a:Option Addr) (cap:Nat) (W:World),cL cols row→aM W a row→ax lo w W→Calls Tryz.prog g (#[.slice a row.length cap] ++ cb) W fun e w'=>e = .returned (.slice (some ⟨W.heap.size,0,none⟩) xs.length xs.length)∧mT W.heap.size w' (dV xs row)∧Below W.heap.size W w'):=hd;have HO:Hid (eU cols l):=hz;have HR:Hid (fL l):=hR;clear hd hz hR
 have con:=oS 157 #[] (fun p=>decide (0<p.2)) a cap l w w (fun W=>Below w.heap.size w W) h (by omega) (enters_of Tryz.func157 (by kernel_rfl) rfl) (Nk _ _) (fun _ hW=>hW) (fun W W' hW hb=>hW.trans hb) (fun x _ ra rc W hW _ _=>by
  refine (rW ra x.1.length rc x.2 W).mono ?_;rintro e w' ⟨rfl,hb⟩;exact ⟨rfl,chain hW hb,(ax.of hb)⟩)
 generalize hm:(l.filter fun p=>decide (0<p.2))=m at con;have HM:Hid ((l.filter fun p=>decide (0<p.2))=m):=hm;have hml:m.length≤l.length:=by rw [← hm]; exact Oi _ _
 have HF:Hid (∀ p ∈ m,cL cols p.1):=fun p hp=>by
  rw [← HM.out] at hp;exact HO.out.fit p (List.mem_filter.1 hp).1
 clear hm;go_enter Tryz.func125,Tryz.ntmps125;go_wp2_with fail
 refine con.mono ?_;rintro e w1 ⟨v1,rfl,O1,hb1,z1⟩;clear con;obtain ⟨a1,c1,rfl,zs1,_⟩:=O1.zs hb1;clear O1;dsimp only;go_wp2_with fail
 go_loopw [5,11] (fun v i wr=>∃ k:Nat,k≤m.length∧i = .int .i64 k∧py w1 w1.heap.size wr v ((m.take k).map fun p=>(dV xs p.1,p))∧Below w1.heap.size w1 wr) (fun _ i _=>m.length - (intOf i).toNat)
 case atStart=>exact ⟨0,Nr _,rfl,py.nil _ _ _,Nk _ _⟩
 case round =>
  obtain ⟨k,hk,rfl,HK,hb⟩:=hrel;have hzr:=hb.size;by_cases hlt:k<m.length
  ·obtain ⟨b,off,rfl,hbl,d1,ar,cr,d0,sr⟩:=zs1.elem hlt;have c1':=(hb.cell (p:=⟨b,_,none⟩) hbl).trans d1;have c0':=(hb.cell (p:=⟨b,_,none⟩) hbl).trans d0;have hbl':b<wr.heap.size:=Nn hbl hzr;have HS:Hid (aM w1 ar m[k].1):=sr;have hal:=aa wr (.cells #[.slice ar m[k].1.length cr,.int .i64 m[k].2] 58);have q0:=aw wr #[.slice ar m[k].1.length cr,.int .i64 m[k].2] 58;have HT:Hid (((m.take (k+1)).map fun p=>(dV xs p.1,p))=((m.take k).map fun p=>(dV xs p.1,p)) ++ [(dV xs m[k].1,m[k])]):=A6 hlt
   have hfit:=HF.out m[k] (Ns hlt);have HFk:Hid (cL cols m[k].1):=hfit;have hrl:xs.length=(dV xs m[k].1).length:=by simp [dV]
   have HRL:Hid (xs.length=(dV xs m[k].1).length):=hrl;clear d0 d1 sr hfit hrl;go_wp2_with fail
   generalize hwa:wr.alloc (.cells #[.slice ar m[k].1.length cr,.int .i64 m[k].2] 58)=wa at *;clear hwa;have hCC:∀ W W':World,W.heap[wr.heap.size]? = some (.cells #[.slice ar m[k].1.length cr,.int .i64 m[k].2] 58 (0,0))→Below W.heap.size W W'→W'.heap[wr.heap.size]? = some (.cells #[.slice ar m[k].1.length cr,.int .i64 m[k].2] 58 (0,0)):=fun W W' h hb=>(hb.block _ (ae h)).trans h
   have hdr:Below wa.heap.size wa wa.drew:=(Nk _ _).drew;have CW:wa.drew.heap[wr.heap.size]? = some (.cells #[.slice ar m[k].1.length cr,.int .i64 m[k].2] 58 (0,0)):=hCC _ _ q0 hdr;refine aK (fun W=>W.heap[wr.heap.size]? = some (.cells #[.slice ar m[k].1.length cr,.int .i64 m[k].2] 58 (0,0))) (by kernel_rfl) ?_;refine ab hCC 15 (i:=0) (v:=u5) (fun n hn=>?_) CW ?_
   ·go_simp
   simp only [Act.put,pA,pB,pC];refine ab hCC 16 (i:=1) (v:=.func (.func g) #[] cb) (fun n hn=>?_) CW ?_
   ·go_simp
   simp only [Act.put,pA,pB,pC];refine ab hCC 17 (i:=2) (v:=.pointer (some ⟨wr.heap.size,0,none⟩)) (fun n hn=>?_) CW ?_
   ·go_simp
   simp only [Act.put,pA,pB,pC];refine ab hCC 18 (i:=3) (v:=.slice ar m[k].1.length cr) (fun n hn=>?_) CW ?_
   ·have hcell:n.cell? ⟨wr.heap.size,0,none⟩=some (.slice ar m[k].1.length cr):=cell_of (i:=0) hn rfl;go_simp
   simp only [Act.put,pA,pB,pC];refine ab hCC 20 (i:=5) (v:=.agg #[.slice ar m[k].1.length cr,.int .i64 m[k].2]) (fun n hn=>?_) CW ?_
   ·have hcell:n.cell? ⟨wr.heap.size,0,none⟩=some (.slice ar m[k].1.length cr):=cell_of (i:=0) hn rfl;have hcell1:n.cell? ⟨wr.heap.size,1,none⟩=some (.int .i64 m[k].2):=cell_of (i:=1) hn rfl;go_simp
   simp only [Act.put,pA,pB,pC];refine az (rs:=[4]) (by kernel_rfl) (by simp) ?_;intro w3 hb3 jj hj;obtain rfl:jj=4:=by simpa using hj
   clear hj;have D3:=chain (chain hal hdr) hb3;have B3:=chain hb D3;have CW3:=hCC _ _ CW hb3;have con:=HD.out m[k].1 ar cr w3 HFk.out (HS.out.next B3) (ax.of (chain hb1 B3));refine wpOp_step rfl (fun K hK=>?_);go_simp
   first | (refine con.mono ?_) | (go_at_fn g; refine con.mono ?_)
   rintro e w4 ⟨rfl,hRN,hb4⟩;have D4:=chain D3 hb4;have CW4:=hCC _ _ CW3 hb4;refine hK _ _ ⟨CW4,?_⟩;clear hK K con CW3;refine ab hCC 21 (i:=6) (v:=.agg #[.slice (some ⟨w3.heap.size,0,none⟩) xs.length xs.length,.slice ar m[k].1.length cr,.int .i64 m[k].2]) (fun n hn=>?_) CW4 ?_
   ·go_simp
   simp only [Act.put,pA,pB,pC];refine az (rs:=[7]) (by kernel_rfl) (by simp) ?_;intro w5 hb5 jj hj;obtain rfl:jj=7:=by simpa using hj
   clear hj;refine wpOp_step rfl (fun K hK=>?_);go_simp;have D5:=chain D4 hb5;have CW5:=hCC _ _ CW4 hb5;have hal5:=aa w5 (.cells #[.slice (some ⟨w3.heap.size,0,none⟩) xs.length xs.length,.slice ar m[k].1.length cr,.int .i64 m[k].2] 157);have q6:=aw w5 #[.slice (some ⟨w3.heap.size,0,none⟩) xs.length xs.length,.slice ar m[k].1.length cr,.int .i64 m[k].2] 157;have D6:=chain D5 hal5;have CW6:=hCC _ _ CW5 hal5;have S6:=(hRN.1.next hb5).next hal5;have T6:=(hRN.2.next hb5).next hal5;refine hK _ _ ⟨CW6,?_⟩
   clear hK K CW5 CW4 hRN;generalize hw6:w5.alloc (.cells #[.slice (some ⟨w3.heap.size,0,none⟩) xs.length xs.length,.slice ar m[k].1.length cr,.int .i64 m[k].2] 157)=w6 at *;clear hw6;refine az (rs:=[8]) (by kernel_rfl) (by simp) ?_;intro w7 hb7 jj hj;obtain rfl:jj=8:=by simpa using hj
   clear hj;have D7:=chain D6 hb7;have CW7:=hCC _ _ CW6 hb7;have S7:=S6.next hb7;have T7:=T6.next hb7;have q7:=(hb7.block _ (ae q6)).trans q6;obtain ⟨ys,o7,en7⟩:=HK.next D7;have zz:=D7.size;have hnb:∀ g',u5.ownBlock=some g'→g'<wr.heap.size∧w1.heap.size≤g':=fun g' hg'=>by
    obtain ⟨ys0,o0,_⟩:=HK;exact ⟨(o0.lt g' hg').2,(o0.lt g' hg').1⟩
   refine wpOp_step rfl (fun K hK=>?_);refine Eq.mpr (if_pos (by kernel_rfl)) ?_;refine dQ (some 23) rfl (Operand.tmp 15) (Operand.tmp 22) 151 rfl w1.heap.size 157 i0 _ 3 56 Tryz.underlying151 hi hj0 hj1 hj2 rfl (by decide) u5 _ ys rfl o7 ⟨w5.heap.size,0,none⟩ 1 1 [.slice (some ⟨w3.heap.size,0,none⟩) xs.length xs.length,.slice ar m[k].1.length cr,.int .i64 m[k].2] rfl rfl ?Ac1 ?Ac2 ?Ac3 ?Ac4 ?Ac5 ?_
   case Ac1 =>
    intro j u hj
    match j,hj with
    | 0,hj=>simp at hj; subst hj; exact cell_of (i:=0) q7 rfl
    | 1,hj=>simp at hj; subst hj; exact cell_of (i:=1) q7 rfl
    | 2,hj=>simp at hj; subst hj; exact cell_of (i:=2) q7 rfl
   case Ac2=>intro u hu; simp at hu; rcases hu with rfl | rfl | rfl <;> rfl
   case Ac3=>simp only [Od,NN]; unfold maxLen; omega
   case Ac4=>simp only [Od,NN]; omega
   case Ac5=>omega
   intro v' w8 o8 g8 _;have CW8:w8.heap[wr.heap.size]? = some (.cells #[.slice ar m[k].1.length cr,.int .i64 m[k].2] 58 (0,0)):=(g8.block _ (ae CW7) (fun e=>by have:=(hnb _ e.symm).1; omega)).trans CW7;have OK8:py w1 w1.heap.size w8 v' (((m.take k).map fun p=>(dV xs p.1,p)) ++ [(dV xs m[k].1,m[k])]):=py.push (kc:=xs.length) (rc:=cr) o7 en7 S7 T7 HS.out (by have:=HRL.out; rw [← this]; exact o8) g8;have b8:Below w1.heap.size w1 w8:=(hb.trans (D7.mono hzr)).trans ((Nk _ _).grown g8 (by omega) (fun q hq=>(hnb q hq).2));refine hK _ _ ⟨CW8,?_⟩
   clear hK K CW7 CW6 S7 T7 S6 T6 o7 en7 o8 D7 D6 D5 D4 D3 q6 q7 g8 HK;simp only [Act.put,pA,pB,pC];refine ab hCC 5 (i:=9) (v:=v') (fun n hn=>?_) CW8 ?_
   ·go_simp
   simp only [Act.put,pA,pB,pC];refine bL (by kernel_rfl) ?_;intro w9 hb9;have OK9:=OK8.next hb9;have b9:=chain b8 hb9;clear OK8 b8 CW8 hb9;go_wp2
   go_roundw
   case rel=>exact ⟨k+1,by omega,by go_num,by rw [HT.out]; exact OK9,b9⟩
   case measure=>simp [intOf]; omega
  ·have e:k=m.length:=by omega
   subst e;rw [NL] at HK;have hwk:(m.map fun p=>(dV xs p.1,p))=j9 xs l:=by unfold j9; rw [HM.out]
   rw [hwk] at HK;have hb':=chain hb1 hb;have hil:(ba xs l).length=(j9 xs l).length:=(kS xs l).length_eq;have hwl:=vN xs l;rcases HK.arr hb (Nj _) with ⟨hn,rfl⟩ | ⟨gb,kc,dd,rfl,hg1,hg2,hds,hdm,hH⟩
   ·have hio:ba xs l = []:=Nu (by rw [hil,hn]; rfl);have con:=zI 0 wr;clear HK;go_wp2_with fail
    refine con.mono ?_;rintro e w2 ⟨rfl,hb2⟩;clear con;dsimp only;go_wp2
    go_ret;exact ⟨none,0,by rw [hio]; rfl,.inl hio,chain hb' hb2⟩
   ·have con:=Em wr gb kc dd xs l HR.out (by omega) hg2 hdm hH w1 hg1 hb;rw [hds,← hil] at con;rw [← hil];clear HK hH hdm hil hwk hds;go_wp2_with fail
    refine con.mono ?_;rintro e w2 ⟨rfl,kd,hb2⟩;clear con;dsimp only;have HKD:Hid (uk w2 (some ⟨gb,0,none⟩) (ba xs l)):=kd;have hA:=hb1.trans (hb2.mono hb1.size);clear kd;go_wp2
    go_ret;exact ⟨_,_,rfl,HKD.out,hA⟩
end Go.Proofs.YtohjlfhmnmcndaaGreat
