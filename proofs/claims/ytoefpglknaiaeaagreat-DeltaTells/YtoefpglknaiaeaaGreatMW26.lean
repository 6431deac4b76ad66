import Derived.Test.YtoefpglknaiaeaaGreatMW25
set_option maxHeartbeats 16000000
set_option maxRecDepth 100000
namespace Go.Proofs.YtoefpglknaiaeaaGreat
open Go.Lib Go.RowKit Go.Shelf _root_.Go.Proofs.Tryz
theorem addr_zero (g i:Nat):((ah g 0):Addr).add i=⟨g,i,none⟩:=by
 unfold Addr.add;by_cases h:i=0 <;> simp [h]
def IsSl (u:Value):Prop:=∃ a n c,u=Value.slice a n c
def AllS (W:World) (g:Nat):Prop:=∃ (cur:Array Value) (T:TypeId),W.heap[g]? = some (.cells cur T (0,0))∧∀ u ∈ cur.toList,IsSl u
theorem AllS.cell {W:World} {g o:Nat} {u:Value} (h:AllS W g) (hc:W.cell? (ah g o)=some u):IsSl u:=by
 obtain ⟨cur,T,h1,h2⟩:=h;simp only [World.cell?,h1] at hc;have hc:cur[o]? = some u:=by simpa using hc
 exact h2 u (by rw [Array.mem_toList_iff]; exact Array.mem_of_getElem? hc)
theorem AllS.same {W W':World} {g:Nat} (h:AllS W g) (e:W'.heap[g]? = W.heap[g]?):AllS W' g:=by
 obtain ⟨cur,T,h1,h2⟩:=h;exact ⟨cur,T,e.trans h1,h2⟩
theorem sl_off {W W':World} {g:Nat} (hs:AllS W g) (hz:W.heap.size≤W'.heap.size) (hk:∀ b,b<W.heap.size→b≠g→W'.heap[b]? = W.heap[b]?) {a:Option Addr} {r:List Vl} (h:aZ W a r):aZ W' a r:=by
 refine ⟨h.1,?_⟩;rcases h.2 with h | ⟨b,off,e,hr,hlt⟩
 ·exact .inl h
 ·by_cases h0:r = []
  ·exact .inl h0
  ·have hne:b≠g:=by
    rintro rfl;obtain ⟨a',n',c',e'⟩:=hs.cell (hr 0 (List.length_pos_iff.2 h0)).1;cases e'
   have k:=hk b hlt hne;refine .inr ⟨b,off,e,fun i hi=>?_,Nat.lt_of_lt_of_le hlt hz⟩;obtain ⟨c0,c1,c2⟩:=hr i hi;exact ⟨(World.cell?_of_block (a:=⟨b,_,none⟩) k).trans c0,(World.cell?_of_block (a:=⟨b,_,none⟩) k).trans c1,(World.cell?_of_block (a:=⟨b,_,none⟩) k).trans c2⟩
theorem zs_off {W W':World} {g:Nat} (hs:AllS W g) (hz:W.heap.size≤W'.heap.size) (hk:∀ b,b<W.heap.size→b≠g→W'.heap[b]? = W.heap[b]?) {a:Option Addr} {z:List Zp} (h:aK W a z):aK W' a z:=by
 refine ⟨h.1,?_⟩;rcases h.2 with h | ⟨b,off,e,hlt,hr⟩
 ·exact .inl h
 ·by_cases h0:z = []
  ·exact .inl h0
  ·have hne:b≠g:=by
    rintro rfl;obtain ⟨a',n',c',e'⟩:=hs.cell (hr 0 (List.length_pos_iff.2 h0)).1;cases e'
   have k:=hk b hlt hne;refine .inr ⟨b,off,e,Nat.lt_of_lt_of_le hlt hz,fun i hi=>?_⟩;obtain ⟨c0,ar,cr,c1,s⟩:=hr i hi;exact ⟨(World.cell?_of_block (a:=⟨b,_,none⟩) k).trans c0,ar,cr,(World.cell?_of_block (a:=⟨b,_,none⟩) k).trans c1,sl_off hs hz hk s⟩
theorem zero_sl {k:Nat} {u:Value} (h:u ∈ (Builtin.zeroCells (Value.cells bX) k).toList):IsSl u:=by
 unfold Builtin.zeroCells at h;simp [Value.cells] at h;obtain ⟨j,_,e⟩:=h;simp [Nat.mod_one] at e;exact ⟨_,_,_,e.symm⟩
theorem run_append_sl {P:Program} (w:World) (base:Nat) (t ty e:TypeId) (i:TypeInfo) (ht:P.underlying t=some (.slice e)) (hi:P.info? e=some i) (hz:i.zero=some (.slice none 0 0)) (hsize:i.size=1) (hby:i.bytes=24)
  (v:Value) (n:Nat) (xs:List Value) (hown:w.ownsRow base e 1 v n xs) (hall:∀ g,v.ownBlock=some g→AllS w g)
  (a:Addr) (u:Value) (hu:IsSl u) (hc:w.cell? a=some u) (c:Nat) (hn:(n+1)*24≤140737488355328) (hbase:base≤w.heap.size) :
  ∃ v' w',(Builtin.append_ #[t,t] ty #[v,.slice (some a) 1 c]).run P w = .ok v' w'∧w'.ownsRow base e 1 v' (n+1) (xs ++ [u])∧w.grownBy w' v.ownBlock∧∀ g,v'.ownBlock=some g→AllS w' g:=by
 have hnews:∀ j u',[u][j]? = some u'→w.cell? (a.add j)=some u':=fun j u' hj=>by
  cases j with
  | zero=>simp at hj; subst hj; simpa [Addr.add] using hc
  | succ j=>simp at hj
 have h1:∀ u' ∈ [u],u'.oneCell'=true:=fun u' h=>by
  obtain ⟨x,y,z,rfl⟩:=hu;simp at h; subst h; rfl
 have hl:[u].length=1*i.size:=by rw [hsize]; rfl
 obtain ⟨v',w',hr,ho,hg,_⟩:=run_append_own (P:=P) w base t ty e i _ 1 24 ht hi hz hsize hby rfl (by decide) v n xs hown a 1 c [u] rfl hnews h1 (by unfold maxLen; omega) ag hbase;refine ⟨v',w',hr,ho,hg,?_⟩;obtain ⟨hx,⟨rfl,rfl⟩ | ⟨g,cap,cur,rfl,hg0,hh,hn0,hc0,hs0,hk0⟩⟩:=hown
 ·have hr2:=run_append_nil (P:=P) w t ty e i _ ht hi hz a 1 c [u] hl hnews (by decide) (by decide) (by rw [hby]; decide);rw [hr] at hr2;injection hr2 with e1 e2
  subst e1 e2;intro g hg';simp only [Value.ownBlock] at hg';injection hg' with hg'
  subst hg';refine ⟨_,e,heap_alloc_new w.drew _,fun u' h=>?_⟩;rw [Array.toList_append] at h;rcases List.mem_append.1 h with h | h
  ·simp at h; subst h; exact hu
  ·exact zero_sl h
 ·obtain ⟨cur',T',q1,q2⟩:=hall g rfl;rw [hh] at q1;have q1:=Option.some.inj q1;injection q1 with q1 _
  subst q1;by_cases room:n+1≤cap
  ·have hr2:=run_append_room (P:=P) w t ty e i ht hi g n cap cur hh a 1 c [u] hl hnews h1 room (by rw [hsize,hs0]; simp; omega);rw [hr] at hr2;injection hr2 with e1 e2
   subst e1 e2;intro g' hg';simp only [Value.ownBlock] at hg';injection hg' with hg'
   subst hg';refine ⟨_,e,setRow_heap w g cur _ e _ hh,fun u' h=>?_⟩;have h:u' ∈ List.take (n*i.size) cur.toList∨u'=u∨u' ∈ List.drop (n*i.size+1) cur.toList:=by simpa using h
   rcases h with h | rfl | h
   ·exact q2 u' (List.mem_of_mem_take h)
   ·exact hu
   ·exact q2 u' (List.mem_of_mem_drop h)
  ·have holds:=World.ownsRow.cells (w:=w) (base:=base) (e:=e) (size:=1) (v:=.slice (some (ah g 0)) n cap) (n:=n) ⟨hx,.inr ⟨g,cap,cur,rfl,hg0,hh,hn0,hc0,hs0,hk0⟩⟩ rfl
   have hr2:=run_append_grow (P:=P) w t ty e i _ ht hi hz (ah g 0) n cap xs (by rw [hsize]; exact hx) holds a 1 c [u] hl hnews ag ag (by rw [hby]; exact growslice_fits ag ag);rw [hr] at hr2;injection hr2 with e1 e2
   subst e1 e2;intro g' hg';simp only [Value.ownBlock] at hg';injection hg' with hg'
   subst hg';refine ⟨_,e,heap_alloc_new w.drew _,fun u' h=>?_⟩;rw [Array.toList_append,Array.toList_append] at h;rcases List.mem_append.1 h with h | h
   ·rcases List.mem_append.1 h with h | h
    ·refine q2 u' ?_;have h:u' ∈ xs:=by simpa using h
     rw [← hk0] at h;exact List.mem_of_mem_take h
    ·simp at h; subst h; exact hu
   ·exact zero_sl h
theorem wpList_append_sl {P:Program} {w:World} {ops:Array Oper} {rest:List Oper} {o:Oper} {a:Act} {Q:Exit→Act→World→Prop} (hgd:o.guard=none) (s x:Operand) (t:TypeId)
  (ho:o.op = .call { callee:=.builtin .append,args:=#[s,x],argTypes:=#[t,t] })
  (base:Nat) (e:TypeId) (i:TypeInfo) (ht:P.underlying t=some (.slice e)) (hi:P.info? e=some i) (hz:i.zero=some (.slice none 0 0)) (hsize:i.size=1) (hby:i.bytes=24)
  (v:Value) (n:Nat) (xs:List Value) (hs:a.eval s=v) (hown:w.ownsRow base e 1 v n xs) (hall:∀ g,v.ownBlock=some g→AllS w g)
  (ad:Addr) (u:Value) (hu:IsSl u) (hc:w.cell? ad=some u) (c:Nat) (hx:a.eval x = .slice (some ad) 1 c) (hn:(n+1)*24≤140737488355328) (hbase:base≤w.heap.size)
  (h:∀ v' w',w'.ownsRow base e 1 v' (n+1) (xs ++ [u])→w.grownBy w' v.ownBlock→(∀ g,v'.ownBlock=some g→AllS w' g)→wpList P ops Q rest (a.put o.dst v') w'):wpList P ops Q (o :: rest) a w:=by
 refine wpList_plain hgd fun K hK=>?_
 obtain ⟨v',w',hr,ho',hgr,hd⟩:=run_append_sl (P:=P) w base t o.type e i ht hi hz hsize hby v n xs hown hall ad u hu hc c hn hbase;unfold Oper.wp;simp [execOp,ho,resolve,invoke,builtin,hs,hx,hr,Result.andThen];exact hK _ _ (h v' w' ho' hgr hd)
structure OwnQ (base:Nat) (W:World) (v:Value) (zs:List (List Zp)) (cs:List Value):Prop where
 own:W.ownsRow base 38 1 v zs.length cs
 all:∀ g,v.ownBlock=some g→AllS W g
 at_:∀ (i:Nat) (h:i<zs.length),∃ a c,cs[i]? = some (.slice a zs[i].length c)∧aK W a zs[i]∧(a=none→c=0)
theorem OwnQ.nil (base:Nat) (W:World):OwnQ base W bX [] []:=⟨World.ownsRow_nil _ _ _ _,fun g h=>by simp [Value.ownBlock] at h,fun i hi=>by cases hi⟩
theorem OwnQ.next {base:Nat} {W w1:World} {v:Value} {zs:List (List Zp)} {cs:List Value} (h:OwnQ base W v zs cs) (hb:Below W W w1):OwnQ base w1 v zs cs :=
 ⟨aL h.own hb,fun g hg=>(h.all g hg).same (hb.block g (h.own.lt g hg).2),fun i hi=>by
  obtain ⟨a,c,h1,h2,h3⟩:=h.at_ i hi
  exact ⟨a,c,h1,h2.next hb,h3⟩⟩
theorem OwnQ.push {base:Nat} {W W1:World} {v v':Value} {zs:List (List Zp)} {z:List Zp} {cs:List Value} {a:Option Addr} {c:Nat} (h:OwnQ base W v zs cs) (hz:aK W a z) (hn:a=none→c=0)
  (ho:W1.ownsRow base 38 1 v' (zs.length+1) (cs ++ [.slice a z.length c])) (hg:W.grownBy W1 v.ownBlock) (ha:∀ g,v'.ownBlock=some g→AllS W1 g):OwnQ base W1 v' (zs ++ [z]) (cs ++ [.slice a z.length c]):=by
 have hcl:cs.length=zs.length:=by have:=h.own.1; omega
 have mv:∀ {a:Option Addr} {z:List Zp},aK W a z→aK W1 a z:=fun hz=>by
  cases hv:v.ownBlock with
  | none =>
   rw [hv] at hg;exact hz.next ⟨hg.os,hg.tape,hg.output,hg.size,fun k hk=>hg.block k hk (by simp)⟩
  | some g =>
   rw [hv] at hg;exact zs_off (h.all g hv) hg.size (fun b hb hne=>hg.block b hb (by intro e; exact hne (Option.some.inj e))) hz
 refine ⟨by rw [List.length_append]; exact ho,ha,fun i hi=>?_⟩;by_cases e:i<zs.length
 ·obtain ⟨a',c',e1,o1,n1⟩:=h.at_ i e;rw [List.getElem_append_left e];exact ⟨a',c',by rw [List.getElem?_append_left ag]; exact e1,mv o1,n1⟩
 ·have e:i=zs.length:=by simp at hi; omega
  subst e;exact ⟨a,c,by rw [List.getElem?_append_right ag]; simp [hcl],by simpa using mv hz,hn⟩
theorem OwnQ.dt {base:Nat} {W:World} {v:Value} {zs:List (List Zp)} {cs:List Value} (h:OwnQ base W v zs cs):∃ a c,v = .slice a zs.length c∧nN W a zs:=by
 have h1':=h.own;obtain ⟨hx,⟨rfl,h0⟩ | ⟨g,cap,cur,rfl,hg,hh,hn,hc,hs,ht⟩⟩:=h.own
 ·have:zs = []:=List.eq_nil_of_length_eq_zero h0;subst this;exact ⟨none,0,rfl,.inl rfl⟩
 ·refine ⟨_,cap,rfl,?_⟩;by_cases hz:zs = []
  ·exact .inl hz
  ·have key:∀ (i:Nat) (h:i<zs.length),∃ y:Option Addr × Nat,W.cell? ⟨g,0+i,none⟩=some (.slice y.1 zs[i].length y.2)∧aK W y.1 zs[i]∧(y.1=none→y.2=0):=fun i hi=>by
    obtain ⟨a,c,e,o⟩:=h.at_ i hi;have:=World.ownsRow.cells h1' (g:=g) rfl i _ e;exact ⟨(a,c),by rw [addr_zero] at this; rw [Nat.zero_add]; exact this,o⟩
   refine .inr ⟨g,0,fun i=>if h:i<zs.length then (Classical.choose (key i h)).1 else none,fun i=>if h:i<zs.length then (Classical.choose (key i h)).2 else 0,rfl,an hh,fun i hi=>?_⟩;simp only [dif_pos hi];exact Classical.choose_spec (key i hi)
theorem refApply_at (data more:List (List Zp)) (da:Option Addr) (dc:Nat) (ma:Option Addr) (mc:Nat) (w:World) (hD:nN w da data) (hM:nN w ma more) (hn:data.length*24≤140737488351232) :
  Calls prog 29 #[.slice da data.length dc,.slice ma more.length mc] w fun e w'=>(∃ a,(∃ c,e = .returned (.tuple #[.slice a (applyZ data more).length c,.int .i64 (applyE data more)]))∧nN w' a (applyZ data more))∧Below w w w':=by
 obtain ⟨i0,hi,hj0,hj1,hj2⟩:=info_parts infoS;generalize hr:applyE data more=r;generalize hz:applyZ data more=z;have HR:=aB hr;have HZ:=aB hz;clear hr hz;go_enter func29,ntmps29;by_cases hl:data.length=more.length;rotate_left
 ·have hne:((data.length:Int) != (more.length:Int))=true:=by simp; omega
  have e:r=8:=by rw [← HR.out]; unfold applyE; rw [if_pos hl]
  have e':z = []:=by rw [← HZ.out]; unfold applyZ; rw [HR.out,e,if_neg (by decide)]
  subst e e';go_wp2_with fail
  exact bJ rfl rfl ⟨⟨none,⟨0,rfl⟩,.inl rfl⟩,Below.refl _ _⟩
 have hne:((data.length:Int) != (more.length:Int))=false:=by simp; omega
 have HR':Hid (r=applE (data.drop 0) (more.drop 0)):=by show _=_; rw [← HR.out]; unfold applyE; rw [if_neg (by simpa using hl)]; rfl
 have HZ':Hid (z=if r=0 then applL data more else []):=by show _=_; rw [← HZ.out,← HR.out]; rfl
 have HLn:=aB (applL_len hl);have hl1:data.length≤more.length:=by omega
 have hl2:more.length≤data.length:=by omega
 clear HR HZ hl;go_wp2_with fail
 clear hne;go_loopw [6,17] (fun v i wr=>∃ (j:Nat) (cs:List Value),j≤data.length∧i = .int .i64 j∧Hid (r=applE (data.drop j) (more.drop j))∧OwnQ w wr v ((applL data more).take j) cs∧Below w w wr) (fun _ i _=>data.length - (intOf i).toNat)
 case atStart=>exact ⟨0,[],Nat.zero_le _,rfl,HR',by simpa using OwnQ.nil w w,Below.refl _ _⟩
 case round =>
  obtain ⟨j,cs,hj,rfl,HT,hS,hb⟩:=hrel;clear HR';by_cases hlt:j<data.length
  ·have hlt':j<more.length:=by omega
   obtain ⟨b1,o1,ai,ci,rfl,hb1,c1,hz1,hn1⟩:=(hD.next hb).elem hlt;obtain ⟨b2,o2,zi,zc,rfl,hb2,c2,hz2,_⟩:=(hM.next hb).elem hlt';have hjz:(j:Int)<(data.length:Int):=by omega
   have hjt:(j:Int)<(more.length:Int):=by omega
   have hjp:(0:Int)≤(j:Int):=by omega
   have HBad:Hid (¬ eJ 1 data[j] more[j]=0→r=eJ 1 data[j] more[j]):=fun c=>HT.out.trans (applE_bad hlt hlt' c)
   have HOk:Hid (eJ 1 data[j] more[j]=0→r=applE (data.drop (j+1)) (more.drop (j+1))):=fun c=>HT.out.trans (applE_next hlt hlt' c)
   have HTk:=aB (applL_take hlt hlt');clear HT;go_upto_region 7 with fail
   have hCC:∀ W W':World,(W.cell? ⟨b1,o1+j,none⟩=some (.slice ai data[j].length ci)∧W.cell? ⟨b2,o2+j,none⟩=some (.slice zi more[j].length zc))→Below W W W'→(W'.cell? ⟨b1,o1+j,none⟩=some (.slice ai data[j].length ci)∧W'.cell? ⟨b2,o2+j,none⟩=some (.slice zi more[j].length zc)):=fun W W' h hb=>⟨(hb.cell (p:=⟨b1,_,none⟩) (World.block_lt_of_cell? _ _ h.1)).trans h.1,(hb.cell (p:=⟨b2,_,none⟩) (World.block_lt_of_cell? _ _ h.2)).trans h.2⟩
   have hdr:Below wr wr wr.drew:=(Below.refl _ _).drew;have CW:=hCC _ _ ⟨c1,c2⟩ hdr;clear c1 c2;refine aP (fun W=>W.cell? ⟨b1,o1+j,none⟩=some (.slice ai data[j].length ci)∧W.cell? ⟨b2,o2+j,none⟩=some (.slice zi more[j].length zc)) aG ?_;refine bB hCC 21 0 (.slice (some (ah b1 o1)) data.length dc) (fun n hn=>?_) CW ?_
   ·go_simp
   simp only [pX];refine bB hCC 22 1 j (fun n hn=>?_) CW ?_
   ·go_simp
   simp only [pX];refine bB hCC 23 2 (.pointer (some ⟨b1,o1+j,none⟩)) (fun n hn=>?_) CW ?_
   ·go_simp
   simp only [pX];refine bB hCC 24 3 (.slice ai data[j].length ci) (fun n hn=>?_) CW ?_
   ·have hc:=hn.1;go_simp
   simp only [pX];refine bB hCC 25 4 (.slice (some (ah b2 o2)) more.length mc) (fun n hn=>?_) CW ?_
   ·go_simp
   simp only [pX];refine bB hCC 26 5 j (fun n hn=>?_) CW ?_
   ·go_simp
   simp only [pX];refine bB hCC 27 6 (.pointer (some ⟨b2,o2+j,none⟩)) (fun n hn=>?_) CW ?_
   ·go_simp
   simp only [pX];refine bB hCC 28 7 (.slice zi more[j].length zc) (fun n hn=>?_) CW ?_
   ·have hc:=hn.2;go_simp
   simp only [pX];refine gp 8 aG fun w3 hb3=>?_
   have D3:=chain hdr hb3;have CW3:=hCC _ _ CW hb3;have con:=boQ 1 (.inl rfl) ai zi ci zc data[j] more[j] w3 (hz1.next D3) (hz2.next D3);generalize eJ 1 data[j] more[j]=er at *;generalize dM 1 data[j] more[j]=zr at *;refine wpOp_step rfl (fun K hK=>?_);go_simp;refine con.mono ?_;rintro e w4 ⟨⟨a5,c5,rfl,y4,n5⟩,hb4⟩;have CW4:=hCC _ _ CW3 hb4;refine hK _ _ ⟨CW4,?_⟩;clear hK K con CW3 CW;have D4:=chain D3 hb4;try simp only [pX]
   refine bB hCC 20 9 (.tuple #[.slice a5 zr.length c5,er]) (fun n hn=>?_) CW4 ?_
   ·go_simp
   simp only [pX];refine bB hCC 30 10 (.slice a5 zr.length c5) (fun n hn=>?_) CW4 ?_
   ·go_simp
   simp only [pX];refine bB hCC 31 11 er (fun n hn=>?_) CW4 ?_
   ·go_simp
   simp only [pX];refine bB hCC 8 12 (.slice a5 zr.length c5) (fun n hn=>?_) CW4 ?_
   ·go_simp
   simp only [pX];refine bB hCC 9 13 er (fun n hn=>?_) CW4 ?_
   ·go_simp
   simp only [pX];refine cA aG ?_;intro w5 hb5;have z5:=y4.next hb5;replace hb5:=chain D4 hb5;clear CW4 hCC D4 D3 hb4 hb3 hdr y4;by_cases h0:er=0
   ·have HT':=aB (HOk.out h0);subst h0;have hal:=aN w5 (.cells #[.slice a5 zr.length c5] 38);have q6:=cell_of (i:=0) (bq w5 #[.slice a5 zr.length c5] 38) rfl;have hb6:=chain hb5 hal;have hb7:=chain hb hb6;have O6:=hS.next hb6;have Z6:=z5.next hal;have HL:Hid (((applL data more).take j).length=j):=by show _=_; rw [List.length_take,HLn.out]; omega
    have o6:=O6.own;rw [HL.out] at o6;have z7:=hb7.size;clear HBad HOk hS hal hb5 hb6 z5 hz1 hz2 hn1;go_wp2_with (at_builtin; refine wpList_append_sl rfl _ _ 32 rfl w 38 i0 underlying32 hi hj0 hj1 hj2 _ j cs rfl o6 O6.all (ah w5 0) (.slice a5 zr.length c5) ⟨_,_,_,rfl⟩ q6 1 rfl ag z7 ?_)
    intro v' w8 ho8 hg8 ha8;have R8:=O6.push Z6 (n5 trivial) (by rw [HL.out]; exact ho8) hg8 ha8;rw [← HTk.out] at R8;have hb8:=hb7.grown hg8 z7 (fun q hq=>(o6.lt q hq).1);clear ho8 hg8 ha8 o6 O6 Z6 q6 hb7 HTk;go_wp2_with fail
    go_roundw
    case rel=>exact ⟨j+1,_,by omega,by go_num,HT',R8,hb8⟩
    case measure=>simp [intOf]; omega
   ·have e:r=er:=HBad.out h0;have h0b:(er != 0)=true:=by simpa using h0
    have e':z = []:=by rw [HZ'.out,if_neg (by rw [e]; exact h0)]
    subst e e';clear HBad HOk HTk hS HZ';go_wp2_with fail
    exact bJ rfl rfl ⟨⟨none,⟨0,rfl⟩,.inl rfl⟩,chain hb hb5⟩
  ·have e:r=0:=by rw [HT.out,applE_end ag]
   have ej:j=data.length:=by omega
   have hjn:¬ (j:Int)<(data.length:Int):=by omega
   have e':z=applL data more:=by rw [HZ'.out,if_pos e]
   rw [ej,← HLn.out,List.take_length,← e'] at hS;obtain ⟨a,c,rfl,hd⟩:=hS.dt;subst e;clear HT HZ' e' hS ej;go_wp2_with fail
   exact bJ rfl rfl ⟨⟨a,⟨c,rfl⟩,hd⟩,hb⟩
def wrong6 (ts:List (List Int)) (p:Pl) (data more:List (List Zp)):Int:=if wrongD ts p data more≠0 then wrongD ts p data more else applyE data more
theorem applyZ_len (data more:List (List Zp)):(applyZ data more).length≤data.length:=by
 unfold applyZ;by_cases h:applyE data more=0
 ·rw [if_pos h];by_cases hl:data.length=more.length
  ·rw [applL_len hl]; exact Nat.le_refl _
  ·unfold applyE at h; rw [if_pos hl] at h; exact absurd h (by decide)
 ·rw [if_neg h]; exact Nat.zero_le _
theorem refWrong6_at (ts:List (List Int)) (p:Pl) (q:Pw) (data more:List (List Zp)) (ta:Option Addr) (tc:Nat) (da:Option Addr) (dc:Nat) (ma:Option Addr) (mc:Nat) (w:World) (hT:jG w w ta ts) (hp:kH w w p q) (hk:gu p) (hD:nN w da data) (hM:nN w ma more) (hn:data.length*24≤140737488351232) (hn3:more.length≤10000000000000) :
  Calls prog 31 #[.slice ta ts.length tc,fw p q,.slice da data.length dc,.slice ma more.length mc] w fun e w'=>e = .returned (.int .i64 (wrong6 ts p data more))∧Below w w w':=by
 have hn2:data.length≤10000000000000:=by omega
 generalize hr:wrong6 ts p data more=r;have HR:Hid (wrong6 ts p data more=r):=hr;clear hr;have TX:TbX w ta ts:=hT;have PX:PlX w p q:=hp;have DX:=hD;have HK:Hid (gu p):=hk;clear hT hp hD hk;have MX:=hM;clear hM;have hA:Below w w w:=Below.refl _ _;have hb:=aN w (.cells #[p.k,p.n,p.x.k,p.x.v.1,p.x.v.2.1,p.x.v.2.2,p.x.c,.slice q.xa p.x.ks.length q.xc,.slice q.sa p.xs.length q.sc,.slice q.ga p.gs.length q.gc,.slice q.ka p.ks.length q.kc] 31)
 replace TX:=TX.next hb;replace PX:=PX.next hb;replace DX:=DX.next hb;replace MX:=MX.next hb;replace hA:=chain hA hb;have EL:ElX (w.alloc (.cells #[p.k,p.n,p.x.k,p.x.v.1,p.x.v.2.1,p.x.v.2.2,p.x.c,.slice q.xa p.x.ks.length q.xc,.slice q.sa p.xs.length q.sc,.slice q.ga p.gs.length q.gc,.slice q.ka p.ks.length q.kc] 31)) w p q:=⟨ft.new w p q 31,by simp⟩
 unfold fw;go_enter func31,ntmps31;go_upto_region 1 with fail
 generalize w.alloc (.cells #[p.k,p.n,p.x.k,p.x.v.1,p.x.v.2.1,p.x.v.2.2,p.x.c,.slice q.xa p.x.ks.length q.xc,.slice q.sa p.xs.length q.sc,.slice q.ga p.gs.length q.gc,.slice q.ka p.ks.length q.kc] 31)=w1 at *;clear hb;have con:=qp ts p q ta tc w1 TX PX HK.out;generalize hq:dp ts p=le at con;have HL:Hid (dp ts p=le):=hq;clear hq;try unfold fw at con
 obtain ⟨y0,y1,⟨y2,y3,y4,y5,y6,y7⟩,y8,y9,y10⟩:=EL.el;simp only [Nat.zero_add] at y1 y2 y3 y4 y5 y6 y7 y8 y9 y10;go_wp2_with fail
 refine con.mono ?_;rintro e w2 ⟨a1,c1,rfl,_,hb⟩;clear con;clear y0 y1 y2 y3 y4 y5 y6 y7 y8 y9 y10;replace TX:=TX.next hb;replace PX:=PX.next hb;replace DX:=DX.next hb;replace MX:=MX.next hb;replace EL:=EL.next hb;replace hA:=chain hA hb;clear hb;dsimp only;generalize (if le=0 then aA ts p else []).length=n1 at *;by_cases h0:le=0;rotate_left
 ·have hb0:(le != 0)=true:=by simpa using h0
  have e1:r=le:=by rw [← HR.out]; simp [wrong6,wrongD,HL.out,h0]
  subst e1;clear HR;go_wp2_with fail
  go_ret;exact ⟨rfl,hA⟩
 have HL0:dp ts p=0:=by rw [HL.out,h0]
 have HL1:Hid (dp ts p=0):=HL0;clear HL HL0;subst h0;have con:=Bc ts data ta tc da dc w2 TX DX hn2;generalize hq:fI ts data=d1 at con;have HD1:Hid (fI ts data=d1):=hq;clear hq;go_wp2_with fail
 refine bC con fun w3 hb=>?_;clear con;replace TX:=TX.next hb;replace PX:=PX.next hb;replace DX:=DX.next hb;replace MX:=MX.next hb;replace EL:=EL.next hb;replace hA:=chain hA hb;clear hb;dsimp only;by_cases h0:d1=0;rotate_left
 ·have hb0:(d1 != 0)=true:=by simpa using h0
  have e1:r=d1:=by rw [← HR.out]; simp [wrong6,wrongD,HL1.out,HD1.out,h0]
  subst e1;clear HR;go_wp2_with fail
  go_ret;exact ⟨rfl,hA⟩
 have HD2:Hid (fI ts data=0):=by show _=_; rw [HD1.out,h0]
 clear HD1;subst h0;have con:=Bc ts more ta tc ma mc w3 TX MX hn3;generalize hq:fI ts more=d2 at con;have HD3:Hid (fI ts more=d2):=hq;clear hq;go_wp2_with fail
 refine bC con fun w4 hb=>?_;clear con;replace TX:=TX.next hb;replace PX:=PX.next hb;replace DX:=DX.next hb;replace MX:=MX.next hb;replace EL:=EL.next hb;replace hA:=chain hA hb;clear hb;dsimp only;by_cases h0:d2=0;rotate_left
 ·have hb0:(d2 != 0)=true:=by simpa using h0
  have e1:r=d2:=by rw [← HR.out]; simp [wrong6,wrongD,HL1.out,HD2.out,HD3.out,h0]
  subst e1;clear HR;go_wp2_with fail
  go_ret;exact ⟨rfl,hA⟩
 have HD4:Hid (fI ts more=0):=by show _=_; rw [HD3.out,h0]
 clear HD3;subst h0;have e1:applyE data more=r:=by rw [← HR.out]; simp [wrong6,wrongD,HL1.out,HD2.out,HD4.out]
 have con:=refApply_at data more da dc ma mc w4 DX MX hn;generalize hq:applyE data more=ae at con;have HA:Hid (applyE data more=ae):=hq;clear hq;generalize hq:applyZ data more=az at con;have HZ:Hid (applyZ data more=az):=hq;clear hq;go_wp2_with fail
 refine con.mono ?_;rintro e w5 ⟨⟨a4,⟨c4,rfl⟩,_⟩,hb⟩;clear con;replace TX:=TX.next hb;replace PX:=PX.next hb;replace DX:=DX.next hb;replace MX:=MX.next hb;replace EL:=EL.next hb;replace hA:=chain hA hb;clear hb;dsimp only;rw [HA.out] at e1;subst e1;go_wp2_with fail
 go_ret;exact ⟨rfl,hA⟩
def Del6 (ts:List (List Int)) (p:Pl) (data more:List (List Zp)) (z:List Zp):Prop:=applyE data more=0∧Fx ts data p=0∧Fx ts (applyZ data more) p=0∧eJ (-1) (Fq ts (applyZ data more) p) (Fq ts data p)=0∧z=dM (-1) (Fq ts (applyZ data more) p) (Fq ts data p)
theorem refDelta6_at (ts:List (List Int)) (p:Pl) (q:Pw) (data more:List (List Zp)) (ta:Option Addr) (tc:Nat) (da:Option Addr) (dc:Nat) (ma:Option Addr) (mc:Nat) (w:World) (hT:jG w w ta ts) (hp:kH w w p q) (hk:gu p) (hD:nN w da data) (hM:nN w ma more) (hn:data.length*24≤140737488351232) :
  Calls prog 32 #[.slice ta ts.length tc,fw p q,.slice da data.length dc,.slice ma more.length mc] w fun e w'=>(∃ a c z,∃ b:Bool,e = .returned (.tuple #[.slice a (List.length z) c,b])∧aK w' a z∧(b=true→Del6 ts p data more z))∧Below w w w':=by
 have hn2:data.length≤10000000000000:=by omega
 have hn3:(applyZ data more).length≤10000000000000:=Nat.le_trans (applyZ_len _ _) hn2;have TX:TbX w ta ts:=hT;have PX:PlX w p q:=hp;have DX:=hD;have HK:Hid (gu p):=hk;clear hT hp hD hk;have MX:=hM;clear hM;have hA:Below w w w:=Below.refl _ _;have hb:=aN w (.cells #[p.k,p.n,p.x.k,p.x.v.1,p.x.v.2.1,p.x.v.2.2,p.x.c,.slice q.xa p.x.ks.length q.xc,.slice q.sa p.xs.length q.sc,.slice q.ga p.gs.length q.gc,.slice q.ka p.ks.length q.kc] 31)
 replace TX:=TX.next hb;replace PX:=PX.next hb;replace DX:=DX.next hb;replace MX:=MX.next hb;replace hA:=chain hA hb;have EL:ElX (w.alloc (.cells #[p.k,p.n,p.x.k,p.x.v.1,p.x.v.2.1,p.x.v.2.2,p.x.c,.slice q.xa p.x.ks.length q.xc,.slice q.sa p.xs.length q.sc,.slice q.ga p.gs.length q.gc,.slice q.ka p.ks.length q.kc] 31)) w p q:=⟨ft.new w p q 31,by simp⟩
 unfold fw;go_enter func32,ntmps32;go_upto_region 1 with fail
 generalize w.alloc (.cells #[p.k,p.n,p.x.k,p.x.v.1,p.x.v.2.1,p.x.v.2.2,p.x.c,.slice q.xa p.x.ks.length q.xc,.slice q.sa p.xs.length q.sc,.slice q.ga p.gs.length q.gc,.slice q.ka p.ks.length q.kc] 31)=w1 at *;clear hb;have con:=refApply_at data more da dc ma mc w1 DX MX hn;generalize hq:applyE data more=ae at con;have HA:Hid (applyE data more=ae):=hq;clear hq;generalize hq:applyZ data more=az at con;have HZ:Hid (applyZ data more=az):=hq;clear hq;go_wp2_with fail
 refine con.mono ?_;rintro e w2 ⟨⟨a1,⟨c1,rfl⟩,D1⟩,hb⟩;clear con;replace TX:=TX.next hb;replace PX:=PX.next hb;replace DX:=DX.next hb;replace MX:=MX.next hb;replace EL:=EL.next hb;replace hA:=chain hA hb;clear hb;dsimp only;rw [HZ.out] at hn3;by_cases h0:ae=0;rotate_left
 ·have hb0:(ae != 0)=true:=by simpa using h0
  go_wp2_with fail
  exact bodyPost_ret (v:=.tuple #[bX,false]) (by simp [results,results32,go_sem]) rfl ⟨⟨none,0,[],false,rfl,lJ _,fun c=>by cases c⟩,hA⟩
 have HA0:Hid (applyE data more=0):=by show _=_; rw [HA.out,h0]
 clear HA;subst h0;have con:=Bt ts (data) p q ta tc da dc TX DX PX HK.out hn2;generalize hq:Fx ts data p=e2 at con;have HE2:Hid (Fx ts data p=e2):=hq;clear hq;generalize hq:Fq ts data p=z2 at con;have HZ2:Hid (Fq ts data p=z2):=hq;clear hq;try unfold fw at con
 obtain ⟨y0,y1,⟨y2,y3,y4,y5,y6,y7⟩,y8,y9,y10⟩:=EL.el;simp only [Nat.zero_add] at y1 y2 y3 y4 y5 y6 y7 y8 y9 y10;go_wp2_with fail
 refine con.mono ?_;rintro e w3 ⟨⟨a2,c2,rfl,Z2⟩,hb⟩;clear con;clear y0 y1 y2 y3 y4 y5 y6 y7 y8 y9 y10;replace TX:=TX.next hb;replace PX:=PX.next hb;replace DX:=DX.next hb;replace MX:=MX.next hb;replace EL:=EL.next hb;replace D1:=D1.next hb;replace hA:=chain hA hb;clear hb;dsimp only;have con:=Bt ts az p q ta tc a1 c1 TX D1 PX HK.out hn3;generalize hq:Fx ts az p=e3 at con;have HE3:Hid (Fx ts az p=e3):=hq;clear hq;generalize hq:Fq ts az p=z3 at con;have HZ3:Hid (Fq ts az p=z3):=hq;clear hq;try unfold fw at con
 obtain ⟨y0,y1,⟨y2,y3,y4,y5,y6,y7⟩,y8,y9,y10⟩:=EL.el;simp only [Nat.zero_add] at y1 y2 y3 y4 y5 y6 y7 y8 y9 y10;go_wp2_with fail
 refine con.mono ?_;rintro e w4 ⟨⟨a3,c3,rfl,Z3⟩,hb⟩;clear con;clear y0 y1 y2 y3 y4 y5 y6 y7 y8 y9 y10;replace TX:=TX.next hb;replace PX:=PX.next hb;replace DX:=DX.next hb;replace MX:=MX.next hb;replace EL:=EL.next hb;replace D1:=D1.next hb;replace Z2:=Z2.next hb;replace hA:=chain hA hb;clear hb;dsimp only;by_cases h0:e2=0;rotate_left
 ·have hb0:(e2 != 0)=true:=by simpa using h0
  go_wp2_with fail
  exact bodyPost_ret (v:=.tuple #[bX,false]) (by simp [results,results32,go_sem]) rfl ⟨⟨none,0,[],false,rfl,lJ _,fun c=>by cases c⟩,hA⟩
 have HE20:Hid (Fx ts data p=0):=by show _=_; rw [HE2.out,h0]
 clear HE2;subst h0;by_cases h0:e3=0;rotate_left
 ·have hb0:(e3 != 0)=true:=by simpa using h0
  go_wp2_with fail
  exact bodyPost_ret (v:=.tuple #[bX,false]) (by simp [results,results32,go_sem]) rfl ⟨⟨none,0,[],false,rfl,lJ _,fun c=>by cases c⟩,hA⟩
 have HE30:Hid (Fx ts az p=0):=by show _=_; rw [HE3.out,h0]
 clear HE3;subst h0;have con:=CD (-1) (.inr rfl) a3 a2 c3 c2 z3 z2 w4 Z3 Z2;generalize hq:eJ (-1) z3 z2=e4 at con;have HE4:Hid (eJ (-1) z3 z2=e4):=hq;clear hq;generalize hq:dM (-1) z3 z2=z4 at con;have HZ4:Hid (dM (-1) z3 z2=z4):=hq;clear hq;go_wp2_with fail
 refine con.mono ?_;rintro e w5 ⟨⟨a4,c4,rfl,Z4⟩,hb⟩;clear con;replace TX:=TX.next hb;replace PX:=PX.next hb;replace DX:=DX.next hb;replace MX:=MX.next hb;replace EL:=EL.next hb;replace D1:=D1.next hb;replace Z2:=Z2.next hb;replace Z3:=Z3.next hb;replace hA:=chain hA hb;clear hb;dsimp only;have HG:Hid ((e4 == 0)=true→Del6 ts p data more z4):=fun c=>by
  have c':e4=0:=by simpa using c
  unfold Del6;rw [HZ.out,HZ3.out,HZ2.out];exact ⟨HA0.out,HE20.out,HE30.out,HE4.out.trans c',HZ4.out.symm⟩
 clear HE4 HZ4 HE30 HE20 HZ3 HZ2 HA0 HZ;go_wp2_with fail
 exact bodyPost_ret (v:=.tuple #[.slice a4 z4.length c4,.bool (e4 == 0)]) (by simp [results,results32,go_sem]) rfl ⟨⟨a4,c4,z4,e4 == 0,rfl,Z4,HG.out⟩,hA⟩
end Go.Proofs.YtoefpglknaiaeaaGreat
namespace Go.Proofs.YtoefpglknaiaeaaGreat
open Go.ChangeAt Go.ChangeShapes Go.Joins Go.Lib Go.RowKit Go.Shelf Go.WideShapes _root_.Go.Proofs.Tryz
theorem of_wrong6 {ts:List (List Int)} {p:Pl} {data more:List (List Zp)} (h:¬ wrong6 ts p data more=0):ofDE ts p data more=wrong6 ts p data more∧ofDZ ts p data more = []:=by
 unfold wrong6 at h ⊢;by_cases c:wrongD ts p data more=0
 ·rw [if_neg (by simp [c])] at h ⊢;exact ⟨by unfold ofDE; rw [if_neg (by simp [c]),if_pos h],by unfold ofDZ; rw [if_pos (.inr (.inl h))]⟩
 ·rw [if_pos c];exact ⟨by unfold ofDE; rw [if_pos c],by unfold ofDZ; rw [if_pos (.inl c)]⟩
theorem of_del6 {ts:List (List Int)} {p:Pl} {data more:List (List Zp)} {z:List Zp} (h:wrong6 ts p data more=0) (hd:Del6 ts p data more z):ofDE ts p data more=0∧ofDZ ts p data more=z:=by
 obtain ⟨h1,h2,h3,h4,h5⟩:=hd;have c:wrongD ts p data more=0:=by
  unfold wrong6 at h;by_cases c:wrongD ts p data more=0
  ·exact c
  ·rw [if_pos c] at h; exact h
 subst h5;exact ⟨by unfold ofDE; simp [c,h1,h2,h3,h4],by unfold ofDZ; simp [c,h1,h2,h3]⟩
theorem deltaTells_walk (ta:Option Addr) (tc:Nat) (ts:List (List Int)) (p:Pl) (q:Pw) (da:Option Addr) (dc:Nat) (data:List (List Zp)) (ma:Option Addr) (mc:Nat) (more:List (List Zp)) (w:World) (hT:jG w w ta ts) (hp:kH w w p q) (hk:gu p) (hD:nN w da data) (hn:data.length*24≤140737488351232) (hM:nN w ma more) (hn':more.length*24≤140737488351232) :
  Calls prog 7 #[.slice ta ts.length tc,fw p q,.slice da data.length dc,.slice ma more.length mc] w fun e w'=>e = .returned true∧Below w w w':=by
 have hn2:data.length≤10000000000000:=by omega
 have hn3:more.length≤10000000000000:=by omega
 have hzl:=applyZ_len data more;have TX:TbX w ta ts:=hT;have PX:PlX w p q:=hp;have DX:=hD;have HK:Hid (gu p):=hk;clear hT hp hD hk;have MX:=hM;clear hM;have hA:Below w w w:=Below.refl _ _;have hb:=aN w (.cells #[p.k,p.n,p.x.k,p.x.v.1,p.x.v.2.1,p.x.v.2.2,p.x.c,.slice q.xa p.x.ks.length q.xc,.slice q.sa p.xs.length q.sc,.slice q.ga p.gs.length q.gc,.slice q.ka p.ks.length q.kc] 31);replace TX:=TX.next hb;replace PX:=PX.next hb;replace DX:=DX.next hb
 replace MX:=MX.next hb;replace hA:=chain hA hb;have EL:ElX (w.alloc (.cells #[p.k,p.n,p.x.k,p.x.v.1,p.x.v.2.1,p.x.v.2.2,p.x.c,.slice q.xa p.x.ks.length q.xc,.slice q.sa p.xs.length q.sc,.slice q.ga p.gs.length q.gc,.slice q.ka p.ks.length q.kc] 31)) w p q:=⟨ft.new w p q 31,by simp⟩
 unfold fw;go_enter func7,ntmps7;go_upto_region 1 with fail
 generalize w.alloc (.cells #[p.k,p.n,p.x.k,p.x.v.1,p.x.v.2.1,p.x.v.2.2,p.x.c,.slice q.xa p.x.ks.length q.xc,.slice q.sa p.xs.length q.sc,.slice q.ga p.gs.length q.gc,.slice q.ka p.ks.length q.kc] 31)=w1 at *;clear hb;have con:=applyT_at (data) (more) da dc ma mc w1 DX MX hn2;generalize hq:applyE (data) (more)=e1 at con;have HE1:Hid (applyE (data) (more)=e1):=hq;clear hq;generalize hq:applyZ (data) (more)=d1 at con;have HZ1:Hid (applyZ (data) (more)=d1):=hq;clear hq;go_wp2_with fail
 refine con.mono ?_;rintro e w2 ⟨a1,c1,rfl,D1,hb⟩;clear con;replace TX:=TX.next hb;replace PX:=PX.next hb;replace DX:=DX.next hb;replace MX:=MX.next hb;replace EL:=EL.next hb;replace hA:=chain hA hb;clear hb;dsimp only;have con:=refApply_at data more da dc ma mc w2 DX MX hn;rw [HE1.out,HZ1.out] at con;rw [HZ1.out] at hzl;go_wp2_with fail
 refine con.mono ?_;rintro e w3 ⟨⟨a2,⟨c2,rfl⟩,D2⟩,hb⟩;clear con;replace TX:=TX.next hb;replace PX:=PX.next hb;replace DX:=DX.next hb;replace MX:=MX.next hb;replace EL:=EL.next hb;replace D1:=D1.next hb;replace hA:=chain hA hb;clear hb;dsimp only;have hee:(e1 != e1)=false:=by simp
 have hdd:((d1.length:Int) != (d1.length:Int))=false:=by simp
 have hd0:=Nat.le_trans hzl hn2;go_upto_region 5 with fail
 clear hee hdd;go_wp2_with fail
 go_loopw [42] (fun i wr=>∃ j:Nat,j≤d1.length∧i = .int .i64 j∧Below w3 w3 wr) (fun i _=>d1.length - (intOf i).toNat)
 case atStart=>exact ⟨0,Nat.zero_le _,rfl,Below.refl _ _⟩
 case round =>
  obtain ⟨j,hj,rfl,hb⟩:=hrel;by_cases hlt:j<d1.length
  ·obtain ⟨b1,o1,ai,ci,rfl,hb1,x1,z1,_⟩:=(D1.next hb).elem hlt;obtain ⟨b2,o2,zi,zc,rfl,hb2,x2,z2,_⟩:=(D2.next hb).elem hlt;have hjz:(j:Int)<(d1.length:Int):=by omega
   generalize d1[j]=z at *;go_upto_region 8 with fail
   have con:∀ n:cF wr,Calls prog 21 #[.slice ai z.length ci,.slice zi z.length zc] n.now fun e w'=>e = .returned true∧Below n.now.heap.size n.now w':=fun n=>JP ai zi ci zc z n.now (z1.next n.ok) (z2.next n.ok)
   have p1:=ak x1;have p2:=ak x2;haveI:Nonempty (cF wr):=⟨⟨_,Below.refl _ _⟩⟩
   clear x1 x2 z1 z2;refine aq aG aG ?_
   repeat (go_big_quiet_step (first | (go_at_call 21; exact cG (con _))))
   refine wpQuiet_nil ?_;rintro wz ⟨⟨vz,hbz⟩,hz⟩;obtain rfl:wz=vz:=hz;have hb9:=hbz;clear p1 p2 this con;go_wp2_with fail
   go_roundw
   case rel=>exact ⟨j+1,by omega,by go_num,chain hb hb9⟩
   case measure=>simp [intOf]; omega
  ·have hjn:¬ (j:Int)<(d1.length:Int):=by omega
   clear hlt;generalize hww:wr=w4 at *;clear hww;replace TX:=TX.next hb;replace PX:=PX.next hb;replace DX:=DX.next hb;replace MX:=MX.next hb;replace EL:=EL.next hb;replace D1:=D1.next hb;replace D2:=D2.next hb;replace hA:=chain hA hb;clear hb;have con:=ofD_at ts p q (data) (more) ta tc da dc ma mc w4 TX PX HK.out DX MX;generalize hq:ofDE ts p (data) (more)=e3 at con;have HE3:=aB hq;clear hq;generalize hq:ofDZ ts p (data) (more)=z3 at con;have HZ3:=aB hq;clear hq;try unfold fw at con
   obtain ⟨y0,y1,⟨y2,y3,y4,y5,y6,y7⟩,y8,y9,y10⟩:=EL.el;simp only [Nat.zero_add] at y1 y2 y3 y4 y5 y6 y7 y8 y9 y10;go_wp2_with fail
   refine con.mono ?_;rintro e w5 ⟨v3,rfl,O3,hb⟩;clear con;clear y0 y1 y2 y3 y4 y5 y6 y7 y8 y9 y10;replace TX:=TX.next hb;replace PX:=PX.next hb;replace DX:=DX.next hb;replace MX:=MX.next hb;replace EL:=EL.next hb;replace D1:=D1.next hb;replace D2:=D2.next hb;replace hA:=chain hA hb;clear hb;obtain ⟨a3,c3,rfl,Z3,n3⟩:=O3.KW;clear O3;dsimp only;have con:=refWrong6_at ts p q data more ta tc da dc ma mc w5 TX PX HK.out DX MX hn hn3;generalize hq:wrong6 ts p data more=e4 at con;have HE4:=aB hq;clear hq;try unfold fw at con
   obtain ⟨y0,y1,⟨y2,y3,y4,y5,y6,y7⟩,y8,y9,y10⟩:=EL.el;simp only [Nat.zero_add] at y1 y2 y3 y4 y5 y6 y7 y8 y9 y10;go_wp2_with fail
   refine bC con fun w6 hb=>?_;clear con;clear y0 y1 y2 y3 y4 y5 y6 y7 y8 y9 y10;replace TX:=TX.next hb;replace PX:=PX.next hb;replace DX:=DX.next hb;replace MX:=MX.next hb;replace EL:=EL.next hb;replace D1:=D1.next hb;replace D2:=D2.next hb;replace Z3:=Z3.next hb;replace hA:=chain hA hb;clear hb;dsimp only;by_cases h4:e4=0;rotate_left
   ·have hb4:(e4 != 0)=true:=by simpa using h4
    obtain ⟨x1,x2⟩:=of_wrong6 (by rw [HE4.out]; exact h4);have y1:e3=e4:=by rw [← HE3.out,x1,HE4.out]
    have y2:z3 = []:=by rw [← HZ3.out,x2]
    subst y1 y2;clear HE3 HZ3 HE4 x1 x2 Z3;have hee:(e3 == e3)=true:=by simp
    go_wp2_with fail
    go_ret;exact ⟨rfl,hA⟩
   have H4:Hid (wrong6 ts p data more=0):=by show _=_; rw [HE4.out,h4]
   clear HE4;subst h4;have con:=refDelta6_at ts p q data more ta tc da dc ma mc w6 TX PX HK.out DX MX hn;unfold fw at con;obtain ⟨y0,y1,⟨y2,y3,y4,y5,y6,y7⟩,y8,y9,y10⟩:=EL.el;simp only [Nat.zero_add] at y1 y2 y3 y4 y5 y6 y7 y8 y9 y10;go_wp2_with fail
   refine con.mono ?_;rintro e w7 ⟨⟨a5,c5,z5,b5,rfl,Z5,hg5⟩,hb⟩;clear con;clear y0 y1 y2 y3 y4 y5 y6 y7 y8 y9 y10;have HG:=aB hg5;clear hg5;replace TX:=TX.next hb;replace PX:=PX.next hb;replace DX:=DX.next hb;replace MX:=MX.next hb;replace EL:=EL.next hb;replace D1:=D1.next hb;replace D2:=D2.next hb;replace Z3:=Z3.next hb;replace hA:=chain hA hb;clear hb;dsimp only;cases b5 with
   | false =>
    go_wp2_with fail
    go_ret;exact ⟨rfl,hA⟩
   | true =>
    obtain ⟨x1,x2⟩:=of_del6 H4.out (HG.out rfl);have y1:e3=0:=by rw [← HE3.out,x1]
    have y2:z5=z3:=by rw [← HZ3.out,x2]
    subst y1 y2;clear HE3 HZ3 H4 HG x1 x2;have con:=JP a3 a5 c3 c5 z5 w7 Z3 Z5;go_wp2_with fail
    refine bC con fun wz hb=>?_;replace hA:=chain hA hb;go_wp2_with fail
    go_ret;exact ⟨rfl,hA⟩
theorem reach_is:reachBytes=140737488351232:=by decide
theorem gC.bytes {H:Type} {enc:TypeId × Value→H} {W:World} {hd:Bool} {t e:TypeId} {fuel n cap:Nat} {a:Option Addr} {x:DataW H × List MemPlace} (hu:Tryz.prog.underlying t=some (.slice e)) (hb:24≤Tryz.prog.bytesOf e)
  (h:DataW.trod enc prog W 0 (fun _=>true) hd fuel t [.slice a n cap]=some x) (hl:gC t x.1):n*24≤140737488351232:=by
 rcases DataW.trod_slice hu h with ⟨hcs,_⟩ | ⟨a',len,cap',elems,rest,m,hm,hcs,rfl,_,_,_,hlen,_⟩
 ·simp at hcs;omega
 ·simp at hcs;obtain ⟨rfl,rfl,rfl⟩:=hcs;have h1:=hl ((elems.length+rest.length)*Tryz.prog.bytesOf e) (by rw [DataW.weights,hu]; simp);have h2:=reach_is;have h4:n*24≤(elems.length+rest.length)*Tryz.prog.bytesOf e:=Nat.mul_le_mul ag hb;omega
theorem open_data24 {H:Type} {enc:TypeId × Value→H} {W:World} {r:Reach} {b0:Nat} {v:Value} {d:DataW H} {p:List MemPlace}
  (hv:Value.okWide prog W r b0 32 v) (h:DataW.Trod enc prog W 0 (fun _=>true) true 32 v d p) (hL:gC 32 d):∃ (a:Option Addr) (cap:Nat) (l:List (List Zp)),v = .slice a l.length cap∧nN W a l∧l.length*24≤140737488351232:=by
 obtain ⟨a,cap,l,rfl,hd,_⟩:=EP hv h hL;obtain ⟨fuel,hf⟩:=h;exact ⟨a,cap,l,rfl,hd,gC.bytes underlying32 Dk hf hL⟩
end Go.Proofs.YtoefpglknaiaeaaGreat
