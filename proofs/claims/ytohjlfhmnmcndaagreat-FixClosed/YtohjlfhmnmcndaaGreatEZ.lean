/- The region of FixClosed. -/
import Derived.Test.YtohjlfhmnmcndaaGreatB16
namespace Go.Proofs.YtohjlfhmnmcndaaGreat
open Go.RowKit Go.Lib Go.Shelf

set_option maxRecDepth 100000 in
set_option maxHeartbeats 4000000 in
theorem region7 {Q:Exit→Act→World→Prop} {ta:Option Addr} {tc:Nat} {ts:List (List Int)} {ca:Option Addr} {cc:Nat} {cols:List Int} {p:Pl} {q:Pw} {bp:Nat} {da:Option Addr} {dc:Nat} {data:List (List Zp)} {za:Option Addr} {zc:Nat} {z:List Zp} (a:Act) (w:World)
  (hsz:a.tmps.size=101) (h0:a.tmps.getD 0 undef = .slice ta ts.length tc) (h1:a.tmps.getD 12 undef = .slice ca cols.length cc) (h2:a.tmps.getD 6 undef = .pointer (some ⟨bp,0,none⟩)) (h3:a.tmps.getD 3 undef = .slice da data.length dc) (h4:a.tmps.getD 9 undef = .slice za z.length zc)
  (TX:TbX w ta ts) (IC:IX w ca cols) (EL:ElX w bp p q) (PX:PlX w p q) (hk:PlOk p) (DX:DtAt w da data) (ZX:ZsAt w za z) (hn:za=none→zc=0) (l1:ts.length≤8) (l2:data.length≤8)
  (fin:∀ a' w' v,Below w.heap.size w w'→Same (opsN Tryz.f4 7) a a'→a'.tmps.getD 14 undef=v→a'.tmps.getD 11 undef = .int .i64 (evE (ts ++ [cols]) (data ++ [z]) p)→OwnZ w.heap.size w' v (evZ (ts ++ [cols]) (data ++ [z]) p)→Q .normal a' w'):(Code.region 7 (opsN Tryz.f4 7) true).wp Tryz.prog Q a w:=by
 obtain ⟨i1,hi1,hj0,hj1,hj2⟩:=info_parts infoT
 obtain ⟨i2,hi2,hk0,hk1,hk2⟩:=info_parts infoSD
 obtain ⟨f,RT,hf0⟩:=TX.raw
 obtain ⟨f',RD,hf'⟩:=DX.raw
 obtain ⟨xs,hxs⟩:∃ xs,(List.range ts.length).map f=xs:=⟨_,rfl⟩
 obtain ⟨ys,hys⟩:∃ ys,(List.range data.length).map f'=ys:=⟨_,rfl⟩
 rw [hxs] at RT
 rw [hys] at RD
 obtain ⟨ee,hee⟩:∃ ee,evE (ts ++ [cols]) (data ++ [z]) p=ee:=⟨_,rfl⟩
 obtain ⟨ez,hez⟩:∃ ez,evZ (ts ++ [cols]) (data ++ [z]) p=ez:=⟨_,rfl⟩
 rw [hee,hez] at fin
 have gB:∀ (i:Nat) (W W':World),Below W.heap.size W W'→g7 w.heap.size i W W':=fun i W W' h=>.inl h
 have gR:∀ (i:Nat) (W:World),Below w.heap.size w W→g7 w.heap.size i W W:=fun i W _=>.inl (Below.refl _ _)
 refine wp_region_done (by kernel_rfl) (fun W=>Below w.heap.size w W) (f7 w.heap.size ta tc ts.length xs ca cols.length cc (plV p q) da dc data.length ys za z.length zc ee ez) (fun i _=>g7 w.heap.size i) (fun d _ i j W W' v hne hd _ h hg=>f7_next _ _ _ _ _ _ _ _ _ _ _ _ _ _ _ _ _ _ d i j W W' v hne hd h hg) (by rw [hsz]; kernel_rfl) (Below.refl _ _).drew ?_ ?_
 ·refine ⟨?_,?_,?_,?_,?_,?_,?_,?_,?_,?_,?_,?_,?_,?_,?_,?_,?_,?_,?_,trivial⟩
  ·refine sd_value rfl rfl fun d a' W hc hs hd _ hf=>⟨.slice (some ⟨W.heap.size,0,none⟩) 0 0,W.alloc (.cells #[] 45),?_,chain hc ((Below.refl _ _).alloc (Nat.le_refl _) _),gB _ _ _ ((Below.refl _ _).alloc (Nat.le_refl _) _),.inr ⟨_,rfl,hc.size,heap_new W #[] 45⟩⟩
   go_simp
  ·exact sd_move rfl rfl rfl (by kernel_rfl) (fun _=>gR _) (fun d W _=>h0)
  ·refine sd_value rfl rfl fun d a' W hc hs hd _ hf=>?_
   have k0:=knownD hf (j:=0) (t:=44) (by kernel_rfl)
   have k1:a'.tmps.getD 45 undef=_:=knownD hf (j:=1) (t:=45) (by kernel_rfl)
   rcases k0 with k0 | ⟨g,k0,hl,hq⟩
   ·rw [hd] at k0; cases k0
   obtain ⟨v',w',hr,ho,he,hb⟩:=app7 (ty:=22) true Tryz.underlying22 hi1 hj0 hj1 hj2 (lo:=w.heap.size) (v:=.slice (some ⟨g,0,none⟩) 0 0) (n:=0) (xs:=[]) ⟨rfl,.inr ⟨g,0,#[],rfl,hl,hq,Nat.le_refl _,by unfold maxLen; omega,rfl,rfl⟩⟩ tc (RT.next hc) (by omega) hc.size (.inl ⟨g,rfl⟩) (fun _=>rfl)
   rw [Nat.zero_add] at ho he
   have hG:g7 w.heap.size 2 W w':=hb.elim .inl fun h=>.inr (.inl ⟨.inl rfl,h⟩)
   refine ⟨v',w',?_,c7_next hc hG,hG,.inr ⟨ho,fun h0=>⟨g,he h0⟩⟩⟩
   simp only [execOp,Act.eval,k0,k1,resolve,invoke,builtin,List.map_toArray,List.map_cons,List.map_nil]
   simp [hr]
  ·exact sd_move rfl rfl rfl (by kernel_rfl) (fun _=>gR _) (fun d W _=>h1)
  ·refine sd_value rfl rfl fun d a' W hc hs hd _ hf=>?_
   have k:a'.tmps.getD 47 undef=_:=knownD hf (j:=3) (t:=47) (by kernel_rfl)
   refine ⟨.slice (some ⟨W.heap.size,0,none⟩) 1 1,W.alloc (.cells #[.slice ca cols.length cc] 45),?_,chain hc ((Below.refl _ _).alloc (Nat.le_refl _) _),gB _ _ _ ((Below.refl _ _).alloc (Nat.le_refl _) _),⟨_,rfl,heap_new W #[.slice ca cols.length cc] 45⟩⟩
   simp only [execOp,Act.eval,k,List.map_toArray,List.map_cons,List.map_nil]
   clear k hf
   go_simp
  ·refine sd_value rfl rfl fun d a' W hc hs hd _ hf=>?_
   have k0:=knownD hf (j:=2) (t:=46) (by kernel_rfl)
   obtain ⟨v0,e0⟩:∃ v0,a'.tmps.getD 46 undef=v0:=⟨_,rfl⟩
   rw [e0] at k0
   obtain ⟨b,k1,hq⟩:=knownD hf (j:=4) (t:=48) (by kernel_rfl)
   rcases k0 with k0 | ⟨k0,hnl⟩
   ·rw [hd] at k0; cases k0
   have RR:Raw W (some ⟨b,0,none⟩) 1 1 [.slice ca cols.length cc]:=⟨rfl,by intro x hx; simp at hx; subst hx; rfl,(by intro e; cases e),fun ad e j x hj=>by
    cases e
    match j,hj with
    | 0,hj =>
     simp at hj
     subst hj
     rw [addr_addJ]
     exact cell_of (i:=0) hq rfl⟩
   obtain ⟨v',w',hr,ho,he,hb⟩:=app7 (ty:=22) false Tryz.underlying22 hi1 hj0 hj1 hj2 k0 1 RR (by omega) hc.size (by
    rcases Nat.eq_zero_or_pos ts.length with h | h
    ·exact .inl (hnl h)
    ·exact .inr ⟨h,rfl⟩) (fun h=>by omega)
   have hG:g7 w.heap.size 5 W w':=hb.elim .inl fun h=>.inr (.inl ⟨.inr rfl,h⟩)
   refine ⟨v',w',?_,c7_next hc hG,hG,⟨⟨?_,done_at _ _⟩,ho⟩⟩
   ·simp only [execOp,Act.eval,e0,k1,resolve,invoke,builtin,List.map_toArray,List.map_cons,List.map_nil]
    simp [hr]
   ·exact done_of (knownE hf (j:=2) (t:=46) (by kernel_rfl)).1
  ·refine sd_value rfl rfl fun d a' W hc hs hd _ hf=>⟨plV p q,W,?_,hc,gR _ _ hc,rfl⟩
   have h:a'.tmps.getD 6 undef = .pointer (some ⟨bp,0,none⟩):=(hs.tmps 6 (by kernel_rfl)).trans h2
   obtain ⟨y0,y1,⟨y2,y3,y4,y5,y6,y7⟩,y8,y9,y10⟩:=(EL.next hc).el
   simp only [Nat.zero_add] at y1 y2 y3 y4 y5 y6 y7 y8 y9 y10
   simp only [execOp,Act.eval,h]
   unfold plV
   clear h hs hf fin RT RD hf' gB gR
   go_simp
  ·refine sd_value rfl rfl fun d a' W hc hs hd _ hf=>⟨.slice (some ⟨W.heap.size,0,none⟩) 0 0,W.alloc (.cells #[] 34),?_,chain hc ((Below.refl _ _).alloc (Nat.le_refl _) _),gB _ _ _ ((Below.refl _ _).alloc (Nat.le_refl _) _),.inr ⟨_,rfl,hc.size,heap_new W #[] 34⟩⟩
   go_simp
  ·exact sd_move rfl rfl rfl (by kernel_rfl) (fun _=>gR _) (fun d W _=>h3)
  ·refine sd_value rfl rfl fun d a' W hc hs hd _ hf=>?_
   have k0:=knownD hf (j:=7) (t:=51) (by kernel_rfl)
   have k1:a'.tmps.getD 52 undef=_:=knownD hf (j:=8) (t:=52) (by kernel_rfl)
   rcases k0 with k0 | ⟨g,k0,hl,hq⟩
   ·rw [hd] at k0; cases k0
   obtain ⟨v',w',hr,ho,he,hb⟩:=app7 (ty:=32) true Tryz.underlying32 hi2 hk0 hk1 hk2 (lo:=w.heap.size) (v:=.slice (some ⟨g,0,none⟩) 0 0) (n:=0) (xs:=[]) ⟨rfl,.inr ⟨g,0,#[],rfl,hl,hq,Nat.le_refl _,by unfold maxLen; omega,rfl,rfl⟩⟩ dc (RD.next hc) (by omega) hc.size (.inl ⟨g,rfl⟩) (fun _=>rfl)
   rw [Nat.zero_add] at ho he
   have hG:g7 w.heap.size 9 W w':=hb.elim .inl fun h=>.inr (.inr ⟨.inl rfl,h⟩)
   refine ⟨v',w',?_,c7_next hc hG,hG,.inr ⟨ho,fun h0=>⟨g,he h0⟩⟩⟩
   simp only [execOp,Act.eval,k0,k1,resolve,invoke,builtin,List.map_toArray,List.map_cons,List.map_nil]
   simp [hr]
  ·exact sd_move rfl rfl rfl (by kernel_rfl) (fun _=>gR _) (fun d W _=>h4)
  ·refine sd_value rfl rfl fun d a' W hc hs hd _ hf=>?_
   have k:a'.tmps.getD 54 undef=_:=knownD hf (j:=10) (t:=54) (by kernel_rfl)
   refine ⟨.slice (some ⟨W.heap.size,0,none⟩) 1 1,W.alloc (.cells #[.slice za z.length zc] 34),?_,chain hc ((Below.refl _ _).alloc (Nat.le_refl _) _),gB _ _ _ ((Below.refl _ _).alloc (Nat.le_refl _) _),⟨_,rfl,heap_new W #[.slice za z.length zc] 34⟩⟩
   simp only [execOp,Act.eval,k,List.map_toArray,List.map_cons,List.map_nil]
   clear k hf
   go_simp
  ·refine sd_value rfl rfl fun d a' W hc hs hd _ hf=>?_
   have k0:=knownD hf (j:=9) (t:=53) (by kernel_rfl)
   obtain ⟨v0,e0⟩:∃ v0,a'.tmps.getD 53 undef=v0:=⟨_,rfl⟩
   rw [e0] at k0
   obtain ⟨b,k1,hq⟩:=knownD hf (j:=11) (t:=55) (by kernel_rfl)
   rcases k0 with k0 | ⟨k0,hnl⟩
   ·rw [hd] at k0; cases k0
   have RR:Raw W (some ⟨b,0,none⟩) 1 1 [.slice za z.length zc]:=⟨rfl,by intro x hx; simp at hx; subst hx; rfl,(by intro e; cases e),fun ad e j x hj=>by
    cases e
    match j,hj with
    | 0,hj =>
     simp at hj
     subst hj
     rw [addr_addJ]
     exact cell_of (i:=0) hq rfl⟩
   obtain ⟨v',w',hr,ho,he,hb⟩:=app7 (ty:=32) false Tryz.underlying32 hi2 hk0 hk1 hk2 k0 1 RR (by omega) hc.size (by
    rcases Nat.eq_zero_or_pos data.length with h | h
    ·exact .inl (hnl h)
    ·exact .inr ⟨h,rfl⟩) (fun h=>by omega)
   have hG:g7 w.heap.size 12 W w':=hb.elim .inl fun h=>.inr (.inr ⟨.inr rfl,h⟩)
   refine ⟨v',w',?_,c7_next hc hG,hG,⟨⟨?_,done_at _ _⟩,ho⟩⟩
   ·simp only [execOp,Act.eval,e0,k1,resolve,invoke,builtin,List.map_toArray,List.map_cons,List.map_nil]
    simp [hr]
   ·exact done_of (knownE hf (j:=9) (t:=53) (by kernel_rfl)).1
  ·refine sd_enter rfl rfl fun d a' W hc hs hd _ hf=>?_
   obtain ⟨⟨d2,d5⟩,k5⟩:=knownD hf (j:=5) (t:=49) (by kernel_rfl)
   have k6:a'.tmps.getD 50 undef=_:=knownD hf (j:=6) (t:=50) (by kernel_rfl)
   obtain ⟨⟨d9,d12⟩,k12⟩:=knownD hf (j:=12) (t:=56) (by kernel_rfl)
   obtain ⟨a5,c5,e5,T5⟩:∃ x y,a'.tmps.getD 49 undef = .slice x (ts ++ [cols]).length y∧TbAt W.heap.size W x (ts ++ [cols]):=by
    rcases own_sls k5 with ⟨h0,_⟩ | ⟨g,cap,e,hg,hcl⟩
    ·omega
    rw [← hxs] at hcl
    refine ⟨_,cap,by simpa using e,tb_snoc rfl hg hcl (fun i hi=>?_) (IC.next hc)⟩
    obtain ⟨ai,ci,e,h⟩:=hf0 i hi
    exact ⟨ai,ci,e,IX.next h hc⟩
   obtain ⟨aC,cC,eC,DC⟩:∃ x y,a'.tmps.getD 56 undef = .slice x (data ++ [z]).length y∧DtAt W x (data ++ [z]):=by
    rcases own_sls k12 with ⟨h0,_⟩ | ⟨g,cap,e,hg,hcl⟩
    ·omega
    rw [← hys] at hcl
    refine ⟨_,cap,by simpa using e,dt_snoc rfl hg hcl (fun i hi=>?_) (ZX.next hc) hn⟩
    obtain ⟨ai,ci,e,h,k⟩:=hf' i hi
    exact ⟨ai,ci,e,h.next hc,k⟩
   refine ⟨16,#[.slice a5 (ts ++ [cols]).length c5,plV p q,.slice aC (data ++ [z]).length cC],?_,(evalT_at (ts ++ [cols]) (data ++ [z]) p q a5 c5 aC cC W T5 DC (PX.next hc) hk).mono fun e w' ⟨v,he,hO,hb⟩=>⟨_,he,chain hc hb,gB _ _ _ hb,⟨done_of d2,done_of d5,done_of d9,done_of d12⟩,v,by rw [hee],?_⟩⟩
   ·simp only [execOp,Act.eval,e5,k6,eC,resolve,List.map_toArray,List.map_cons,List.map_nil]
    rfl
   ·rw [← hez]
    exact hO.mono hc.size
  ·exact sd_again rfl rfl (.inl rfl) (j:=13) (by kernel_rfl) (fun _=>gR _) (fun d W v h=>⟨h.1.at_,h.2⟩)
  ·exact sd_extract rfl rfl rfl (j:=14) (by kernel_rfl) (fun _=>gR _) (fun d W v h=>by obtain ⟨h0,u,e,h⟩:=h; exact ⟨_,u,e,rfl,h0.at_,h⟩)
  ·exact sd_extract rfl rfl rfl (j:=14) (by kernel_rfl) (fun _=>gR _) (fun d W v h=>by obtain ⟨h0,u,e,h⟩:=h; exact ⟨_,_,e,rfl,rfl⟩)
  ·exact sd_again rfl rfl (.inr rfl) (j:=15) (by kernel_rfl) (fun _=>gR _) (fun d W v h=>⟨h.1.at_,h.2⟩)
  ·exact sd_again rfl rfl (.inr rfl) (j:=16) (by kernel_rfl) (fun _=>gR _) (fun d W v h=>h)
 ·intro d a' w' hc hs _ hf
  exact fin a' w' _ hc hs rfl (hf 18 (of_decide_eq_true (by kernel_rfl)) _ 11 rfl rfl) (hf 17 (of_decide_eq_true (by kernel_rfl)) _ 14 rfl rfl).2
end Go.Proofs.YtohjlfhmnmcndaaGreat
