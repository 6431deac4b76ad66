/- Together: FixPaths, XOpen. -/
import Derived.Deep.Slices
import Derived.Deep.Strs
import Derived.ProofKit
import Derived.OpenShut
import Derived.ChangeOld
import Derived.Lib.SmallJoins
import Derived.Test.YtohjlfhmnmcndaaGreatD17
import Derived.Test.YtohjlfhmnmcndaaGreatD6
/- The walk of tidelaw10.FixPaths. -/
namespace Go.Proofs.YtohjlfhmnmcndaaGreat
open Go.RowKit Go.Lib Go.Shelf

set_option maxRecDepth 100000 in
set_option maxHeartbeats 4000000 in
theorem fixPaths_walk (ea:Option Addr) (ec:Nat) (L:List Int) (w:World) (hE:IX w ea L) :
  Calls Tryz.prog 7 #[.slice ea L.length ec] w fun e w'=>e = .returned (.bool true)∧Below w.heap.size w w':=by
 obtain ⟨i0,hi0,hj0,hj1,hj2⟩:=info_parts Tryz.info42;have hl:=hE.1;unfold maxLen at hl;by_cases h60:60<L.length
 ·have hz:(60:Int)<(L.length:Int):=by omega
  go_enter Tryz.func7,Tryz.ntmps7;go_wp2_with fail
  go_ret;exact ⟨rfl,Below.refl _ _⟩
 have hz:¬ (60:Int)<(L.length:Int):=by omega
 have hA:Below w.heap.size w (w.alloc (.cells Tryz.zeroCells55 55)):=(Below.refl _ _).alloc (Nat.le_refl _) _;have M0:=MatAt.new w;have hs:(w.alloc (.cells Tryz.zeroCells55 55)).heap.size=w.heap.size+1:=by simp
 have E0:=hE.next hA;go_enter Tryz.func7,Tryz.ntmps7;go_upto_block 0 with fail
 generalize w.alloc (.cells Tryz.zeroCells55 55)=wA at *;go_cut [4] (fun v wc=>∃ k,Hid (k≤30∧∀ p ∈ prs L k,p.1<10∧p.2<10)∧OwnZ (w.heap.size+1) wc v (edgL (prs L k))∧MatAt wc w.heap.size (edgR (prs L k))∧Below w.heap.size w wc)
 case first =>
  go_wp2_with fail
  go_loopw [4,5] (fun v i wr=>∃ n k:Nat,n≤L.length∧i = .int .i64 n∧Hid (n=2*k)∧Hid (k≤30∧∀ p ∈ prs L k,p.1<10∧p.2<10)∧OwnZ (w.heap.size+1) wr v (edgL (prs L k))∧MatAt wr w.heap.size (edgR (prs L k))∧Below w.heap.size w wr) (fun _ i _=>L.length - (intOf i).toNat)
  case atStart=>exact ⟨0,0,by omega,rfl,rfl,⟨by omega,fun p hp=>by simp [prs] at hp⟩,ownZ_nil _ _,M0,hA⟩
  case round =>
   clear M0 hA hs E0;obtain ⟨n,k,hn,rfl,HN,HP,O,M,hb⟩:=hrel;by_cases hc:n+1<L.length;rotate_left
   ·have hcz:¬ (n:Int)+1<(L.length:Int):=by omega
    obtain ⟨va,vc,rfl,_⟩:=O.zs;go_wp2_with fail
    all_goals (try (exfalso; omega))
    go_meet
    case rel=>exact ⟨k,HP,O,M,hb⟩
   have hcz:(n:Int)+1<(L.length:Int):=by omega
   obtain ⟨b,off,rfl,hlt,c0,c1⟩:=(hE.next hb).two hc;obtain ⟨va,vc,rfl,_⟩:=O.zs;obtain ⟨x,hx⟩:∃ x,x=L[n]:=⟨_,rfl⟩
   obtain ⟨y,hy⟩:∃ y,y=L[n+1]:=⟨_,rfl⟩
   rw [← hx] at c0;rw [← hy] at c1;have HX:Hid (x=L[n]):=hx;have HY:Hid (y=L[n+1]):=hy;clear hx hy;by_cases hok:(0≤x∧x≤9)∧0≤y∧y≤9;rotate_left
   ·have h4:x<0∨(¬ x<0∧y<0)∨(¬ x<0∧¬ y<0∧9<x)∨(¬ x<0∧¬ y<0∧¬ 9<x∧9<y):=by omega
    clear hok;rcases h4 with h | ⟨h,h'⟩ | ⟨h,h',h''⟩ | ⟨h,h',h'',h3⟩
    all_goals
     go_wp2_with fail
     go_region
     go_wp2_with fail
     go_ret;exact ⟨rfl,hb.drew⟩
   obtain ⟨⟨h1,h2⟩,h3,h4⟩:=hok;obtain ⟨i,rfl⟩:=Int.eq_ofNat_of_zero_le h1;obtain ⟨j,rfl⟩:=Int.eq_ofNat_of_zero_le h3;have n1:¬ (i:Int)<0:=by omega
   have n2:¬ (j:Int)<0:=by omega
   have n3:¬ 9<(i:Int):=by omega
   have n4:¬ 9<(j:Int):=by omega
   have hi:i<10:=by omega
   have hj:j<10:=by omega
   have m0:=M.cell i j hi hj;have mf:=M.fz (i*10+j);have PN:=prs_next HN.out hc HX.out HY.out;have HE:Hid (edgL (prs L (k+1))=edgL (prs L k) ++ [(lnk i j,1)]):=by show _=_; rw [PN,edgL_next]
   have HP1:Hid (k+1≤30∧∀ p ∈ prs L (k+1),p.1<10∧p.2<10):=⟨by have:=HN.out; omega,fun p hp=>by
    rw [PN] at hp;rcases List.mem_append.1 hp with hp | hp
    ·exact HP.out.2 p hp
    ·simp only [List.mem_singleton] at hp;subst hp;exact ⟨hi,hj⟩⟩
   have M1:MatAt (wr.setCell ⟨w.heap.size,i*10+j,none⟩ (.bool true)).drew w.heap.size (edgR (prs L (k+1))):=by
    rw [PN];exact (M.set hi hj (edgR_same _ _ _) fun i' j' _ _ hh=>edgR_other _ hh).next (Below.refl _ _).drew
   have O1:OwnZ (w.heap.size+1) (wr.setCell ⟨w.heap.size,i*10+j,none⟩ (.bool true)).drew (.slice va (edgL (prs L k)).length vc) (edgL (prs L k)):=(O.mat M).next (Below.refl _ _).drew;clear PN;have hb1:Below w.heap.size w (wr.setCell ⟨w.heap.size,i*10+j,none⟩ (.bool true)).drew:=(hb.setCell (p:=⟨w.heap.size,i*10+j,none⟩) (Nat.le_refl _) _).drew;clear M O hb;go_wp2_with fail
   go_region
   go_upto_region 12 with fail
   generalize (wr.setCell ⟨w.heap.size,i*10+j,none⟩ (.bool true)).drew=w1 at *;obtain ⟨xs,ho,he⟩:=O1;have hM1:=M1.lt;have hln:(edgL (prs L k)).length≤30:=by rw [edg_len]; exact HP.out.1
   go_wp2_with fail
   refine (link_ty (i:Int) (j:Int) w1).mono ?_;rintro e w2 ⟨s,rfl,⟨s2,t2⟩,hb2⟩;have o2:=own_next ho hb2;have e2:=he.next hb2;have z2:=hb2.size;have ss:=(s2.next ((Below.refl _ _).alloc (Nat.le_refl _) (.cells #[.slice (some ⟨s,0,none⟩) 2 2,.int .i64 1] 58)))
   have st:=(t2.next ((Below.refl _ _).alloc (Nat.le_refl _) (.cells #[.slice (some ⟨s,0,none⟩) 2 2,.int .i64 1] 58)))
   have eo:=e2.next ((Below.refl _ _).alloc (Nat.le_refl _) (.cells #[.slice (some ⟨s,0,none⟩) 2 2,.int .i64 1] 58));go_wp2_with (at_builtin; (refine wpList_append_own _ rfl _ _ 34 rfl (w.heap.size+1) 58 i0 _ 2 32 Tryz.underlying34 hi0 hj0 hj1 hj2 rfl (by decide) _ _ _ rfl (o2.alloc _) ⟨w2.heap.size,0,none⟩ 1 1 [.slice (some ⟨s,0,none⟩) 2 2,.int .i64 1] rfl rfl ?c1 ?c2 ?c3 ?c4 ?c5 ?_))
   case c1 =>
    intro j u hj
    match j,hj with
    | 0,hj=>simp at hj; subst hj; simp [Addr.add]
    | 1,hj=>simp at hj; subst hj; simp [Addr.add]
   case c2=>intro u hu; simp at hu; rcases hu with rfl | rfl <;> rfl
   case c3=>unfold maxLen; omega
   case c4=>omega
   case c5=>simp; omega
   intro v' w3 ho3 hg3 _;have R:=own_push (l:=edgL (prs L k)) (r:=lnk i j) (o2.alloc _) eo ss st ho3 hg3;have hk3:=fun q hq=>((o2.alloc (.cells #[.slice (some ⟨s,0,none⟩) 2 2,.int .i64 1] 58)).lt q hq).1
   have hb3:Below (w.heap.size+1) w2 w3:=((Below.refl _ _).alloc (by omega) _).grown hg3 (by simp; omega) hk3;have M3:=(M1.next hb2).low hb3 (by omega);have hB3:Below w.heap.size w w3:=(chain1 hb1 hb2).trans (hb3.mono (by omega));rw [← HE.out] at R;clear ho3 hg3 o2 e2 eo ss st s2 t2 hb3 hk3 M1 ho he;obtain ⟨va,vc,rfl,_⟩:=R.zs;go_wp2_with fail
   go_roundw
   case rel=>exact ⟨n+2,k+1,by omega,by go_num,by show _=_; have:=HN.out; omega,HP1,R,M3,hB3⟩
   case measure=>simp [intOf]; omega
 case rest =>
  clear M0 hA hs E0;obtain ⟨n,HP,O,M,hb⟩:=hcut;generalize hEE:edgR (prs L n)=E at M;have HEE:Hid (edgR (prs L n)=E):=hEE;clear hEE;obtain ⟨va,vc,rfl,_⟩:=O.zs;go_upto_block 2 with fail
  go_cut [] (fun wc=>MatAt wc w.heap.size (warN E 10)∧OwnZ (w.heap.size+1) wc (.slice va (edgL (prs L n)).length vc) (edgL (prs L n))∧Below w.heap.size w wc)
  case first =>
   go_wp2_with fail
   go_loopw [65] (fun v wr=>∃ k:Nat,k≤10∧v = .int .i64 k∧MatAt wr w.heap.size (warN E k)∧OwnZ (w.heap.size+1) wr (.slice va (edgL (prs L n)).length vc) (edgL (prs L n))∧Below w.heap.size w wr) (fun v _=>10 - (intOf v).toNat)
   case atStart=>exact ⟨0,by omega,rfl,M,O,hb⟩
   case round =>
    clear M O hb;obtain ⟨k,hk,rfl,M,O,hb⟩:=hrel;by_cases hk1:k<10;rotate_left
    ·obtain rfl:k=10:=by omega
     go_wp2_with fail
     go_meet
     case rel=>exact ⟨M,O,hb⟩
    have hkz:(k:Int)<10:=by omega
    go_wp2_with fail
    go_loopw [68] (fun v wr=>∃ i:Nat,i≤10∧v = .int .i64 i∧MatAt wr w.heap.size (midR k (warN E k) (i*10))∧OwnZ (w.heap.size+1) wr (.slice va (edgL (prs L n)).length vc) (edgL (prs L n))∧Below w.heap.size w wr) (fun v _=>10 - (intOf v).toNat)
    case atStart=>exact ⟨0,by omega,rfl,by rw [Nat.zero_mul,mid_0]; exact M,O,hb⟩
    case round =>
     clear M O hb;obtain ⟨i,hi,rfl,M,O,hb⟩:=hrel;by_cases hi1:i<10;rotate_left
     ·obtain rfl:i=10:=by omega
      go_wp2_with fail
      go_roundw
      case rel=>exact ⟨k+1,by omega,by go_num,M.congr fun i j hi hj=>mid_all hi hj,O,hb⟩
      case measure=>simp [intOf]; omega
     have hiz:(i:Int)<10:=by omega
     go_wp2_with fail
     go_loopw [71] (fun v wr=>∃ j:Nat,j≤10∧v = .int .i64 j∧MatAt wr w.heap.size (midR k (warN E k) (i*10+j))∧OwnZ (w.heap.size+1) wr (.slice va (edgL (prs L n)).length vc) (edgL (prs L n))∧Below w.heap.size w wr) (fun v _=>10 - (intOf v).toNat)
     case atStart=>exact ⟨0,by omega,rfl,by rw [Nat.add_zero]; exact M,O,hb⟩
     case round =>
      clear M O hb;obtain ⟨j,hj,rfl,M,O,hb⟩:=hrel;by_cases hj1:j<10;rotate_left
      ·obtain rfl:j=10:=by omega
       go_wp2_with fail
       go_roundw
       case rel=>exact ⟨i+1,by omega,by go_num,by rw [Nat.add_mul,Nat.one_mul]; exact M,O,hb⟩
       case measure=>simp [intOf]; omega
      have hjz:(j:Int)<10:=by omega
      have c0:=M.cell i j hi1 hj1;have c1:=M.cell i k hi1 hk1;have c2:=M.cell k j hk1 hj1;have cf:=M.fz (i*10+j);have HV:Hid (midR k (warN E k) (i*10+j+1) i j=(midR k (warN E k) (i*10+j) i j || (midR k (warN E k) (i*10+j) i k && midR k (warN E k) (i*10+j) k j))):=mid_new.symm;generalize midR k (warN E k) (i*10+j) i j=A at c0 HV;generalize midR k (warN E k) (i*10+j) i k=B at c1 HV;generalize midR k (warN E k) (i*10+j) k j=C at c2 HV
      have hS:=fun (v:Bool) (e:midR k (warN E k) (i*10+j+1) i j=v)=>And.intro ((M.set (M':=midR k (warN E k) (i*10+j+1)) hi1 hj1 e fun i' j' _ hj' hh=>mid_old hj1 hj' hh).next (Below.refl _ _).drew) (And.intro ((O.mat (o:=i*10+j) (u:=.bool v) M).next (Below.refl _ _).drew) (hb.setCell (p:=⟨w.heap.size,i*10+j,none⟩) (Nat.le_refl _) (.bool v)).drew)
      have HS:Hid (∀ (v:Bool) (e:midR k (warN E k) (i*10+j+1) i j=v),_):=hS;clear hS M O hb;go_wp2_with fail
      cases A <;> cases B <;> cases C
      all_goals
       go_region
       go_wp2_with fail
       go_roundw
       case rel =>
        obtain ⟨M1,O1,hb1⟩:=HS.out _ HV.out;exact ⟨j+1,by omega,by go_num,M1,O1,hb1⟩
       case measure=>simp [intOf]; omega
  case rest =>
   clear M O hb;obtain ⟨M,O,hb⟩:=hcut;have HED:Hid (Edg (canon (edgL (prs L n))) E):=by
    have:=edg_of HP.out.2 (by rw [prs_len]; exact HP.out.1);rw [HEE.out] at this;exact this
   have HF:=fun (d:List Zp) (h:Edg d E)=>And.intro (fix_paths h) (quick_paths h)
   generalize warN E 10=T at M HF;have con:=paths_at wc;go_wp2_with fail
   refine con.mono ?_;rintro e w1 ⟨s,c,rfl,PX,hb1⟩;clear con;rw [tabV,stpV];have z1:(w1.alloc (.cells tabA 31)).heap.size=w1.heap.size+1:=by simp
   have k1:Below w1.heap.size w1 (w1.alloc (.cells tabA 31)):=(Below.refl _ _).alloc (Nat.le_refl _) _;have k2:Below (w1.alloc (.cells tabA 31)).heap.size (w1.alloc (.cells tabA 31)) ((w1.alloc (.cells tabA 31)).alloc (.cells #[.int .i64 3,.int .i64 0,.int .i64 0,.int .i64 0,.int .i64 0,.string ⟨#[]⟩,.int .i64 0,.slice none 0 0,.slice (some ⟨s,0,none⟩) 2 2,.slice none 0 0,.slice (some ⟨c,0,none⟩) 1 1] 31)):=(Below.refl _ _).alloc (Nat.le_refl _) _;have E1:ElX (w1.alloc (.cells tabA 31)) w1.heap.size (tabP 0) pw0:=⟨Elv.new _ (tabP 0) pw0 31,by simp⟩
   have E2:ElX ((w1.alloc (.cells tabA 31)).alloc (.cells #[.int .i64 3,.int .i64 0,.int .i64 0,.int .i64 0,.int .i64 0,.string ⟨#[]⟩,.int .i64 0,.slice none 0 0,.slice (some ⟨s,0,none⟩) 2 2,.slice none 0 0,.slice (some ⟨c,0,none⟩) 1 1] 31)) (w1.alloc (.cells tabA 31)).heap.size stpP (sq s c):=⟨Elv.new _ stpP (sq s c) 31,by simp⟩
   replace E1:=E1.next k2;rw [z1] at E2;replace PX:=PX.next (chain k1 k2);replace hb1:=chain hb1 (chain k1 k2);replace hb:=chain hb hb1;replace M:=M.next hb1;replace O:=O.next hb1;clear z1 k1 k2 hb1;go_upto_region 27 with fail
   generalize (w1.alloc (.cells tabA 31)).alloc (.cells #[.int .i64 3,.int .i64 0,.int .i64 0,.int .i64 0,.int .i64 0,.string ⟨#[]⟩,.int .i64 0,.slice none 0 0,.slice (some ⟨s,0,none⟩) 2 2,.slice none 0 0,.slice (some ⟨c,0,none⟩) 1 1] 31)=w2 at *;have Z:ZsAt w2 va (edgL (prs L n)):=by
    obtain ⟨a',c',e',z'⟩:=O.zs;injection e' with q1 _ _
    rw [q1];exact z'
   have con:=refOfN_at va vc (edgL (prs L n)) w2 Z;unfold GivesN at con;have HZ:Hid (ofE (edgL (prs L n))=0→Edg (ofZ (edgL (prs L n))) E):=fun h=>by
    unfold ofZ;rw [if_pos h];exact HED.out
   generalize ofE (edgL (prs L n))=oe at con HZ;generalize ofZ (edgL (prs L n))=d at con HZ;clear O Z HED HEE HP;go_wp2_with fail
   refine con.mono ?_;rintro e w3 ⟨⟨da,dc,rfl,Zd,nd⟩,hb3⟩;clear con;replace hb:=chain hb hb3;by_cases h0:oe=0;rotate_left
   ·have hb0:(oe != 0)=true:=by simpa using h0
    clear HZ;go_wp2_with fail
    go_ret;exact ⟨rfl,hb⟩
   obtain ⟨⟨f1,f2⟩,f3⟩:=HF d (HZ.out h0);have fl:=rel_len T;subst h0;replace M:=M.next hb3;replace PX:=PX.next hb3;replace E1:=E1.next hb3;replace E2:=E2.next hb3;clear hb3 HF HZ;obtain ⟨b2,b4,T4,D4⟩:=lay_two w3 Zd nd;have con:=fix_at [[3,3]] (tabP 0) pw0 stpP (sq s c) [d] (some ⟨w3.heap.size+1,0,none⟩) 1 (some ⟨w3.heap.size+2,0,none⟩) 1 _ T4 (tabB _ _ 0) (tab_ok 0 (by omega)) (PX.next b4) stp_ok D4;rw [f1,f2] at con;generalize (fixR [[3,3]] (tabP 0) stpP [d]).2.1=fn at con;clear f1 f2;obtain ⟨y0,y1,⟨y2,y3,y4,y5,y6,y7⟩,y8,y9,y10⟩:=(E1.next b2).el
   simp only [Nat.zero_add] at y1 y2 y3 y4 y5 y6 y7 y8 y9 y10;obtain ⟨x0,x1,⟨x2,x3,x4,x5,x6,x7⟩,x8,x9,x10⟩:=(E2.next b2).el;simp only [Nat.zero_add] at x1 x2 x3 x4 x5 x6 x7 x8 x9 x10;rw [tabV,stpV] at con;clear T4 D4;go_wp2_with fail
   refine con.mono ?_;rintro e w5 ⟨v5,rfl,O5,hb5⟩;clear con y0 y1 y2 y3 y4 y5 y6 y7 y8 y9 y10 x0 x1 x2 x3 x4 x5 x6 x7 x8 x9 x10;obtain ⟨za,zc,rfl,Z5,_⟩:=O5.zs2;replace hb5:=chain b4 hb5;replace hb:=chain hb hb5;replace M:=M.next hb5;replace PX:=PX.next hb5;replace E1:=E1.next hb5;replace E2:=E2.next hb5;replace Zd:=Zd.next hb5;clear hb5 b2 b4 O5;obtain ⟨b2,b4,T4,D4⟩:=lay_two w5 Zd nd;have con:=quick_at [[3,3]] (tabP 0) pw0 stpP (sq s c) [d] (some ⟨w5.heap.size+1,0,none⟩) 1 (some ⟨w5.heap.size+2,0,none⟩) 1 _ T4 (tabB _ _ 0) (tab_ok 0 (by omega)) (PX.next b4) stp_ok D4;rw [f3] at con
   dsimp only at con;clear f3;obtain ⟨y0,y1,⟨y2,y3,y4,y5,y6,y7⟩,y8,y9,y10⟩:=(E1.next b2).el;simp only [Nat.zero_add] at y1 y2 y3 y4 y5 y6 y7 y8 y9 y10;obtain ⟨x0,x1,⟨x2,x3,x4,x5,x6,x7⟩,x8,x9,x10⟩:=(E2.next b2).el;simp only [Nat.zero_add] at x1 x2 x3 x4 x5 x6 x7 x8 x9 x10;rw [tabV,stpV] at con;clear T4 D4;go_wp2_with fail
   refine con.mono ?_;rintro e w6 ⟨v6,rfl,O6,hb6⟩;clear con y0 y1 y2 y3 y4 y5 y6 y7 y8 y9 y10 x0 x1 x2 x3 x4 x5 x6 x7 x8 x9 x10;obtain ⟨qa,qc,rfl,Z6,_⟩:=O6.zs2;replace hb6:=chain b4 hb6;replace hb:=chain hb hb6;replace M:=M.next hb6;replace Z5:=Z5.next hb6;clear hb6 b2 b4 O6 PX E1 E2 Zd;have con:=same_eq za qa zc qc (relL T) w6 Z5 Z6;go_wp2_with fail
   refine con.mono ?_;rintro e w7 ⟨rfl,hb7⟩;clear con Z6;replace hb:=chain hb hb7;replace M:=M.next hb7;replace Z5:=Z5.next hb7;clear hb7;go_wp2_with fail
   go_loopw [19,144] (fun nv v wr=>∃ i:Nat,i≤10∧v = .int .i64 i∧nv = .int .i64 (cntR T (i*10):Nat)∧MatAt wr w.heap.size T∧ZsAt wr za (relL T)∧Below w.heap.size w wr) (fun _ v _=>10 - (intOf v).toNat)
   case atStart=>exact ⟨0,by omega,rfl,rfl,M,Z5,hb⟩
   case round =>
    clear M Z5 hb;obtain ⟨i,hi,rfl,rfl,M,Z5,hb⟩:=hrel;by_cases hi1:i<10;rotate_left
    ·obtain rfl:i=10:=by omega
     have ea:cntR T (10*10)=(relL T).length:=cnt_all T;rw [ea];clear ea;go_wp2_with fail
     go_ret;exact ⟨rfl,hb⟩
    have hiz:(i:Int)<10:=by omega
    go_wp2_with fail
    go_loopw [19,147] (fun nv v wr=>∃ j:Nat,j≤10∧v = .int .i64 j∧nv = .int .i64 (cntR T (i*10+j):Nat)∧MatAt wr w.heap.size T∧ZsAt wr za (relL T)∧Below w.heap.size w wr) (fun _ v _=>10 - (intOf v).toNat)
    case atStart=>exact ⟨0,by omega,rfl,rfl,M,Z5,hb⟩
    case round =>
     clear M Z5 hb;obtain ⟨j,hj,rfl,rfl,M,Z5,hb⟩:=hrel;by_cases hj1:j<10;rotate_left
     ·obtain rfl:j=10:=by omega
      go_wp2_with fail
      go_roundw
      case rel=>exact ⟨i+1,by omega,by go_num,by rw [Nat.add_mul,Nat.one_mul],M,Z5,hb⟩
      case measure=>simp [intOf]; omega
     have hjz:(j:Int)<10:=by omega
     have c0:=M.cell i j hi1 hj1;have CN:=cnt_next (T:=T) hi1 hj1;by_cases hT:T i j=true;rotate_left
     ·have hT:T i j=false:=by simpa using hT
      rw [hT,if_neg (by decide),Nat.add_zero] at CN;have HC:Hid (cntR T (i*10+j+1)=cntR T (i*10+j)):=CN;clear CN;rw [hT] at c0;go_wp2_with fail
      go_roundw
      case rel=>exact ⟨j+1,by omega,by go_num,by rw [← Nat.add_assoc,HC.out],M,Z5,hb⟩
      case measure=>simp [intOf]; omega
     obtain ⟨hlt,eg⟩:=rel_lt hi1 hj1 hT;rw [if_pos hT] at CN;rw [hT] at c0;obtain ⟨b,off,rfl,hbl,c1,ar,cr,c2,sr⟩:=Z5.elem hlt;rw [eg] at c1 c2 sr;have HC:Hid (cntR T (i*10+j+1)=cntR T (i*10+j)+1):=CN;clear CN eg;generalize cntR T (i*10+j)=m at *;have hm:(m:Int)<(relL T).length:=by omega
     have hmz:¬ ((relL T).length:Int)≤(m:Int):=by omega
     have hmb:decide (((relL T).length:Int)≤(m:Int))=false:=decide_eq_false hmz;have HR:Hid (rightB (lnk i j)=true):=fit_right (lnk_fit hi1 hj1);have ll:(lnk (i:Int) (j:Int)).length=2:=rfl;dsimp only at c1 c2 sr;rw [ll] at c2;clear c1;go_upto_region 42 with fail
     have hCC:∀ W W':World,Cl42 b (off+m*2) ar cr (lnk i j) W→Below W.heap.size W W'→Cl42 b (off+m*2) ar cr (lnk i j) W':=fun _ _ h hb=>h.next hb
     have hdr:Below wr.heap.size wr wr.drew:=(Below.refl _ _).drew;have CW:Cl42 b (off+m*2) ar cr (lnk i j) wr.drew:=hCC _ _ ⟨c2,hbl,sr⟩ hdr;clear c2 sr c0;refine wp_region_cls (Cl42 b (off+m*2) ar cr (lnk i j)) (by kernel_rfl) ?_;refine wpY_take hCC (some 156) (i:=0) (v:=.int .i64 m) rfl rfl (by kernel_rfl) (by kernel_rfl) (by kernel_rfl) (fun _ _ _ h=>h) (Or.inl ⟨rfl,fun n hn=>?_⟩) CW ?_
     ·go_simp
     simp only [Act.put,pA,pB,pC];refine wpY_take hCC (some 157) (i:=1) (v:=.slice (some ⟨b,off,none⟩) (relL T).length zc) rfl rfl (by kernel_rfl) (by kernel_rfl) (by kernel_rfl) (fun _ _ _ h=>h) (Or.inl ⟨rfl,fun n hn=>?_⟩) CW ?_
     ·go_simp
     simp only [Act.put,pA,pB,pC];refine wpY_take hCC (some 158) (i:=2) (v:=.int .i64 ((relL T).length:Nat)) rfl rfl (by kernel_rfl) (by kernel_rfl) (by kernel_rfl) (fun _ _ _ h=>h) (Or.inl ⟨rfl,fun n hn=>?_⟩) CW ?_
     ·go_simp
     simp only [Act.put,pA,pB,pC];refine wpY_take hCC (some 159) (i:=3) (v:=.bool false) rfl rfl (by kernel_rfl) (by kernel_rfl) (by kernel_rfl) (fun _ _ _ h=>h) (Or.inl ⟨rfl,fun n hn=>?_⟩) CW ?_
     ·go_simp
     simp only [Act.put,pA,pB,pC];refine wpY_take hCC (some 160) (i:=4) (v:=.bool false) rfl rfl (by kernel_rfl) (by kernel_rfl) (by kernel_rfl) (fun _ _ _ h=>h) (Or.inl ⟨rfl,fun n hn=>?_⟩) CW ?_
     ·go_simp
     simp only [Act.put,pA,pB,pC];refine wpY_take hCC (some 161) (i:=5) (v:=.slice (some ⟨b,off,none⟩) (relL T).length zc) rfl rfl (by kernel_rfl) (by kernel_rfl) (by kernel_rfl) (fun _ _ _ h=>h) (Or.inl ⟨rfl,fun n hn=>?_⟩) CW ?_
     ·go_simp
     simp only [Act.put,pA,pB,pC];refine wpY_take hCC (some 162) (i:=6) (v:=.int .i64 m) rfl rfl (by kernel_rfl) (by kernel_rfl) (by kernel_rfl) (fun _ _ _ h=>h) (Or.inl ⟨rfl,fun n hn=>?_⟩) CW ?_
     ·go_simp
     simp only [Act.put,pA,pB,pC];refine wpY_take hCC (some 163) (i:=7) (v:=.pointer (some ⟨b,off+m*2,none⟩)) rfl rfl (by kernel_rfl) (by kernel_rfl) (by kernel_rfl) (fun _ _ _ h=>h) (Or.inl ⟨rfl,fun n hn=>?_⟩) CW ?_
     ·go_simp
     simp only [Act.put,pA,pB,pC];refine wpY_take hCC (some 164) (i:=8) (v:=.pointer (some ⟨b,off+m*2,none⟩)) rfl rfl (by kernel_rfl) (by kernel_rfl) (by kernel_rfl) (fun _ _ _ h=>h) (Or.inl ⟨rfl,fun n hn=>?_⟩) CW ?_
     ·go_simp
     simp only [Act.put,pA,pB,pC];refine wpY_take hCC (some 165) (i:=9) (v:=.slice ar 2 cr) rfl rfl (by kernel_rfl) (by kernel_rfl) (by kernel_rfl) (fun _ _ _ h=>h) (Or.inl ⟨rfl,fun n hn=>?_⟩) CW ?_
     ·have hc:=hn.1;go_simp
     simp only [Act.put,pA,pB,pC];refine wpY_take hCC (some 166) (i:=10) (v:=.int .i64 i) rfl rfl (by kernel_rfl) (by kernel_rfl) (by kernel_rfl) (fun _ _ _ h=>h) (Or.inl ⟨rfl,fun n hn=>?_⟩) CW ?_
     ·go_simp
     simp only [Act.put,pA,pB,pC];refine wpY_take hCC (some 167) (i:=11) (v:=.int .i64 j) rfl rfl (by kernel_rfl) (by kernel_rfl) (by kernel_rfl) (fun _ _ _ h=>h) (Or.inl ⟨rfl,fun n hn=>?_⟩) CW ?_
     ·go_simp
     simp only [Act.put,pA,pB,pC];refine wpY_step (rs:=[12]) (by kernel_rfl) (by simp) ?_;intro w8 hb8 jj hjj;obtain rfl:jj=12:=by simpa using hjj
     clear hjj;have CW8:=hCC _ _ CW hb8;have con:=link_ty (i:Int) (j:Int) w8;refine wpOp_step rfl (fun K hK=>?_);go_simp;refine con.mono ?_;rintro e w9 ⟨s9,rfl,⟨S9,_⟩,hb9⟩;clear con;have CW9:=hCC _ _ CW8 hb9;have A9:=chain hdr (chain hb8 hb9);refine hK _ _ ⟨CW9,?_⟩;clear hK K CW CW8 hb8 hb9;refine wpY_take hCC (some 169) (i:=13) (v:=.slice (some ⟨s9,0,none⟩) 2 2) rfl rfl (by kernel_rfl) (by kernel_rfl) (by kernel_rfl) (fun _ _ _ h=>h) (Or.inl ⟨rfl,fun n hn=>?_⟩) CW9 ?_
     ·have hf:=field_row (.slice (some ⟨s9,0,none⟩) 2 2) (.int .i64 1) n;go_simp
     simp only [Act.put,pA,pB,pC];refine wpY_step (rs:=[14]) (by kernel_rfl) (by simp) ?_;intro wa hba jj hjj;obtain rfl:jj=14:=by simpa using hjj
     clear hjj;have CWa:=hCC _ _ CW9 hba;have con:=refRows_at ar (some ⟨s9,0,none⟩) cr 2 (lnk i j) (lnk i j) wa CWa.2.2 (S9.next hba) HR.out;rw [cmpL_refl,ll] at con;refine wpOp_step rfl (fun K hK=>?_);go_simp;refine con.mono ?_;rintro e wb ⟨rfl,hbb⟩;clear con;have CWb:=hCC _ _ CWa hbb;replace A9:=chain A9 (chain hba hbb);refine hK _ _ ⟨CWb,?_⟩;clear hK K CW9 CWa hba hbb S9;refine wpY_take hCC (some 171) (i:=15) (v:=.bool false) rfl rfl (by kernel_rfl) (by kernel_rfl) (by kernel_rfl) (fun _ _ _ h=>h) (Or.inl ⟨rfl,fun n hn=>?_⟩) CWb ?_
     ·go_simp
     simp only [Act.put,pA,pB,pC];refine wpY_take hCC (some 172) (i:=16) (v:=.bool false) rfl rfl (by kernel_rfl) (by kernel_rfl) (by kernel_rfl) (fun _ _ _ h=>h) (Or.inl ⟨rfl,fun n hn=>?_⟩) CWb ?_
     ·go_simp
     simp only [Act.put,pA,pB,pC];refine wpY_done (by kernel_rfl) ?_;intro wd hbd;replace A9:=chain A9 hbd;replace hb:=chain hb A9;replace M:=M.next A9;replace Z5:=Z5.next A9;clear A9 hbd CWb hCC hdr;go_wp2_with fail
     go_roundw
     case rel=>exact ⟨j+1,by omega,by go_num,by rw [← Nat.add_assoc,HC.out]; rfl,M,Z5,hb⟩
     case measure=>simp [intOf]; omega
end Go.Proofs.YtohjlfhmnmcndaaGreat
namespace Go.Proofs.YtohjlfhmnmcndaaGreat
open Go.ChangeShapes Go.WideShapes Go.ChangeAt Go.RowKit Go.Joins

set_option maxRecDepth 100000 in
theorem addr_addX (b off i:Nat):(⟨b,off,none⟩:Addr).add i=⟨b,off+i,none⟩:=by
 unfold Addr.add;by_cases h:i=0 <;> simp [h]
theorem q3:Tryz.prog.cellsOf 3=1:=by kernel_rfl
theorem q2:Tryz.prog.cellsOf 2=1:=by kernel_rfl
theorem q9:Tryz.prog.cellsOf 9=1:=by kernel_rfl
set_option maxRecDepth 100000 in
theorem open_ints {H:Type} {enc:TypeId × Value→H} {W:World} {r:Reach} {b0:Nat} {v:Value} {d:DataW H} {p:List MemPlace}
  (hv:Value.okWide Tryz.prog W r b0 45 v) (h:DataW.Trod enc Tryz.prog W 0 (fun _=>true) true 45 v d p):∃ (a:Option Addr) (cap:Nat) (l:List Int),v = .slice a l.length cap∧IsAt W.heap.size W a l:=by
 obtain ⟨a0,len,cap,rfl⟩:=okWide_slice Tryz.underlying45 hv
 obtain ⟨fuel,hf⟩:=h
 rcases Go.Deep.open_slice1 Tryz.underlying45 q3 hf with ⟨hcs,_⟩ | ⟨a,len',cap',m,n,V,D,Pl,hcs,_,hl,hm,hmm,_,hx⟩
 ·simp [Value.cells] at hcs
  obtain ⟨rfl,rfl,rfl⟩:=hcs
  exact ⟨none,0,[],rfl,by simp,.inl rfl⟩
 ·simp [Value.cells] at hcs
  obtain ⟨rfl,rfl,rfl⟩:=hcs
  simp only [if_true] at hmm
  obtain ⟨f,hf'⟩:=Go.Deep.choose_lt (α:=Int) (n:=len) (p:=fun i (k:Int)=>W.cell? (a.add i)=some (.int .i64 k)) (fun i hi=>by
   obtain ⟨h1,h2⟩:=hx i (by omega)
   obtain ⟨k,e0,_,_⟩:=DataW.trod_int Tryz.underlying3 h2
   simp at e0
   exact ⟨k,by rw [h1,e0]⟩)
  refine ⟨some a,cap,(List.range len).map f,by simp,?_,?_⟩
  ·simp; omega
  by_cases h0:len=0
  ·left; simp [h0]
  ·right
   obtain ⟨b,off,spot⟩:=a
   have hc:=hf' 0 (by omega)
   have hspot:spot=none:=by simpa [Addr.add] using World.cell?_spot hc
   subst hspot
   refine ⟨b,off,rfl,World.block_lt_of_cell? W _ (by simpa [Addr.add] using hc),fun i hi=>?_⟩
   have hi':i<len:=by simpa using hi
   have:=hf' i hi'
   simp only [addr_addX] at this
   simp only [List.getElem_map,List.getElem_range]
   exact this
instance:Inhabited Ex:=⟨.mk 0 (0,0,⟨#[]⟩) 0 []⟩
end Go.Proofs.YtohjlfhmnmcndaaGreat
