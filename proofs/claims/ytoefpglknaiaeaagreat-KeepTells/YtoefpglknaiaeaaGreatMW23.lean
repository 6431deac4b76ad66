import Derived.Test.YtoefpglknaiaeaaGreatMW22
set_option maxHeartbeats 16000000
set_option maxRecDepth 100000
namespace Go.Proofs.YtoefpglknaiaeaaGreat
open Go.RowKit
theorem qt {ts:List (List Int)}:∀ (l:List Pl),(∀ p ∈ l,∀ m d m' d',(bD ts p m d).1=0→m'≤m→d'≤d→(bD ts p m' d').1=0∧(bD ts p m' d').2 - m'=(bD ts p m d).2 - m)→∀ m d m' d',(bo ts l m d).1=0→m'≤m→d'≤d→(bo ts l m' d').1=0∧(bo ts l m' d').2 - m'=(bo ts l m d).2 - m
 | [],_,m,d,m',d',_,_,_=>by simp [bo]
 | p :: r,ih,m,d,m',d',h,hm,hd=>by
  obtain ⟨h1,h2,h3⟩:=j8 h
  obtain ⟨a1,a2⟩:=ih p (by simp) m d m' d' h1 hm hd
  obtain ⟨b1,b2⟩:=qt r (fun q hq=>ih q (by simp [hq])) _ d (bD ts p m' d').2 d' h2 ag hd
  have e:bo ts (p :: r) m' d'=bo ts r (bD ts p m' d').2 d':=by rw [bo,if_neg (by simp [a1])]
  rw [e,h3]
  exact ⟨b1,by omega⟩
theorem Bz {ts:List (List Int)}:∀ (p:Pl) (m d m' d':Int),(bD ts p m d).1=0→m'≤m→d'≤d→(bD ts p m' d').1=0∧(bD ts p m' d').2 - m'=(bD ts p m d).2 - m :=
 Pl.ind fun k n x xs gs ks ih m d m' d' h hm hd=>by
  obtain ⟨h1,h2,h3,h4⟩:=iE h
  obtain ⟨b1,b2⟩:=qt ks ih (m+1) (d+1) (m'+1) (d'+1) h2 ag ag
  have q:eF k ks.length (m'+1) d'=0:=by
   obtain ⟨g1,g2,g3,g4,g5⟩:=jM h1;unfold eF;rw [if_neg ag,if_neg ag,if_neg (by simpa using g1)]
  have e:bD ts (.mk k n x xs gs ks) m' d'=(hM ts k n x xs gs (ko ts ks),(bo ts ks (m'+1) (d'+1)).2):=by
   rw [bD,if_neg (by simp [q]),if_neg (by simp [b1])]
  have e':bD ts (.mk k n x xs gs ks) m d=(hM ts k n x xs gs (ko ts ks),(bo ts ks (m+1) (d+1)).2):=by
   rw [bD,if_neg (by simp [h1]),if_neg (by simp [h2])]
  rw [e,e'];exact ⟨h3,by show _ - _=_ - _; omega⟩
theorem vp {ts:List (List Int)} {p r:Pl} (h:dp ts p=0) (hr:r ∈ p.ks):dp ts r=0:=by
 obtain ⟨h1,h2⟩:=fX h;cases p with
 | mk k n x xs gs ks =>
  obtain ⟨_,g2,_,_⟩:=iE h2;have key:∀ (l:List Pl) (m d:Int),0≤m→1≤d→(bo ts l m d).1=0→∀ r ∈ l,(bD ts r 0 1).1=0:=by
   intro l
   induction l with
   | nil=>intro m d _ _ _ r hr; simp at hr
   | cons p l ih =>
    intro m d hm hd hl r hr;obtain ⟨c1,c2,_⟩:=j8 hl;rcases List.mem_cons.1 hr with rfl | hr
    ·exact (Bz _ m d 0 1 c1 hm hd).1
    ·have:=(wj ts p m d c1).1;exact ih _ d ag hd c2 r hr
  unfold dp;rw [if_neg (by simp [h1])];exact key ks _ _ (by decide) (by decide) g2 r hr
open Go.Lib Go.Shelf _root_.Go.Proofs.Tryz
theorem elZero0 {W:World} {b:Nat} {p:Pl} {q:Pw} (h:ft W b 0 p q):W.cell? ⟨b,0,none⟩=some (.int .i64 p.k)∧W.cell? ⟨b,1,none⟩=some (.int .i64 p.n)∧W.cell? ⟨b,2,none⟩=some (.int .i64 p.x.k)∧W.cell? ⟨b,2+1,none⟩=some (.int .i64 p.x.v.1)∧W.cell? ⟨b,2+2,none⟩=some (.int .i64 p.x.v.2.1)∧W.cell? ⟨b,2+3,none⟩=some (.string p.x.v.2.2)∧W.cell? ⟨b,2+4,none⟩=some (.int .i64 p.x.c)∧W.cell? ⟨b,2+5,none⟩=some (.slice q.xa p.x.ks.length q.xc)∧W.cell? ⟨b,8,none⟩=some (.slice q.sa p.xs.length q.sc)∧W.cell? ⟨b,9,none⟩=some (.slice q.ga p.gs.length q.gc)∧W.cell? ⟨b,10,none⟩=some (.slice q.ka p.ks.length q.kc):=by
 obtain ⟨y0,y1,⟨y2,y3,y4,y5,y6,y7⟩,y8,y9,y10⟩:=h;simp only [Nat.zero_add] at y1 y2 y3 y4 y5 y6 y7 y8 y9 y10
 exact ⟨y0,y1,y2,y3,y4,y5,y6,y7,y8,y9,y10⟩
def Co (E:Int) (Z:List Zp) (w:World) (e:Ending) (w':World):Prop:=(∃ a c,e = .returned (.tuple #[.slice a Z.length c,E])∧aK w' a Z)∧Below w w w'
theorem GU (p:Pl) (q:Pw) (hk:p.k=2) (c:List Int) (ca:Option Addr) (cc:Nat) (z:List Zp) (za:Option Addr) (zc:Nat) (vb vy:Value) {w:World} (hp:kH w w p q) (hc:bf w w ca c) (hz:aK w za z) :
  Calls prog 76 #[fw p q,.slice ca c.length cc,vb,.slice za z.length zc,vy] w (Co (fU c p.x z) (iQ c p.x z) w):=by
 have hA:=aN w (.cells (fE p q) 31);obtain ⟨y0,y1,y2,y3,y4,y5,y6,y7,y8,y9,y10⟩:=elZero0 (ft.new w p q 31);have HK:=aB hk;clear hk;unfold fw;go_enter func76,ntmps76;go_upto_region 1 with fail
 generalize w.alloc _=wA at *;rw [HK.out] at y0;have con:=xd c p.x ca cc q.xa q.xc za zc z wA ((hc.next hA (Mx _)).up hA.size) ((aU.next hA (Mx _) hp.x).up hA.size) (hz.next hA);unfold fN at con;go_wp2_with fail
 refine con.mono ?_;rintro e w2 ⟨v,rfl,⟨ua,uc,rfl,hu⟩,hb⟩;go_wp2
 exact bJ rfl rfl ⟨⟨ua,uc,rfl,hu⟩,chain hA hb⟩
theorem Gq (p:Pl) (q:Pw) (hk:p.k=3) (c:List Int) (ca:Option Addr) (cc:Nat) (z:List Zp) (za:Option Addr) (zc:Nat) (vb vy:Value) {w:World} (hp:kH w w p q) (hc:bf w w ca c) (hz:aK w za z) :
  Calls prog 76 #[fw p q,.slice ca c.length cc,vb,.slice za z.length zc,vy] w (Co (jS c p.xs z) (nr c p.xs z) w):=by
 have hA:=aN w (.cells (fE p q) 31);obtain ⟨y0,y1,y2,y3,y4,y5,y6,y7,y8,y9,y10⟩:=elZero0 (ft.new w p q 31);have HK:=aB hk;clear hk;unfold fw;go_enter func76,ntmps76;go_upto_region 1 with fail
 generalize w.alloc _=wA at *;rw [HK.out] at y0;have con:=C5 c p.xs ca cc q.sa q.sc za zc z wA ((hc.next hA (Mx _)).up hA.size) ((aU.next hA (Mx _) hp.xs).up hA.size) (hz.next hA);go_wp2_with fail
 refine con.mono ?_;rintro e w2 ⟨v,rfl,⟨ua,uc,rfl,hu⟩,hb⟩;go_wp2
 exact bJ rfl rfl ⟨⟨ua,uc,rfl,hu⟩,chain hA hb⟩
theorem Io (p:Pl) (q:Pw) (hk:p.k=4) (c:List Int) (ca:Option Addr) (cc:Nat) (z:List Zp) (za:Option Addr) (zc:Nat) (b:List Int) (ba:Option Addr) (bc:Nat) (y:List Zp) (ya:Option Addr) (yc:Nat) {w:World} (hp:kH w w p q) (hc:bf w w ca c) (hz:aK w za z) (hd:bf w w ba b) (hy:aK w ya y) (h8:c.length≤8∧b.length≤8) :
  Calls prog 76 #[fw p q,.slice ca c.length cc,.slice ba b.length bc,.slice za z.length zc,.slice ya y.length yc] w (Co (cw 0 c b p.x z y) (cB 0 c b p.x z y) w):=by
 have hA:=aN w (.cells (fE p q) 31);obtain ⟨y0,y1,y2,y3,y4,y5,y6,y7,y8,y9,y10⟩:=elZero0 (ft.new w p q 31);have HK:=aB hk;clear hk;unfold fw;go_enter func76,ntmps76;go_upto_region 1 with fail
 generalize w.alloc _=wA at *;rw [HK.out] at y0;have con:=wZ c b p.x ca cc ba bc q.xa q.xc za zc z ya yc y wA ((hc.next hA (Mx _)).up hA.size) ((hd.next hA (Mx _)).up hA.size) ((aU.next hA (Mx _) hp.x).up hA.size) (hz.next hA) (hy.next hA) ag ag;unfold fN at con;go_wp2_with fail
 refine con.mono ?_;rintro e w2 ⟨v,rfl,⟨ua,uc,rfl,hu⟩,hb⟩;go_wp2
 exact bJ rfl rfl ⟨⟨ua,uc,rfl,hu⟩,chain hA hb⟩
theorem HX (p:Pl) (q:Pw) (hk:p.k=5) (c:List Int) (ca:Option Addr) (cc:Nat) (z:List Zp) (za:Option Addr) (zc:Nat) (b:List Int) (ba:Option Addr) (bc:Nat) (y:List Zp) (ya:Option Addr) (yc:Nat) {w:World} (hp:kH w w p q) (hc:bf w w ca c) (hz:aK w za z) (hd:bf w w ba b) (hy:aK w ya y) (h8:c.length≤8∧b.length≤8) :
  Calls prog 76 #[fw p q,.slice ca c.length cc,.slice ba b.length bc,.slice za z.length zc,.slice ya y.length yc] w (Co (cw 1 c b p.x z y) (cB 1 c b p.x z y) w):=by
 have hA:=aN w (.cells (fE p q) 31);obtain ⟨y0,y1,y2,y3,y4,y5,y6,y7,y8,y9,y10⟩:=elZero0 (ft.new w p q 31);have HK:=aB hk;clear hk;unfold fw;go_enter func76,ntmps76;go_upto_region 1 with fail
 generalize w.alloc _=wA at *;rw [HK.out] at y0;have con:=wG c b p.x ca cc ba bc q.xa q.xc za zc z ya yc y wA ((hc.next hA (Mx _)).up hA.size) ((hd.next hA (Mx _)).up hA.size) ((aU.next hA (Mx _) hp.x).up hA.size) (hz.next hA) (hy.next hA) ag ag;unfold fN at con;go_wp2_with fail
 refine con.mono ?_;rintro e w2 ⟨v,rfl,⟨ua,uc,rfl,hu⟩,hb⟩;go_wp2
 exact bJ rfl rfl ⟨⟨ua,uc,rfl,hu⟩,chain hA hb⟩
theorem Gi (p:Pl) (q:Pw) (hk:p.k=6) (c:List Int) (ca:Option Addr) (cc:Nat) (z:List Zp) (za:Option Addr) (zc:Nat) (b:List Int) (ba:Option Addr) (bc:Nat) (y:List Zp) (ya:Option Addr) (yc:Nat) {w:World} (hp:kH w w p q) (hc:bf w w ca c) (hz:aK w za z) (hd:bf w w ba b) (hy:aK w ya y) (h8:c.length≤8∧b.length≤8) :
  Calls prog 76 #[fw p q,.slice ca c.length cc,.slice ba b.length bc,.slice za z.length zc,.slice ya y.length yc] w (Co (cw 2 c b p.x z y) (cB 2 c b p.x z y) w):=by
 have hA:=aN w (.cells (fE p q) 31);obtain ⟨y0,y1,y2,y3,y4,y5,y6,y7,y8,y9,y10⟩:=elZero0 (ft.new w p q 31);have HK:=aB hk;clear hk;unfold fw;go_enter func76,ntmps76;go_upto_region 1 with fail
 generalize w.alloc _=wA at *;rw [HK.out] at y0;have con:=wM c b p.x ca cc ba bc q.xa q.xc za zc z ya yc y wA ((hc.next hA (Mx _)).up hA.size) ((hd.next hA (Mx _)).up hA.size) ((aU.next hA (Mx _) hp.x).up hA.size) (hz.next hA) (hy.next hA) ag ag;unfold fN at con;go_wp2_with fail
 refine con.mono ?_;rintro e w2 ⟨v,rfl,⟨ua,uc,rfl,hu⟩,hb⟩;go_wp2
 exact bJ rfl rfl ⟨⟨ua,uc,rfl,hu⟩,chain hA hb⟩
theorem H6 (p:Pl) (q:Pw) (hk:p.k=7) (c:List Int) (ca:Option Addr) (cc:Nat) (z:List Zp) (za:Option Addr) (zc:Nat) (b:List Int) (ba:Option Addr) (bc:Nat) (y:List Zp) (ya:Option Addr) (yc:Nat) {w:World} (hp:kH w w p q) (hc:bf w w ca c) (hz:aK w za z) (hd:bf w w ba b) (hy:aK w ya y) (h8:c.length≤8∧b.length≤8) :
  Calls prog 76 #[fw p q,.slice ca c.length cc,.slice ba b.length bc,.slice za z.length zc,.slice ya y.length yc] w (Co (cw 3 c b p.x z y) (cB 3 c b p.x z y) w):=by
 have hA:=aN w (.cells (fE p q) 31);obtain ⟨y0,y1,y2,y3,y4,y5,y6,y7,y8,y9,y10⟩:=elZero0 (ft.new w p q 31);have HK:=aB hk;clear hk;unfold fw;go_enter func76,ntmps76;go_upto_region 1 with fail
 generalize w.alloc _=wA at *;rw [HK.out] at y0;have con:=wX c b p.x ca cc ba bc q.xa q.xc za zc z ya yc y wA ((hc.next hA (Mx _)).up hA.size) ((hd.next hA (Mx _)).up hA.size) ((aU.next hA (Mx _) hp.x).up hA.size) (hz.next hA) (hy.next hA) ag ag;unfold fN at con;go_wp2_with fail
 refine con.mono ?_;rintro e w2 ⟨v,rfl,⟨ua,uc,rfl,hu⟩,hb⟩;go_wp2
 exact bJ rfl rfl ⟨⟨ua,uc,rfl,hu⟩,chain hA hb⟩
theorem GX (p:Pl) (q:Pw) (hk:p.k=8) (c:List Int) (ca:Option Addr) (cc:Nat) (z:List Zp) (za:Option Addr) (zc:Nat) (b:List Int) (ba:Option Addr) (bc:Nat) (y:List Zp) (ya:Option Addr) (yc:Nat) {w:World} (_hp:kH w w p q) (_hc:bf w w ca c) (hz:aK w za z) (_hd:bf w w ba b) (hy:aK w ya y) (_h8:c.length≤8∧b.length≤8) :
  Calls prog 76 #[fw p q,.slice ca c.length cc,.slice ba b.length bc,.slice za z.length zc,.slice ya y.length yc] w (Co (eJ 1 z y) (dM 1 z y) w):=by
 have hA:=aN w (.cells (fE p q) 31);obtain ⟨y0,y1,y2,y3,y4,y5,y6,y7,y8,y9,y10⟩:=elZero0 (ft.new w p q 31);have HK:=aB hk;clear hk;unfold fw;go_enter func76,ntmps76;go_upto_region 1 with fail
 generalize w.alloc _=wA at *;rw [HK.out] at y0;have con:=CD 1 (.inl rfl) za ya zc yc z y wA (hz.next hA) (hy.next hA);go_wp2_with fail
 refine con.mono ?_;rintro e w2 ⟨⟨ua,uc,rfl,hu⟩,hb⟩;go_wp2
 exact bJ rfl rfl ⟨⟨ua,uc,rfl,hu⟩,chain hA hb⟩
theorem Ig (p:Pl) (q:Pw) (hk:p.k=9) (c:List Int) (ca:Option Addr) (cc:Nat) (z:List Zp) (za:Option Addr) (zc:Nat) (b:List Int) (ba:Option Addr) (bc:Nat) (y:List Zp) (ya:Option Addr) (yc:Nat) {w:World} (_hp:kH w w p q) (_hc:bf w w ca c) (hz:aK w za z) (_hd:bf w w ba b) (hy:aK w ya y) (_h8:c.length≤8∧b.length≤8) :
  Calls prog 76 #[fw p q,.slice ca c.length cc,.slice ba b.length bc,.slice za z.length zc,.slice ya y.length yc] w (Co (eJ (-1) z y) (dM (-1) z y) w):=by
 have hA:=aN w (.cells (fE p q) 31);obtain ⟨y0,y1,y2,y3,y4,y5,y6,y7,y8,y9,y10⟩:=elZero0 (ft.new w p q 31);have HK:=aB hk;clear hk;unfold fw;go_enter func76,ntmps76;go_upto_region 1 with fail
 generalize w.alloc _=wA at *;rw [HK.out] at y0;have con:=CD (-1) (.inr rfl) za ya zc yc z y wA (hz.next hA) (hy.next hA);go_wp2_with fail
 refine con.mono ?_;rintro e w2 ⟨⟨ua,uc,rfl,hu⟩,hb⟩;go_wp2
 exact bJ rfl rfl ⟨⟨ua,uc,rfl,hu⟩,chain hA hb⟩
theorem Ed (p:Pl) (q:Pw) (hk:p.k=10) (c:List Int) (ca:Option Addr) (cc:Nat) (z:List Zp) (za:Option Addr) (zc:Nat) (vb vy:Value) {w:World} (_hp:kH w w p q) (_hc:bf w w ca c) (hz:aK w za z) :
  Calls prog 76 #[fw p q,.slice ca c.length cc,vb,.slice za z.length zc,vy] w (Co (aM z) (jV kZ z) w):=by
 have hA:=aN w (.cells (fE p q) 31);obtain ⟨y0,y1,y2,y3,y4,y5,y6,y7,y8,y9,y10⟩:=elZero0 (ft.new w p q 31);have HK:=aB hk;clear hk;unfold fw;go_enter func76,ntmps76;go_upto_region 1 with fail
 generalize w.alloc _=wA at *;rw [HK.out] at y0;have con:=sK za zc z wA (hz.next hA);go_wp2_with fail
 refine con.mono ?_;rintro e w2 ⟨⟨ua,uc,rfl,hu⟩,hb⟩;go_wp2
 exact bJ rfl rfl ⟨⟨ua,uc,rfl,hu⟩,chain hA hb⟩
theorem Db (p:Pl) (q:Pw) (hk:p.k=11) (c:List Int) (ca:Option Addr) (cc:Nat) (z:List Zp) (za:Option Addr) (zc:Nat) (vb vy:Value) {w:World} (_hp:kH w w p q) (_hc:bf w w ca c) (hz:aK w za z) :
  Calls prog 76 #[fw p q,.slice ca c.length cc,vb,.slice za z.length zc,vy] w (Co (aM z) (jV ln z) w):=by
 have hA:=aN w (.cells (fE p q) 31);obtain ⟨y0,y1,y2,y3,y4,y5,y6,y7,y8,y9,y10⟩:=elZero0 (ft.new w p q 31);have HK:=aB hk;clear hk;unfold fw;go_enter func76,ntmps76;go_upto_region 1 with fail
 generalize w.alloc _=wA at *;rw [HK.out] at y0;have con:=tK za zc z wA (hz.next hA);go_wp2_with fail
 refine con.mono ?_;rintro e w2 ⟨⟨ua,uc,rfl,hu⟩,hb⟩;go_wp2
 exact bJ rfl rfl ⟨⟨ua,uc,rfl,hu⟩,chain hA hb⟩
theorem DO (p:Pl) (q:Pw) (hk:p.k=12) (c:List Int) (ca:Option Addr) (cc:Nat) (z:List Zp) (za:Option Addr) (zc:Nat) (vb vy:Value) {w:World} (hp:kH w w p q) (hok:gu p) (hc:bf w w ca c) (hz:aK w za z) :
  Calls prog 76 #[fw p q,.slice ca c.length cc,vb,.slice za z.length zc,vy] w (Co (dx c p.xs p.gs z) (ei c p.xs p.gs z) w):=by
 have hA:=aN w (.cells (fE p q) 31);obtain ⟨y0,y1,y2,y3,y4,y5,y6,y7,y8,y9,y10⟩:=elZero0 (ft.new w p q 31);have HK:=aB hk;clear hk;unfold fw;go_enter func76,ntmps76;go_upto_region 1 with fail
 generalize w.alloc _=wA at *;rw [HK.out] at y0;have con:=yA c p.xs p.gs hok.sum ca cc q.sa q.sc q.ga q.gc za zc z wA ((hc.next hA (Mx _)).up hA.size) ((aU.next hA (Mx _) hp.xs).up hA.size) ((iO.next hA (Mx _) hp.gs).up hA.size) (hz.next hA);go_wp2_with fail
 refine con.mono ?_;rintro e w2 ⟨v,rfl,⟨ua,uc,rfl,hu⟩,hb⟩;go_wp2
 exact bJ rfl rfl ⟨⟨ua,uc,rfl,hu⟩,chain hA hb⟩
theorem DM (p:Pl) (q:Pw) (hk:p.k=13) (c:List Int) (ca:Option Addr) (cc:Nat) (z:List Zp) (za:Option Addr) (zc:Nat) (vb vy:Value) {w:World} (hp:kH w w p q) (hok:gu p) (hc:bf w w ca c) (hz:aK w za z) :
  Calls prog 76 #[fw p q,.slice ca c.length cc,vb,.slice za z.length zc,vy] w (Co (jU c p.xs p.n z) (lY c p.xs p.n z) w):=by
 have hA:=aN w (.cells (fE p q) 31);obtain ⟨y0,y1,y2,y3,y4,y5,y6,y7,y8,y9,y10⟩:=elZero0 (ft.new w p q 31);have HK:=aB hk;clear hk;unfold fw;go_enter func76,ntmps76;go_upto_region 1 with fail
 generalize w.alloc _=wA at *;rw [HK.out] at y0;have con:=DZ c p.xs p.n hok.n ca cc q.sa q.sc za zc z wA ((hc.next hA (Mx _)).up hA.size) ((aU.next hA (Mx _) hp.xs).up hA.size) (hz.next hA);go_wp2_with fail
 refine con.mono ?_;rintro e w2 ⟨v,rfl,⟨ua,uc,rfl,hu⟩,hb⟩;go_wp2
 exact bJ rfl rfl ⟨⟨ua,uc,rfl,hu⟩,chain hA hb⟩
end Go.Proofs.YtoefpglknaiaeaaGreat
namespace Go.Proofs.YtoefpglknaiaeaaGreat
open Go.RowKit Go.Lib Go.Shelf _root_.Go.Proofs.Tryz
def sl (k:Int):Int:=if k<1∨13<k then -1 else fk k
theorem G9 (k:Int) (w:World):Calls prog 66 #[k] w fun e w'=>e = .returned (.int .i64 (sl k))∧Below w w w':=by
 by_cases h:k<1∨13<k
 ·have e:sl k = -1:=by unfold sl; rw [if_pos h]
  rw [e];have hz:(decide (k<1) || decide (13<k))=true:=by simpa using h
  by_cases h1:k<1
  ·go_enter func66,ntmps66;go_wp2_with fail
   go_ret;exact ⟨rfl,Mz _ _⟩
  ·have h2:13<k:=by omega
   go_enter func66,ntmps66;go_wp2_with fail
   go_ret;exact ⟨rfl,Mz _ _⟩
 ·have hc:k=1∨k=2∨k=3∨k=4∨k=5∨k=6∨k=7∨k=8∨k=9∨k=10∨k=11∨k=12∨k=13:=by omega
  have hal:=(Mz w w).alloc (Mx _) (.cells #[aD,aD,(1:Int),(1:Int),(2:Int),(2:Int),(2:Int),(2:Int),(2:Int),(2:Int),(1:Int),(1:Int),(1:Int),(1:Int)] 3);clear h;rcases hc with rfl | rfl | rfl | rfl | rfl | rfl | rfl | rfl | rfl | rfl | rfl | rfl | rfl
  all_goals (
   go_enter func66,ntmps66;go_wp2_with fail
   go_ret;exact ⟨rfl,hal⟩)
theorem IK {W:World} {base n g cap:Nat} {l:List Int} (h:W.ownsRow base 3 1 (.slice (some (ah g 0)) n cap) n (ints l)) (hn:n=l.length):dC W g l∧base≤g:=by
 subst hn;have h':=h;obtain ⟨_,⟨e,_⟩ | ⟨g',cap',cur,e,hg,hh,_⟩⟩:=h
 ·cases e
 ·injection e with e1 _ e3
  injection e1 with e1
  injection e1 with e1
  subst e1 e3;refine ⟨⟨(h'.lt g rfl).2,fun i hi=>?_,fun i=>MB W g i _ _ hh⟩,hg⟩;have:=h'.cellAt i ag;rw [this];simp [ints,hi]
theorem Gg {l r:List Int} {j:Nat} (h:j<l.length) (h':j<r.length):(cU (l.take j) (r.take j) ++ l.drop j).set j (cN l[j] r[j]).1=cU (l.take (j+1)) (r.take (j+1)) ++ l.drop (j+1):=by
 have hl:(cU (l.take j) (r.take j)).length=j:=by rw [gA (by rw [MR,MR]; omega),MR]; omega
 rw [List.set_append_right _ _ ag,hl,Nat.sub_self,lI h h',MI h,Ni,Nh];rfl
theorem C9 {l r:List Int} {j:Nat} (h:j<l.length) (h':j<r.length) (e:(cN l[j] r[j]).1=l[j]):cU (l.take j) (r.take j) ++ l.drop j=cU (l.take (j+1)) (r.take (j+1)) ++ l.drop (j+1):=by
 rw [lI h h',MI h,Nh,e];rfl
theorem ET {l r:List Int} {j:Nat} (h:j<l.length) (h':j<r.length):∃ hj:j<(cU (l.take j) (r.take j) ++ l.drop j).length,(cU (l.take j) (r.take j) ++ l.drop j)[j]=l[j]:=by
 have hl:(cU (l.take j) (r.take j)).length=j:=by rw [gA (by rw [MR,MR]; omega),MR]; omega
 refine ⟨by rw [ME,hl,NT]; omega,?_⟩;rw [Nx ag];simp [hl]
theorem DJ (a b:Int):(a=1∧cN a b=(b,0))∨(a≠1∧(b=1∨b=a)∧cN a b=(a,0))∨(a≠1∧b≠1∧b≠a∧cN a b=(0,9)):=by
 unfold cN ir;by_cases h1:a=1
 ·refine .inl ⟨h1,?_⟩;subst h1;by_cases h2:b=1
  ·subst h2; rfl
  ·rw [if_neg ag,if_pos rfl]; rfl
 ·by_cases h2:b=1∨b=a
  ·refine .inr (.inl ⟨h1,h2,?_⟩);rw [if_pos ag]; rfl
  ·refine .inr (.inr ⟨h1,by omega,by omega,?_⟩);rw [if_neg ag,if_neg h1]; rfl
theorem Cc (l r:List Int) (la:Option Addr) (lc:Nat) (ra:Option Addr) (rc:Nat) (w:World) (hl:bf w w la l) (hr:bf w w ra r) (h8:l.length≤8) :
  Calls prog 69 #[.slice la l.length lc,.slice ra r.length rc] w fun e w'=>∃ v,e = .returned (.tuple #[v,.int .i64 (jr l r)])∧(jr l r=0→∃ a c,v = .slice a l.length c∧jZ 0 w.heap.size w' a (cU l r))∧(¬ jr l r=0→v = .slice none 0 0)∧Below w w w':=by
 obtain ⟨ii,hii,hv0,hv1,hv2⟩:=info_parts qU;have R1:=dE hl;have hb0:=aN w (.cells #[] 3);have O0:=Nd (e:=3) (size:=1) w #[] 0 (Mx _) (MD _) (by simp);have m1:0+l.length≤maxLen:=by unfold maxLen; omega
 have m2:(0+l.length)*8≤140737488355328:=by omega
 generalize he:jr l r=er;have HE:=aB he;clear he;go_enter func69,ntmps69;by_cases hlr:l.length=r.length;rotate_left
 ·have hne:((l.length:Int) != (r.length:Int))=true:=by simp; omega
  have e:er=8:=by rw [← HE.out]; unfold jr; rw [if_pos hlr]
  subst e;clear O0 hb0 HE;go_wp2_with fail
  exact bJ rfl rfl ⟨_,rfl,fun c=>by omega,fun _=>rfl,Mz _ _⟩
 have hne:((l.length:Int) != (r.length:Int))=false:=by simp; omega
 have HE':Hid (er=jB (l.drop 0) (r.drop 0)):=by show _=_; rw [← HE.out]; unfold jr; rw [if_neg (by simpa using hlr)]; rfl
 have HL:=aB hlr;have hl1:l.length≤r.length:=by omega
 have hl2:r.length≤l.length:=by omega
 clear HE hlr;go_wp2_with (first | (at_builtin; refine bY rfl (.tmp 13) (.tmp 14) 33 rfl w 3 ii _ 1 8 underlying33 hii hv0 hv1 hv2 rfl (by decide) _ 0 [] rfl O0 la l.length lc (l.map (Value.int .i64)) rfl (R1.alloc _) m1 m2 (by simp) ?_))
 intro v1 w1 o1 g1;have hb1:=hb0.grown g1 (by simp) (by simp [Value.ownBlock]);have o1:w1.ownsRow w 3 1 v1 l.length (ints l):=by simpa [ints] using o1
 clear g1 O0 hb0 hne R1 m1 m2;have OH:=aB o1;obtain ⟨a1,c1,rfl⟩:=eX o1;have HS:Hid (0<l.length→∃ g,a1=some ⟨g,0,none⟩∧w.heap.size≤g∧dC w1 g l):=fun hp=>by
  have h':=OH.out;obtain ⟨_,⟨_,e⟩ | ⟨g,cap,cur,e,_⟩⟩:=h'
  ·omega
  ·injection e with e1 _ e3
   subst e1;obtain ⟨h1,h2⟩:=IK OH.out rfl;exact ⟨g,rfl,h2,h1⟩
 clear o1 OH;go_wp2_with fail
 go_loopw [18] (fun i wr=>∃ j:Nat,j≤l.length∧i = .int .i64 j∧Hid (er=jB (l.drop j) (r.drop j))∧Hid (0<l.length→∃ g,a1=some ⟨g,0,none⟩∧w.heap.size≤g∧dC wr g (cU (l.take j) (r.take j) ++ l.drop j))∧Below w w wr) (fun i _=>l.length - (intOf i).toNat)
 case atStart=>exact ⟨0,MD _,rfl,HE',by simpa [cU,Hid] using HS,hb1⟩
 case round =>
  obtain ⟨j,hj,rfl,HT,HO,hb⟩:=hrel;clear HS hb1;by_cases hlt:j<l.length
  ·have hlr:j<r.length:=by omega
   obtain ⟨g,rfl,hg,hO⟩:=HO.out ag;obtain ⟨b1,o1,rfl,hlb1,c1⟩:=(hl.next hb (Mx _)).elem hlt;obtain ⟨b2,o2,rfl,hlb2,c2⟩:=(hr.next hb (Mx _)).elem hlr;have hjz:(j:Int)<(l.length:Int):=by omega
   have hjr:(j:Int)<(r.length:Int):=by omega
   have hj0:(0:Int)≤(j:Int):=by omega
   obtain ⟨hcj,ecj⟩:=ET hlt hlr;rcases DJ l[j] r[j] with ⟨h1,e⟩ | ⟨h1,h2,e⟩ | ⟨h1,h2,h3,e⟩
   ·have HT':=aB (HT.out.trans (nU hlt hlr (by rw [e])));have cc:wr.cell? (ah g j)=some (.int .i64 l[j]):=by rw [hO.c j hcj,ecj]
    have ff:=hO.f j;have O6:=hO.set j hcj r[j];have es:=Gg hlt hlr;rw [e] at es;simp only at es;rw [es] at O6;have hA6:=hb.setCell (p:=ah g j) hg (.int .i64 r[j]);have HO6:Hid (0<l.length→∃ g',(some (ah g 0):Option Addr)=some ⟨g',0,none⟩∧w.heap.size≤g'∧dC (wr.setCell (ah g j) (.int .i64 r[j])) g' (cU (l.take (j+1)) (r.take (j+1)) ++ l.drop (j+1))):=fun _=>⟨g,rfl,hg,O6⟩
    clear HT HO hO O6 es e hcj ecj;rw [h1] at c1;clear h1;generalize r[j]=rj at *;go_wp2_with fail
    go_roundw
    case rel=>exact ⟨j+1,by omega,by go_num,HT',HO6,hA6⟩
    case measure=>simp [intOf]; omega
   ·have HT':=aB (HT.out.trans (nU hlt hlr (by rw [e])));have es:=C9 hlt hlr (by rw [e]);rw [es] at hO;have HO6:=aB hO;clear HT HO hO es e hcj ecj;generalize r[j]=rj at *;generalize l[j]=lj at *;have b1:(lj == 1)=false:=by simpa using h1
    have p1:=ak c1;have p2:=ak c2;haveI:Nonempty (cF wr):=⟨⟨_,Mz _ _⟩⟩
    by_cases h3:rj=1;subst h3;clear h2 h1;rotate_left;have e2:rj=lj:=h2.resolve_left h3;subst e2;have b2:(rj != 1)=true:=by simpa using h3
    clear h2 h1 h3
    all_goals
     go_wp2_with fail
     refine aq aG aG ?_
     repeat (go_big_quiet_step (fail))
     refine wpQuiet_nil ?_;rintro w5 ⟨⟨v5,hb5⟩,h5⟩;obtain rfl:w5=v5:=h5;clear p1 p2 this c1 c2;go_wp2_with fail
     go_roundw
     case rel=>exact ⟨j+1,by omega,by go_num,HT',fun _=>⟨g,rfl,hg,HO6.out.nx hb5⟩,chain hb hb5⟩
     case measure=>simp [intOf]; omega
   ·have el:er=9:=HT.out.trans ((vf hlt hlr (by rw [e]; decide)).trans (by rw [e]));subst el;clear HT HO hO e hcj ecj;generalize r[j]=rj at *;generalize l[j]=lj at *;have b1:(lj == 1)=false:=by simpa using h1
    have b2:(rj != 1)=true:=by simpa using h2
    have b3:(rj != lj)=true:=by simpa using h3
    have p1:=ak c1;have p2:=ak c2;haveI:Nonempty (cF wr):=⟨⟨_,Mz _ _⟩⟩
    clear h1 h2 h3;go_wp2_with fail
    refine aq aG aG ?_
    repeat (go_big_quiet_step (fail))
    refine wpQuiet_nil ?_;rintro w5 ⟨⟨v5,hb5⟩,h5⟩;obtain rfl:w5=v5:=h5;clear p1 p2 this c1 c2;go_wp2_with fail
    first
     | exact bJ rfl rfl ⟨_,rfl,fun c=>absurd c (by decide),fun _=>rfl,chain hb hb5⟩
     | exact bJ rfl rfl ⟨_,rfl,rfl,chain hb hb5⟩
     | exact bJ rfl rfl ⟨rfl,chain hb hb5⟩
  ·have e:j=l.length:=by omega
   have er0:er=0:=by rw [HT.out,uQ ag]
   subst e;subst er0;have HI:Hid (jZ 0 w.heap.size wr a1 (cU l r)):=by
    by_cases hp:0<l.length
    ·obtain ⟨g,rfl,hg,hO⟩:=HO.out hp;rw [NY,M8,MM,HL.out,MM] at hO;exact hO.t (by rw [gA HL.out]; exact h8) hg
    ·have e1:l = []:=MH ag;subst e1;exact ⟨MD _,.inl rfl⟩
   clear HT HO;go_wp2_with fail
   first
    | exact bJ rfl rfl ⟨_,rfl,fun _=>⟨_,_,rfl,HI.out⟩,fun c=>absurd rfl c,hb⟩
    | exact bJ rfl rfl ⟨_,rfl,⟨_,⟨_,rfl⟩,HI.out⟩,hb⟩
theorem mV {cols:List Int} (h:cols.length≤8):bV cols []=0:=by unfold bV; rw [if_neg ag]; rfl
theorem xy:aR []=0:=by decide
theorem G0 {cols:List Int} (h:cols.length≤8) (x:Ex):fU cols x []=cH cols x:=by
 unfold fU;by_cases c:cH cols x=0
 ·rw [if_neg (by simpa using c),mV h,c]; rfl
 ·rw [if_pos c]
theorem map_nil {cols:List Int} (h:cols.length≤8) (xs:List Ex):jS cols xs []=bM cols xs:=by
 unfold jS;by_cases c:bM cols xs=0
 ·rw [if_neg (by simpa using c),mV h,c]; exact xy
 ·rw [if_pos c]
theorem B2 (xs:List Ex):aY xs [] = []:=MH (Nat.le_zero.1 (jv xs []))
theorem JL {cols:List Int} (h:cols.length≤8) (xs:List Ex) (n:Int):jU cols xs n []=if bM cols xs≠0 then bM cols xs else if n<0∨50<n then 3 else 0:=by
 unfold jU;rw [mV h,B2];rfl
theorem tV {l r:List Int} (h:l.length≤8) (h':r.length≤8) (x:Ex):cw 0 l r x [] []=if 8<l.length+r.length then 5 else cH (l ++ r) x:=by
 unfold cw iG;rw [mV h,mV h'];by_cases c:8<l.length+r.length
 ·rw [if_pos c,if_pos c]; rfl
 rw [if_neg c,if_neg c];by_cases e:cH (l ++ r) x=0
 ·rw [e]; exact xy
 ·simp only [ne_eq,e,not_false_eq_true,if_true]
theorem Iy (r:List Vl):aR [(r,1)]=0:=by
 have:canon [(r,(1:Int))] = [(aX r,1)]:=by simp [canon,cI]
 unfold aR;rw [this];have h:gV 1=true:=by decide
 simp [lS,h]
theorem EW {cols:List Int} (h:cols.length≤8) (xs:List Ex) (gs:List Ag):dx cols xs gs []=if 8<xs.length+gs.length then 5 else if bM cols xs≠0 then bM cols xs else dF cols gs:=by
 unfold dx;rw [mV h,B2];have:aR (dZ xs gs [])=0:=by
  unfold dZ dN;by_cases c:xs.length=0
  ·rw [if_pos ⟨c,rfl⟩]; exact Iy _
  ·rw [if_neg (fun e=>c e.1)]; exact xy
 rw [this];by_cases c:dF cols gs=0
 ·rw [c]; simp
 ·simp [c]
def GP (ts:List (List Int)) (p:Pl):Prop :=
 ∀ (B t:Nat) (ta:Option Addr) (tc:Nat) (q:Pw) (m d:Int) (w:World),kH B w p q→jG B w ta ts→B≤t→j9 w t ta ts.length tc m→0≤m→m≤60→0≤d→d≤16→gu p →
  Calls prog 46 #[ah t 0,fw p q,d] w fun e w'=>(∃ v,e = .returned (.tuple #[v,.int .i64 (bD ts p m d).1])∧((bD ts p m d).1=0→∃ ca cc,v = .slice ca (aA ts p).length cc∧jZ B w w' ca (aA ts p)))∧aw t w w'∧j9 w' t ta ts.length tc (bD ts p m d).2
def Cv (B lo:Nat) (W:World) (v:Value) (l:List Int):Prop:=∃ ca cc,v = .slice ca l.length cc∧jZ B lo W ca l
theorem Cv.nil (B lo:Nat) (W:World):Cv B lo W bX []:=⟨none,0,rfl,jZ.nil _ _ _⟩
theorem Cv.next {B lo:Nat} {W w1:World} {v:Value} {l:List Int} (h:Cv B lo W v l) (hb:Kept B lo W w1):Cv B lo w1 v l:=by
 obtain ⟨ca,cc,e,h⟩:=h;exact ⟨ca,cc,e,h.next hb⟩
theorem Hu {k:Int} {cs:List (List Int)} (h:cs.length=fk k) (h1:1≤k) (h13:k≤13):(k=1∧cs = [])∨((k=2∨k=3∨k=10∨k=11∨k=12∨k=13)∧cs = [cs.getD 0 []]∧cs.getD 1 [] = [])∨((k=4∨k=5∨k=6∨k=7∨k=8∨k=9)∧cs = [cs.getD 0 [],cs.getD 1 []]):=by
 unfold fk at h;by_cases e1:k=1
 ·rw [if_pos e1] at h;exact .inl ⟨e1,MH h⟩
 rw [if_neg e1] at h;by_cases e2:4≤k∧k≤9
 ·rw [if_pos e2] at h
  match cs,h with
  | [a,b],_=>exact .inr (.inr ⟨by omega,rfl⟩)
 ·rw [if_neg e2] at h
  match cs,h with
  | [a],_=>exact .inr (.inl ⟨by omega,rfl,rfl⟩)
theorem yS {ts:List (List Int)} {ks:List Pl} {j:Nat} (h:j<ks.length) {m d:Int} (h0:(bD ts ks[j] m d).1=0):bo ts (ks.drop j) m d=bo ts (ks.drop (j+1)) (bD ts ks[j] m d).2 d:=by
 rw [MI h,bo,if_neg (by simpa using h0)]
theorem yq {ts:List (List Int)} {ks:List Pl} {j:Nat} (h:j<ks.length) {m d:Int} (h0:¬ (bD ts ks[j] m d).1=0):bo ts (ks.drop j) m d=bD ts ks[j] m d:=by
 rw [MI h,bo,if_pos h0]
theorem IQ {ts:List (List Int)} {ks:List Pl} {j:Nat} (h:j<ks.length):(ks.take (j+1)).map (aA ts)=(ks.take j).map (aA ts) ++ [aA ts ks[j]]:=by
 rw [MJ h,Nc]; rfl
theorem KR {ts:List (List Int)} {ks:List Pl} {j:Nat} (h:j≤ks.length):((ks.take j).map (aA ts)).length=j:=by rw [Nt,MR]; omega
theorem uI {cs:List (List Int)} (h:∀ c ∈ cs,c.length≤8) (i:Nat):(cs.getD i []).length≤8:=by
 rw [NI];cases e:cs[i]? with
 | none=>simp
 | some c=>exact h c (List.mem_of_getElem? e)
theorem jZ.Mg {B lo lo':Nat} {W:World} {a:Option Addr} {l:List Int} (h:jZ 0 lo W a l) (hl:lo'≤lo):jZ B lo' W a l:=by
 obtain ⟨h0,h | ⟨b,off,e,hlt,hn,h⟩⟩:=h
 ·exact ⟨h0,.inl h⟩
 ·exact ⟨h0,.inr ⟨b,off,e,hlt,by omega,h⟩⟩
theorem xG (l r:List Int):ints (l ++ r)=ints l ++ ints r:=by unfold ints; rw [Nc]
theorem Cw {l r:List Int} (h:jr l r=0):l.length=r.length:=by
 unfold jr at h;by_cases c:l.length=r.length
 ·exact c
 ·rw [if_pos c] at h; cases h
theorem GQ (ts:List (List Int)) (hts:fg ts=0) (p:Pl) (ih:∀ r ∈ p.ks,GP ts r):GP ts p:=by
 intro B t ta tc q m d w hp hT hBt ht hm0 hm hd0 hd hok;obtain ⟨ii,hii,hv0,hv1,hv2⟩:=info_parts qU;have htw:=ht.lt;have HT:=aB hts;have HK:=aB hok;have IH:=aB ih;generalize hr:bD ts p m d=r;have HR:=aB hr;generalize hc:aA ts p=cp;have HCp:=aB hc;clear hr hts hok ih hc;have zW:(w.setCell (ah t 1) (.int .i64 (m+1))).heap.size=w.heap.size:=N9 _ _ _;have TW:=ht.count (m+1);have XW:=(aw.refl t w).set 1 (.int .i64 (m+1));have ES:=ft.new (w.setCell (ah t 1) (.int .i64 (m+1))) p q 31
 have zS:=an (bq (w.setCell (ah t 1) (.int .i64 (m+1))) (fE p q) 31);have hal:Below (w.setCell (ah t 1) (.int .i64 (m+1))).heap.size (w.setCell (ah t 1) (.int .i64 (m+1))) ((w.setCell (ah t 1) (.int .i64 (m+1))).alloc (.cells (fE p q) 31)):=aN ..;have TS:=TW.next hal;have XS:=XW.trans (aw.of hal (by rw [zW]; exact M5 htw));have s0:=TW.c1;have H2:=ht.c1;have H3:=ht.f1;rw [zW] at ES zS;have hWm:IntKind.i64.wrap (m+1)=m+1:=IntWalk.i64_in _ ⟨by omega,by omega⟩;clear hal TW XW;unfold fw;go_enter func46,ntmps46
 by_cases h60:60<m+1
 ·have er:r=(4,m+1):=by rw [← HR.out,kN (by rw [iF (.inl h60)]; decide),iF (.inl h60)]
  subst er;clear HR;go_wp2_with fail
  exact bJ rfl rfl ⟨⟨_,rfl⟩,XS,TS⟩
 by_cases h15:15<d
 ·have er:r=(4,m+1):=by rw [← HR.out,kN (by rw [iF (.inr h15)]; decide),iF (.inr h15)]
  subst er;clear HR;go_wp2_with fail
  exact bJ rfl rfl ⟨⟨_,rfl⟩,XS,TS⟩
 have c0:=ES.c0;go_wp2_with fail
 refine bC (G9 p.k _) fun w3 hb3=>?_;generalize ((w.setCell (ah t 1) (.int .i64 (m+1))).alloc (.cells (fE p q) 31))=wS at *;clear H2 H3 s0 c0 zW;have T3:=TS.next hb3;have E3:=ES.next hb3 zS;have X3:=XS.trans (aw.of hb3 (M5 TS.lt));have z3:=My zS hb3.size;clear TS ES XS zS hb3;by_cases hk:p.k<1∨13<p.k
 ·have er:r=(1,m+1):=by rw [← HR.out,kN (by rw [kT ag ag hk]; decide),kT ag ag hk]
  subst er;have e5:sl p.k = -1:=by unfold sl; rw [if_pos hk]
  rw [e5];clear HR hk;go_wp2_with fail
  exact bJ rfl rfl ⟨⟨_,rfl⟩,X3,T3⟩
 have e5:sl p.k=fk p.k:=by unfold sl; rw [if_neg hk]
 rw [e5];have hk1:1≤p.k:=by omega
 have hk13:p.k≤13:=by omega
 have Bm:=E3.Bm;simp only [MG] at Bm;by_cases hln:p.ks.length=fk p.k;rotate_left
 ·have er:r=(5,m+1):=by rw [← HR.out,kN (by rw [nS ag ag ag ag hln]; decide),nS ag ag ag ag hln]
  subst er;have hne:((fk p.k:Int) != (p.ks.length:Int))=true:=by simp; omega
  have hn0:¬ ((fk p.k:Int)<0):=by omega
  clear HR hk e5;go_wp2_with fail
  exact bJ rfl rfl ⟨⟨_,rfl⟩,X3,T3⟩
 have HW:Hid (eF p.k p.ks.length (m+1) d=0):=zD ag ag ag ag hln;have hl2:p.ks.length≤2:=by rw [hln]; exact mn _
 have HL:=aB hln;rw [← hln];have hne:((p.ks.length:Int) != (p.ks.length:Int))=false:=by simp
 have hn0:¬ ((p.ks.length:Int)<0):=by omega
 have hWd:IntKind.i64.wrap (d+1)=d+1:=IntWalk.i64_in _ ⟨by omega,by omega⟩;clear hln e5 hk;go_wp2_with fail
 go_loopw [9,10,51] (fun a b i wr=>∃ (j:Nat) (m':Int),j≤p.ks.length∧i = .int .i64 j∧Hid (Cv B w wr a (((p.ks.take j).map (aA ts)).getD 0 []))∧Hid (Cv B w wr b (((p.ks.take j).map (aA ts)).getD 1 []))∧Hid (bo ts p.ks (m+1) (d+1)=bo ts (p.ks.drop j) m' (d+1))∧Hid (∀ c ∈ (p.ks.take j).map (aA ts),c.length≤8)∧ft wr w 0 p q∧w.heap.size<wr.heap.size∧j9 wr t ta ts.length tc m'∧aw t w wr∧0≤m'∧m'≤60) (fun _ _ i _=>p.ks.length - (intOf i).toNat)
 case atStart=>exact ⟨0,m+1,MD _,rfl,Cv.nil _ _ _,Cv.nil _ _ _,rfl,fun c hc=>by simp at hc,E3,z3,T3,X3,by omega,by omega⟩
 case round =>
  obtain ⟨j,m',hj,rfl,HA,HB,HS,H8,EJ,zJ,TJ,XJ,hm0',hm'⟩:=hrel;clear E3 T3 X3 Bm z3;have blw:=XJ.below hBt;by_cases hlt:j<p.ks.length
  ·obtain ⟨bj,oj,qj,eqj,hbj,ej,pj⟩:=(nn.next blw (Mx _) hp.ks).elem hlt;have hbj2:bj<wr.heap.size:=by have:=TJ.lt; omega
   have hal:=aN wr (.cells #[.int .i64 p.ks[j].k,.int .i64 p.ks[j].n,.int .i64 p.ks[j].x.k,.int .i64 p.ks[j].x.v.1,.int .i64 p.ks[j].x.v.2.1,.string p.ks[j].x.v.2.2,.int .i64 p.ks[j].x.c,.slice qj.xa p.ks[j].x.ks.length qj.xc,.slice qj.sa p.ks[j].xs.length qj.sc,.slice qj.ga p.ks[j].gs.length qj.gc,.slice qj.ka p.ks[j].ks.length qj.kc] 31);have TA:=TJ.next hal;have EA:=EJ.next hal zJ;have hbW:=(hal.mono (by have:=TJ.lt; omega):Below B wr _)
   have con:=IH.out p.ks[j] (MC hlt) B t ta tc qj m' (d+1) _ (pj.next hbW (Mx _)) ((hT.next blw (Mx _)).next hbW (Mx _)) hBt TA hm0' hm' ag ag (HK.out.ks _ (MC hlt));have XA:=XJ.trans (aw.of hal (M5 TJ.lt));have hzA:=hal.size;have hjz:(j:Int)<(p.ks.length:Int):=by omega
   have hj0:(0:Int)≤(j:Int):=by omega
   have HN:=@wj ts p.ks[j] m' (d+1);have HN:=aB HN;have HC:=@oF ts HT.out p.ks[j] m' (d+1);have HC:=aB HC;have HSt:=@yS ts p.ks j hlt m' (d+1);have HSt:=aB HSt;have HSp:=@yq ts p.ks j hlt m' (d+1);have HSp:Hid _:=HSp;have HCt:Hid ((p.ks.take (j+1)).map (aA ts)=(p.ks.take j).map (aA ts) ++ [aA ts p.ks[j]]):=IQ hlt;have HCl:Hid (((p.ks.take j).map (aA ts)).length=j):=KR hj;obtain ⟨n0,n1,⟨n2,n3,n4,n5,n6,n7⟩,n8,n9,n10⟩:=ej;generalize bD ts p.ks[j] m' (d+1)=lr at *;unfold fw at con;clear pj hbW blw;rw [eqj];go_wp2_with fail
   refine con.mono ?_;rintro e w5 ⟨⟨v5,rfl,g5⟩,X5,T5⟩;have XE:=XA.trans X5;have EE:=EA.mx X5 ag ag;have KE:Kept B w wr w5:=⟨(hal.mono (by have:=TJ.lt; omega)).trans (X5.below hBt),fun k hk hl=>(X5.2 k ag ag).trans (hal.block k hk)⟩
   have zE:w.heap.size<w5.heap.size:=by have:=X5.size; omega
   clear con n0 n1 n2 n3 n4 n5 n6 n7 n8 n9 n10 hal TA EA XA TJ EJ XJ X5;dsimp only;by_cases h0:lr.1=0
   ·obtain ⟨ca5,cc5,rfl,i5⟩:=g5 h0;obtain ⟨gn1,gn2⟩:=HN.out h0;have HC8:=HC.out h0;have HS':Hid (bo ts p.ks (m+1) (d+1)=bo ts (p.ks.drop (j+1)) lr.2 (d+1)):=HS.out.trans (HSt.out h0);have HI:Hid (jZ B w w5 ca5 (aA ts p.ks[j])):=i5.wide ag;have HA':=HA.out.next KE;have HA':Hid _:=HA';have HB':=HB.out.next KE;have HB':Hid _:=HB';have H8':Hid (∀ c ∈ (p.ks.take (j+1)).map (aA ts),c.length≤8):=by
     show ∀ _,_
     rw [HCt.out];intro c hc;rcases List.mem_append.1 hc with hc | hc
     ·exact H8.out c hc
     ·rw [List.mem_singleton.1 hc]; exact HC8
    have h0b:(lr.1 != 0)=false:=by simp [h0]
    clear HN HC HSt HSp HS h0 g5 i5 HA HB H8 KE;by_cases hj1:j=0
    ·have HA2:Hid (Cv B w w5 (.slice ca5 (aA ts p.ks[j]).length cc5) (((p.ks.take (j+1)).map (aA ts)).getD 0 [])):=by
      show Cv _ _ _ _ _;rw [HCt.out,MH (HCl.out.trans hj1)];exact ⟨_,_,rfl,HI.out⟩
     have HB2:Hid (∀ v,Cv B w w5 v (((p.ks.take j).map (aA ts)).getD 1 [])→Cv B w w5 v (((p.ks.take (j+1)).map (aA ts)).getD 1 [])):=by
      intro v this;rw [HCt.out];rw [MH (HCl.out.trans hj1)] at this ⊢;exact this
     have HB2:=HB2.out _ HB'.out;have HB2:Hid _:=HB2;clear HA' HB' HCt HCl HI;subst hj1;go_wp2_with fail
     go_roundw
     case rel=>exact ⟨1,lr.2,by omega,by go_num,HA2,HB2,HS',H8',EE,zE,T5,XE,by omega,gn2⟩
     case measure=>simp [intOf]; omega
    ·have hj2:j=1:=by omega
     have HA2:Hid (∀ v,Cv B w w5 v (((p.ks.take j).map (aA ts)).getD 0 [])→Cv B w w5 v (((p.ks.take (j+1)).map (aA ts)).getD 0 [])):=by
      intro v this;rw [HCt.out];obtain ⟨c1,hc1⟩:=List.length_eq_one_iff.1 (HCl.out.trans hj2);rw [hc1] at this ⊢;exact this
     have HA2:=HA2.out _ HA'.out;have HA2:Hid _:=HA2;have HB2:Hid (Cv B w w5 (.slice ca5 (aA ts p.ks[j]).length cc5) (((p.ks.take (j+1)).map (aA ts)).getD 1 [])):=by
      show Cv _ _ _ _ _;rw [HCt.out];obtain ⟨c1,hc1⟩:=List.length_eq_one_iff.1 (HCl.out.trans hj2);rw [hc1];exact ⟨_,_,rfl,HI.out⟩
     clear HA' HB' HCt HCl HI hj1;subst hj2;go_wp2_with fail
     go_roundw
     case rel=>exact ⟨2,lr.2,by omega,by go_num,HA2,HB2,HS',H8',EE,zE,T5,XE,by omega,gn2⟩
     case measure=>simp [intOf]; omega
   ·have er:r=lr:=by
     have e1:=HS.out.trans (HSp.out h0);rw [← HR.out,vO HW.out (by rw [e1]; exact h0),e1]
    subst er;have h0b:(r.1 != 0)=true:=by simpa using h0
    have H0:=aB h0;clear HN HC HSt HSp HS HCt HCl g5 HA HB H8 HR h0;go_wp2_with fail
    exact bJ rfl rfl ⟨⟨_,rfl,fun c=>absurd c H0.out⟩,XE,T5⟩
  ·have ej:j=p.ks.length:=by omega
   subst ej;rw [MM] at HA HB H8;have er:r=(hM ts p.k p.n p.x p.xs p.gs (p.ks.map (aA ts)),m'):=by
    have e1:bo ts p.ks (m+1) (d+1)=(0,m'):=by rw [HS.out,NY,bo]
    rw [← HR.out,vd HW.out (by rw [e1]),e1]
   have ER:=aB er;have EC:Hid (cp=nH ts p.k p.n p.xs p.gs (p.ks.map (aA ts))):=by show _=_; rw [← HCp.out]; exact yG ts p
   have hcl:(p.ks.map (aA ts)).length=fk p.k:=by rw [Nt]; exact HL.out
   have hsh:=Hu hcl hk1 hk13;have hsh:=aB hsh;have la8:=uI H8.out 0;have lb8:=uI H8.out 1;generalize p.ks.map (aA ts)=cs at *;clear HR HS HW HL IH er hcl H8 HCp;generalize cs.getD 0 []=la at *;generalize cs.getD 1 []=lb at *;obtain ⟨ca,cca,rfl,ia⟩:=HA.out;obtain ⟨cb,ccb,rfl,ib⟩:=HB.out;clear HA HB;have hb0:=aN wr (.cells #[] 3)
   have O0:=Nd (e:=3) (size:=1) wr #[] 0 (Mx _) (MD _) (by simp);have m1:0+la.length≤maxLen:=by unfold maxLen; omega
   have m2:(0+la.length)*8≤140737488355328:=by omega
   have m3:la.length+lb.length≤maxLen:=by unfold maxLen; omega
   have m4:(la.length+lb.length)*8≤140737488355328:=by omega
   have R1:=dE ia.at;have R2:=dE ib.at;go_wp2_with (first | (at_builtin; refine bY rfl (.tmp 72) (.tmp 73) 33 rfl wr 3 ii _ 1 8 underlying33 hii hv0 hv1 hv2 rfl (by decide) _ 0 [] rfl O0 ca la.length cca (ints la) rfl (R1.alloc _) m1 m2 (by simp) ?_))
   intro v1 w1 o1 g1;have hb1:=hb0.grown g1 (by simp) (by simp [Value.ownBlock]);have o1:w1.ownsRow wr 3 1 v1 la.length (ints la):=by simpa using o1
   have hz1:=hb1.size;clear g1;go_wp2_with (first | (at_builtin; refine bY rfl (.tmp 74) (.tmp 75) 33 rfl wr 3 ii _ 1 8 underlying33 hii hv0 hv1 hv2 rfl (by decide) _ la.length (ints la) rfl o1 cb lb.length ccb (ints lb) rfl (R2.next hb1) m3 m4 hz1 ?_))
   intro v2 w2 o2 g2;have hb2:=hb1.grown g2 hz1 (fun q hq=>(o1.lt q hq).1);rw [← xG] at o2;obtain ⟨a2,c2,rfl,i2⟩:=jw (B:=B) (lo:=w.heap.size) o2 (by rw [ME]) (M5 zJ);have iA:=ia.low hb2 (by have:=TJ.lt; omega);have iB:=ib.low hb2 (by have:=TJ.lt; omega);have E2:=EJ.next hb2 zJ;have T2:=TJ.next hb2;have X2:=XJ.trans (aw.of hb2 (M5 TJ.lt));have z2:w.heap.size<w2.heap.size:=My zJ hb2.size;have blw2:=X2.below hBt;have hp2:=hp.next blw2 (Mx _);have hT2:=hT.next blw2 (Mx _)
   have hB2:B≤w2.heap.size:=by have:=T2.lt; omega
   obtain ⟨n0,n1,⟨n2,n3,n4,n5,n6,n7⟩,n8,n9,n10⟩:=E2;simp only [MG] at n1 n2 n3 n4 n5 n6 n7 n8 n9 n10;have htw2:=T2.lt;clear g2 o1 o2 hb0 hb1 hb2 O0 R1 R2 m1 m2 m3 m4 ia ib EJ TJ XJ zJ blw hz1 blw2;rcases hsh.out with ⟨hkk,hcs⟩ | ⟨hkk,hcs,hlb⟩ | ⟨hkk,hcs⟩
   ·rw [hkk] at n0;rw [hcs] at ER EC;have er:r=(if p.n<0∨(ts.length:Int)≤p.n then 7 else 0,m'):=ER.out;have ec:cp=ts.getD p.n.toNat []:=EC.out;clear ER EC hcs hsh;haveI:Nonempty (cF w2):=⟨⟨_,Mz _ _⟩⟩
    have p1:=ak n1;have p2:=ak T2.c0;by_cases hn:p.n<0;rw [if_pos (.inl hn)] at er;subst er;clear ec;rotate_left;by_cases hn2:(ts.length:Int)≤p.n;rw [if_pos (.inr hn2)] at er;subst er;clear ec;have db1:decide (p.n<0)=false:=by simpa using hn
    have db2:decide ((ts.length:Int)≤p.n)=true:=by simpa using hn2
    rotate_left;rw [if_neg ag] at er;obtain ⟨i,hi⟩:∃ i:Nat,p.n=(i:Int):=⟨p.n.toNat,by omega⟩
    rw [hi] at n1 p1 ec hn hn2;have hil:i<ts.length:=by omega
    have EC2:Hid (ts[i]=cp):=by show _=_; rw [ec]; simp [hil]
    subst er;clear ec;have hiz:(i:Int)<(ts.length:Int):=by omega
    have hi0:(0:Int)≤(i:Int):=by omega
    have db1:decide ((i:Int)<0)=false:=by simp
    have db2:decide ((ts.length:Int)≤(i:Int))=false:=by simp; omega
    go_wp2_with fail
    refine aq aG aG ?_
    repeat (go_big_quiet_step (fail))
    refine wpQuiet_nil ?_;rintro w5 ⟨⟨v5,hb5⟩,h5⟩;obtain rfl:w5=v5:=h5;have T5:=T2.next hb5;have X5:=X2.trans (aw.of hb5 (M5 htw2));have hT5:=hT2.next hb5 hB2;have n1':=(hb5.cell (p:=ah w 1) z2).trans n1;clear p1 p2 this;obtain ⟨bt,ot,ai,ci,rfl,hbt,ct,it⟩:=hT5.elem hil;rw [EC2.out] at ct it;clear EC2 hT5;have htw5:=T5.lt;haveI:Nonempty (cF w5):=⟨⟨_,Mz _ _⟩⟩
    have p1:=ak n1';have p2:=ak T5.c0;have p3:=ak ct;go_wp2_with fail
    refine aq aG aG ?_
    repeat (go_big_quiet_step (fail))
    refine wpQuiet_nil ?_;rintro w6 ⟨⟨v6,hb6⟩,h6⟩;obtain rfl:w6=v6:=h6;have T6:=T5.next hb6;have X6:=X5.trans (aw.of hb6 (M5 htw5));have I6:=(it.next hb6 ag).t (lo:=w.heap.size) (by have:=hb6.size; omega);clear p1 p2 p3 this;go_wp2_with fail
    exact bJ rfl rfl ⟨⟨_,rfl,⟨ai,⟨ci,rfl⟩,I6⟩⟩,X6,T6⟩
    all_goals
     go_wp2_with fail
     refine aq aG aG ?_
     repeat (go_big_quiet_step (fail))
     refine wpQuiet_nil ?_;rintro w5 ⟨⟨v5,hb5⟩,h5⟩;obtain rfl:w5=v5:=h5;have T5:=T2.next hb5;have X5:=X2.trans (aw.of hb5 (M5 htw2));clear p1 p2 this;go_wp2_with fail
     exact bJ rfl rfl ⟨⟨_,rfl⟩,X5,T5⟩
   ·rw [hcs] at ER EC;rcases hkk with hkk | hkk | hkk | hkk | hkk | hkk
    all_goals rw [hkk] at n0 ER EC
    all_goals clear hcs hsh hkk
    ·have er:r=(cH la p.x,m'):=by rw [ER.out]; show (fU la p.x [],m')=_; rw [G0 la8]
     have ec:la=cp:=EC.out.symm;subst ec;have con:=ij la p.x ca cca q.xa q.xc w2 (hp2.x.up hB2) iA.at;unfold fN at con;generalize cH la p.x=ce at *;subst er;clear ER EC;go_wp2_with fail
     refine bC con fun w5 hb5=>?_;have T5:=T2.next hb5;have X5:=X2.trans (aw.of hb5 (M5 htw2));have I5:=iA.low hb5 hB2;clear con;go_wp2_with fail
     exact bJ rfl rfl ⟨⟨_,rfl,fun _=>⟨ca,⟨cca,rfl⟩,I5⟩⟩,X5,T5⟩
    ·have er:r=(bM la p.xs,m'):=by rw [ER.out]; show (jS la p.xs [],m')=_; rw [map_nil la8]
     have ec:=EC.out.symm;subst ec;have con:=ji la p.xs ca cca q.sa q.sc w2 (hp2.xs.up hB2) iA.at;have tl:=iR la p.xs;generalize bM la p.xs=ce at *;subst er;clear ER EC;go_wp2_with fail
     refine con.mono ?_;rintro e w5 ⟨v5,rfl,g5,_,hb5⟩;have T5:=T2.next hb5;have X5:=X2.trans (aw.of hb5 (M5 htw2));have HG:Hid (ce=0→∃ a9 c9,v5 = .slice a9 (gf la p.xs).length c9∧jZ B w w5 a9 (gf la p.xs)):=fun c=>jw (g5 c) tl.symm (M5 z2)
     clear con g5 tl;go_wp2_with fail
     exact bJ rfl rfl ⟨⟨_,rfl,fun c=>by obtain ⟨a9,c9,e9,I9⟩:=HG.out c; exact ⟨a9,⟨c9,e9⟩,I9⟩⟩,X5,T5⟩
    rotate_left;rotate_left
    ·have er:r=(if 8<p.xs.length+p.gs.length then 5 else if bM la p.xs≠0 then bM la p.xs else dF la p.gs,m'):=by rw [ER.out]; show (dx la p.xs p.gs [],m')=_; rw [EW la8]
     have ec:=EC.out.symm;have EC2:=aB ec;clear ER EC ec;have hsum:=HK.out.sum;have hWs:IntKind.i64.wrap ((p.xs.length:Int)+(p.gs.length:Int))=(p.xs.length:Int)+(p.gs.length:Int):=IntWalk.i64_in _ ⟨by omega,by omega⟩;by_cases hs8:8<p.xs.length+p.gs.length
     ·rw [if_pos hs8] at er;subst er;have hs8i:(8:Int)<(p.xs.length:Int)+(p.gs.length:Int):=by omega
      go_wp2_with fail
      exact bJ rfl rfl ⟨⟨_,rfl⟩,X2,T2⟩
     rw [if_neg hs8] at er;have hs8i:¬ (8:Int)<(p.xs.length:Int)+(p.gs.length:Int):=by omega
     have con:=ji la p.xs ca cca q.sa q.sc w2 (hp2.xs.up hB2) iA.at;have tl:=iR la p.xs;have al:=pM la p.gs;have EQ:=aB er;clear er;generalize bM la p.xs=ce at *;go_wp2_with fail
     refine con.mono ?_;rintro e w5 ⟨v5,rfl,g5,_,hb5⟩;have T5:=T2.next hb5;have X5:=X2.trans (aw.of hb5 (M5 htw2));have hB5:=MO hB2 hb5.size;clear con;by_cases hce:ce=0;rotate_left
     ·have er:r=(ce,m'):=by rw [EQ.out,if_pos hce]
      subst er;have hcb:(ce != 0)=true:=by simpa using hce
      have H0:=aB hce;clear hce g5 EQ;go_wp2_with fail
      exact bJ rfl rfl ⟨⟨_,rfl,fun c=>absurd c H0.out⟩,X5,T5⟩
     have er:r=(dF la p.gs,m'):=by rw [EQ.out,if_neg (by simpa using hce)]
     have o5:=g5 hce;subst hce;clear g5 EQ;have hbB:=hb5.mono hB2;have con:=lP la p.gs ca cca q.ga q.gc w5 ((hp2.gs.next hbB (Mx _)).up hB5) (iA.low hb5 hB2).at ag;have n9':=(hb5.cell (p:=ah w 9) z2).trans n9;have hz5:=T5.lt;generalize dF la p.gs=ge at *;subst er;go_wp2_with fail
     refine con.mono ?_;rintro e w6 ⟨v6,rfl,g6,g6n,hb6⟩;have T6:=T5.next hb6;have X6:=X5.trans (aw.of hb6 (M5 hz5));have o6:=aL o5 hb6;have z6:=T6.lt;clear con;have hb0:=aN w6 (.cells #[] 3);have O0:=Nd (e:=3) (size:=1) w6 #[] 0 (Mx _) (MD _) (by simp);obtain ⟨a5,c5,rfl,i5⟩:=mC o6 tl.symm;have R5:=dE i5
     obtain ⟨a6,l6,c6,rfl,R6,h6,HG6⟩:∃ (a6:Option Addr) (l6:List Int) (c6:Nat),v6 = .slice a6 l6.length c6∧Raw w6 a6 l6.length 1 (ints l6)∧l6.length≤8∧Hid (ge=0→l6=dO la p.gs):=by
      by_cases hg:ge=0
      ·obtain ⟨a6,c6,e6,i6⟩:=mC (g6 hg) al.symm;exact ⟨a6,_,c6,e6,dE i6,by rw [al]; omega,fun _=>rfl⟩
      ·exact ⟨none,[],0,g6n hg,⟨rfl,fun u hu=>(by cases hu),fun _=>rfl,fun ad e=>(by cases e)⟩,by simp,fun c=>absurd c hg⟩
     have m1:0+(gf la p.xs).length≤maxLen:=by rw [tl]; unfold maxLen; omega
     have m2:(0+(gf la p.xs).length)*8≤140737488355328:=by rw [tl]; omega
     have m3:(gf la p.xs).length+l6.length≤maxLen:=by rw [tl]; unfold maxLen; omega
     have m4:((gf la p.xs).length+l6.length)*8≤140737488355328:=by rw [tl]; omega
     have EC3:Hid (ge=0→gf la p.xs ++ l6=cp):=fun c=>by rw [HG6.out c]; exact EC2.out
     generalize gf la p.xs=tx at *;clear tl al g6 g6n EC2 HG6 o5 o6;go_wp2_with (first | (at_builtin; refine bY rfl (.tmp 177) (.tmp 178) 33 rfl w6 3 ii _ 1 8 underlying33 hii hv0 hv1 hv2 rfl (by decide) _ 0 [] rfl O0 a5 tx.length c5 (ints tx) rfl (R5.alloc _) m1 m2 (by simp) ?_))
     intro v7 w7 o7 g7;have hb7:=hb0.grown g7 (by simp) (by simp [Value.ownBlock]);have o7:w7.ownsRow w6 3 1 v7 tx.length (ints tx):=by simpa using o7
     have hz7:=hb7.size;clear g7;go_wp2_with (first | (at_builtin; refine bY rfl (.tmp 179) (.tmp 180) 33 rfl w6 3 ii _ 1 8 underlying33 hii hv0 hv1 hv2 rfl (by decide) _ tx.length (ints tx) rfl o7 a6 l6.length c6 (ints l6) rfl (R6.next hb7) m3 m4 hz7 ?_))
     intro v8 w8 o8 g8;have hb8:=hb7.grown g8 hz7 (fun q hq=>(o7.lt q hq).1);rw [← xG] at o8;obtain ⟨a8,c8,rfl,i8⟩:=jw (B:=B) (lo:=w.heap.size) o8 (by rw [ME]) (by have:=hb5.size; have:=hb6.size; omega);have T8:=T6.next hb8;have X8:=X6.trans (aw.of hb8 (M5 z6));have HG:Hid (ge=0→∃ a9 c9,(Value.slice a8 (tx ++ l6).length c8) = .slice a9 cp.length c9∧jZ B w w8 a9 cp):=fun c=>by
      have e:=EC3.out c;subst e;exact ⟨a8,c8,rfl,i8⟩
     clear g8 o7 o8 hb0 O0 R5 R6 EC3 m1 m2 m3 m4;go_wp2_with fail
     exact MA (v:=.tuple #[.slice a8 (tx ++ l6).length c8,ge]) (by simp [results,results46,go_sem]) rfl ⟨⟨_,rfl,fun c=>by obtain ⟨a9,c9,e9,I9⟩:=HG.out c; exact ⟨a9,⟨c9,e9⟩,I9⟩⟩,X8,T8⟩
    ·have er:r=(if bM la p.xs≠0 then bM la p.xs else if p.n<0∨50<p.n then 3 else 0,m'):=by rw [ER.out]; show (jU la p.xs p.n [],m')=_; rw [JL la8]
     have ec:la=cp:=EC.out.symm;subst ec;clear ER EC;have con:=ji la p.xs ca cca q.sa q.sc w2 (hp2.xs.up hB2) iA.at;have EQ:=aB er;clear er;generalize bM la p.xs=ce at *;go_wp2_with fail
     refine con.mono ?_;rintro e w5 ⟨v5,rfl,g5,_,hb5⟩;have T5:=T2.next hb5;have X5:=X2.trans (aw.of hb5 (M5 htw2));have I5:=iA.low hb5 hB2;have n1':=(hb5.cell (p:=ah w 1) z2).trans n1;clear con g5;by_cases hce:ce=0;rotate_left
     ·have er:r=(ce,m'):=by rw [EQ.out,if_pos hce]
      subst er;have hcb:(ce != 0)=true:=by simpa using hce
      have H0:=aB hce;clear hce EQ;go_wp2_with fail
      exact bJ rfl rfl ⟨⟨_,rfl,fun c=>absurd c H0.out⟩,X5,T5⟩
     have EQ2:Hid (r=(if p.n<0∨50<p.n then 3 else 0,m')):=by show _=_; rw [EQ.out,if_neg (by simpa using hce)]
     clear EQ;subst hce;by_cases hn:p.n<0;have er:r=(3,m'):=by rw [EQ2.out,if_pos (.inl hn)]
     rotate_left;by_cases hn2:50<p.n;have er:r=(3,m'):=by rw [EQ2.out,if_pos (.inr hn2)]
     rotate_left;have er:r=(0,m'):=by rw [EQ2.out,if_neg ag]
     subst er;clear EQ2;go_wp2_with fail
     exact bJ rfl rfl ⟨⟨_,rfl,⟨ca,⟨cca,rfl⟩,I5⟩⟩,X5,T5⟩
     all_goals
      subst er;clear EQ2;go_wp2_with fail
      exact bJ rfl rfl ⟨⟨_,rfl⟩,X5,T5⟩
    all_goals
     have er:r=(0,m'):=ER.out;have ec:la=cp:=EC.out.symm;subst ec;subst er;clear ER EC;go_wp2_with fail
     exact bJ rfl rfl ⟨⟨_,rfl,⟨ca,⟨cca,rfl⟩,iA⟩⟩,X2,T2⟩
   ·rw [hcs] at ER EC;rcases hkk with hkk | hkk | hkk | hkk | hkk | hkk
    all_goals rw [hkk] at n0 ER EC
    all_goals clear hcs hsh hkk
    rotate_left
    ·have er:r=(if 8<la.length+lb.length then 5 else cH (la ++ lb) p.x,m'):=by rw [ER.out]; show (cw 0 la lb p.x [] [],m')=_; rw [tV la8 lb8]
     have ec:la=cp:=EC.out.symm;subst ec;clear ER EC;by_cases hs8:8<la.length+lb.length
     ·rw [if_pos hs8] at er;subst er;have hs8i:(8:Int)<(la.length:Int)+(lb.length:Int):=by omega
      have hs8j:(8:Int)<((la ++ lb).length:Int):=by rw [ME]; omega
      go_wp2_with fail
      exact bJ rfl rfl ⟨⟨_,rfl⟩,X2,T2⟩
     rw [if_neg hs8] at er;have hs8i:¬ (8:Int)<(la.length:Int)+(lb.length:Int):=by omega
     have hs8j:¬ (8:Int)<((la ++ lb).length:Int):=by rw [ME]; omega
     have con:=ij (la ++ lb) p.x a2 c2 q.xa q.xc w2 (hp2.x.up hB2) i2.at;unfold fN at con;generalize cH (la ++ lb) p.x=ce at *;subst er;rw [ME] at con;go_wp2_with fail
     refine bC con fun w5 hb5=>?_;have T5:=T2.next hb5;have X5:=X2.trans (aw.of hb5 (M5 htw2));have I5:=iA.low hb5 hB2;have n0':=(hb5.cell (p:=ah w 0) z2).trans n0;clear con;go_wp2_with fail
     exact bJ rfl rfl ⟨⟨_,rfl,fun _=>⟨ca,⟨cca,rfl⟩,I5⟩⟩,X5,T5⟩
    ·have er:r=(if 8<la.length+lb.length then 5 else cH (la ++ lb) p.x,m'):=by rw [ER.out]; show (cw 0 la lb p.x [] [],m')=_; rw [tV la8 lb8]
     have ec:la=cp:=EC.out.symm;subst ec;clear ER EC;by_cases hs8:8<la.length+lb.length
     ·rw [if_pos hs8] at er;subst er;have hs8i:(8:Int)<(la.length:Int)+(lb.length:Int):=by omega
      have hs8j:(8:Int)<((la ++ lb).length:Int):=by rw [ME]; omega
      go_wp2_with fail
      exact MA (v:=.tuple #[bX,(5:Int)]) (by simp [results,results46,go_sem]) rfl ⟨⟨_,rfl⟩,X2,T2⟩
     rw [if_neg hs8] at er;have hs8i:¬ (8:Int)<(la.length:Int)+(lb.length:Int):=by omega
     have hs8j:¬ (8:Int)<((la ++ lb).length:Int):=by rw [ME]; omega
     have con:=ij (la ++ lb) p.x a2 c2 q.xa q.xc w2 (hp2.x.up hB2) i2.at;unfold fN at con;generalize cH (la ++ lb) p.x=ce at *;subst er;rw [ME] at con;go_wp2_with fail
     refine bC con fun w5 hb5=>?_;have T5:=T2.next hb5;have X5:=X2.trans (aw.of hb5 (M5 htw2));have I5:=iA.low hb5 hB2;have n0':=(hb5.cell (p:=ah w 0) z2).trans n0;clear con;go_wp2_with fail
     exact MA (v:=.tuple #[.slice ca la.length cca,ce]) (by simp [results,results46,go_sem]) rfl ⟨⟨_,rfl,fun _=>⟨ca,⟨cca,rfl⟩,I5⟩⟩,X5,T5⟩
    rotate_left
    ·have er:r=(jr la lb,m'):=ER.out;have ec:cU la lb=cp:=EC.out.symm;subst ec;have con:=Cc la lb ca cca cb ccb w2 iA.at iB.at la8;have HTl:Hid (jr la lb=0→(cU la lb).length=la.length):=fun c=>gA (Cw c)
     generalize jr la lb=ce at *;subst er;clear ER EC;go_wp2_with fail
     refine con.mono ?_;rintro e w5 ⟨v5,rfl,g5,_,hb5⟩;have T5:=T2.next hb5;have X5:=X2.trans (aw.of hb5 (M5 htw2));have HG:Hid (ce=0→∃ a9 c9,v5 = .slice a9 (cU la lb).length c9∧jZ B w w5 a9 (cU la lb)):=fun c=>by
      obtain ⟨a9,c9,e9,i9⟩:=g5 c;exact ⟨a9,c9,by rw [HTl.out c]; exact e9,i9.Mg (M5 z2)⟩
     clear con g5 HTl;go_wp2_with fail
     exact MA (v:=.tuple #[v5,.int .i64 ce]) (by simp [results,results46,go_sem]) rfl ⟨⟨_,rfl,fun c=>by obtain ⟨a9,c9,e9,I9⟩:=HG.out c; exact ⟨a9,⟨c9,e9⟩,I9⟩⟩,X5,T5⟩
    ·have er:r=(jr la lb,m'):=ER.out;have ec:cU la lb=cp:=EC.out.symm;subst ec;have con:=Cc la lb ca cca cb ccb w2 iA.at iB.at la8;have HTl:Hid (jr la lb=0→(cU la lb).length=la.length):=fun c=>gA (Cw c)
     generalize jr la lb=ce at *;subst er;clear ER EC;go_wp2_with fail
     refine con.mono ?_;rintro e w5 ⟨v5,rfl,g5,_,hb5⟩;have T5:=T2.next hb5;have X5:=X2.trans (aw.of hb5 (M5 htw2));have HG:Hid (ce=0→∃ a9 c9,v5 = .slice a9 (cU la lb).length c9∧jZ B w w5 a9 (cU la lb)):=fun c=>by
      obtain ⟨a9,c9,e9,i9⟩:=g5 c;exact ⟨a9,c9,by rw [HTl.out c]; exact e9,i9.Mg (M5 z2)⟩
     clear con g5 HTl;go_wp2_with fail
     exact MA (v:=.tuple #[v5,.int .i64 ce]) (by simp [results,results46,go_sem]) rfl ⟨⟨_,rfl,fun c=>by obtain ⟨a9,c9,e9,I9⟩:=HG.out c; exact ⟨a9,⟨c9,e9⟩,I9⟩⟩,X5,T5⟩
    all_goals
     have er:r=(if 8<la.length+lb.length then 5 else cH (la ++ lb) p.x,m'):=by rw [ER.out]; show (cw 0 la lb p.x [] [],m')=_; rw [tV la8 lb8]
     have ec:la ++ lb=cp:=EC.out.symm;subst ec;clear ER EC;by_cases hs8:8<la.length+lb.length
     ·rw [if_pos hs8] at er;subst er;have hs8i:(8:Int)<(la.length:Int)+(lb.length:Int):=by omega
      have hs8j:(8:Int)<((la ++ lb).length:Int):=by rw [ME]; omega
      go_wp2_with fail
      exact MA (v:=.tuple #[bX,(5:Int)]) (by simp [results,results46,go_sem]) rfl ⟨⟨_,rfl⟩,X2,T2⟩
     rw [if_neg hs8] at er;have hs8i:¬ (8:Int)<(la.length:Int)+(lb.length:Int):=by omega
     have hs8j:¬ (8:Int)<((la ++ lb).length:Int):=by rw [ME]; omega
     have con:=ij (la ++ lb) p.x a2 c2 q.xa q.xc w2 (hp2.x.up hB2) i2.at;unfold fN at con;generalize cH (la ++ lb) p.x=ce at *;subst er;rw [ME] at con;go_wp2_with fail
     refine bC con fun w5 hb5=>?_;have T5:=T2.next hb5;have X5:=X2.trans (aw.of hb5 (M5 htw2));have I5:=i2.low hb5 hB2;have n0':=(hb5.cell (p:=ah w 0) z2).trans n0;clear con;go_wp2_with fail
     exact MA (v:=.tuple #[.slice a2 (la.length+lb.length) c2,ce]) (by simp [results,results46,go_sem]) rfl ⟨⟨_,rfl,fun _=>⟨a2,⟨c2,(by simp)⟩,I5⟩⟩,X5,T5⟩
theorem Dh (ts:List (List Int)) (hts:fg ts=0):∀ p,GP ts p:=Pl.ind fun k n x xs gs ks ih=>GQ ts hts (.mk k n x xs gs ks) ih
theorem j9.fresh (w:World) (ta:Option Addr) (n tc:Nat) (T:TypeId):j9 (w.alloc (.cells #[.slice ta n tc,aD] T)) w ta n tc 0:=by
 have h:=bq w #[.slice ta n tc,aD] T;exact ⟨an h,cell_of (i:=0) h rfl,cell_of (i:=1) h rfl,MB _ w 1 _ _ h⟩
def Ft (cp:List Int) (le:Int) (w:World) (e:Ending) (w':World):Prop:=∃ a c,e = .returned (.tuple #[.slice a (if le=0 then cp else []).length c,le])∧jZ w w.heap.size w' a (if le=0 then cp else [])∧Below w w w'
theorem Ft.bad {cp:List Int} {le:Int} {w w':World} (h:¬ le=0) (hb:Below w w w'):Ft cp le w (.returned (.tuple #[bX,le])) w':=by
 refine ⟨none,0,?_,?_,hb⟩
 ·rw [if_neg h]; rfl
 ·rw [if_neg h]; exact jZ.nil _ _ _
theorem Ft.Gr {cp:List Int} {w w':World} {a:Option Addr} {c:Nat} (h:jZ w w.heap.size w' a cp) (hb:Below w w w'):Ft cp 0 w (.returned (.tuple #[.slice a cp.length c,aD])) w':=⟨a,c,rfl,h,hb⟩
theorem qp (ts:List (List Int)) (p:Pl) (q:Pw) (ta:Option Addr) (tc:Nat) (w:World) (hT:jG w w ta ts) (hp:kH w w p q) (hk:gu p) :
  Calls prog 17 #[.slice ta ts.length tc,fw p q] w (Ft (aA ts p) (dp ts p) w):=by
 have HK:=aB hk;generalize hle:dp ts p=le;generalize hcp:aA ts p=cp;generalize hr:fg ts=r;have HR:=aB hr;have HCp:=aB hcp;have HLr:Hid (¬ r=0→le=r):=fun c=>by rw [← hle]; unfold dp; rw [hr,if_pos c]
 have HL0:Hid (r=0→le=(bD ts p 0 1).1):=fun c=>by rw [← hle]; unfold dp; rw [hr,if_neg (by simpa using c)]
 clear hle hcp hr hk;have hb0:=aN w (.cells (fE p q) 31);have E0:=ft.new w p q 31;have z0:=an (bq w (fE p q) 31);unfold fw;go_enter func17,ntmps17;by_cases h8:8<ts.length
 ·have h8z:8<(ts.length:Int):=by omega
  have e:r=5:=by rw [← HR.out]; unfold fg; rw [if_pos h8]
  have el:le=5:=by rw [HLr.out (by rw [e]; decide),e]
  subst el;clear HR HLr HL0;go_wp2
  exact bJ rfl rfl (Ft.bad (by decide) hb0)
 have h8z:¬ 8<(ts.length:Int):=by omega
 have HR':Hid (r=jI (ts.drop 0)):=by show _=_; rw [← HR.out]; unfold fg; rw [if_neg h8]; rfl
 go_wp2_with fail
 generalize w.alloc _=w0 at *;go_loopw [17] (fun i wr=>∃ j:Nat,j≤ts.length∧i = .int .i64 j∧Hid (r=jI (ts.drop j))∧Below w0 w0 wr) (fun i _=>ts.length - (intOf i).toNat)
 case atStart=>exact ⟨0,MD _,rfl,HR',Mz _ _⟩
 case round =>
  obtain ⟨j,hj,rfl,HT,hb⟩:=hrel;have hbW:=chain hb0 hb;by_cases hlt:j<ts.length
  ·obtain ⟨b,off,ai,ci,eta,hbl,c0,hi⟩:=(hT.next hbW (Mx _)).elem hlt;have hjz:(j:Int)<(ts.length:Int):=by omega
   have HBad:Hid (¬ fb ts[j]=0→r=fb ts[j]):=fun c=>HT.out.trans (uW hlt c)
   have HOk:Hid (fb ts[j]=0→r=jI (ts.drop (j+1))):=fun c=>HT.out.trans (rN hlt c)
   clear HT;generalize ts[j]=cs at *;by_cases hc8:8<cs.length
   ·have hcz:8<(cs.length:Int):=by omega
    have e1:fb cs=5:=by unfold fb; rw [if_pos hc8]
    have e:r=5:=by rw [HBad.out (by rw [e1]; decide),e1]
    have el:le=5:=by rw [HLr.out (by rw [e]; decide),e]
    subst el;clear HBad HOk e1 HR HLr HL0 HR' e;subst eta;go_wp2
    exact bJ rfl rfl (Ft.bad (by decide) hbW)
   ·have hcz:¬ 8<(cs.length:Int):=by omega
    have HC:Hid (fb cs=if ∃ c ∈ cs,c<1∨4<c then 1 else 0):=by show _=_; unfold fb; rw [if_neg hc8]
    obtain ⟨wo,hwo⟩:∃ z,z=wr:=⟨_,rfl⟩
    subst hwo;subst eta;go_upto_region 8 with fail
    clear c0;go_wp2_with fail
    go_loopw [26] (fun i wr=>∃ k:Nat,k≤cs.length∧i = .int .i64 k∧Hid (∀ c ∈ cs.take k,¬ (c<1∨4<c))∧Below wo wo wr) (fun i _=>cs.length - (intOf i).toNat)
    case atStart=>exact ⟨0,MD _,rfl,(fun c hc=>by simp at hc),Mz _ _⟩
    case round =>
     obtain ⟨k,hk,rfl,HKk,hbk⟩:=hrel;have hbw:=chain hb hbk;have hbw2:=chain hb0 hbw;by_cases hkl:k<cs.length
     ·obtain ⟨b1,o1,rfl,hb1,c1⟩:=(hi.next hbk hbW.size).elem hkl;have hkz:(k:Int)<(cs.length:Int):=by omega
      have HT1:=aB (MJ hkl);have HM:=aB (MC hkl);generalize cs[k]=c at *;by_cases hbad:c<1∨4<c
      ·have e1:fb cs=1:=by rw [HC.out,if_pos ⟨c,HM.out,hbad⟩]
       have e:r=1:=by rw [HBad.out (by rw [e1]; decide),e1]
       have el:le=1:=by rw [HLr.out (by rw [e]; decide),e]
       subst el;clear HBad HOk e1 HC HKk HR HLr HL0 HR' e;have hb2:c<1∨(¬ c<1∧4<c):=by omega
       clear hbad;rcases hb2 with g1 | ⟨g1,g2⟩
       ·go_wp2
        exact bJ rfl rfl (Ft.bad (by decide) hbw2)
       ·go_wp2
        exact bJ rfl rfl (Ft.bad (by decide) hbw2)
      ·have g1:¬ c<1:=fun e=>hbad (.inl e)
       have g2:¬ 4<c:=fun e=>hbad (.inr e)
       have HK':Hid (∀ c ∈ cs.take (k+1),¬ (c<1∨4<c)):=by
        show ∀ c ∈ _,_
        rw [HT1.out];intro c' hc';rcases List.mem_append.1 hc' with hc' | hc'
        ·exact HKk.out c' hc'
        ·rw [List.mem_singleton.1 hc']; exact hbad
       clear hbad HKk;go_wp2
       go_roundw
       case rel=>exact ⟨k+1,by omega,by go_num,HK',hbk⟩
       case measure=>simp [intOf]; omega
     ·have e:k=cs.length:=by omega
      subst e;rw [MM] at HKk;have e1:fb cs=0:=by rw [HC.out,if_neg fun ⟨c,hc,hh⟩=>HKk.out c hc hh]
      have HT':=aB (HOk.out e1);clear HBad HOk e1 HC HKk;go_wp2
      go_roundw
      case rel=>exact ⟨j+1,by omega,by go_num,HT',hbw⟩
      case measure=>simp [intOf]; omega
  ·have e1:r=0:=by rw [HT.out,M7 ag]; rfl
   have hjz:¬ (j:Int)<(ts.length:Int):=by omega
   have el:=HL0.out e1;have hts:=HR.out.trans e1;have hbB:=hbW.size;have hal:=aN wr (.cells #[.slice ta ts.length tc,aD] 85);have hA:=hbW.trans (hal.mono hbB);have TA:=j9.fresh wr ta ts.length tc 85;have EA:=(E0.next hb z0).next hal (My z0 hb.size);have con:=Dh ts hts p w wr.heap.size ta tc q 0 1 _ (hp.next hA (Mx _)) (hT.next hA (Mx _)) hbB TA (by decide) (by decide) (by decide) (by decide) HK.out;rw [← el,HCp.out] at con
   generalize (bD ts p 0 1).2=m2 at con;unfold fw at con;clear HT HL0 HLr HR' HR HCp TA el hts e1;obtain ⟨n0,n1,⟨n2,n3,n4,n5,n6,n7⟩,n8,n9,n10⟩:=EA;simp only [MG] at n1 n2 n3 n4 n5 n6 n7 n8 n9 n10;go_wp2_with fail
   refine con.mono ?_;rintro e w5 ⟨⟨v5,rfl,g5⟩,X5,T5⟩;have hb5:=hA.trans (X5.below hbB);have HG:Hid (le=0→∃ ca cc,v5 = .slice ca cp.length cc∧jZ w w.heap.size w5 ca cp):=fun c=>by
    obtain ⟨ca,cc,e5,i5⟩:=g5 c;exact ⟨ca,cc,e5,i5.wide (by have:=hal.size; omega)⟩
   clear con g5 n0 n1 n2 n3 n4 n5 n6 n7 n8 n9 n10;dsimp only;by_cases hl0:le=0
   ·subst hl0;obtain ⟨ca,cc,rfl,i5⟩:=HG.out rfl;clear HG;go_wp2
    exact bJ rfl rfl (Ft.Gr i5 hb5)
   ·have hlb:(le != 0)=true:=by simpa using hl0
    have H0:=aB hl0;clear HG hl0;go_wp2
    exact bJ rfl rfl (Ft.bad H0.out hb5)
end Go.Proofs.YtoefpglknaiaeaaGreat
