/- Together: I4b, I5, I5b, I6, I7, IH, IL, IHb, IA. -/
import Derived.Test.YtjebpkhkjkjphaaGreatP13
import Derived.Test.YtjebpkhkjkjphaaGreatP3
import Derived.Test.YtjebpkhkjkjphaaGreatP10
import Derived.Test.YtjebpkhkjkjphaaGreatP6
namespace Go.Proofs.YtjebpkhkjkjphaaGreat
open Go.RowKit Go.Lib Go.Shelf
set_option maxRecDepth 100000
set_option maxHeartbeats 16000000
set_option maxHeartbeats 2000000
theorem bq {B g:Nat} {W0 W:World} (h:Below B W0 W) (hg:B≤g) (v0 v1 v2 v3 v4 v5 v6 v7 v8 v9 v10 v11 v12:Value):Below B W0 (((((((((((((W.setCell ⟨g,0,none⟩ v0).setCell ⟨g,1,none⟩ v1).setCell ⟨g,2,none⟩ v2).setCell ⟨g,3,none⟩ v3).setCell ⟨g,4,none⟩ v4).setCell ⟨g,5,none⟩ v5).setCell ⟨g,6,none⟩ v6).setCell ⟨g,7,none⟩ v7).setCell ⟨g,8,none⟩ v8).setCell ⟨g,9,none⟩ v9).setCell ⟨g,10,none⟩ v10).setCell ⟨g,11,none⟩ v11).setCell ⟨g,12,none⟩ v12) :=
 (((((((((((((h.setCell (p:=⟨g,0,none⟩) hg v0).setCell (p:=⟨g,1,none⟩) hg v1).setCell (p:=⟨g,2,none⟩) hg v2).setCell (p:=⟨g,3,none⟩) hg v3).setCell (p:=⟨g,4,none⟩) hg v4).setCell (p:=⟨g,5,none⟩) hg v5).setCell (p:=⟨g,6,none⟩) hg v6).setCell (p:=⟨g,7,none⟩) hg v7).setCell (p:=⟨g,8,none⟩) hg v8).setCell (p:=⟨g,9,none⟩) hg v9).setCell (p:=⟨g,10,none⟩) hg v10).setCell (p:=⟨g,11,none⟩) hg v11).setCell (p:=⟨g,12,none⟩) hg v12)
theorem bL {S:Nat→Prop} {g:Nat} {W0 W:World} (h:ah S W0 W) (hg:¬ S g) (v0 v1 v2 v3 v4 v5 v6 v7 v8 v9 v10 v11 v12:Value):ah S W0 (((((((((((((W.setCell ⟨g,0,none⟩ v0).setCell ⟨g,1,none⟩ v1).setCell ⟨g,2,none⟩ v2).setCell ⟨g,3,none⟩ v3).setCell ⟨g,4,none⟩ v4).setCell ⟨g,5,none⟩ v5).setCell ⟨g,6,none⟩ v6).setCell ⟨g,7,none⟩ v7).setCell ⟨g,8,none⟩ v8).setCell ⟨g,9,none⟩ v9).setCell ⟨g,10,none⟩ v10).setCell ⟨g,11,none⟩ v11).setCell ⟨g,12,none⟩ v12) :=
 (((((((((((((h.set g (0) v0 hg).set g (1) v1 hg).set g (2) v2 hg).set g (3) v3 hg).set g (4) v4 hg).set g (5) v5 hg).set g (6) v6 hg).set g (7) v7 hg).set g (8) v8 hg).set g (9) v9 hg).set g (10) v10 hg).set g (11) v11 hg).set g (12) v12 hg)
theorem ij {g b:Nat} {W:World} {x:Option Obj} (h:W.heap[b]? = x) (hg:b≠g) (v0 v1 v2 v3 v4 v5 v6 v7 v8 v9 v10 v11 v12:Value):(((((((((((((W.setCell ⟨g,0,none⟩ v0).setCell ⟨g,1,none⟩ v1).setCell ⟨g,2,none⟩ v2).setCell ⟨g,3,none⟩ v3).setCell ⟨g,4,none⟩ v4).setCell ⟨g,5,none⟩ v5).setCell ⟨g,6,none⟩ v6).setCell ⟨g,7,none⟩ v7).setCell ⟨g,8,none⟩ v8).setCell ⟨g,9,none⟩ v9).setCell ⟨g,10,none⟩ v10).setCell ⟨g,11,none⟩ v11).setCell ⟨g,12,none⟩ v12).heap[b]? = x:=by
 rw [au _ _ hg,au _ _ hg,au _ _ hg,au _ _ hg,au _ _ hg,au _ _ hg,au _ _ hg,au _ _ hg,au _ _ hg,au _ _ hg,au _ _ hg,au _ _ hg,au _ _ hg];exact h
theorem bI {g:Nat} {T:TypeId} {W:World} {c0 c1 c2 c3 c4 c5 c6 c7 c8 c9 eM c11 c12:Value} (h:W.heap[g]? = some (.cells #[c0,c1,c2,c3,c4,c5,c6,c7,c8,c9,eM,c11,c12] T (0,0))) (v0 v1 v2 v3 v4 v5 v6 v7 v8 v9 v10 v11 v12:Value):(((((((((((((W.setCell ⟨g,0,none⟩ v0).setCell ⟨g,1,none⟩ v1).setCell ⟨g,2,none⟩ v2).setCell ⟨g,3,none⟩ v3).setCell ⟨g,4,none⟩ v4).setCell ⟨g,5,none⟩ v5).setCell ⟨g,6,none⟩ v6).setCell ⟨g,7,none⟩ v7).setCell ⟨g,8,none⟩ v8).setCell ⟨g,9,none⟩ v9).setCell ⟨g,10,none⟩ v10).setCell ⟨g,11,none⟩ v11).setCell ⟨g,12,none⟩ v12).heap[g]? = some (.cells #[v0,v1,v2,v3,v4,v5,v6,v7,v8,v9,v10,v11,v12] T (0,0)):=by
 have h0:(W.setCell ⟨g,0,none⟩ v0).heap[g]? = some (.cells #[v0,c1,c2,c3,c4,c5,c6,c7,c8,c9,eM,c11,c12] T (0,0)):=Ml _ g 0 #[c0,c1,c2,c3,c4,c5,c6,c7,c8,c9,eM,c11,c12] _ v0 h;have h1:((W.setCell ⟨g,0,none⟩ v0).setCell ⟨g,1,none⟩ v1).heap[g]? = some (.cells #[v0,v1,c2,c3,c4,c5,c6,c7,c8,c9,eM,c11,c12] T (0,0)):=Ml _ g 1 #[v0,c1,c2,c3,c4,c5,c6,c7,c8,c9,eM,c11,c12] _ v1 h0
 have h2:(((W.setCell ⟨g,0,none⟩ v0).setCell ⟨g,1,none⟩ v1).setCell ⟨g,2,none⟩ v2).heap[g]? = some (.cells #[v0,v1,v2,c3,c4,c5,c6,c7,c8,c9,eM,c11,c12] T (0,0)):=Ml _ g 2 #[v0,v1,c2,c3,c4,c5,c6,c7,c8,c9,eM,c11,c12] _ v2 h1;have h3:((((W.setCell ⟨g,0,none⟩ v0).setCell ⟨g,1,none⟩ v1).setCell ⟨g,2,none⟩ v2).setCell ⟨g,3,none⟩ v3).heap[g]? = some (.cells #[v0,v1,v2,v3,c4,c5,c6,c7,c8,c9,eM,c11,c12] T (0,0)):=Ml _ g 3 #[v0,v1,v2,c3,c4,c5,c6,c7,c8,c9,eM,c11,c12] _ v3 h2
 have h4:(((((W.setCell ⟨g,0,none⟩ v0).setCell ⟨g,1,none⟩ v1).setCell ⟨g,2,none⟩ v2).setCell ⟨g,3,none⟩ v3).setCell ⟨g,4,none⟩ v4).heap[g]? = some (.cells #[v0,v1,v2,v3,v4,c5,c6,c7,c8,c9,eM,c11,c12] T (0,0)):=Ml _ g 4 #[v0,v1,v2,v3,c4,c5,c6,c7,c8,c9,eM,c11,c12] _ v4 h3;have h5:((((((W.setCell ⟨g,0,none⟩ v0).setCell ⟨g,1,none⟩ v1).setCell ⟨g,2,none⟩ v2).setCell ⟨g,3,none⟩ v3).setCell ⟨g,4,none⟩ v4).setCell ⟨g,5,none⟩ v5).heap[g]? = some (.cells #[v0,v1,v2,v3,v4,v5,c6,c7,c8,c9,eM,c11,c12] T (0,0)):=Ml _ g 5 #[v0,v1,v2,v3,v4,c5,c6,c7,c8,c9,eM,c11,c12] _ v5 h4
 have h6:(((((((W.setCell ⟨g,0,none⟩ v0).setCell ⟨g,1,none⟩ v1).setCell ⟨g,2,none⟩ v2).setCell ⟨g,3,none⟩ v3).setCell ⟨g,4,none⟩ v4).setCell ⟨g,5,none⟩ v5).setCell ⟨g,6,none⟩ v6).heap[g]? = some (.cells #[v0,v1,v2,v3,v4,v5,v6,c7,c8,c9,eM,c11,c12] T (0,0)):=Ml _ g 6 #[v0,v1,v2,v3,v4,v5,c6,c7,c8,c9,eM,c11,c12] _ v6 h5
 have h7:((((((((W.setCell ⟨g,0,none⟩ v0).setCell ⟨g,1,none⟩ v1).setCell ⟨g,2,none⟩ v2).setCell ⟨g,3,none⟩ v3).setCell ⟨g,4,none⟩ v4).setCell ⟨g,5,none⟩ v5).setCell ⟨g,6,none⟩ v6).setCell ⟨g,7,none⟩ v7).heap[g]? = some (.cells #[v0,v1,v2,v3,v4,v5,v6,v7,c8,c9,eM,c11,c12] T (0,0)):=Ml _ g 7 #[v0,v1,v2,v3,v4,v5,v6,c7,c8,c9,eM,c11,c12] _ v7 h6
 have h8:(((((((((W.setCell ⟨g,0,none⟩ v0).setCell ⟨g,1,none⟩ v1).setCell ⟨g,2,none⟩ v2).setCell ⟨g,3,none⟩ v3).setCell ⟨g,4,none⟩ v4).setCell ⟨g,5,none⟩ v5).setCell ⟨g,6,none⟩ v6).setCell ⟨g,7,none⟩ v7).setCell ⟨g,8,none⟩ v8).heap[g]? = some (.cells #[v0,v1,v2,v3,v4,v5,v6,v7,v8,c9,eM,c11,c12] T (0,0)):=Ml _ g 8 #[v0,v1,v2,v3,v4,v5,v6,v7,c8,c9,eM,c11,c12] _ v8 h7
 have h9:((((((((((W.setCell ⟨g,0,none⟩ v0).setCell ⟨g,1,none⟩ v1).setCell ⟨g,2,none⟩ v2).setCell ⟨g,3,none⟩ v3).setCell ⟨g,4,none⟩ v4).setCell ⟨g,5,none⟩ v5).setCell ⟨g,6,none⟩ v6).setCell ⟨g,7,none⟩ v7).setCell ⟨g,8,none⟩ v8).setCell ⟨g,9,none⟩ v9).heap[g]? = some (.cells #[v0,v1,v2,v3,v4,v5,v6,v7,v8,v9,eM,c11,c12] T (0,0)):=Ml _ g 9 #[v0,v1,v2,v3,v4,v5,v6,v7,v8,c9,eM,c11,c12] _ v9 h8
 have h10:(((((((((((W.setCell ⟨g,0,none⟩ v0).setCell ⟨g,1,none⟩ v1).setCell ⟨g,2,none⟩ v2).setCell ⟨g,3,none⟩ v3).setCell ⟨g,4,none⟩ v4).setCell ⟨g,5,none⟩ v5).setCell ⟨g,6,none⟩ v6).setCell ⟨g,7,none⟩ v7).setCell ⟨g,8,none⟩ v8).setCell ⟨g,9,none⟩ v9).setCell ⟨g,10,none⟩ v10).heap[g]? = some (.cells #[v0,v1,v2,v3,v4,v5,v6,v7,v8,v9,v10,c11,c12] T (0,0)):=Ml _ g 10 #[v0,v1,v2,v3,v4,v5,v6,v7,v8,v9,eM,c11,c12] _ v10 h9
 have h11:((((((((((((W.setCell ⟨g,0,none⟩ v0).setCell ⟨g,1,none⟩ v1).setCell ⟨g,2,none⟩ v2).setCell ⟨g,3,none⟩ v3).setCell ⟨g,4,none⟩ v4).setCell ⟨g,5,none⟩ v5).setCell ⟨g,6,none⟩ v6).setCell ⟨g,7,none⟩ v7).setCell ⟨g,8,none⟩ v8).setCell ⟨g,9,none⟩ v9).setCell ⟨g,10,none⟩ v10).setCell ⟨g,11,none⟩ v11).heap[g]? = some (.cells #[v0,v1,v2,v3,v4,v5,v6,v7,v8,v9,v10,v11,c12] T (0,0)):=Ml _ g 11 #[v0,v1,v2,v3,v4,v5,v6,v7,v8,v9,v10,c11,c12] _ v11 h10
 have h12:(((((((((((((W.setCell ⟨g,0,none⟩ v0).setCell ⟨g,1,none⟩ v1).setCell ⟨g,2,none⟩ v2).setCell ⟨g,3,none⟩ v3).setCell ⟨g,4,none⟩ v4).setCell ⟨g,5,none⟩ v5).setCell ⟨g,6,none⟩ v6).setCell ⟨g,7,none⟩ v7).setCell ⟨g,8,none⟩ v8).setCell ⟨g,9,none⟩ v9).setCell ⟨g,10,none⟩ v10).setCell ⟨g,11,none⟩ v11).setCell ⟨g,12,none⟩ v12).heap[g]? = some (.cells #[v0,v1,v2,v3,v4,v5,v6,v7,v8,v9,v10,v11,v12] T (0,0)):=Ml _ g 12 #[v0,v1,v2,v3,v4,v5,v6,v7,v8,v9,v10,v11,c12] _ v12 h11;exact h12
theorem lO {B g:Nat} {W0 W:World} (h:Below B W0 W) (hg:B≤g) (v0 v1 v2 v3 v4 v5 v6 v7 v8 v9 v10:Value):Below B W0 (((((((((((W.setCell ⟨g,0,none⟩ v0).setCell ⟨g,1,none⟩ v1).setCell ⟨g,2,none⟩ v2).setCell ⟨g,3,none⟩ v3).setCell ⟨g,4,none⟩ v4).setCell ⟨g,5,none⟩ v5).setCell ⟨g,6,none⟩ v6).setCell ⟨g,7,none⟩ v7).setCell ⟨g,8,none⟩ v8).setCell ⟨g,9,none⟩ v9).setCell ⟨g,10,none⟩ v10) :=
 (((((((((((h.setCell (p:=⟨g,0,none⟩) hg v0).setCell (p:=⟨g,1,none⟩) hg v1).setCell (p:=⟨g,2,none⟩) hg v2).setCell (p:=⟨g,3,none⟩) hg v3).setCell (p:=⟨g,4,none⟩) hg v4).setCell (p:=⟨g,5,none⟩) hg v5).setCell (p:=⟨g,6,none⟩) hg v6).setCell (p:=⟨g,7,none⟩) hg v7).setCell (p:=⟨g,8,none⟩) hg v8).setCell (p:=⟨g,9,none⟩) hg v9).setCell (p:=⟨g,10,none⟩) hg v10)
theorem nF {S:Nat→Prop} {g:Nat} {W0 W:World} (h:ah S W0 W) (hg:¬ S g) (v0 v1 v2 v3 v4 v5 v6 v7 v8 v9 v10:Value):ah S W0 (((((((((((W.setCell ⟨g,0,none⟩ v0).setCell ⟨g,1,none⟩ v1).setCell ⟨g,2,none⟩ v2).setCell ⟨g,3,none⟩ v3).setCell ⟨g,4,none⟩ v4).setCell ⟨g,5,none⟩ v5).setCell ⟨g,6,none⟩ v6).setCell ⟨g,7,none⟩ v7).setCell ⟨g,8,none⟩ v8).setCell ⟨g,9,none⟩ v9).setCell ⟨g,10,none⟩ v10) :=
 (((((((((((h.set g (0) v0 hg).set g (1) v1 hg).set g (2) v2 hg).set g (3) v3 hg).set g (4) v4 hg).set g (5) v5 hg).set g (6) v6 hg).set g (7) v7 hg).set g (8) v8 hg).set g (9) v9 hg).set g (10) v10 hg)
theorem nr {g:Nat} {T:TypeId} {W:World} {c0 c1 c2 c3 c4 c5 c6 c7 c8 c9 eM:Value} (h:W.heap[g]? = some (.cells #[c0,c1,c2,c3,c4,c5,c6,c7,c8,c9,eM] T (0,0))) (v0 v1 v2 v3 v4 v5 v6 v7 v8 v9 v10:Value):(((((((((((W.setCell ⟨g,0,none⟩ v0).setCell ⟨g,1,none⟩ v1).setCell ⟨g,2,none⟩ v2).setCell ⟨g,3,none⟩ v3).setCell ⟨g,4,none⟩ v4).setCell ⟨g,5,none⟩ v5).setCell ⟨g,6,none⟩ v6).setCell ⟨g,7,none⟩ v7).setCell ⟨g,8,none⟩ v8).setCell ⟨g,9,none⟩ v9).setCell ⟨g,10,none⟩ v10).heap[g]? = some (.cells #[v0,v1,v2,v3,v4,v5,v6,v7,v8,v9,v10] T (0,0)):=by
 have h0:(W.setCell ⟨g,0,none⟩ v0).heap[g]? = some (.cells #[v0,c1,c2,c3,c4,c5,c6,c7,c8,c9,eM] T (0,0)):=Ml _ g 0 #[c0,c1,c2,c3,c4,c5,c6,c7,c8,c9,eM] _ v0 h;have h1:((W.setCell ⟨g,0,none⟩ v0).setCell ⟨g,1,none⟩ v1).heap[g]? = some (.cells #[v0,v1,c2,c3,c4,c5,c6,c7,c8,c9,eM] T (0,0)):=Ml _ g 1 #[v0,c1,c2,c3,c4,c5,c6,c7,c8,c9,eM] _ v1 h0;have h2:(((W.setCell ⟨g,0,none⟩ v0).setCell ⟨g,1,none⟩ v1).setCell ⟨g,2,none⟩ v2).heap[g]? = some (.cells #[v0,v1,v2,c3,c4,c5,c6,c7,c8,c9,eM] T (0,0)):=Ml _ g 2 #[v0,v1,c2,c3,c4,c5,c6,c7,c8,c9,eM] _ v2 h1
 have h3:((((W.setCell ⟨g,0,none⟩ v0).setCell ⟨g,1,none⟩ v1).setCell ⟨g,2,none⟩ v2).setCell ⟨g,3,none⟩ v3).heap[g]? = some (.cells #[v0,v1,v2,v3,c4,c5,c6,c7,c8,c9,eM] T (0,0)):=Ml _ g 3 #[v0,v1,v2,c3,c4,c5,c6,c7,c8,c9,eM] _ v3 h2;have h4:(((((W.setCell ⟨g,0,none⟩ v0).setCell ⟨g,1,none⟩ v1).setCell ⟨g,2,none⟩ v2).setCell ⟨g,3,none⟩ v3).setCell ⟨g,4,none⟩ v4).heap[g]? = some (.cells #[v0,v1,v2,v3,v4,c5,c6,c7,c8,c9,eM] T (0,0)):=Ml _ g 4 #[v0,v1,v2,v3,c4,c5,c6,c7,c8,c9,eM] _ v4 h3
 have h5:((((((W.setCell ⟨g,0,none⟩ v0).setCell ⟨g,1,none⟩ v1).setCell ⟨g,2,none⟩ v2).setCell ⟨g,3,none⟩ v3).setCell ⟨g,4,none⟩ v4).setCell ⟨g,5,none⟩ v5).heap[g]? = some (.cells #[v0,v1,v2,v3,v4,v5,c6,c7,c8,c9,eM] T (0,0)):=Ml _ g 5 #[v0,v1,v2,v3,v4,c5,c6,c7,c8,c9,eM] _ v5 h4
 have h6:(((((((W.setCell ⟨g,0,none⟩ v0).setCell ⟨g,1,none⟩ v1).setCell ⟨g,2,none⟩ v2).setCell ⟨g,3,none⟩ v3).setCell ⟨g,4,none⟩ v4).setCell ⟨g,5,none⟩ v5).setCell ⟨g,6,none⟩ v6).heap[g]? = some (.cells #[v0,v1,v2,v3,v4,v5,v6,c7,c8,c9,eM] T (0,0)):=Ml _ g 6 #[v0,v1,v2,v3,v4,v5,c6,c7,c8,c9,eM] _ v6 h5
 have h7:((((((((W.setCell ⟨g,0,none⟩ v0).setCell ⟨g,1,none⟩ v1).setCell ⟨g,2,none⟩ v2).setCell ⟨g,3,none⟩ v3).setCell ⟨g,4,none⟩ v4).setCell ⟨g,5,none⟩ v5).setCell ⟨g,6,none⟩ v6).setCell ⟨g,7,none⟩ v7).heap[g]? = some (.cells #[v0,v1,v2,v3,v4,v5,v6,v7,c8,c9,eM] T (0,0)):=Ml _ g 7 #[v0,v1,v2,v3,v4,v5,v6,c7,c8,c9,eM] _ v7 h6
 have h8:(((((((((W.setCell ⟨g,0,none⟩ v0).setCell ⟨g,1,none⟩ v1).setCell ⟨g,2,none⟩ v2).setCell ⟨g,3,none⟩ v3).setCell ⟨g,4,none⟩ v4).setCell ⟨g,5,none⟩ v5).setCell ⟨g,6,none⟩ v6).setCell ⟨g,7,none⟩ v7).setCell ⟨g,8,none⟩ v8).heap[g]? = some (.cells #[v0,v1,v2,v3,v4,v5,v6,v7,v8,c9,eM] T (0,0)):=Ml _ g 8 #[v0,v1,v2,v3,v4,v5,v6,v7,c8,c9,eM] _ v8 h7
 have h9:((((((((((W.setCell ⟨g,0,none⟩ v0).setCell ⟨g,1,none⟩ v1).setCell ⟨g,2,none⟩ v2).setCell ⟨g,3,none⟩ v3).setCell ⟨g,4,none⟩ v4).setCell ⟨g,5,none⟩ v5).setCell ⟨g,6,none⟩ v6).setCell ⟨g,7,none⟩ v7).setCell ⟨g,8,none⟩ v8).setCell ⟨g,9,none⟩ v9).heap[g]? = some (.cells #[v0,v1,v2,v3,v4,v5,v6,v7,v8,v9,eM] T (0,0)):=Ml _ g 9 #[v0,v1,v2,v3,v4,v5,v6,v7,v8,c9,eM] _ v9 h8
 have h10:(((((((((((W.setCell ⟨g,0,none⟩ v0).setCell ⟨g,1,none⟩ v1).setCell ⟨g,2,none⟩ v2).setCell ⟨g,3,none⟩ v3).setCell ⟨g,4,none⟩ v4).setCell ⟨g,5,none⟩ v5).setCell ⟨g,6,none⟩ v6).setCell ⟨g,7,none⟩ v7).setCell ⟨g,8,none⟩ v8).setCell ⟨g,9,none⟩ v9).setCell ⟨g,10,none⟩ v10).heap[g]? = some (.cells #[v0,v1,v2,v3,v4,v5,v6,v7,v8,v9,v10] T (0,0)):=Ml _ g 10 #[v0,v1,v2,v3,v4,v5,v6,v7,v8,v9,eM] _ v10 h9;exact h10
theorem sE {B g:Nat} {W0 W:World} (h:Below B W0 W) (hg:B≤g) (v0 v1 v2 v3 v4 v5:Value):Below B W0 ((((((W.setCell ⟨g,2,none⟩ v0).setCell ⟨g,3,none⟩ v1).setCell ⟨g,4,none⟩ v2).setCell ⟨g,5,none⟩ v3).setCell ⟨g,6,none⟩ v4).setCell ⟨g,7,none⟩ v5) :=
 ((((((h.setCell (p:=⟨g,2,none⟩) hg v0).setCell (p:=⟨g,3,none⟩) hg v1).setCell (p:=⟨g,4,none⟩) hg v2).setCell (p:=⟨g,5,none⟩) hg v3).setCell (p:=⟨g,6,none⟩) hg v4).setCell (p:=⟨g,7,none⟩) hg v5)
theorem tp {S:Nat→Prop} {g:Nat} {W0 W:World} (h:ah S W0 W) (hg:¬ S g) (v0 v1 v2 v3 v4 v5:Value):ah S W0 ((((((W.setCell ⟨g,2,none⟩ v0).setCell ⟨g,3,none⟩ v1).setCell ⟨g,4,none⟩ v2).setCell ⟨g,5,none⟩ v3).setCell ⟨g,6,none⟩ v4).setCell ⟨g,7,none⟩ v5) :=
 ((((((h.set g (2) v0 hg).set g (3) v1 hg).set g (4) v2 hg).set g (5) v3 hg).set g (6) v4 hg).set g (7) v5 hg)
theorem tN {g b:Nat} {W:World} {x:Option Obj} (h:W.heap[b]? = x) (hg:b≠g) (v0 v1 v2 v3 v4 v5:Value):((((((W.setCell ⟨g,2,none⟩ v0).setCell ⟨g,3,none⟩ v1).setCell ⟨g,4,none⟩ v2).setCell ⟨g,5,none⟩ v3).setCell ⟨g,6,none⟩ v4).setCell ⟨g,7,none⟩ v5).heap[b]? = x:=by
 rw [au _ _ hg,au _ _ hg,au _ _ hg,au _ _ hg,au _ _ hg,au _ _ hg];exact h
theorem Fv {g:Nat} {W:World} (v0 v1 v2 v3 v4 v5:Value):((((((W.setCell ⟨g,2,none⟩ v0).setCell ⟨g,3,none⟩ v1).setCell ⟨g,4,none⟩ v2).setCell ⟨g,5,none⟩ v3).setCell ⟨g,6,none⟩ v4).setCell ⟨g,7,none⟩ v5).heap.size=W.heap.size:=by simp only [MR]
theorem vW {B g j:Nat} {W0 W:World} (h:Below B W0 W) (hg:B≤g) (v0 v1 v2 v3 v4 v5 v6 v7 v8 v9 v10 v11 v12:Value):Below B W0 (((((((((((((W.setCell ⟨g,j*13,none⟩ v0).setCell ⟨g,j*13+1,none⟩ v1).setCell ⟨g,j*13+2,none⟩ v2).setCell ⟨g,j*13+3,none⟩ v3).setCell ⟨g,j*13+4,none⟩ v4).setCell ⟨g,j*13+5,none⟩ v5).setCell ⟨g,j*13+6,none⟩ v6).setCell ⟨g,j*13+7,none⟩ v7).setCell ⟨g,j*13+8,none⟩ v8).setCell ⟨g,j*13+9,none⟩ v9).setCell ⟨g,j*13+10,none⟩ v10).setCell ⟨g,j*13+11,none⟩ v11).setCell ⟨g,j*13+12,none⟩ v12) :=
 (((((((((((((h.setCell (p:=⟨g,j*13,none⟩) hg v0).setCell (p:=⟨g,j*13+1,none⟩) hg v1).setCell (p:=⟨g,j*13+2,none⟩) hg v2).setCell (p:=⟨g,j*13+3,none⟩) hg v3).setCell (p:=⟨g,j*13+4,none⟩) hg v4).setCell (p:=⟨g,j*13+5,none⟩) hg v5).setCell (p:=⟨g,j*13+6,none⟩) hg v6).setCell (p:=⟨g,j*13+7,none⟩) hg v7).setCell (p:=⟨g,j*13+8,none⟩) hg v8).setCell (p:=⟨g,j*13+9,none⟩) hg v9).setCell (p:=⟨g,j*13+10,none⟩) hg v10).setCell (p:=⟨g,j*13+11,none⟩) hg v11).setCell (p:=⟨g,j*13+12,none⟩) hg v12)
theorem uf {g b j:Nat} {W:World} {x:Option Obj} (h:W.heap[b]? = x) (hg:b≠g) (v0 v1 v2 v3 v4 v5 v6 v7 v8 v9 v10 v11 v12:Value):(((((((((((((W.setCell ⟨g,j*13,none⟩ v0).setCell ⟨g,j*13+1,none⟩ v1).setCell ⟨g,j*13+2,none⟩ v2).setCell ⟨g,j*13+3,none⟩ v3).setCell ⟨g,j*13+4,none⟩ v4).setCell ⟨g,j*13+5,none⟩ v5).setCell ⟨g,j*13+6,none⟩ v6).setCell ⟨g,j*13+7,none⟩ v7).setCell ⟨g,j*13+8,none⟩ v8).setCell ⟨g,j*13+9,none⟩ v9).setCell ⟨g,j*13+10,none⟩ v10).setCell ⟨g,j*13+11,none⟩ v11).setCell ⟨g,j*13+12,none⟩ v12).heap[b]? = x:=by
 rw [au _ _ hg,au _ _ hg,au _ _ hg,au _ _ hg,au _ _ hg,au _ _ hg,au _ _ hg,au _ _ hg,au _ _ hg,au _ _ hg,au _ _ hg,au _ _ hg,au _ _ hg];exact h
theorem aB (W:World) (xs:Array Value) (T:TypeId) {b:Nat} (h:W.heap.size=b):(W.alloc (.cells xs T)).heap[b]? = some (.cells xs T (0,0)):=h ▸ ak W xs T
theorem sG (ts:List (List Int)) (x:Ex) (p:Pl):ag ts (.mk 2 0 x [] [] [p])=ag ts p:=by rw [ag,aQ,aQ]; rfl
theorem oX (ts:List (List Int)) (S:Nat→Prop) (x:Ex) (xa:Option Addr) (xc:Nat) (p:Pl) (q:Pw) (o:Nat) (ca:Option Addr) (cc:Nat) (na:Option Addr) (nc:Nat) (w:World) (hx:gA S w xa x.ks) (hp:kU ts S w p q ca na) :
  Calls Tryz.prog 38 #[iU x.k x.v x.c xa x.ks.length xc,cU ts p q o ca cc na nc] w fun e w'=>∃ v,e = .returned v∧aY ts (fu S w) w' v (.mk 2 0 x [] [] [p])∧Below w.heap.size w w':=by
 obtain ⟨cl,hcl⟩:∃ cl,(ag ts p).length=cl:=⟨_,rfl⟩
 have HCL:=aw hcl;unfold cU bV;rw [hcl];clear hcl;have A:Below w.heap.size w (((w.alloc (.cells (bC x xa xc) 27)).alloc (.cells (aL p q o ca cl cc na p.ks.length nc) 50)).alloc (.cells aJ 50)):=((((Md w.heap.size w).alloc (Mc _) (.cells (bC x xa xc) 27)).alloc (by simp only [Mf]; omega) (.cells (aL p q o ca cl cc na p.ks.length nc) 50)).alloc (by simp only [Mf]; omega) (.cells aJ 50))
 have Z:w.heap.size+3≤(((w.alloc (.cells (bC x xa xc) 27)).alloc (.cells (aL p q o ca cl cc na p.ks.length nc) 50)).alloc (.cells aJ 50)).heap.size:=by simp only [Mf]; omega
 have Q0:(((w.alloc (.cells (bC x xa xc) 27)).alloc (.cells (aL p q o ca cl cc na p.ks.length nc) 50)).alloc (.cells aJ 50)).heap[w.heap.size]? = some (.cells (bC x xa xc) 27 (0,0)):=by
  rw [aG _ _ (by simp only [Mf]; omega),aG _ _ (by simp only [Mf]; omega)];exact aB w (bC x xa xc) 27 rfl
 have Q1:(((w.alloc (.cells (bC x xa xc) 27)).alloc (.cells (aL p q o ca cl cc na p.ks.length nc) 50)).alloc (.cells aJ 50)).heap[w.heap.size+1]? = some (.cells (aL p q o ca cl cc na p.ks.length nc) 50 (0,0)):=by
  rw [aG _ _ (by simp only [Mf]; omega)];exact aB (w.alloc (.cells (bC x xa xc) 27)) (aL p q o ca cl cc na p.ks.length nc) 50 (by simp only [Mf])
 have Q2:(((w.alloc (.cells (bC x xa xc) 27)).alloc (.cells (aL p q o ca cl cc na p.ks.length nc) 50)).alloc (.cells aJ 50)).heap[w.heap.size+2]? = some (.cells aJ 50 (0,0)):=by
  exact aB ((w.alloc (.cells (bC x xa xc) 27)).alloc (.cells (aL p q o ca cl cc na p.ks.length nc) 50)) aJ 50 (by simp only [Mf])
 have HX:=aw hx;have HP:=aw hp;clear hx hp;go_enter Tryz.func38,Tryz.ntmps38;go_upto_region 1 with fail
 generalize (((w.alloc (.cells (bC x xa xc) 27)).alloc (.cells (aL p q o ca cl cc na p.ks.length nc) 50)).alloc (.cells aJ 50))=w3 at *;obtain ⟨x0,x1,x2,x3,x4,x5⟩:=dV Q0;obtain ⟨n0,n1,n2,n3,n4,n5,n6,n7,n8,n9,n10,n11,n12⟩:=aD Q1;obtain ⟨z0,z1,z2,z3,z4,z5,z6,z7,z8,z9,z10,z11,z12⟩:=aD Q2;obtain ⟨zf0,zf1,zf2,zf3,zf4,zf5,zf6,zf7,zf8,zf9,zf10,zf11,zf12⟩:=cT Q2;have L2:w.heap.size+1+1<w3.heap.size:=by omega
 go_wp2_with fail
 have AP3:Below w.heap.size w (pv w3 (w.heap.size+2) (.int .i64 2) (.int .i64 0) (.int .i64 x.k) (.int .i64 x.v.1) (.int .i64 x.v.2.1) (.string x.v.2.2) (.int .i64 x.c) (.slice xa x.ks.length xc) (.slice none 0 0) (.slice none 0 0) (.slice none 0 0) (.slice ca cl cc) (.slice (some ⟨w3.heap.size,0,none⟩) 1 1)):=(bq (g:=w.heap.size+2) A (MT _ _) _ _ _ _ _ _ _ _ _ _ _ _ _)
 have ZS:(pv w3 (w.heap.size+2) (.int .i64 2) (.int .i64 0) (.int .i64 x.k) (.int .i64 x.v.1) (.int .i64 x.v.2.1) (.string x.v.2.2) (.int .i64 x.c) (.slice xa x.ks.length xc) (.slice none 0 0) (.slice none 0 0) (.slice none 0 0) (.slice ca cl cc) (.slice (some ⟨w3.heap.size,0,none⟩) 1 1)).heap.size=w3.heap.size:=by simp only [MR]
 have AP:Below w.heap.size w ((pv w3 (w.heap.size+2) (.int .i64 2) (.int .i64 0) (.int .i64 x.k) (.int .i64 x.v.1) (.int .i64 x.v.2.1) (.string x.v.2.2) (.int .i64 x.c) (.slice xa x.ks.length xc) (.slice none 0 0) (.slice none 0 0) (.slice none 0 0) (.slice ca cl cc) (.slice (some ⟨w3.heap.size,0,none⟩) 1 1)).alloc (.cells (aL p q o ca cl cc na p.ks.length nc) 50)):=AP3.alloc AP3.size _
 have KP:ah (fu S w) w ((pv w3 (w.heap.size+2) (.int .i64 2) (.int .i64 0) (.int .i64 x.k) (.int .i64 x.v.1) (.int .i64 x.v.2.1) (.string x.v.2.2) (.int .i64 x.c) (.slice xa x.ks.length xc) (.slice none 0 0) (.slice none 0 0) (.slice none 0 0) (.slice ca cl cc) (.slice (some ⟨w3.heap.size,0,none⟩) 1 1)).alloc (.cells (aL p q o ca cl cc na p.ks.length nc) 50)):=⟨AP.size,fun b _ hb=>AP.block b hb⟩
 have QG':((pv w3 (w.heap.size+2) (.int .i64 2) (.int .i64 0) (.int .i64 x.k) (.int .i64 x.v.1) (.int .i64 x.v.2.1) (.string x.v.2.2) (.int .i64 x.c) (.slice xa x.ks.length xc) (.slice none 0 0) (.slice none 0 0) (.slice none 0 0) (.slice ca cl cc) (.slice (some ⟨w3.heap.size,0,none⟩) 1 1)).alloc (.cells (aL p q o ca cl cc na p.ks.length nc) 50)).heap[w3.heap.size]? = some (.cells (aL p q o ca cl cc na p.ks.length nc) 50 (0,0)):=aB _ _ _ ZS
 have LT:w3.heap.size<((pv w3 (w.heap.size+2) (.int .i64 2) (.int .i64 0) (.int .i64 x.k) (.int .i64 x.v.1) (.int .i64 x.v.2.1) (.string x.v.2.2) (.int .i64 x.c) (.slice xa x.ks.length xc) (.slice none 0 0) (.slice none 0 0) (.slice none 0 0) (.slice ca cl cc) (.slice (some ⟨w3.heap.size,0,none⟩) 1 1)).alloc (.cells (aL p q o ca cl cc na p.ks.length nc) 50)).heap.size:=ae QG'
 have FIN:aY ts (fu S w) ((pv w3 (w.heap.size+2) (.int .i64 2) (.int .i64 0) (.int .i64 x.k) (.int .i64 x.v.1) (.int .i64 x.v.2.1) (.string x.v.2.2) (.int .i64 x.c) (.slice xa x.ks.length xc) (.slice none 0 0) (.slice none 0 0) (.slice none 0 0) (.slice ca cl cc) (.slice (some ⟨w3.heap.size,0,none⟩) 1 1)).alloc (.cells (aL p q o ca cl cc na p.ks.length nc) 50)) (.agg (Lg x.k x.v.1 x.v.2.1 x.v.2.2 x.c xa x.ks.length xc ca cl cc (some ⟨w3.heap.size,0,none⟩) 1 1)) (.mk 2 0 x [] [] [p]):=by
  clear z0 zf0 z1 zf1 z2 zf2 z3 zf3 z4 zf4 z5 zf5 z6 zf6 z7 zf7 z8 zf8 z9 zf9 z10 zf10 z11 zf11 z12 zf12 x0 x1 x2 x3 x4 x5 n0 n1 n2 n3 n4 n5 n6 n7 n8 n9 n10 n11 n12 AP;unfold pv at AP3 ZS KP QG' LT
  generalize ((((((((((((((w3.setCell ⟨w.heap.size+2,0,none⟩ (.int .i64 2)).setCell ⟨w.heap.size+2,1,none⟩ (.int .i64 0)).setCell ⟨w.heap.size+2,2,none⟩ (.int .i64 x.k)).setCell ⟨w.heap.size+2,3,none⟩ (.int .i64 x.v.1)).setCell ⟨w.heap.size+2,4,none⟩ (.int .i64 x.v.2.1)).setCell ⟨w.heap.size+2,5,none⟩ (.string x.v.2.2)).setCell ⟨w.heap.size+2,6,none⟩ (.int .i64 x.c)).setCell ⟨w.heap.size+2,7,none⟩ (.slice xa x.ks.length xc)).setCell ⟨w.heap.size+2,8,none⟩ (.slice none 0 0)).setCell ⟨w.heap.size+2,9,none⟩ (.slice none 0 0)).setCell ⟨w.heap.size+2,10,none⟩ (.slice none 0 0)).setCell ⟨w.heap.size+2,11,none⟩ (.slice ca cl cc)).setCell ⟨w.heap.size+2,12,none⟩ (.slice (some ⟨w3.heap.size,0,none⟩) 1 1)).alloc (.cells (aL p q o ca cl cc na p.ks.length nc) 50))=w5 at *
  have BX:=(HX.out.mono (S':=fu S w) fun b h _=>.inl h).next KP;have BP:=(HP.out.mono (S':=fu S w) fun b h _=>.inl h).next KP;refine ⟨⟨xa,xc,none,0,none,0,none,0⟩,0,ca,cc,some ⟨w3.heap.size,0,none⟩,1,?_,⟨BX,.nil _,.inl rfl,by rw [sG]; exact BP.af,?_⟩⟩
  ·unfold cU bV;rw [sG,HCL.out];rfl
  ·refine sN.of (by right; omega) LT fun i hi=>?_
   obtain rfl:i=0:=by simp [Pl.ks] at hi; omega
   refine ⟨q,o,ca,cc,na,nc,?_,BP⟩;have:=At.of (L:=bV ts p q o ca cc na nc) (by unfold bV; rw [HCL.out]; exact QG')
   simpa [Pl.ks] using this
 exact Me (v:=.agg (Lg x.k x.v.1 x.v.2.1 x.v.2.2 x.c xa x.ks.length xc ca cl cc (some ⟨w3.heap.size,0,none⟩) 1 1)) (by simp [results,Tryz.results38,go_sem,L2,z0,z1,z2,z3,z4,z5,z6,z7,z8,z9,z10,z11,z12]) rfl ⟨_,rfl,FIN,AP⟩
theorem oY (ts:List (List Int)) (p:Pl) (y:Ex):ag ts (.mk p.k p.n y p.xs p.gs p.ks)=ag ts p:=by
 obtain ⟨k,n,x,xs,gs,ks⟩:=p;rw [ag,ag];rfl
def mG (ts:List (List Int)) (x:Ex) (p:Pl):Pl:=if (an (ag ts p) (tV 4 p.x x)).2=0 then .mk p.k p.n (tV 4 p.x x) p.xs p.gs p.ks else .mk 2 0 x [] [] [p]
theorem oT (ts:List (List Int)) (S:Nat→Prop) (x:Ex) (xa:Option Addr) (xc:Nat) (p:Pl) (q:Pw) (o:Nat) (ca:Option Addr) (cc:Nat) (na:Option Addr) (nc:Nat) (w:World) (hx:gA S w xa x.ks) (hp:kU ts S w p q ca na) :
  Calls Tryz.prog 34 #[iU x.k x.v x.c xa x.ks.length xc,cU ts p q o ca cc na nc] w fun e w'=>∃ v,e = .returned v∧aY ts (fu S w) w' v (mG ts x p)∧Below w.heap.size w w':=by
 obtain ⟨cl,hcl⟩:∃ cl,(ag ts p).length=cl:=⟨_,rfl⟩
 have HCL:=aw hcl;unfold cU bV;rw [hcl];clear hcl;obtain ⟨rp,hrp⟩:∃ rp,mG ts x p=rp:=⟨_,rfl⟩
 have HRP:=aw hrp;rw [hrp];clear hrp;have A:Below w.heap.size w (((w.alloc (.cells (bC x xa xc) 27)).alloc (.cells (aL p q o ca cl cc na p.ks.length nc) 50)).alloc (.cells aJ 50)):=((((Md w.heap.size w).alloc (Mc _) (.cells (bC x xa xc) 27)).alloc (by simp only [Mf]; omega) (.cells (aL p q o ca cl cc na p.ks.length nc) 50)).alloc (by simp only [Mf]; omega) (.cells aJ 50))
 have Z:w.heap.size+3≤(((w.alloc (.cells (bC x xa xc) 27)).alloc (.cells (aL p q o ca cl cc na p.ks.length nc) 50)).alloc (.cells aJ 50)).heap.size:=by simp only [Mf]; omega
 have Q0:(((w.alloc (.cells (bC x xa xc) 27)).alloc (.cells (aL p q o ca cl cc na p.ks.length nc) 50)).alloc (.cells aJ 50)).heap[w.heap.size]? = some (.cells (bC x xa xc) 27 (0,0)):=by
  rw [aG _ _ (by simp only [Mf]; omega),aG _ _ (by simp only [Mf]; omega)];exact aB w (bC x xa xc) 27 rfl
 have Q1:(((w.alloc (.cells (bC x xa xc) 27)).alloc (.cells (aL p q o ca cl cc na p.ks.length nc) 50)).alloc (.cells aJ 50)).heap[w.heap.size+1]? = some (.cells (aL p q o ca cl cc na p.ks.length nc) 50 (0,0)):=by
  rw [aG _ _ (by simp only [Mf]; omega)];exact aB (w.alloc (.cells (bC x xa xc) 27)) (aL p q o ca cl cc na p.ks.length nc) 50 (by simp only [Mf])
 have Q2:(((w.alloc (.cells (bC x xa xc) 27)).alloc (.cells (aL p q o ca cl cc na p.ks.length nc) 50)).alloc (.cells aJ 50)).heap[w.heap.size+2]? = some (.cells aJ 50 (0,0)):=by
  exact aB ((w.alloc (.cells (bC x xa xc) 27)).alloc (.cells (aL p q o ca cl cc na p.ks.length nc) 50)) aJ 50 (by simp only [Mf])
 have HX:=aw hx;have HP:=aw hp;clear hx hp;obtain ⟨te,hte⟩:∃ te,(an (ag ts p) (tV 4 p.x x)).2=te:=⟨_,rfl⟩
 have HTE:=aw hte;clear hte;go_enter Tryz.func34,Tryz.ntmps34;go_upto_region 1 with fail
 generalize (((w.alloc (.cells (bC x xa xc) 27)).alloc (.cells (aL p q o ca cl cc na p.ks.length nc) 50)).alloc (.cells aJ 50))=w3 at *;obtain ⟨x0,x1,x2,x3,x4,x5⟩:=dV Q0;obtain ⟨n0,n1,n2,n3,n4,n5,n6,n7,n8,n9,n10,n11,n12⟩:=aD Q1
 have bA:Below w3.heap.size w3 ((w3.alloc (.cells (GU p.x.k p.x.v.1 p.x.v.2.1 p.x.v.2.2 p.x.c q.xa p.x.ks.length q.xc x.k x.v.1 x.v.2.1 x.v.2.2 x.c xa x.ks.length xc) 27)).alloc (.cells (uG (some ⟨w3.heap.size,0,none⟩) 2 2) 27)):=(((Md w3.heap.size w3).alloc (Mc _) (.cells (GU p.x.k p.x.v.1 p.x.v.2.1 p.x.v.2.2 p.x.c q.xa p.x.ks.length q.xc x.k x.v.1 x.v.2.1 x.v.2.2 x.c xa x.ks.length xc) 27)).alloc (by simp only [Mf]; omega) (.cells (uG (some ⟨w3.heap.size,0,none⟩) 2 2) 27))
 have bZ:w3.heap.size+2≤((w3.alloc (.cells (GU p.x.k p.x.v.1 p.x.v.2.1 p.x.v.2.2 p.x.c q.xa p.x.ks.length q.xc x.k x.v.1 x.v.2.1 x.v.2.2 x.c xa x.ks.length xc) 27)).alloc (.cells (uG (some ⟨w3.heap.size,0,none⟩) 2 2) 27)).heap.size:=by simp only [Mf]; omega
 have bQ0:((w3.alloc (.cells (GU p.x.k p.x.v.1 p.x.v.2.1 p.x.v.2.2 p.x.c q.xa p.x.ks.length q.xc x.k x.v.1 x.v.2.1 x.v.2.2 x.c xa x.ks.length xc) 27)).alloc (.cells (uG (some ⟨w3.heap.size,0,none⟩) 2 2) 27)).heap[w3.heap.size]? = some (.cells (GU p.x.k p.x.v.1 p.x.v.2.1 p.x.v.2.2 p.x.c q.xa p.x.ks.length q.xc x.k x.v.1 x.v.2.1 x.v.2.2 x.c xa x.ks.length xc) 27 (0,0)):=by
  rw [aG _ _ (by simp only [Mf]; omega)];exact aB w3 (GU p.x.k p.x.v.1 p.x.v.2.1 p.x.v.2.2 p.x.c q.xa p.x.ks.length q.xc x.k x.v.1 x.v.2.1 x.v.2.2 x.c xa x.ks.length xc) 27 rfl
 have bQ1:((w3.alloc (.cells (GU p.x.k p.x.v.1 p.x.v.2.1 p.x.v.2.2 p.x.c q.xa p.x.ks.length q.xc x.k x.v.1 x.v.2.1 x.v.2.2 x.c xa x.ks.length xc) 27)).alloc (.cells (uG (some ⟨w3.heap.size,0,none⟩) 2 2) 27)).heap[w3.heap.size+1]? = some (.cells (uG (some ⟨w3.heap.size,0,none⟩) 2 2) 27 (0,0)):=by
  exact aB (w3.alloc (.cells (GU p.x.k p.x.v.1 p.x.v.2.1 p.x.v.2.2 p.x.c q.xa p.x.ks.length q.xc x.k x.v.1 x.v.2.1 x.v.2.2 x.c xa x.ks.length xc) 27)) (uG (some ⟨w3.heap.size,0,none⟩) 2 2) 27 (by simp only [Mf])
 go_upto_region 2 with fail
 clear x0 x1 x2 x3 x4 x5 n0 n1 n2 n3 n4 n5 n6 n7 n8 n9 n10 n11 n12;generalize ((w3.alloc (.cells (GU p.x.k p.x.v.1 p.x.v.2.1 p.x.v.2.2 p.x.c q.xa p.x.ks.length q.xc x.k x.v.1 x.v.2.1 x.v.2.2 x.c xa x.ks.length xc) 27)).alloc (.cells (uG (some ⟨w3.heap.size,0,none⟩) 2 2) 27))=w5 at *;have A5:=chain A bA;have Q05:=(bA.block _ (by omega)).trans Q0;have Q15:=(bA.block _ (by omega)).trans Q1
 have Q25:=(bA.block _ (by omega)).trans Q2;have Z5:w.heap.size+3≤w5.heap.size:=by omega
 have KB:gA (fun b=>Old S w b∨w.heap.size+3≤b) w5 (some ⟨w3.heap.size,0,none⟩) [p.x,x]:=by
  refine .some w3.heap.size 0 [p.x,x] (fun i=>if i=0 then q.xa else xa) (fun i=>if i=0 then q.xc else xc) (.inr Z) (ae bQ0) (fun i hi=>?_) (fun i hi=>?_)
  ·match i,hi with
   | 0,_=>exact ⟨cell_of (i:=0) bQ0 rfl,cell_of (i:=1) bQ0 rfl,cell_of (i:=2) bQ0 rfl,cell_of (i:=3) bQ0 rfl,cell_of (i:=4) bQ0 rfl,cell_of (i:=5) bQ0 rfl⟩
   | 1,_=>exact ⟨cell_of (i:=6) bQ0 rfl,cell_of (i:=7) bQ0 rfl,cell_of (i:=8) bQ0 rfl,cell_of (i:=9) bQ0 rfl,cell_of (i:=10) bQ0 rfl,cell_of (i:=11) bQ0 rfl⟩
  ·match i,hi with
   | 0,_=>exact (HP.out.x.mono (S':=fun b=>Old S w b∨w.heap.size+3≤b) fun b h l=>.inl ⟨h,l⟩).next (ah.of A5)
   | 1,_=>exact (HX.out.mono (S':=fun b=>Old S w b∨w.heap.size+3≤b) fun b h l=>.inl ⟨h,l⟩).next (ah.of A5)
 have con:=mF (ag ts p) (tV 4 p.x x) ca cc (some ⟨w3.heap.size,0,none⟩) 2 w5 KB.ks (HP.out.af.next (ah.of A5)).at;rw [HCL.out,HTE.out] at con;generalize (an (ag ts p) (tV 4 p.x x)).1=ty at con;obtain ⟨b0,b1,b2,b3,b4,b5⟩:=dV bQ1;have n11:w5.cell? ⟨w.heap.size+1,11,none⟩=some (.slice ca cl cc):=cell_of (i:=11) Q15 rfl;go_wp2_with fail
 refine con.mono ?_;rintro e w6 ⟨rfl,hb6⟩;clear con b0 b1 b2 b3 b4 b5 n11;have A6:=chain A5 hb6;have Q06:=(hb6.block _ (by omega)).trans Q05;have Q16:=(hb6.block _ (by omega)).trans Q15;have Q26:=(hb6.block _ (by omega)).trans Q25;have QB6:=(hb6.block _ (ae bQ1)).trans bQ1;have Z6:w.heap.size+3≤w6.heap.size:=by have:=hb6.size; omega
 have lb:=ae bQ1;have lb6:=hb6.size;clear Q05 Q15 Q25 Q0 Q1 Q2 bQ0 bQ1;dsimp only;by_cases he:te=0
 ·have hb0:(te != 0)=false:=by simpa using he
  have hrp:rp = .mk p.k p.n (tV 4 p.x x) p.xs p.gs p.ks:=by rw [← HRP.out,mG,HTE.out,if_pos he]
  subst hrp;clear HRP;obtain ⟨b0,b1,b2,b3,b4,b5⟩:=dV QB6;obtain ⟨n0,n1,n2,n3,n4,n5,n6,n7,n8,n9,n10,n11,n12⟩:=aD Q16;obtain ⟨nf0,nf1,nf2,nf3,nf4,nf5,nf6,nf7,nf8,nf9,nf10,nf11,nf12⟩:=cT Q16;obtain ⟨z0,z1,z2,z3,z4,z5,z6,z7,z8,z9,z10,z11,z12⟩:=aD Q26;obtain ⟨zf0,zf1,zf2,zf3,zf4,zf5,zf6,zf7,zf8,zf9,zf10,zf11,zf12⟩:=cT Q26;go_wp2_with fail
  have AP:Below w.heap.size w (((((((((((((((((((w6.setCell ⟨w.heap.size+1,2,none⟩ (.int .i64 4)).setCell ⟨w.heap.size+1,3,none⟩ (.int .i64 0)).setCell ⟨w.heap.size+1,4,none⟩ (.int .i64 0)).setCell ⟨w.heap.size+1,5,none⟩ (.string ⟨#[]⟩)).setCell ⟨w.heap.size+1,6,none⟩ (.int .i64 0)).setCell ⟨w.heap.size+1,7,none⟩ (.slice (some ⟨w3.heap.size,0,none⟩) 2 2)).setCell ⟨w.heap.size+2,0,none⟩ (.int .i64 p.k)).setCell ⟨w.heap.size+2,1,none⟩ (.int .i64 p.n)).setCell ⟨w.heap.size+2,2,none⟩ (.int .i64 4)).setCell ⟨w.heap.size+2,3,none⟩ (.int .i64 0)).setCell ⟨w.heap.size+2,4,none⟩ (.int .i64 0)).setCell ⟨w.heap.size+2,5,none⟩ (.string ⟨#[]⟩)).setCell ⟨w.heap.size+2,6,none⟩ (.int .i64 0)).setCell ⟨w.heap.size+2,7,none⟩ (.slice (some ⟨w3.heap.size,0,none⟩) 2 2)).setCell ⟨w.heap.size+2,8,none⟩ (.slice q.sa p.xs.length q.sc)).setCell ⟨w.heap.size+2,9,none⟩ (.slice q.ga p.gs.length q.gc)).setCell ⟨w.heap.size+2,10,none⟩ (.slice q.ka o q.kc)).setCell ⟨w.heap.size+2,11,none⟩ (.slice ca cl cc)).setCell ⟨w.heap.size+2,12,none⟩ (.slice na p.ks.length nc)):=(bq (g:=w.heap.size+2) (sE (g:=w.heap.size+1) A6 (MT _ _) (.int .i64 4) (.int .i64 0) (.int .i64 0) (.string ⟨#[]⟩) (.int .i64 0) (.slice (some ⟨w3.heap.size,0,none⟩) 2 2)) (MT _ _) (.int .i64 p.k) (.int .i64 p.n) (.int .i64 4) (.int .i64 0) (.int .i64 0) (.string ⟨#[]⟩) (.int .i64 0) (.slice (some ⟨w3.heap.size,0,none⟩) 2 2) (.slice q.sa p.xs.length q.sc) (.slice q.ga p.gs.length q.gc) (.slice q.ka o q.kc) (.slice ca cl cc) (.slice na p.ks.length nc))
  have KP5:ah (fun b=>Old S w b∨w.heap.size+3≤b) w5 (((((((((((((((((((w6.setCell ⟨w.heap.size+1,2,none⟩ (.int .i64 4)).setCell ⟨w.heap.size+1,3,none⟩ (.int .i64 0)).setCell ⟨w.heap.size+1,4,none⟩ (.int .i64 0)).setCell ⟨w.heap.size+1,5,none⟩ (.string ⟨#[]⟩)).setCell ⟨w.heap.size+1,6,none⟩ (.int .i64 0)).setCell ⟨w.heap.size+1,7,none⟩ (.slice (some ⟨w3.heap.size,0,none⟩) 2 2)).setCell ⟨w.heap.size+2,0,none⟩ (.int .i64 p.k)).setCell ⟨w.heap.size+2,1,none⟩ (.int .i64 p.n)).setCell ⟨w.heap.size+2,2,none⟩ (.int .i64 4)).setCell ⟨w.heap.size+2,3,none⟩ (.int .i64 0)).setCell ⟨w.heap.size+2,4,none⟩ (.int .i64 0)).setCell ⟨w.heap.size+2,5,none⟩ (.string ⟨#[]⟩)).setCell ⟨w.heap.size+2,6,none⟩ (.int .i64 0)).setCell ⟨w.heap.size+2,7,none⟩ (.slice (some ⟨w3.heap.size,0,none⟩) 2 2)).setCell ⟨w.heap.size+2,8,none⟩ (.slice q.sa p.xs.length q.sc)).setCell ⟨w.heap.size+2,9,none⟩ (.slice q.ga p.gs.length q.gc)).setCell ⟨w.heap.size+2,10,none⟩ (.slice q.ka o q.kc)).setCell ⟨w.heap.size+2,11,none⟩ (.slice ca cl cc)).setCell ⟨w.heap.size+2,12,none⟩ (.slice na p.ks.length nc)):=(bL (g:=w.heap.size+2) (tp (g:=w.heap.size+1) (ah.of hb6) (cR (by omega) (by omega)) (.int .i64 4) (.int .i64 0) (.int .i64 0) (.string ⟨#[]⟩) (.int .i64 0) (.slice (some ⟨w3.heap.size,0,none⟩) 2 2)) (cR (by omega) (by omega)) (.int .i64 p.k) (.int .i64 p.n) (.int .i64 4) (.int .i64 0) (.int .i64 0) (.string ⟨#[]⟩) (.int .i64 0) (.slice (some ⟨w3.heap.size,0,none⟩) 2 2) (.slice q.sa p.xs.length q.sc) (.slice q.ga p.gs.length q.gc) (.slice q.ka o q.kc) (.slice ca cl cc) (.slice na p.ks.length nc))
  have QE:(((((((((((((((((((w6.setCell ⟨w.heap.size+1,2,none⟩ (.int .i64 4)).setCell ⟨w.heap.size+1,3,none⟩ (.int .i64 0)).setCell ⟨w.heap.size+1,4,none⟩ (.int .i64 0)).setCell ⟨w.heap.size+1,5,none⟩ (.string ⟨#[]⟩)).setCell ⟨w.heap.size+1,6,none⟩ (.int .i64 0)).setCell ⟨w.heap.size+1,7,none⟩ (.slice (some ⟨w3.heap.size,0,none⟩) 2 2)).setCell ⟨w.heap.size+2,0,none⟩ (.int .i64 p.k)).setCell ⟨w.heap.size+2,1,none⟩ (.int .i64 p.n)).setCell ⟨w.heap.size+2,2,none⟩ (.int .i64 4)).setCell ⟨w.heap.size+2,3,none⟩ (.int .i64 0)).setCell ⟨w.heap.size+2,4,none⟩ (.int .i64 0)).setCell ⟨w.heap.size+2,5,none⟩ (.string ⟨#[]⟩)).setCell ⟨w.heap.size+2,6,none⟩ (.int .i64 0)).setCell ⟨w.heap.size+2,7,none⟩ (.slice (some ⟨w3.heap.size,0,none⟩) 2 2)).setCell ⟨w.heap.size+2,8,none⟩ (.slice q.sa p.xs.length q.sc)).setCell ⟨w.heap.size+2,9,none⟩ (.slice q.ga p.gs.length q.gc)).setCell ⟨w.heap.size+2,10,none⟩ (.slice q.ka o q.kc)).setCell ⟨w.heap.size+2,11,none⟩ (.slice ca cl cc)).setCell ⟨w.heap.size+2,12,none⟩ (.slice na p.ks.length nc)).heap[w.heap.size+2]? = some (.cells (Kf p.k p.n (some ⟨w3.heap.size,0,none⟩) 2 2 q.sa p.xs.length q.sc q.ga p.gs.length q.gc q.ka o q.kc ca cl cc na p.ks.length nc) 50 (0,0)):=(bI (g:=w.heap.size+2) (tN (g:=w.heap.size+1) Q26 (by omega) (.int .i64 4) (.int .i64 0) (.int .i64 0) (.string ⟨#[]⟩) (.int .i64 0) (.slice (some ⟨w3.heap.size,0,none⟩) 2 2)) (.int .i64 p.k) (.int .i64 p.n) (.int .i64 4) (.int .i64 0) (.int .i64 0) (.string ⟨#[]⟩) (.int .i64 0) (.slice (some ⟨w3.heap.size,0,none⟩) 2 2) (.slice q.sa p.xs.length q.sc) (.slice q.ga p.gs.length q.gc) (.slice q.ka o q.kc) (.slice ca cl cc) (.slice na p.ks.length nc))
  clear z0 zf0 z1 zf1 z2 zf2 z3 zf3 z4 zf4 z5 zf5 z6 zf6 z7 zf7 z8 zf8 z9 zf9 z10 zf10 z11 zf11 z12 zf12 b0 b1 b2 b3 b4 b5 n0 nf0 n1 nf1 n2 nf2 n3 nf3 n4 nf4 n5 nf5 n6 nf6 n7 nf7 n8 nf8 n9 nf9 n10 nf10 n11 nf11 n12 nf12
  generalize (((((((((((((((((((w6.setCell ⟨w.heap.size+1,2,none⟩ (.int .i64 4)).setCell ⟨w.heap.size+1,3,none⟩ (.int .i64 0)).setCell ⟨w.heap.size+1,4,none⟩ (.int .i64 0)).setCell ⟨w.heap.size+1,5,none⟩ (.string ⟨#[]⟩)).setCell ⟨w.heap.size+1,6,none⟩ (.int .i64 0)).setCell ⟨w.heap.size+1,7,none⟩ (.slice (some ⟨w3.heap.size,0,none⟩) 2 2)).setCell ⟨w.heap.size+2,0,none⟩ (.int .i64 p.k)).setCell ⟨w.heap.size+2,1,none⟩ (.int .i64 p.n)).setCell ⟨w.heap.size+2,2,none⟩ (.int .i64 4)).setCell ⟨w.heap.size+2,3,none⟩ (.int .i64 0)).setCell ⟨w.heap.size+2,4,none⟩ (.int .i64 0)).setCell ⟨w.heap.size+2,5,none⟩ (.string ⟨#[]⟩)).setCell ⟨w.heap.size+2,6,none⟩ (.int .i64 0)).setCell ⟨w.heap.size+2,7,none⟩ (.slice (some ⟨w3.heap.size,0,none⟩) 2 2)).setCell ⟨w.heap.size+2,8,none⟩ (.slice q.sa p.xs.length q.sc)).setCell ⟨w.heap.size+2,9,none⟩ (.slice q.ga p.gs.length q.gc)).setCell ⟨w.heap.size+2,10,none⟩ (.slice q.ka o q.kc)).setCell ⟨w.heap.size+2,11,none⟩ (.slice ca cl cc)).setCell ⟨w.heap.size+2,12,none⟩ (.slice na p.ks.length nc))=w8 at *
  have FIN:aY ts (fu S w) w8 (.agg (Kf p.k p.n (some ⟨w3.heap.size,0,none⟩) 2 2 q.sa p.xs.length q.sc q.ga p.gs.length q.gc q.ka o q.kc ca cl cc na p.ks.length nc)) (.mk p.k p.n (tV 4 p.x x) p.xs p.gs p.ks):=by
   have BP:=(HP.out.mono (S':=fu S w) fun b h _=>.inl h).next (ah.of AP);have KB8:gA (fu S w) w8 (some ⟨w3.heap.size,0,none⟩) [p.x,x]:=(KB.next KP5).mono fun b h _=>by
    rcases h with h | h
    ·exact .inl h.1
    ·exact .inr (by omega)
   refine ⟨⟨some ⟨w3.heap.size,0,none⟩,2,q.sa,q.sc,q.ga,q.gc,q.ka,q.kc⟩,o,ca,cc,na,nc,?_,⟨KB8,BP.xs,BP.gs,by rw [oY]; exact BP.af,BP.kids⟩⟩;unfold cU bV;rw [oY,HCL.out];rfl
  obtain ⟨r0,r1,r2,r3,r4,r5,r6,r7,r8,r9,r10,r11,r12⟩:=aD QE;exact Me (v:=.agg (Kf p.k p.n (some ⟨w3.heap.size,0,none⟩) 2 2 q.sa p.xs.length q.sc q.ga p.gs.length q.gc q.ka o q.kc ca cl cc na p.ks.length nc)) (by simp [results,Tryz.results34,go_sem,r0,r1,r2,r3,r4,r5,r6,r7,r8,r9,r10,r11,r12]) rfl ⟨_,rfl,FIN,AP⟩
 ·have hb0:(te != 0)=true:=by simpa using he
  have hrp:rp = .mk 2 0 x [] [] [p]:=by rw [← HRP.out,mG,HTE.out,if_neg he]
  clear HRP;have HRP:Hid (.mk 2 0 x [] [] [p]=rp):=hrp.symm;clear hrp;have con:=oX ts (Old S w) x xa xc p q o ca cc na nc w6 ((HX.out.mono fun b h l=>⟨h,l⟩).next (ah.of A6)) ((HP.out.mono fun b h l=>⟨h,l⟩).next (ah.of A6));unfold cU bV at con;rw [HCL.out] at con;obtain ⟨x0,x1,x2,x3,x4,x5⟩:=dV Q06;obtain ⟨n0,n1,n2,n3,n4,n5,n6,n7,n8,n9,n10,n11,n12⟩:=aD Q16;go_wp2_with fail
  refine con.mono ?_;clear x0 x1 x2 x3 x4 x5 n0 n1 n2 n3 n4 n5 n6 n7 n8 n9 n10 n11 n12;rintro e w7 ⟨v7,rfl,N7,hb7⟩;clear con;have A7:=chain A6 hb7;have QR7:=(hb7.block _ (ae Q26)).trans Q26;have lr6:=ae Q26;obtain ⟨q2,o2,ca2,cc2,na2,nc2,rfl,B7⟩:=N7;generalize hF:Pl.mk 2 0 x [] [] [p]=F at *;obtain ⟨cl2,hcl2⟩:∃ cl2,(ag ts F).length=cl2:=⟨_,rfl⟩
  have HCL2:=aw hcl2;unfold cU bV;rw [hcl2];clear hcl2 hF;obtain ⟨y0,y1,y2,y3,y4,y5,y6,y7,y8,y9,y10,y11,y12⟩:=aD QR7;obtain ⟨yf0,yf1,yf2,yf3,yf4,yf5,yf6,yf7,yf8,yf9,yf10,yf11,yf12⟩:=cT QR7;go_wp2_with fail
  have AP:Below w.heap.size w (dF w7 (w.heap.size+2) F q2 o2 ca2 cl2 cc2 na2 F.ks.length nc2):=(bq (g:=w.heap.size+2) A7 (by omega) _ _ _ _ _ _ _ _ _ _ _ _ _)
  have KP:ah (fu (Old S w) w6) w7 (dF w7 (w.heap.size+2) F q2 o2 ca2 cl2 cc2 na2 F.ks.length nc2):=(bL (g:=w.heap.size+2) (ah.refl _ w7) (cR (by omega) (by omega)) _ _ _ _ _ _ _ _ _ _ _ _ _)
  have QE:(dF w7 (w.heap.size+2) F q2 o2 ca2 cl2 cc2 na2 F.ks.length nc2).heap[w.heap.size+2]? = some (.cells (aL F q2 o2 ca2 cl2 cc2 na2 F.ks.length nc2) 50 (0,0)):=(bI (g:=w.heap.size+2) QR7 _ _ _ _ _ _ _ _ _ _ _ _ _)
  clear y0 yf0 y1 yf1 y2 yf2 y3 yf3 y4 yf4 y5 yf5 y6 yf6 y7 yf7 y8 yf8 y9 yf9 y10 yf10 y11 yf11 y12 yf12;unfold dF at AP KP QE
  generalize (((((((((((((w7.setCell ⟨w.heap.size+2,0,none⟩ (.int .i64 F.k)).setCell ⟨w.heap.size+2,1,none⟩ (.int .i64 F.n)).setCell ⟨w.heap.size+2,2,none⟩ (.int .i64 F.x.k)).setCell ⟨w.heap.size+2,3,none⟩ (.int .i64 F.x.v.1)).setCell ⟨w.heap.size+2,4,none⟩ (.int .i64 F.x.v.2.1)).setCell ⟨w.heap.size+2,5,none⟩ (.string F.x.v.2.2)).setCell ⟨w.heap.size+2,6,none⟩ (.int .i64 F.x.c)).setCell ⟨w.heap.size+2,7,none⟩ (.slice q2.xa F.x.ks.length q2.xc)).setCell ⟨w.heap.size+2,8,none⟩ (.slice q2.sa F.xs.length q2.sc)).setCell ⟨w.heap.size+2,9,none⟩ (.slice q2.ga F.gs.length q2.gc)).setCell ⟨w.heap.size+2,10,none⟩ (.slice q2.ka o2 q2.kc)).setCell ⟨w.heap.size+2,11,none⟩ (.slice ca2 cl2 cc2)).setCell ⟨w.heap.size+2,12,none⟩ (.slice na2 F.ks.length nc2))=w8 at *
  have FIN:aY ts (fu S w) w8 (.agg (aL F q2 o2 ca2 cl2 cc2 na2 F.ks.length nc2)) F:=by
   refine ⟨q2,o2,ca2,cc2,na2,nc2,by unfold cU bV; rw [HCL2.out],(B7.next KP).mono fun b h _=>?_⟩;rcases h with h | h
   ·exact .inl h.1
   ·exact .inr (by have:=A6.size; omega)
  obtain ⟨r0,r1,r2,r3,r4,r5,r6,r7,r8,r9,r10,r11,r12⟩:=aD QE;exact Me (v:=.agg (aL F q2 o2 ca2 cl2 cc2 na2 F.ks.length nc2)) (by simp [results,Tryz.results34,go_sem,r0,r1,r2,r3,r4,r5,r6,r7,r8,r9,r10,r11,r12]) rfl ⟨_,rfl,by rw [← HRP.out]; exact FIN,AP⟩
def Lh (ts:List (List Int)) (u:Value) (F:Pl→Pl) (l:List Pl) (S:Nat→Prop) (w:World):Prop :=
 ∃ g cb,u = .func (.func g) #[] cb∧(∀ args w,(callFunc g args).run Tryz.prog w = .ok (.enter g args) w) ∧
  ∀ r ∈ l,∀ (q:Pw) (o:Nat) (ca:Option Addr) (cc:Nat) (na:Option Addr) (nc:Nat) (W:World),Below w.heap.size w W→kU ts S W r q ca na →
   Calls Tryz.prog g (#[cU ts r q o ca cc na nc] ++ cb) W fun e w'=>∃ v,e = .returned v∧aY ts (fu S W) w' v (F r)∧Below W.heap.size W w'
theorem IW {n:Nat} (h:n≤2) (w:World):(Instr.makeSlice 48 (.int .i64 n) (.int .i64 n)).run Tryz.prog w = .ok (.slice (some ⟨w.heap.size,0,none⟩) n n) (w.alloc (.cells (ia n) 50)):=by
 obtain rfl | rfl | rfl:n=0∨n=1∨n=2:=by omega
 all_goals kernel_rfl
structure jx (ts:List (List Int)) (S:Nat→Prop) (g:Nat) (W:World) (l:List Pl) (j:Nat):Prop where
 lt:g<W.heap.size
 no:¬ S g
 room:∀ o,o<l.length*13→∃ u,W.cell? ⟨g,o,none⟩=some u
 fz:∀ o,W.frozen? ⟨g,o,none⟩=false
 laid:∀ (i:Nat) (h:i<l.length),i<j→∃ q o ca cc na nc,At W g (i*13) (bV ts l[i] q o ca cc na nc)∧kU ts S W l[i] q ca na
theorem jx.new (ts:List (List Int)) {S:Nat→Prop} (w:World) (l:List Pl) {n:Nat} (hn:l.length=n) (hS:¬ S w.heap.size) (T:TypeId):jx ts S w.heap.size (w.alloc (.cells (ia n) T)) l 0:=by
 subst hn;have q:=ak w (ia l.length) T;refine ⟨ae q,hS,fun o ho=>?_,fun o=>Mg _ w.heap.size o _ _ q,fun i _ h=>absurd h (MP _)⟩;have hs:o<(ia l.length).size:=by rw [qP]; exact ho
 exact ⟨(ia l.length)[o],cell_of (i:=o) q (by rw [MX hs])⟩
theorem jx.next {ts:List (List Int)} {S:Nat→Prop} {g:Nat} {W w1:World} {l:List Pl} {j:Nat} (h:jx ts S g W l j) (hb:Below W.heap.size W w1):jx ts S g w1 l j :=
 ⟨Mh h.lt hb.size,h.no,fun o ho=>(h.room o ho).imp fun _ hu=>(hb.cell (p:=⟨g,o,none⟩) h.lt).trans hu,fun o=>(hb.frozen (p:=⟨g,o,none⟩) h.lt).trans (h.fz o),fun i hi hj=>by
  obtain ⟨q,o,ca,cc,na,nc,h1,h2⟩:=h.laid i hi hj
  exact ⟨q,o,ca,cc,na,nc,fun k u hk=>(hb.cell (p:=⟨g,_,none⟩) h.lt).trans (h1 k u hk),h2.next (ah.of hb)⟩⟩
theorem jx.store {ts:List (List Int)} {S:Nat→Prop} {g:Nat} {W:World} {l:List Pl} {j:Nat} (h:jx ts S g W l j) (hj:j<l.length) {q:Pw} {o:Nat} {ca:Option Addr} {cc:Nat} {na:Option Addr} {nc:Nat} (hn:kU ts S W l[j] q ca na) :
  jx ts S g (bQ W g (j*13) (bV ts l[j] q o ca cc na nc)) l (j+1):=by
 have hK:=ke g h.no (bV ts l[j] q o ca cc na nc) W (j*13) (ah.refl S W);have hr:∀ k,k<(bV ts l[j] q o ca cc na nc).length→∃ u,W.cell? ⟨g,j*13+k,none⟩=some u:=fun k hk=>h.room _ (by
  have:k<13:=hk;have:(j+1)*13≤l.length*13:=M1 13 hj;omega)
 have hs:∀ (i:Nat) (hi:i<13),(bQ W g (j*13) (bV ts l[j] q o ca cc na nc)).cell? ⟨g,j*13+i,none⟩=some ((bV ts l[j] q o ca cc na nc)[i]'hi):=fun i hi=>jf g (bV ts l[j] q o ca cc na nc) W (j*13) i hi hr
 have ho:∀ x,(x<j*13∨j*13+13≤x)→(bQ W g (j*13) (bV ts l[j] q o ca cc na nc)).cell? ⟨g,x,none⟩=W.cell? ⟨g,x,none⟩:=fun x h=>dv g _ W _ _ _ (.inr h)
 refine ⟨by rw [gP]; exact h.lt,h.no,fun x hl=>?_,fun x=>by rw [jv]; exact h.fz x,fun i hi hij=>?_⟩
 ·by_cases c:x<j*13∨j*13+13≤x
  ·rw [ho x c]; exact h.room x hl
  ·have:=hs (x - j*13) (by omega);rw [show j*13+(x - j*13)=x by omega] at this;exact ⟨_,this⟩
 ·by_cases e:i=j
  ·subst e;refine ⟨q,o,ca,cc,na,nc,fun k u hk=>?_,hn.next hK⟩;have hk':k<13:=by
    rcases ME k 13 with h | h
    ·exact h
    ·rw [MK (by simpa [bV] using h)] at hk; cases hk
   rw [hs k hk',← hk];exact (Ms _).symm
  ·obtain ⟨q',o',ca',cc',na',nc',e0,e1⟩:=h.laid i hi (by omega);have hlt:i*13+13≤j*13:=by
    have:(i+1)*13≤j*13:=M1 13 (by omega);omega
   refine ⟨q',o',ca',cc',na',nc',fun k u hk=>?_,e1.next hK⟩;have hk':k<13:=by
    rcases ME k 13 with h | h
    ·exact h
    ·rw [MK (by simpa [bV] using h)] at hk; cases hk
   exact (ho _ (by omega)).trans (e0 k u hk)
theorem jx.Lk {ts:List (List Int)} {S S':Nat→Prop} {g:Nat} {W:World} {l:List Pl} (h:jx ts S g W l l.length) (hS:∀ b,S b→S' b) (hg:S' g):sN ts S' W (some ⟨g,0,none⟩) l :=
 sN.of hg h.lt fun i hi=>by
  obtain ⟨q,o,ca,cc,na,nc,h1,h2⟩:=h.laid i hi hi
  exact ⟨q,o,ca,cc,na,nc,by rw [Mq]; exact h1,h2.mono fun b h _=>hS b h⟩
theorem rT (ts:List (List Int)) (S:Nat→Prop) (F:Pl→Pl) (u:Value) (p:Pl) (q:Pw) (o:Nat) (ca:Option Addr) (cc:Nat) (na:Option Addr) (nc:Nat) (w:World) (hu:Lh ts u F p.ks (Old S w) w) (hp:kU ts S w p q ca na) (h2:p.ks.length≤2) (hc:ag ts (.mk p.k p.n p.x p.xs p.gs (p.ks.map F))=ag ts p) :
  Calls Tryz.prog 20 #[cU ts p q o ca cc na nc,u] w fun e w'=>∃ v,e = .returned v∧aY ts (fu S w) w' v (.mk p.k p.n p.x p.xs p.gs (p.ks.map F))∧Below w.heap.size w w':=by
 obtain ⟨cl,hcl⟩:∃ cl,(ag ts p).length=cl:=⟨_,rfl⟩
 obtain ⟨kl,hkl⟩:∃ kl,p.ks.length=kl:=⟨_,rfl⟩
 have HCL:=aw hcl;have HKL:=aw hkl;have HC:=aw hc;unfold cU bV;rw [hcl,hkl];rw [hkl] at h2;clear hcl hkl hc;have A:Below w.heap.size w ((w.alloc (.cells (aL p q o ca cl cc na kl nc) 50)).alloc (.cells aJ 50)):=(((Md w.heap.size w).alloc (Mc _) (.cells (aL p q o ca cl cc na kl nc) 50)).alloc (by simp only [Mf]; omega) (.cells aJ 50))
 have Z:w.heap.size+2≤((w.alloc (.cells (aL p q o ca cl cc na kl nc) 50)).alloc (.cells aJ 50)).heap.size:=by simp only [Mf]; omega
 have Q0:((w.alloc (.cells (aL p q o ca cl cc na kl nc) 50)).alloc (.cells aJ 50)).heap[w.heap.size]? = some (.cells (aL p q o ca cl cc na kl nc) 50 (0,0)):=by
  rw [aG _ _ (by simp only [Mf]; omega)];exact aB w (aL p q o ca cl cc na kl nc) 50 rfl
 have Q1:((w.alloc (.cells (aL p q o ca cl cc na kl nc) 50)).alloc (.cells aJ 50)).heap[w.heap.size+1]? = some (.cells aJ 50 (0,0)):=by
  exact aB (w.alloc (.cells (aL p q o ca cl cc na kl nc) 50)) aJ 50 (by simp only [Mf])
 have HP:=aw hp;obtain ⟨g',cb,rfl,eg,hd⟩:=hu;have HD:=aw hd
 clear hp hd;go_enter Tryz.func20,Tryz.ntmps20;go_upto_region 1 with fail
 generalize ((w.alloc (.cells (aL p q o ca cl cc na kl nc) 50)).alloc (.cells aJ 50))=w2 at *;have hmk:=IW h2 w2;have RT:=jx.new ts (S:=fun b=>Old S w b∨w2.heap.size<b) w2 (p.ks.map F) (n:=kl) (by rw [MA]; exact HKL.out) (cR (by omega) (by omega)) 50;have al:=aa w2 (.cells (ia kl) 50);have n12:w2.cell? ⟨w.heap.size,12,none⟩=some (.slice na kl nc):=cell_of (i:=12) Q0 rfl;go_upto_region 2 with fail
 clear n12 hmk;generalize w2.alloc (.cells (ia kl) 50)=w3 at *;have A3:=chain A al;have Q03:=(al.block _ (by omega)).trans Q0;have Q13:=(al.block _ (by omega)).trans Q1;have g3:=RT.lt;have gw:w.heap.size+2≤w2.heap.size:=Z;clear Q0 Q1 Z A al;generalize w2.heap.size=g at *;have n12:w3.cell? ⟨w.heap.size,12,none⟩=some (.slice na kl nc):=cell_of (i:=12) Q03 rfl;go_wp2_with fail
 clear n12;go_loopw [15] (fun i wr=>∃ j:Nat,j≤kl∧i = .int .i64 j∧jx ts (fun b=>Old S w b∨g<b) g wr (p.ks.map F) j∧wr.heap[w.heap.size]? = some (.cells (aL p q o ca cl cc na kl nc) 50 (0,0))∧wr.heap[w.heap.size+1]? = some (.cells aJ 50 (0,0))∧Below w.heap.size w wr) (fun i _=>kl - (intOf i).toNat)
 case atStart=>exact ⟨0,Mj _,rfl,RT,Q03,Q13,A3⟩
 case round =>
  clear RT Q03 Q13 A3 g3;obtain ⟨j,hj,rfl,RT,Q0,Q1,hb⟩:=hrel;have gl:=RT.lt;by_cases hlt:j<kl
  ·have hlt':j<p.ks.length:=by rw [HKL.out]; exact hlt
   obtain ⟨b,off,q1,o1,ca1,cc1,na1,nc1,rfl,hSb,hbl,hAt,hB⟩:=((HP.out.kids.mono (S':=Old S w) fun b h l=>⟨h,l⟩).next (ah.of hb)).elem hlt';obtain ⟨cl1,hcl1⟩:∃ cl1,(ag ts p.ks[j]).length=cl1:=⟨_,rfl⟩
   have HCL1:=aw hcl1;unfold bV at hAt;rw [hcl1] at hAt;clear hcl1;have e0:wr.cell? ⟨b,off+j*13,none⟩=some (.int .i64 p.ks[j].k):=hAt 0 _ rfl;have e1:wr.cell? ⟨b,off+j*13+1,none⟩=some (.int .i64 p.ks[j].n):=hAt 1 _ rfl;have e2:wr.cell? ⟨b,off+j*13+2,none⟩=some (.int .i64 p.ks[j].x.k):=hAt 2 _ rfl;have e3:wr.cell? ⟨b,off+j*13+3,none⟩=some (.int .i64 p.ks[j].x.v.1):=hAt 3 _ rfl;have e4:wr.cell? ⟨b,off+j*13+4,none⟩=some (.int .i64 p.ks[j].x.v.2.1):=hAt 4 _ rfl;have e5:wr.cell? ⟨b,off+j*13+5,none⟩=some (.string p.ks[j].x.v.2.2):=hAt 5 _ rfl
   have e6:wr.cell? ⟨b,off+j*13+6,none⟩=some (.int .i64 p.ks[j].x.c):=hAt 6 _ rfl;have e7:wr.cell? ⟨b,off+j*13+7,none⟩=some (.slice q1.xa p.ks[j].x.ks.length q1.xc):=hAt 7 _ rfl;have e8:wr.cell? ⟨b,off+j*13+8,none⟩=some (.slice q1.sa p.ks[j].xs.length q1.sc):=hAt 8 _ rfl;have e9:wr.cell? ⟨b,off+j*13+9,none⟩=some (.slice q1.ga p.ks[j].gs.length q1.gc):=hAt 9 _ rfl;have e10:wr.cell? ⟨b,off+j*13+10,none⟩=some (.slice q1.ka o1 q1.kc):=hAt 10 _ rfl;have e11:wr.cell? ⟨b,off+j*13+11,none⟩=some (.slice ca1 cl1 cc1):=hAt 11 _ rfl
   have e12:wr.cell? ⟨b,off+j*13+12,none⟩=some (.slice na1 p.ks[j].ks.length nc1):=hAt 12 _ rfl;have hjz:(j:Int)<(kl:Int):=by omega
   have hal:=aa wr (.cells (xw p.ks[j] q1 q1.ka o1 q1.kc ca1 cl1 cc1 na1 p.ks[j].ks.length nc1) 50)
   have qk:=ak wr (xw p.ks[j] q1 q1.ka o1 q1.kc ca1 cl1 cc1 na1 p.ks[j].ks.length nc1) 50;have HB:=aw hB;have hm:=Mk hlt';have HM:=aw hm;clear hAt hB hm;go_upto_region 5 with fail
   clear e0 e1 e2 e3 e4 e5 e6 e7 e8 e9 e10 e11 e12;have Q0a:=(hal.block _ (ae Q0)).trans Q0;have Q1a:=(hal.block _ (ae Q1)).trans Q1;have RTa:=RT.next hal;have hba:=chain hb hal;have con:=HD.out p.ks[j] HM.out q1 o1 ca1 cc1 na1 nc1 _ hba (HB.out.next (ah.of hal));unfold cU bV at con;rw [HCL1.out] at con;have za:=hal.size
   generalize wr.alloc (.cells (xw p.ks[j] q1 q1.ka o1 q1.kc ca1 cl1 cc1 na1 p.ks[j].ks.length nc1) 50)=wa at *;obtain ⟨k0,k1,k2,k3,k4,k5,k6,k7,k8,k9,k10,k11,k12⟩:=aD qk;go_wp2_with fail
   first | (refine con.mono ?_) | (go_at_fn g'; refine con.mono ?_)
   rintro e w6 ⟨v6,rfl,N6,hb6⟩;clear con k0 k1 k2 k3 k4 k5 k6 k7 k8 k9 k10 k11 k12;have Q06:=(hb6.block _ (ae Q0a)).trans Q0a;have Q16:=(hb6.block _ (ae Q1a)).trans Q1a;have RT6:=RTa.next hb6;have hb6':=chain hba hb6;obtain ⟨q2,o2,ca2,cc2,na2,nc2,rfl,B6⟩:=N6;have hlm:j<(p.ks.map F).length:=by rw [MA]; exact hlt'
   have hfk:(p.ks.map F)[j]=F p.ks[j]:=by rw [MY]
   have B6':=B6.mono (S':=fun b=>Old S w b∨g<b) fun b h _=>by
    rcases h with h | h
    ·exact .inl h
    ·exact .inr (by omega)
   have ST:=RT6.store hlm (q:=q2) (o:=o2) (ca:=ca2) (cc:=cc2) (na:=na2) (nc:=nc2) (by rw [hfk]; exact B6');rw [hfk] at ST;obtain ⟨fk,hfk2⟩:∃ fk,F p.ks[j]=fk:=⟨_,rfl⟩
   rw [hfk2] at ST ⊢;obtain ⟨cl2,hcl2⟩:∃ cl2,(ag ts fk).length=cl2:=⟨_,rfl⟩
   unfold cU bV;unfold bV at ST;rw [hcl2] at ST ⊢;clear hcl2 hfk hfk2 B6 B6' RTa Q0a Q1a;have hr:∀ k,k<13→∃ u,w6.cell? ⟨g,j*13+k,none⟩=some u:=fun k hk=>RT6.room _ (by
    have:(j+1)*13≤(p.ks.map F).length*13:=M1 13 hlm;omega)
   obtain ⟨u100,d0⟩:=hr 0 (by decide);have df0:=RT6.fz (j*13);obtain ⟨u101,d1⟩:=hr 1 (by decide);have df1:=RT6.fz (j*13+1);obtain ⟨u102,d2⟩:=hr 2 (by decide);have df2:=RT6.fz (j*13+2);obtain ⟨u103,d3⟩:=hr 3 (by decide);have df3:=RT6.fz (j*13+3);obtain ⟨u104,d4⟩:=hr 4 (by decide);have df4:=RT6.fz (j*13+4);obtain ⟨u105,d5⟩:=hr 5 (by decide);have df5:=RT6.fz (j*13+5);obtain ⟨u106,d6⟩:=hr 6 (by decide);have df6:=RT6.fz (j*13+6);obtain ⟨u107,d7⟩:=hr 7 (by decide);have df7:=RT6.fz (j*13+7);obtain ⟨u108,d8⟩:=hr 8 (by decide);have df8:=RT6.fz (j*13+8);obtain ⟨u109,d9⟩:=hr 9 (by decide)
   have df9:=RT6.fz (j*13+9);obtain ⟨u110,d10⟩:=hr 10 (by decide);have df10:=RT6.fz (j*13+10);obtain ⟨u111,d11⟩:=hr 11 (by decide);have df11:=RT6.fz (j*13+11);obtain ⟨u112,d12⟩:=hr 12 (by decide);have df12:=RT6.fz (j*13+12);simp only [Ng] at d0
   have AP:Below w.heap.size w (((((((((((((w6.setCell ⟨g,j*13,none⟩ (.int .i64 fk.k)).setCell ⟨g,j*13+1,none⟩ (.int .i64 fk.n)).setCell ⟨g,j*13+2,none⟩ (.int .i64 fk.x.k)).setCell ⟨g,j*13+3,none⟩ (.int .i64 fk.x.v.1)).setCell ⟨g,j*13+4,none⟩ (.int .i64 fk.x.v.2.1)).setCell ⟨g,j*13+5,none⟩ (.string fk.x.v.2.2)).setCell ⟨g,j*13+6,none⟩ (.int .i64 fk.x.c)).setCell ⟨g,j*13+7,none⟩ (.slice q2.xa fk.x.ks.length q2.xc)).setCell ⟨g,j*13+8,none⟩ (.slice q2.sa fk.xs.length q2.sc)).setCell ⟨g,j*13+9,none⟩ (.slice q2.ga fk.gs.length q2.gc)).setCell ⟨g,j*13+10,none⟩ (.slice q2.ka o2 q2.kc)).setCell ⟨g,j*13+11,none⟩ (.slice ca2 cl2 cc2)).setCell ⟨g,j*13+12,none⟩ (.slice na2 fk.ks.length nc2)):=vW (g:=g) (j:=j) hb6' (by omega) (.int .i64 fk.k) (.int .i64 fk.n) (.int .i64 fk.x.k) (.int .i64 fk.x.v.1) (.int .i64 fk.x.v.2.1) (.string fk.x.v.2.2) (.int .i64 fk.x.c) (.slice q2.xa fk.x.ks.length q2.xc) (.slice q2.sa fk.xs.length q2.sc) (.slice q2.ga fk.gs.length q2.gc) (.slice q2.ka o2 q2.kc) (.slice ca2 cl2 cc2) (.slice na2 fk.ks.length nc2)
   have QP0:(((((((((((((w6.setCell ⟨g,j*13,none⟩ (.int .i64 fk.k)).setCell ⟨g,j*13+1,none⟩ (.int .i64 fk.n)).setCell ⟨g,j*13+2,none⟩ (.int .i64 fk.x.k)).setCell ⟨g,j*13+3,none⟩ (.int .i64 fk.x.v.1)).setCell ⟨g,j*13+4,none⟩ (.int .i64 fk.x.v.2.1)).setCell ⟨g,j*13+5,none⟩ (.string fk.x.v.2.2)).setCell ⟨g,j*13+6,none⟩ (.int .i64 fk.x.c)).setCell ⟨g,j*13+7,none⟩ (.slice q2.xa fk.x.ks.length q2.xc)).setCell ⟨g,j*13+8,none⟩ (.slice q2.sa fk.xs.length q2.sc)).setCell ⟨g,j*13+9,none⟩ (.slice q2.ga fk.gs.length q2.gc)).setCell ⟨g,j*13+10,none⟩ (.slice q2.ka o2 q2.kc)).setCell ⟨g,j*13+11,none⟩ (.slice ca2 cl2 cc2)).setCell ⟨g,j*13+12,none⟩ (.slice na2 fk.ks.length nc2)).heap[w.heap.size]? = some (.cells (aL p q o ca cl cc (some ⟨b,off,none⟩) kl nc) 50 (0,0)):=uf (g:=g) (j:=j) Q06 (by omega) (.int .i64 fk.k) (.int .i64 fk.n) (.int .i64 fk.x.k) (.int .i64 fk.x.v.1) (.int .i64 fk.x.v.2.1) (.string fk.x.v.2.2) (.int .i64 fk.x.c) (.slice q2.xa fk.x.ks.length q2.xc) (.slice q2.sa fk.xs.length q2.sc) (.slice q2.ga fk.gs.length q2.gc) (.slice q2.ka o2 q2.kc) (.slice ca2 cl2 cc2) (.slice na2 fk.ks.length nc2)
   have QP1:(((((((((((((w6.setCell ⟨g,j*13,none⟩ (.int .i64 fk.k)).setCell ⟨g,j*13+1,none⟩ (.int .i64 fk.n)).setCell ⟨g,j*13+2,none⟩ (.int .i64 fk.x.k)).setCell ⟨g,j*13+3,none⟩ (.int .i64 fk.x.v.1)).setCell ⟨g,j*13+4,none⟩ (.int .i64 fk.x.v.2.1)).setCell ⟨g,j*13+5,none⟩ (.string fk.x.v.2.2)).setCell ⟨g,j*13+6,none⟩ (.int .i64 fk.x.c)).setCell ⟨g,j*13+7,none⟩ (.slice q2.xa fk.x.ks.length q2.xc)).setCell ⟨g,j*13+8,none⟩ (.slice q2.sa fk.xs.length q2.sc)).setCell ⟨g,j*13+9,none⟩ (.slice q2.ga fk.gs.length q2.gc)).setCell ⟨g,j*13+10,none⟩ (.slice q2.ka o2 q2.kc)).setCell ⟨g,j*13+11,none⟩ (.slice ca2 cl2 cc2)).setCell ⟨g,j*13+12,none⟩ (.slice na2 fk.ks.length nc2)).heap[w.heap.size+1]? = some (.cells aJ 50 (0,0)):=uf (g:=g) (j:=j) Q16 (by omega) (.int .i64 fk.k) (.int .i64 fk.n) (.int .i64 fk.x.k) (.int .i64 fk.x.v.1) (.int .i64 fk.x.v.2.1) (.string fk.x.v.2.2) (.int .i64 fk.x.c) (.slice q2.xa fk.x.ks.length q2.xc) (.slice q2.sa fk.xs.length q2.sc) (.slice q2.ga fk.gs.length q2.gc) (.slice q2.ka o2 q2.kc) (.slice ca2 cl2 cc2) (.slice na2 fk.ks.length nc2)
   have SP:jx ts (fun b=>Old S w b∨g<b) g (((((((((((((w6.setCell ⟨g,j*13,none⟩ (.int .i64 fk.k)).setCell ⟨g,j*13+1,none⟩ (.int .i64 fk.n)).setCell ⟨g,j*13+2,none⟩ (.int .i64 fk.x.k)).setCell ⟨g,j*13+3,none⟩ (.int .i64 fk.x.v.1)).setCell ⟨g,j*13+4,none⟩ (.int .i64 fk.x.v.2.1)).setCell ⟨g,j*13+5,none⟩ (.string fk.x.v.2.2)).setCell ⟨g,j*13+6,none⟩ (.int .i64 fk.x.c)).setCell ⟨g,j*13+7,none⟩ (.slice q2.xa fk.x.ks.length q2.xc)).setCell ⟨g,j*13+8,none⟩ (.slice q2.sa fk.xs.length q2.sc)).setCell ⟨g,j*13+9,none⟩ (.slice q2.ga fk.gs.length q2.gc)).setCell ⟨g,j*13+10,none⟩ (.slice q2.ka o2 q2.kc)).setCell ⟨g,j*13+11,none⟩ (.slice ca2 cl2 cc2)).setCell ⟨g,j*13+12,none⟩ (.slice na2 fk.ks.length nc2)) (p.ks.map F) (j+1):=ST
   clear hr ST RT6 RT Q0 Q1 Q06 Q16 hb6' hb6 hba hb hal;go_wp2_with fail
   clear d0 df0 d1 df1 d2 df2 d3 df3 d4 df4 d5 df5 d6 df6 d7 df7 d8 df8 d9 df9 d10 df10 d11 df11 d12 df12
   generalize (((((((((((((w6.setCell ⟨g,j*13,none⟩ (.int .i64 fk.k)).setCell ⟨g,j*13+1,none⟩ (.int .i64 fk.n)).setCell ⟨g,j*13+2,none⟩ (.int .i64 fk.x.k)).setCell ⟨g,j*13+3,none⟩ (.int .i64 fk.x.v.1)).setCell ⟨g,j*13+4,none⟩ (.int .i64 fk.x.v.2.1)).setCell ⟨g,j*13+5,none⟩ (.string fk.x.v.2.2)).setCell ⟨g,j*13+6,none⟩ (.int .i64 fk.x.c)).setCell ⟨g,j*13+7,none⟩ (.slice q2.xa fk.x.ks.length q2.xc)).setCell ⟨g,j*13+8,none⟩ (.slice q2.sa fk.xs.length q2.sc)).setCell ⟨g,j*13+9,none⟩ (.slice q2.ga fk.gs.length q2.gc)).setCell ⟨g,j*13+10,none⟩ (.slice q2.ka o2 q2.kc)).setCell ⟨g,j*13+11,none⟩ (.slice ca2 cl2 cc2)).setCell ⟨g,j*13+12,none⟩ (.slice na2 fk.ks.length nc2))=w8 at *
   go_roundw
   case rel=>exact ⟨j+1,by omega,by go_num,SP,QP0,QP1,AP⟩
   case measure=>simp [intOf]; omega
  ·have e:j=kl:=by omega
   subst e;have hjl:(p.ks.map F).length=j:=by rw [MA]; exact HKL.out
   rw [← hjl] at RT;have RN:=RT.Lk (S':=fun b=>fu S w b∧b≠w.heap.size+1) (fun b h=>by
    rcases h with h | h
    ·exact ⟨.inl h.1,by have:=h.2; omega⟩
    ·exact ⟨.inr (by omega),by omega⟩) ⟨.inr (by omega),by omega⟩
   clear RT;obtain ⟨n0,n1,n2,n3,n4,n5,n6,n7,n8,n9,n10,n11,n12⟩:=aD Q0;obtain ⟨z0,z1,z2,z3,z4,z5,z6,z7,z8,z9,z10,z11,z12⟩:=aD Q1;obtain ⟨zf0,zf1,zf2,zf3,zf4,zf5,zf6,zf7,zf8,zf9,zf10,zf11,zf12⟩:=cT Q1;go_wp2_with fail
   have AP:Below w.heap.size w (dF wr (w.heap.size+1) p q o ca cl cc (some ⟨g,0,none⟩) j j):=(bq (g:=w.heap.size+1) hb (by omega) _ _ _ _ _ _ _ _ _ _ _ _ _)
   have KP:ah (fun b=>b≠w.heap.size+1) wr (dF wr (w.heap.size+1) p q o ca cl cc (some ⟨g,0,none⟩) j j):=(bL (g:=w.heap.size+1) (ah.refl _ wr) (fun h=>h rfl) _ _ _ _ _ _ _ _ _ _ _ _ _)
   have QE:(dF wr (w.heap.size+1) p q o ca cl cc (some ⟨g,0,none⟩) j j).heap[w.heap.size+1]? = some (.cells (aL p q o ca cl cc (some ⟨g,0,none⟩) j j) 50 (0,0)):=(bI (g:=w.heap.size+1) Q1 _ _ _ _ _ _ _ _ _ _ _ _ _)
   clear z0 zf0 z1 zf1 z2 zf2 z3 zf3 z4 zf4 z5 zf5 z6 zf6 z7 zf7 z8 zf8 z9 zf9 z10 zf10 z11 zf11 z12 zf12 n0 n1 n2 n3 n4 n5 n6 n7 n8 n9 n10 n11 n12;unfold dF at AP KP QE
   generalize (((((((((((((wr.setCell ⟨w.heap.size+1,0,none⟩ (.int .i64 p.k)).setCell ⟨w.heap.size+1,1,none⟩ (.int .i64 p.n)).setCell ⟨w.heap.size+1,2,none⟩ (.int .i64 p.x.k)).setCell ⟨w.heap.size+1,3,none⟩ (.int .i64 p.x.v.1)).setCell ⟨w.heap.size+1,4,none⟩ (.int .i64 p.x.v.2.1)).setCell ⟨w.heap.size+1,5,none⟩ (.string p.x.v.2.2)).setCell ⟨w.heap.size+1,6,none⟩ (.int .i64 p.x.c)).setCell ⟨w.heap.size+1,7,none⟩ (.slice q.xa p.x.ks.length q.xc)).setCell ⟨w.heap.size+1,8,none⟩ (.slice q.sa p.xs.length q.sc)).setCell ⟨w.heap.size+1,9,none⟩ (.slice q.ga p.gs.length q.gc)).setCell ⟨w.heap.size+1,10,none⟩ (.slice q.ka o q.kc)).setCell ⟨w.heap.size+1,11,none⟩ (.slice ca cl cc)).setCell ⟨w.heap.size+1,12,none⟩ (.slice (some ⟨g,0,none⟩) j j))=w8 at *
   have FIN:aY ts (fu S w) w8 (.agg (aL p q o ca cl cc (some ⟨g,0,none⟩) j j)) (.mk p.k p.n p.x p.xs p.gs (p.ks.map F)):=by
    have B8:=(HP.out.mono (S':=fu S w) fun b h _=>.inl h).next (ah.of AP);refine ⟨q,o,ca,cc,some ⟨g,0,none⟩,j,?_,⟨B8.x,B8.xs,B8.gs,by rw [HC.out]; exact B8.af,?_⟩⟩
    ·unfold cU bV;rw [HC.out,HCL.out];have e:(Pl.mk p.k p.n p.x p.xs p.gs (p.ks.map F)).ks.length=j:=hjl;rw [e];rfl
    ·exact (RN.next (KP.mono fun _ h=>h.2)).mono fun b h _=>h.1
   obtain ⟨r0,r1,r2,r3,r4,r5,r6,r7,r8,r9,r10,r11,r12⟩:=aD QE;exact Me (v:=.agg (aL p q o ca cl cc (some ⟨g,0,none⟩) j j)) (by simp [results,Tryz.results20,go_sem,r0,r1,r2,r3,r4,r5,r6,r7,r8,r9,r10,r11,r12]) rfl ⟨_,rfl,FIN,AP⟩
theorem GI:(Tryz.prog.info? 50).map (fun i=>(i.zero,i.size,i.bytes))=some (some (.agg aJ),13,208):=by kernel_rfl
theorem tK {ts:List (List Int)} {p:Pl} {q:Pw} {o:Nat} {ca:Option Addr} {cc:Nat} {na:Option Addr} {nc:Nat}:∀ u ∈ bV ts p q o ca cc na nc,u.oneCell'=true:=by
 intro u hu;simp only [bV,Mu,Np,or_false] at hu;rcases hu with rfl | rfl | rfl | rfl | rfl | rfl | rfl | rfl | rfl | rfl | rfl | rfl | rfl <;> rfl
theorem Ce (ts:List (List Int)) (S:Nat→Prop) (a:Option Addr) (cap:Nat) (l:List Pl) (w:World) (h:sN ts S w a l) (hl:l.length=2) :
  Calls Tryz.prog 62 #[.slice a 2 cap] w fun e w'=>∃ g c,e = .returned (.slice (some ⟨g,0,none⟩) 2 c)∧w.heap.size≤g∧jx ts (Old S w) g w' l 2∧Below w.heap.size w w':=by
 obtain ⟨i0,hi,hj0,hj1,hj2⟩:=info_parts GI;obtain ⟨r0,r1,rfl⟩:∃ r0 r1,l = [r0,r1]:=by
  match l,hl with
  | [a,b],_=>exact ⟨a,b,rfl⟩
 clear hl;obtain ⟨b,off,q0,o0,ca0,cc0,na0,nc0,rfl,_,hlt,at0,B0⟩:=h.elem (i:=0) (by simp);obtain ⟨b',off',q1,o1,ca1,cc1,na1,nc1,e',_,_,at1,B1⟩:=h.elem (i:=1) (by simp);have e1:=MO e';injection e1 with e1 e2
 subst e1 e2;simp only [Nc,Nw] at at0 at1 B0 B1;rw [Nv,Ng] at at0;rw [Nat.one_mul] at at1;have R:Raw w (some ⟨b,off,none⟩) 2 13 (bV ts r0 q0 o0 ca0 cc0 na0 nc0 ++ bV ts r1 q1 o1 ca1 cc1 na1 nc1):=by
  refine ⟨rfl,fun u hu=>?_,fun e=>(by cases e),fun ad e j u hj=>?_⟩
  ·rcases List.mem_append.1 hu with h | h
   ·exact tK u h
   ·exact tK u h
  ·obtain rfl:=MO e;rw [cW];by_cases hj':j<13
   ·rw [Mx (by exact hj')] at hj;exact at0 j u hj
   ·rw [My (by exact Nat.not_lt.1 hj')] at hj;have:=at1 (j - 13) u hj
    rwa [show off+13+(j - 13)=off+j by omega] at this
 have BB:Hid (kU ts S w r0 q0 ca0 na0∧kU ts S w r1 q1 ca1 na1):=⟨B0,B1⟩
 generalize hxs:bV ts r0 q0 o0 ca0 cc0 na0 nc0 ++ bV ts r1 q1 o1 ca1 cc1 na1 nc1=xs at R;have HX:=aw hxs;clear at0 at1 B0 B1 h hxs;have hal:=aa w (.cells #[] 50);have R1:=R.next hal;have ho:(w.alloc (.cells #[] 50)).ownsRow w.heap.size 50 13 (.slice (some ⟨w.heap.size,0,none⟩) 0 0) 0 []:=Nz w #[] 0 (Mc _) (by decide) rfl;have heq:=mJ (P:=Tryz.prog) w 48 50 (some ⟨b,off,none⟩) 2 cap Tryz.underlying48
 go_enter Tryz.func62,Tryz.ntmps62;go_upto_region 3 with fail
 go_wp2_with (at_builtin; refine dh rfl _ _ 48 rfl w.heap.size 50 i0 _ 13 208 Tryz.underlying48 hi hj0 hj1 hj2 rfl (by decide) _ _ _ rfl ho _ _ _ _ rfl R1 (by unfold maxLen; omega) (by omega) (by simp) ?_)
 intro v' w5 ho5 hg5;have hb5:Below w.heap.size w w5:=hal.grown hg5 (by simp) (fun q hq=>(ho.lt q hq).1);have cells:=fun g hg i u hu=>World.ownsRow.cells ho5 (g:=g) hg i u hu
 obtain ⟨_,⟨_,e2⟩ | ⟨g,gc,cur,rfl,hg,hh,h4⟩⟩:=ho5
 ·cases e2
 have RT:jx ts (Old S w) g w5 [r0,r1] 2:=by
  have HC:∀ i u,(bV ts r0 q0 o0 ca0 cc0 na0 nc0 ++ bV ts r1 q1 o1 ca1 cc1 na1 nc1)[i]? = some u→w5.cell? ⟨g,i,none⟩=some u:=fun i u hu=>by
   rw [HX.out] at hu;have:=cells g rfl i u (by simpa using hu)
   rwa [cW,Mq] at this
  have hB:=BB.out;refine ⟨ae hh,fun h=>by have:=h.2; omega,fun o ho=>?_,fun o=>Mg _ g o _ _ hh,fun i hi _=>?_⟩
  ·have hlo:o<(bV ts r0 q0 o0 ca0 cc0 na0 nc0 ++ bV ts r1 q1 o1 ca1 cc1 na1 nc1).length:=ho;exact ⟨_,HC o _ (Ms hlo)⟩
  ·match i,hi with
   | 0,_=>exact ⟨q0,o0,ca0,cc0,na0,nc0,fun j u hj=>by
     rw [Nv,Mq];exact HC j u (by rw [Mx (by rcases ME j (bV ts r0 q0 o0 ca0 cc0 na0 nc0).length with h | h; exact h; have hj:(bV ts r0 q0 o0 ca0 cc0 na0 nc0)[j]? = some u:=hj; rw [MK h] at hj; cases hj)]; exact hj),(hB.1.mono fun b h l=>⟨h,l⟩).next (ah.of hb5)⟩
   | 1,_=>exact ⟨q1,o1,ca1,cc1,na1,nc1,fun j u hj=>HC (1*13+j) u (by rw [My (by exact MT _ _)]; rw [show 1*13+j - (bV ts r0 q0 o0 ca0 cc0 na0 nc0).length=j from Nat.add_sub_cancel_left _ _]; exact hj),(hB.2.mono fun b h l=>⟨h,l⟩).next (ah.of hb5)⟩
 go_wp2
 go_ret;exact ⟨g,gc,rfl,hg,RT,hb5⟩
theorem jx.put {ts:List (List Int)} {S:Nat→Prop} {g:Nat} {W:World} {l:List Pl} (h:jx ts S g W l l.length) {j:Nat} (hj:j<l.length) {r:Pl} {q:Pw} {o:Nat} {ca:Option Addr} {cc:Nat} {na:Option Addr} {nc:Nat} (hn:kU ts S W r q ca na) :
  jx ts S g (bQ W g (j*13) (bV ts r q o ca cc na nc)) (l.set j r) (l.set j r).length:=by
 have hK:=ke g h.no (bV ts r q o ca cc na nc) W (j*13) (ah.refl S W);have hr:∀ k,k<(bV ts r q o ca cc na nc).length→∃ u,W.cell? ⟨g,j*13+k,none⟩=some u:=fun k hk=>h.room _ (by
  have:k<13:=hk;have:(j+1)*13≤l.length*13:=M1 13 hj;omega)
 have hs:∀ (i:Nat) (hi:i<13),(bQ W g (j*13) (bV ts r q o ca cc na nc)).cell? ⟨g,j*13+i,none⟩=some ((bV ts r q o ca cc na nc)[i]'hi):=fun i hi=>jf g (bV ts r q o ca cc na nc) W (j*13) i hi hr
 have ho:∀ x,(x<j*13∨j*13+13≤x)→(bQ W g (j*13) (bV ts r q o ca cc na nc)).cell? ⟨g,x,none⟩=W.cell? ⟨g,x,none⟩:=fun x h=>dv g _ W _ _ _ (.inr h)
 have lt13:∀ {L:List Value} {k:Nat} {u:Value},L.length=13→L[k]? = some u→k<13:=fun {L k u} e hk=>by
  rcases ME k 13 with h | h
  ·exact h
  ·rw [MK (by omega)] at hk; cases hk
 refine ⟨by rw [gP]; exact h.lt,h.no,fun x hl=>?_,fun x=>by rw [jv]; exact h.fz x,fun i hi _=>?_⟩
 ·rw [List.length_set] at hl;by_cases c:x<j*13∨j*13+13≤x
  ·rw [ho x c]; exact h.room x hl
  ·have:=hs (x - j*13) (by omega);rw [show j*13+(x - j*13)=x by omega] at this;exact ⟨_,this⟩
 ·have hi':i<l.length:=by rwa [List.length_set] at hi
  by_cases e:j=i
  ·subst e;rw [List.getElem_set_self];refine ⟨q,o,ca,cc,na,nc,fun k u hk=>?_,hn.next hK⟩;rw [hs k (lt13 rfl hk),← hk];exact (Ms _).symm
  ·rw [List.getElem_set_ne e];obtain ⟨q',o',ca',cc',na',nc',e0,e1⟩:=h.laid i hi' hi';refine ⟨q',o',ca',cc',na',nc',fun k u hk=>?_,e1.next hK⟩;have hk':=lt13 rfl hk;refine (ho _ ?_).trans (e0 k u hk);rcases Nat.lt_or_gt_of_ne e with e | e
   ·have:(j+1)*13≤i*13:=M1 13 e;omega
   ·have:(i+1)*13≤j*13:=M1 13 e;omega
theorem qd (ts:List (List Int)) (S:Nat→Prop) (F:Pl→Pl) (u:Value) (p:Pl) (q:Pw) (o:Nat) (ca:Option Addr) (cc:Nat) (na:Option Addr) (nc:Nat) (w:World) (j:Nat) (hu:Lh ts u F p.ks (Old S w) w) (hp:kU ts S w p q ca na) (h2:p.ks.length=2) (hj:j<2) (hc:ag ts (.mk p.k p.n p.x p.xs p.gs (p.ks.set j (F (p.ks.getD j p))))=ag ts p) :
  Calls Tryz.prog 36 #[cU ts p q o ca cc na nc,.int .i64 j,u] w fun e w'=>∃ v,e = .returned v∧aY ts (fu S w) w' v (.mk p.k p.n p.x p.xs p.gs (p.ks.set j (F (p.ks.getD j p))))∧Below w.heap.size w w':=by
 have hjl:j<p.ks.length:=by omega
 have egd:p.ks.getD j p=p.ks[j]:=by rw [MD,Ms hjl,Ny]
 rw [egd] at hc ⊢;obtain ⟨cl,hcl⟩:∃ cl,(ag ts p).length=cl:=⟨_,rfl⟩
 have HCL:=aw hcl;have HKL:=aw h2;have HC:=aw hc;unfold cU bV;rw [hcl,h2];clear hcl h2 hc egd;have A:Below w.heap.size w ((w.alloc (.cells (aL p q o ca cl cc na 2 nc) 50)).alloc (.cells aJ 50)):=(((Md w.heap.size w).alloc (Mc _) (.cells (aL p q o ca cl cc na 2 nc) 50)).alloc (by simp only [Mf]; omega) (.cells aJ 50))
 have Z:w.heap.size+2≤((w.alloc (.cells (aL p q o ca cl cc na 2 nc) 50)).alloc (.cells aJ 50)).heap.size:=by simp only [Mf]; omega
 have Q0:((w.alloc (.cells (aL p q o ca cl cc na 2 nc) 50)).alloc (.cells aJ 50)).heap[w.heap.size]? = some (.cells (aL p q o ca cl cc na 2 nc) 50 (0,0)):=by
  rw [aG _ _ (by simp only [Mf]; omega)];exact aB w (aL p q o ca cl cc na 2 nc) 50 rfl
 have Q1:((w.alloc (.cells (aL p q o ca cl cc na 2 nc) 50)).alloc (.cells aJ 50)).heap[w.heap.size+1]? = some (.cells aJ 50 (0,0)):=by
  exact aB (w.alloc (.cells (aL p q o ca cl cc na 2 nc) 50)) aJ 50 (by simp only [Mf])
 have HP:=aw hp;obtain ⟨g',cb,rfl,eg,hd⟩:=hu;have HD:Hid (∀ (q:Pw) (o:Nat) (ca:Option Addr) (cc:Nat) (na:Option Addr) (nc:Nat) (W:World),Below w.heap.size w W→kU ts (Old S w) W p.ks[j] q ca na →
   Calls Tryz.prog g' (#[cU ts p.ks[j] q o ca cc na nc] ++ cb) W fun e w'=>∃ v,e = .returned v∧aY ts (fu (Old S w) W) w' v (F p.ks[j])∧Below W.heap.size W w'):=hd p.ks[j] (Mk hjl)
 clear hp hd;go_enter Tryz.func36,Tryz.ntmps36;go_upto_region 1 with fail
 generalize ((w.alloc (.cells (aL p q o ca cl cc na 2 nc) 50)).alloc (.cells aJ 50))=w2 at *;have con:=Ce ts (Old S w) na nc p.ks w2 ((HP.out.kids.mono fun b h l=>⟨h,l⟩).next (ah.of A)) HKL.out;have n12:w2.cell? ⟨w.heap.size,12,none⟩=some (.slice na 2 nc):=cell_of (i:=12) Q0 rfl;go_wp2_with fail
 refine con.mono ?_;rintro e w3 ⟨g,gc,rfl,hg,RT,hb3⟩;clear con n12;have A3:=chain A hb3;have Q03:=(hb3.block _ (ae Q0)).trans Q0;have Q13:=(hb3.block _ (ae Q1)).trans Q1;clear Q0 Q1;obtain ⟨q1,o1,ca1,cc1,na1,nc1,at1,B1⟩:=RT.laid j hjl hj;obtain ⟨cl1,hcl1⟩:∃ cl1,(ag ts p.ks[j]).length=cl1:=⟨_,rfl⟩
 have con:=HD.out q1 o1 ca1 cc1 na1 nc1 w3 A3 (B1.mono fun b h _=>h.1);unfold cU bV at con;unfold bV at at1;rw [hcl1] at con at1;clear hcl1 B1;have e0:w3.cell? ⟨g,j*13,none⟩=some (.int .i64 p.ks[j].k):=at1 0 _ rfl;have e1:w3.cell? ⟨g,j*13+1,none⟩=some (.int .i64 p.ks[j].n):=at1 1 _ rfl;have e2:w3.cell? ⟨g,j*13+2,none⟩=some (.int .i64 p.ks[j].x.k):=at1 2 _ rfl;have e3:w3.cell? ⟨g,j*13+3,none⟩=some (.int .i64 p.ks[j].x.v.1):=at1 3 _ rfl;have e4:w3.cell? ⟨g,j*13+4,none⟩=some (.int .i64 p.ks[j].x.v.2.1):=at1 4 _ rfl;have e5:w3.cell? ⟨g,j*13+5,none⟩=some (.string p.ks[j].x.v.2.2):=at1 5 _ rfl
 have e6:w3.cell? ⟨g,j*13+6,none⟩=some (.int .i64 p.ks[j].x.c):=at1 6 _ rfl;have e7:w3.cell? ⟨g,j*13+7,none⟩=some (.slice q1.xa p.ks[j].x.ks.length q1.xc):=at1 7 _ rfl;have e8:w3.cell? ⟨g,j*13+8,none⟩=some (.slice q1.sa p.ks[j].xs.length q1.sc):=at1 8 _ rfl;have e9:w3.cell? ⟨g,j*13+9,none⟩=some (.slice q1.ga p.ks[j].gs.length q1.gc):=at1 9 _ rfl;have e10:w3.cell? ⟨g,j*13+10,none⟩=some (.slice q1.ka o1 q1.kc):=at1 10 _ rfl;have e11:w3.cell? ⟨g,j*13+11,none⟩=some (.slice ca1 cl1 cc1):=at1 11 _ rfl;have e12:w3.cell? ⟨g,j*13+12,none⟩=some (.slice na1 p.ks[j].ks.length nc1):=at1 12 _ rfl
 have hjz:(j:Int)<2:=by omega
 go_wp2_with fail
 first | (refine con.mono ?_) | (go_at_fn g'; refine con.mono ?_)
 rintro e w6 ⟨v6,rfl,N6,hb6⟩;clear con e0 e1 e2 e3 e4 e5 e6 e7 e8 e9 e10 e11 e12 at1;have Q06:=(hb6.block _ (ae Q03)).trans Q03;have Q16:=(hb6.block _ (ae Q13)).trans Q13;have RT6:=RT.next hb6;have A6:=chain A3 hb6;have lg:=RT.lt;obtain ⟨q2,o2,ca2,cc2,na2,nc2,rfl,B6⟩:=N6;have RTS:jx ts (fun b=>Old S w b∨w3.heap.size≤b) g w6 p.ks p.ks.length:=by
  rw [HKL.out];refine ⟨RT6.lt,cR (by omega) lg,RT6.room,RT6.fz,fun i hi hj=>?_⟩;obtain ⟨q,o,ca,cc,na,nc,h1,h2⟩:=RT6.laid i hi hj;exact ⟨q,o,ca,cc,na,nc,h1,h2.mono fun b h _=>.inl h.1⟩
 have ST:=RTS.put hjl (q:=q2) (o:=o2) (ca:=ca2) (cc:=cc2) (na:=na2) (nc:=nc2) B6;obtain ⟨fk,hfk2⟩:∃ fk,F p.ks[j]=fk:=⟨_,rfl⟩
 have HFK:=aw hfk2;rw [hfk2] at ST HC ⊢;obtain ⟨cl2,hcl2⟩:∃ cl2,(ag ts fk).length=cl2:=⟨_,rfl⟩
 unfold cU bV;unfold bV at ST;rw [hcl2] at ST ⊢;clear hcl2 hfk2 B6 HD;have hr:∀ k,k<13→∃ u,w6.cell? ⟨g,j*13+k,none⟩=some u:=fun k hk=>RT6.room _ (by
  rw [HKL.out];have:(j+1)*13≤2*13:=M1 13 hj;omega)
 obtain ⟨u100,d0⟩:=hr 0 (by decide);have df0:=RT6.fz (j*13);obtain ⟨u101,d1⟩:=hr 1 (by decide);have df1:=RT6.fz (j*13+1);obtain ⟨u102,d2⟩:=hr 2 (by decide);have df2:=RT6.fz (j*13+2);obtain ⟨u103,d3⟩:=hr 3 (by decide);have df3:=RT6.fz (j*13+3);obtain ⟨u104,d4⟩:=hr 4 (by decide);have df4:=RT6.fz (j*13+4);obtain ⟨u105,d5⟩:=hr 5 (by decide);have df5:=RT6.fz (j*13+5);obtain ⟨u106,d6⟩:=hr 6 (by decide);have df6:=RT6.fz (j*13+6);obtain ⟨u107,d7⟩:=hr 7 (by decide);have df7:=RT6.fz (j*13+7);obtain ⟨u108,d8⟩:=hr 8 (by decide);have df8:=RT6.fz (j*13+8);obtain ⟨u109,d9⟩:=hr 9 (by decide)
 have df9:=RT6.fz (j*13+9);obtain ⟨u110,d10⟩:=hr 10 (by decide);have df10:=RT6.fz (j*13+10);obtain ⟨u111,d11⟩:=hr 11 (by decide);have df11:=RT6.fz (j*13+11);obtain ⟨u112,d12⟩:=hr 12 (by decide);have df12:=RT6.fz (j*13+12);simp only [Ng] at d0;have lg6:=RT6.lt
 have AP:Below w.heap.size w (((((((((((((w6.setCell ⟨g,j*13,none⟩ (.int .i64 fk.k)).setCell ⟨g,j*13+1,none⟩ (.int .i64 fk.n)).setCell ⟨g,j*13+2,none⟩ (.int .i64 fk.x.k)).setCell ⟨g,j*13+3,none⟩ (.int .i64 fk.x.v.1)).setCell ⟨g,j*13+4,none⟩ (.int .i64 fk.x.v.2.1)).setCell ⟨g,j*13+5,none⟩ (.string fk.x.v.2.2)).setCell ⟨g,j*13+6,none⟩ (.int .i64 fk.x.c)).setCell ⟨g,j*13+7,none⟩ (.slice q2.xa fk.x.ks.length q2.xc)).setCell ⟨g,j*13+8,none⟩ (.slice q2.sa fk.xs.length q2.sc)).setCell ⟨g,j*13+9,none⟩ (.slice q2.ga fk.gs.length q2.gc)).setCell ⟨g,j*13+10,none⟩ (.slice q2.ka o2 q2.kc)).setCell ⟨g,j*13+11,none⟩ (.slice ca2 cl2 cc2)).setCell ⟨g,j*13+12,none⟩ (.slice na2 fk.ks.length nc2)):=vW (g:=g) (j:=j) A6 (by omega) (.int .i64 fk.k) (.int .i64 fk.n) (.int .i64 fk.x.k) (.int .i64 fk.x.v.1) (.int .i64 fk.x.v.2.1) (.string fk.x.v.2.2) (.int .i64 fk.x.c) (.slice q2.xa fk.x.ks.length q2.xc) (.slice q2.sa fk.xs.length q2.sc) (.slice q2.ga fk.gs.length q2.gc) (.slice q2.ka o2 q2.kc) (.slice ca2 cl2 cc2) (.slice na2 fk.ks.length nc2)
 have QP0:(((((((((((((w6.setCell ⟨g,j*13,none⟩ (.int .i64 fk.k)).setCell ⟨g,j*13+1,none⟩ (.int .i64 fk.n)).setCell ⟨g,j*13+2,none⟩ (.int .i64 fk.x.k)).setCell ⟨g,j*13+3,none⟩ (.int .i64 fk.x.v.1)).setCell ⟨g,j*13+4,none⟩ (.int .i64 fk.x.v.2.1)).setCell ⟨g,j*13+5,none⟩ (.string fk.x.v.2.2)).setCell ⟨g,j*13+6,none⟩ (.int .i64 fk.x.c)).setCell ⟨g,j*13+7,none⟩ (.slice q2.xa fk.x.ks.length q2.xc)).setCell ⟨g,j*13+8,none⟩ (.slice q2.sa fk.xs.length q2.sc)).setCell ⟨g,j*13+9,none⟩ (.slice q2.ga fk.gs.length q2.gc)).setCell ⟨g,j*13+10,none⟩ (.slice q2.ka o2 q2.kc)).setCell ⟨g,j*13+11,none⟩ (.slice ca2 cl2 cc2)).setCell ⟨g,j*13+12,none⟩ (.slice na2 fk.ks.length nc2)).heap[w.heap.size]? = some (.cells (aL p q o ca cl cc na 2 nc) 50 (0,0)):=uf (g:=g) (j:=j) Q06 (by omega) (.int .i64 fk.k) (.int .i64 fk.n) (.int .i64 fk.x.k) (.int .i64 fk.x.v.1) (.int .i64 fk.x.v.2.1) (.string fk.x.v.2.2) (.int .i64 fk.x.c) (.slice q2.xa fk.x.ks.length q2.xc) (.slice q2.sa fk.xs.length q2.sc) (.slice q2.ga fk.gs.length q2.gc) (.slice q2.ka o2 q2.kc) (.slice ca2 cl2 cc2) (.slice na2 fk.ks.length nc2)
 have QP1:(((((((((((((w6.setCell ⟨g,j*13,none⟩ (.int .i64 fk.k)).setCell ⟨g,j*13+1,none⟩ (.int .i64 fk.n)).setCell ⟨g,j*13+2,none⟩ (.int .i64 fk.x.k)).setCell ⟨g,j*13+3,none⟩ (.int .i64 fk.x.v.1)).setCell ⟨g,j*13+4,none⟩ (.int .i64 fk.x.v.2.1)).setCell ⟨g,j*13+5,none⟩ (.string fk.x.v.2.2)).setCell ⟨g,j*13+6,none⟩ (.int .i64 fk.x.c)).setCell ⟨g,j*13+7,none⟩ (.slice q2.xa fk.x.ks.length q2.xc)).setCell ⟨g,j*13+8,none⟩ (.slice q2.sa fk.xs.length q2.sc)).setCell ⟨g,j*13+9,none⟩ (.slice q2.ga fk.gs.length q2.gc)).setCell ⟨g,j*13+10,none⟩ (.slice q2.ka o2 q2.kc)).setCell ⟨g,j*13+11,none⟩ (.slice ca2 cl2 cc2)).setCell ⟨g,j*13+12,none⟩ (.slice na2 fk.ks.length nc2)).heap[w.heap.size+1]? = some (.cells aJ 50 (0,0)):=uf (g:=g) (j:=j) Q16 (by omega) (.int .i64 fk.k) (.int .i64 fk.n) (.int .i64 fk.x.k) (.int .i64 fk.x.v.1) (.int .i64 fk.x.v.2.1) (.string fk.x.v.2.2) (.int .i64 fk.x.c) (.slice q2.xa fk.x.ks.length q2.xc) (.slice q2.sa fk.xs.length q2.sc) (.slice q2.ga fk.gs.length q2.gc) (.slice q2.ka o2 q2.kc) (.slice ca2 cl2 cc2) (.slice na2 fk.ks.length nc2)
 have SP:jx ts (fun b=>Old S w b∨w3.heap.size≤b) g (((((((((((((w6.setCell ⟨g,j*13,none⟩ (.int .i64 fk.k)).setCell ⟨g,j*13+1,none⟩ (.int .i64 fk.n)).setCell ⟨g,j*13+2,none⟩ (.int .i64 fk.x.k)).setCell ⟨g,j*13+3,none⟩ (.int .i64 fk.x.v.1)).setCell ⟨g,j*13+4,none⟩ (.int .i64 fk.x.v.2.1)).setCell ⟨g,j*13+5,none⟩ (.string fk.x.v.2.2)).setCell ⟨g,j*13+6,none⟩ (.int .i64 fk.x.c)).setCell ⟨g,j*13+7,none⟩ (.slice q2.xa fk.x.ks.length q2.xc)).setCell ⟨g,j*13+8,none⟩ (.slice q2.sa fk.xs.length q2.sc)).setCell ⟨g,j*13+9,none⟩ (.slice q2.ga fk.gs.length q2.gc)).setCell ⟨g,j*13+10,none⟩ (.slice q2.ka o2 q2.kc)).setCell ⟨g,j*13+11,none⟩ (.slice ca2 cl2 cc2)).setCell ⟨g,j*13+12,none⟩ (.slice na2 fk.ks.length nc2)) (p.ks.set j fk) (p.ks.set j fk).length:=ST
 clear hr ST RTS RT6 RT Q06 Q16 A6 hb6 Q03 Q13;go_upto_region 3 with fail
 clear d0 df0 d1 df1 d2 df2 d3 df3 d4 df4 d5 df5 d6 df6 d7 df7 d8 df8 d9 df9 d10 df10 d11 df11 d12 df12
 generalize (((((((((((((w6.setCell ⟨g,j*13,none⟩ (.int .i64 fk.k)).setCell ⟨g,j*13+1,none⟩ (.int .i64 fk.n)).setCell ⟨g,j*13+2,none⟩ (.int .i64 fk.x.k)).setCell ⟨g,j*13+3,none⟩ (.int .i64 fk.x.v.1)).setCell ⟨g,j*13+4,none⟩ (.int .i64 fk.x.v.2.1)).setCell ⟨g,j*13+5,none⟩ (.string fk.x.v.2.2)).setCell ⟨g,j*13+6,none⟩ (.int .i64 fk.x.c)).setCell ⟨g,j*13+7,none⟩ (.slice q2.xa fk.x.ks.length q2.xc)).setCell ⟨g,j*13+8,none⟩ (.slice q2.sa fk.xs.length q2.sc)).setCell ⟨g,j*13+9,none⟩ (.slice q2.ga fk.gs.length q2.gc)).setCell ⟨g,j*13+10,none⟩ (.slice q2.ka o2 q2.kc)).setCell ⟨g,j*13+11,none⟩ (.slice ca2 cl2 cc2)).setCell ⟨g,j*13+12,none⟩ (.slice na2 fk.ks.length nc2))=w8 at *
 obtain ⟨n0,n1,n2,n3,n4,n5,n6,n7,n8,n9,n10,n11,n12⟩:=aD QP0;obtain ⟨z0,z1,z2,z3,z4,z5,z6,z7,z8,z9,z10,z11,z12⟩:=aD QP1;obtain ⟨zf0,zf1,zf2,zf3,zf4,zf5,zf6,zf7,zf8,zf9,zf10,zf11,zf12⟩:=cT QP1;go_wp2_with fail
 have AR:Below w.heap.size w (dF w8 (w.heap.size+1) p q o ca cl cc (some ⟨g,0,none⟩) 2 gc):=(bq (g:=w.heap.size+1) AP (by omega) _ _ _ _ _ _ _ _ _ _ _ _ _)
 have KP:ah (fun b=>b≠w.heap.size+1) w8 (dF w8 (w.heap.size+1) p q o ca cl cc (some ⟨g,0,none⟩) 2 gc):=(bL (g:=w.heap.size+1) (ah.refl _ w8) (fun h=>h rfl) _ _ _ _ _ _ _ _ _ _ _ _ _)
 have QE:(dF w8 (w.heap.size+1) p q o ca cl cc (some ⟨g,0,none⟩) 2 gc).heap[w.heap.size+1]? = some (.cells (aL p q o ca cl cc (some ⟨g,0,none⟩) 2 gc) 50 (0,0)):=(bI (g:=w.heap.size+1) QP1 _ _ _ _ _ _ _ _ _ _ _ _ _)
 clear z0 zf0 z1 zf1 z2 zf2 z3 zf3 z4 zf4 z5 zf5 z6 zf6 z7 zf7 z8 zf8 z9 zf9 z10 zf10 z11 zf11 z12 zf12 n0 n1 n2 n3 n4 n5 n6 n7 n8 n9 n10 n11 n12;have RN:=SP.Lk (S':=fun b=>fu S w b∧b≠w.heap.size+1) (fun b h=>by
  rcases h with h | h
  ·exact ⟨.inl h.1,by have:=h.2; omega⟩
  ·exact ⟨.inr (by omega),by omega⟩) ⟨.inr (by omega),by omega⟩
 unfold dF at AR KP QE
 generalize (((((((((((((w8.setCell ⟨w.heap.size+1,0,none⟩ (.int .i64 p.k)).setCell ⟨w.heap.size+1,1,none⟩ (.int .i64 p.n)).setCell ⟨w.heap.size+1,2,none⟩ (.int .i64 p.x.k)).setCell ⟨w.heap.size+1,3,none⟩ (.int .i64 p.x.v.1)).setCell ⟨w.heap.size+1,4,none⟩ (.int .i64 p.x.v.2.1)).setCell ⟨w.heap.size+1,5,none⟩ (.string p.x.v.2.2)).setCell ⟨w.heap.size+1,6,none⟩ (.int .i64 p.x.c)).setCell ⟨w.heap.size+1,7,none⟩ (.slice q.xa p.x.ks.length q.xc)).setCell ⟨w.heap.size+1,8,none⟩ (.slice q.sa p.xs.length q.sc)).setCell ⟨w.heap.size+1,9,none⟩ (.slice q.ga p.gs.length q.gc)).setCell ⟨w.heap.size+1,10,none⟩ (.slice q.ka o q.kc)).setCell ⟨w.heap.size+1,11,none⟩ (.slice ca cl cc)).setCell ⟨w.heap.size+1,12,none⟩ (.slice (some ⟨g,0,none⟩) 2 gc))=w9 at *
 have FIN:aY ts (fu S w) w9 (.agg (aL p q o ca cl cc (some ⟨g,0,none⟩) 2 gc)) (.mk p.k p.n p.x p.xs p.gs (p.ks.set j fk)):=by
  have B8:=(HP.out.mono (S':=fu S w) fun b h _=>.inl h).next (ah.of AR);refine ⟨q,o,ca,cc,some ⟨g,0,none⟩,gc,?_,⟨B8.x,B8.xs,B8.gs,by rw [HC.out]; exact B8.af,?_⟩⟩
  ·unfold cU bV;rw [HC.out,HCL.out];have e:(Pl.mk p.k p.n p.x p.xs p.gs (p.ks.set j fk)).ks.length=2:=by show (p.ks.set j fk).length=2; rw [List.length_set]; exact HKL.out
   rw [e];rfl
  ·exact (RN.next (KP.mono fun _ h=>h.2)).mono fun b h _=>h.1
 obtain ⟨r0,r1,r2,r3,r4,r5,r6,r7,r8,r9,r10,r11,r12⟩:=aD QE;exact Me (v:=.agg (aL p q o ca cl cc (some ⟨g,0,none⟩) 2 gc)) (by simp [results,Tryz.results36,go_sem,r0,r1,r2,r3,r4,r5,r6,r7,r8,r9,r10,r11,r12]) rfl ⟨_,rfl,by rw [HFK.out]; exact FIN,AR⟩
theorem jJ {P:Program} {w:World} {ops:Array Oper} {rest:List Oper} {o:Oper} {a:Act} {Q:Exit→Act→World→Prop} (hgd:o.guard=none) (s x:Operand) (t:TypeId)
  (ho:o.op = .call { callee:=.builtin .append,args:=#[s,x],argTypes:=#[t,t] })
  (base:Nat) (e:TypeId) (i:TypeInfo) (z:Value) (size bytes:Nat) (ht:P.underlying t=some (.slice e)) (hi:P.info? e=some i) (hz:i.zero=some z)
  (hsize:i.size=size) (hby:i.bytes=bytes) (hzs:z.cells.size=size) (hsz:0<size)
  (v:Value) (n:Nat) (xs:List Value) (hs:a.eval s=v) (hown:w.ownsRow base e size v n xs)
  (ad:Addr) (m c:Nat) (news:List Value) (hx:a.eval x = .slice (some ad) m c) (hl:news.length=m*size) (hnews:∀ j u,news[j]? = some u→w.cell? (ad.add j)=some u) (h1:∀ u ∈ news,u.oneCell'=true)
  (h63:n+m≤maxLen) (hbytes:(n+m)*bytes≤140737488355328) (hbase:base≤w.heap.size)
  (h:∀ v' w',w'.ownsRow base e size v' (n+m) (xs ++ news)→w.grownBy w' v.ownBlock→(v'.ownBlock=v.ownBlock∨v'.ownBlock=some w.heap.size)→wpList P ops Q rest (a.put o.dst v') w'):wpList P ops Q (o :: rest) a w:=by
 refine wpList_plain hgd fun K hK=>?_
 obtain ⟨v',w',hr,h2,h3,_,h5⟩:=run_append_own_at (P:=P) w base t o.type e i z size bytes ht hi hz hsize hby hzs hsz v n xs hown ad m c news hl hnews h1 h63 hbytes hbase;unfold Oper.wp;simp [execOp,ho,resolve,invoke,builtin,hs,hx,hr,Result.andThen];exact hK _ _ (h v' w' h2 h3 h5)
theorem IG {x:Ex} {a:Option Addr} {c:Nat}:∀ u ∈ IY x a c,u.oneCell'=true:=by
 intro u hu;simp only [IY,Mu,Np,or_false] at hu;rcases hu with rfl | rfl | rfl | rfl | rfl | rfl <;> rfl
theorem py {W:World} {g:Nat} {L:List Value} {T:TypeId} (h:W.heap[g]? = some (.cells L.toArray T (0,0))):∀ j u,L[j]? = some u→W.cell? ((⟨g,0,none⟩:Addr).add j)=some u:=fun j u hj=>by
 rw [cW,Mq]
 exact cell_of (i:=j) h (by simpa using hj)
theorem jW (P:Int→Prop) (xs:List Ex) (a:Option Addr) (cap:Nat) (w:World) (hx:aX w.heap.size w a xs) (hw:∀ x ∈ xs,fF P x) (hl:xs.length≤100000) :
  Calls Tryz.prog 25 #[.slice a xs.length cap] w fun e w'=>∃ a' c',e = .returned (.slice a' xs.length c')∧gA (fun b=>w.heap.size≤b) w' a' (cQ (fun c=>c) xs)∧Below w.heap.size w w':=by
 obtain ⟨i0,hi,hj0,hj1,hj2⟩:=info_parts Jl;have HW:=aw hw;have HX:=aw hx;clear hw hx;go_enter Tryz.func25,Tryz.ntmps25;go_wp2_with fail
 go_loopw [3,8] (fun s i wr=>∃ j:Nat,j≤xs.length∧i = .int .i64 j∧cK KA 27 6 w.heap.size (fun b=>w.heap.size≤b) wr s (cQ (fun c=>c) (xs.take j))∧Below w.heap.size w wr) (fun _ i _=>xs.length - (intOf i).toNat)
 case atStart=>exact ⟨0,Mj _,rfl,by rw [List.take_zero,cQ]; exact cK.nil _ _ _ _ _ _,Md _ _⟩
 case round =>
  obtain ⟨j,hj,rfl,OS,hb⟩:=hrel;by_cases hlt:j<xs.length
  ·obtain ⟨b,off,ai,ci,rfl,hbl,sx,kx⟩:=(aX.next hb (Mc _) HX.out).elem hlt;obtain ⟨x0,x1,x2,x3,x4,x5⟩:=sx;have hjz:(j:Int)<(xs.length:Int):=by omega
   have hal:=aa wr (.cells (bC xs[j] ai ci) 27);have qk:=ak wr (bC xs[j] ai ci) 27;have hz:=hb.size;have con:=lD (fun c=>c) P xs[j] (.func (.func 24) #[] #[]) ai ci (wr.alloc (.cells (bC xs[j] ai ci) 27)) (tR P _) (HW.out xs[j] (Mk hlt)) ((aX.next hal hz kx).up (Mr hz hal.size));obtain ⟨y,hy⟩:∃ y,lW (fun c=>c) xs[j]=y:=⟨_,rfl⟩
   rw [hy] at con;have HT:Hid (cQ (fun c=>c) (xs.take (j+1))=cQ (fun c=>c) (xs.take j) ++ [y]):=by show _=_; rw [← hy]; exact sw _ hlt
   have hln:(cQ (fun c=>c) (xs.take j)).length=j:=by rw [dK,MH]; omega
   have HLN:=aw hln;have hnb:=OS.lt;clear hln hy kx;go_wp2_with fail
   refine con.mono ?_;rintro e w5 ⟨ya,yc,rfl,KY,hb5⟩;clear con x0 x1 x2 x3 x4 x5;have D5:=chain hal hb5;have al6:=aa w5 (.cells (bC y ya yc) 27);have q6:=ak w5 (bC y ya yc) 27;have D6:=chain D5 al6;have KY6:=KY.next (ah.of al6);obtain ⟨ys,o6,en6'⟩:=OS.next Jm D6;have z5:=D5.size;have z6:=al6.size;have l9:=HLN.out;have hws:w.heap.size≤(w5.alloc (.cells (bC y ya yc) 27)).heap.size:=by omega
   dsimp only;go_wp2_with (at_builtin; refine jJ rfl _ _ 25 rfl w.heap.size 27 i0 _ 6 72 Tryz.underlying25 hi hj0 hj1 hj2 rfl (by decide) u3 _ ys rfl o6 ⟨w5.heap.size,0,none⟩ 1 1 (IY y ya yc) rfl rfl (py q6) IG (by unfold maxLen; omega) (by omega) hws ?_)
   intro v' w7 o7 g7 hd7;have OS7:cK KA 27 6 w.heap.size (fun b=>w.heap.size≤b) w7 v' (cQ (fun c=>c) (xs.take j) ++ [y]):=cK.push Jm o6 en6' rfl ⟨ya,yc,rfl,KY6.mono fun b hb hl=>⟨by have:=hal.size; omega,hl,fun e=>by have:=(hnb b e).2; have:=hal.size; omega⟩⟩ (by rw [HLN.out]; exact o7) g7 (by simpa only [Mf] using hd7);have A7:Below w.heap.size w w7:=(chain hb D6).trans ((Md _ _).grown g7 (by omega) (fun q hq=>(hnb q hq).1));clear o6 en6' o7 g7 hd7 KY6 KY q6 al6 D6 D5;go_wp2
   go_roundw
   case rel=>exact ⟨j+1,by omega,by go_num,by rw [HT.out]; exact OS7,A7⟩
   case measure=>simp [intOf]; omega
  ·have e:j=xs.length:=by omega
   subst e;rw [MB] at OS;obtain ⟨sa,sc,rfl,KS⟩:=OS.LB (fun _ h=>h);have hlen:=dK (fun c=>c) xs;have HLE:=aw hlen;clear hlen OS;go_wp2
   go_ret;exact ⟨sa,sc,by simp [HLE.out],KS,hb⟩
mutual
def qh (ts:List (List Int)):Pl→Prop
 | .mk k n x xs gs ks=>bH ts (.mk k n x xs gs ks)=0∧uE ts ks
def uE (ts:List (List Int)):List Pl→Prop
 | []=>True
 | p :: r=>qh ts p∧uE ts r
end
theorem nR {ts:List (List Int)}:∀ {l:List Pl},uE ts l↔∀ p ∈ l,qh ts p
 | []=>by simp [uE]
 | p :: r=>by rw [uE,nR (l:=r)]; simp
theorem yU {k:Int} {n:Nat} {m d m' d':Int} (h:dX k n m d=0) (hm:m'≤m) (hd:d'≤d):dX k n m' d'=0:=by
 unfold dX at h ⊢;by_cases c:60<m∨15<d
 ·rw [if_pos c] at h; cases h
 ·rw [if_neg c] at h;rw [if_neg (by omega)];exact h
theorem oJ {ts:List (List Int)}:∀ (l:List Pl),(∀ p ∈ l,∀ m d m' d':Int,(aV ts p m d).1=0→m'≤m→d'≤d→(aV ts p m' d').1=0∧(aV ts p m' d').2 - m'=(aV ts p m d).2 - m)→∀ m d m' d':Int,(aS ts l m d).1=0→m'≤m→d'≤d→(aS ts l m' d').1=0∧(aS ts l m' d').2 - m'=(aS ts l m d).2 - m
 | [],_,m,d,m',d',_,_,_=>by simp [aS]
 | p :: r,ih,m,d,m',d',h,hm,hd=>by
  rw [aS] at h
  by_cases c:(aV ts p m d).1=0
  ·rw [if_neg (by simp [c])] at h
   obtain ⟨h1,h2⟩:=ih p (by simp) m d m' d' c hm hd
   have e1:aS ts (p :: r) m d=aS ts r (aV ts p m d).2 d:=by rw [aS,if_neg (by simp [c])]
   have e2:aS ts (p :: r) m' d'=aS ts r (aV ts p m' d').2 d':=by rw [aS,if_neg (by simp [h1])]
   rw [e1,e2]
   obtain ⟨h3,h4⟩:=oJ r (fun q hq=>ih q (by simp [hq])) (aV ts p m d).2 d (aV ts p m' d').2 d' h (by omega) hd
   exact ⟨h3,by omega⟩
  ·rw [if_pos c] at h; exact absurd h c
theorem yC {ts:List (List Int)}:∀ (p:Pl) (m d m' d':Int),(aV ts p m d).1=0→m'≤m→d'≤d→(aV ts p m' d').1=0∧(aV ts p m' d').2 - m'=(aV ts p m d).2 - m :=
 Pl.ind fun k n x xs gs ks ih m d m' d' h hm hd=>by
  obtain ⟨h1,h2,h3,h4⟩:=dR h
  obtain ⟨g1,g2⟩:=oJ ks (fun p hp=>ih p hp) (m+1) (d+1) (m'+1) (d'+1) h2 (by omega) (by omega)
  have h5:(aV ts (.mk k n x xs gs ks) m' d')=(eI ts k n x xs gs (aQ ts ks),(aS ts ks (m'+1) (d'+1)).2):=by
   rw [aV,if_neg (by simp [yU h1 (show m'+1≤m+1 by omega) hd]),if_neg (by simp [g1])]
  rw [h5];refine ⟨h3,?_⟩;rw [h4];simp only;omega
theorem Lq {ts:List (List Int)} (hts:gf ts=0):∀ (p:Pl) (m d:Int),0≤m→1≤d→(aV ts p m d).1=0→qh ts p :=
 Pl.ind fun k n x xs gs ks ih m d hm hd h=>by
  rw [qh]
  refine ⟨?_,nR.2 fun r hr=>?_⟩
  ·unfold bH
   rw [if_neg (by simp [hts])]
   exact (yC _ m d 0 1 h hm hd).1
  ·obtain ⟨_,h2,_⟩:=dR h
   have key:∀ (l:List Pl) (m:Int),0≤m→(aS ts l m (d+1)).1=0→∀ p ∈ l,∃ m',0≤m'∧(aV ts p m' (d+1)).1=0:=by
    intro l
    induction l with
    | nil=>intro m _ _ p hp; cases hp
    | cons q l ihl =>
     intro m hm hl p hp;rw [aS] at hl;by_cases c:(aV ts q m (d+1)).1=0
     ·rw [if_neg (by simp [c])] at hl;rcases List.mem_cons.1 hp with rfl | hp
      ·exact ⟨m,hm,c⟩
      ·exact ihl _ (by have:=(AX ts q m (d+1) c).1; omega) hl p hp
     ·rw [if_pos c] at hl; exact absurd hl c
   obtain ⟨m',hm',h'⟩:=key ks (m+1) (by omega) h2 r hr;exact ih r hr m' (d+1) hm' (by omega) h'
def Hz (ts:List (List Int)) (p:Pl):Prop:=∀ (B:Nat) (q:Pw) (ta:Option Addr) (tc:Nat) (w:World),B≤w.heap.size→oh B w p q→iW B w ta ts→qh ts p→dx p →
 Calls Tryz.prog 12 #[.slice ta ts.length tc,gR p q] w fun e w'=>∃ v,e = .returned v∧aY ts (fun b=>b<B∨w.heap.size≤b) w' v p∧Below w.heap.size w w'
theorem Gm {ts:List (List Int)} {p:Pl} (h:qh ts p):bH ts p=0∧(∀ r ∈ p.ks,qh ts r)∧p.ks.length≤2:=by
 obtain ⟨k,n,x,xs,gs,ks⟩:=p;rw [qh] at h;refine ⟨h.1,nR.1 h.2,?_⟩;have h1:=(eJ h.1).2;obtain ⟨h2,_⟩:=dR h1;show ks.length≤2;rw [(fJ h2).1];exact kV k
theorem uN (ts:List (List Int)) (p:Pl) (ih:∀ r ∈ p.ks,Hz ts r):Hz ts p:=by
 intro B q ta tc w hBw hp hT hlk hok;obtain ⟨i0,hi,hj0,hj1,hj2⟩:=info_parts GI;obtain ⟨cl,hcl⟩:∃ cl,(ag ts p).length=cl:=⟨_,rfl⟩
 have HCL:=aw hcl;have HLK:Hid (bH ts p=0∧(∀ r ∈ p.ks,qh ts r)∧p.ks.length≤2):=Gm hlk;have HOK:=aw hok;have HP:=aw hp;have HT:=aw hT;have IH:=aw ih;obtain ⟨ka,hka⟩:∃ ka,q.ka=ka:=⟨_,rfl⟩
 have HKA:=aw hka;have HKS:Hid (jF B w ka p.ks):=by rw [← hka]; exact hp.ks
 unfold gR dS;rw [hka];clear hcl hp hT hlk hok ih hka
 have A:Below w.heap.size w ((w.alloc (.cells (BM p q ka p.ks.length q.kc) 31)).alloc (.cells aJ 50)):=(((Md w.heap.size w).alloc (Mc _) (.cells (BM p q ka p.ks.length q.kc) 31)).alloc (by simp only [Mf]; omega) (.cells aJ 50))
 have Z:w.heap.size+2≤((w.alloc (.cells (BM p q ka p.ks.length q.kc) 31)).alloc (.cells aJ 50)).heap.size:=by simp only [Mf]; omega
 have Q0:((w.alloc (.cells (BM p q ka p.ks.length q.kc) 31)).alloc (.cells aJ 50)).heap[w.heap.size]? = some (.cells (BM p q ka p.ks.length q.kc) 31 (0,0)):=by
  rw [aG _ _ (by simp only [Mf]; omega)];exact aB w (BM p q ka p.ks.length q.kc) 31 rfl
 have Q1:((w.alloc (.cells (BM p q ka p.ks.length q.kc) 31)).alloc (.cells aJ 50)).heap[w.heap.size+1]? = some (.cells aJ 50 (0,0)):=by
  exact aB (w.alloc (.cells (BM p q ka p.ks.length q.kc) 31)) aJ 50 (by simp only [Mf])
 have con:=EC ts p q ta tc ((w.alloc (.cells (BM p q ka p.ks.length q.kc) 31)).alloc (.cells aJ 50)) ((HT.out.next A hBw).up (Mr hBw A.size)) ((HP.out.next A hBw).up (Mr hBw A.size)) HOK.out;have eC:iX ts p=ag ts p:=by unfold iX; rw [if_pos HLK.out.1]
 rw [eC,HLK.out.1,HCL.out] at con;clear eC;unfold gR dS at con;rw [HKA.out] at con;go_enter Tryz.func12,Tryz.ntmps12;go_upto_region 1 with fail
 generalize ((w.alloc (.cells (BM p q ka p.ks.length q.kc) 31)).alloc (.cells aJ 50))=w2 at *;obtain ⟨n0,n1,n2,n3,n4,n5,n6,n7,n8,n9,n10⟩:=cw Q0;go_wp2_with fail
 refine con.mono ?_;rintro e w3 ⟨ca,cc,rfl,IC,hb3⟩;clear con n0 n1 n2 n3 n4 n5 n6 n7 n8 n9 n10;have A3:=chain A hb3;have Q03:=(hb3.block _ (ae Q0)).trans Q0;have Q13:=(hb3.block _ (ae Q1)).trans Q1;have z3:=hb3.size;clear Q0 Q1;obtain ⟨n0,n1,n2,n3,n4,n5,n6,n7,n8,n9,n10⟩:=cw Q03
 have al:=aa w3 (.cells (J0 p.k p.n p.x.k p.x.v.1 p.x.v.2.1 p.x.v.2.2 p.x.c q.xa p.x.ks.length q.xc q.sa p.xs.length q.sc q.ga p.gs.length q.gc ka p.ks.length q.kc ca cl cc) 50)
 have QO:=ak w3 (J0 p.k p.n p.x.k p.x.v.1 p.x.v.2.1 p.x.v.2.2 p.x.c q.xa p.x.ks.length q.xc q.sa p.xs.length q.sc q.ga p.gs.length q.gc ka p.ks.length q.kc ca cl cc) 50;dsimp only;go_upto_region 3 with fail
 clear n0 n1 n2 n3 n4 n5 n6 n7 n8 n9 n10;have A4:=chain A3 al;have Q04:=(al.block _ (ae Q03)).trans Q03;have Q14:=(al.block _ (ae Q13)).trans Q13;have lo:=ae QO;have HIC:=aw IC;generalize w3.alloc (.cells (J0 p.k p.n p.x.k p.x.v.1 p.x.v.2.1 p.x.v.2.2 p.x.c q.xa p.x.ks.length q.xc q.sa p.xs.length q.sc q.ga p.gs.length q.gc ka p.ks.length q.kc ca cl cc) 50)=w4 at *;have z4:=al.size
 have HK34:=aw al;clear Q03 Q13 A3 IC al A;have hx10:w4.cell? ⟨w.heap.size,10,none⟩=some (.slice ka p.ks.length q.kc):=cell_of (i:=10) Q04 rfl;have h2:=HLK.out.2.2;go_wp2_with fail
 clear hx10 Q04
 go_loopw [22] (fun i wr=>∃ j:Nat,j≤p.ks.length∧i = .int .i64 j∧(∃ s,wr.heap[w3.heap.size]? = some (.cells (DK p.k p.n p.x.k p.x.v.1 p.x.v.2.1 p.x.v.2.2 p.x.c q.xa p.x.ks.length q.xc q.sa p.xs.length q.sc q.ga p.gs.length q.gc ka p.ks.length q.kc ca cl cc s) 50 (0,0))∧cK (Hy ts) 50 13 w4.heap.size (fun b=>b<B∨w4.heap.size≤b) wr s (p.ks.take j))∧wr.heap[w.heap.size+1]? = some (.cells aJ 50 (0,0))∧Below w.heap.size w wr∧ah (fun b=>w2.heap.size≤b∧b<w3.heap.size) w3 wr∧w4.heap.size≤wr.heap.size) (fun i _=>p.ks.length - (intOf i).toNat)
 case atStart=>exact ⟨0,Mj _,rfl,⟨_,QO,by rw [List.take_zero]; exact cK.nil _ _ _ _ _ _⟩,Q14,A4,ah.of HK34.out,Mc _⟩
 case round =>
  clear QO Q14 A4;obtain ⟨j,hj,rfl,⟨s,QO,OS⟩,QZ,hb,hkw,hzr⟩:=hrel;by_cases hlt:j<p.ks.length
  ·obtain ⟨b,off,q1,rfl,hbl,hel,hB⟩:=(jF.next hb hBw HKS.out).elem hlt;obtain ⟨e0,e1,⟨e2,e3,e4,e5,e6,e7⟩,e8,e9,e10⟩:=hel;simp only [NF,Nat.reduceAdd] at e3 e4 e5 e6 e7;simp only [← NF] at e3 e4 e5 e6 e7;have hjz:(j:Int)<(p.ks.length:Int):=by omega
   have hal:=aa wr (.cells (dS p.ks[j] q1) 31)
   have qk:=ak wr (dS p.ks[j] q1) 31;have HB:=aw hB;have hm:=Mk hlt;have HIH:Hid (Hz ts p.ks[j]∧qh ts p.ks[j]∧dx p.ks[j]):=⟨IH.out _ hm,HLK.out.2.1 _ hm,HOK.out.ks _ hm⟩
   have HTK:Hid (p.ks.take (j+1)=p.ks.take j ++ [p.ks[j]]):=Mp hlt;have hln:(p.ks.take j).length=j:=by rw [MH]; omega
   have HLN:=aw hln;have OS':=aw OS;have hnb:=OS.lt;clear hB hm hln OS;go_wp2_with fail
   clear e0 e1 e2 e3 e4 e5 e6 e7 e8 e9 e10;have QOa:=(hal.block _ (by omega)).trans QO;have QZa:=(hal.block _ (by omega)).trans QZ;have za:=hal.size;have lk:=ae qk;generalize wr.alloc (.cells (dS p.ks[j] q1) 31)=wa at *
   have hCC:∀ W W':World,(W.heap[w3.heap.size]? = some (.cells (DK p.k p.n p.x.k p.x.v.1 p.x.v.2.1 p.x.v.2.2 p.x.c q.xa p.x.ks.length q.xc q.sa p.xs.length q.sc q.ga p.gs.length q.gc (some ⟨b,off,none⟩) p.ks.length q.kc ca cl cc s) 50 (0,0))∧W.heap[wr.heap.size]? = some (.cells (dS p.ks[j] q1) 31 (0,0)))→Below W.heap.size W W'→(W'.heap[w3.heap.size]? = some (.cells (DK p.k p.n p.x.k p.x.v.1 p.x.v.2.1 p.x.v.2.2 p.x.c q.xa p.x.ks.length q.xc q.sa p.xs.length q.sc q.ga p.gs.length q.gc (some ⟨b,off,none⟩) p.ks.length q.kc ca cl cc s) 50 (0,0))∧W'.heap[wr.heap.size]? = some (.cells (dS p.ks[j] q1) 31 (0,0))):=fun W W' h hb=>⟨(hb.block _ (ae h.1)).trans h.1,(hb.block _ (ae h.2)).trans h.2⟩
   have hdr:Below wa.heap.size wa wa.drew:=(Md _ _).drew;have CW:=hCC _ _ ⟨QOa,qk⟩ hdr
   refine i4 (fun W=>W.heap[w3.heap.size]? = some (.cells (DK p.k p.n p.x.k p.x.v.1 p.x.v.2.1 p.x.v.2.2 p.x.c q.xa p.x.ks.length q.xc q.sa p.xs.length q.sc q.ga p.gs.length q.gc (some ⟨b,off,none⟩) p.ks.length q.kc ca cl cc s) 50 (0,0))∧W.heap[wr.heap.size]? = some (.cells (dS p.ks[j] q1) 31 (0,0))) 8 (by kernel_rfl) ?_
   refine bN hCC (some 26) (i:=0) (v:=.pointer (some ⟨w3.heap.size,12,none⟩)) rfl rfl (by kernel_rfl) (by kernel_rfl) (by kernel_rfl) (by kernel_rfl) (by kernel_rfl) rfl (fun _ _ _ h=>h) (Or.inl ⟨rfl,fun n hn=>?_⟩) (fun _=>CW) ?_
   ·go_simp
   simp only [pD,pB,pC];refine bN hCC (some 27) (i:=1) (v:=s) rfl rfl (by kernel_rfl) (by kernel_rfl) (by kernel_rfl) (by kernel_rfl) (by kernel_rfl) rfl (fun _ _ _ h=>h) (Or.inl ⟨rfl,fun n hn=>?_⟩) (fun _=>CW) ?_
   ·have hcell:n.cell? ⟨w3.heap.size,12,none⟩=some s:=cell_of (i:=12) hn.1 rfl;go_simp
   simp only [pD,pB,pC];refine bN hCC (some 28) (i:=2) (v:=.slice ta ts.length tc) rfl rfl (by kernel_rfl) (by kernel_rfl) (by kernel_rfl) (by kernel_rfl) (by kernel_rfl) rfl (fun _ _ _ h=>h) (Or.inl ⟨rfl,fun n hn=>?_⟩) (fun _=>CW) ?_
   ·go_simp
   simp only [pD,pB,pC];refine bN hCC (some 29) (i:=3) (v:=.agg (dS p.ks[j] q1)) rfl rfl (by kernel_rfl) (by kernel_rfl) (by kernel_rfl) (by kernel_rfl) (by kernel_rfl) rfl (fun _ _ _ h=>h) (Or.inl ⟨rfl,fun n hn=>?_⟩) (fun _=>CW) ?_
   ·have hc0:n.cell? ⟨wr.heap.size,0,none⟩=some (.int .i64 p.ks[j].k):=cell_of (i:=0) hn.2 rfl;have hc1:n.cell? ⟨wr.heap.size,1,none⟩=some (.int .i64 p.ks[j].n):=cell_of (i:=1) hn.2 rfl;have hc2:n.cell? ⟨wr.heap.size,2,none⟩=some (.int .i64 p.ks[j].x.k):=cell_of (i:=2) hn.2 rfl;have hc3:n.cell? ⟨wr.heap.size,3,none⟩=some (.int .i64 p.ks[j].x.v.1):=cell_of (i:=3) hn.2 rfl;have hc4:n.cell? ⟨wr.heap.size,4,none⟩=some (.int .i64 p.ks[j].x.v.2.1):=cell_of (i:=4) hn.2 rfl;have hc5:n.cell? ⟨wr.heap.size,5,none⟩=some (.string p.ks[j].x.v.2.2):=cell_of (i:=5) hn.2 rfl
    have hc6:n.cell? ⟨wr.heap.size,6,none⟩=some (.int .i64 p.ks[j].x.c):=cell_of (i:=6) hn.2 rfl;have hc7:n.cell? ⟨wr.heap.size,7,none⟩=some (.slice q1.xa p.ks[j].x.ks.length q1.xc):=cell_of (i:=7) hn.2 rfl;have hc8:n.cell? ⟨wr.heap.size,8,none⟩=some (.slice q1.sa p.ks[j].xs.length q1.sc):=cell_of (i:=8) hn.2 rfl;have hc9:n.cell? ⟨wr.heap.size,9,none⟩=some (.slice q1.ga p.ks[j].gs.length q1.gc):=cell_of (i:=9) hn.2 rfl;have hc10:n.cell? ⟨wr.heap.size,10,none⟩=some (.slice q1.ka p.ks[j].ks.length q1.kc):=cell_of (i:=10) hn.2 rfl;go_simp
   simp only [pD,pB,pC];refine dg (rs:=[4]) (by kernel_rfl) (by simp) ?_;intro w5 hb5 jj hj;obtain rfl:jj=4:=by simpa using hj
   clear hj;have D5:=chain (chain hal hdr) hb5;have B5:=chain hb D5;have CW5:=hCC _ _ CW hb5;have con:=HIH.out.1 B q1 ta tc w5 (Mr hBw B5.size) (HB.out.next D5 (Mr hBw hb.size)) (HT.out.next B5 hBw) HIH.out.2.1 HIH.out.2.2;obtain ⟨y,hy⟩:∃ y,p.ks[j]=y:=⟨_,rfl⟩
   have HY:=aw hy;clear hy;unfold gR at con;refine wpOp_step rfl (fun K hK=>?_);go_simp;refine con.mono ?_;rintro e w6 ⟨v6,rfl,N6,hb6⟩;rw [HY.out] at N6;obtain ⟨q2,o2,ca2,cc2,na2,nc2,rfl,KY⟩:=N6;obtain ⟨cl2,hcl2⟩:∃ cl2,(ag ts y).length=cl2:=⟨_,rfl⟩
   have HCL2:=aw hcl2;unfold cU bV;rw [hcl2];clear hcl2;have D6:=chain D5 hb6;have CW6:=hCC _ _ CW5 hb6;refine hK _ _ ⟨fun _=>CW6,?_⟩;clear hK K con CW5 CW;refine dg (rs:=[5]) (by kernel_rfl) (by simp) ?_;intro w7 hb7 jj hj;obtain rfl:jj=5:=by simpa using hj
   clear hj;refine wpOp_step rfl (fun K hK=>?_);go_simp;have D7:=chain D6 hb7;have CW7:=hCC _ _ CW6 hb7;have hal7:=aa w7 (.cells (aL y q2 o2 ca2 cl2 cc2 na2 y.ks.length nc2) 50);have q8:(w7.alloc (.cells (aL y q2 o2 ca2 cl2 cc2 na2 y.ks.length nc2) 50)).heap[w7.heap.size]? = some (.cells (bV ts y q2 o2 ca2 cc2 na2 nc2).toArray 50 (0,0)):=by
    unfold bV;rw [HCL2.out];exact ak w7 _ _
   have D8:=chain D7 hal7;have CW8:=hCC _ _ CW7 hal7;have KY8:=(KY.next (ah.of hb7)).next (ah.of hal7);have b6:=hb6.size;have b7:=hb7.size;refine hK _ _ ⟨fun _=>CW8,?_⟩;clear hK K CW7 CW6 KY;generalize w7.alloc (.cells (aL y q2 o2 ca2 cl2 cc2 na2 y.ks.length nc2) 50)=w8 at *;refine dg (rs:=[6]) (by kernel_rfl) (by simp) ?_;intro w9 hb9 jj hj;obtain rfl:jj=6:=by simpa using hj
   clear hj;have D9:=chain D8 hb9;have CW9:=hCC _ _ CW8 hb9;have KY9:=KY8.next (ah.of hb9);have q9:=(hb9.block _ (ae q8)).trans q8;have d9:=D9.size;have l8:=ae q9;obtain ⟨ys,o9,en9⟩:=OS'.out.next (Db ts) D9;have l9:=HLN.out;refine wpOp_step rfl (fun K hK=>?_);refine Eq.mpr (if_pos (by kernel_rfl)) ?_
   refine bW (some 32) rfl (Operand.tmp 27) (Operand.tmp 31) 48 rfl w4.heap.size 50 i0 _ 13 208 Tryz.underlying48 hi hj0 hj1 hj2 rfl (by decide) s _ ys rfl o9 ⟨w7.heap.size,0,none⟩ 1 1 (bV ts y q2 o2 ca2 cc2 na2 nc2) rfl rfl (py q9) tK (by unfold maxLen; omega) (by omega) (by omega) ?_;intro v' w10 o10 g10 hd10;have z10:=g10.size;have OS10:cK (Hy ts) 50 13 w4.heap.size (fun b=>b<B∨w4.heap.size≤b) w10 v' (p.ks.take j ++ [y]):=cK.push (Db ts) o9 en9 rfl ⟨q2,o2,ca2,cc2,na2,nc2,rfl,KY9.mono fun b hb hl=>⟨by
    rcases hb with h | h
    ·exact .inl h
    ·exact .inr (by have:=D5.size; omega),hl,fun e=>by
     have h3:=hnb b e;have:=D5.size;rcases hb with h | h <;> omega⟩⟩ o10 g10 hd10
   have QO10:w10.heap[w3.heap.size]? = some (.cells (DK p.k p.n p.x.k p.x.v.1 p.x.v.2.1 p.x.v.2.2 p.x.c q.xa p.x.ks.length q.xc q.sa p.xs.length q.sc q.ga p.gs.length q.gc (some ⟨b,off,none⟩) p.ks.length q.kc ca cl cc s) 50 (0,0)):=(g10.block _ (ae CW9.1) (fun e=>by have:=(hnb _ e.symm).1; omega)).trans CW9.1
   have QK10:w10.heap[wr.heap.size]? = some (.cells (dS p.ks[j] q1) 31 (0,0)):=(g10.block _ (ae CW9.2) (fun e=>by have:=(hnb _ e.symm).2; omega)).trans CW9.2
   have QZ10:w10.heap[w.heap.size+1]? = some (.cells aJ 50 (0,0)):=(g10.block _ (by have:=hb.size; omega) (fun e=>by have:=(hnb _ e.symm).1; omega)).trans ((D9.block _ (by omega)).trans QZ);have A10:Below w.heap.size w w10:=(chain hb D9).trans ((Md _ _).grown g10 (by have:=hb.size; omega) (fun q hq=>by have:=(hnb q hq).1; omega));have K10:ah (fun b=>w2.heap.size≤b∧b<w3.heap.size) w3 w10:=⟨by omega,fun b hb hl=>(g10.block b (by omega) (fun e=>by have:=(hnb b e.symm).1; omega)).trans ((D9.block b (by omega)).trans (hkw.2 b hb hl))⟩
   refine hK _ _ ⟨fun _=>⟨QO10,QK10⟩,?_⟩;clear hK K CW9 CW8 KY8 KY9 o9 en9 o10 q8 q9 g10 D8 D7 D6 hd10;simp only [pD,pB,pC]
   have CW:w10.heap[w3.heap.size]? = some (.cells (DK p.k p.n p.x.k p.x.v.1 p.x.v.2.1 p.x.v.2.2 p.x.c q.xa p.x.ks.length q.xc q.sa p.xs.length q.sc q.ga p.gs.length q.gc (some ⟨b,off,none⟩) p.ks.length q.kc ca cl cc s) 50 (0,0))∧w10.heap[wr.heap.size]? = some (.cells (dS p.ks[j] q1) 31 (0,0)):=⟨QO10,QK10⟩
   refine bN hCC (some 33) (i:=7) (v:=.pointer (some ⟨w3.heap.size,12,none⟩)) rfl rfl (by kernel_rfl) (by kernel_rfl) (by kernel_rfl) (by kernel_rfl) (by kernel_rfl) rfl (fun _ _ _ h=>h) (Or.inl ⟨rfl,fun n hn=>?_⟩) (fun _=>CW) ?_
   ·go_simp
   simp only [pD,pB,pC];clear CW;refine dg (rs:=[8]) (by kernel_rfl) (by simp) ?_;intro w11 hb11 jj hj;obtain rfl:jj=8:=by simpa using hj
   clear hj;have QO11:=(hb11.block _ (ae QO10)).trans QO10;have QZ11:=(hb11.block _ (ae QZ10)).trans QZ10;have OS11:=OS10.next (Db ts) hb11;obtain ⟨va,vc,rfl⟩:=OS11.len;generalize (p.ks.take j ++ [y]).length=vn at *;have A11:=chain A10 hb11;have K11:=K10.trans (ah.of hb11);have hc5:w11.cell? ⟨w3.heap.size,12,none⟩=some s:=cell_of (i:=12) QO11 rfl;have hf5:w11.frozen? ⟨w3.heap.size,12,none⟩=false:=Mg w11 (w3.heap.size) 12 _ _ QO11;refine wpOp_step rfl (fun K hK=>?_);go_simp
   have QO12:(w11.setCell ⟨w3.heap.size,12,none⟩ (.slice va vn vc)).heap[w3.heap.size]? = some (.cells (xw p q (some ⟨b,off,none⟩) p.ks.length q.kc ca cl cc va vn vc) 50 (0,0)):=Ml w11 (w3.heap.size) 12 _ _ (.slice va vn vc) QO11
   have QZ12:(w11.setCell ⟨w3.heap.size,12,none⟩ (.slice va vn vc)).heap[w.heap.size+1]? = some (.cells aJ 50 (0,0)):=by rw [au _ _ (by omega)]; exact QZ11
   have A12:Below w.heap.size w (w11.setCell ⟨w3.heap.size,12,none⟩ (.slice va vn vc)):=A11.setCell (p:=⟨w3.heap.size,12,none⟩) (by show w.heap.size≤w3.heap.size; omega) _;have OS12:=OS11.iF (Db ts) (fun _ h=>.inr h) ((ah.refl _ _).set (w3.heap.size) 12 (.slice va vn vc) (by omega));have K12:=K11.set (w3.heap.size) 12 (.slice va vn vc) (fun h=>by have:=h.2; omega);refine hK _ _ ⟨fun h=>absurd h (by decide),?_⟩;clear hc5 hf5 hK K;have zz:w11.heap.size=(w11.setCell ⟨w3.heap.size,12,none⟩ (.slice va vn vc)).heap.size:=by rw [MR]
   have z11:=hb11.size;generalize w11.setCell ⟨w3.heap.size,12,none⟩ (.slice va vn vc)=w12 at *;refine mM (by kernel_rfl) ?_;intro w13 hb13;have A13:=chain A12 hb13;have OS13:=OS12.next (Db ts) hb13;have QO13:=(hb13.block _ (ae QO12)).trans QO12;have QZ13:=(hb13.block _ (ae QZ12)).trans QZ12;have K13:=K12.trans (ah.of hb13);have z13:w4.heap.size≤w13.heap.size:=by have:=hb13.size; omega
   clear A12 OS12 QO12 QZ12 hb13 OS11 QO11 QZ11 A11 hb11 OS10 QO10 QZ10 QK10 A10 K10 K11 K12 zz;go_wp2
   go_roundw
   case rel=>exact ⟨j+1,by omega,by go_num,⟨_,QO13,by rw [HTK.out,HY.out]; exact OS13⟩,QZ13,A13,K13,z13⟩
   case measure=>simp [intOf]; omega
  ·have e:j=p.ks.length:=by omega
   subst e;rw [MB] at OS;obtain ⟨sa,sc,rfl,KS⟩:=OS.Lk (fun _ h=>.inr h);obtain ⟨o0,o1,o2,o3,o4,o5,o6,o7,o8,o9,o10,o11,o12⟩:=aD QO;obtain ⟨z0,z1,z2,z3,z4,z5,z6,z7,z8,z9,z10,z11,z12⟩:=aD QZ;obtain ⟨zf0,zf1,zf2,zf3,zf4,zf5,zf6,zf7,zf8,zf9,zf10,zf11,zf12⟩:=cT QZ;go_wp2_with fail
   have AP:Below w.heap.size w (pv wr (w.heap.size+1) (.int .i64 p.k) (.int .i64 p.n) (.int .i64 p.x.k) (.int .i64 p.x.v.1) (.int .i64 p.x.v.2.1) (.string p.x.v.2.2) (.int .i64 p.x.c) (.slice q.xa p.x.ks.length q.xc) (.slice q.sa p.xs.length q.sc) (.slice q.ga p.gs.length q.gc) (.slice ka p.ks.length q.kc) (.slice ca cl cc) (.slice sa p.ks.length sc)):=(bq (g:=w.heap.size+1) hb (by omega) _ _ _ _ _ _ _ _ _ _ _ _ _)
   have KP:ah (fun b=>b≠w.heap.size+1) wr (pv wr (w.heap.size+1) (.int .i64 p.k) (.int .i64 p.n) (.int .i64 p.x.k) (.int .i64 p.x.v.1) (.int .i64 p.x.v.2.1) (.string p.x.v.2.2) (.int .i64 p.x.c) (.slice q.xa p.x.ks.length q.xc) (.slice q.sa p.xs.length q.sc) (.slice q.ga p.gs.length q.gc) (.slice ka p.ks.length q.kc) (.slice ca cl cc) (.slice sa p.ks.length sc)):=(bL (g:=w.heap.size+1) (ah.refl _ wr) (fun h=>h rfl) _ _ _ _ _ _ _ _ _ _ _ _ _)
   have QE:(pv wr (w.heap.size+1) (.int .i64 p.k) (.int .i64 p.n) (.int .i64 p.x.k) (.int .i64 p.x.v.1) (.int .i64 p.x.v.2.1) (.string p.x.v.2.2) (.int .i64 p.x.c) (.slice q.xa p.x.ks.length q.xc) (.slice q.sa p.xs.length q.sc) (.slice q.ga p.gs.length q.gc) (.slice ka p.ks.length q.kc) (.slice ca cl cc) (.slice sa p.ks.length sc)).heap[w.heap.size+1]? = some (.cells (xw p q ka p.ks.length q.kc ca cl cc sa p.ks.length sc) 50 (0,0)):=(bI (g:=w.heap.size+1) QZ _ _ _ _ _ _ _ _ _ _ _ _ _)
   clear o0 o1 o2 o3 o4 o5 o6 o7 o8 o9 o10 o11 o12 z0 zf0 z1 zf1 z2 zf2 z3 zf3 z4 zf4 z5 zf5 z6 zf6 z7 zf7 z8 zf8 z9 zf9 z10 zf10 z11 zf11 z12 zf12;unfold pv at AP KP QE
   generalize (((((((((((((wr.setCell ⟨w.heap.size+1,0,none⟩ (.int .i64 p.k)).setCell ⟨w.heap.size+1,1,none⟩ (.int .i64 p.n)).setCell ⟨w.heap.size+1,2,none⟩ (.int .i64 p.x.k)).setCell ⟨w.heap.size+1,3,none⟩ (.int .i64 p.x.v.1)).setCell ⟨w.heap.size+1,4,none⟩ (.int .i64 p.x.v.2.1)).setCell ⟨w.heap.size+1,5,none⟩ (.string p.x.v.2.2)).setCell ⟨w.heap.size+1,6,none⟩ (.int .i64 p.x.c)).setCell ⟨w.heap.size+1,7,none⟩ (.slice q.xa p.x.ks.length q.xc)).setCell ⟨w.heap.size+1,8,none⟩ (.slice q.sa p.xs.length q.sc)).setCell ⟨w.heap.size+1,9,none⟩ (.slice q.ga p.gs.length q.gc)).setCell ⟨w.heap.size+1,10,none⟩ (.slice ka p.ks.length q.kc)).setCell ⟨w.heap.size+1,11,none⟩ (.slice ca cl cc)).setCell ⟨w.heap.size+1,12,none⟩ (.slice sa p.ks.length sc))=w8 at *
   have FIN:aY ts (fun b=>b<B∨w.heap.size≤b) w8 (.agg (xw p q ka p.ks.length q.kc ca cl cc sa p.ks.length sc)) p:=by
    have KB:ah (fun b=>b<B) w w8:=⟨AP.size,fun b hb hl=>AP.block b hl⟩
    have IC3:Fc (fun b=>w2.heap.size≤b∧b<w3.heap.size) w3 ca (ag ts p):=by
     obtain ⟨h0,h | ⟨b,off,e,hl,hn,h⟩⟩:=HIC.out
     ·exact ⟨h0,.inl h⟩
     ·exact ⟨h0,.inr ⟨b,off,e,⟨by omega,hl⟩,hl,h⟩⟩
    have ICF:=(IC3.next (hkw.trans (KP.mono fun b h=>by omega))).mono (S':=fun b=>b<B∨w.heap.size≤b) fun b h _=>.inr (by omega)
    refine ⟨q,p.ks.length,ca,cc,sa,sc,by unfold cU bV; rw [HCL.out,HKA.out],⟨?_,?_,?_,ICF,?_⟩⟩
    ·exact ((HP.out.x.s hBw).next KB).mono fun b h _=>.inl h
    ·exact ((HP.out.xs.s hBw).next KB).mono fun b h _=>.inl h
    ·exact ((HP.out.gs.s hBw).next KB).mono fun b h _=>.inl h
    ·exact (KS.next (KP.mono fun b h=>by rcases h with h | h <;> omega)).mono fun b h _=>by
      rcases h with h | h
      ·exact .inl h
      ·exact .inr (by omega)
   obtain ⟨r0,r1,r2,r3,r4,r5,r6,r7,r8,r9,r10,r11,r12⟩:=aD QE;exact Me (v:=.agg (xw p q ka p.ks.length q.kc ca cl cc sa p.ks.length sc)) (by simp [results,Tryz.results12,go_sem,r0,r1,r2,r3,r4,r5,r6,r7,r8,r9,r10,r11,r12]) rfl ⟨_,rfl,FIN,AP⟩
theorem zM (ts:List (List Int)):∀ p,Hz ts p:=Pl.ind fun k n y xs gs ks ih=>uN ts (.mk k n y xs gs ks) ih
theorem C3 {B g:Nat} {W0 W:World} (h:Below B W0 W) (hg:B≤g) (v1 v2 v3 v4 v5 v6:Value):Below B W0 ((((((W.setCell ⟨g,1,none⟩ (v1)).setCell ⟨g,2,none⟩ (v2)).setCell ⟨g,3,none⟩ (v3)).setCell ⟨g,4,none⟩ (v4)).setCell ⟨g,5,none⟩ (v5)).setCell ⟨g,6,none⟩ (v6)) :=
 (((((h.setCell (p:=⟨g,1,none⟩) hg v1).setCell (p:=⟨g,2,none⟩) hg v2).setCell (p:=⟨g,3,none⟩) hg v3).setCell (p:=⟨g,4,none⟩) hg v4).setCell (p:=⟨g,5,none⟩) hg v5).setCell (p:=⟨g,6,none⟩) hg v6
theorem so {S:Nat→Prop} {g:Nat} {W0 W:World} (h:ah S W0 W) (hg:¬ S g) (v1 v2 v3 v4 v5 v6:Value):ah S W0 ((((((W.setCell ⟨g,1,none⟩ (v1)).setCell ⟨g,2,none⟩ (v2)).setCell ⟨g,3,none⟩ (v3)).setCell ⟨g,4,none⟩ (v4)).setCell ⟨g,5,none⟩ (v5)).setCell ⟨g,6,none⟩ (v6)) :=
 (((((h.set g 1 v1 hg).set g 2 v2 hg).set g 3 v3 hg).set g 4 v4 hg).set g 5 v5 hg).set g 6 v6 hg
theorem Gt {g:Nat} {T:TypeId} {W:World} {c0 c1 c2 c3 c4 c5 c6:Value} (h:W.heap[g]? = some (.cells #[c0,c1,c2,c3,c4,c5,c6] T (0,0))) (v1 v2 v3 v4 v5 v6:Value):((((((W.setCell ⟨g,1,none⟩ (v1)).setCell ⟨g,2,none⟩ (v2)).setCell ⟨g,3,none⟩ (v3)).setCell ⟨g,4,none⟩ (v4)).setCell ⟨g,5,none⟩ (v5)).setCell ⟨g,6,none⟩ (v6)).heap[g]? = some (.cells #[c0,v1,v2,v3,v4,v5,v6] T (0,0)):=by
 have h1:=Ml _ g 1 _ _ v1 h;have h2:=Ml _ g 2 _ _ v2 h1;have h3:=Ml _ g 3 _ _ v3 h2;have h4:=Ml _ g 4 _ _ v4 h3;have h5:=Ml _ g 5 _ _ v5 h4;exact Ml _ g 6 _ _ v6 h5
theorem Iu {g:Ag} {a:Option Addr} {c:Nat}:∀ u ∈ Jt g a c,u.oneCell'=true:=by
 intro u hu;simp only [Jt,Mu,Np,or_false] at hu;rcases hu with rfl | rfl | rfl | rfl | rfl | rfl | rfl <;> rfl
theorem cK.cG {α:Type} {En:(Nat→Prop)→World→α→List Value→Prop} (ok:tP En) {e size base:Nat} {S:Nat→Prop} {W W1:World} {v:Value} {l:List α} (h:cK En e size base S W v l) (hk:ah (fun b=>b<W.heap.size) W W1):cK En e size base S W1 v l:=by
 obtain ⟨xs,h1,h2⟩:=h;refine ⟨xs,?_,fun i hi=>?_⟩
 ·obtain ⟨h0,⟨h1,h2⟩ | ⟨k,cap,cur,h1,h2,h3,h4⟩⟩:=h1
  ·exact ⟨h0,.inl ⟨h1,h2⟩⟩
  ·exact ⟨h0,.inr ⟨k,cap,cur,h1,h2,(hk.2 k (ae h3) (ae h3)).trans h3,h4⟩⟩
 ·obtain ⟨cs,c1,c2,c3⟩:=h2 i hi;exact ⟨cs,c1,c2,ok.mono (fun b hb' _=>⟨hb'.1,Mh hb'.2.1 hk.1,hb'.2.2⟩) (ok.next (hk.mono fun b h=>h.2.1) c3)⟩
def AV:Ex:=.mk 0 eD 0 []
def mB (g:Ag):Ag:=(g.1,if g.1=1 then AV else lW (fun c=>c) g.2)
theorem Ky:(Tryz.prog.info? 67).map (fun i=>(i.zero,i.size,i.bytes))=some (some (.agg #[.int .i64 0,.int .i64 0,.int .i64 0,.int .i64 0,.string ⟨#[]⟩,.int .i64 0,.slice none 0 0]),7,80):=by kernel_rfl
theorem FJ {gs:List Ag} {j:Nat} (h:j<gs.length):(gs.take (j+1)).map mB=(gs.take j).map mB ++ [mB gs[j]]:=by
 rw [Mp h,M7];rfl
theorem rM (P:Int→Prop) (gs:List Ag) (a:Option Addr) (cap:Nat) (w:World) (hx:ie w.heap.size w a gs) (hw:∀ g ∈ gs,g.1≠1→fF P g.2) (hl:gs.length≤100000) :
 Calls Tryz.prog 26 #[.slice a gs.length cap] w fun e w'=>∃ a' c',e = .returned (.slice a' gs.length c')∧tv (fun b=>w.heap.size≤b) w' a' (gs.map mB)∧Below w.heap.size w w':=by
 obtain ⟨i0,hi,hj0,hj1,hj2⟩:=info_parts Ky;have HW:=aw hw;have HX:=aw hx;clear hw hx;go_enter Tryz.func26,Tryz.ntmps26;go_wp2_with fail
 go_loopw [3,9] (fun s i wr=>∃ j:Nat,j≤gs.length∧i = .int .i64 j∧cK KM 67 7 w.heap.size (fun b=>w.heap.size≤b) wr s ((gs.take j).map mB)∧Below w.heap.size w wr) (fun _ i _=>gs.length - (intOf i).toNat)
 case atStart=>exact ⟨0,Mj _,rfl,by rw [List.take_zero]; exact cK.nil _ _ _ _ _ _,Md _ _⟩
 case round =>
  obtain ⟨j,hj,rfl,OS,hb⟩:=hrel;by_cases hlt:j<gs.length
  ·obtain ⟨b,off,ai,ci,rfl,hbl,x0,sx,kx⟩:=(ie.next hb (Mc _) HX.out).elem hlt;obtain ⟨x1,x2,x3,x4,x5,x6⟩:=sx;simp only [NF,Nat.reduceAdd] at x2 x3 x4 x5 x6;simp only [← NF] at x2 x3 x4 x5 x6;have hjz:(j:Int)<(gs.length:Int):=by omega
   have hal:=aa wr (.cells (mC gs[j].1 gs[j].2.k gs[j].2.v.1 gs[j].2.v.2.1 gs[j].2.v.2.2 gs[j].2.c ai gs[j].2.ks.length ci) 67);have qk:=ak wr (mC gs[j].1 gs[j].2.k gs[j].2.v.1 gs[j].2.v.2.1 gs[j].2.v.2.2 gs[j].2.c ai gs[j].2.ks.length ci) 67;have hz:=hb.size;have kx:=(aX.next hal hz kx).up (Mr hz hal.size);have hba:=chain hb hal
   have HOS:=aw OS;have hwj:=HW.out gs[j] (Mk hlt);have HWJ:=aw hwj;have HT:Hid ((gs.take (j+1)).map mB=(gs.take j).map mB ++ [mB gs[j]]):=FJ hlt;have hln:((gs.take j).map mB).length=j:=by rw [MA,MH]; omega
   have HLN:=aw hln;have hnb:=OS.lt;clear hln hwj OS;go_upto_region 5 with fail
   clear x0 x1 x2 x3 x4 x5 x6;generalize wr.alloc (.cells (mC gs[j].1 gs[j].2.k gs[j].2.v.1 gs[j].2.v.2.1 gs[j].2.v.2.2 gs[j].2.c ai gs[j].2.ks.length ci) 67)=wa at *;obtain ⟨k0,k1,k2,k3,k4,k5,k6⟩:=pN qk;have alb:=aa wa (.cells (Km gs[j].1) 67);have qb:=ak wa (Km gs[j].1) 67
   go_upto_region 6 with fail
   clear k0 k1 k2 k3 k4 k5 k6;have qkb:=(alb.block _ (ae qk)).trans qk;have hbb:=chain hba alb;have D4:=chain hal alb;have kxb:=(aX.next alb (Mc _) kx).up alb.size;have lk:=ae qk;generalize wa.alloc (.cells (Km gs[j].1) 67)=w4 at *;have l4:=ae qb;have z4:=alb.size;have za:=hal.size;clear alb hal hba kx qk;obtain ⟨k0,k1,k2,k3,k4,k5,k6⟩:=pN qkb;obtain ⟨b0,b1,b2,b3,b4,b5,b6⟩:=pN qb;obtain ⟨bf0,bf1,bf2,bf3,bf4,bf5,bf6⟩:=Js qb;obtain ⟨h,hcg⟩:∃ h,mB gs[j]=h:=⟨_,rfl⟩
   have HCG:=aw hcg;clear hcg;obtain ⟨m4,hm4⟩:∃ m4,w4.heap.size=m4:=⟨_,rfl⟩
   have lm:wa.heap.size<m4∧wr.heap.size<m4∧w.heap.size<m4:=by omega
   by_cases g1:gs[j].1=1
   all_goals first
    |(have gb:(gs[j].1 != 1)=false:=by simpa using g1
      have eh:h=(gs[j].1,AV):=by rw [← HCG.out,mB,if_pos g1]
      clear g1;go_upto_region 8 with fail
      obtain ⟨ha,hc,Q8,K8⟩:∃ ha hc,w4.heap[wa.heap.size]? = some (.cells (Jt h ha hc).toArray 67 (0,0))∧gA (fun b=>m4≤b) w4 ha h.2.ks:=⟨none,0,by rw [eh]; exact qb,by rw [eh]; exact .nil _⟩
      have O8:=HOS.out.next Jr D4;have A8:=hbb;have z8:m4≤w4.heap.size:=by omega
      clear k0 k1 k2 k3 k4 k5 k6 b0 bf0 b1 bf1 b2 bf2 b3 bf3 b4 bf4 b5 bf5 b6 bf6 hbb qb qkb kxb eh gb hm4 l4 z4 D4;generalize w4=w8 at *)
    |(have gb:(gs[j].1 != 1)=true:=by simpa using g1
      have con:=lD (fun c=>c) P gs[j].2 (.func (.func 24) #[] #[]) ai ci w4 (tR P _) (HWJ.out g1) kxb;obtain ⟨y,hy⟩:∃ y,lW (fun c=>c) gs[j].2=y:=⟨_,rfl⟩
      rw [hy] at con;have eh:h=(gs[j].1,y):=by rw [← HCG.out,mB,if_neg g1,hy]
      clear g1 hy;go_wp2_with fail
      refine con.mono ?_;rintro e w5 ⟨ya,yc,rfl,KY,hb5⟩;clear con k0 k1 k2 k3 k4 k5 k6 b0 bf0 b1 bf1 b2 bf2 b3 bf3 b4 bf4 b5 bf5 b6 bf6;have qb5:=(hb5.block _ (ae qb)).trans qb;have hb5':=chain hbb hb5;have D5:=chain D4 hb5;have z5:=hb5.size;obtain ⟨b0,b1,b2,b3,b4,b5,b6⟩:=pN qb5;obtain ⟨bf0,bf1,bf2,bf3,bf4,bf5,bf6⟩:=Js qb5
      have Q8:((((((w5.setCell ⟨wa.heap.size,1,none⟩ (.int .i64 y.k)).setCell ⟨wa.heap.size,2,none⟩ (.int .i64 y.v.1)).setCell ⟨wa.heap.size,3,none⟩ (.int .i64 y.v.2.1)).setCell ⟨wa.heap.size,4,none⟩ (.string y.v.2.2)).setCell ⟨wa.heap.size,5,none⟩ (.int .i64 y.c)).setCell ⟨wa.heap.size,6,none⟩ (.slice ya y.ks.length yc)).heap[wa.heap.size]? = some (.cells (Jt h ya yc).toArray 67 (0,0)):=by rw [eh]; exact Gt qb5 (.int .i64 y.k) (.int .i64 y.v.1) (.int .i64 y.v.2.1) (.string y.v.2.2) (.int .i64 y.c) (.slice ya y.ks.length yc)
      have A8:Below w.heap.size w ((((((w5.setCell ⟨wa.heap.size,1,none⟩ (.int .i64 y.k)).setCell ⟨wa.heap.size,2,none⟩ (.int .i64 y.v.1)).setCell ⟨wa.heap.size,3,none⟩ (.int .i64 y.v.2.1)).setCell ⟨wa.heap.size,4,none⟩ (.string y.v.2.2)).setCell ⟨wa.heap.size,5,none⟩ (.int .i64 y.c)).setCell ⟨wa.heap.size,6,none⟩ (.slice ya y.ks.length yc)):=C3 hb5' (by omega) _ _ _ _ _ _
      have z8:m4≤((((((w5.setCell ⟨wa.heap.size,1,none⟩ (.int .i64 y.k)).setCell ⟨wa.heap.size,2,none⟩ (.int .i64 y.v.1)).setCell ⟨wa.heap.size,3,none⟩ (.int .i64 y.v.2.1)).setCell ⟨wa.heap.size,4,none⟩ (.string y.v.2.2)).setCell ⟨wa.heap.size,5,none⟩ (.int .i64 y.c)).setCell ⟨wa.heap.size,6,none⟩ (.slice ya y.ks.length yc)).heap.size:=by simp only [MR]; omega
      have K8:gA (fun b=>m4≤b) ((((((w5.setCell ⟨wa.heap.size,1,none⟩ (.int .i64 y.k)).setCell ⟨wa.heap.size,2,none⟩ (.int .i64 y.v.1)).setCell ⟨wa.heap.size,3,none⟩ (.int .i64 y.v.2.1)).setCell ⟨wa.heap.size,4,none⟩ (.string y.v.2.2)).setCell ⟨wa.heap.size,5,none⟩ (.int .i64 y.c)).setCell ⟨wa.heap.size,6,none⟩ (.slice ya y.ks.length yc)) ya h.2.ks:=by
       rw [eh];have:=KY.next (so (g:=wa.heap.size) (ah.refl _ _) (by omega) (.int .i64 y.k) (.int .i64 y.v.1) (.int .i64 y.v.2.1) (.string y.v.2.2) (.int .i64 y.c) (.slice ya y.ks.length yc));rw [hm4] at this;exact this
      have O8:cK KM 67 7 w.heap.size (fun b=>w.heap.size≤b) ((((((w5.setCell ⟨wa.heap.size,1,none⟩ (.int .i64 y.k)).setCell ⟨wa.heap.size,2,none⟩ (.int .i64 y.v.1)).setCell ⟨wa.heap.size,3,none⟩ (.int .i64 y.v.2.1)).setCell ⟨wa.heap.size,4,none⟩ (.string y.v.2.2)).setCell ⟨wa.heap.size,5,none⟩ (.int .i64 y.c)).setCell ⟨wa.heap.size,6,none⟩ (.slice ya y.ks.length yc)) u3 ((gs.take j).map mB):=HOS.out.cG Jr (so (ah.of D5) (by omega) (.int .i64 y.k) (.int .i64 y.v.1) (.int .i64 y.v.2.1) (.string y.v.2.2) (.int .i64 y.c) (.slice ya y.ks.length yc))
      go_upto_region 8 with fail
      clear b0 bf0 b1 bf1 b2 bf2 b3 bf3 b4 bf4 b5 bf5 b6 bf6 D5 D4 hb5' qb5 KY hb5 hbb qb qkb kxb eh gb hm4 l4 z4;generalize ((((((w5.setCell ⟨wa.heap.size,1,none⟩ (.int .i64 y.k)).setCell ⟨wa.heap.size,2,none⟩ (.int .i64 y.v.1)).setCell ⟨wa.heap.size,3,none⟩ (.int .i64 y.v.2.1)).setCell ⟨wa.heap.size,4,none⟩ (.string y.v.2.2)).setCell ⟨wa.heap.size,5,none⟩ (.int .i64 y.c)).setCell ⟨wa.heap.size,6,none⟩ (.slice ya y.ks.length yc))=w8 at *;generalize ya=ha at *;generalize yc=hc at *)
   all_goals (
    unfold Jt at Q8;obtain ⟨b0,b1,b2,b3,b4,b5,b6⟩:=pN Q8;have al9:=aa w8 (.cells (mC h.1 h.2.k h.2.v.1 h.2.v.2.1 h.2.v.2.2 h.2.c ha h.2.ks.length hc) 67);have q9:(w8.alloc (.cells (mC h.1 h.2.k h.2.v.1 h.2.v.2.1 h.2.v.2.2 h.2.c ha h.2.ks.length hc) 67)).heap[w8.heap.size]? = some (.cells (Jt h ha hc).toArray 67 (0,0)):=ak w8 _ _;have K9:=K8.next (ah.of al9)
    obtain ⟨ys,o9,en9⟩:=O8.next Jr al9;have z9:=al9.size;have l9:=HLN.out;have hws:w.heap.size≤(w8.alloc (.cells (mC h.1 h.2.k h.2.v.1 h.2.v.2.1 h.2.v.2.2 h.2.c ha h.2.ks.length hc) 67)).heap.size:=by omega
    go_wp2_with (at_builtin; refine jJ rfl _ _ 28 rfl w.heap.size 67 i0 _ 7 80 Tryz.underlying28 hi hj0 hj1 hj2 rfl (by decide) u3 _ ys rfl o9 ⟨w8.heap.size,0,none⟩ 1 1 (Jt h ha hc) rfl rfl (py q9) Iu (by unfold maxLen; omega) (by omega) hws ?_)
    intro v' w7 o7 g7 hd7;have OS7:cK KM 67 7 w.heap.size (fun b=>w.heap.size≤b) w7 v' ((gs.take j).map mB ++ [h]):=cK.push Jr o9 en9 rfl ⟨ha,hc,rfl,K9.mono fun b hb hl=>⟨by omega,hl,fun e=>by have:=(hnb b e).2; omega⟩⟩ (by rw [HLN.out]; exact o7) g7 (by simpa only [Mf] using hd7);have A7:Below w.heap.size w w7:=(chain A8 al9).trans ((Md _ _).grown g7 (by omega) (fun q hq=>(hnb q hq).1));clear o9 en9 o7 g7 hd7 K9 K8 q9 al9 O8 A8 b0 b1 b2 b3 b4 b5 b6;go_wp2_with fail
    go_roundw
    case rel=>exact ⟨j+1,by omega,by go_num,by rw [HT.out,HCG.out]; exact OS7,A7⟩
    case measure=>simp [intOf]; omega)
  ·have e:j=gs.length:=by omega
   subst e;rw [MB] at OS;obtain ⟨sa,sc,rfl,KS⟩:=OS.LV (fun _ h=>h);have HLE:Hid ((gs.map mB).length=gs.length):=by show _=_; rw [MA]
   clear OS;go_wp2_with fail
   go_ret;exact ⟨sa,sc,by simp [HLE.out],KS,hb⟩
end Go.Proofs.YtjebpkhkjkjphaaGreat
namespace Go.Proofs.YtjebpkhkjkjphaaGreat
open Go.RowKit
set_option maxRecDepth 100000
set_option maxHeartbeats 16000000
mutual
def bY (f:Int→Bool):Ex→Bool
 | .mk k _ c ks=>if k=2 then f c else eK f ks
def eK (f:Int→Bool):List Ex→Bool
 | []=>true
 | x :: r=>bY f x && eK f r
end
def jw (n:Int) (x:Ex):Ex:=lW (fun c=>c - n) x
theorem iE {f:Int→Bool}:∀ {l:List Ex},eK f l=true→∀ x ∈ l,bY f x=true
 | [],_,_,hx=>by cases hx
 | y :: r,h,x,hx=>by
  rw [eK,MZ] at h
  rcases List.mem_cons.1 hx with rfl | hx
  ·exact h.1
  ·exact iE h.2 x hx
theorem su {f g:Int→Bool} (h:∀ c,f c=true→g c=true):∀ x:Ex,bY f x=true→bY g x=true :=
 Ex.ind fun k v c ks ih hf=>by
  rw [bY] at hf ⊢
  by_cases h2:k=2
  ·rw [if_pos h2] at hf ⊢; exact h c hf
  ·rw [if_neg h2] at hf ⊢
   have key:∀ l:List Ex,(∀ x ∈ l,x ∈ ks)→eK f l=true→eK g l=true:=by
    intro l
    induction l with
    | nil=>intro _ _; rfl
    | cons x r ihl =>
     intro hm hl;rw [eK,MZ] at hl ⊢;exact ⟨ih x (hm x (by simp)) hl.1,ihl (fun y hy=>hm y (by simp [hy])) hl.2⟩
   exact key ks (fun _ h=>h) hf
theorem CJ {f g:Int→Bool}:∀ x:Ex,bY f x=true→bY g x=true→bY (fun c=>f c && g c) x=true :=
 Ex.ind fun k v c ks ih hf hg=>by
  rw [bY] at hf hg ⊢
  by_cases h2:k=2
  ·rw [if_pos h2] at hf hg ⊢; simp [hf,hg]
  ·rw [if_neg h2] at hf hg ⊢
   have key:∀ l:List Ex,(∀ x ∈ l,x ∈ ks)→eK f l=true→eK g l=true→eK (fun c=>f c && g c) l=true:=by
    intro l
    induction l with
    | nil=>intro _ _ _; rfl
    | cons x r ihl =>
     intro hm hl hl';rw [eK,MZ] at hl hl' ⊢;exact ⟨ih x (hm x (by simp)) hl.1 hl'.1,ihl (fun y hy=>hm y (by simp [hy])) hl.2 hl'.2⟩
   exact key ks (fun _ h=>h) hf hg
theorem qw {f:Int→Bool}:∀ {l:List Ex},(∀ x ∈ l,bY f x=true)→eK f l=true
 | [],_=>rfl
 | y :: r,h=>by rw [eK,h y (by simp),qw fun x hx=>h x (by simp [hx])]; rfl
theorem Is {f g:Int→Bool} {m:Int→Int} (h:∀ c,f c=true→g (m c)=true):∀ x:Ex,bY f x=true→bY g (lW m x)=true :=
 Ex.ind fun k v c ks ih hx=>by
  rw [lW,bY]
  rw [bY] at hx
  by_cases h2:k=2
  ·rw [if_pos h2] at hx; rw [if_pos h2,if_pos h2]; exact h c hx
  ·rw [if_neg h2] at hx
   rw [if_neg h2,fB]
   refine qw fun y hy=>?_
   obtain ⟨z,hz,rfl⟩:=List.mem_map.1 hy
   exact ih z hz (iE hx z hz)
theorem Ge {n:Int} (x:Ex) (h:bY (fun c=>decide (n≤c)) x=true):bY (fun c=>decide (0≤c)) (jw n x)=true :=
 Is (fun c h=>by have:=of_decide_eq_true h; exact decide_eq_true (by omega)) x h
mutual
def fD (ts:List (List Int)):Pl→Prop
 | .mk k n _ _ _ ks=>(1≤k∧k≤13)∧ks.length=dD k∧(k=1→0≤n∧n<(ts.length:Int))∧(k=8∨k=9→((aQ ts ks).getD 0 []).length=((aQ ts ks).getD 1 []).length)∧(k=13→0≤n)∧GK ts ks
def GK (ts:List (List Int)):List Pl→Prop
 | []=>True
 | p :: r=>fD ts p∧GK ts r
end
theorem kJ {ts:List (List Int)}:∀ {l:List Pl},GK ts l↔∀ p ∈ l,fD ts p
 | []=>by simp [GK]
 | p :: r=>by rw [GK,kJ (l:=r)]; simp
theorem bM {ts:List (List Int)} {k n:Int} {x:Ex} {xs:List Ex} {gs:List Ag} {ks:List Pl} (h:fD ts (.mk k n x xs gs ks)) :
  (1≤k∧k≤13)∧(∀ r ∈ ks,fD ts r)∧((k=1∧ks = []∧0≤n∧n<(ts.length:Int))∨((4≤k∧k≤9)∧∃ p q,ks = [p,q]∧(k=8∨k=9→(ag ts p).length=(ag ts q).length))∨((k=2∨k=3∨10≤k)∧(k=13→0≤n)∧∃ p,ks = [p])):=by
 rw [fD] at h;obtain ⟨hk,hln,h1,h2,h3,h4⟩:=h;refine ⟨hk,kJ.1 h4,?_⟩;unfold dD at hln;by_cases e1:k=1
 ·rw [if_pos e1] at hln;exact .inl ⟨e1,Mo hln,h1 e1⟩
 rw [if_neg e1] at hln;by_cases e2:4≤k∧k≤9
 ·rw [if_pos e2] at hln
  match ks,hln,h2 with
  | [p,q],_,h2=>exact .inr (.inl ⟨e2,p,q,rfl,fun e=>by simpa [aQ] using h2 e⟩)
 ·rw [if_neg e2] at hln
  match ks,hln with
  | [p],_=>exact .inr (.inr ⟨by omega,h3,p,rfl⟩)
theorem kY {ts:List (List Int)}:∀ (p:Pl) (m d:Int),(aV ts p m d).1=0→fD ts p :=
 Pl.ind fun k n x xs gs ks ih m d hl=>by
  obtain ⟨h1,h2,h3,_⟩:=dR hl
  obtain ⟨hln,hk1,hk2,_,_⟩:=fJ h1
  rw [fD]
  refine ⟨⟨hk1,hk2⟩,hln,fun e=>?_,fun e=>?_,fun e=>?_,kJ.2 fun r hr=>?_⟩
  ·unfold dD at hln
   rw [if_pos e] at hln
   have hks:ks = []:=Mo hln
   subst hks
   simp only [aQ,eI] at h3
   by_cases c:n<0∨(ts.length:Int)≤n
   ·rw [if_pos c] at h3; cases h3
   ·omega
  ·unfold dD at hln
   rw [if_neg (by omega),if_pos (by omega)] at hln
   match ks,hln,h3 with
   | [p,q],_,h3 =>
    simp only [aQ,eI,pk] at h3
    rw [if_pos e] at h3
    unfold rL at h3
    by_cases c:(ag ts p).length=(ag ts q).length
    ·simpa [aQ] using c
    ·rw [if_pos c] at h3; cases h3
  ·unfold dD at hln
   rw [if_neg (by omega),if_neg (by omega)] at hln
   match ks,hln,h3 with
   | [p],_,h3 =>
    simp only [aQ,eI,fZ] at h3
    rw [if_neg (by omega),if_neg (by omega),if_neg (by omega),if_pos e] at h3
    unfold kX at h3
    by_cases c:bU (ag ts p) xs=0
    ·rw [if_neg (by simpa using c)] at h3
     by_cases c':n<0∨50<n
     ·rw [if_pos c'] at h3; cases h3
     ·omega
    ·rw [if_pos c] at h3; exact absurd h3 c
  ·obtain ⟨m',hm'⟩:=fL h2 r hr
   exact ih r hr m' (d+1) hm'
theorem bJ {ts:List (List Int)} {k n:Int} {x:Ex} {xs:List Ex} {gs:List Ag} {p:Pl}:ag ts (.mk k n x xs gs [p])=jY k xs gs (ag ts p):=by rw [ag,aQ,aQ]; rfl
theorem cO {ts:List (List Int)} {k n:Int} {x:Ex} {xs:List Ex} {gs:List Ag} {p q:Pl}:ag ts (.mk k n x xs gs [p,q])=nX k (ag ts p) (ag ts q):=by rw [ag,aQ,aQ,aQ]; rfl
def eY (x:Ex):Bool:=x.k == 1 && (x.v.1 == 2 && x.v.2.1 == 1)
def iY (x:Ex) (p:Pl):Pl:=.mk 2 0 x [] [] [p]
def pT (ts:List (List Int)) (ks:List Pl):List Int:=(aQ ts ks).headD []
mutual
def aT (ok:List Int→Ex→Bool) (ts:List (List Int)):Pl→Ex→Pl
 | .mk k n y xs gs ks,x =>
  if eY x=true then .mk k n y xs gs ks
  else if k=2 then (if ok (pT ts ks) (tV 4 y x)=true then .mk k n (tV 4 y x) xs gs ks else iY x (.mk k n y xs gs ks))
  else if k=8∨k=9∨k=10∨k=11 then .mk k n y xs gs (eX ok ts ks x)
  else if k=5∨k=6 then .mk k n y xs gs (fc ok ts ks x)
  else if k=4 then
   (if bY (fun c=>decide (c<((pT ts ks).length:Int))) x=true then .mk k n y xs gs (fc ok ts ks x)
   else if bY (fun c=>decide (((pT ts ks).length:Int)≤c)) x=true then .mk k n y xs gs (kQ ok ts ks (jw (pT ts ks).length x))
   else if ok (kC ts k n xs gs (aQ ts ks)) (tV 4 y x)=true then .mk k n (tV 4 y x) xs gs ks
   else iY x (.mk k n y xs gs ks))
  else iY x (.mk k n y xs gs ks)
def eX (ok:List Int→Ex→Bool) (ts:List (List Int)):List Pl→Ex→List Pl
 | [],_=>[]
 | p :: r,x=>aT ok ts p x :: eX ok ts r x
def fc (ok:List Int→Ex→Bool) (ts:List (List Int)):List Pl→Ex→List Pl
 | [],_=>[]
 | p :: r,x=>aT ok ts p x :: r
def kQ (ok:List Int→Ex→Bool) (ts:List (List Int)):List Pl→Ex→List Pl
 | [],_=>[]
 | p :: r,x=>p :: fc ok ts r x
end
theorem mz {ts:List (List Int)} (x:Ex) (p:Pl):ag ts (iY x p)=ag ts p:=by
 unfold iY;rw [bJ];rfl
theorem mi {ts:List (List Int)} {p:Pl} {r:List Pl}:pT ts (p :: r)=ag ts p:=by unfold pT; rw [aQ]; rfl
theorem eS (ok:List Int→Ex→Bool) {ts:List (List Int)}:∀ (p:Pl) (x:Ex),fD ts p→ag ts (aT ok ts p x)=ag ts p :=
 Pl.ind fun k n y xs gs ks ih x hs=>by
  obtain ⟨_,hks,hsh⟩:=bM hs
  rw [aT]
  by_cases ht:eY x=true
  ·rw [if_pos ht]
  rw [if_neg ht]
  by_cases k2:k=2
  ·rw [if_pos k2]
   obtain ⟨e,_⟩ | ⟨e,_⟩ | ⟨_,_,p,rfl⟩:=hsh
   ·omega
   ·omega
   split
   ·rw [bJ,bJ]
   ·exact mz _ _
  rw [if_neg k2]
  by_cases k8:k=8∨k=9∨k=10∨k=11
  ·rw [if_pos k8]
   obtain ⟨e,_⟩ | ⟨_,p,q,rfl,_⟩ | ⟨_,_,p,rfl⟩:=hsh
   ·omega
   ·rw [eX,eX,eX,cO,cO,ih p (by simp) x (hks p (by simp)),ih q (by simp) x (hks q (by simp))]
   ·rw [eX,eX,bJ,bJ,ih p (by simp) x (hks p (by simp))]
  rw [if_neg k8]
  by_cases k5:k=5∨k=6
  ·rw [if_pos k5]
   obtain ⟨e,_⟩ | ⟨_,p,q,rfl,_⟩ | ⟨e,_⟩:=hsh
   ·omega
   ·rw [fc,cO,cO,ih p (by simp) x (hks p (by simp))]
   ·omega
  rw [if_neg k5]
  by_cases k4:k=4
  ·rw [if_pos k4]
   obtain ⟨e,_⟩ | ⟨_,p,q,rfl,_⟩ | ⟨e,_⟩:=hsh
   ·omega
   ·split
    ·rw [fc,cO,cO,ih p (by simp) x (hks p (by simp))]
    split
    ·rw [kQ,fc,cO,cO,ih q (by simp) _ (hks q (by simp))]
    split
    ·rw [cO,cO]
    ·exact mz _ _
   ·omega
  rw [if_neg k4]
  exact mz _ _
theorem ow {ts:List (List Int)} {x:Ex} {p:Pl} (h:fD ts p):fD ts (iY x p):=by
 unfold iY;rw [fD];exact ⟨by omega,by simp [dD],fun e=>by omega,fun e=>by omega,fun e=>by omega,kJ.2 fun r hr=>by rw [List.mem_singleton.1 hr]; exact h⟩
theorem gW {ts:List (List Int)} {k n:Int} {y y':Ex} {xs xs':List Ex} {gs gs':List Ag} {ks ks':List Pl} (h:fD ts (.mk k n y xs gs ks)) (hl:ks'.length=ks.length) (hc:aQ ts ks'=aQ ts ks) (hs:∀ r ∈ ks',fD ts r):fD ts (.mk k n y' xs' gs' ks'):=by
 rw [fD] at h ⊢;obtain ⟨h1,h2,h3,h4,h5,_⟩:=h;exact ⟨h1,by rw [hl]; exact h2,h3,by rw [hc]; exact h4,h5,kJ.2 hs⟩
theorem vy (ok:List Int→Ex→Bool) {ts:List (List Int)}:∀ (p:Pl) (x:Ex),fD ts p→fD ts (aT ok ts p x) :=
 Pl.ind fun k n y xs gs ks ih x hs=>by
  obtain ⟨_,hks,hsh⟩:=bM hs
  rw [aT]
  by_cases ht:eY x=true
  ·rw [if_pos ht]; exact hs
  rw [if_neg ht]
  by_cases k2:k=2
  ·rw [if_pos k2]
   split
   ·exact gW hs rfl rfl hks
   ·exact ow hs
  rw [if_neg k2]
  by_cases k8:k=8∨k=9∨k=10∨k=11
  ·rw [if_pos k8]
   obtain ⟨e,_⟩ | ⟨_,p,q,rfl,_⟩ | ⟨_,_,p,rfl⟩:=hsh
   ·omega
   ·rw [eX,eX,eX]
    refine gW hs rfl (by simp only [aQ,eS ok p x (hks p (by simp)),eS ok q x (hks q (by simp))]) fun r hr=>?_
    simp only [Mu,Np,or_false] at hr
    rcases hr with rfl | rfl
    ·exact ih p (by simp) x (hks p (by simp))
    ·exact ih q (by simp) x (hks q (by simp))
   ·rw [eX,eX]
    refine gW hs rfl (by simp only [aQ,eS ok p x (hks p (by simp))]) fun r hr=>?_
    rw [List.mem_singleton.1 hr]
    exact ih p (by simp) x (hks p (by simp))
  rw [if_neg k8]
  have head:∀ {p q:Pl},ks = [p,q]→fD ts (.mk k n y xs gs (fc ok ts ks x)):=fun {p q} e=>by
   subst e
   rw [fc]
   refine gW hs rfl (by simp only [aQ,eS ok p x (hks p (by simp))]) fun r hr=>?_
   simp only [Mu,Np,or_false] at hr
   rcases hr with rfl | rfl
   ·exact ih p (by simp) x (hks p (by simp))
   ·exact hks _ (by simp)
  by_cases k5:k=5∨k=6
  ·rw [if_pos k5]
   obtain ⟨e,_⟩ | ⟨_,p,q,e,_⟩ | ⟨e,_⟩:=hsh
   ·omega
   ·exact head e
   ·omega
  rw [if_neg k5]
  by_cases k4:k=4
  ·rw [if_pos k4]
   obtain ⟨e,_⟩ | ⟨_,p,q,e,_⟩ | ⟨e,_⟩:=hsh
   ·omega
   ·split
    ·exact head e
    split
    ·subst e
     rw [kQ,fc]
     refine gW hs rfl (by simp only [aQ,eS ok q _ (hks q (by simp))]) fun r hr=>?_
     simp only [Mu,Np,or_false] at hr
     rcases hr with rfl | rfl
     ·exact hks _ (by simp)
     ·exact ih q (by simp) _ (hks q (by simp))
    split
    ·exact gW hs rfl rfl hks
    ·exact ow hs
   ·omega
  rw [if_neg k4]
  exact ow hs
theorem ov {af:List Int}:∀ {l:List Ex} {ts:List Int},hZ af l=some ts→∀ x ∈ l,∃ t,kt af x=some t
 | [],_,_,_,hx=>by cases hx
 | y :: r,ts,h,x,hx=>by
  rw [hZ] at h
  cases hy:kt af y with
  | none=>simp [hy] at h
  | some t =>
   cases hr:hZ af r with
   | none=>simp [hy,hr] at h
   | some us =>
    rcases List.mem_cons.1 hx with rfl | hx
    ·exact ⟨t,hy⟩
    ·exact ov hr x hx
theorem sK {f:Int→Bool}:∀ {l:List Ex},(∀ x ∈ l,bY f x=true)→eK f l=true
 | [],_=>rfl
 | y :: r,h=>by rw [eK,h y (by simp),sK fun x hx=>h x (by simp [hx])]; rfl
theorem Cw {af:List Int}:∀ (x:Ex) (t:Int),kt af x=some t→bY (fun c=>decide (0≤c∧c<(af.length:Int))) x=true :=
 Ex.ind fun k v c ks ih t h=>by
  rw [kt] at h
  by_cases hw:k<1∨18<k∨ks.length≠eL k
  ·rw [if_pos hw] at h; cases h
  rw [if_neg hw] at h
  cases hk:hZ af ks with
  | none=>simp [hk] at h
  | some us =>
   rw [bY]
   by_cases k2:k=2
   ·subst k2
    rw [if_pos rfl]
    simp only [hk,Option.bind_some,eA,kW] at h
    by_cases hc:c<0∨(af.length:Int)≤c
    ·simp [hc] at h
    ·simp; omega
   ·rw [if_neg k2]
    refine sK fun x hx=>?_
    obtain ⟨u,hu⟩:=ov hk x hx
    exact ih x hx u hu
theorem BN {af:List Int} {x:Ex} (h:cH af x=0):bY (fun c=>decide (0≤c∧c<(af.length:Int))) x=true:=by
 unfold cH at h;by_cases h1:(an af x).2=0
 ·unfold an at h1;by_cases c1:16<af.length
  ·rw [if_pos c1] at h1; cases h1
  rw [if_neg c1] at h1;by_cases c2:hU af=false
  ·rw [if_pos c2] at h1; cases h1
  rw [if_neg c2] at h1;by_cases c3:(bf af x 0 1).2.1=0
  ·have:=(kR af x 0 1 (bf af x 0 1).1 (bf af x 0 1).2.2).1 (Prod.ext rfl (Prod.ext c3 rfl));exact Cw x _ this.1
  ·rw [if_neg c3] at h1; exact absurd h1 c3
 ·rw [if_pos h1] at h; exact absurd h h1
mutual
def KC:Pl→Prop
 | .mk k _ y _ _ ks=>(k=2→bY (fun c=>decide (0≤c)) y=true)∧F8 ks
def F8:List Pl→Prop
 | []=>True
 | p :: r=>KC p∧F8 r
end
theorem qT:∀ {l:List Pl},F8 l↔∀ p ∈ l,KC p
 | []=>by simp [F8]
 | p :: r=>by rw [F8,qT (l:=r)]; simp
theorem we {ts:List (List Int)}:∀ (p:Pl) (m d:Int),(aV ts p m d).1=0→KC p :=
 Pl.ind fun k n x xs gs ks ih m d hl=>by
  obtain ⟨h1,h2,h3,_⟩:=dR hl
  obtain ⟨hln,_,_,_,_⟩:=fJ h1
  rw [KC]
  refine ⟨fun e=>?_,qT.2 fun r hr=>?_⟩
  ·unfold dD at hln
   rw [if_neg (by omega),if_neg (by omega)] at hln
   match ks,hln,h3 with
   | [p],_,h3 =>
    simp only [aQ,eI,fZ] at h3
    rw [if_pos e] at h3
    exact su (fun c h=>by have:=of_decide_eq_true h; exact decide_eq_true this.1) x (BN (vf h3).1)
  ·obtain ⟨m',hm'⟩:=fL h2 r hr
   exact ih r hr m' (d+1) hm'
def nU (ok:List Int→Ex→Bool) (ts:List (List Int)) (k n:Int) (y:Ex) (xs:List Ex) (gs:List Ag):List Pl→Pl
 | [p]=>if k=2 then aT ok ts p y else if (k=10∨k=11)∧p.k=11 then p else if (k=10∨k=11)∧p.k=10 then .mk k n y xs gs p.ks else .mk k n y xs gs [p]
 | ks=>.mk k n y xs gs ks
mutual
def iT (ok:List Int→Ex→Bool) (ts:List (List Int)):Pl→Pl
 | .mk k n y xs gs ks=>nU ok ts k n y xs gs (ix ok ts ks)
def ix (ok:List Int→Ex→Bool) (ts:List (List Int)):List Pl→List Pl
 | []=>[]
 | p :: r=>iT ok ts p :: ix ok ts r
end
theorem Hb (w:Int):iV (iV w)=iV w:=by unfold iV; split <;> simp_all
theorem GX (w:Int):iV (iv w)=iv w:=by unfold iV iv; split <;> simp_all
theorem Hg (w:Int):iv (iv w)=iv w:=by unfold iv; split <;> simp_all
theorem one_pos (w:Int):iv (iV w)=iv w:=by unfold iv iV; split <;> split <;> first | rfl | omega
theorem nJ {ok:List Int→Ex→Bool} {ts:List (List Int)} {x:Ex}:∀ {l:List Pl} {p:Pl},p ∈ eX ok ts l x→∃ q ∈ l,p=aT ok ts q x
 | [],_,h=>by rw [eX] at h; cases h
 | q :: r,p,h=>by
  rw [eX] at h
  rcases List.mem_cons.1 h with rfl | h
  ·exact ⟨q,by simp,rfl⟩
  ·obtain ⟨s,hs,e⟩:=nJ h
   exact ⟨s,by simp [hs],e⟩
theorem lL {ok:List Int→Ex→Bool} {ts:List (List Int)} {x:Ex} {l:List Pl} {p:Pl} (h:p ∈ fc ok ts l x):p ∈ l∨∃ q ∈ l,p=aT ok ts q x:=by
 cases l with
 | nil=>rw [fc] at h; cases h
 | cons q r =>
  rw [fc] at h;rcases List.mem_cons.1 h with rfl | h
  ·exact .inr ⟨q,by simp,rfl⟩
  ·exact .inl (by simp [h])
theorem tl {ok:List Int→Ex→Bool} {ts:List (List Int)} {x:Ex} {l:List Pl} {p:Pl} (h:p ∈ kQ ok ts l x):p ∈ l∨∃ q ∈ l,p=aT ok ts q x:=by
 cases l with
 | nil=>rw [kQ] at h; cases h
 | cons q r =>
  rw [kQ] at h;rcases List.mem_cons.1 h with rfl | h
  ·exact .inl (by simp)
  ·rcases lL h with h | ⟨s,hs,e⟩
   ·exact .inl (by simp [h])
   ·exact .inr ⟨s,by simp [hs],e⟩
theorem qJ {ok:List Int→Ex→Bool} {ts:List (List Int)}:∀ {l:List Pl} {p:Pl},p ∈ ix ok ts l→∃ q ∈ l,p=iT ok ts q
 | [],_,h=>by rw [ix] at h; cases h
 | q :: r,p,h=>by
  rw [ix] at h
  rcases List.mem_cons.1 h with rfl | h
  ·exact ⟨q,by simp,rfl⟩
  ·obtain ⟨s,hs,e⟩:=qJ h
   exact ⟨s,by simp [hs],e⟩
def dw (af:List Int) (x:Ex):Bool:=decide ((an af x).2=0)
end Go.Proofs.YtjebpkhkjkjphaaGreat
