/- Together: V1, Q4, V4, V8, VA, PG, VB, VG, VC. -/
import Derived.OneCell
import Derived.Test.YtfojonhblblbjaaGreatUB6
import Derived.Test.YtfojonhblblbjaaGreatUB10
import Derived.Test.YtfojonhblblbjaaGreatUB11
import Derived.Test.YtfojonhblblbjaaGreatUB7
import Derived.Test.YtfojonhblblbjaaGreatUB8
import Derived.Test.YtfojonhblblbjaaGreatUB9
/- The document's answer, chapter 4: what is asked of columns, conditions and rows. -/
namespace Go.Proofs.YtfojonhblblbjaaGreat
open Go.RowKit Go.Lib Go.Shelf

set_option maxRecDepth 100000 in
set_option maxHeartbeats 2000000 in
theorem refInput_at (cols : List Int) (ca : Option Addr) (ccap : Nat) (a : Option Addr) (cap : Nat) (l : List Zp) (w : World) (hc : IsAt w.heap.size w ca cols) (h : ZsAt w a l) :
  Calls Tryz.prog 36 #[.slice ca cols.length ccap, .slice a l.length cap] w fun e w' => e = .returned (.int .i64 (inpE cols l)) ∧ Below w.heap.size w w' := by
 have hl := h.1
 unfold maxLen at hl
 have hcl := hc.1
 unfold maxLen at hcl
 by_cases h8 : 8 < cols.length
 ·have e : inpE cols l = 5 := by simp [inpE, h8]
  rw [e]
  have hz : (8 : Int) < (cols.length : Int) := by omega
  go_enter Tryz.func36, Tryz.ntmps36
  go_wp2_with fail
  go_ret
  exact ⟨rfl, Below.refl _ _⟩
 have hz : ¬ (8 : Int) < (cols.length : Int) := by omega
 by_cases hw : wrongZ l = 0
 ·have e : inpE cols l = fitsZ cols l := by simp [inpE, h8, hw]
  rw [e]
  clear e
  have Hw : Hid (wrongZ l = 0) := hw
  clear hw
  go_enter Tryz.func36, Tryz.ntmps36
  go_wp2_with fail
  refine (refWrongZ_at _ _ _ _ h).mono ?_
  rintro e w1 ⟨rfl, hb1⟩
  rw [Hw.out]
  go_wp2_with fail
  go_loopw [18] (fun i wr => ∃ k : Nat, k ≤ l.length ∧ i = .int .i64 k ∧ Hid (fitsZ cols l = fitsZ cols (l.drop k)) ∧ Below w.heap.size w wr) (fun i _ => l.length - (intOf i).toNat)
  case atStart => exact ⟨0, Nat.zero_le _, rfl, rfl, hb1⟩
  case round =>
   obtain ⟨k, hk, rfl, HC, hb⟩ := hrel
   have hz := hb.size
   by_cases hlt : k < l.length
   ·obtain ⟨b, off, rfl, hbl, c1, ar, cr, c0, sr⟩ := (h.next hb).elem hlt
    have con := refFits_at cols l[k].1 ca ccap ar cr wr ((hc.next hb (Nat.le_refl _)).up hb.size) sr
    have i0 : (0 : Int) ≤ (k : Int) := by omega
    have i1 : (k : Int) < (l.length : Int) := by omega
    by_cases hw : fitsL cols l[k].1 = 0
    ·have Hw : Hid (fitsL cols l[k].1 = 0) := hw
     rw [hw] at con
     clear hw
     go_wp2_with fail
     refine con.mono ?_
     rintro e w2 ⟨rfl, hb2⟩
     go_wp2_with fail
     go_roundw
     case rel => exact ⟨k + 1, by omega, by go_num, HC.out.trans (fitsZ_next cols l k hlt Hw.out), chain hb hb2⟩
     case measure => simp [intOf]; omega
    ·have HN : Hid (fitsZ cols l = fitsL cols l[k].1) := HC.out.trans (fitsZ_bad cols l k hlt hw)
     have hne : (fitsL cols l[k].1 != 0) = true := by simpa using hw
     generalize fitsL cols l[k].1 = t at *
     go_wp2_with fail
     refine con.mono ?_
     rintro e w2 ⟨rfl, hb2⟩
     go_wp2_with fail
     go_ret
     exact ⟨ret_int HN.out.symm, chain hb hb2⟩
   ·have HN : Hid (fitsZ cols l = 0) := HC.out.trans (fitsZ_end cols l k (by omega))
    go_wp2_with fail
    go_ret
    exact ⟨ret_int HN.out.symm, hb⟩
 ·have e : inpE cols l = wrongZ l := by simp [inpE, h8, hw]
  rw [e]
  have hne : (wrongZ l != 0) = true := by simpa using hw
  clear e hw
  have con := refWrongZ_at a cap l w h
  generalize wrongZ l = t at *
  go_enter Tryz.func36, Tryz.ntmps36
  go_wp2_with fail
  refine con.mono ?_
  rintro e w1 ⟨rfl, hb1⟩
  go_wp2_with fail
  go_ret
  exact ⟨rfl, hb1⟩

set_option maxRecDepth 100000 in
set_option maxHeartbeats 2000000 in
theorem refBoth_at (a b : Option Addr) (ca cb : Nat) (l r : List Vl) (w : World) (h : SlAt w a l) (h' : SlAt w b r) (h8 : l.length + r.length ≤ 8) :
  Calls Tryz.prog 53 #[.slice a l.length ca, .slice b r.length cb] w fun e w' => ∃ v, e = .returned v ∧ w'.ownsRow w.heap.size 24 3 v (l.length + r.length) (flatV (l ++ r)) ∧ Below w.heap.size w w' := by
 obtain ⟨iv, hiv, hv0, hv1, hv2⟩ := info_parts infoV
 have R1 := raw_vals h
 have hb0 : Below w.heap.size w (w.alloc (.cells #[] 24)) := (Below.refl _ _).alloc (Nat.le_refl _) _
 have O0 : (w.alloc (.cells #[] 24)).ownsRow w.heap.size 24 3 (.slice (some ⟨w.heap.size, 0, none⟩) 0 0) 0 [] := World.ownsRow_made (e := 24) (size := 3) w #[] 0 (Nat.le_refl _) (Nat.zero_le _) (by simp)
 have m1 : 0 + l.length ≤ maxLen := by unfold maxLen; omega
 have m2 : (0 + l.length) * 32 ≤ 140737488355328 := by omega
 have m3 : l.length + r.length ≤ maxLen := by unfold maxLen; omega
 have m4 : (l.length + r.length) * 32 ≤ 140737488355328 := by omega
 go_enter Tryz.func53, Tryz.ntmps53
 go_wp2_with (first | (at_builtin; refine wpList_append_raw rfl (.tmp 5) (.tmp 6) 51 rfl w.heap.size 24 iv _ 3 32 Tryz.underlying51 hiv hv0 hv1 hv2 rfl (by decide) _ 0 [] rfl O0 a l.length ca (flatV l) rfl (R1.alloc _) m1 m2 (by simp) ?_))
 intro v1 w1 o1 g1
 have hb1 : Below w.heap.size w w1 := hb0.grown g1 (by simp) (by simp [Value.ownBlock])
 have o1 : w1.ownsRow w.heap.size 24 3 v1 l.length (flatV l) := by simpa using o1
 have R2 := raw_vals (h'.next hb1)
 have hz := hb1.size
 clear g1
 go_wp2_with (first | (at_builtin; refine wpList_append_raw rfl (.tmp 7) (.tmp 8) 51 rfl w.heap.size 24 iv _ 3 32 Tryz.underlying51 hiv hv0 hv1 hv2 rfl (by decide) _ l.length (flatV l) rfl o1 b r.length cb (flatV r) rfl R2 m3 m4 hz ?_))
 intro v2 w2 o2 g2
 have hb2 : Below w.heap.size w w2 := hb1.grown g2 hz (fun q hq => (o1.lt q hq).1)
 rw [← flatV_append] at o2
 clear g2 o1
 have hv : ∃ a2 c2, v2 = .slice a2 (l.length + r.length) c2 := own_shapeE o2
 obtain ⟨a2, c2, rfl⟩ := hv
 go_wp2_with fail
 go_ret
 exact ⟨_, rfl, o2, hb2⟩
end Go.Proofs.YtfojonhblblbjaaGreat
/- With a partner, or without: plain facts. -/
namespace Go.Proofs.YtfojonhblblbjaaGreat
open Go.RowKit

theorem right_append {a b : List Vl} (h : rightB a = true) (k : rightB b = true) : rightB (a ++ b) = true := by
 unfold rightB at h k ⊢
 rw [List.all_append, h, k]; rfl
end Go.Proofs.YtfojonhblblbjaaGreat
/- Pairs, row by row: plain facts; one more row put in its place. -/
namespace Go.Proofs.YtfojonhblblbjaaGreat
open Go.RowKit Go.Lib Go.Shelf

theorem putL_len (r : List Vl) (x : Int) : ∀ z : List Zp, (putL z r x).length ≤ z.length + 1
 | [] => by unfold putL; split <;> simp
 | y :: t => by
  have := putL_len r x t
  unfold putL
  split
  ·simp only [List.length_cons]; omega
  ·split
   ·split <;> simp only [List.length_cons] <;> omega
   ·split <;> simp only [List.length_cons] <;> omega
theorem canon_lenV (l : List Zp) : (canon l).length ≤ l.length := by
 have aux : ∀ (l z : List Zp), (l.foldl (fun z x => putL z x.1 x.2) z).length ≤ z.length + l.length := by
  intro l
  induction l with
  | nil => intro z; simp
  | cons x r ih =>
   intro z
   have h1 := ih (putL z x.1 x.2)
   have h2 := putL_len x.1 x.2 z
   simp only [List.foldl_cons, List.length_cons]
   omega
 have := aux l []
 simpa [canon] using this
/-- Rows that may be put in their places. -/
structure POk (c : Nat) (pre : List Zp) : Prop where
 len : pre.length ≤ c
 all : ∀ y ∈ pre, rightB y.1 = true ∧ -1000000000000 ≤ y.2 ∧ y.2 ≤ 1000000000000
theorem POk.push {c : Nat} {pre : List Zp} (h : POk c pre) {y : Zp} (hy : rightB y.1 = true ∧ -1000000000000 ≤ y.2 ∧ y.2 ≤ 1000000000000) : POk (c + 1) (pre ++ [y]) :=
 ⟨by have := h.len; simp; omega, fun z hz => by
  rcases List.mem_append.1 hz with h' | h'
  ·exact h.all z h'
  ·rw [List.mem_singleton.1 h']; exact hy⟩
theorem POk.up {c c' : Nat} {pre : List Zp} (h : POk c pre) (hc : c ≤ c') : POk c' pre := ⟨Nat.le_trans h.len hc, h.all⟩
theorem wt_bdV {l : List Zp} (h : ∀ x ∈ l, rightB x.1 = true ∧ -1000000000000 ≤ x.2 ∧ x.2 ≤ 1000000000000) (q : List Vl) : -(1000000000000 * (l.length : Int)) ≤ wt l q ∧ wt l q ≤ 1000000000000 * (l.length : Int) := by
 induction l with
 | nil => simp [wt]
 | cons x r ih =>
  have ih := ih (fun y hy => h y (by simp [hy]))
  have hx := h x (by simp)
  rw [wt, List.length_cons]
  split <;> omega
/-- What has been put in its place so far. -/
def Acc (W : World) (v : Value) (pre : List Zp) : Prop := ∃ a cap, v = .slice a (canon pre).length cap ∧ ZsAt W a (canon pre) ∧ Lie a cap (canon pre).length
theorem Acc.next {W w1 : World} {v : Value} {pre : List Zp} (h : Acc W v pre) (hb : Below W.heap.size W w1) : Acc w1 v pre := by
 obtain ⟨a, cap, e, z, l⟩ := h
 exact ⟨a, cap, e, z.next hb, l⟩
theorem Acc.nil (W : World) : Acc W (.slice none 0 0) [] := ⟨none, 0, rfl, ⟨by simp [canon], .inl rfl⟩, ⟨fun _ => rfl, by simp [canon], Nat.zero_le _⟩⟩
theorem putC_at (v : Value) (pre : List Zp) (c : Nat) (hc : c ≤ 170000) (hp : POk c pre) (b : Option Addr) (cb : Nat) (r : List Vl) (x : Int) (w : World) (h : Acc w v pre) (h' : SlAt w b r) (h8 : r.length ≤ 8) (hx : -1000000000000 ≤ x ∧ x ≤ 1000000000000) :
  Calls Tryz.prog 38 #[v, .slice b r.length cb, .int .i64 x] w fun e w' => ∃ u, e = .returned u ∧ Acc w' u (pre ++ [(r, x)]) ∧ Below w.heap.size w w' := by
 obtain ⟨a, cap, rfl, z, l⟩ := h
 have hl := Nat.le_trans (canon_lenV pre) hp.len
 refine (put_at a cap (canon pre) b cb r x w z l h' h8 (by omega) (fun y hy => ?_) (fun y hy => ?_) (by omega)).mono ?_
 ·obtain ⟨p, hp', e⟩ := canon_row pre y hy
  rw [e, right_bare]
  exact (hp.all p hp').1
 ·rw [← wt_mem (canon_set pre).rise y hy, canon_wt]
  have := wt_bdV hp.all y.1
  have := hp.len
  omega
 ·rintro e w' ⟨u, rfl, O, hb⟩
  have e1 : putL (canon pre) r x = canon (pre ++ [(r, x)]) := (canon_snoc pre (r, x)).symm
  rw [e1] at O
  obtain ⟨a', cap', rfl, z', l'⟩ := O.zs
  exact ⟨_, rfl, ⟨a', cap', rfl, z', l'⟩, hb⟩
end Go.Proofs.YtfojonhblblbjaaGreat
/- The document's answer, chapter 4: lists of types, of values; filters. -/
namespace Go.Proofs.YtfojonhblblbjaaGreat
open Go.RowKit Go.Lib Go.Shelf

set_option maxRecDepth 100000 in
set_option maxHeartbeats 4000000 in
theorem refTypes_at (cols : List Int) (xs : List Ex) (ca : Option Addr) (ccap : Nat) (xa : Option Addr) (xcap : Nat) (w : World) (hk : KsAt w.heap.size w xa xs) (hc : IsAt w.heap.size w ca cols) :
  Calls Tryz.prog 40 #[.slice ca cols.length ccap, .slice xa xs.length xcap] w fun e w' => ∃ v, e = .returned (.tuple #[v, .int .i64 (listE cols xs)]) ∧ Below w.heap.size w w' := by
 obtain ⟨ii, hii, hv0, hv1, hv2⟩ := info_parts infoI
 by_cases h8 : 8 < xs.length
 ·have e : listE cols xs = 5 := by simp [listE, h8]
  rw [e]
  have hz : (8 : Int) < (xs.length : Int) := by omega
  go_enter Tryz.func40, Tryz.ntmps40
  go_wp2_with fail
  exact bodyPost_ret (v := .tuple #[.slice none 0 0, .int .i64 5]) (by simp [results, Tryz.results40, go_sem]) rfl ⟨_, rfl, Below.refl _ _⟩
 ·have e : listE cols xs = typesE cols xs := by simp [listE, h8]
  have HE : Hid (listE cols xs = typesE cols xs) := e
  generalize listE cols xs = le at *
  clear e
  have hz : ¬ (8 : Int) < (xs.length : Int) := by omega
  go_enter Tryz.func40, Tryz.ntmps40
  go_wp2_with fail
  go_loopw [6, 15] (fun v i wr => ∃ j : Nat, j ≤ xs.length ∧ i = .int .i64 j ∧ (∃ ys, wr.ownsRow w.heap.size 3 1 v j ys) ∧ Hid (typesE cols xs = typesE cols (xs.drop j)) ∧ Below w.heap.size w wr) (fun _ i _ => xs.length - (intOf i).toNat)
  case atStart => exact ⟨0, Nat.zero_le _, rfl, ⟨[], World.ownsRow_nil _ _ _ _⟩, rfl, Below.refl _ _⟩
  case round =>
   obtain ⟨j, hj, rfl, ⟨ys, Oj⟩, HT, hb⟩ := hrel
   have hzb := hb.size
   by_cases hlt : j < xs.length
   ·obtain ⟨b, off, ai, ci, rfl, hbl, sx, kx⟩ := (KsAt.next hb (Nat.le_refl _) hk).elem hlt
    obtain ⟨x0, x1, x2, x3, x4, x5⟩ := sx
    have con := refType_at cols xs[j] ca ccap ai ci wr (kx.up hzb) ((hc.next hb (Nat.le_refl _)).up hzb)
    have hj0 : (0 : Int) ≤ (j : Int) := by omega
    have hjz : (j : Int) < (xs.length : Int) := by omega
    by_cases h0 : (typeTop cols xs[j]).2 = 0
    ·have HN : Hid (typesE cols xs = typesE cols (xs.drop (j + 1))) := HT.out.trans (typesE_next cols xs j hlt h0)
     rw [h0] at con
     generalize (typeTop cols xs[j]).1 = t at *
     clear h0
     go_wp2_with fail
     refine con.mono ?_
     rintro e w2 ⟨rfl, hb2⟩
     clear con x0 x1 x2 x3 x4 x5
     have O2 := own_next Oj hb2
     have hz2 := hb2.size
     dsimp only
     go_wp2_with (first | (at_builtin; refine wpList_append_own _ rfl _ _ 22 rfl w.heap.size 3 ii _ 1 8 Tryz.underlying22 hii hv0 hv1 hv2 rfl (by decide) _ _ _ rfl (O2.alloc _) ⟨w2.heap.size, 0, none⟩ 1 1 [.int .i64 t] rfl rfl ?Ac1 ?Ac2 ?Ac3 ?Ac4 ?Ac5 ?_))
     case Ac1 =>
      intro i u hu
      match i, hu with
      | 0, hu => simp at hu; subst hu; simp [Addr.add]
     case Ac2 => intro u hu; simp at hu; subst hu; rfl
     case Ac3 => unfold maxLen; omega
     case Ac4 => omega
     case Ac5 => simp; omega
     intro v' w3 o3 g3 _
     have hb3 : Below w.heap.size w w3 := (chain hb hb2).trans (((Below.refl _ _).alloc (by omega) _).grown g3 (by simp; omega) (fun q hq => ((O2.alloc (.cells #[.int .i64 t] 3)).lt q hq).1))
     clear g3 O2 Oj
     go_wp2_with fail
     go_roundw
     case rel => exact ⟨j + 1, by omega, by go_num, ⟨_, o3⟩, HN, hb3⟩
     case measure => simp [intOf]; omega
    ·have HN : Hid (le = (typeTop cols xs[j]).2) := HE.out.trans (HT.out.trans (typesE_bad cols xs j hlt h0))
     have hne : ((typeTop cols xs[j]).2 != 0) = true := by simpa using h0
     generalize (typeTop cols xs[j]).1 = t at *
     generalize (typeTop cols xs[j]).2 = t2 at *
     have el := HN.out
     subst el
     go_wp2_with fail
     refine con.mono ?_
     rintro e w2 ⟨rfl, hb2⟩
     clear con
     dsimp only
     go_wp2_with fail
     exact bodyPost_ret (v := .tuple #[.slice none 0 0, .int .i64 le]) (by simp [results, Tryz.results40, go_sem]) rfl ⟨_, rfl, chain hb hb2⟩
   ·have el : le = 0 := HE.out.trans (HT.out.trans (typesE_end cols xs j (by omega)))
    subst el
    obtain ⟨aj, cj, rfl⟩ := own_shapeE Oj
    go_wp2_with fail
    exact bodyPost_ret (v := .tuple #[.slice aj j cj, .int .i64 0]) (by simp [results, Tryz.results40, go_sem]) rfl ⟨_, rfl, hb⟩

set_option maxRecDepth 100000 in
set_option maxHeartbeats 4000000 in
theorem refValues_at {cols : List Int} (xs : List Ex) (hxs : listE cols xs = 0) (row : List Vl) (hf : FitP cols row) (xa : Option Addr) (xcap : Nat) (ra : Option Addr) (rcap : Nat) (w : World) (hk : KsAt w.heap.size w xa xs) (hs : SlAt w ra row) :
  Calls Tryz.prog 41 #[.slice xa xs.length xcap, .slice ra row.length rcap] w fun e w' => ∃ v, e = .returned v ∧ w'.ownsRow w.heap.size 24 3 v xs.length (flatV (rowX xs row)) ∧ Below w.heap.size w w' := by
 obtain ⟨iv, hiv, hv0, hv1, hv2⟩ := info_parts infoV
 obtain ⟨hx8, HXS0⟩ := listE_ok hxs
 have HXS : Hid (∀ x ∈ xs, (typeTop cols x).2 = 0) := HXS0
 have HFt : Hid (FitP cols row) := hf
 clear HXS0 hf
 go_enter Tryz.func41, Tryz.ntmps41
 go_wp2_with fail
 go_loopw [5, 9] (fun v i wr => ∃ j : Nat, j ≤ xs.length ∧ i = .int .i64 j ∧ wr.ownsRow w.heap.size 24 3 v j (flatV (rowX (xs.take j) row)) ∧ Below w.heap.size w wr) (fun _ i _ => xs.length - (intOf i).toNat)
 case atStart => exact ⟨0, Nat.zero_le _, rfl, World.ownsRow_nil _ _ _ _, Below.refl _ _⟩
 case round =>
  obtain ⟨j, hj, rfl, Oj, hb⟩ := hrel
  have hzb := hb.size
  by_cases hlt : j < xs.length
  ·obtain ⟨b, off, ai, ci, rfl, hbl, sx, kx⟩ := (KsAt.next hb (Nat.le_refl _) hk).elem hlt
   obtain ⟨x0, x1, x2, x3, x4, x5⟩ := sx
   have con := of_any HFt.out xs[j] _ (typ_of (HXS.out xs[j] (List.getElem_mem hlt))) w.heap.size ai ci ra rcap wr kx hzb (hs.next hb)
   have HR : Hid (rowX (xs.take (j + 1)) row = rowX (xs.take j) row ++ [valX row xs[j]]) := by
    show _ = _
    unfold rowX
    rw [List.take_succ_eq_append_getElem hlt, List.map_append]; rfl
   have hj0 : (0 : Int) ≤ (j : Int) := by omega
   have hjz : (j : Int) < (xs.length : Int) := by omega
   generalize valX row xs[j] = u at *
   unfold agV at con
   go_wp2_with fail
   refine con.mono ?_
   rintro e w2 ⟨rfl, hb2⟩
   clear con x0 x1 x2 x3 x4 x5
   have O2 := own_next Oj hb2
   have hz2 := hb2.size
   dsimp only
   go_wp2_with (first | (at_builtin; refine wpList_append_own _ rfl _ _ 51 rfl w.heap.size 24 iv _ 3 32 Tryz.underlying51 hiv hv0 hv1 hv2 rfl (by decide) _ _ _ rfl (O2.alloc _) ⟨w2.heap.size, 0, none⟩ 1 1 [.int .i64 u.1, .int .i64 u.2.1, .string u.2.2] rfl rfl ?Ac1 ?Ac2 ?Ac3 ?Ac4 ?Ac5 ?_))
   case Ac1 =>
    intro i u hu
    match i, hu with
    | 0, hu => simp at hu; subst hu; simp [Addr.add]
    | 1, hu => simp at hu; subst hu; simp [Addr.add]
    | 2, hu => simp at hu; subst hu; simp [Addr.add]
   case Ac2 => intro u hu; simp at hu; rcases hu with rfl | rfl | rfl <;> rfl
   case Ac3 => unfold maxLen; omega
   case Ac4 => omega
   case Ac5 => simp; omega
   intro v' w3 o3 g3 _
   have hb3 : Below w.heap.size w w3 := (chain hb hb2).trans (((Below.refl _ _).alloc (by omega) _).grown g3 (by simp; omega) (fun q hq => ((O2.alloc (.cells #[.int .i64 u.1, .int .i64 u.2.1, .string u.2.2] 24)).lt q hq).1))
   have o3' : w3.ownsRow w.heap.size 24 3 v' (j + 1) (flatV (rowX (xs.take (j + 1)) row)) := by rw [HR.out, flatV_append]; exact o3
   clear g3 O2 Oj o3
   go_wp2_with fail
   go_roundw
   case rel => exact ⟨j + 1, by omega, by go_num, o3', hb3⟩
   case measure => simp [intOf]; omega
  ·have e : j = xs.length := by omega
   subst e
   rw [List.take_length] at Oj
   obtain ⟨aj, cj, rfl⟩ := own_shapeE Oj
   go_wp2_with fail
   go_ret
   exact ⟨_, rfl, Oj, hb⟩
end Go.Proofs.YtfojonhblblbjaaGreat
/- A slice of rows of the call's own whose weights are written while another one grows. -/
namespace Go.Proofs.YtfojonhblblbjaaGreat
open Go.RowKit Go.Lib Go.Shelf

/-- Every second cell of a block is a slice. -/
def EvenB (W : World) (g : Nat) : Prop := ∀ j u, W.cell? ⟨g, j * 2, none⟩ = some u → ∃ a n c, u = .slice a n c
theorem EvenB.next {W w1 : World} {g : Nat} (h : EvenB W g) (hg : g < W.heap.size) (hb : Below W.heap.size W w1) : EvenB w1 g := fun j u hu => h j u ((hb.cell (p := ⟨g, j * 2, none⟩) hg).symm.trans hu)
theorem cell_set_odd (W : World) (g i j : Nat) (u : Value) : (W.setCell ⟨g, i * 2 + 1, none⟩ u).cell? ⟨g, j * 2, none⟩ = W.cell? ⟨g, j * 2, none⟩ := by
 refine World.cell?_setCell_other _ _ _ _ ?_
 intro e
 have := congrArg Addr.off e
 simp at this
 omega
theorem EvenB.set {W : World} {g : Nat} (h : EvenB W g) (i : Nat) (u : Value) : EvenB (W.setCell ⟨g, i * 2 + 1, none⟩ u) g := fun j v hv => h j v (by rw [← hv, cell_set_odd])
/-- Values lie in no such block. -/
theorem sl_apart {W : World} {g : Nat} (h : EvenB W g) {b off : Nat} {r : List Vl} (hr : Row W b off r) (hn : r ≠ []) : b ≠ g := by
 rintro rfl
 have hp : 0 < r.length := List.length_pos_iff.2 hn
 obtain ⟨c0, c1, _⟩ := hr 0 hp
 simp only [Nat.zero_mul, Nat.add_zero] at c0 c1
 by_cases e : off % 2 = 0
 ·obtain ⟨a, n, c, e'⟩ := h (off / 2) _ (by rw [show off / 2 * 2 = off by omega]; exact c0)
  cases e'
 ·obtain ⟨a, n, c, e'⟩ := h ((off + 1) / 2) _ (by rw [show (off + 1) / 2 * 2 = off + 1 by omega]; exact c1)
  cases e'
theorem sl_set {W : World} {g : Nat} (h : EvenB W g) {a : Option Addr} {r : List Vl} (hs : SlAt W a r) (i : Nat) (u : Value) : SlAt (W.setCell ⟨g, i * 2 + 1, none⟩ u) a r := by
 refine ⟨hs.1, ?_⟩
 rcases hs.2 with h0 | ⟨b, off, e, hr, hlt⟩
 ·exact .inl h0
 ·by_cases h0 : r = []
  ·exact .inl h0
  ·have hne := sl_apart h hr h0
   refine .inr ⟨b, off, e, fun k hk => ?_, by simpa [World.setCell] using hlt⟩
   have key : (W.setCell ⟨g, i * 2 + 1, none⟩ u).heap[b]? = W.heap[b]? := Below.heap_setCell _ _ _ _ hne
   obtain ⟨c0, c1, c2⟩ := hr k hk
   exact ⟨(World.cell?_of_block (a := ⟨b, _, none⟩) key).trans c0, (World.cell?_of_block (a := ⟨b, _, none⟩) key).trans c1, (World.cell?_of_block (a := ⟨b, _, none⟩) key).trans c2⟩

/-- What has been put in its place so far, in a block above g. -/
def AccO (g : Nat) (W : World) (v : Value) (pre : List Zp) : Prop := ∃ xs, W.ownsRow (g + 1) 53 2 v (canon pre).length xs ∧ EncB W xs (canon pre)
theorem EncB.next {W w1 : World} {xs : List Value} {l : List Zp} (h : EncB W xs l) (hb : Below W.heap.size W w1) : EncB w1 xs l :=
 ⟨h.1, fun i hi => by
  obtain ⟨a, cap, h1, h2, h3⟩ := h.2 i hi
  exact ⟨a, cap, h1, h2, h3.next hb⟩⟩
theorem AccO.next {g : Nat} {W w1 : World} {v : Value} {pre : List Zp} (h : AccO g W v pre) (hb : Below W.heap.size W w1) : AccO g w1 v pre := by
 obtain ⟨xs, h1, h2⟩ := h
 exact ⟨xs, own_next h1 hb, h2.next hb⟩
theorem AccO.nil (g : Nat) (W : World) : AccO g W (.slice none 0 0) [] := ⟨[], World.ownsRow_nil _ _ _ _, ⟨rfl, fun i hi => by simp [canon] at hi⟩⟩
theorem AccO.set {g : Nat} {W : World} {v : Value} {pre : List Zp} (h : AccO g W v pre) (he : EvenB W g) (i : Nat) (u : Value) : AccO g (W.setCell ⟨g, i * 2 + 1, none⟩ u) v pre := by
 obtain ⟨xs, h1, h2⟩ := h
 refine ⟨xs, ownsRow_setCell_below h1 (a := ⟨g, i * 2 + 1, none⟩) (Nat.lt_succ_self _) u, h2.1, fun j hj => ?_⟩
 obtain ⟨a, cap, e0, e1, e2⟩ := h2.2 j hj
 exact ⟨a, cap, e0, e1, sl_set he e2 i u⟩
theorem AccO.acc {g : Nat} {W : World} {v : Value} {pre : List Zp} (h : AccO g W v pre) : Acc W v pre := by
 obtain ⟨xs, h1, h2⟩ := h
 have h1' := h1
 obtain ⟨hx, h1 | ⟨b, cap, cur, e, hg, hh, hn, hc, hs, ht⟩⟩ := h1
 ·obtain ⟨rfl, h0⟩ := h1
  refine ⟨none, 0, by rw [h0], ⟨by rw [h0]; exact Nat.zero_le _, .inl (List.eq_nil_of_length_eq_zero h0)⟩, fun _ => rfl, by omega, Nat.zero_le _⟩
 ·subst e
  refine ⟨_, cap, rfl, ⟨Nat.le_trans hn hc, .inr ⟨b, 0, rfl, (h1'.lt b rfl).2, ?_⟩⟩, fun e => (by cases e), hn, hc⟩
  intro i hi
  obtain ⟨a, cp, e0, e1, e2⟩ := h2.2 i hi
  refine ⟨?_, a, cp, ?_, e2⟩
  ·rw [h1'.cellAt _ (by omega), ← e1]; congr 1; omega
  ·rw [h1'.cellAt _ (by omega), ← e0]; congr 1; omega
/-- The rows that are left, in a block g of the call's own: the values lie in w0. -/
def Rest (w0 : World) (B g cap n : Nat) (W : World) (R : List Zp) : Prop := R.length = n ∧ ∃ xs, W.ownsRow B 53 2 (.slice (some ⟨g, 0, none⟩) n cap) n xs ∧ EncB w0 xs R
theorem Rest.next {w0 : World} {B g cap n : Nat} {W w1 : World} {R : List Zp} (h : Rest w0 B g cap n W R) (hb : Below W.heap.size W w1) : Rest w0 B g cap n w1 R := by
 obtain ⟨h0, xs, h1, h2⟩ := h
 exact ⟨h0, xs, own_next h1 hb, h2⟩
theorem Rest.at {w0 : World} {B g cap n : Nat} {W : World} {R : List Zp} (h : Rest w0 B g cap n W R) {j : Nat} (hj : j < R.length) : B ≤ g ∧ g < W.heap.size ∧ W.frozen? ⟨g, j * 2 + 1, none⟩ = false ∧ W.cell? ⟨g, j * 2 + 1, none⟩ = some (.int .i64 R[j].2) ∧ ∃ a c, W.cell? ⟨g, j * 2, none⟩ = some (.slice a R[j].1.length c) ∧ SlAt w0 a R[j].1 := by
 obtain ⟨h0, xs, h1, h2⟩ := h
 obtain ⟨a, c, e0, e1, e2⟩ := h2.2 j hj
 have hl := h1.lt g rfl
 refine ⟨hl.1, hl.2, h1.frozenAt _, ?_, a, c, ?_, e2⟩
 ·rw [h1.cellAt _ (by omega)]; exact e1
 ·rw [h1.cellAt _ (by omega)]; exact e0
theorem encB_set {W : World} {xs : List Value} {l : List Zp} (h : EncB W xs l) (b : Nat) (hb : b < l.length) (z : Int) : EncB W (xs.set (b * 2 + 1) (.int .i64 z)) (l.set b (l[b].1, z)) := by
 have lx := h.1
 refine ⟨by simpa using lx, fun i hi => ?_⟩
 have hi0 : i < l.length := by simpa using hi
 obtain ⟨a', c', h1, h2, h3⟩ := h.2 i hi0
 by_cases e : i = b
 ·subst e
  simp only [List.getElem_set_self]
  refine ⟨a', c', ?_, ?_, h3⟩
  ·rw [List.getElem?_set_ne (by omega)]; exact h1
  ·rw [List.getElem?_set_self (by omega)]
 ·rw [List.getElem_set_ne (fun e' => e e'.symm)]
  refine ⟨a', c', ?_, ?_, h3⟩
  ·rw [List.getElem?_set_ne (by omega)]; exact h1
  ·rw [List.getElem?_set_ne (by omega)]; exact h2
theorem Rest.set {w0 : World} {B g cap n : Nat} {W : World} {R : List Zp} (h : Rest w0 B g cap n W R) {b : Nat} (hb : b < R.length) (z : Int) : Rest w0 B g cap n (W.setCell ⟨g, b * 2 + 1, none⟩ (.int .i64 z)) (R.set b (R[b].1, z)) := by
 obtain ⟨h0, xs, h1, h2⟩ := h
 exact ⟨by rw [List.length_set]; exact h0, _, (h1.stored (b * 2 + 1) (.int .i64 z)).1, encB_set h2 b hb z⟩

end Go.Proofs.YtfojonhblblbjaaGreat
/- The least one again and again: plain facts. -/
namespace Go.Proofs.YtfojonhblblbjaaGreat
open Go.RowKit

/-- The least row so far: of the first i rows of R that are there. -/
def Scan (xs : List Ex) (R : List Zp) (i : Nat) : Option Nat → Prop
 | none => ∀ j (_ : j < R.length), j < i → R[j].2 ≤ 0
 | some b => ∃ hb : b < R.length, b < i ∧ 0 < R[b].2 ∧ ∀ j (_ : j < R.length), j < i → j ≠ b → 0 < R[j].2 → cmpL (rowX xs R[b].1) (rowX xs R[j].1) < 0 ∨ (cmpL (rowX xs R[b].1) (rowX xs R[j].1) = 0 ∧ b < j)
theorem Scan.nil (xs : List Ex) (R : List Zp) : Scan xs R 0 none := fun _ _ h => absurd h (Nat.not_lt_zero _)
theorem Scan.skip {xs : List Ex} {R : List Zp} {i : Nat} {b : Option Nat} (h : Scan xs R i b) (hi : i < R.length) (h0 : R[i].2 ≤ 0) : Scan xs R (i + 1) b := by
 cases b with
 | none =>
  intro j hj hlt
  by_cases e : j = i
  ·subst e; exact h0
  ·exact h j hj (by omega)
 | some b =>
  obtain ⟨hb, h1, h2, h3⟩ := h
  refine ⟨hb, by omega, h2, fun j hj hlt hne hp => ?_⟩
  by_cases e : j = i
  ·subst e; omega
  ·exact h3 j hj (by omega) hne hp
theorem Scan.first {xs : List Ex} {R : List Zp} {i : Nat} (h : Scan xs R i none) (hi : i < R.length) (h0 : 0 < R[i].2) : Scan xs R (i + 1) (some i) :=
 ⟨hi, by omega, h0, fun j hj hlt hne hp => by have := h j hj (by omega); omega⟩
theorem Scan.less {xs : List Ex} {R : List Zp} {i b : Nat} (h : Scan xs R i (some b)) (hi : i < R.length) (hb : b < R.length) (h0 : 0 < R[i].2) (hc : cmpL (rowX xs R[i].1) (rowX xs R[b].1) < 0) : Scan xs R (i + 1) (some i) := by
 obtain ⟨_, h1, h2, h3⟩ := h
 refine ⟨hi, by omega, h0, fun j hj hlt hne hp => .inl ?_⟩
 by_cases e : j = b
 ·subst e; exact hc
 ·exact cmpL_lt_le hc (by rcases h3 j hj (by omega) e hp with h | ⟨h, _⟩ <;> omega)
theorem Scan.keep {xs : List Ex} {R : List Zp} {i b : Nat} (h : Scan xs R i (some b)) (hi : i < R.length) (hb : b < R.length) (hc : ¬ cmpL (rowX xs R[i].1) (rowX xs R[b].1) < 0) : Scan xs R (i + 1) (some b) := by
 obtain ⟨_, h1, h2, h3⟩ := h
 refine ⟨hb, by omega, h2, fun j hj hlt hne hp => ?_⟩
 by_cases e : j = i
 ·subst e
  have := cmpL_neg (rowX xs R[j].1) (rowX xs R[b].1)
  by_cases c : cmpL (rowX xs R[b].1) (rowX xs R[j].1) = 0
  ·exact .inr ⟨c, h1⟩
  ·exact .inl (by omega)
 ·exact h3 j hj (by omega) hne hp

theorem withK_append (xs : List Ex) (a b : List Zp) : withK xs (a ++ b) = withK xs a ++ withK xs b := by
 unfold withK
 rw [List.filter_append, List.map_append]
theorem withK_one (xs : List Ex) (p : Zp) : withK xs [p] = if 0 < p.2 then [(rowX xs p.1, p)] else [] := by
 unfold withK
 by_cases h : 0 < p.2
 ·rw [if_pos h]; simp [h]
 ·rw [if_neg h]; simp [h]
theorem split_at {α : Type} (l : List α) (b : Nat) (h : b < l.length) : l = l.take b ++ ([l[b]] ++ l.drop (b + 1)) := by
 rw [List.singleton_append, ← List.drop_eq_getElem_cons h, List.take_append_drop]
theorem set_split {α : Type} (l : List α) (b : Nat) (h : b < l.length) (x : α) : l.set b x = l.take b ++ ([x] ++ l.drop (b + 1)) := by
 rw [List.set_eq_take_append_cons_drop, if_pos h]; rfl
/-- What is left behind picks. -/
structure Pick (cols : List Int) (xs : List Ex) (z : List Zp) (n c : Int) (R pre : List Zp) (L : List Kp) : Prop where
 perm : (withK xs R).Perm L
 sorted : L.Pairwise StK
 pos : ∀ x ∈ L, 0 < x.2.2
 rise : Rise R
 fit : ∀ y ∈ R, FitP cols y.1
 small : ∀ y ∈ R, -1000000 ≤ y.2 ∧ y.2 ≤ 1000000
 c0 : 0 ≤ c
 len : (pre.length : Int) + c = n
 right : ∀ y ∈ pre, y.2 = 1 ∧ FitP cols y.1
 tel : ∀ q, wt (topL n (inOrd xs z)) q = wt pre q + wt (topL c L) q
theorem Pick.start {cols : List Int} {xs : List Ex} {z : List Zp} {n : Int} (h : InpOk cols z) (h0 : 0 ≤ n) : Pick cols xs z n n z [] (inOrd xs z) := by
 have hr : Rise z := ((wrongZ_iff z).1 h.set).2.2
 exact ⟨(inOrd_perm xs z).symm, inOrd_sorted hr, fun x hx => (inOrd_mem.1 hx).1.2, hr, h.fit, fun y hy => by have := set_in h y hy; rwa [inW_iff] at this, h0, by simp, fun y hy => by simp at hy, fun q => by simp [wt]⟩
theorem Pick.head {cols : List Int} {xs : List Ex} {z : List Zp} {n c : Int} {R pre : List Zp} {L : List Kp} (h : Pick cols xs z n c R pre L) {b : Nat} (hb : b < R.length) (hs : Scan xs R R.length (some b)) : ∃ T, L = (rowX xs R[b].1, R[b]) :: T := by
 obtain ⟨_, _, h2, h3⟩ := hs
 have hm : ((rowX xs R[b].1, R[b]) : Kp) ∈ L := (h.perm.mem_iff).1 (by
  unfold withK
  exact List.mem_map.2 ⟨R[b], List.mem_filter.2 ⟨List.getElem_mem hb, by simpa using h2⟩, rfl⟩)
 cases hL : L with
 | nil => rw [hL] at hm; simp at hm
 | cons X T =>
  refine ⟨T, ?_⟩
  rw [hL] at hm
  rcases List.mem_cons.1 hm with e | hT
  ·rw [e]
  ·exfalso
   have hs := h.sorted
   rw [hL] at hs
   have hst := (List.pairwise_cons.1 hs).1 _ hT
   have hX : X ∈ withK xs R := (h.perm.mem_iff).2 (by rw [hL]; simp)
   unfold withK at hX
   obtain ⟨p, hp, rfl⟩ := List.mem_map.1 hX
   obtain ⟨hp1, hp2⟩ := List.mem_filter.1 hp
   obtain ⟨j, hj, rfl⟩ := List.getElem_of_mem hp1
   by_cases e : j = b
   ·subst e; exact StK.irrefl _ hst
   ·refine StK.not hst ?_
    rcases h3 j hj hj e (by simpa using hp2) with hc | ⟨hc, hlt⟩
    ·exact .inl hc
    ·exact .inr ⟨hc, List.pairwise_iff_getElem.1 h.rise b j hb hj hlt⟩
theorem wt_topL_cons (c : Int) (X : Kp) (T : List Kp) (q : List Vl) : wt (topL c (X :: T)) q = (if cmpL X.2.1 q = 0 then min X.2.2 c else 0) + wt (topL (c - min X.2.2 c) T) q := by
 rw [topL, wt]
theorem Pick.step {cols : List Int} {xs : List Ex} {z : List Zp} {n c : Int} {R pre : List Zp} {L : List Kp} (h : Pick cols xs z n c R pre L) {b : Nat} (hb : b < R.length) (hs : Scan xs R R.length (some b)) (hc : 0 < c) : ∃ L', Pick cols xs z n (c - 1) (R.set b (R[b].1, R[b].2 - 1)) (pre ++ [(R[b].1, 1)]) L' := by
 obtain ⟨T, rfl⟩ := h.head hb hs
 have hp : 0 < R[b].2 := by obtain ⟨_, _, h2, _⟩ := hs; exact h2
 have hwb := h.small _ (List.getElem_mem hb)
 have hfb := h.fit _ (List.getElem_mem hb)
 have hw : withK xs R = withK xs (R.take b) ++ ([((rowX xs R[b].1, R[b]) : Kp)] ++ withK xs (R.drop (b + 1))) := by
  have e := congrArg (withK xs) (split_at R b hb)
  rw [withK_append, withK_append, withK_one, if_pos hp] at e
  exact e
 have e0 := h.perm
 rw [hw] at e0
 have e1 : (withK xs (R.take b) ++ withK xs (R.drop (b + 1))).Perm T := by
  have e2 : (withK xs (R.take b) ++ ([((rowX xs R[b].1, R[b]) : Kp)] ++ withK xs (R.drop (b + 1)))).Perm ((rowX xs R[b].1, R[b]) :: (withK xs (R.take b) ++ withK xs (R.drop (b + 1)))) := List.perm_middle
  exact (List.perm_cons _).1 (e2.symm.trans e0)
 have hsT := (List.pairwise_cons.1 h.sorted)
 have hmem : ∀ y ∈ R.set b (R[b].1, R[b].2 - 1), y ∈ R ∨ y = (R[b].1, R[b].2 - 1) := fun y hy => List.mem_or_eq_of_mem_set hy
 have hrise : Rise (R.set b (R[b].1, R[b].2 - 1)) := by
  refine List.pairwise_iff_getElem.2 fun i j hi hj hij => ?_
  have hi' : i < R.length := by simpa using hi
  have hj' : j < R.length := by simpa using hj
  have e : ∀ k (hk : k < R.length), ((R.set b (R[b].1, R[b].2 - 1))[k]'(by simpa using hk)).1 = R[k].1 := fun k hk => by
   rw [List.getElem_set]
   split
   ·rename_i e; subst e; rfl
   ·rfl
  rw [e i hi', e j hj']
  exact List.pairwise_iff_getElem.1 h.rise i j hi' hj' hij
 have base : ∀ L' : List Kp, (withK xs (R.set b (R[b].1, R[b].2 - 1))).Perm L' → L'.Pairwise StK → (∀ x ∈ L', 0 < x.2.2) → (∀ q, wt (topL c ((rowX xs R[b].1, R[b]) :: T)) q = (if cmpL R[b].1 q = 0 then 1 else 0) + wt (topL (c - 1) L') q) → Pick cols xs z n (c - 1) (R.set b (R[b].1, R[b].2 - 1)) (pre ++ [(R[b].1, 1)]) L' := fun L' h1 h2 h3 h4 => by
  refine ⟨h1, h2, h3, hrise, fun y hy => ?_, fun y hy => ?_, by omega, ?_, fun y hy => ?_, fun q => ?_⟩
  ·rcases hmem y hy with hy | rfl
   ·exact h.fit y hy
   ·exact hfb
  ·rcases hmem y hy with hy | rfl
   ·exact h.small y hy
   ·exact ⟨by show -1000000 ≤ R[b].2 - 1; omega, by show R[b].2 - 1 ≤ 1000000; omega⟩
  ·have := h.len; simp; omega
  ·rcases List.mem_append.1 hy with hy | hy
   ·exact h.right y hy
   ·rw [List.mem_singleton.1 hy]; exact ⟨rfl, hfb⟩
  ·rw [h.tel q, h4 q, wt_append]
   have : wt [((R[b].1, 1) : Zp)] q = if cmpL R[b].1 q = 0 then 1 else 0 := by simp [wt]
   rw [this]; omega
 have hper : (withK xs (R.set b (R[b].1, R[b].2 - 1))).Perm ((if 0 < R[b].2 - 1 then [((rowX xs R[b].1, (R[b].1, R[b].2 - 1)) : Kp)] else []) ++ T) := by
  rw [set_split R b hb, withK_append, withK_append, withK_one]
  refine (List.Perm.trans ?_ (e1.append_left _))
  rw [← List.append_assoc, ← List.append_assoc]
  exact List.perm_append_comm.append_right _
 by_cases h1 : 0 < R[b].2 - 1
 ·rw [if_pos h1] at hper
  refine ⟨_, base _ hper (List.pairwise_cons.2 ⟨fun y hy => hsT.1 y hy, hsT.2⟩) (fun x hx => ?_) fun q => ?_⟩
  ·rcases List.mem_append.1 hx with hx | hx
   ·rw [List.mem_singleton.1 hx]; exact h1
   ·exact h.pos x (List.mem_cons_of_mem _ hx)
  ·rw [wt_topL_cons, List.singleton_append, wt_topL_cons]
   simp only
   have e : c - min R[b].2 c = c - 1 - min (R[b].2 - 1) (c - 1) := by omega
   rw [e]
   split <;> omega
 ·rw [if_neg h1] at hper
  refine ⟨_, base _ hper (by simpa using hsT.2) (fun x hx => h.pos x (List.mem_cons_of_mem _ (by simpa using hx))) fun q => ?_⟩
  rw [wt_topL_cons, List.nil_append]
  simp only
  have e : min R[b].2 c = 1 := by omega
  rw [e]
theorem Pick.none {cols : List Int} {xs : List Ex} {z : List Zp} {n c : Int} {R pre : List Zp} {L : List Kp} (h : Pick cols xs z n c R pre L) (hs : Scan xs R R.length none) : canon pre = canon (topL n (inOrd xs z)) := by
 have e : withK xs R = [] := by
  unfold withK
  rw [List.map_eq_nil_iff, List.filter_eq_nil_iff]
  intro y hy
  obtain ⟨j, hj, rfl⟩ := List.getElem_of_mem hy
  have := hs j hj hj
  simp; omega
 have hL : L = [] := by have := h.perm; rw [e] at this; exact this.symm.eq_nil
 refine canon_congr fun q => ?_
 rw [h.tel q, hL]
 simp [topL, wt]
theorem Pick.all {cols : List Int} {xs : List Ex} {z : List Zp} {n : Int} {R pre : List Zp} {L : List Kp} (h : Pick cols xs z n 0 R pre L) : canon pre = canon (topL n (inOrd xs z)) := by
 refine canon_congr fun q => ?_
 rw [h.tel q, (topL_zero L h.pos).1 q]
 omega
end Go.Proofs.YtfojonhblblbjaaGreat
/- The document's answer, chapter 4: the first rows. -/
namespace Go.Proofs.YtfojonhblblbjaaGreat
open Go.RowKit Go.Lib Go.Shelf

theorem rowF_right {cols : List Int} {xs : List Ex} {row : List Vl} (hl : listE cols xs = 0) (hf : FitP cols row) : rightB (rowX xs row) = true := by
 obtain ⟨_, lt⟩ := listE_ok hl
 unfold rightB rowX
 rw [List.all_map, List.all_eq_true]
 intro e he
 have := (valX_of hf e _ (typ_of (lt e he))).1
 simpa [wrongP] using this
end Go.Proofs.YtfojonhblblbjaaGreat
/- Parts of rows, and keys in the order in which they come: plain facts. -/
namespace Go.Proofs.YtfojonhblblbjaaGreat
open Go.RowKit

theorem rowX_len (xs : List Ex) (r : List Vl) : (rowX xs r).length = xs.length := by unfold rowX; rw [List.length_map]
theorem putR_snoc (ps : List Pt) (p : Pt) (r : Zp) : putR (ps ++ [p]) r = ps ++ [(p.1, p.2 ++ [r])] := by
 unfold putR
 rw [dif_neg (by simp)]
 simp
theorem step_cases (ps : List Pt) (x : Kp) : putR (openP ps x) x.2 = ps ++ [(x.1, [x.2])] ∨ ∃ init last, ps = init ++ [last] ∧ cmpL last.1 x.1 = 0 ∧ putR (openP ps x) x.2 = init ++ [(last.1, last.2 ++ [x.2])] := by
 unfold openP
 split
 ·left; rw [putR_snoc]; rfl
 ·rename_i h
  split
  ·rename_i hc
   right
   have hne : ps ≠ [] := fun e => h (by rw [e]; rfl)
   have e := (List.dropLast_concat_getLast hne).symm
   have e2 : ps.getLast hne = ps[ps.length - 1]'(by omega) := List.getLast_eq_getElem hne
   refine ⟨ps.dropLast, ps.getLast hne, e, by rw [e2]; exact hc, ?_⟩
   conv => lhs; rw [e]
   rw [putR_snoc]
  ·left; rw [putR_snoc]; rfl
/-- Parts hold rows, in order, each with its keys. -/
structure PtInv (f : Zp → List Vl) (ps : List Pt) (D : List Zp) : Prop where
 flat : ps.flatMap (fun p => p.2) = D
 some : ∀ p ∈ ps, p.2 ≠ []
 key : ∀ p ∈ ps, ∀ r ∈ p.2, cmpL (f r) p.1 = 0
theorem PtInv.step {f : Zp → List Vl} {ps : List Pt} {D : List Zp} (h : PtInv f ps D) {x : Kp} (hx : x.1 = f x.2) : PtInv f (putR (openP ps x) x.2) (D ++ [x.2]) := by
 rcases step_cases ps x with e | ⟨init, last, e0, hc, e⟩
 ·rw [e]
  refine ⟨by rw [List.flatMap_append, h.flat]; simp, ?_, ?_⟩
  ·intro p hp
   rcases List.mem_append.1 hp with hp | hp
   ·exact h.some p hp
   ·rw [List.mem_singleton.1 hp]; simp
  ·intro p hp r hr
   rcases List.mem_append.1 hp with hp | hp
   ·exact h.key p hp r hr
   ·rw [List.mem_singleton.1 hp] at hr ⊢
    rw [List.mem_singleton.1 hr, ← hx]
    exact cmpL_refl _
 ·rw [e]
  subst e0
  refine ⟨?_, ?_, ?_⟩
  ·have := h.flat
   rw [List.flatMap_append] at this ⊢
   rw [← this]
   simp
  ·intro p hp
   rcases List.mem_append.1 hp with hp | hp
   ·exact h.some p (by simp [hp])
   ·rw [List.mem_singleton.1 hp]; simp
  ·intro p hp r hr
   rcases List.mem_append.1 hp with hp | hp
   ·exact h.key p (by simp [hp]) r hr
   ·rw [List.mem_singleton.1 hp] at hr ⊢
    rcases List.mem_append.1 hr with hr | hr
    ·exact h.key last (by simp) r hr
    ·rw [List.mem_singleton.1 hr, ← hx]
     have := cmpL_neg last.1 x.1
     show cmpL x.1 last.1 = 0
     omega
theorem PtInv.all {f : Zp → List Vl} : ∀ (L : List Kp) (ps : List Pt) (D : List Zp), (∀ x ∈ L, x.1 = f x.2) → PtInv f ps D → PtInv f (L.foldl (fun ps x => putR (openP ps x) x.2) ps) (D ++ L.map fun x => x.2)
 | [], ps, D, _, h => by simpa using h
 | x :: r, ps, D, hL, h => by
  have := PtInv.all r _ _ (fun y hy => hL y (by simp [hy])) (h.step (hL x (by simp)))
  simpa using this
theorem parts_inv (xs : List Ex) (z : List Zp) : PtInv (fun r => rowX xs r.1) (partL (inOrd xs z)) ((inOrd xs z).map fun x => x.2) := by
 have := PtInv.all (f := fun r => rowX xs r.1) (inOrd xs z) [] [] (fun x hx => (inOrd_mem.1 hx).2) ⟨rfl, fun p hp => by simp at hp, fun p hp => by simp at hp⟩
 simpa [partL] using this
/-- The rows that are there with such keys. -/
def rowsR (xs : List Ex) (z : List Zp) (h : List Vl) : List Zp := z.filter fun r => decide (0 < r.2) && decide (cmpL (rowX xs r.1) h = 0)
theorem rowsR_congr {xs : List Ex} {z : List Zp} {h h' : List Vl} (e : cmpL h h' = 0) : rowsR xs z h = rowsR xs z h' := by
 unfold rowsR
 congr 1
 funext r
 rw [cmpL_right e]
theorem filter_parts {f : Zp → List Vl} : ∀ (ps : List Pt) (p : Pt), (∀ p ∈ ps, ∀ r ∈ p.2, cmpL (f r) p.1 = 0) → ps.Pairwise (fun p q => cmpL p.1 q.1 < 0) → p ∈ ps → (ps.flatMap fun p => p.2).filter (fun r => decide (cmpL (f r) p.1 = 0)) = p.2
 | q :: t, p, hk, hr, hp => by
  obtain ⟨r1, r2⟩ := List.pairwise_cons.1 hr
  rw [List.flatMap_cons, List.filter_append]
  rcases List.mem_cons.1 hp with rfl | hp
  ·rw [List.filter_eq_self.2 fun r hr => by simpa using hk p (by simp) r hr]
   have : (t.flatMap fun p => p.2).filter (fun r => decide (cmpL (f r) p.1 = 0)) = [] := by
    rw [List.filter_eq_nil_iff]
    intro r hr
    obtain ⟨q, hq, hr⟩ := List.mem_flatMap.1 hr
    have e1 := hk q (by simp [hq]) r hr
    have e2 := r1 q hq
    rw [cmpL_left e1]
    have := cmpL_neg p.1 q.1
    simp
    omega
   rw [this, List.append_nil]
  ·have : q.2.filter (fun r => decide (cmpL (f r) p.1 = 0)) = [] := by
    rw [List.filter_eq_nil_iff]
    intro r hr
    have e1 := hk q (by simp) r hr
    have e2 := r1 p hp
    rw [cmpL_left e1]
    simp
    omega
   rw [this, List.nil_append]
   exact filter_parts t p (fun p hp => hk p (by simp [hp])) r2 hp
theorem part_rows {xs : List Ex} {z : List Zp} (hz : Rise z) {p : Pt} (hp : p ∈ partL (inOrd xs z)) : p.2 = rowsR xs z p.1 := by
 have hI := parts_inv xs z
 have h1 := filter_parts _ p hI.key (partL_rise hz) hp
 rw [hI.flat] at h1
 have e1 : ((inOrd xs z).map fun x => x.2).filter (fun r => decide (cmpL (rowX xs r.1) p.1 = 0)) = ((inOrd xs z).filter fun x => decide (cmpL x.1 p.1 = 0)).map fun x => x.2 := by
  rw [List.filter_map]
  congr 1
  refine List.filter_congr fun x hx => ?_
  have := (inOrd_mem.1 hx).2
  simp only [Function.comp]
  rw [← this]
 have e2 : (inOrd xs z).filter (fun x => decide (cmpL x.1 p.1 = 0)) = (withK xs z).filter fun x => decide (cmpL x.1 p.1 = 0) := by
  refine sorted_uniq _ _ ((inOrd_perm xs z).filter _) ((inOrd_sorted hz).filter _) ?_
  have hw := (withK_rise (xs := xs) hz).filter fun x => decide (cmpL x.1 p.1 = 0)
  refine hw.imp_of_mem fun {x y} hx hy hr => .inr ⟨?_, hr⟩
  have h1 : cmpL x.1 p.1 = 0 := by simpa using (List.mem_filter.1 hx).2
  have h2 : cmpL y.1 p.1 = 0 := by simpa using (List.mem_filter.1 hy).2
  rw [cmpL_left h1]
  have := cmpL_neg y.1 p.1
  omega
 rw [← h1, e1, e2]
 unfold withK rowsR
 rw [List.filter_map, List.map_map, List.filter_filter]
 have : ((fun x : Kp => x.2) ∘ fun p => (rowX xs p.1, p)) = id := rfl
 rw [this, List.map_id]
 refine List.filter_congr fun r _ => ?_
 simp only [Function.comp]
 rw [Bool.and_comm]
/-- Keys in the order in which rows that are there come. -/
def headStep (xs : List Ex) (H : List (List Vl)) (r : Zp) : List (List Vl) := if r.2 ≤ 0 ∨ ∃ h ∈ H, cmpL h (rowX xs r.1) = 0 then H else H ++ [rowX xs r.1]
def headsR (xs : List Ex) (z : List Zp) : List (List Vl) := z.foldl (headStep xs) (if xs.length = 0 then [[]] else [])
theorem headsR_take (xs : List Ex) {z : List Zp} {k : Nat} (h : k < z.length) : headsR xs (z.take (k + 1)) = headStep xs (headsR xs (z.take k)) z[k] := by
 unfold headsR
 rw [List.take_succ_eq_append_getElem h, List.foldl_append]
 rfl
structure HInv (xs : List Ex) (H : List (List Vl)) (D : List Zp) : Prop where
 from' : ∀ h ∈ H, (h = [] ∧ xs.length = 0) ∨ ∃ r ∈ D, 0 < r.2 ∧ h = rowX xs r.1
 to : ∀ r ∈ D, 0 < r.2 → ∃ h ∈ H, cmpL h (rowX xs r.1) = 0
 apart : H.Pairwise fun a b => cmpL a b ≠ 0
 zero : xs.length = 0 → [] ∈ H
 len : H.length ≤ D.length + 1
 size : xs.length ≠ 0 → H.length ≤ D.length
theorem HInv.step {xs : List Ex} {H : List (List Vl)} {D : List Zp} (h : HInv xs H D) (r : Zp) : HInv xs (headStep xs H r) (D ++ [r]) := by
 unfold headStep
 split
 ·rename_i hc
  refine ⟨fun a ha => ?_, fun s hs hp => ?_, h.apart, h.zero, by have := h.len; simp; omega, fun hx => by have := h.size hx; simp; omega⟩
  ·rcases h.from' a ha with h1 | ⟨r', h1, h2⟩
   ·exact .inl h1
   ·exact .inr ⟨r', by simp [h1], h2⟩
  ·rcases List.mem_append.1 hs with hs | hs
   ·exact h.to s hs hp
   ·rw [List.mem_singleton.1 hs] at hp ⊢
    rcases hc with hc | hc
    ·omega
    ·exact hc
 ·rename_i hc
  have hpos : 0 < r.2 := by
   by_cases h0 : r.2 ≤ 0
   ·exact absurd (.inl h0) hc
   ·omega
  refine ⟨fun a ha => ?_, fun s hs hp => ?_, ?_, fun hx => by simp [h.zero hx], by have := h.len; simp; omega, fun hx => by have := h.size hx; simp; omega⟩
  ·rcases List.mem_append.1 ha with ha | ha
   ·rcases h.from' a ha with h1 | ⟨r', h1, h2⟩
    ·exact .inl h1
    ·exact .inr ⟨r', by simp [h1], h2⟩
   ·exact .inr ⟨r, by simp, hpos, List.mem_singleton.1 ha⟩
  ·rcases List.mem_append.1 hs with hs | hs
   ·obtain ⟨a, ha, e⟩ := h.to s hs hp
    exact ⟨a, by simp [ha], e⟩
   ·exact ⟨rowX xs r.1, by simp, by rw [List.mem_singleton.1 hs]; exact cmpL_refl _⟩
  ·refine List.pairwise_append.2 ⟨h.apart, List.pairwise_singleton _ _, fun a ha b hb e => ?_⟩
   rw [List.mem_singleton.1 hb] at e
   exact hc (.inr ⟨a, ha, e⟩)
theorem heads_inv (xs : List Ex) (z : List Zp) : HInv xs (headsR xs z) z := by
 have aux : ∀ (z D : List Zp) (H : List (List Vl)), HInv xs H D → HInv xs (z.foldl (headStep xs) H) (D ++ z) := by
  intro z
  induction z with
  | nil => intro D H h; simpa using h
  | cons r t ih =>
   intro D H h
   have := ih _ _ (h.step r)
   simpa using this
 have := aux z [] (if xs.length = 0 then [[]] else []) (by
  split
  ·rename_i h0
   exact ⟨fun a ha => .inl ⟨by simpa using ha, h0⟩, fun r hr => by simp at hr, by simp, fun _ => by simp, by simp, fun h => absurd h0 h⟩
  ·rename_i h0
   exact ⟨fun a ha => by simp at ha, fun r hr => by simp at hr, by simp, fun h => absurd h h0, by simp, fun _ => by simp⟩)
 simpa [headsR] using this
def refL (xs : List Ex) (gs : List Ag) (z : List Zp) (H : List (List Vl)) : List Zp := H.map fun h => (h ++ gs.map fun g => aggP g (rowsR xs z h), 1)
theorem cmpL_same_app : ∀ {a b : List Vl} (x : List Vl), cmpL a b = 0 → cmpL (a ++ x) (b ++ x) = 0
 | [], [], x, _ => cmpL_refl x
 | [], _ :: _, _, h => by simp [cmpL] at h
 | _ :: _, [], _, h => by simp [cmpL] at h
 | u :: r, v :: t, x, h => by
  unfold cmpL at h
  simp only [List.cons_append]
  unfold cmpL
  split at h
  ·rename_i e
   rw [if_pos e]
   exact cmpL_same_app x h
  ·rename_i e
   exact absurd h e
theorem apart_wt {l t : List Zp} (hl : l.Pairwise fun x y => cmpL x.1 y.1 ≠ 0) (ht : t.Pairwise fun x y => cmpL x.1 y.1 ≠ 0) (h : ∀ x ∈ l, ∃ y ∈ t, y.2 = x.2 ∧ cmpL x.1 y.1 = 0) (h' : ∀ y ∈ t, ∃ x ∈ l, cmpL x.1 y.1 = 0) (q : List Vl) : wt l q = wt t q := by
 by_cases c : ∃ x ∈ l, cmpL x.1 q = 0
 ·obtain ⟨x, hx, e⟩ := c
  obtain ⟨y, hy, e2, e3⟩ := h x hx
  rw [← wt_congr e l, wt_apart hl x hx, ← wt_congr e t, wt_congr e3 t, wt_apart ht y hy, e2]
 ·rw [wt_none fun x hx hc => c ⟨x, hx, hc⟩, wt_none fun y hy hc => ?_]
  obtain ⟨x, hx, e⟩ := h' y hy
  exact c ⟨x, hx, by rw [cmpL_left e]; exact hc⟩
theorem parts_keys {xs : List Ex} {z : List Zp} (hz : Rise z) : (partsG xs (inOrd xs z)).Pairwise (fun p q => cmpL p.1 q.1 ≠ 0) ∧ ∀ p ∈ partsG xs (inOrd xs z), p.2 = rowsR xs z p.1 ∧ p.1.length = xs.length ∧ (xs.length = 0 ∨ ∃ r ∈ z, 0 < r.2 ∧ cmpL (rowX xs r.1) p.1 = 0) := by
 unfold partsG
 have hI := parts_inv xs z
 split
 ·rename_i h0
  have hn : partL (inOrd xs z) = [] := List.eq_nil_of_length_eq_zero h0.2
  refine ⟨List.pairwise_singleton _ _, fun p hp => ?_⟩
  rw [List.mem_singleton.1 hp]
  refine ⟨?_, h0.1.symm, .inl h0.1⟩
  have := hI.flat
  rw [hn] at this
  have hL : inOrd xs z = [] := by simpa using this.symm
  show ([] : List Zp) = _
  unfold rowsR
  symm
  rw [List.filter_eq_nil_iff]
  intro r hr hc
  have hp : 0 < r.2 := by
   simp at hc
   exact hc.1
  have : (rowX xs r.1, r) ∈ inOrd xs z := inOrd_mem.2 ⟨⟨hr, hp⟩, rfl⟩
  rw [hL] at this
  cases this
 ·refine ⟨(partL_rise hz).imp fun {p q} h => by omega, fun p hp => ?_⟩
  have e := part_rows hz hp
  obtain ⟨r, hr⟩ := List.exists_mem_of_ne_nil _ (hI.some p hp)
  have hk := hI.key p hp r hr
  rw [e] at hr
  unfold rowsR at hr
  have hr := List.mem_filter.1 hr
  have hp : 0 < r.2 := by
   have := hr.2
   simp at this
   exact this.1
  exact ⟨e, by rw [← cmpL_len hk, rowX_len], .inr ⟨r, hr.1, hp, hk⟩⟩
theorem parts_have {xs : List Ex} {z : List Zp} {r : Zp} (hr : r ∈ z) (hp : 0 < r.2) : ∃ p ∈ partsG xs (inOrd xs z), cmpL (rowX xs r.1) p.1 = 0 := by
 have hI := parts_inv xs z
 have hm : (rowX xs r.1, r) ∈ inOrd xs z := inOrd_mem.2 ⟨⟨hr, hp⟩, rfl⟩
 have hf : r ∈ (partL (inOrd xs z)).flatMap fun p => p.2 := by
  rw [hI.flat]
  exact List.mem_map.2 ⟨_, hm, rfl⟩
 obtain ⟨p, hp, hr⟩ := List.mem_flatMap.1 hf
 refine ⟨p, ?_, hI.key p hp r hr⟩
 unfold partsG
 rw [if_neg fun h => by
  have := List.eq_nil_of_length_eq_zero h.2
  rw [this] at hp
  cases hp]
 exact hp
theorem ref_canon {xs : List Ex} {z : List Zp} (gs : List Ag) (hz : Rise z) : canon (refL xs gs z (headsR xs z)) = canon (groupL xs gs (inOrd xs z)) := by
 have hH := heads_inv xs z
 obtain ⟨ha, hp⟩ := parts_keys (xs := xs) hz
 have hlen : ∀ h ∈ headsR xs z, h.length = xs.length := fun h hh => by
  rcases hH.from' h hh with ⟨rfl, e⟩ | ⟨r, _, _, rfl⟩
  ·exact e.symm
  ·exact rowX_len _ _
 have key : ∀ h ∈ headsR xs z, ∀ p ∈ partsG xs (inOrd xs z), cmpL h p.1 = 0 → cmpL (h ++ gs.map fun g => aggP g (rowsR xs z h)) (p.1 ++ gs.map fun g => aggP g p.2) = 0 := fun h hh p hp' e => by
  rw [(hp p hp').1, rowsR_congr e]
  exact cmpL_same_app _ e
 refine canon_congr fun q => apart_wt ?_ ?_ ?_ ?_ q
 ·unfold refL
  rw [List.pairwise_map]
  exact hH.apart.imp_of_mem fun {a b} h1 h2 hc e => hc (cmpL_app (by rw [hlen a h1, hlen b h2]) e)
 ·unfold groupL
  rw [List.pairwise_map]
  exact ha.imp_of_mem fun {a b} h1 h2 hc e => hc (cmpL_app (by rw [(hp a h1).2.1, (hp b h2).2.1]) e)
 ·intro x hx
  obtain ⟨h, hh, rfl⟩ := List.mem_map.1 hx
  have : ∃ p ∈ partsG xs (inOrd xs z), cmpL h p.1 = 0 := by
   rcases hH.from' h hh with ⟨rfl, e⟩ | ⟨r, hr, hr0, rfl⟩
   ·have : partsG xs (inOrd xs z) ≠ [] := by
     unfold partsG
     split
     ·simp
     ·rename_i hc
      intro e2
      rw [e2] at hc
      exact hc ⟨e, rfl⟩
    obtain ⟨p, hp'⟩ := List.exists_mem_of_ne_nil _ this
    have : p.1 = [] := List.eq_nil_of_length_eq_zero (by rw [(hp p hp').2.1, e])
    exact ⟨p, hp', by rw [this]; exact cmpL_refl _⟩
   ·exact parts_have hr hr0
  obtain ⟨p, hp', e⟩ := this
  exact ⟨_, List.mem_map.2 ⟨p, hp', rfl⟩, rfl, key h hh p hp' e⟩
 ·intro y hy
  obtain ⟨p, hp', rfl⟩ := List.mem_map.1 hy
  have : ∃ h ∈ headsR xs z, cmpL h p.1 = 0 := by
   rcases (hp p hp').2.2 with e | ⟨r, hr, hr0, e⟩
   ·have : p.1 = [] := List.eq_nil_of_length_eq_zero (by rw [(hp p hp').2.1, e])
    exact ⟨[], hH.zero e, by rw [this]; exact cmpL_refl _⟩
   ·obtain ⟨h, hh, e2⟩ := hH.to r hr hr0
    exact ⟨h, hh, by rw [cmpL_left e2]; exact e⟩
  obtain ⟨h, hh, e⟩ := this
  exact ⟨_, List.mem_map.2 ⟨h, hh, rfl⟩, key h hh p hp' e⟩
theorem apart_gather {l : List Zp} (hl : l.Pairwise fun x y => cmpL x.1 y.1 ≠ 0) (h1 : ∀ x ∈ l, x.2 = 1) (hn : l.length ≤ 400) : gatherE l = 0 := by
 have hset : IsSet (canon l) := canon_set _
 unfold gatherE
 rw [if_neg, if_neg]
 ·have := canon_lenV l
  omega
 ·intro ho
  have : ∃ y ∈ canon l, inW y.2 = false := by
   unfold outW at ho
   simpa using ho
  obtain ⟨y, hy, hw⟩ := this
  have e1 := wt_mem hset.rise y hy
  rw [canon_wt] at e1
  obtain ⟨x, hx, e2⟩ := wt_some (l := l) (q := y.1) (by rw [e1]; exact hset.ne y hy)
  rw [← wt_congr e2 l, wt_apart hl x hx, h1 x hx] at e1
  have hin : inW y.2 = true := by rw [inW_iff]; omega
  rw [hin] at hw
  cases hw
theorem flat_len : ∀ (ps : List Pt), (∀ p ∈ ps, p.2 ≠ []) → ps.length ≤ (ps.flatMap fun p => p.2).length
 | [], _ => by simp
 | p :: t, h => by
  have ih := flat_len t fun q hq => h q (by simp [hq])
  have : 0 < p.2.length := List.length_pos_iff.2 (h p (by simp))
  rw [List.flatMap_cons, List.length_append, List.length_cons]
  omega
theorem parts_len (xs : List Ex) (z : List Zp) (h4 : z.length ≤ 400) : (partsG xs (inOrd xs z)).length ≤ 400 := by
 have hI := parts_inv xs z
 have h1 := flat_len _ hI.some
 rw [hI.flat, List.length_map] at h1
 have := inOrd_len xs z
 unfold partsG
 split
 ·simp
 ·omega
theorem group_gather {xs : List Ex} {z : List Zp} (gs : List Ag) (hz : Rise z) (h4 : z.length ≤ 400) : gatherE (groupL xs gs (inOrd xs z)) = 0 := by
 obtain ⟨ha, hp⟩ := parts_keys (xs := xs) hz
 refine apart_gather ?_ ?_ ?_
 ·unfold groupL
  rw [List.pairwise_map]
  exact ha.imp_of_mem fun {a b} h1 h2 hc e => hc (cmpL_app (by rw [(hp a h1).2.1, (hp b h2).2.1]) e)
 ·intro x hx
  obtain ⟨p, hp', rfl⟩ := List.mem_map.1 hx
  rfl
 ·unfold groupL
  rw [List.length_map]
  exact parts_len xs z h4
end Go.Proofs.YtfojonhblblbjaaGreat
/- The document's answer, chapter 4: types of aggregates. -/
namespace Go.Proofs.YtfojonhblblbjaaGreat
open Go.RowKit Go.Lib Go.Shelf

set_option maxRecDepth 100000 in
set_option maxHeartbeats 4000000 in
theorem refAggTypes_at (cols : List Int) (gs : List Ag) (ca : Option Addr) (ccap : Nat) (xa : Option Addr) (xcap : Nat) (w : World) (hk : AgAt w.heap.size w xa gs) (hc : IsAt w.heap.size w ca cols) (h8 : gs.length ≤ 8) :
  Calls Tryz.prog 58 #[.slice ca cols.length ccap, .slice xa gs.length xcap] w fun e w' => ∃ v, e = .returned (.tuple #[v, .int .i64 (aggsE cols gs)]) ∧ Below w.heap.size w w' := by
 obtain ⟨ii, hii, hv0, hv1, hv2⟩ := info_parts infoI
 generalize hle : aggsE cols gs = le
 have HE : Hid (aggsE cols gs = le) := hle
 clear hle
 go_enter Tryz.func58, Tryz.ntmps58
 go_wp2_with fail
 go_loopw [6, 13] (fun v i wr => ∃ j : Nat, j ≤ gs.length ∧ i = .int .i64 j ∧ (∃ ys, wr.ownsRow w.heap.size 3 1 v j ys) ∧ Hid (le = aggsE cols (gs.drop j)) ∧ Below w.heap.size w wr) (fun _ i _ => gs.length - (intOf i).toNat)
 case atStart => exact ⟨0, Nat.zero_le _, rfl, ⟨[], World.ownsRow_nil _ _ _ _⟩, HE.out.symm, Below.refl _ _⟩
 case round =>
  obtain ⟨j, hj, rfl, ⟨ys, Oj⟩, HT, hb⟩ := hrel
  have hzb := hb.size
  by_cases hlt : j < gs.length
  ·obtain ⟨b, off, ai, ci, rfl, hbl, x0, sx, kx⟩ := (AgAt.next hb (Nat.le_refl _) hk).elem hlt
   obtain ⟨x1, x2, x3, x4, x5, x6⟩ := sx
   have hjz : (j : Int) < gs.length := by omega
   have hal : Below wr.heap.size wr (wr.alloc (.cells #[.int .i64 gs[j].1, .int .i64 gs[j].2.k, .int .i64 gs[j].2.v.1, .int .i64 gs[j].2.v.2.1, .string gs[j].2.v.2.2, .int .i64 gs[j].2.c, .slice ai gs[j].2.ks.length ci] 96)) := (Below.refl _ _).alloc (Nat.le_refl _) _
   have q0 := heap_new wr #[.int .i64 gs[j].1, .int .i64 gs[j].2.k, .int .i64 gs[j].2.v.1, .int .i64 gs[j].2.v.2.1, .string gs[j].2.v.2.2, .int .i64 gs[j].2.c, .slice ai gs[j].2.ks.length ci] 96
   have O1 := own_next Oj hal
   have hA1 := chain hb hal
   have kk := (KsAt.next hal hzb kx).up (Nat.le_trans hzb hal.size)
   have cc := ((hc.next hb (Nat.le_refl _)).next hal hzb).up (Nat.le_trans hzb hal.size)
   have con := refType_at cols gs[j].2 ca ccap ai ci _ kk cc
   have HMe : Hid (measE cols gs[j] = if gs[j].1 = 1 then 0 else if gs[j].1 < 2 ∨ 5 < gs[j].1 then 1 else if (typeTop cols gs[j].2).2 ≠ 0 then (typeTop cols gs[j].2).2 else if gs[j].1 = 3 ∧ (typeTop cols gs[j].2).1 ≠ 3 ∧ (typeTop cols gs[j].2).1 ≠ 1 then 9 else 0) := rfl
   unfold exV at con
   go_upto_region 5 with fail
   clear x0 x1 x2 x3 x4 x5 x6 kx kk cc
   generalize wr.alloc (.cells #[.int .i64 gs[j].1, .int .i64 gs[j].2.k, .int .i64 gs[j].2.v.1, .int .i64 gs[j].2.v.2.1, .string gs[j].2.v.2.2, .int .i64 gs[j].2.c, .slice ai gs[j].2.ks.length ci] 96) = wk at *
   have HOk : Hid (measE cols gs[j] = 0 → le = aggsE cols (gs.drop (j + 1))) := fun h => HT.out.trans (aggsE_next cols gs j hlt h)
   have HBad : Hid (¬ measE cols gs[j] = 0 → le = measE cols gs[j]) := fun h => HT.out.trans (aggsE_bad cols gs j hlt h)
   clear HT Oj
   generalize hkd : gs[j].1 = kd at *
   clear hkd
   have hz1 := hA1.size
   have p0 : wk.cell? ⟨wr.heap.size, 0, none⟩ = some (.int .i64 kd) := cell_of (i := 0) q0 rfl
   have p1 : wk.cell? ⟨wr.heap.size, 1, none⟩ = some (.int .i64 gs[j].2.k) := cell_of (i := 1) q0 rfl
   have p2 : wk.cell? ⟨wr.heap.size, 2, none⟩ = some (.int .i64 gs[j].2.v.1) := cell_of (i := 2) q0 rfl
   have p3 : wk.cell? ⟨wr.heap.size, 3, none⟩ = some (.int .i64 gs[j].2.v.2.1) := cell_of (i := 3) q0 rfl
   have p4 : wk.cell? ⟨wr.heap.size, 4, none⟩ = some (.string gs[j].2.v.2.2) := cell_of (i := 4) q0 rfl
   have p5 : wk.cell? ⟨wr.heap.size, 5, none⟩ = some (.int .i64 gs[j].2.c) := cell_of (i := 5) q0 rfl
   have p6 : wk.cell? ⟨wr.heap.size, 6, none⟩ = some (.slice ai gs[j].2.ks.length ci) := cell_of (i := 6) q0 rfl
   by_cases hr : kd < 1 ∨ 5 < kd
   ·have em : measE cols gs[j] = 1 := by rw [HMe.out, if_neg (by omega), if_pos (by omega)]
    have el : le = 1 := by rw [HBad.out (by rw [em]; decide), em]
    subst el
    clear con HMe HOk HBad em
    by_cases hr1 : kd < 1
    ·go_wp2_with fail
     first
      | exact bodyPost_ret (v := .tuple #[.slice none 0 0, .int .i64 1]) (by simp [results, Tryz.results58, go_sem]) rfl ⟨_, rfl, hA1⟩
      | exact bodyPost_ret (v := .tuple #[.slice none 0 0, .int .i64 1]) (by simp [results, Tryz.results58, go_sem]) rfl ⟨⟨_, rfl⟩, hA1⟩
      | exact bodyPost_ret (v := .tuple #[.slice none 0 0, .int .i64 1]) (by simp [results, Tryz.results58, go_sem]) rfl hA1
    ·have hr2 : 5 < kd := by omega
     go_wp2_with fail
     first
      | exact bodyPost_ret (v := .tuple #[.slice none 0 0, .int .i64 1]) (by simp [results, Tryz.results58, go_sem]) rfl ⟨_, rfl, hA1⟩
      | exact bodyPost_ret (v := .tuple #[.slice none 0 0, .int .i64 1]) (by simp [results, Tryz.results58, go_sem]) rfl ⟨⟨_, rfl⟩, hA1⟩
      | exact bodyPost_ret (v := .tuple #[.slice none 0 0, .int .i64 1]) (by simp [results, Tryz.results58, go_sem]) rfl hA1
   ·have hr1 : ¬ kd < 1 := fun h => hr (.inl h)
    have hr2 : ¬ 5 < kd := fun h => hr (.inr h)
    clear hr
    by_cases h1 : kd = 1
    ·subst h1
     have HN : Hid (le = aggsE cols (gs.drop (j + 1))) := HOk.out (by rw [HMe.out, if_pos rfl])
     clear con HMe HOk HBad
     have one1 : ∀ u ∈ [Value.int .i64 3], u.oneCell' = true := by intro u hu; simp at hu; subst hu; rfl
     have at1 : ∀ i u, [Value.int .i64 3][i]? = some u → (wk.alloc (.cells #[.int .i64 3] 3)).cell? ((⟨wk.heap.size, 0, none⟩ : Addr).add i) = some u := by
      intro i u hu
      match i, hu with
      | 0, hu => simp at hu; subst hu; simp [Addr.add]
     have len1 : j + 1 ≤ maxLen := by unfold maxLen; omega
     have byt1 : (j + 1) * 8 ≤ 140737488355328 := by omega
     have bas1 : w.heap.size ≤ (wk.alloc (.cells #[.int .i64 3] 3)).heap.size := by simp; omega
     have OA := O1.alloc (.cells #[.int .i64 3] 3)
     go_wp2_with (first | (at_builtin; refine wpList_append_own _ rfl _ _ 22 rfl w.heap.size 3 ii _ 1 8 Tryz.underlying22 hii hv0 hv1 hv2 rfl (by decide) _ _ _ rfl OA ⟨wk.heap.size, 0, none⟩ 1 1 [.int .i64 3] rfl rfl at1 one1 len1 byt1 bas1 ?_))
     intro v' w5 o5 g5 _
     have hb5 : Below w.heap.size w w5 := hA1.trans (((Below.refl _ _).alloc (by omega) _).grown g5 (by simp; omega) (fun q hq => (OA.lt q hq).1))
     clear g5 one1 at1 OA
     go_wp2_with fail
     go_roundw
     case rel => exact ⟨j + 1, by omega, by go_num, ⟨_, o5⟩, HN, hb5⟩
     case measure => simp [intOf]; omega
    ·have h1b : (kd == 1) = false := by simpa using h1
     by_cases h0 : (typeTop cols gs[j].2).2 = 0
     ·rw [h0] at con
      have hm : measE cols gs[j] = if kd = 3 ∧ (typeTop cols gs[j].2).1 ≠ 3 ∧ (typeTop cols gs[j].2).1 ≠ 1 then 9 else 0 := by rw [HMe.out, if_neg h1, if_neg (by omega), if_neg (by simpa using h0)]
      have HMm : Hid (measE cols gs[j] = if kd = 3 ∧ (typeTop cols gs[j].2).1 ≠ 3 ∧ (typeTop cols gs[j].2).1 ≠ 1 then 9 else 0) := hm
      clear hm HMe h0
      generalize (typeTop cols gs[j].2).1 = t at *
      have hk4 : kd = 2 ∨ kd = 3 ∨ kd = 4 ∨ kd = 5 := by omega
      clear h1 hr1 hr2 h1b
      by_cases hbad : kd = 3 ∧ t ≠ 3 ∧ t ≠ 1
      ·obtain ⟨rfl, ht3, ht1⟩ := hbad
       have em : measE cols gs[j] = 9 := by rw [HMm.out, if_pos ⟨rfl, ht3, ht1⟩]
       have el : le = 9 := by rw [HBad.out (by rw [em]; decide), em]
       subst el
       have t3 : (t != 3) = true := by simpa using ht3
       have t1 : (t != 1) = true := by simpa using ht1
       clear HMm HOk HBad em ht3 ht1 hk4
       go_wp2_with fail
       refine con.mono ?_
       rintro e w4 ⟨rfl, hb4⟩
       have c0 := (hb4.cell (p := ⟨wr.heap.size, 0, none⟩) (lt_of_heap q0)).trans p0
       clear con p0 p1 p2 p3 p4 p5 p6
       dsimp only
       go_wp2_with fail
       first
        | exact bodyPost_ret (v := .tuple #[.slice none 0 0, .int .i64 9]) (by simp [results, Tryz.results58, go_sem]) rfl ⟨_, rfl, chain hA1 hb4⟩
        | exact bodyPost_ret (v := .tuple #[.slice none 0 0, .int .i64 9]) (by simp [results, Tryz.results58, go_sem]) rfl ⟨⟨_, rfl⟩, chain hA1 hb4⟩
        | exact bodyPost_ret (v := .tuple #[.slice none 0 0, .int .i64 9]) (by simp [results, Tryz.results58, go_sem]) rfl chain hA1 hb4
      ·have HN : Hid (le = aggsE cols (gs.drop (j + 1))) := HOk.out (by rw [HMm.out, if_neg hbad])
       have hcase : (kd = 2) ∨ (kd = 3 ∧ t = 1) ∨ (kd = 3 ∧ t = 3) ∨ kd = 4 ∨ kd = 5 := by
        rcases hk4 with e | e | e | e
        ·exact .inl e
        ·by_cases e3 : t = 3
         ·exact .inr (.inr (.inl ⟨e, e3⟩))
         ·by_cases e1 : t = 1
          ·exact .inr (.inl ⟨e, e1⟩)
          ·exact absurd ⟨e, e3, e1⟩ hbad
        ·exact .inr (.inr (.inr (.inl e)))
        ·exact .inr (.inr (.inr (.inr e)))
       clear HMm HOk HBad hbad hk4
       rcases hcase with rfl | ⟨rfl, rfl⟩ | ⟨rfl, rfl⟩ | rfl | rfl
       ·go_wp2_with fail
        refine con.mono ?_
        rintro e w4 ⟨rfl, hb4⟩
        have c0 := (hb4.cell (p := ⟨wr.heap.size, 0, none⟩) (lt_of_heap q0)).trans p0
        have O4 := own_next O1 hb4
        have hA4 := chain hA1 hb4
        have hz4 := hA4.size
        clear con p0 p1 p2 p3 p4 p5 p6
        dsimp only
        have one1 : ∀ u ∈ [Value.int .i64 3], u.oneCell' = true := by intro u hu; simp at hu; subst hu; rfl
        have at1 : ∀ i u, [Value.int .i64 3][i]? = some u → (w4.alloc (.cells #[.int .i64 3] 3)).cell? ((⟨w4.heap.size, 0, none⟩ : Addr).add i) = some u := by
         intro i u hu
         match i, hu with
         | 0, hu => simp at hu; subst hu; simp [Addr.add]
        have len1 : j + 1 ≤ maxLen := by unfold maxLen; omega
        have byt1 : (j + 1) * 8 ≤ 140737488355328 := by omega
        have bas1 : w.heap.size ≤ (w4.alloc (.cells #[.int .i64 3] 3)).heap.size := by simp; omega
        have OA := O4.alloc (.cells #[.int .i64 3] 3)
        go_wp2_with (first | (at_builtin; refine wpList_append_own _ rfl _ _ 22 rfl w.heap.size 3 ii _ 1 8 Tryz.underlying22 hii hv0 hv1 hv2 rfl (by decide) _ _ _ rfl OA ⟨w4.heap.size, 0, none⟩ 1 1 [.int .i64 3] rfl rfl at1 one1 len1 byt1 bas1 ?_))
        intro v' w5 o5 g5 _
        have hb5 : Below w.heap.size w w5 := hA4.trans (((Below.refl _ _).alloc (by omega) _).grown g5 (by simp; omega) (fun q hq => (OA.lt q hq).1))
        clear g5 one1 at1 OA
        go_wp2_with fail
        go_roundw
        case rel => exact ⟨j + 1, by omega, by go_num, ⟨_, o5⟩, HN, hb5⟩
        case measure => simp [intOf]; omega
       ·go_wp2_with fail
        refine con.mono ?_
        rintro e w4 ⟨rfl, hb4⟩
        have c0 := (hb4.cell (p := ⟨wr.heap.size, 0, none⟩) (lt_of_heap q0)).trans p0
        have O4 := own_next O1 hb4
        have hA4 := chain hA1 hb4
        have hz4 := hA4.size
        clear con p0 p1 p2 p3 p4 p5 p6
        dsimp only
        have one1 : ∀ u ∈ [Value.int .i64 3], u.oneCell' = true := by intro u hu; simp at hu; subst hu; rfl
        have at1 : ∀ i u, [Value.int .i64 3][i]? = some u → (w4.alloc (.cells #[.int .i64 3] 3)).cell? ((⟨w4.heap.size, 0, none⟩ : Addr).add i) = some u := by
         intro i u hu
         match i, hu with
         | 0, hu => simp at hu; subst hu; simp [Addr.add]
        have len1 : j + 1 ≤ maxLen := by unfold maxLen; omega
        have byt1 : (j + 1) * 8 ≤ 140737488355328 := by omega
        have bas1 : w.heap.size ≤ (w4.alloc (.cells #[.int .i64 3] 3)).heap.size := by simp; omega
        have OA := O4.alloc (.cells #[.int .i64 3] 3)
        go_wp2_with (first | (at_builtin; refine wpList_append_own _ rfl _ _ 22 rfl w.heap.size 3 ii _ 1 8 Tryz.underlying22 hii hv0 hv1 hv2 rfl (by decide) _ _ _ rfl OA ⟨w4.heap.size, 0, none⟩ 1 1 [.int .i64 3] rfl rfl at1 one1 len1 byt1 bas1 ?_))
        intro v' w5 o5 g5 _
        have hb5 : Below w.heap.size w w5 := hA4.trans (((Below.refl _ _).alloc (by omega) _).grown g5 (by simp; omega) (fun q hq => (OA.lt q hq).1))
        clear g5 one1 at1 OA
        go_wp2_with fail
        go_roundw
        case rel => exact ⟨j + 1, by omega, by go_num, ⟨_, o5⟩, HN, hb5⟩
        case measure => simp [intOf]; omega
       ·go_wp2_with fail
        refine con.mono ?_
        rintro e w4 ⟨rfl, hb4⟩
        have c0 := (hb4.cell (p := ⟨wr.heap.size, 0, none⟩) (lt_of_heap q0)).trans p0
        have O4 := own_next O1 hb4
        have hA4 := chain hA1 hb4
        have hz4 := hA4.size
        clear con p0 p1 p2 p3 p4 p5 p6
        dsimp only
        have one1 : ∀ u ∈ [Value.int .i64 3], u.oneCell' = true := by intro u hu; simp at hu; subst hu; rfl
        have at1 : ∀ i u, [Value.int .i64 3][i]? = some u → (w4.alloc (.cells #[.int .i64 3] 3)).cell? ((⟨w4.heap.size, 0, none⟩ : Addr).add i) = some u := by
         intro i u hu
         match i, hu with
         | 0, hu => simp at hu; subst hu; simp [Addr.add]
        have len1 : j + 1 ≤ maxLen := by unfold maxLen; omega
        have byt1 : (j + 1) * 8 ≤ 140737488355328 := by omega
        have bas1 : w.heap.size ≤ (w4.alloc (.cells #[.int .i64 3] 3)).heap.size := by simp; omega
        have OA := O4.alloc (.cells #[.int .i64 3] 3)
        go_wp2_with (first | (at_builtin; refine wpList_append_own _ rfl _ _ 22 rfl w.heap.size 3 ii _ 1 8 Tryz.underlying22 hii hv0 hv1 hv2 rfl (by decide) _ _ _ rfl OA ⟨w4.heap.size, 0, none⟩ 1 1 [.int .i64 3] rfl rfl at1 one1 len1 byt1 bas1 ?_))
        intro v' w5 o5 g5 _
        have hb5 : Below w.heap.size w w5 := hA4.trans (((Below.refl _ _).alloc (by omega) _).grown g5 (by simp; omega) (fun q hq => (OA.lt q hq).1))
        clear g5 one1 at1 OA
        go_wp2_with fail
        go_roundw
        case rel => exact ⟨j + 1, by omega, by go_num, ⟨_, o5⟩, HN, hb5⟩
        case measure => simp [intOf]; omega
       ·go_wp2_with fail
        refine con.mono ?_
        rintro e w4 ⟨rfl, hb4⟩
        have c0 := (hb4.cell (p := ⟨wr.heap.size, 0, none⟩) (lt_of_heap q0)).trans p0
        have O4 := own_next O1 hb4
        have hA4 := chain hA1 hb4
        have hz4 := hA4.size
        clear con p0 p1 p2 p3 p4 p5 p6
        dsimp only
        have one1 : ∀ u ∈ [Value.int .i64 t], u.oneCell' = true := by intro u hu; simp at hu; subst hu; rfl
        have at1 : ∀ i u, [Value.int .i64 t][i]? = some u → (w4.alloc (.cells #[.int .i64 t] 3)).cell? ((⟨w4.heap.size, 0, none⟩ : Addr).add i) = some u := by
         intro i u hu
         match i, hu with
         | 0, hu => simp at hu; subst hu; simp [Addr.add]
        have len1 : j + 1 ≤ maxLen := by unfold maxLen; omega
        have byt1 : (j + 1) * 8 ≤ 140737488355328 := by omega
        have bas1 : w.heap.size ≤ (w4.alloc (.cells #[.int .i64 t] 3)).heap.size := by simp; omega
        have OA := O4.alloc (.cells #[.int .i64 t] 3)
        go_wp2_with (first | (at_builtin; refine wpList_append_own _ rfl _ _ 22 rfl w.heap.size 3 ii _ 1 8 Tryz.underlying22 hii hv0 hv1 hv2 rfl (by decide) _ _ _ rfl OA ⟨w4.heap.size, 0, none⟩ 1 1 [.int .i64 t] rfl rfl at1 one1 len1 byt1 bas1 ?_))
        intro v' w5 o5 g5 _
        have hb5 : Below w.heap.size w w5 := hA4.trans (((Below.refl _ _).alloc (by omega) _).grown g5 (by simp; omega) (fun q hq => (OA.lt q hq).1))
        clear g5 one1 at1 OA
        go_wp2_with fail
        go_roundw
        case rel => exact ⟨j + 1, by omega, by go_num, ⟨_, o5⟩, HN, hb5⟩
        case measure => simp [intOf]; omega
       ·go_wp2_with fail
        refine con.mono ?_
        rintro e w4 ⟨rfl, hb4⟩
        have c0 := (hb4.cell (p := ⟨wr.heap.size, 0, none⟩) (lt_of_heap q0)).trans p0
        have O4 := own_next O1 hb4
        have hA4 := chain hA1 hb4
        have hz4 := hA4.size
        clear con p0 p1 p2 p3 p4 p5 p6
        dsimp only
        have one1 : ∀ u ∈ [Value.int .i64 t], u.oneCell' = true := by intro u hu; simp at hu; subst hu; rfl
        have at1 : ∀ i u, [Value.int .i64 t][i]? = some u → (w4.alloc (.cells #[.int .i64 t] 3)).cell? ((⟨w4.heap.size, 0, none⟩ : Addr).add i) = some u := by
         intro i u hu
         match i, hu with
         | 0, hu => simp at hu; subst hu; simp [Addr.add]
        have len1 : j + 1 ≤ maxLen := by unfold maxLen; omega
        have byt1 : (j + 1) * 8 ≤ 140737488355328 := by omega
        have bas1 : w.heap.size ≤ (w4.alloc (.cells #[.int .i64 t] 3)).heap.size := by simp; omega
        have OA := O4.alloc (.cells #[.int .i64 t] 3)
        go_wp2_with (first | (at_builtin; refine wpList_append_own _ rfl _ _ 22 rfl w.heap.size 3 ii _ 1 8 Tryz.underlying22 hii hv0 hv1 hv2 rfl (by decide) _ _ _ rfl OA ⟨w4.heap.size, 0, none⟩ 1 1 [.int .i64 t] rfl rfl at1 one1 len1 byt1 bas1 ?_))
        intro v' w5 o5 g5 _
        have hb5 : Below w.heap.size w w5 := hA4.trans (((Below.refl _ _).alloc (by omega) _).grown g5 (by simp; omega) (fun q hq => (OA.lt q hq).1))
        clear g5 one1 at1 OA
        go_wp2_with fail
        go_roundw
        case rel => exact ⟨j + 1, by omega, by go_num, ⟨_, o5⟩, HN, hb5⟩
        case measure => simp [intOf]; omega
     ·have em : measE cols gs[j] = (typeTop cols gs[j].2).2 := by rw [HMe.out, if_neg h1, if_neg (by omega), if_pos h0]
      have el : le = (typeTop cols gs[j].2).2 := by rw [HBad.out (by rw [em]; exact h0), em]
      have hne : (le != 0) = true := by rw [el]; simpa using h0
      rw [← el] at con
      clear HMe HOk HBad em h0 el
      generalize (typeTop cols gs[j].2).1 = t at *
      go_wp2_with fail
      refine con.mono ?_
      rintro e w4 ⟨rfl, hb4⟩
      clear con p0 p1 p2 p3 p4 p5 p6
      dsimp only
      go_wp2_with fail
      first
       | exact bodyPost_ret (v := .tuple #[.slice none 0 0, .int .i64 le]) (by simp [results, Tryz.results58, go_sem]) rfl ⟨_, rfl, chain hA1 hb4⟩
       | exact bodyPost_ret (v := .tuple #[.slice none 0 0, .int .i64 le]) (by simp [results, Tryz.results58, go_sem]) rfl ⟨⟨_, rfl⟩, chain hA1 hb4⟩
       | exact bodyPost_ret (v := .tuple #[.slice none 0 0, .int .i64 le]) (by simp [results, Tryz.results58, go_sem]) rfl chain hA1 hb4
  ·have e : j = gs.length := by omega
   subst e
   have el : le = 0 := by rw [HT.out, List.drop_length]; rfl
   subst el
   obtain ⟨aj, cj, rfl⟩ := own_shapeE Oj
   go_wp2_with fail
   first
    | exact bodyPost_ret (v := .tuple #[.slice aj gs.length cj, .int .i64 0]) (by simp [results, Tryz.results58, go_sem]) rfl ⟨_, rfl, hb⟩
    | exact bodyPost_ret (v := .tuple #[.slice aj gs.length cj, .int .i64 0]) (by simp [results, Tryz.results58, go_sem]) rfl ⟨⟨_, rfl⟩, hb⟩
    | exact bodyPost_ret (v := .tuple #[.slice aj gs.length cj, .int .i64 0]) (by simp [results, Tryz.results58, go_sem]) rfl hb
end Go.Proofs.YtfojonhblblbjaaGreat
