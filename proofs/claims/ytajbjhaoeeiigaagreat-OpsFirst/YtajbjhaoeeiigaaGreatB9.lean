/- Together: S9, SA, PF, L1, XOpen, ZOpen, ZOpen2. -/
import Derived.Laws.StructEq
import Derived.Deep.Slices
import Derived.Deep.Strs
import Derived.ProofKit
import Derived.OpenShut
import Derived.ChangeOld
import Derived.Lib.SmallJoins
import Derived.Test.YtajbjhaoeeiigaaGreatB8
import Derived.Test.YtajbjhaoeeiigaaGreatB7
import Derived.Test.YtajbjhaoeeiigaaGreatB4
import Derived.Test.YtajbjhaoeeiigaaGreatB2
/- The walk of ops.inOrder. -/
namespace Go.Proofs.YtajbjhaoeeiigaaGreat
open Go.RowKit Go.Lib Go.Shelf

set_option maxRecDepth 100000 in
set_option maxHeartbeats 1000000 in
theorem insNone_at (cap : Nat) (w : World) : Calls Tryz.prog 144 #[.slice none 0 cap, .int .i64 0, .int .i64 0, .func (.func 63) #[] #[]] w fun e w' => e = .returned (.tuple #[]) ∧ w' = w := by
  go_enter Tryz.func144, Tryz.ntmps144
  go_wp2
  refine wp_loop_rounds 1 ?_
  rw [rounds_succ]
  go_wp2
  go_end0
  exact ⟨rfl, rfl⟩
set_option maxRecDepth 100000 in
set_option maxHeartbeats 1000000 in
theorem stableNone_at (cap : Nat) (w : World) : Calls Tryz.prog 96 #[.slice none 0 cap, .int .i64 0, .func (.func 63) #[] #[]] w fun e w' => e = .returned (.tuple #[]) ∧ w' = w := by
  go_enter Tryz.func96, Tryz.ntmps96
  go_wp2
  refine wp_loop_rounds 1 ?_
  rw [rounds_succ]
  go_wp2_with fail
  refine (insNone_at cap w).mono ?_
  rintro e w1 ⟨rfl, rfl⟩
  dsimp only
  go_wp2
  refine wp_loop_rounds 1 ?_
  rw [rounds_succ]
  go_wp2
  go_end0
  exact ⟨rfl, rfl⟩
set_option maxRecDepth 100000 in
set_option maxHeartbeats 1000000 in
theorem sortNone_at (cap : Nat) (w : World) : Calls Tryz.prog 62 #[.slice none 0 cap, .func (.func 63) #[] #[]] w fun e w' => e = .returned (.tuple #[]) ∧ Below w.heap.size w w' := by
  go_enter Tryz.func62, Tryz.ntmps62
  go_wp2_with fail
  refine (stableNone_at cap w).mono ?_
  rintro e w1 ⟨rfl, rfl⟩
  dsimp only
  go_wp2
  go_end0
  exact ⟨rfl, Below.refl _ _⟩

set_option maxRecDepth 100000 in
set_option maxHeartbeats 8000000 in
theorem inOrder_at (cols : List Int) (xs : List Ex) (u : Value) (lo : Nat) (a : Option Addr) (cap : Nat) (l : List Zp) (w : World) (hu : ListF cols lo u xs w) (hz : InpOk cols l) (h : ZsAt w a l) :
    Calls Tryz.prog 32 #[.slice a l.length cap, u] w fun e w' => ∃ a' c', e = .returned (.slice a' (inOrd xs l).length c') ∧ KdAt w' a' (inOrd xs l) ∧ Below w.heap.size w w' := by
  obtain ⟨i0, hi, hj0, hj1, hj2⟩ := info_parts infoK
  have hl := set_len hz
  have hR : Rise l := ((wrongZ_iff l).1 hz.set).2.2
  obtain ⟨g, cb, rfl, eg, hd⟩ := hu
  have HD : Hid (∀ (row : List Vl) (a : Option Addr) (cap : Nat) (W : World), FitP cols row → SlAt W a row → Since lo w W → Calls Tryz.prog g (#[.slice a row.length cap] ++ cb) W fun e w' => e = .returned (.slice (some ⟨W.heap.size, 0, none⟩) xs.length xs.length) ∧ RowNew W.heap.size w' (rowX xs row) ∧ Below W.heap.size W w') := hd
  have HO : Hid (InpOk cols l) := hz
  have HR : Hid (Rise l) := hR
  clear hd hz hR
  have con := picked_at 61 #[] (fun p => decide (0 < p.2)) a cap l w w (fun W => Below w.heap.size w W) h (by omega) (enters_of Tryz.func61 (by kernel_rfl) rfl) (Below.refl _ _) (fun _ hW => hW) (fun W W' hW hb => hW.trans hb) (fun x _ ra rc W hW _ _ => by
    refine (isThere_at ra x.1.length rc x.2 W).mono ?_
    rintro e w' ⟨rfl, hb⟩
    exact ⟨rfl, chain hW hb, (Since.of hb)⟩)
  generalize hm : (l.filter fun p => decide (0 < p.2)) = m at con
  have HM : Hid ((l.filter fun p => decide (0 < p.2)) = m) := hm
  have hml : m.length ≤ l.length := by rw [← hm]; exact List.length_filter_le _ _
  have HF : Hid (∀ p ∈ m, FitP cols p.1) := fun p hp => by
    rw [← HM.out] at hp
    exact HO.out.fit p (List.mem_filter.1 hp).1
  clear hm
  go_enter Tryz.func32, Tryz.ntmps32
  go_wp2_with fail
  refine con.mono ?_
  rintro e w1 ⟨v1, rfl, O1, hb1, z1⟩
  clear con
  obtain ⟨a1, c1, rfl, zs1, _⟩ := O1.zs hb1
  clear O1
  dsimp only
  go_wp2_with fail
  go_loopw [5, 11] (fun v i wr => ∃ k : Nat, k ≤ m.length ∧ i = .int .i64 k ∧ OwnK w1 w1.heap.size wr v ((m.take k).map fun p => (rowX xs p.1, p)) ∧ Below w1.heap.size w1 wr) (fun _ i _ => m.length - (intOf i).toNat)
  case atStart => exact ⟨0, Nat.zero_le _, rfl, OwnK.nil _ _ _, Below.refl _ _⟩
  case round =>
    obtain ⟨k, hk, rfl, HK, hb⟩ := hrel
    have hzr := hb.size
    by_cases hlt : k < m.length
    · obtain ⟨b, off, rfl, hbl, d1, ar, cr, d0, sr⟩ := zs1.elem hlt
      have c1' := (hb.cell (p := ⟨b, _, none⟩) hbl).trans d1
      have c0' := (hb.cell (p := ⟨b, _, none⟩) hbl).trans d0
      have hbl' : b < wr.heap.size := Nat.lt_of_lt_of_le hbl hzr
      have HS : Hid (SlAt w1 ar m[k].1) := sr
      have hal : Below wr.heap.size wr (wr.alloc (.cells #[.slice ar m[k].1.length cr, .int .i64 m[k].2] 38)) := (Below.refl _ _).alloc (Nat.le_refl _) _
      have q0 := heap_new wr #[.slice ar m[k].1.length cr, .int .i64 m[k].2] 38
      have HT : Hid (((m.take (k + 1)).map fun p => (rowX xs p.1, p)) = ((m.take k).map fun p => (rowX xs p.1, p)) ++ [(rowX xs m[k].1, m[k])]) := withK_take hlt
      have hfit := HF.out m[k] (List.getElem_mem hlt)
      have HFk : Hid (FitP cols m[k].1) := hfit
      have hrl : xs.length = (rowX xs m[k].1).length := by simp [rowX]
      have HRL : Hid (xs.length = (rowX xs m[k].1).length) := hrl
      clear d0 d1 sr hfit hrl
      go_wp2_with fail
      generalize hwa : wr.alloc (.cells #[.slice ar m[k].1.length cr, .int .i64 m[k].2] 38) = wa at *
      clear hwa
      have hCC : ∀ W W' : World, W.heap[wr.heap.size]? = some (.cells #[.slice ar m[k].1.length cr, .int .i64 m[k].2] 38 (0, 0)) → Below W.heap.size W W' → W'.heap[wr.heap.size]? = some (.cells #[.slice ar m[k].1.length cr, .int .i64 m[k].2] 38 (0, 0)) := fun W W' h hb => (hb.block _ (lt_of_heap h)).trans h
      have hdr : Below wa.heap.size wa wa.drew := (Below.refl _ _).drew
      have CW : wa.drew.heap[wr.heap.size]? = some (.cells #[.slice ar m[k].1.length cr, .int .i64 m[k].2] 38 (0, 0)) := hCC _ _ q0 hdr
      refine wp_region_cls (fun W => W.heap[wr.heap.size]? = some (.cells #[.slice ar m[k].1.length cr, .int .i64 m[k].2] 38 (0, 0))) (by kernel_rfl) ?_
      refine wpY_take hCC (some 15) (i := 0) (v := u5) rfl rfl (by kernel_rfl) (by kernel_rfl) (by kernel_rfl) (fun _ _ _ h => h) (Or.inl ⟨rfl, fun n hn => ?_⟩) CW ?_
      · go_simp
      simp only [Act.put, List.setIfInBounds_toArray, List.set_cons_zero, List.set_cons_succ]
      refine wpY_take hCC (some 16) (i := 1) (v := .func (.func g) #[] cb) rfl rfl (by kernel_rfl) (by kernel_rfl) (by kernel_rfl) (fun _ _ _ h => h) (Or.inl ⟨rfl, fun n hn => ?_⟩) CW ?_
      · go_simp
      simp only [Act.put, List.setIfInBounds_toArray, List.set_cons_zero, List.set_cons_succ]
      refine wpY_take hCC (some 17) (i := 2) (v := .pointer (some ⟨wr.heap.size, 0, none⟩)) rfl rfl (by kernel_rfl) (by kernel_rfl) (by kernel_rfl) (fun _ _ _ h => h) (Or.inl ⟨rfl, fun n hn => ?_⟩) CW ?_
      · go_simp
      simp only [Act.put, List.setIfInBounds_toArray, List.set_cons_zero, List.set_cons_succ]
      refine wpY_take hCC (some 18) (i := 3) (v := .slice ar m[k].1.length cr) rfl rfl (by kernel_rfl) (by kernel_rfl) (by kernel_rfl) (fun _ _ _ h => h) (Or.inl ⟨rfl, fun n hn => ?_⟩) CW ?_
      · have hcell : n.cell? ⟨wr.heap.size, 0, none⟩ = some (.slice ar m[k].1.length cr) := cell_of (i := 0) hn rfl
        go_simp
      simp only [Act.put, List.setIfInBounds_toArray, List.set_cons_zero, List.set_cons_succ]
      refine wpY_take hCC (some 20) (i := 5) (v := .agg #[.slice ar m[k].1.length cr, .int .i64 m[k].2]) rfl rfl (by kernel_rfl) (by kernel_rfl) (by kernel_rfl) (fun _ _ _ h => h) (Or.inl ⟨rfl, fun n hn => ?_⟩) CW ?_
      · have hcell : n.cell? ⟨wr.heap.size, 0, none⟩ = some (.slice ar m[k].1.length cr) := cell_of (i := 0) hn rfl
        have hcell1 : n.cell? ⟨wr.heap.size, 1, none⟩ = some (.int .i64 m[k].2) := cell_of (i := 1) hn rfl
        go_simp
      simp only [Act.put, List.setIfInBounds_toArray, List.set_cons_zero, List.set_cons_succ]
      refine wpY_step (rs := [4]) (by kernel_rfl) (by simp) ?_
      intro w3 hb3 jj hj
      obtain rfl : jj = 4 := by simpa using hj
      clear hj
      have D3 := chain (chain hal hdr) hb3
      have B3 := chain hb D3
      have CW3 := hCC _ _ CW hb3
      have con := HD.out m[k].1 ar cr w3 HFk.out (HS.out.next B3) (Since.of (chain hb1 B3))
      refine wpOp_step rfl (fun K hK => ?_)
      go_simp
      first | (refine con.mono ?_) | (go_at_fn g; refine con.mono ?_)
      rintro e w4 ⟨rfl, hRN, hb4⟩
      have D4 := chain D3 hb4
      have CW4 := hCC _ _ CW3 hb4
      refine hK _ _ ⟨CW4, ?_⟩
      clear hK K con CW3
      refine wpY_take hCC (some 21) (i := 6) (v := .agg #[.slice (some ⟨w3.heap.size, 0, none⟩) xs.length xs.length, .slice ar m[k].1.length cr, .int .i64 m[k].2]) rfl rfl (by kernel_rfl) (by kernel_rfl) (by kernel_rfl) (fun _ _ _ h => h) (Or.inl ⟨rfl, fun n hn => ?_⟩) CW4 ?_
      · go_simp
      simp only [Act.put, List.setIfInBounds_toArray, List.set_cons_zero, List.set_cons_succ]
      refine wpY_step (rs := [7]) (by kernel_rfl) (by simp) ?_
      intro w5 hb5 jj hj
      obtain rfl : jj = 7 := by simpa using hj
      clear hj
      refine wpOp_step rfl (fun K hK => ?_)
      go_simp
      have D5 := chain D4 hb5
      have CW5 := hCC _ _ CW4 hb5
      have hal5 : Below w5.heap.size w5 (w5.alloc (.cells #[.slice (some ⟨w3.heap.size, 0, none⟩) xs.length xs.length, .slice ar m[k].1.length cr, .int .i64 m[k].2] 80)) := (Below.refl _ _).alloc (Nat.le_refl _) _
      have q6 := heap_new w5 #[.slice (some ⟨w3.heap.size, 0, none⟩) xs.length xs.length, .slice ar m[k].1.length cr, .int .i64 m[k].2] 80
      have D6 := chain D5 hal5
      have CW6 := hCC _ _ CW5 hal5
      have S6 := (hRN.1.next hb5).next hal5
      have T6 := (hRN.2.next hb5).next hal5
      refine hK _ _ ⟨CW6, ?_⟩
      clear hK K CW5 CW4 hRN
      generalize hw6 : w5.alloc (.cells #[.slice (some ⟨w3.heap.size, 0, none⟩) xs.length xs.length, .slice ar m[k].1.length cr, .int .i64 m[k].2] 80) = w6 at *
      clear hw6
      refine wpY_step (rs := [8]) (by kernel_rfl) (by simp) ?_
      intro w7 hb7 jj hj
      obtain rfl : jj = 8 := by simpa using hj
      clear hj
      have D7 := chain D6 hb7
      have CW7 := hCC _ _ CW6 hb7
      have S7 := S6.next hb7
      have T7 := T6.next hb7
      have q7 := (hb7.block _ (lt_of_heap q6)).trans q6
      obtain ⟨ys, o7, en7⟩ := HK.next D7
      have zz := D7.size
      have hnb : ∀ g', u5.ownBlock = some g' → g' < wr.heap.size ∧ w1.heap.size ≤ g' := fun g' hg' => by
        obtain ⟨ys0, o0, _⟩ := HK
        exact ⟨(o0.lt g' hg').2, (o0.lt g' hg').1⟩
      refine wpOp_step rfl (fun K hK => ?_)
      refine Eq.mpr (if_pos (by kernel_rfl)) ?_
      refine wp_append_at (some 23) rfl (Operand.tmp 15) (Operand.tmp 22) 73 rfl w1.heap.size 80 i0 _ 3 56 Tryz.underlying73 hi hj0 hj1 hj2 rfl (by decide) u5 _ ys rfl o7 ⟨w5.heap.size, 0, none⟩ 1 1 [.slice (some ⟨w3.heap.size, 0, none⟩) xs.length xs.length, .slice ar m[k].1.length cr, .int .i64 m[k].2] rfl rfl ?Ac1 ?Ac2 ?Ac3 ?Ac4 ?Ac5 ?_
      case Ac1 =>
        intro j u hj
        match j, hj with
        | 0, hj => simp at hj; subst hj; exact cell_of (i := 0) q7 rfl
        | 1, hj => simp at hj; subst hj; exact cell_of (i := 1) q7 rfl
        | 2, hj => simp at hj; subst hj; exact cell_of (i := 2) q7 rfl
      case Ac2 => intro u hu; simp at hu; rcases hu with rfl | rfl | rfl <;> rfl
      case Ac3 => simp only [List.length_map, List.length_take]; unfold maxLen; omega
      case Ac4 => simp only [List.length_map, List.length_take]; omega
      case Ac5 => omega
      intro v' w8 o8 g8 _
      have CW8 : w8.heap[wr.heap.size]? = some (.cells #[.slice ar m[k].1.length cr, .int .i64 m[k].2] 38 (0, 0)) := (g8.block _ (lt_of_heap CW7) (fun e => by have := (hnb _ e.symm).1; omega)).trans CW7
      have OK8 : OwnK w1 w1.heap.size w8 v' (((m.take k).map fun p => (rowX xs p.1, p)) ++ [(rowX xs m[k].1, m[k])]) := OwnK.push (kc := xs.length) (rc := cr) o7 en7 S7 T7 HS.out (by have := HRL.out; rw [← this]; exact o8) g8
      have b8 : Below w1.heap.size w1 w8 := (hb.trans (D7.mono hzr)).trans ((Below.refl _ _).grown g8 (by omega) (fun q hq => (hnb q hq).2))
      refine hK _ _ ⟨CW8, ?_⟩
      clear hK K CW7 CW6 S7 T7 S6 T6 o7 en7 o8 D7 D6 D5 D4 D3 q6 q7 g8 HK
      simp only [Act.put, List.setIfInBounds_toArray, List.set_cons_zero, List.set_cons_succ]
      refine wpY_take hCC (some 5) (i := 9) (v := v') rfl rfl (by kernel_rfl) (by kernel_rfl) (by kernel_rfl) (fun _ _ _ h => h) (Or.inl ⟨rfl, fun n hn => ?_⟩) CW8 ?_
      · go_simp
      simp only [Act.put, List.setIfInBounds_toArray, List.set_cons_zero, List.set_cons_succ]
      refine wpY_done (by kernel_rfl) ?_
      intro w9 hb9
      have OK9 := OK8.next hb9
      have b9 := chain b8 hb9
      clear OK8 b8 CW8 hb9
      go_wp2_with fail
      go_roundw
      case rel => exact ⟨k + 1, by omega, by go_num, by rw [HT.out]; exact OK9, b9⟩
      case measure => simp [intOf]; omega
    · have e : k = m.length := by omega
      subst e
      rw [List.take_length] at HK
      have hwk : (m.map fun p => (rowX xs p.1, p)) = withK xs l := by unfold withK; rw [HM.out]
      rw [hwk] at HK
      have hb' := chain hb1 hb
      have hil : (inOrd xs l).length = (withK xs l).length := (inOrd_perm xs l).length_eq
      have hwl := withK_len xs l
      rcases HK.arr hb (Nat.le_refl _) with ⟨hn, rfl⟩ | ⟨gb, kc, dd, rfl, hg1, hg2, hds, hdm, hH⟩
      · have hio : inOrd xs l = [] := List.eq_nil_of_length_eq_zero (by rw [hil, hn]; rfl)
        have con := sortNone_at 0 wr
        clear HK
        go_wp2_with fail
        refine con.mono ?_
        rintro e w2 ⟨rfl, hb2⟩
        clear con
        dsimp only
        go_wp2_with fail
        go_ret
        exact ⟨none, 0, by rw [hio]; rfl, .inl hio, chain hb' hb2⟩
      · have con := sorted_at wr gb kc dd xs l HR.out (by omega) hg2 hdm hH w1 hg1 hb
        rw [hds, ← hil] at con
        rw [← hil]
        clear HK hH hdm hil hwk hds
        go_wp2_with fail
        refine con.mono ?_
        rintro e w2 ⟨rfl, kd, hb2⟩
        clear con
        dsimp only
        have HKD : Hid (KdAt w2 (some ⟨gb, 0, none⟩) (inOrd xs l)) := kd
        have hA := hb1.trans (hb2.mono hb1.size)
        clear kd
        go_wp2_with fail
        go_ret
        exact ⟨_, _, rfl, HKD.out, hA⟩
end Go.Proofs.YtajbjhaoeeiigaaGreat
/- The walk of ops.Top. -/
namespace Go.Proofs.YtajbjhaoeeiigaaGreat
open Go.RowKit Go.Lib Go.Shelf

/-- The first rows: as many as are left. -/
def topL : Int → List Kp → List Zp
  | _, [] => []
  | n, x :: r => (x.2.1, min x.2.2 n) :: topL (n - min x.2.2 n) r
theorem topL_len : ∀ (n : Int) (l : List Kp), (topL n l).length = l.length
  | _, [] => rfl
  | n, x :: r => by simp [topL, topL_len _ r]
theorem topL_mem : ∀ (n : Int) (l : List Kp), 0 ≤ n → (∀ x ∈ l, 0 < x.2.2) → ∀ y ∈ topL n l, (∃ x ∈ l, y.1 = x.2.1) ∧ 0 ≤ y.2 ∧ y.2 ≤ n
  | _, [], _, _, y, hy => by simp [topL] at hy
  | n, x :: r, hn, hl, y, hy => by
    rw [topL] at hy
    have hx := hl x (by simp)
    rcases List.mem_cons.1 hy with rfl | hy
    · exact ⟨⟨x, by simp, rfl⟩, by simp only; omega, by simp only; omega⟩
    · obtain ⟨⟨q, hq, e⟩, h1, h2⟩ := topL_mem _ r (by omega) (fun q hq => hl q (by simp [hq])) y hy
      exact ⟨⟨q, by simp [hq], e⟩, h1, by omega⟩
theorem inOrd_mem {xs : List Ex} {z : List Zp} {x : Kp} : x ∈ inOrd xs z ↔ (x.2 ∈ z ∧ 0 < x.2.2) ∧ x.1 = rowX xs x.2.1 := by
  rw [(inOrd_perm xs z).mem_iff]
  unfold withK
  rw [List.mem_map]
  constructor
  · rintro ⟨p, hp, rfl⟩
    have := List.mem_filter.1 hp
    exact ⟨⟨this.1, by simpa using this.2⟩, rfl⟩
  · rintro ⟨⟨h1, h2⟩, h3⟩
    exact ⟨x.2, List.mem_filter.2 ⟨h1, by simpa using h2⟩, by rw [← h3]⟩
def topE (cols : List Int) (xs : List Ex) (k : Int) (z : List Zp) : Int := if listE cols xs ≠ 0 then listE cols xs else if k < 0 ∨ 50 < k then 3 else if inpE cols z ≠ 0 then inpE cols z else gatherE (topL k (inOrd xs z))
def topZ (cols : List Int) (xs : List Ex) (k : Int) (z : List Zp) : List Zp := if topE cols xs k z = 0 then canon (topL k (inOrd xs z)) else []
theorem topL_drop {n : Int} {l : List Kp} {j : Nat} (h : j < l.length) : topL n (l.drop j) = (l[j].2.1, min l[j].2.2 n) :: topL (n - min l[j].2.2 n) (l.drop (j + 1)) := by
  rw [List.drop_eq_getElem_cons h, topL]

set_option maxRecDepth 100000 in
set_option maxHeartbeats 8000000 in
theorem top_at (cols : List Int) (xs : List Ex) (n : Int) (hn64 : -9223372036854775808 ≤ n ∧ n ≤ 9223372036854775807) (ca : Option Addr) (ccap : Nat) (xa : Option Addr) (xcap : Nat) (a : Option Addr) (cap : Nat) (l : List Zp) (w : World) (hc : IsAt w.heap.size w ca cols) (hk : KsAt w.heap.size w xa xs) (h : ZsAt w a l) :
    Calls Tryz.prog 11 #[.slice ca cols.length ccap, .slice xa xs.length xcap, .int .i64 n, .slice a l.length cap] w fun e w' => ∃ v, e = .returned (.tuple #[v, .int .i64 (topE cols xs n l)]) ∧ OwnZ w.heap.size w' v (topZ cols xs n l) ∧ Below w.heap.size w w' := by
  obtain ⟨i0, hi, hj0, hj1, hj2⟩ := info_parts Tryz.info42
  have con := list_at cols xs ca ccap xa xcap w hk hc
  generalize hfz : topZ cols xs n l = fz
  generalize hfe : topE cols xs n l = fe
  have HZ : Hid (topZ cols xs n l = fz) := hfz
  have HF : Hid (topE cols xs n l = fe) := hfe
  clear hfz hfe
  by_cases h1 : listE cols xs = 0
  · have H1 : Hid (listE cols xs = 0) := h1
    rw [h1] at con
    clear h1
    by_cases hr : n < 0 ∨ 50 < n
    · have e0 : fe = 3 := by rw [← HF.out]; unfold topE; rw [H1.out, if_neg (by simp), if_pos hr]
      have e1 : fz = [] := by rw [← HZ.out]; unfold topZ; rw [HF.out, e0, if_neg (by decide)]
      subst e0
      have HV : Hid (fz = []) := e1
      clear e1
      go_enter Tryz.func11, Tryz.ntmps11
      go_wp2_with fail
      refine con.mono ?_
      rintro e w1 ⟨u, rfl, hL, hb1⟩
      clear con hL
      dsimp only
      by_cases hr1 : n < 0
      · go_wp2_with fail
        exact bodyPost_ret (v := .tuple #[.slice none 0 0, .int .i64 3]) (by simp [results, Tryz.results11, go_sem]) rfl ⟨_, rfl, by rw [HV.out]; exact own_nil _ _, hb1⟩
      · have hr2 : 50 < n := by omega
        go_wp2_with fail
        exact bodyPost_ret (v := .tuple #[.slice none 0 0, .int .i64 3]) (by simp [results, Tryz.results11, go_sem]) rfl ⟨_, rfl, by rw [HV.out]; exact own_nil _ _, hb1⟩
    have hr1 : ¬ n < 0 := fun h => hr (.inl h)
    have hr2 : ¬ 50 < n := fun h => hr (.inr h)
    have HRg : Hid (¬ (n < 0 ∨ 50 < n)) := hr
    clear hr
    go_enter Tryz.func11, Tryz.ntmps11
    go_wp2_with fail
    refine con.mono ?_
    rintro e w1 ⟨u, rfl, hL, hb1⟩
    clear con
    have hL : ListF cols w.heap.size u xs w1 := by
      rcases hL with ⟨_, hL⟩ | ⟨hL, _⟩
      · exact hL
      · exact absurd (by trivial) hL
    obtain ⟨g, cb, rfl, eg, d⟩ := hL
    have HL : Hid (ListF cols w.heap.size (.func (.func g) #[] cb) xs w1) := ⟨g, cb, rfl, eg, d⟩
    clear d
    have con := wrongS_at cols ca ccap a cap l w1 ((hc.next hb1 (Nat.le_refl _)).up hb1.size) (h.next hb1)
    by_cases h2 : inpE cols l = 0
    · have hz := (inpE_ok cols l).1 h2
      rw [h2] at con
      have H2 : Hid (inpE cols l = 0) := h2
      clear h2
      have HE : Hid (fe = gatherE (topL n (inOrd xs l))) := by
        show fe = _
        rw [← HF.out]; unfold topE; rw [H1.out, H2.out, if_neg (by simp), if_neg HRg.out, if_neg (by simp)]
      have HV : Hid (fz = gatherZ (topL n (inOrd xs l))) := by
        show fz = _
        rw [← HZ.out]; unfold topZ gatherZ; rw [HF.out, HE.out]
      have hl4 := set_len hz
      have HO : Hid (InpOk cols l) := hz
      dsimp only
      go_wp2_with fail
      refine con.mono ?_
      rintro e w2 ⟨rfl, hb2⟩
      clear con
      have hA := chain hb1 hb2
      have con := inOrder_at cols xs (.func (.func g) #[] cb) w.heap.size a cap l w2 (HL.out.next (Since.of hb2)) HO.out (h.next hA)
      have hil := inOrd_len xs l
      generalize hio : inOrd xs l = L at *
      have HI : Hid (inOrd xs l = L) := hio
      clear hio
      dsimp only
      go_wp2_with fail
      refine con.mono ?_
      rintro e w3 ⟨a3, c3, rfl, kd, hb3⟩
      clear con
      have hA3 := chain hA hb3
      dsimp only
      have HP : Hid (∀ x ∈ L, 0 < x.2.2) := fun x hx => by rw [← HI.out] at hx; exact (inOrd_mem.1 hx).1.2
      have HW : Hid (∀ x ∈ L, x.2.2 ≤ 1000000) := fun x hx => by
        rw [← HI.out] at hx
        have := set_in HO.out x.2 (inOrd_mem.1 hx).1.1
        rw [inW_iff] at this
        exact this.2
      clear hz
      go_wp2_with fail
      go_loopw [13, 14, 44] (fun v s14 i wr => ∃ (k : Nat) (lf : Int) (acc : List Zp), k ≤ L.length ∧ i = .int .i64 k ∧ s14 = .int .i64 lf ∧ 0 ≤ lf ∧ lf ≤ 50 ∧ acc.length ≤ k ∧ OwnB w3 w3.heap.size wr v acc ∧ Hid (topL n L = acc ++ topL lf (L.drop k)) ∧ Below w3.heap.size w3 wr) (fun _ _ i _ => L.length - (intOf i).toNat)
      case atStart => exact ⟨0, n, [], Nat.zero_le _, rfl, rfl, by omega, by omega, Nat.le_refl _, ⟨[], by simpa using World.ownsRow_nil _ _ _ _, by simp [EncB]⟩, rfl, Below.refl _ _⟩
      case round =>
        obtain ⟨k, lf, acc, hk', rfl, rfl, hf0, hf1, hacc, HOB, HT, hb⟩ := hrel
        have hzr := hb.size
        by_cases hlt : k < L.length
        · obtain ⟨b, off, rfl, hbl, e2, ⟨ra, rc, e1, sr⟩, ka, kc, e0, _⟩ := kd.elem hlt
          have p2 := (hb.cell (p := ⟨b, _, none⟩) hbl).trans e2
          have p1 := (hb.cell (p := ⟨b, _, none⟩) hbl).trans e1
          have p0 := (hb.cell (p := ⟨b, _, none⟩) hbl).trans e0
          have hbl' : b < wr.heap.size := Nat.lt_of_lt_of_le hbl hzr
          have HS : Hid (SlAt w3 ra L[k].2.1) := sr
          have hw0 := HP.out L[k] (List.getElem_mem hlt)
          have hw1 := HW.out L[k] (List.getElem_mem hlt)
          have HD : Hid (topL lf (L.drop k) = (L[k].2.1, min L[k].2.2 lf) :: topL (lf - min L[k].2.2 lf) (L.drop (k + 1))) := topL_drop hlt
          obtain ⟨xs', ho, he⟩ := HOB
          have HEn : Hid (EncB w3 xs' acc) := he
          have hal : Below wr.heap.size wr (wr.alloc (.cells #[.slice ka L[k].1.length kc, .slice ra L[k].2.1.length rc, .int .i64 L[k].2.2] 80)) := (Below.refl _ _).alloc (Nat.le_refl _) _
          have ho1 := own_next ho hal
          have za : (wr.alloc (.cells #[.slice ka L[k].1.length kc, .slice ra L[k].2.1.length rc, .int .i64 L[k].2.2] 80)).heap.size = wr.heap.size + 1 := by simp
          clear e0 e1 e2 sr he ho
          go_wp2_with (at_builtin; refine wpList_append_own _ rfl _ _ 24 rfl w3.heap.size 38 i0 _ 2 32 Tryz.underlying24 hi hj0 hj1 hj2 rfl (by decide) _ _ _ rfl (ho1.alloc _) ⟨wr.heap.size + 1, 0, none⟩ 1 1 [.slice ra L[k].2.1.length rc, .int .i64 (min L[k].2.2 lf)] rfl rfl ?Ac1 ?Ac2 ?Ac3 ?Ac4 ?Ac5 ?_)
          case Ac1 =>
            intro j u hj
            match j, hj with
            | 0, hj => simp at hj; subst hj; simp [Addr.add]
            | 1, hj => simp at hj; subst hj; simp [Addr.add]
          case Ac2 => intro u hu; simp at hu; rcases hu with rfl | rfl <;> rfl
          case Ac3 => unfold maxLen; omega
          case Ac4 => omega
          case Ac5 => simp; omega
          intro v' w5 ho5 hg5 _
          have hb5 : Below w3.heap.size wr w5 := (((Below.refl w3.heap.size wr).alloc (by omega) _).alloc (by simp; omega) _).grown hg5 (by simp; omega) (fun q hq => ((ho1.alloc (.cells #[.slice ra L[k].2.1.length rc, .int .i64 (min L[k].2.2 lf)] 38)).lt q hq).1)
          have hb6 := hb.trans hb5
          clear hg5 ho1 hal hb5
          go_wp2_with fail
          go_roundw
          case rel => exact ⟨k + 1, lf - min L[k].2.2 lf, acc ++ [(L[k].2.1, min L[k].2.2 lf)], by omega, by go_num, rfl, by omega, by omega, by simp; omega, ⟨_, by simpa using ho5, HEn.out.push HS.out⟩, by show topL n L = _; rw [HT.out, HD.out]; simp, hb6⟩
          case measure => simp [intOf]; omega
        · have e : k = L.length := by omega
          subst e
          have ea : topL n L = acc := by have := HT.out; rw [List.drop_length] at this; simpa [topL] using this
          obtain ⟨a4, c4, rfl, zs4, _⟩ := HOB.zs hb
          have hmem := topL_mem n L (by omega) HP.out
          have con := gathered_at a4 c4 acc wr zs4 (by omega) (fun y hy => by rw [← ea] at hy; have := hmem y hy; rw [bigW_iff]; omega) (fun y hy => by
            rw [← ea] at hy
            obtain ⟨⟨x, hx, e⟩, _⟩ := hmem y hy
            rw [e]
            rw [← HI.out] at hx
            exact row8 HO.out x.2 (inOrd_mem.1 hx).1.1)
          have HV' := HV.out
          have HE' := HE.out
          rw [ea] at HV' HE'
          rw [← HE', ← HV'] at con
          clear HV' HE' zs4 HOB ea hmem
          go_wp2_with fail
          refine con.mono ?_
          rintro e w6 ⟨v6, rfl, O6, hb6⟩
          have hA6 := chain hA3 hb
          have O6' := O6.mono hA6.size
          obtain ⟨a6, c6, rfl, _⟩ := O6.zs
          clear con O6
          dsimp only
          go_wp2_with fail
          exact bodyPost_ret (v := .tuple #[.slice a6 fz.length c6, .int .i64 fe]) (by simp [results, Tryz.results11, go_sem]) rfl ⟨_, rfl, O6', chain hA6 hb6⟩
    · have e0 : fe = inpE cols l := by rw [← HF.out]; unfold topE; rw [H1.out, if_neg (by simp), if_neg HRg.out, if_pos h2]
      have e1 : fz = [] := by rw [← HZ.out]; unfold topZ; rw [HF.out, e0, if_neg h2]
      have hne : (inpE cols l != 0) = true := by simpa using h2
      rw [← e0] at con hne
      have HV : Hid (fz = []) := e1
      clear e0 e1 h2
      dsimp only
      go_wp2_with fail
      refine con.mono ?_
      rintro e w2 ⟨rfl, hb2⟩
      clear con
      dsimp only
      go_wp2_with fail
      exact bodyPost_ret (v := .tuple #[.slice none 0 0, .int .i64 fe]) (by simp [results, Tryz.results11, go_sem]) rfl ⟨_, rfl, by rw [HV.out]; exact own_nil _ _, chain hb1 hb2⟩
  · have e0 : fe = listE cols xs := by rw [← HF.out]; unfold topE; rw [if_pos h1]
    have e1 : fz = [] := by rw [← HZ.out]; unfold topZ; rw [HF.out, e0, if_neg h1]
    have hne : (listE cols xs != 0) = true := by simpa using h1
    have HL : Hid (¬ listE cols xs = 0) := h1
    rw [← e0] at hne
    have HV : Hid (fz = []) := e1
    have HN : Hid (fe = listE cols xs) := e0
    clear e0 e1 h1
    go_enter Tryz.func11, Tryz.ntmps11
    go_wp2_with fail
    refine con.mono ?_
    rintro e w1 ⟨u, rfl, hL, hb1⟩
    obtain ⟨_, rfl⟩ : ¬ listE cols xs = 0 ∧ u = .nilFunc := by
      rcases hL with ⟨hL, _⟩ | hL
      · exact absurd hL HL.out
      · exact hL
    rw [← HN.out]
    clear con
    go_wp2_with fail
    exact bodyPost_ret (v := .tuple #[.slice none 0 0, .int .i64 fe]) (by simp [results, Tryz.results11, go_sem]) rfl ⟨_, rfl, by rw [HV.out]; exact own_nil _ _, hb1⟩
end Go.Proofs.YtajbjhaoeeiigaaGreat
/- The first rows come first: plain facts. -/
namespace Go.Proofs.YtajbjhaoeeiigaaGreat
open Go.RowKit

def sumK : List Kp → Int
  | [] => 0
  | x :: r => x.2.2 + sumK r
def one1 : List Vl → Int := fun _ => 1
theorem resp_one : Resp one1 := fun _ _ _ => rfl
theorem topL_zero : ∀ (l : List Kp), (∀ x ∈ l, 0 < x.2.2) → (∀ q, wt (topL 0 l) q = 0) ∧ tot one1 (topL 0 l) = 0
  | [], _ => ⟨fun _ => rfl, rfl⟩
  | x :: r, h => by
    have hx := h x (by simp)
    obtain ⟨h1, h2⟩ := topL_zero r fun y hy => h y (by simp [hy])
    have e : topL 0 (x :: r) = (x.2.1, 0) :: topL 0 r := by
      rw [topL, show min x.2.2 0 = 0 by omega]; rfl
    rw [e]
    refine ⟨fun q => ?_, ?_⟩
    · rw [wt, h1]; simp
    · rw [tot, h2]; simp
theorem wt_out {l : List Kp} {n : Int} {q : List Vl} (h : ∀ x ∈ l, cmpL x.2.1 q ≠ 0) : wt (topL n l) q = 0 := by
  induction l generalizing n with
  | nil => rfl
  | cons x r ih =>
    rw [topL, wt, ih fun y hy => h y (by simp [hy]), if_neg (h x (by simp))]
    rfl
theorem StK.irrefl (x : Kp) : ¬ StK x x := fun h => StK.not h h
theorem topL_spec : ∀ (l : List Kp) (n : Int), 0 ≤ n → (∀ x ∈ l, 0 < x.2.2) → l.Pairwise StK → l.Pairwise (fun x y => cmpL x.2.1 y.2.1 ≠ 0) →
    tot one1 (topL n l) = min n (sumK l) ∧ ∀ X ∈ l, 0 ≤ wt (topL n l) X.2.1 ∧ wt (topL n l) X.2.1 ≤ X.2.2 ∧ (wt (topL n l) X.2.1 < X.2.2 → tot one1 (topL n l) = n ∧ ∀ Y ∈ l, StK X Y → wt (topL n l) Y.2.1 = 0)
  | [], n, hn, _, _, _ => ⟨by simp [topL, tot, sumK]; omega, fun X hX => by simp at hX⟩
  | H :: R, n, hn, hp, hs, hd => by
    have h0 := hp H (by simp)
    obtain ⟨s1, s2⟩ := List.pairwise_cons.1 hs
    obtain ⟨d1, d2⟩ := List.pairwise_cons.1 hd
    have hpR : ∀ x ∈ R, 0 < x.2.2 := fun x hx => hp x (by simp [hx])
    obtain ⟨i1, i2⟩ := topL_spec R (n - min H.2.2 n) (by omega) hpR s2 d2
    have hsum : 0 ≤ sumK R := by
      have aux : ∀ l : List Kp, (∀ x ∈ l, 0 < x.2.2) → 0 ≤ sumK l := by
        intro l
        induction l with
        | nil => intro _; exact Int.le_refl _
        | cons x r ih => intro h; have := h x (by simp); have := ih fun y hy => h y (by simp [hy]); rw [sumK]; omega
      exact aux R hpR
    have hT : tot one1 (topL n (H :: R)) = min H.2.2 n + tot one1 (topL (n - min H.2.2 n) R) := by
      rw [topL, tot]; simp [one1]
    have hH : wt (topL n (H :: R)) H.2.1 = min H.2.2 n := by
      rw [topL, wt, wt_out fun x hx h => d1 x hx (by have := cmpL_neg H.2.1 x.2.1; omega), if_pos (cmpL_refl _)]
      simp
    have hX : ∀ X ∈ R, wt (topL n (H :: R)) X.2.1 = wt (topL (n - min H.2.2 n) R) X.2.1 := fun X hX => by
      rw [topL, wt, if_neg (d1 X hX)]; simp
    refine ⟨by rw [hT, i1, sumK]; omega, fun X hXm => ?_⟩
    rcases List.mem_cons.1 hXm with rfl | hXm'
    · rw [hH]
      refine ⟨by omega, by omega, fun hlt => ?_⟩
      have e : n - min X.2.2 n = 0 := by omega
      obtain ⟨z1, z2⟩ := topL_zero R hpR
      refine ⟨by rw [hT, e, z2]; omega, fun Y hY hst => ?_⟩
      rcases List.mem_cons.1 hY with rfl | hY
      · exact absurd hst (StK.irrefl _)
      · rw [hX Y hY, e, z1]
    · rw [hX X hXm']
      obtain ⟨j1, j2, j3⟩ := i2 X hXm'
      refine ⟨j1, j2, fun hlt => ?_⟩
      obtain ⟨k1, k2⟩ := j3 hlt
      refine ⟨by rw [hT, k1]; omega, fun Y hY hst => ?_⟩
      rcases List.mem_cons.1 hY with rfl | hY
      · exact absurd hst (fun h => StK.not h (s1 X hXm'))
      · rw [hX Y hY]; exact k2 Y hY hst

/-- How many rows there are that are there. -/
def posW : List Zp → Int
  | [] => 0
  | x :: r => (if 0 < x.2 then x.2 else 0) + posW r
theorem sumK_perm {a b : List Kp} (h : a.Perm b) : sumK a = sumK b := by
  induction h with
  | nil => rfl
  | cons x _ ih => rw [sumK, sumK, ih]
  | swap x y l => simp only [sumK]; omega
  | trans _ _ h1 h2 => rw [h1, h2]
theorem sumK_with (xs : List Ex) : ∀ z : List Zp, sumK (withK xs z) = posW z
  | [] => rfl
  | x :: r => by
    have ih := sumK_with xs r
    unfold withK at ih ⊢
    rw [List.filter_cons, posW, ← ih]
    by_cases h : 0 < x.2
    · rw [if_pos (by simpa using h), if_pos h, List.map_cons, sumK]
    · rw [if_neg (by simpa using h), if_neg h]; omega
theorem inOrd_apart {xs : List Ex} {z : List Zp} (h : Rise z) : (inOrd xs z).Pairwise fun x y => cmpL x.2.1 y.2.1 ≠ 0 := by
  refine List.Perm.pairwise ((inOrd_perm xs z).symm) ?_ ?_
  · exact (withK_rise h).imp fun hr => by omega
  · intro x y hxy hyx
    have := cmpL_neg x.2.1 y.2.1
    omega

def colE (key : Int) : Ex := .mk 2 vl0 key []
theorem cmpP_negK (x y : Vl) : cmpP x y = - cmpP y x := by
  have h := cmpL_neg [x] [y]
  unfold cmpL at h
  simp only [cmpL] at h
  split at h <;> split at h <;> omega
theorem cmpP_bareR (x y : Vl) : cmpP x (bareP y) = cmpP x y := by rw [cmpP_negK, cmpP_bare, ← cmpP_negK]
theorem cmpL_getD {a b : List Vl} (h : cmpL a b = 0) (i : Nat) (x : Vl) : cmpP x (a.getD i vl0) = cmpP x (b.getD i vl0) := by
  rw [← cmpP_bareR x (a.getD i vl0), ← cmpP_bareR x (b.getD i vl0), getD_bare, getD_bare, bareL_of h]

theorem topE_ok {cols : List Int} {xs : List Ex} {n : Int} {z : List Zp} (h : topE cols xs n z = 0) : listE cols xs = 0 ∧ (0 ≤ n ∧ n ≤ 50) ∧ InpOk cols z ∧ gatherE (topL n (inOrd xs z)) = 0 := by
  unfold topE at h
  by_cases h1 : listE cols xs = 0
  · rw [if_neg (by simpa using h1)] at h
    by_cases h2 : n < 0 ∨ 50 < n
    · rw [if_pos h2] at h; omega
    · rw [if_neg h2] at h
      by_cases h3 : inpE cols z = 0
      · rw [if_neg (by simpa using h3)] at h
        exact ⟨h1, by omega, (inpE_ok _ _).1 h3, h⟩
      · rw [if_pos h3] at h; exact absurd h h3
  · rw [if_pos h1] at h; exact absurd h h1
structure FirstOk (cols : List Int) (key : Int) (n : Int) (z t : List Zp) : Prop where
  k0 : 0 ≤ key
  k1 : key < cols.length
  n0 : 0 ≤ n ∧ n ≤ 50
  inp : InpOk cols z
  set : IsSet t
  len : t.length ≤ 400
  row : ∀ y ∈ t, 1 ≤ y.2 ∧ y.2 ≤ wt z y.1 ∧ y.1.length = cols.length
  w6 : ∀ y ∈ t, y.2 ≤ 1000000
  kind : ∀ y ∈ t, 1 ≤ (y.1.getD key.toNat vl0).1 ∧ (y.1.getD key.toNat vl0).1 ≤ 4
  kindz : ∀ y ∈ z, 1 ≤ (y.1.getD key.toNat vl0).1 ∧ (y.1.getD key.toNat vl0).1 ≤ 4
  sum : tot one1 t = min n (posW z)
  rest : ∀ r ∈ z, 0 < r.2 → wt t r.1 < r.2 → tot one1 t = n ∧ ∀ y ∈ t, 0 ≤ cmpP (r.1.getD key.toNat vl0) (y.1.getD key.toNat vl0)
theorem wt_some {l : List Zp} {q : List Vl} (h : wt l q ≠ 0) : ∃ x ∈ l, cmpL x.1 q = 0 := by
  induction l with
  | nil => exact absurd rfl h
  | cons x r ih =>
    by_cases c : cmpL x.1 q = 0
    · exact ⟨x, by simp, c⟩
    · rw [wt, if_neg c] at h
      obtain ⟨y, hy, e⟩ := ih (by simpa using h)
      exact ⟨y, by simp [hy], e⟩
theorem cmpL_len : ∀ {a b : List Vl}, cmpL a b = 0 → a.length = b.length
  | [], [], _ => rfl
  | [], _ :: _, h => by simp [cmpL] at h
  | _ :: _, [], h => by simp [cmpL] at h
  | x :: r, y :: t, h => by
    rw [cmpL] at h
    split at h
    · rw [List.length_cons, List.length_cons, cmpL_len h]
    · rename_i c; exact absurd h c
theorem col_ok {cols : List Int} {key : Int} (h : (typeTop cols (colE key)).2 = 0) : 0 ≤ key ∧ key < cols.length := by
  have h2 := typ_of h
  obtain ⟨_, _, _, ts, _, hn⟩ := typP_node h2
  unfold nodeT colT at hn
  rw [if_neg (by decide), if_pos rfl] at hn
  split at hn
  · have := congrArg Prod.snd hn; simp at this
  · omega
theorem kind_ok {v : Vl} (h : wrongP v = 0) : 1 ≤ v.1 ∧ v.1 ≤ 4 := by
  unfold wrongP wrongF at h
  split at h
  · omega
  · omega
theorem fit_kind {cols : List Int} {row : List Vl} {key : Int} (h : FitP cols row) (h0 : 0 ≤ key) (h1 : key < cols.length) : 1 ≤ (row.getD key.toNat vl0).1 ∧ (row.getD key.toNat vl0).1 ≤ 4 := by
  have hl := h.len
  have hk : key.toNat < row.length := by omega
  have e : row.getD key.toNat vl0 = row[key.toNat] := by simp [List.getD, hk]
  rw [e]
  exact kind_ok (by simpa [wrongP] using (h.one key.toNat hk).1)
theorem first_ok {cols : List Int} {key n : Int} {z : List Zp} (h : topE cols [colE key] n z = 0) : FirstOk cols key n z (topZ cols [colE key] n z) := by
  obtain ⟨h1, h2, h3, h4⟩ := topE_ok h
  have hr : Rise z := ((wrongZ_iff z).1 h3.set).2.2
  have hk := col_ok ((listE_ok h1).2 (colE key) (by simp))
  have hpos : ∀ x ∈ inOrd [colE key] z, 0 < x.2.2 := fun x hx => (inOrd_mem.1 hx).1.2
  obtain ⟨t1, t2⟩ := topL_spec (inOrd [colE key] z) n h2.1 hpos (inOrd_sorted hr) (inOrd_apart hr)
  have hmem := topL_mem n (inOrd [colE key] z) h2.1 hpos
  have eT : topZ cols [colE key] n z = canon (topL n (inOrd [colE key] z)) := by unfold topZ; rw [if_pos h]
  have hset : IsSet (topZ cols [colE key] n z) := by rw [eT]; exact canon_set _
  have hwt : ∀ q, wt (topZ cols [colE key] n z) q = wt (topL n (inOrd [colE key] z)) q := fun q => by rw [eT, canon_wt]
  have hsum : tot one1 (topZ cols [colE key] n z) = tot one1 (topL n (inOrd [colE key] z)) := by rw [eT, tot_canon resp_one]
  have hsk : sumK (inOrd [colE key] z) = posW z := by rw [sumK_perm (inOrd_perm _ z), sumK_with]
  -- each row of the answer is one of the set
  have hrow : ∀ y ∈ topZ cols [colE key] n z, ∃ X ∈ inOrd [colE key] z, cmpL X.2.1 y.1 = 0 ∧ y.2 = wt (topL n (inOrd [colE key] z)) X.2.1 := fun y hy => by
    have e1 := wt_mem hset.rise y hy
    rw [hwt] at e1
    obtain ⟨x, hx, e2⟩ := wt_some (l := topL n (inOrd [colE key] z)) (q := y.1) (by rw [e1]; exact hset.ne y hy)
    obtain ⟨⟨X, hX, e3⟩, _⟩ := hmem x hx
    exact ⟨X, hX, by rw [← e3]; exact e2, by rw [← e1, ← e3]; exact (wt_congr e2 _).symm⟩
  refine ⟨hk.1, hk.2, h2, h3, hset, ?_, ?_, ?_, ?_, fun y hy => fit_kind (h3.fit y hy) hk.1 hk.2, by rw [hsum, t1, hsk], ?_⟩
  · rw [eT]; exact (gather_ok h4).2
  · intro y hy
    obtain ⟨X, hX, e1, e2⟩ := hrow y hy
    obtain ⟨j1, j2, _⟩ := t2 X hX
    have hne := hset.ne y hy
    obtain ⟨⟨m1, _⟩, _⟩ := inOrd_mem.1 hX
    have e3 := wt_mem hr X.2 m1
    refine ⟨by omega, by rw [← wt_congr e1 z, e3]; omega, ?_⟩
    rw [← (h3.fit X.2 m1).len]
    exact (cmpL_len e1).symm
  · intro y hy
    obtain ⟨X, hX, e1, e2⟩ := hrow y hy
    obtain ⟨_, j2, _⟩ := t2 X hX
    have := set_in h3 X.2 (inOrd_mem.1 hX).1.1
    rw [inW_iff] at this
    omega
  · intro y hy
    obtain ⟨X, hX, e1, _⟩ := hrow y hy
    have e3 : y.1.getD key.toNat vl0 = bareP (X.2.1.getD key.toNat vl0) := by rw [getD_bare, bareL_of e1, hset.bare y hy]
    rw [e3]
    exact fit_kind (h3.fit X.2 (inOrd_mem.1 hX).1.1) hk.1 hk.2
  · intro r hr1 hr2 hlt
    have hX : ((rowX [colE key] r.1, r) : Kp) ∈ inOrd [colE key] z := inOrd_mem.2 ⟨⟨hr1, hr2⟩, rfl⟩
    obtain ⟨_, _, j3⟩ := t2 _ hX
    rw [hwt] at hlt
    obtain ⟨k1, k2⟩ := j3 hlt
    refine ⟨by rw [hsum, k1], fun y hy => ?_⟩
    obtain ⟨Y, hY, e1, e2⟩ := hrow y hy
    have hne := hset.ne y hy
    have hst : ¬ StK (rowX [colE key] r.1, r) Y := fun h => hne (by rw [e2, k2 Y hY h])
    have hky := (inOrd_mem.1 hY).2
    have e3 : rowX [colE key] r.1 = [bareP (r.1.getD key.toNat vl0)] := by simp [rowX, colE, valX, nodeV]
    have e4 : Y.1 = [bareP (Y.2.1.getD key.toNat vl0)] := by rw [hky]; simp [rowX, colE, valX, nodeV]
    have hc : ¬ cmpL (rowX [colE key] r.1) Y.1 < 0 := fun h => hst (.inl h)
    rw [e3, e4] at hc
    simp only [cmpL] at hc
    rw [cmpP_bare, cmpP_bareR] at hc
    rw [← cmpL_getD e1]
    split at hc <;> omega
end Go.Proofs.YtajbjhaoeeiigaaGreat
/- The statements' own small functions: num, col, alive, plus. -/
namespace Go.Proofs.YtajbjhaoeeiigaaGreat
open Go.RowKit Go.Lib Go.Shelf

theorem num_at (n : Int) (w : World) :
    Calls Tryz.prog 26 #[.int .i64 n] w fun e w' => e = .returned (.agg #[.int .i64 3, .int .i64 n, .string ⟨#[]⟩]) ∧ Below w.heap.size w w' := by
  go_enter Tryz.func26, Tryz.ntmps26
  go_wp2_with fail
  exact bodyPost_ret (v := .agg #[.int .i64 3, .int .i64 n, .string ⟨#[]⟩]) (by simp [results, Tryz.results26, go_sem]) rfl ⟨rfl, (Below.refl _ _).alloc (Nat.le_refl _) _⟩
theorem col_at (c : Int) (w : World) :
    Calls Tryz.prog 12 #[.int .i64 c] w fun e w' => e = .returned (exV 2 vl0 c none 0 0) ∧ Below w.heap.size w w' := by
  go_enter Tryz.func12, Tryz.ntmps12
  go_wp2_with fail
  exact bodyPost_ret (v := exV 2 vl0 c none 0 0) (by simp [results, Tryz.results12, go_sem, vl0]) rfl ⟨rfl, (Below.refl _ _).alloc (Nat.le_refl _) _⟩
theorem ks_two (w : World) {B : Nat} {x y : Ex} (ax : Option Addr) (cx : Nat) (ay : Option Addr) (cy : Nat) (hB : B ≤ w.heap.size) (kx : KsAt B w ax x.ks) (ky : KsAt B w ay y.ks) :
    KsAt (w.heap.size + 1) (w.alloc (.cells #[.int .i64 x.k, .int .i64 x.v.1, .int .i64 x.v.2.1, .string x.v.2.2, .int .i64 x.c, .slice ax x.ks.length cx, .int .i64 y.k, .int .i64 y.v.1, .int .i64 y.v.2.1, .string y.v.2.2, .int .i64 y.c, .slice ay y.ks.length cy] 32)) (some ⟨w.heap.size, 0, none⟩) [x, y] := by
  have hal : Below w.heap.size w (w.alloc (.cells #[.int .i64 x.k, .int .i64 x.v.1, .int .i64 x.v.2.1, .string x.v.2.2, .int .i64 x.c, .slice ax x.ks.length cx, .int .i64 y.k, .int .i64 y.v.1, .int .i64 y.v.2.1, .string y.v.2.2, .int .i64 y.c, .slice ay y.ks.length cy] 32)) := (Below.refl _ _).alloc (Nat.le_refl _) _
  have Kx := (KsAt.next hal hB kx).up (Nat.le_succ_of_le hB)
  have Ky := (KsAt.next hal hB ky).up (Nat.le_succ_of_le hB)
  refine .some w.heap.size 0 _ (fun i => if i = 0 then ax else ay) (fun i => if i = 0 then cx else cy) (Nat.lt_succ_self _) (fun i hi => ?_) (fun i hi => ?_)
  · match i, hi with
    | 0, _ => exact ⟨by simp, by simp, by simp, by simp, by simp, by simp⟩
    | 1, _ => exact ⟨by simp, by simp, by simp, by simp, by simp, by simp⟩
  · match i, hi with
    | 0, _ => exact Kx
    | 1, _ => exact Ky

def zA : List Zp := [([(3, 1, ⟨#[]⟩)], 2), ([(3, 2, ⟨#[]⟩)], 1)]
def xA : Ex := mk2 8 (.mk 2 vl0 0 []) (.mk 1 (3, 2, ⟨#[]⟩) 0 [])
theorem wrong_zA : wrongZ zA = 0 := by
  rw [wrongZ_iff]
  refine ⟨by decide, ?_, ?_⟩
  · intro x hx
    simp only [zA, List.mem_cons, List.not_mem_nil, or_false] at hx
    rcases hx with rfl | rfl
    · exact ⟨by rfl, by decide, by rfl⟩
    · exact ⟨by rfl, by decide, by rfl⟩
  · simp only [Rise, zA, List.pairwise_cons, List.mem_cons, List.not_mem_nil, or_false, forall_eq, List.Pairwise.nil, and_true, false_imp_iff, implies_true]
    simp [cmpL, cmpP, cmpV, cmpI]
theorem filtE_A : filtE [3] xA zA = 0 := by
  have h1 : condE [3] xA = 0 := by rfl
  have h2 : inpE [3] zA = 0 := by
    rw [inpE_ok]
    refine ⟨by decide, wrong_zA, ?_⟩
    intro x hx
    simp only [zA, List.mem_cons, List.not_mem_nil, or_false] at hx
    rcases hx with rfl | rfl
    · exact (fitsL_ok _ _).1 (by rfl)
    · exact (fitsL_ok _ _).1 (by rfl)
  unfold filtE
  rw [h1, h2]
  rfl
theorem rise_A : Rise zA := ((wrongZ_iff zA).1 wrong_zA).2.2
theorem filtZ_A : filtZ [3] xA zA = [([(3, 1, ⟨#[]⟩)], 2)] := by
  unfold filtZ
  rw [if_pos filtE_A]
  have e : filtL xA zA = [([(3, 1, ⟨#[]⟩)], 2)] := by rfl
  rw [e, canon_rise (by simp [Rise])]
  rfl
def sA : List Zp := [([(3, 1, ⟨#[]⟩)], 4), ([(3, 2, ⟨#[]⟩)], 2)]
theorem both_A : bothE 1 zA zA = 0 ∧ bothZ 1 zA zA = sA := by
  have hr : Rise sA := by
    simp only [Rise, sA, List.pairwise_cons, List.mem_cons, List.not_mem_nil, or_false, forall_eq, List.Pairwise.nil, and_true, false_imp_iff, implies_true]
    simp [cmpL, cmpP, cmpV, cmpI]
  refine plus_of wrong_zA wrong_zA ⟨hr, ?_, ?_⟩ ?_ ?_
  · intro x hx
    simp only [sA, List.mem_cons, List.not_mem_nil, or_false] at hx
    rcases hx with rfl | rfl <;> decide
  · intro x hx
    simp only [sA, List.mem_cons, List.not_mem_nil, or_false] at hx
    rcases hx with rfl | rfl <;> rfl
  · rw [wrongZ_iff]
    refine ⟨by decide, ?_, hr⟩
    intro x hx
    simp only [sA, List.mem_cons, List.not_mem_nil, or_false] at hx
    rcases hx with rfl | rfl
    · exact ⟨by rfl, by decide, by rfl⟩
    · exact ⟨by rfl, by decide, by rfl⟩
  · intro k
    simp only [wt, sA, zA]
    split <;> split <;> omega
theorem zs_two {W : World} {b a1 a2 : Nat} {x1 x2 : Int} {r1 r2 : List Vl} (hb : b < W.heap.size) (h0 : W.cell? ⟨b, 0, none⟩ = some (.slice (some ⟨a1, 0, none⟩) r1.length r1.length)) (h1 : W.cell? ⟨b, 1, none⟩ = some (.int .i64 x1)) (h2 : W.cell? ⟨b, 2, none⟩ = some (.slice (some ⟨a2, 0, none⟩) r2.length r2.length)) (h3 : W.cell? ⟨b, 3, none⟩ = some (.int .i64 x2))
    (s1 : SlAt W (some ⟨a1, 0, none⟩) r1) (s2 : SlAt W (some ⟨a2, 0, none⟩) r2) : ZsAt W (some ⟨b, 0, none⟩) [(r1, x1), (r2, x2)] := by
  refine ⟨by simp [maxLen], .inr ⟨b, 0, rfl, hb, fun i hi => ?_⟩⟩
  match i, hi with
  | 0, _ => exact ⟨h1, _, _, h0, s1⟩
  | 1, _ => exact ⟨h3, _, _, h2, s2⟩

set_option maxRecDepth 100000 in
set_option maxHeartbeats 4000000 in
theorem alive_at (w : World) : Calls Tryz.prog 9 #[] w fun e w' => e = .returned (.bool true) ∧ Below w.heap.size w w' := by
  go_enter Tryz.func9, Tryz.ntmps9
  go_wp2_with fail
  refine (num_at 1 w).mono ?_
  rintro e w1 ⟨rfl, hb1⟩
  go_wp2_with fail
  have h2 : Below w1.heap.size w1 (w1.alloc (.cells #[.int .i64 3, .int .i64 1, .string ⟨#[]⟩] 30)) := (Below.refl _ _).alloc (Nat.le_refl _) _
  have s1 : SlAt (w1.alloc (.cells #[.int .i64 3, .int .i64 1, .string ⟨#[]⟩] 30)) (some ⟨w1.heap.size, 0, none⟩) [(3, 1, ⟨#[]⟩)] :=
    ⟨by unfold maxLen; simp, .inr ⟨w1.heap.size, 0, rfl, fun i hi => by
      match i, hi with
      | 0, _ => exact ⟨by simp, by simp, by simp⟩, by simp⟩⟩
  generalize w1.alloc (.cells #[.int .i64 3, .int .i64 1, .string ⟨#[]⟩] 30) = w2 at *
  have hA := chain hb1 h2
  refine (num_at 2 w2).mono ?_
  rintro e w3 ⟨rfl, hb3⟩
  have hA := chain hA hb3
  have s1 := s1.next hb3
  go_wp2_with fail
  have h4 : Below w3.heap.size w3 (w3.alloc (.cells #[.int .i64 3, .int .i64 2, .string ⟨#[]⟩] 30)) := (Below.refl _ _).alloc (Nat.le_refl _) _
  have s2 : SlAt (w3.alloc (.cells #[.int .i64 3, .int .i64 2, .string ⟨#[]⟩] 30)) (some ⟨w3.heap.size, 0, none⟩) [(3, 2, ⟨#[]⟩)] :=
    ⟨by unfold maxLen; simp, .inr ⟨w3.heap.size, 0, rfl, fun i hi => by
      match i, hi with
      | 0, _ => exact ⟨by simp, by simp, by simp⟩, by simp⟩⟩
  have s1 := s1.next h4
  have z4 : (w3.alloc (.cells #[.int .i64 3, .int .i64 2, .string ⟨#[]⟩] 30)).heap.size = w3.heap.size + 1 := by simp
  generalize w3.alloc (.cells #[.int .i64 3, .int .i64 2, .string ⟨#[]⟩] 30) = w4 at *
  have hA := chain hA h4
  have h5 : Below w4.heap.size w4 (w4.alloc (.cells #[.slice (some ⟨w1.heap.size, 0, none⟩) 1 1, .int .i64 2, .slice (some ⟨w3.heap.size, 0, none⟩) 1 1, .int .i64 1] 38)) := (Below.refl _ _).alloc (Nat.le_refl _) _
  have zs : ZsAt (w4.alloc (.cells #[.slice (some ⟨w1.heap.size, 0, none⟩) 1 1, .int .i64 2, .slice (some ⟨w3.heap.size, 0, none⟩) 1 1, .int .i64 1] 38)) (some ⟨w4.heap.size, 0, none⟩) zA :=
    zs_two (by simp) (by simp) (by simp) (by simp) (by simp) (s1.next h5) (s2.next h5)
  have z5 : (w4.alloc (.cells #[.slice (some ⟨w1.heap.size, 0, none⟩) 1 1, .int .i64 2, .slice (some ⟨w3.heap.size, 0, none⟩) 1 1, .int .i64 1] 38)).heap.size = w4.heap.size + 1 := by simp
  rw [z4] at zs
  generalize w4.alloc (.cells #[.slice (some ⟨w1.heap.size, 0, none⟩) 1 1, .int .i64 2, .slice (some ⟨w3.heap.size, 0, none⟩) 1 1, .int .i64 1] 38) = w5 at *
  have hA := chain hA h5
  clear s1 s2
  refine (col_at 0 w5).mono ?_
  rintro e w6 ⟨rfl, hb6⟩
  have hA := chain hA hb6
  have zs := zs.next hb6
  have hS := hb6
  go_wp2_with fail
  refine (num_at 2 w6).mono ?_
  rintro e w7 ⟨rfl, hb7⟩
  have hA := chain hA hb7
  have zs := zs.next hb7
  go_wp2_with fail
  have K8 : KsAt (w7.heap.size + 1) (w7.alloc (.cells #[.int .i64 2, .int .i64 vl0.1, .int .i64 vl0.2.1, .string vl0.2.2, .int .i64 0, .slice none 0 0, .int .i64 1, .int .i64 3, .int .i64 2, .string ⟨#[]⟩, .int .i64 0, .slice none 0 0] 32)) (some ⟨w7.heap.size, 0, none⟩) xA.ks := ks_two w7 (B := w7.heap.size) (x := .mk 2 vl0 0 []) (y := .mk 1 (3, 2, ⟨#[]⟩) 0 []) none 0 none 0 (Nat.le_refl _) (.nil _) (.nil _)
  have h8 : Below w7.heap.size w7 (w7.alloc (.cells #[.int .i64 2, .int .i64 vl0.1, .int .i64 vl0.2.1, .string vl0.2.2, .int .i64 0, .slice none 0 0, .int .i64 1, .int .i64 3, .int .i64 2, .string ⟨#[]⟩, .int .i64 0, .slice none 0 0] 32)) := (Below.refl _ _).alloc (Nat.le_refl _) _
  have z8 : (w7.alloc (.cells #[.int .i64 2, .int .i64 vl0.1, .int .i64 vl0.2.1, .string vl0.2.2, .int .i64 0, .slice none 0 0, .int .i64 1, .int .i64 3, .int .i64 2, .string ⟨#[]⟩, .int .i64 0, .slice none 0 0] 32)).heap.size = w7.heap.size + 1 := by simp
  generalize w7.alloc (.cells #[.int .i64 2, .int .i64 vl0.1, .int .i64 vl0.2.1, .string vl0.2.2, .int .i64 0, .slice none 0 0, .int .i64 1, .int .i64 3, .int .i64 2, .string ⟨#[]⟩, .int .i64 0, .slice none 0 0] 32) = w8 at *
  have hA := chain hA h8
  have zs := zs.next h8
  have h9 : Below w8.heap.size w8 (w8.alloc (.cells #[.int .i64 8, .int .i64 0, .int .i64 0, .string ⟨#[]⟩, .int .i64 0, .slice (some ⟨w7.heap.size, 0, none⟩) 2 2] 32)) := (Below.refl _ _).alloc (Nat.le_refl _) _
  have z9 : (w8.alloc (.cells #[.int .i64 8, .int .i64 0, .int .i64 0, .string ⟨#[]⟩, .int .i64 0, .slice (some ⟨w7.heap.size, 0, none⟩) 2 2] 32)).heap.size = w8.heap.size + 1 := by simp
  generalize w8.alloc (.cells #[.int .i64 8, .int .i64 0, .int .i64 0, .string ⟨#[]⟩, .int .i64 0, .slice (some ⟨w7.heap.size, 0, none⟩) 2 2] 32) = w9 at *
  have hA := chain hA h9
  have zs := zs.next h9
  have K9 := KsAt.next h9 (by omega) K8
  have hA10 : Below w9.heap.size w9 (w9.alloc (.cells #[.int .i64 3] 3)) := (Below.refl _ _).alloc (Nat.le_refl _) _
  have z10 : (w9.alloc (.cells #[.int .i64 3] 3)).heap.size = w9.heap.size + 1 := by simp
  have IC : IsAt (w9.alloc (.cells #[.int .i64 3] 3)).heap.size (w9.alloc (.cells #[.int .i64 3] 3)) (some ⟨w9.heap.size, 0, none⟩) [3] :=
    ⟨by unfold maxLen; simp, .inr ⟨w9.heap.size, 0, rfl, by omega, fun i hi => by
      match i, hi with
      | 0, _ => simp⟩⟩
  generalize w9.alloc (.cells #[.int .i64 3] 3) = w10 at *
  have hA := chain hA hA10
  have zs := zs.next hA10
  have K10 := (KsAt.next hA10 (by omega) K9).up (show w7.heap.size + 1 ≤ w10.heap.size by omega)
  have e9 : w9.heap.size = w7.heap.size + 1 + 1 := by omega
  rw [e9] at IC
  have con : Calls Tryz.prog 15 #[.slice (some ⟨w7.heap.size + 1 + 1, 0, none⟩) 1 1, .agg #[.int .i64 8, .int .i64 0, .int .i64 0, .string ⟨#[]⟩, .int .i64 0, .slice (some ⟨w7.heap.size, 0, none⟩) 2 2], .slice (some ⟨w3.heap.size + 1, 0, none⟩) 2 2] w10 fun e w' => ∃ v, e = .returned (.tuple #[v, .int .i64 (filtE [3] xA zA)]) ∧ OwnZ w10.heap.size w' v (filtZ [3] xA zA) ∧ Below w10.heap.size w10 w' :=
    filter_at [3] xA _ 1 (some ⟨w7.heap.size, 0, none⟩) 2 _ 2 zA w10 IC K10 zs
  rw [filtE_A, filtZ_A] at con
  refine con.mono ?_
  rintro e w11 ⟨v11, rfl, O11, hb11⟩
  have hA := chain hA hb11
  have zs := zs.next hb11
  obtain ⟨a11, c11, rfl, zf⟩ := O11.zs
  clear con IC K8 K9 K10 O11
  have con : Calls Tryz.prog 27 #[.slice (some ⟨w3.heap.size + 1, 0, none⟩) 2 2, .slice (some ⟨w3.heap.size + 1, 0, none⟩) 2 2] w11 fun e w' => ∃ v, e = .returned (.tuple #[v, .int .i64 (bothE 1 zA zA)]) ∧ OwnZ w11.heap.size w' v (bothZ 1 zA zA) ∧ Below w11.heap.size w11 w' :=
    add_at _ _ 2 2 zA zA w11 zs zs (fun h => by cases h)
  rw [both_A.1, both_A.2] at con
  go_wp2_with fail
  refine con.mono ?_
  rintro e w12 ⟨v12, rfl, O12, hb12⟩
  have hA := chain hA hb12
  have zf := zf.next hb12
  obtain ⟨a12, c12, rfl, zp⟩ := O12.zs
  obtain ⟨b1, o1, rfl, l1, y1, _⟩ := zf.elem (k := 0) (by simp)
  obtain ⟨b2, o2, rfl, l2, y2, _⟩ := zp.elem (k := 0) (by simp [sA])
  simp only [Nat.zero_mul, Nat.add_zero, List.getElem_cons_zero, sA] at y1 y2
  clear con zs O12 zf zp
  go_wp2_with fail
  go_ret
  exact ⟨rfl, hA⟩
end Go.Proofs.YtajbjhaoeeiigaaGreat
/- Opening arguments: numbers, values, expressions. -/
namespace Go.Proofs.YtajbjhaoeeiigaaGreat
open Go.ChangeShapes Go.WideShapes Go.ChangeAt Go.RowKit Go.Joins

set_option maxRecDepth 100000 in
theorem addr_addX (b off i : Nat) : (⟨b, off, none⟩ : Addr).add i = ⟨b, off + i, none⟩ := by
  unfold Addr.add
  by_cases h : i = 0 <;> simp [h]
theorem q3 : Tryz.prog.cellsOf 3 = 1 := by kernel_rfl
theorem q2 : Tryz.prog.cellsOf 2 = 1 := by kernel_rfl
theorem q9 : Tryz.prog.cellsOf 9 = 1 := by kernel_rfl
theorem q24 : Tryz.prog.cellsOf 30 = 3 := by kernel_rfl
theorem q25 : Tryz.prog.cellsOf 23 = 1 := by kernel_rfl
theorem q27 : Tryz.prog.cellsOf 32 = 6 := by kernel_rfl
set_option maxRecDepth 100000 in
theorem open_valT {H : Type} {enc : TypeId × Value → H} {W : World} {base : Nat} {sp : Nat → Bool} {hd : Bool} {fuel : Nat} {cs : List Value} {x : DataW H × List MemPlace}
    (h : DataW.trod enc Tryz.prog W base sp hd fuel 30 cs = some x) : ∃ v : Vl, cs = [.int .i64 v.1, .int .i64 v.2.1, .string v.2.2] := by
  obtain ⟨y0, y1, y2, m, _, hlen, h0, h1, h2⟩ := Go.Deep.trod_struct3 Tryz.underlying30 h
  rw [q24] at hlen
  match cs, hlen with
  | [c0, c1, c2], _ =>
    simp only [q3, q2, q9] at h0 h1 h2
    obtain ⟨k, e0, _, _⟩ := DataW.trod_int Tryz.underlying3 h0
    obtain ⟨n, e1, _, _⟩ := DataW.trod_int Tryz.underlying2 h1
    obtain ⟨s, e2, _, _⟩ := DataW.trod_string Tryz.underlying9 h2
    simp at e0 e1 e2
    subst e0 e1 e2
    exact ⟨(k, n, s), rfl⟩
set_option maxRecDepth 100000 in
theorem open_rowX {H : Type} {enc : TypeId × Value → H} {W : World} {base : Nat} {sp : Nat → Bool} {hd : Bool} {fuel : Nat} {cs : List Value} {x : DataW H × List MemPlace} {a : Addr}
    (hc : W.cells? base a 3 = some cs) (h : DataW.trod enc Tryz.prog W base sp hd fuel 30 cs = some x) :
    ∃ v : Vl, W.cell? (a.add 0) = some (.int .i64 v.1) ∧ W.cell? (a.add 1) = some (.int .i64 v.2.1) ∧ W.cell? (a.add 2) = some (.string v.2.2) := by
  obtain ⟨_, hlen, hcell⟩ := World.cells?_some hc
  obtain ⟨v, rfl⟩ := open_valT h
  exact ⟨v, hcell 0 (by simp), hcell 1 (by simp), hcell 2 (by simp)⟩
set_option maxRecDepth 100000 in
theorem open_valsX {H : Type} {enc : TypeId × Value → H} {W : World} {r : Reach} {b0 : Nat} {v : Value} {d : DataW H} {p : List MemPlace}
    (hv : Value.okWide Tryz.prog W r b0 36 v) (h : DataW.Trod enc Tryz.prog W 0 (fun _ => true) true 36 v d p) : ∃ (a : Option Addr) (cap : Nat) (l : List Vl), v = .slice a l.length cap ∧ SlAt W a l ∧ (a = none → cap = 0) := by
  obtain ⟨a0, len, cap, rfl⟩ := okWide_slice Tryz.underlying36 hv
  obtain ⟨fuel, hf⟩ := h
  rcases Go.Deep.open_slice Tryz.underlying36 hf with ⟨hcs, _⟩ | ⟨a, len', cap', m, n, D, Pl, hcs, _, hl, hm, hmm, _, hx⟩
  · simp [Value.cells] at hcs
    obtain ⟨rfl, rfl, rfl⟩ := hcs
    exact ⟨none, 0, [], rfl, ⟨by simp, .inl rfl⟩, fun _ => rfl⟩
  · simp [Value.cells] at hcs
    obtain ⟨rfl, rfl, rfl⟩ := hcs
    rw [q24] at hx
    simp only [if_true] at hmm
    obtain ⟨f, hf'⟩ := Go.Deep.choose_lt (α := Vl) (n := len) (p := fun i (v : Vl) => W.cell? ((a.add (i * 3)).add 0) = some (.int .i64 v.1) ∧ W.cell? ((a.add (i * 3)).add 1) = some (.int .i64 v.2.1) ∧ W.cell? ((a.add (i * 3)).add 2) = some (.string v.2.2)) (fun i hi => by
      obtain ⟨cs', h1, h2⟩ := hx i (by omega)
      exact open_rowX h1 h2)
    refine ⟨some a, cap, (List.range len).map f, by simp, ⟨?_, ?_⟩, fun e => by cases e⟩
    · simp; omega
    by_cases h0 : len = 0
    · left; simp [h0]
    · right
      obtain ⟨b, off, spot⟩ := a
      have hc := (hf' 0 (by omega)).1
      have hspot : spot = none := by simpa [Addr.add] using World.cell?_spot hc
      subst hspot
      refine ⟨b, off, rfl, fun i hi => ?_, ?_⟩
      · have hi' : i < len := by simpa using hi
        have := hf' i hi'
        simp only [addr_addX] at this
        simp only [List.getElem_map, List.getElem_range]
        exact this
      · exact World.block_lt_of_cell? W _ (by simpa [Addr.add] using hc)
set_option maxRecDepth 100000 in
theorem open_ints {H : Type} {enc : TypeId × Value → H} {W : World} {r : Reach} {b0 : Nat} {v : Value} {d : DataW H} {p : List MemPlace}
    (hv : Value.okWide Tryz.prog W r b0 22 v) (h : DataW.Trod enc Tryz.prog W 0 (fun _ => true) true 22 v d p) : ∃ (a : Option Addr) (cap : Nat) (l : List Int), v = .slice a l.length cap ∧ IsAt W.heap.size W a l := by
  obtain ⟨a0, len, cap, rfl⟩ := okWide_slice Tryz.underlying22 hv
  obtain ⟨fuel, hf⟩ := h
  rcases Go.Deep.open_slice1 Tryz.underlying22 q3 hf with ⟨hcs, _⟩ | ⟨a, len', cap', m, n, V, D, Pl, hcs, _, hl, hm, hmm, _, hx⟩
  · simp [Value.cells] at hcs
    obtain ⟨rfl, rfl, rfl⟩ := hcs
    exact ⟨none, 0, [], rfl, by simp, .inl rfl⟩
  · simp [Value.cells] at hcs
    obtain ⟨rfl, rfl, rfl⟩ := hcs
    simp only [if_true] at hmm
    obtain ⟨f, hf'⟩ := Go.Deep.choose_lt (α := Int) (n := len) (p := fun i (k : Int) => W.cell? (a.add i) = some (.int .i64 k)) (fun i hi => by
      obtain ⟨h1, h2⟩ := hx i (by omega)
      obtain ⟨k, e0, _, _⟩ := DataW.trod_int Tryz.underlying3 h2
      simp at e0
      exact ⟨k, by rw [h1, e0]⟩)
    refine ⟨some a, cap, (List.range len).map f, by simp, ?_, ?_⟩
    · simp; omega
    by_cases h0 : len = 0
    · left; simp [h0]
    · right
      obtain ⟨b, off, spot⟩ := a
      have hc := hf' 0 (by omega)
      have hspot : spot = none := by simpa [Addr.add] using World.cell?_spot hc
      subst hspot
      refine ⟨b, off, rfl, World.block_lt_of_cell? W _ (by simpa [Addr.add] using hc), fun i hi => ?_⟩
      have hi' : i < len := by simpa using hi
      have := hf' i hi'
      simp only [addr_addX] at this
      simp only [List.getElem_map, List.getElem_range]
      exact this
set_option maxRecDepth 100000 in
theorem open_val {H : Type} {enc : TypeId × Value → H} {W : World} {base : Nat} {sp : Nat → Bool} {hd : Bool} {r : Reach} {b0 : Nat} {v : Value} {d : DataW H} {p : List MemPlace}
    (hv : Value.okWide Tryz.prog W r b0 30 v) (h : DataW.Trod enc Tryz.prog W base sp hd 30 v d p) : ∃ u : Vl, v = agV u := by
  obtain ⟨cs, rfl, _⟩ := okWide_struct Tryz.underlying30 hv
  obtain ⟨fuel, hf⟩ := h
  obtain ⟨u, e⟩ := open_valT hf
  refine ⟨u, ?_⟩
  have e' : cs.toList = [.int .i64 u.1, .int .i64 u.2.1, .string u.2.2] := by simpa [Value.cells] using e
  exact congrArg Value.agg (Array.toList_inj.mp e')

instance : Inhabited Ex := ⟨.mk 0 (0, 0, ⟨#[]⟩) 0 []⟩
/-- The kids' opening, at less fuel. -/
def KidsOpen {H : Type} (enc : TypeId × Value → H) (W : World) (hd : Bool) (m : Nat) : Prop :=
  ∀ cs x, DataW.trod enc Tryz.prog W 0 (fun _ => true) hd m 23 cs = some x → ∃ (a : Option Addr) (cap : Nat) (l : List Ex), cs = [.slice a l.length cap] ∧ KsAt W.heap.size W a l
set_option maxRecDepth 100000 in
theorem open_exprT {H : Type} {enc : TypeId × Value → H} {W : World} {hd : Bool} {fuel : Nat} (ih : ∀ m, m < fuel → KidsOpen enc W hd m) {cs : List Value} {x : DataW H × List MemPlace}
    (h : DataW.trod enc Tryz.prog W 0 (fun _ => true) hd fuel 32 cs = some x) :
    ∃ (e : Ex) (a : Option Addr) (cap : Nat), cs = [.int .i64 e.k, .int .i64 e.v.1, .int .i64 e.v.2.1, .string e.v.2.2, .int .i64 e.c, .slice a e.ks.length cap] ∧ KsAt W.heap.size W a e.ks := by
  obtain ⟨xs, n, hn, _, hl, hlen, hf⟩ := DataW.trod_struct Tryz.underlying32 h
  rw [q27] at hl
  match xs, hlen with
  | [y0, y1, y2, y3], _ =>
    have h0 := hf 0 _ rfl
    have h1 := hf 1 _ rfl
    have h2 := hf 2 _ rfl
    have h3 := hf 3 _ rfl
    match cs, hl with
    | [c0, c1, c2, c3, c4, c5], _ =>
      simp [q3, q24, q25] at h0 h1 h2 h3
      obtain ⟨k, e0, _, _⟩ := DataW.trod_int Tryz.underlying3 h0
      obtain ⟨v, e1⟩ := open_valT h1
      obtain ⟨c, e2, _, _⟩ := DataW.trod_int Tryz.underlying3 h2
      obtain ⟨a, cap, l, e3, hk⟩ := ih n (by omega) _ _ h3
      simp at e0 e1 e2 e3
      obtain ⟨r1, r2, r3⟩ := e1
      subst e0 r1 r2 r3 e2 e3
      exact ⟨.mk k v c l, a, cap, rfl, hk⟩
set_option maxRecDepth 100000 in
theorem kidsOpen {H : Type} (enc : TypeId × Value → H) (W : World) (hd : Bool) (fuel : Nat) : KidsOpen enc W hd fuel := by
  induction fuel using Nat.strongRecOn with
  | ind fuel ih =>
    intro cs x h
    rcases DataW.trod_slice Tryz.underlying23 h with ⟨hcs, _⟩ | ⟨a, len, cap, elems, rest, n, hn, hcs, _, _, _, _, hlen, hel, _, _⟩
    · exact ⟨none, 0, [], hcs, .nil _⟩
    · rw [q27] at hel
      obtain ⟨f, hf⟩ := Go.Deep.choose_lt (α := Ex × Option Addr × Nat) (n := len) (p := fun i (y : Ex × Option Addr × Nat) =>
          (W.cell? ((a.add (i * 6)).add 0) = some (.int .i64 y.1.k) ∧ W.cell? ((a.add (i * 6)).add 1) = some (.int .i64 y.1.v.1) ∧ W.cell? ((a.add (i * 6)).add 2) = some (.int .i64 y.1.v.2.1) ∧ W.cell? ((a.add (i * 6)).add 3) = some (.string y.1.v.2.2) ∧
            W.cell? ((a.add (i * 6)).add 4) = some (.int .i64 y.1.c) ∧ W.cell? ((a.add (i * 6)).add 5) = some (.slice y.2.1 y.1.ks.length y.2.2)) ∧ KsAt W.heap.size W y.2.1 y.1.ks) (fun i hi => by
        have key := hel i hi
        rw [List.getElem?_eq_getElem (by omega)] at key
        obtain ⟨cs', h1, h2⟩ := Option.bind_eq_some_iff.1 key
        obtain ⟨_, hl6, hcell⟩ := World.cells?_some h1
        obtain ⟨e, ai, ci, rfl, hk⟩ := open_exprT (fun m hm => ih m (by omega)) h2
        exact ⟨(e, ai, ci), ⟨hcell 0 (by simp), hcell 1 (by simp), hcell 2 (by simp), hcell 3 (by simp), hcell 4 (by simp), hcell 5 (by simp)⟩, hk⟩)
      refine ⟨some a, cap, (List.range len).map fun i => (f i).1, by simpa using hcs, ?_⟩
      by_cases h0 : len = 0
      · subst h0; exact .nil _
      · obtain ⟨b, off, spot⟩ := a
        have hc := (hf 0 (by omega)).1.1
        have hspot : spot = none := by simpa [Addr.add] using World.cell?_spot hc
        subst hspot
        refine .some b off _ (fun i => (f i).2.1) (fun i => (f i).2.2) (World.block_lt_of_cell? W _ (by simpa [Addr.add] using hc)) (fun i hi => ?_) (fun i hi => ?_)
        · have hi' : i < len := by simpa using hi
          have := (hf i hi').1
          simp only [addr_addX] at this
          simp only [List.getElem_map, List.getElem_range]
          exact ⟨this.1, this.2.1, this.2.2.1, this.2.2.2.1, this.2.2.2.2.1, this.2.2.2.2.2⟩
        · have hi' : i < len := by simpa using hi
          simp only [List.getElem_map, List.getElem_range]
          exact (hf i hi').2
set_option maxRecDepth 100000 in
theorem open_expr {H : Type} {enc : TypeId × Value → H} {W : World} {r : Reach} {b0 : Nat} {v : Value} {d : DataW H} {p : List MemPlace}
    (hv : Value.okWide Tryz.prog W r b0 32 v) (h : DataW.Trod enc Tryz.prog W 0 (fun _ => true) true 32 v d p) : ∃ (e : Ex) (a : Option Addr) (cap : Nat), v = exV e.k e.v e.c a e.ks.length cap ∧ KsAt W.heap.size W a e.ks := by
  obtain ⟨cs, rfl, _⟩ := okWide_struct Tryz.underlying32 hv
  obtain ⟨fuel, hf⟩ := h
  obtain ⟨e, a, cap, he, hk⟩ := open_exprT (fun m _ => kidsOpen enc W true m) hf
  refine ⟨e, a, cap, ?_, hk⟩
  have e' : cs.toList = [.int .i64 e.k, .int .i64 e.v.1, .int .i64 e.v.2.1, .string e.v.2.2, .int .i64 e.c, .slice a e.ks.length cap] := by simpa [Value.cells] using he
  exact congrArg Value.agg (Array.toList_inj.mp e')
set_option maxRecDepth 100000 in
theorem open_exprs {H : Type} {enc : TypeId × Value → H} {W : World} {r : Reach} {b0 : Nat} {v : Value} {d : DataW H} {p : List MemPlace}
    (hv : Value.okWide Tryz.prog W r b0 23 v) (h : DataW.Trod enc Tryz.prog W 0 (fun _ => true) true 23 v d p) : ∃ (a : Option Addr) (cap : Nat) (l : List Ex), v = .slice a l.length cap ∧ KsAt W.heap.size W a l := by
  obtain ⟨a0, len, cap, rfl⟩ := okWide_slice Tryz.underlying23 hv
  obtain ⟨fuel, hf⟩ := h
  obtain ⟨a, c, l, e, hs⟩ := kidsOpen enc W true fuel _ _ hf
  refine ⟨a, c, l, ?_, hs⟩
  simpa [Value.cells] using e
end Go.Proofs.YtajbjhaoeeiigaaGreat
/- Opening arguments: slices of values, and slices of rows with weights. -/
namespace Go.Proofs.YtajbjhaoeeiigaaGreat
open Go.ChangeShapes Go.WideShapes Go.ChangeAt Go.RowKit Go.Joins

set_option maxRecDepth 100000 in
theorem addr_add (b off i : Nat) : (⟨b, off, none⟩ : Addr).add i = ⟨b, off + i, none⟩ := by
  unfold Addr.add
  by_cases h : i = 0 <;> simp [h]
set_option maxRecDepth 100000 in
theorem open_row {H : Type} {enc : TypeId × Value → H} {W : World} {base : Nat} {sp : Nat → Bool} {hd : Bool} {fuel : Nat} {cs : List Value} {x : DataW H × List MemPlace} {a : Addr}
    (hc : W.cells? base a 3 = some cs) (h : DataW.trod enc Tryz.prog W base sp hd fuel 30 cs = some x) :
    ∃ v : Vl, W.cell? (a.add 0) = some (.int .i64 v.1) ∧ W.cell? (a.add 1) = some (.int .i64 v.2.1) ∧ W.cell? (a.add 2) = some (.string v.2.2) := by
  obtain ⟨_, hlen, hcell⟩ := World.cells?_some hc
  obtain ⟨y0, y1, y2, m, _, _, h0, h1, h2⟩ := Go.Deep.trod_struct3 Tryz.underlying30 h
  have q3 : Tryz.prog.cellsOf 3 = 1 := by kernel_rfl
  have q2 : Tryz.prog.cellsOf 2 = 1 := by kernel_rfl
  have q9 : Tryz.prog.cellsOf 9 = 1 := by kernel_rfl
  match cs, hlen with
  | [c0, c1, c2], _ =>
    simp only [q3, q2, q9] at h0 h1 h2
    obtain ⟨k, e0, _, _⟩ := DataW.trod_int Tryz.underlying3 h0
    obtain ⟨n, e1, _, _⟩ := DataW.trod_int Tryz.underlying2 h1
    obtain ⟨s, e2, _, _⟩ := DataW.trod_string Tryz.underlying9 h2
    simp at e0 e1 e2
    subst e0 e1 e2
    exact ⟨(k, n, s), hcell 0 (by omega), hcell 1 (by omega), hcell 2 (by omega)⟩
set_option maxRecDepth 100000 in
theorem open_valsT {H : Type} {enc : TypeId × Value → H} {W : World} {hd : Bool} {fuel : Nat} {cs : List Value} {x : DataW H × List MemPlace}
    (hf : DataW.trod enc Tryz.prog W 0 (fun _ => true) hd fuel 36 cs = some x) : ∃ (a : Option Addr) (cap : Nat) (l : List Vl), cs = [.slice a l.length cap] ∧ SlAt W a l := by
  rcases Go.Deep.open_slice Tryz.underlying36 hf with ⟨hcs, _⟩ | ⟨a, len, cap, m, n, D, Pl, hcs, _, hl, hm, hmm, _, hx⟩
  · exact ⟨none, 0, [], hcs, by simp, .inl rfl⟩
  · have q : Tryz.prog.cellsOf 30 = 3 := by kernel_rfl
    rw [q] at hx
    simp only [if_true] at hmm
    obtain ⟨f, hf'⟩ := Go.Deep.choose_lt (α := Vl) (n := len) (p := fun i (v : Vl) => W.cell? ((a.add (i * 3)).add 0) = some (.int .i64 v.1) ∧ W.cell? ((a.add (i * 3)).add 1) = some (.int .i64 v.2.1) ∧ W.cell? ((a.add (i * 3)).add 2) = some (.string v.2.2)) (fun i hi => by
      obtain ⟨cs', h1, h2⟩ := hx i (by omega)
      exact open_row h1 h2)
    refine ⟨some a, cap, (List.range len).map f, by simpa using hcs, ?_, ?_⟩
    · simp; omega
    by_cases h0 : len = 0
    · left; simp [h0]
    · right
      obtain ⟨b, off, spot⟩ := a
      have hc := (hf' 0 (by omega)).1
      have hspot : spot = none := by simpa [Addr.add] using World.cell?_spot hc
      subst hspot
      refine ⟨b, off, rfl, fun i hi => ?_, ?_⟩
      · have hi' : i < len := by simpa using hi
        have := hf' i hi'
        simp only [addr_add] at this
        simp only [List.getElem_map, List.getElem_range]
        exact this
      · exact World.block_lt_of_cell? W _ (by simpa [Addr.add] using hc)
set_option maxRecDepth 100000 in
theorem open_vals {H : Type} {enc : TypeId × Value → H} {W : World} {r : Reach} {b0 : Nat} {v : Value} {d : DataW H} {p : List MemPlace}
    (hv : Value.okWide Tryz.prog W r b0 36 v) (h : DataW.Trod enc Tryz.prog W 0 (fun _ => true) true 36 v d p) : ∃ (a : Option Addr) (cap : Nat) (l : List Vl), v = .slice a l.length cap ∧ SlAt W a l := by
  obtain ⟨a0, len, cap, rfl⟩ := okWide_slice Tryz.underlying36 hv
  obtain ⟨fuel, hf⟩ := h
  obtain ⟨a, c, l, e, hs⟩ := open_valsT hf
  refine ⟨a, c, l, ?_, hs⟩
  simpa [Value.cells] using e
set_option maxRecDepth 100000 in
theorem struct2 {P : Program} {H : Type} {enc : TypeId × Value → H} {w : World} {base : Nat} {spare : Nat → Bool} {held : Bool} {t : TypeId} {f0 f1 : Field} {fuel : Nat} {cs : List Value} {x : DataW H × List MemPlace} (ht : P.underlying t = some (.struct #[f0, f1])) (h : DataW.trod enc P w base spare held fuel t cs = some x) :
    ∃ y0 y1 n, DataW.trod enc P w base spare held n f0.type ((cs.drop f0.offset).take (P.cellsOf f0.type)) = some y0 ∧
      DataW.trod enc P w base spare held n f1.type ((cs.drop f1.offset).take (P.cellsOf f1.type)) = some y1 := by
  obtain ⟨xs, n, _, rfl, hl, hlen, hf⟩ := DataW.trod_struct ht h
  match xs, hlen with
  | [y0, y1], _ => exact ⟨y0, y1, n, by simpa using hf 0 f0 rfl, by simpa using hf 1 f1 rfl⟩
set_option maxRecDepth 100000 in
theorem open_zrow {H : Type} {enc : TypeId × Value → H} {W : World} {hd : Bool} {fuel : Nat} {cs : List Value} {x : DataW H × List MemPlace} {a : Addr}
    (hc : W.cells? 0 a 2 = some cs) (h : DataW.trod enc Tryz.prog W 0 (fun _ => true) hd fuel 38 cs = some x) :
    ∃ z : Zp, W.cell? (a.add 1) = some (.int .i64 z.2) ∧ ∃ ai cap, W.cell? (a.add 0) = some (.slice ai z.1.length cap) ∧ SlAt W ai z.1 := by
  obtain ⟨_, hlen, hcell⟩ := World.cells?_some hc
  obtain ⟨y0, y1, n, h0, h1⟩ := struct2 Tryz.underlying38 h
  have q23 : Tryz.prog.cellsOf 36 = 1 := by kernel_rfl
  have q2 : Tryz.prog.cellsOf 2 = 1 := by kernel_rfl
  match cs, hlen with
  | [c0, c1], _ =>
    simp only [q23, q2] at h0 h1
    obtain ⟨ai, cap, l, e0, hs⟩ := open_valsT h0
    obtain ⟨k, e1, _, _⟩ := DataW.trod_int Tryz.underlying2 h1
    simp at e0 e1
    subst e0 e1
    exact ⟨(l, k), hcell 1 (by omega), ai, cap, hcell 0 (by omega), hs⟩
set_option maxRecDepth 100000 in
theorem open_zrows {H : Type} {enc : TypeId × Value → H} {W : World} {r : Reach} {b0 : Nat} {v : Value} {d : DataW H} {p : List MemPlace}
    (hv : Value.okWide Tryz.prog W r b0 24 v) (h : DataW.Trod enc Tryz.prog W 0 (fun _ => true) true 24 v d p) : ∃ (a : Option Addr) (cap : Nat) (l : List Zp), v = .slice a l.length cap ∧ ZsAt W a l := by
  obtain ⟨a0, len, cap, rfl⟩ := okWide_slice Tryz.underlying24 hv
  obtain ⟨fuel, hf⟩ := h
  rcases Go.Deep.open_slice Tryz.underlying24 hf with ⟨hcs, _⟩ | ⟨a, len', cap', m, n, D, Pl, hcs, _, hl, hm, hmm, _, hx⟩
  · simp [Value.cells] at hcs
    obtain ⟨rfl, rfl, rfl⟩ := hcs
    exact ⟨none, 0, [], rfl, by simp, .inl rfl⟩
  · simp [Value.cells] at hcs
    obtain ⟨rfl, rfl, rfl⟩ := hcs
    have q : Tryz.prog.cellsOf 38 = 2 := by kernel_rfl
    rw [q] at hx
    simp only [if_true] at hmm
    obtain ⟨f, hf'⟩ := Go.Deep.choose_lt (α := Zp) (n := len) (p := fun i (z : Zp) => W.cell? ((a.add (i * 2)).add 1) = some (.int .i64 z.2) ∧ ∃ ai cap, W.cell? ((a.add (i * 2)).add 0) = some (.slice ai z.1.length cap) ∧ SlAt W ai z.1) (fun i hi => by
      obtain ⟨cs', h1, h2⟩ := hx i (by omega)
      exact open_zrow h1 h2)
    refine ⟨some a, cap, (List.range len).map f, by simp, ?_, ?_⟩
    · simp; omega
    by_cases h0 : len = 0
    · left; simp [h0]
    · right
      obtain ⟨b, off, spot⟩ := a
      obtain ⟨_, _, hc, _⟩ := (hf' 0 (by omega)).2
      have hspot : spot = none := by simpa [Addr.add] using World.cell?_spot hc
      subst hspot
      refine ⟨b, off, rfl, ?_, fun i hi => ?_⟩
      · exact World.block_lt_of_cell? W _ (by simpa [Addr.add] using hc)
      · have hi' : i < len := by simpa using hi
        have := hf' i hi'
        simp only [addr_add] at this
        simp only [List.getElem_map, List.getElem_range]
        exact this
end Go.Proofs.YtajbjhaoeeiigaaGreat
/- Opening arguments: slices of rows with weights; a nil one has no room. -/
namespace Go.Proofs.YtajbjhaoeeiigaaGreat
open Go.ChangeShapes Go.WideShapes Go.ChangeAt Go.RowKit Go.Joins

set_option maxRecDepth 100000 in
theorem open_zrows2 {H : Type} {enc : TypeId × Value → H} {W : World} {r : Reach} {b0 : Nat} {v : Value} {d : DataW H} {p : List MemPlace}
    (hv : Value.okWide Tryz.prog W r b0 24 v) (h : DataW.Trod enc Tryz.prog W 0 (fun _ => true) true 24 v d p) : ∃ (a : Option Addr) (cap : Nat) (l : List Zp), v = .slice a l.length cap ∧ ZsAt W a l ∧ (a = none → cap = 0) := by
  obtain ⟨a, cap, l, rfl, hz⟩ := open_zrows hv h
  refine ⟨a, cap, l, rfl, hz, ?_⟩
  intro e
  subst e
  obtain ⟨fuel, hf⟩ := h
  rcases Go.Deep.open_slice Tryz.underlying24 hf with ⟨hcs, _⟩ | ⟨a, len', cap', m, n, D, Pl, hcs, _⟩
  · simp [Value.cells] at hcs
    exact hcs.2
  · simp [Value.cells] at hcs
end Go.Proofs.YtajbjhaoeeiigaaGreat
