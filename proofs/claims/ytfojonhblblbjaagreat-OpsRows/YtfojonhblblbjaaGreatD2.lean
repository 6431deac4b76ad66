/- Together: SA, PF, PG, VB. -/
import Derived.Test.YtfojonhblblbjaaGreatD1
import Derived.Test.YtfojonhblblbjaaGreatB7
import Derived.Test.YtfojonhblblbjaaGreatD0
/- The walk of ops.Top. -/
namespace Go.Proofs.YtfojonhblblbjaaGreat
open Go.RowKit Go.Lib Go.Shelf

/-- The first rows: as many as are left. -/
def topL : Int → List Kp → List Zp
  | _, [] => []
  | n, x :: r => (x.2.1, min x.2.2 n) :: topL (n - min x.2.2 n) r
theorem topL_len : ∀ (n : Int) (l : List Kp), (topL n l).length = l.length
  | _, [] => rfl
  | n, x :: r => by simp [topL, topL_len _ r]
theorem topL_mem : ∀ (n : Int) (l : List Kp), 0 ≤ n → (∀ x ∈ l, 0 < x.2.2) → ∀ y ∈ topL n l, (∃ x ∈ l, y.1 = x.2.1) ∧ 0 ≤ y.2 ∧ y.2 ≤ n
  | _, [], _, _, y, hy => by simp [topL] at hy
  | n, x :: r, hn, hl, y, hy => by
    rw [topL] at hy
    have hx := hl x (by simp)
    rcases List.mem_cons.1 hy with rfl | hy
    · exact ⟨⟨x, by simp, rfl⟩, by simp only; omega, by simp only; omega⟩
    · obtain ⟨⟨q, hq, e⟩, h1, h2⟩ := topL_mem _ r (by omega) (fun q hq => hl q (by simp [hq])) y hy
      exact ⟨⟨q, by simp [hq], e⟩, h1, by omega⟩
theorem inOrd_mem {xs : List Ex} {z : List Zp} {x : Kp} : x ∈ inOrd xs z ↔ (x.2 ∈ z ∧ 0 < x.2.2) ∧ x.1 = rowX xs x.2.1 := by
  rw [(inOrd_perm xs z).mem_iff]
  unfold withK
  rw [List.mem_map]
  constructor
  · rintro ⟨p, hp, rfl⟩
    have := List.mem_filter.1 hp
    exact ⟨⟨this.1, by simpa using this.2⟩, rfl⟩
  · rintro ⟨⟨h1, h2⟩, h3⟩
    exact ⟨x.2, List.mem_filter.2 ⟨h1, by simpa using h2⟩, by rw [← h3]⟩
def topE (cols : List Int) (xs : List Ex) (k : Int) (z : List Zp) : Int := if listE cols xs ≠ 0 then listE cols xs else if k < 0 ∨ 50 < k then 3 else if inpE cols z ≠ 0 then inpE cols z else gatherE (topL k (inOrd xs z))
def topZ (cols : List Int) (xs : List Ex) (k : Int) (z : List Zp) : List Zp := if topE cols xs k z = 0 then canon (topL k (inOrd xs z)) else []
theorem topL_drop {n : Int} {l : List Kp} {j : Nat} (h : j < l.length) : topL n (l.drop j) = (l[j].2.1, min l[j].2.2 n) :: topL (n - min l[j].2.2 n) (l.drop (j + 1)) := by
  rw [List.drop_eq_getElem_cons h, topL]

set_option maxRecDepth 100000 in
set_option maxHeartbeats 8000000 in
theorem top_at (cols : List Int) (xs : List Ex) (n : Int) (hn64 : -9223372036854775808 ≤ n ∧ n ≤ 9223372036854775807) (ca : Option Addr) (ccap : Nat) (xa : Option Addr) (xcap : Nat) (a : Option Addr) (cap : Nat) (l : List Zp) (w : World) (hc : IsAt w.heap.size w ca cols) (hk : KsAt w.heap.size w xa xs) (h : ZsAt w a l) :
    Calls Tryz.prog 14 #[.slice ca cols.length ccap, .slice xa xs.length xcap, .int .i64 n, .slice a l.length cap] w fun e w' => ∃ v, e = .returned (.tuple #[v, .int .i64 (topE cols xs n l)]) ∧ OwnZ w.heap.size w' v (topZ cols xs n l) ∧ Below w.heap.size w w' := by
  obtain ⟨i0, hi, hj0, hj1, hj2⟩ := info_parts Tryz.info42
  have con := list_at cols xs ca ccap xa xcap w hk hc
  generalize hfz : topZ cols xs n l = fz
  generalize hfe : topE cols xs n l = fe
  have HZ : Hid (topZ cols xs n l = fz) := hfz
  have HF : Hid (topE cols xs n l = fe) := hfe
  clear hfz hfe
  by_cases h1 : listE cols xs = 0
  · have H1 : Hid (listE cols xs = 0) := h1
    rw [h1] at con
    clear h1
    by_cases hr : n < 0 ∨ 50 < n
    · have e0 : fe = 3 := by rw [← HF.out]; unfold topE; rw [H1.out, if_neg (by simp), if_pos hr]
      have e1 : fz = [] := by rw [← HZ.out]; unfold topZ; rw [HF.out, e0, if_neg (by decide)]
      subst e0
      have HV : Hid (fz = []) := e1
      clear e1
      go_enter Tryz.func14, Tryz.ntmps14
      go_wp2_with fail
      refine con.mono ?_
      rintro e w1 ⟨u, rfl, hL, hb1⟩
      clear con hL
      dsimp only
      by_cases hr1 : n < 0
      · go_wp2_with fail
        exact bodyPost_ret (v := .tuple #[.slice none 0 0, .int .i64 3]) (by simp [results, Tryz.results14, go_sem]) rfl ⟨_, rfl, by rw [HV.out]; exact own_nil _ _, hb1⟩
      · have hr2 : 50 < n := by omega
        go_wp2_with fail
        exact bodyPost_ret (v := .tuple #[.slice none 0 0, .int .i64 3]) (by simp [results, Tryz.results14, go_sem]) rfl ⟨_, rfl, by rw [HV.out]; exact own_nil _ _, hb1⟩
    have hr1 : ¬ n < 0 := fun h => hr (.inl h)
    have hr2 : ¬ 50 < n := fun h => hr (.inr h)
    have HRg : Hid (¬ (n < 0 ∨ 50 < n)) := hr
    clear hr
    go_enter Tryz.func14, Tryz.ntmps14
    go_wp2_with fail
    refine con.mono ?_
    rintro e w1 ⟨u, rfl, hL, hb1⟩
    clear con
    have hL : ListF cols w.heap.size u xs w1 := by
      rcases hL with ⟨_, hL⟩ | ⟨hL, _⟩
      · exact hL
      · exact absurd (by trivial) hL
    obtain ⟨g, cb, rfl, eg, d⟩ := hL
    have HL : Hid (ListF cols w.heap.size (.func (.func g) #[] cb) xs w1) := ⟨g, cb, rfl, eg, d⟩
    clear d
    have con := wrongS_at cols ca ccap a cap l w1 ((hc.next hb1 (Nat.le_refl _)).up hb1.size) (h.next hb1)
    by_cases h2 : inpE cols l = 0
    · have hz := (inpE_ok cols l).1 h2
      rw [h2] at con
      have H2 : Hid (inpE cols l = 0) := h2
      clear h2
      have HE : Hid (fe = gatherE (topL n (inOrd xs l))) := by
        show fe = _
        rw [← HF.out]; unfold topE; rw [H1.out, H2.out, if_neg (by simp), if_neg HRg.out, if_neg (by simp)]
      have HV : Hid (fz = gatherZ (topL n (inOrd xs l))) := by
        show fz = _
        rw [← HZ.out]; unfold topZ gatherZ; rw [HF.out, HE.out]
      have hl4 := set_len hz
      have HO : Hid (InpOk cols l) := hz
      dsimp only
      go_wp2_with fail
      refine con.mono ?_
      rintro e w2 ⟨rfl, hb2⟩
      clear con
      have hA := chain hb1 hb2
      have con := inOrder_at cols xs (.func (.func g) #[] cb) w.heap.size a cap l w2 (HL.out.next (Since.of hb2)) HO.out (h.next hA)
      have hil := inOrd_len xs l
      generalize hio : inOrd xs l = L at *
      have HI : Hid (inOrd xs l = L) := hio
      clear hio
      dsimp only
      go_wp2_with fail
      refine con.mono ?_
      rintro e w3 ⟨a3, c3, rfl, kd, hb3⟩
      clear con
      have hA3 := chain hA hb3
      dsimp only
      have HP : Hid (∀ x ∈ L, 0 < x.2.2) := fun x hx => by rw [← HI.out] at hx; exact (inOrd_mem.1 hx).1.2
      have HW : Hid (∀ x ∈ L, x.2.2 ≤ 1000000) := fun x hx => by
        rw [← HI.out] at hx
        have := set_in HO.out x.2 (inOrd_mem.1 hx).1.1
        rw [inW_iff] at this
        exact this.2
      clear hz
      go_wp2_with fail
      go_loopw [13, 14, 44] (fun v s14 i wr => ∃ (k : Nat) (lf : Int) (acc : List Zp), k ≤ L.length ∧ i = .int .i64 k ∧ s14 = .int .i64 lf ∧ 0 ≤ lf ∧ lf ≤ 50 ∧ acc.length ≤ k ∧ OwnB w3 w3.heap.size wr v acc ∧ Hid (topL n L = acc ++ topL lf (L.drop k)) ∧ Below w3.heap.size w3 wr) (fun _ _ i _ => L.length - (intOf i).toNat)
      case atStart => exact ⟨0, n, [], Nat.zero_le _, rfl, rfl, by omega, by omega, Nat.le_refl _, ⟨[], by simpa using World.ownsRow_nil _ _ _ _, by simp [EncB]⟩, rfl, Below.refl _ _⟩
      case round =>
        obtain ⟨k, lf, acc, hk', rfl, rfl, hf0, hf1, hacc, HOB, HT, hb⟩ := hrel
        have hzr := hb.size
        by_cases hlt : k < L.length
        · obtain ⟨b, off, rfl, hbl, e2, ⟨ra, rc, e1, sr⟩, ka, kc, e0, _⟩ := kd.elem hlt
          have p2 := (hb.cell (p := ⟨b, _, none⟩) hbl).trans e2
          have p1 := (hb.cell (p := ⟨b, _, none⟩) hbl).trans e1
          have p0 := (hb.cell (p := ⟨b, _, none⟩) hbl).trans e0
          have hbl' : b < wr.heap.size := Nat.lt_of_lt_of_le hbl hzr
          have HS : Hid (SlAt w3 ra L[k].2.1) := sr
          have hw0 := HP.out L[k] (List.getElem_mem hlt)
          have hw1 := HW.out L[k] (List.getElem_mem hlt)
          have HD : Hid (topL lf (L.drop k) = (L[k].2.1, min L[k].2.2 lf) :: topL (lf - min L[k].2.2 lf) (L.drop (k + 1))) := topL_drop hlt
          obtain ⟨xs', ho, he⟩ := HOB
          have HEn : Hid (EncB w3 xs' acc) := he
          have hal : Below wr.heap.size wr (wr.alloc (.cells #[.slice ka L[k].1.length kc, .slice ra L[k].2.1.length rc, .int .i64 L[k].2.2] 73)) := (Below.refl _ _).alloc (Nat.le_refl _) _
          have ho1 := own_next ho hal
          have za : (wr.alloc (.cells #[.slice ka L[k].1.length kc, .slice ra L[k].2.1.length rc, .int .i64 L[k].2.2] 73)).heap.size = wr.heap.size + 1 := by simp
          clear e0 e1 e2 sr he ho
          go_wp2_with (at_builtin; refine wpList_append_own _ rfl _ _ 28 rfl w3.heap.size 53 i0 _ 2 32 Tryz.underlying28 hi hj0 hj1 hj2 rfl (by decide) _ _ _ rfl (ho1.alloc _) ⟨wr.heap.size + 1, 0, none⟩ 1 1 [.slice ra L[k].2.1.length rc, .int .i64 (min L[k].2.2 lf)] rfl rfl ?Ac1 ?Ac2 ?Ac3 ?Ac4 ?Ac5 ?_)
          case Ac1 =>
            intro j u hj
            match j, hj with
            | 0, hj => simp at hj; subst hj; simp [Addr.add]
            | 1, hj => simp at hj; subst hj; simp [Addr.add]
          case Ac2 => intro u hu; simp at hu; rcases hu with rfl | rfl <;> rfl
          case Ac3 => unfold maxLen; omega
          case Ac4 => omega
          case Ac5 => simp; omega
          intro v' w5 ho5 hg5 _
          have hb5 : Below w3.heap.size wr w5 := (((Below.refl w3.heap.size wr).alloc (by omega) _).alloc (by simp; omega) _).grown hg5 (by simp; omega) (fun q hq => ((ho1.alloc (.cells #[.slice ra L[k].2.1.length rc, .int .i64 (min L[k].2.2 lf)] 53)).lt q hq).1)
          have hb6 := hb.trans hb5
          clear hg5 ho1 hal hb5
          go_wp2_with fail
          go_roundw
          case rel => exact ⟨k + 1, lf - min L[k].2.2 lf, acc ++ [(L[k].2.1, min L[k].2.2 lf)], by omega, by go_num, rfl, by omega, by omega, by simp; omega, ⟨_, by simpa using ho5, HEn.out.push HS.out⟩, by show topL n L = _; rw [HT.out, HD.out]; simp, hb6⟩
          case measure => simp [intOf]; omega
        · have e : k = L.length := by omega
          subst e
          have ea : topL n L = acc := by have := HT.out; rw [List.drop_length] at this; simpa [topL] using this
          obtain ⟨a4, c4, rfl, zs4, _⟩ := HOB.zs hb
          have hmem := topL_mem n L (by omega) HP.out
          have con := gathered_at a4 c4 acc wr zs4 (by omega) (fun y hy => by rw [← ea] at hy; have := hmem y hy; rw [bigW_iff]; omega) (fun y hy => by
            rw [← ea] at hy
            obtain ⟨⟨x, hx, e⟩, _⟩ := hmem y hy
            rw [e]
            rw [← HI.out] at hx
            exact row8 HO.out x.2 (inOrd_mem.1 hx).1.1)
          have HV' := HV.out
          have HE' := HE.out
          rw [ea] at HV' HE'
          rw [← HE', ← HV'] at con
          clear HV' HE' zs4 HOB ea hmem
          go_wp2_with fail
          refine con.mono ?_
          rintro e w6 ⟨v6, rfl, O6, hb6⟩
          have hA6 := chain hA3 hb
          have O6' := O6.mono hA6.size
          obtain ⟨a6, c6, rfl, _⟩ := O6.zs
          clear con O6
          dsimp only
          go_wp2_with fail
          exact bodyPost_ret (v := .tuple #[.slice a6 fz.length c6, .int .i64 fe]) (by simp [results, Tryz.results14, go_sem]) rfl ⟨_, rfl, O6', chain hA6 hb6⟩
    · have e0 : fe = inpE cols l := by rw [← HF.out]; unfold topE; rw [H1.out, if_neg (by simp), if_neg HRg.out, if_pos h2]
      have e1 : fz = [] := by rw [← HZ.out]; unfold topZ; rw [HF.out, e0, if_neg h2]
      have hne : (inpE cols l != 0) = true := by simpa using h2
      rw [← e0] at con hne
      have HV : Hid (fz = []) := e1
      clear e0 e1 h2
      dsimp only
      go_wp2_with fail
      refine con.mono ?_
      rintro e w2 ⟨rfl, hb2⟩
      clear con
      dsimp only
      go_wp2_with fail
      exact bodyPost_ret (v := .tuple #[.slice none 0 0, .int .i64 fe]) (by simp [results, Tryz.results14, go_sem]) rfl ⟨_, rfl, by rw [HV.out]; exact own_nil _ _, chain hb1 hb2⟩
  · have e0 : fe = listE cols xs := by rw [← HF.out]; unfold topE; rw [if_pos h1]
    have e1 : fz = [] := by rw [← HZ.out]; unfold topZ; rw [HF.out, e0, if_neg h1]
    have hne : (listE cols xs != 0) = true := by simpa using h1
    have HL : Hid (¬ listE cols xs = 0) := h1
    rw [← e0] at hne
    have HV : Hid (fz = []) := e1
    have HN : Hid (fe = listE cols xs) := e0
    clear e0 e1 h1
    go_enter Tryz.func14, Tryz.ntmps14
    go_wp2_with fail
    refine con.mono ?_
    rintro e w1 ⟨u, rfl, hL, hb1⟩
    obtain ⟨_, rfl⟩ : ¬ listE cols xs = 0 ∧ u = .nilFunc := by
      rcases hL with ⟨hL, _⟩ | hL
      · exact absurd hL HL.out
      · exact hL
    rw [← HN.out]
    clear con
    go_wp2_with fail
    exact bodyPost_ret (v := .tuple #[.slice none 0 0, .int .i64 fe]) (by simp [results, Tryz.results14, go_sem]) rfl ⟨_, rfl, by rw [HV.out]; exact own_nil _ _, hb1⟩
end Go.Proofs.YtfojonhblblbjaaGreat
/- The first rows come first: plain facts. -/
namespace Go.Proofs.YtfojonhblblbjaaGreat
open Go.RowKit

def sumK : List Kp → Int
  | [] => 0
  | x :: r => x.2.2 + sumK r
def oneW : List Vl → Int := fun _ => 1
theorem resp_one : Resp oneW := fun _ _ _ => rfl
theorem topL_zero : ∀ (l : List Kp), (∀ x ∈ l, 0 < x.2.2) → (∀ q, wt (topL 0 l) q = 0) ∧ tot oneW (topL 0 l) = 0
  | [], _ => ⟨fun _ => rfl, rfl⟩
  | x :: r, h => by
    have hx := h x (by simp)
    obtain ⟨h1, h2⟩ := topL_zero r fun y hy => h y (by simp [hy])
    have e : topL 0 (x :: r) = (x.2.1, 0) :: topL 0 r := by
      rw [topL, show min x.2.2 0 = 0 by omega]; rfl
    rw [e]
    refine ⟨fun q => ?_, ?_⟩
    · rw [wt, h1]; simp
    · rw [tot, h2]; simp
theorem wt_out {l : List Kp} {n : Int} {q : List Vl} (h : ∀ x ∈ l, cmpL x.2.1 q ≠ 0) : wt (topL n l) q = 0 := by
  induction l generalizing n with
  | nil => rfl
  | cons x r ih =>
    rw [topL, wt, ih fun y hy => h y (by simp [hy]), if_neg (h x (by simp))]
    rfl
theorem StK.irrefl (x : Kp) : ¬ StK x x := fun h => StK.not h h
theorem topL_spec : ∀ (l : List Kp) (n : Int), 0 ≤ n → (∀ x ∈ l, 0 < x.2.2) → l.Pairwise StK → l.Pairwise (fun x y => cmpL x.2.1 y.2.1 ≠ 0) →
    tot oneW (topL n l) = min n (sumK l) ∧ ∀ X ∈ l, 0 ≤ wt (topL n l) X.2.1 ∧ wt (topL n l) X.2.1 ≤ X.2.2 ∧ (wt (topL n l) X.2.1 < X.2.2 → tot oneW (topL n l) = n ∧ ∀ Y ∈ l, StK X Y → wt (topL n l) Y.2.1 = 0)
  | [], n, hn, _, _, _ => ⟨by simp [topL, tot, sumK]; omega, fun X hX => by simp at hX⟩
  | H :: R, n, hn, hp, hs, hd => by
    have h0 := hp H (by simp)
    obtain ⟨s1, s2⟩ := List.pairwise_cons.1 hs
    obtain ⟨d1, d2⟩ := List.pairwise_cons.1 hd
    have hpR : ∀ x ∈ R, 0 < x.2.2 := fun x hx => hp x (by simp [hx])
    obtain ⟨i1, i2⟩ := topL_spec R (n - min H.2.2 n) (by omega) hpR s2 d2
    have hsum : 0 ≤ sumK R := by
      have aux : ∀ l : List Kp, (∀ x ∈ l, 0 < x.2.2) → 0 ≤ sumK l := by
        intro l
        induction l with
        | nil => intro _; exact Int.le_refl _
        | cons x r ih => intro h; have := h x (by simp); have := ih fun y hy => h y (by simp [hy]); rw [sumK]; omega
      exact aux R hpR
    have hT : tot oneW (topL n (H :: R)) = min H.2.2 n + tot oneW (topL (n - min H.2.2 n) R) := by
      rw [topL, tot]; simp [oneW]
    have hH : wt (topL n (H :: R)) H.2.1 = min H.2.2 n := by
      rw [topL, wt, wt_out fun x hx h => d1 x hx (by have := cmpL_neg H.2.1 x.2.1; omega), if_pos (cmpL_refl _)]
      simp
    have hX : ∀ X ∈ R, wt (topL n (H :: R)) X.2.1 = wt (topL (n - min H.2.2 n) R) X.2.1 := fun X hX => by
      rw [topL, wt, if_neg (d1 X hX)]; simp
    refine ⟨by rw [hT, i1, sumK]; omega, fun X hXm => ?_⟩
    rcases List.mem_cons.1 hXm with rfl | hXm'
    · rw [hH]
      refine ⟨by omega, by omega, fun hlt => ?_⟩
      have e : n - min X.2.2 n = 0 := by omega
      obtain ⟨z1, z2⟩ := topL_zero R hpR
      refine ⟨by rw [hT, e, z2]; omega, fun Y hY hst => ?_⟩
      rcases List.mem_cons.1 hY with rfl | hY
      · exact absurd hst (StK.irrefl _)
      · rw [hX Y hY, e, z1]
    · rw [hX X hXm']
      obtain ⟨j1, j2, j3⟩ := i2 X hXm'
      refine ⟨j1, j2, fun hlt => ?_⟩
      obtain ⟨k1, k2⟩ := j3 hlt
      refine ⟨by rw [hT, k1]; omega, fun Y hY hst => ?_⟩
      rcases List.mem_cons.1 hY with rfl | hY
      · exact absurd hst (fun h => StK.not h (s1 X hXm'))
      · rw [hX Y hY]; exact k2 Y hY hst

/-- How many rows there are that are there. -/
def posW : List Zp → Int
  | [] => 0
  | x :: r => (if 0 < x.2 then x.2 else 0) + posW r
theorem sumK_perm {a b : List Kp} (h : a.Perm b) : sumK a = sumK b := by
  induction h with
  | nil => rfl
  | cons x _ ih => rw [sumK, sumK, ih]
  | swap x y l => simp only [sumK]; omega
  | trans _ _ h1 h2 => rw [h1, h2]
theorem sumK_with (xs : List Ex) : ∀ z : List Zp, sumK (withK xs z) = posW z
  | [] => rfl
  | x :: r => by
    have ih := sumK_with xs r
    unfold withK at ih ⊢
    rw [List.filter_cons, posW, ← ih]
    by_cases h : 0 < x.2
    · rw [if_pos (by simpa using h), if_pos h, List.map_cons, sumK]
    · rw [if_neg (by simpa using h), if_neg h]; omega
theorem inOrd_apart {xs : List Ex} {z : List Zp} (h : Rise z) : (inOrd xs z).Pairwise fun x y => cmpL x.2.1 y.2.1 ≠ 0 := by
  refine List.Perm.pairwise ((inOrd_perm xs z).symm) ?_ ?_
  · exact (withK_rise h).imp fun hr => by omega
  · intro x y hxy hyx
    have := cmpL_neg x.2.1 y.2.1
    omega

def colE (key : Int) : Ex := .mk 2 vl0 key []
theorem cmpP_negK (x y : Vl) : cmpP x y = - cmpP y x := by
  have h := cmpL_neg [x] [y]
  unfold cmpL at h
  simp only [cmpL] at h
  split at h <;> split at h <;> omega
theorem cmpP_bareR (x y : Vl) : cmpP x (bareP y) = cmpP x y := by rw [cmpP_negK, cmpP_bare, ← cmpP_negK]
theorem cmpL_getD {a b : List Vl} (h : cmpL a b = 0) (i : Nat) (x : Vl) : cmpP x (a.getD i vl0) = cmpP x (b.getD i vl0) := by
  rw [← cmpP_bareR x (a.getD i vl0), ← cmpP_bareR x (b.getD i vl0), getD_bare, getD_bare, bareL_of h]

theorem topE_ok {cols : List Int} {xs : List Ex} {n : Int} {z : List Zp} (h : topE cols xs n z = 0) : listE cols xs = 0 ∧ (0 ≤ n ∧ n ≤ 50) ∧ InpOk cols z ∧ gatherE (topL n (inOrd xs z)) = 0 := by
  unfold topE at h
  by_cases h1 : listE cols xs = 0
  · rw [if_neg (by simpa using h1)] at h
    by_cases h2 : n < 0 ∨ 50 < n
    · rw [if_pos h2] at h; omega
    · rw [if_neg h2] at h
      by_cases h3 : inpE cols z = 0
      · rw [if_neg (by simpa using h3)] at h
        exact ⟨h1, by omega, (inpE_ok _ _).1 h3, h⟩
      · rw [if_pos h3] at h; exact absurd h h3
  · rw [if_pos h1] at h; exact absurd h h1
structure FirstOk (cols : List Int) (key : Int) (n : Int) (z t : List Zp) : Prop where
  k0 : 0 ≤ key
  k1 : key < cols.length
  n0 : 0 ≤ n ∧ n ≤ 50
  inp : InpOk cols z
  set : IsSet t
  len : t.length ≤ 400
  row : ∀ y ∈ t, 1 ≤ y.2 ∧ y.2 ≤ wt z y.1 ∧ y.1.length = cols.length
  w6 : ∀ y ∈ t, y.2 ≤ 1000000
  kind : ∀ y ∈ t, 1 ≤ (y.1.getD key.toNat vl0).1 ∧ (y.1.getD key.toNat vl0).1 ≤ 4
  kindz : ∀ y ∈ z, 1 ≤ (y.1.getD key.toNat vl0).1 ∧ (y.1.getD key.toNat vl0).1 ≤ 4
  sum : tot oneW t = min n (posW z)
  rest : ∀ r ∈ z, 0 < r.2 → wt t r.1 < r.2 → tot oneW t = n ∧ ∀ y ∈ t, 0 ≤ cmpP (r.1.getD key.toNat vl0) (y.1.getD key.toNat vl0)
theorem wt_some {l : List Zp} {q : List Vl} (h : wt l q ≠ 0) : ∃ x ∈ l, cmpL x.1 q = 0 := by
  induction l with
  | nil => exact absurd rfl h
  | cons x r ih =>
    by_cases c : cmpL x.1 q = 0
    · exact ⟨x, by simp, c⟩
    · rw [wt, if_neg c] at h
      obtain ⟨y, hy, e⟩ := ih (by simpa using h)
      exact ⟨y, by simp [hy], e⟩
theorem cmpL_len : ∀ {a b : List Vl}, cmpL a b = 0 → a.length = b.length
  | [], [], _ => rfl
  | [], _ :: _, h => by simp [cmpL] at h
  | _ :: _, [], h => by simp [cmpL] at h
  | x :: r, y :: t, h => by
    rw [cmpL] at h
    split at h
    · rw [List.length_cons, List.length_cons, cmpL_len h]
    · rename_i c; exact absurd h c
theorem col_ok {cols : List Int} {key : Int} (h : (typeTop cols (colE key)).2 = 0) : 0 ≤ key ∧ key < cols.length := by
  have h2 := typ_of h
  obtain ⟨_, _, _, ts, _, hn⟩ := typP_node h2
  unfold nodeT colT at hn
  rw [if_neg (by decide), if_pos rfl] at hn
  split at hn
  · have := congrArg Prod.snd hn; simp at this
  · omega
theorem kind_ok {v : Vl} (h : wrongP v = 0) : 1 ≤ v.1 ∧ v.1 ≤ 4 := by
  unfold wrongP wrongF at h
  split at h
  · omega
  · omega
theorem fit_kind {cols : List Int} {row : List Vl} {key : Int} (h : FitP cols row) (h0 : 0 ≤ key) (h1 : key < cols.length) : 1 ≤ (row.getD key.toNat vl0).1 ∧ (row.getD key.toNat vl0).1 ≤ 4 := by
  have hl := h.len
  have hk : key.toNat < row.length := by omega
  have e : row.getD key.toNat vl0 = row[key.toNat] := by simp [List.getD, hk]
  rw [e]
  exact kind_ok (by simpa [wrongP] using (h.one key.toNat hk).1)
theorem first_ok {cols : List Int} {key n : Int} {z : List Zp} (h : topE cols [colE key] n z = 0) : FirstOk cols key n z (topZ cols [colE key] n z) := by
  obtain ⟨h1, h2, h3, h4⟩ := topE_ok h
  have hr : Rise z := ((wrongZ_iff z).1 h3.set).2.2
  have hk := col_ok ((listE_ok h1).2 (colE key) (by simp))
  have hpos : ∀ x ∈ inOrd [colE key] z, 0 < x.2.2 := fun x hx => (inOrd_mem.1 hx).1.2
  obtain ⟨t1, t2⟩ := topL_spec (inOrd [colE key] z) n h2.1 hpos (inOrd_sorted hr) (inOrd_apart hr)
  have hmem := topL_mem n (inOrd [colE key] z) h2.1 hpos
  have eT : topZ cols [colE key] n z = canon (topL n (inOrd [colE key] z)) := by unfold topZ; rw [if_pos h]
  have hset : IsSet (topZ cols [colE key] n z) := by rw [eT]; exact canon_set _
  have hwt : ∀ q, wt (topZ cols [colE key] n z) q = wt (topL n (inOrd [colE key] z)) q := fun q => by rw [eT, canon_wt]
  have hsum : tot oneW (topZ cols [colE key] n z) = tot oneW (topL n (inOrd [colE key] z)) := by rw [eT, tot_canon resp_one]
  have hsk : sumK (inOrd [colE key] z) = posW z := by rw [sumK_perm (inOrd_perm _ z), sumK_with]
  -- each row of the answer is one of the set
  have hrow : ∀ y ∈ topZ cols [colE key] n z, ∃ X ∈ inOrd [colE key] z, cmpL X.2.1 y.1 = 0 ∧ y.2 = wt (topL n (inOrd [colE key] z)) X.2.1 := fun y hy => by
    have e1 := wt_mem hset.rise y hy
    rw [hwt] at e1
    obtain ⟨x, hx, e2⟩ := wt_some (l := topL n (inOrd [colE key] z)) (q := y.1) (by rw [e1]; exact hset.ne y hy)
    obtain ⟨⟨X, hX, e3⟩, _⟩ := hmem x hx
    exact ⟨X, hX, by rw [← e3]; exact e2, by rw [← e1, ← e3]; exact (wt_congr e2 _).symm⟩
  refine ⟨hk.1, hk.2, h2, h3, hset, ?_, ?_, ?_, ?_, fun y hy => fit_kind (h3.fit y hy) hk.1 hk.2, by rw [hsum, t1, hsk], ?_⟩
  · rw [eT]; exact (gather_ok h4).2
  · intro y hy
    obtain ⟨X, hX, e1, e2⟩ := hrow y hy
    obtain ⟨j1, j2, _⟩ := t2 X hX
    have hne := hset.ne y hy
    obtain ⟨⟨m1, _⟩, _⟩ := inOrd_mem.1 hX
    have e3 := wt_mem hr X.2 m1
    refine ⟨by omega, by rw [← wt_congr e1 z, e3]; omega, ?_⟩
    rw [← (h3.fit X.2 m1).len]
    exact (cmpL_len e1).symm
  · intro y hy
    obtain ⟨X, hX, e1, e2⟩ := hrow y hy
    obtain ⟨_, j2, _⟩ := t2 X hX
    have := set_in h3 X.2 (inOrd_mem.1 hX).1.1
    rw [inW_iff] at this
    omega
  · intro y hy
    obtain ⟨X, hX, e1, _⟩ := hrow y hy
    have e3 : y.1.getD key.toNat vl0 = bareP (X.2.1.getD key.toNat vl0) := by rw [getD_bare, bareL_of e1, hset.bare y hy]
    rw [e3]
    exact fit_kind (h3.fit X.2 (inOrd_mem.1 hX).1.1) hk.1 hk.2
  · intro r hr1 hr2 hlt
    have hX : ((rowX [colE key] r.1, r) : Kp) ∈ inOrd [colE key] z := inOrd_mem.2 ⟨⟨hr1, hr2⟩, rfl⟩
    obtain ⟨_, _, j3⟩ := t2 _ hX
    rw [hwt] at hlt
    obtain ⟨k1, k2⟩ := j3 hlt
    refine ⟨by rw [hsum, k1], fun y hy => ?_⟩
    obtain ⟨Y, hY, e1, e2⟩ := hrow y hy
    have hne := hset.ne y hy
    have hst : ¬ StK (rowX [colE key] r.1, r) Y := fun h => hne (by rw [e2, k2 Y hY h])
    have hky := (inOrd_mem.1 hY).2
    have e3 : rowX [colE key] r.1 = [bareP (r.1.getD key.toNat vl0)] := by simp [rowX, colE, valX, nodeV]
    have e4 : Y.1 = [bareP (Y.2.1.getD key.toNat vl0)] := by rw [hky]; simp [rowX, colE, valX, nodeV]
    have hc : ¬ cmpL (rowX [colE key] r.1) Y.1 < 0 := fun h => hst (.inl h)
    rw [e3, e4] at hc
    simp only [cmpL] at hc
    rw [cmpP_bare, cmpP_bareR] at hc
    rw [← cmpL_getD e1]
    split at hc <;> omega
end Go.Proofs.YtfojonhblblbjaaGreat
/- The least one again and again: plain facts. -/
namespace Go.Proofs.YtfojonhblblbjaaGreat
open Go.RowKit

/-- The least row so far: of the first i rows of R that are there. -/
def Scan (xs : List Ex) (R : List Zp) (i : Nat) : Option Nat → Prop
  | none => ∀ j (_ : j < R.length), j < i → R[j].2 ≤ 0
  | some b => ∃ hb : b < R.length, b < i ∧ 0 < R[b].2 ∧ ∀ j (_ : j < R.length), j < i → j ≠ b → 0 < R[j].2 → cmpL (rowX xs R[b].1) (rowX xs R[j].1) < 0 ∨ (cmpL (rowX xs R[b].1) (rowX xs R[j].1) = 0 ∧ b < j)
theorem Scan.nil (xs : List Ex) (R : List Zp) : Scan xs R 0 none := fun _ _ h => absurd h (Nat.not_lt_zero _)
theorem Scan.skip {xs : List Ex} {R : List Zp} {i : Nat} {b : Option Nat} (h : Scan xs R i b) (hi : i < R.length) (h0 : R[i].2 ≤ 0) : Scan xs R (i + 1) b := by
  cases b with
  | none =>
    intro j hj hlt
    by_cases e : j = i
    · subst e; exact h0
    · exact h j hj (by omega)
  | some b =>
    obtain ⟨hb, h1, h2, h3⟩ := h
    refine ⟨hb, by omega, h2, fun j hj hlt hne hp => ?_⟩
    by_cases e : j = i
    · subst e; omega
    · exact h3 j hj (by omega) hne hp
theorem Scan.first {xs : List Ex} {R : List Zp} {i : Nat} (h : Scan xs R i none) (hi : i < R.length) (h0 : 0 < R[i].2) : Scan xs R (i + 1) (some i) :=
  ⟨hi, by omega, h0, fun j hj hlt hne hp => by have := h j hj (by omega); omega⟩
theorem Scan.less {xs : List Ex} {R : List Zp} {i b : Nat} (h : Scan xs R i (some b)) (hi : i < R.length) (hb : b < R.length) (h0 : 0 < R[i].2) (hc : cmpL (rowX xs R[i].1) (rowX xs R[b].1) < 0) : Scan xs R (i + 1) (some i) := by
  obtain ⟨_, h1, h2, h3⟩ := h
  refine ⟨hi, by omega, h0, fun j hj hlt hne hp => .inl ?_⟩
  by_cases e : j = b
  · subst e; exact hc
  · exact cmpL_lt_le hc (by rcases h3 j hj (by omega) e hp with h | ⟨h, _⟩ <;> omega)
theorem Scan.keep {xs : List Ex} {R : List Zp} {i b : Nat} (h : Scan xs R i (some b)) (hi : i < R.length) (hb : b < R.length) (hc : ¬ cmpL (rowX xs R[i].1) (rowX xs R[b].1) < 0) : Scan xs R (i + 1) (some b) := by
  obtain ⟨_, h1, h2, h3⟩ := h
  refine ⟨hb, by omega, h2, fun j hj hlt hne hp => ?_⟩
  by_cases e : j = i
  · subst e
    have := cmpL_neg (rowX xs R[j].1) (rowX xs R[b].1)
    by_cases c : cmpL (rowX xs R[b].1) (rowX xs R[j].1) = 0
    · exact .inr ⟨c, h1⟩
    · exact .inl (by omega)
  · exact h3 j hj (by omega) hne hp

theorem withK_append (xs : List Ex) (a b : List Zp) : withK xs (a ++ b) = withK xs a ++ withK xs b := by
  unfold withK
  rw [List.filter_append, List.map_append]
theorem withK_one (xs : List Ex) (p : Zp) : withK xs [p] = if 0 < p.2 then [(rowX xs p.1, p)] else [] := by
  unfold withK
  by_cases h : 0 < p.2
  · rw [if_pos h]; simp [h]
  · rw [if_neg h]; simp [h]
theorem split_at {α : Type} (l : List α) (b : Nat) (h : b < l.length) : l = l.take b ++ ([l[b]] ++ l.drop (b + 1)) := by
  rw [List.singleton_append, ← List.drop_eq_getElem_cons h, List.take_append_drop]
theorem set_split {α : Type} (l : List α) (b : Nat) (h : b < l.length) (x : α) : l.set b x = l.take b ++ ([x] ++ l.drop (b + 1)) := by
  rw [List.set_eq_take_append_cons_drop, if_pos h]; rfl
/-- What is left behind picks. -/
structure Pick (cols : List Int) (xs : List Ex) (z : List Zp) (n c : Int) (R pre : List Zp) (L : List Kp) : Prop where
  perm : (withK xs R).Perm L
  sorted : L.Pairwise StK
  pos : ∀ x ∈ L, 0 < x.2.2
  rise : Rise R
  fit : ∀ y ∈ R, FitP cols y.1
  small : ∀ y ∈ R, -1000000 ≤ y.2 ∧ y.2 ≤ 1000000
  c0 : 0 ≤ c
  len : (pre.length : Int) + c = n
  right : ∀ y ∈ pre, y.2 = 1 ∧ FitP cols y.1
  tel : ∀ q, wt (topL n (inOrd xs z)) q = wt pre q + wt (topL c L) q
theorem Pick.start {cols : List Int} {xs : List Ex} {z : List Zp} {n : Int} (h : InpOk cols z) (h0 : 0 ≤ n) : Pick cols xs z n n z [] (inOrd xs z) := by
  have hr : Rise z := ((wrongZ_iff z).1 h.set).2.2
  exact ⟨(inOrd_perm xs z).symm, inOrd_sorted hr, fun x hx => (inOrd_mem.1 hx).1.2, hr, h.fit, fun y hy => by have := set_in h y hy; rwa [inW_iff] at this, h0, by simp, fun y hy => by simp at hy, fun q => by simp [wt]⟩
theorem Pick.head {cols : List Int} {xs : List Ex} {z : List Zp} {n c : Int} {R pre : List Zp} {L : List Kp} (h : Pick cols xs z n c R pre L) {b : Nat} (hb : b < R.length) (hs : Scan xs R R.length (some b)) : ∃ T, L = (rowX xs R[b].1, R[b]) :: T := by
  obtain ⟨_, _, h2, h3⟩ := hs
  have hm : ((rowX xs R[b].1, R[b]) : Kp) ∈ L := (h.perm.mem_iff).1 (by
    unfold withK
    exact List.mem_map.2 ⟨R[b], List.mem_filter.2 ⟨List.getElem_mem hb, by simpa using h2⟩, rfl⟩)
  cases hL : L with
  | nil => rw [hL] at hm; simp at hm
  | cons X T =>
    refine ⟨T, ?_⟩
    rw [hL] at hm
    rcases List.mem_cons.1 hm with e | hT
    · rw [e]
    · exfalso
      have hs := h.sorted
      rw [hL] at hs
      have hst := (List.pairwise_cons.1 hs).1 _ hT
      have hX : X ∈ withK xs R := (h.perm.mem_iff).2 (by rw [hL]; simp)
      unfold withK at hX
      obtain ⟨p, hp, rfl⟩ := List.mem_map.1 hX
      obtain ⟨hp1, hp2⟩ := List.mem_filter.1 hp
      obtain ⟨j, hj, rfl⟩ := List.getElem_of_mem hp1
      by_cases e : j = b
      · subst e; exact StK.irrefl _ hst
      · refine StK.not hst ?_
        rcases h3 j hj hj e (by simpa using hp2) with hc | ⟨hc, hlt⟩
        · exact .inl hc
        · exact .inr ⟨hc, List.pairwise_iff_getElem.1 h.rise b j hb hj hlt⟩
theorem wt_topL_cons (c : Int) (X : Kp) (T : List Kp) (q : List Vl) : wt (topL c (X :: T)) q = (if cmpL X.2.1 q = 0 then min X.2.2 c else 0) + wt (topL (c - min X.2.2 c) T) q := by
  rw [topL, wt]
theorem Pick.step {cols : List Int} {xs : List Ex} {z : List Zp} {n c : Int} {R pre : List Zp} {L : List Kp} (h : Pick cols xs z n c R pre L) {b : Nat} (hb : b < R.length) (hs : Scan xs R R.length (some b)) (hc : 0 < c) : ∃ L', Pick cols xs z n (c - 1) (R.set b (R[b].1, R[b].2 - 1)) (pre ++ [(R[b].1, 1)]) L' := by
  obtain ⟨T, rfl⟩ := h.head hb hs
  have hp : 0 < R[b].2 := by obtain ⟨_, _, h2, _⟩ := hs; exact h2
  have hwb := h.small _ (List.getElem_mem hb)
  have hfb := h.fit _ (List.getElem_mem hb)
  have hw : withK xs R = withK xs (R.take b) ++ ([((rowX xs R[b].1, R[b]) : Kp)] ++ withK xs (R.drop (b + 1))) := by
    have e := congrArg (withK xs) (split_at R b hb)
    rw [withK_append, withK_append, withK_one, if_pos hp] at e
    exact e
  have e0 := h.perm
  rw [hw] at e0
  have e1 : (withK xs (R.take b) ++ withK xs (R.drop (b + 1))).Perm T := by
    have e2 : (withK xs (R.take b) ++ ([((rowX xs R[b].1, R[b]) : Kp)] ++ withK xs (R.drop (b + 1)))).Perm ((rowX xs R[b].1, R[b]) :: (withK xs (R.take b) ++ withK xs (R.drop (b + 1)))) := List.perm_middle
    exact (List.perm_cons _).1 (e2.symm.trans e0)
  have hsT := (List.pairwise_cons.1 h.sorted)
  have hmem : ∀ y ∈ R.set b (R[b].1, R[b].2 - 1), y ∈ R ∨ y = (R[b].1, R[b].2 - 1) := fun y hy => List.mem_or_eq_of_mem_set hy
  have hrise : Rise (R.set b (R[b].1, R[b].2 - 1)) := by
    refine List.pairwise_iff_getElem.2 fun i j hi hj hij => ?_
    have hi' : i < R.length := by simpa using hi
    have hj' : j < R.length := by simpa using hj
    have e : ∀ k (hk : k < R.length), ((R.set b (R[b].1, R[b].2 - 1))[k]'(by simpa using hk)).1 = R[k].1 := fun k hk => by
      rw [List.getElem_set]
      split
      · rename_i e; subst e; rfl
      · rfl
    rw [e i hi', e j hj']
    exact List.pairwise_iff_getElem.1 h.rise i j hi' hj' hij
  have base : ∀ L' : List Kp, (withK xs (R.set b (R[b].1, R[b].2 - 1))).Perm L' → L'.Pairwise StK → (∀ x ∈ L', 0 < x.2.2) → (∀ q, wt (topL c ((rowX xs R[b].1, R[b]) :: T)) q = (if cmpL R[b].1 q = 0 then 1 else 0) + wt (topL (c - 1) L') q) → Pick cols xs z n (c - 1) (R.set b (R[b].1, R[b].2 - 1)) (pre ++ [(R[b].1, 1)]) L' := fun L' h1 h2 h3 h4 => by
    refine ⟨h1, h2, h3, hrise, fun y hy => ?_, fun y hy => ?_, by omega, ?_, fun y hy => ?_, fun q => ?_⟩
    · rcases hmem y hy with hy | rfl
      · exact h.fit y hy
      · exact hfb
    · rcases hmem y hy with hy | rfl
      · exact h.small y hy
      · exact ⟨by show -1000000 ≤ R[b].2 - 1; omega, by show R[b].2 - 1 ≤ 1000000; omega⟩
    · have := h.len; simp; omega
    · rcases List.mem_append.1 hy with hy | hy
      · exact h.right y hy
      · rw [List.mem_singleton.1 hy]; exact ⟨rfl, hfb⟩
    · rw [h.tel q, h4 q, wt_append]
      have : wt [((R[b].1, 1) : Zp)] q = if cmpL R[b].1 q = 0 then 1 else 0 := by simp [wt]
      rw [this]; omega
  have hper : (withK xs (R.set b (R[b].1, R[b].2 - 1))).Perm ((if 0 < R[b].2 - 1 then [((rowX xs R[b].1, (R[b].1, R[b].2 - 1)) : Kp)] else []) ++ T) := by
    rw [set_split R b hb, withK_append, withK_append, withK_one]
    refine (List.Perm.trans ?_ (e1.append_left _))
    rw [← List.append_assoc, ← List.append_assoc]
    exact List.perm_append_comm.append_right _
  by_cases h1 : 0 < R[b].2 - 1
  · rw [if_pos h1] at hper
    refine ⟨_, base _ hper (List.pairwise_cons.2 ⟨fun y hy => hsT.1 y hy, hsT.2⟩) (fun x hx => ?_) fun q => ?_⟩
    · rcases List.mem_append.1 hx with hx | hx
      · rw [List.mem_singleton.1 hx]; exact h1
      · exact h.pos x (List.mem_cons_of_mem _ hx)
    · rw [wt_topL_cons, List.singleton_append, wt_topL_cons]
      simp only
      have e : c - min R[b].2 c = c - 1 - min (R[b].2 - 1) (c - 1) := by omega
      rw [e]
      split <;> omega
  · rw [if_neg h1] at hper
    refine ⟨_, base _ hper (by simpa using hsT.2) (fun x hx => h.pos x (List.mem_cons_of_mem _ (by simpa using hx))) fun q => ?_⟩
    rw [wt_topL_cons, List.nil_append]
    simp only
    have e : min R[b].2 c = 1 := by omega
    rw [e]
theorem Pick.none {cols : List Int} {xs : List Ex} {z : List Zp} {n c : Int} {R pre : List Zp} {L : List Kp} (h : Pick cols xs z n c R pre L) (hs : Scan xs R R.length none) : canon pre = canon (topL n (inOrd xs z)) := by
  have e : withK xs R = [] := by
    unfold withK
    rw [List.map_eq_nil_iff, List.filter_eq_nil_iff]
    intro y hy
    obtain ⟨j, hj, rfl⟩ := List.getElem_of_mem hy
    have := hs j hj hj
    simp; omega
  have hL : L = [] := by have := h.perm; rw [e] at this; exact this.symm.eq_nil
  refine canon_congr fun q => ?_
  rw [h.tel q, hL]
  simp [topL, wt]
theorem Pick.all {cols : List Int} {xs : List Ex} {z : List Zp} {n : Int} {R pre : List Zp} {L : List Kp} (h : Pick cols xs z n 0 R pre L) : canon pre = canon (topL n (inOrd xs z)) := by
  refine canon_congr fun q => ?_
  rw [h.tel q, (topL_zero L h.pos).1 q]
  omega
theorem top_gather {cols : List Int} {xs : List Ex} {z : List Zp} {n : Int} (h : InpOk cols z) (h0 : 0 ≤ n) : gatherE (topL n (inOrd xs z)) = 0 := by
  have hr : Rise z := ((wrongZ_iff z).1 h.set).2.2
  have hpos : ∀ x ∈ inOrd xs z, 0 < x.2.2 := fun x hx => (inOrd_mem.1 hx).1.2
  obtain ⟨_, t2⟩ := topL_spec (inOrd xs z) n h0 hpos (inOrd_sorted hr) (inOrd_apart hr)
  have hmem := topL_mem n (inOrd xs z) h0 hpos
  have hset : IsSet (canon (topL n (inOrd xs z))) := canon_set _
  unfold gatherE
  rw [if_neg, if_neg]
  · have h1 : (canon (topL n (inOrd xs z))).length ≤ (topL n (inOrd xs z)).length := canon_lenV _
    rw [topL_len] at h1
    have := inOrd_len xs z
    have := set_len h
    omega
  · intro ho
    have : ∃ y ∈ canon (topL n (inOrd xs z)), inW y.2 = false := by
      unfold outW at ho
      simpa using ho
    obtain ⟨y, hy, hw⟩ := this
    have e1 := wt_mem hset.rise y hy
    rw [canon_wt] at e1
    obtain ⟨x, hx, e2⟩ := wt_some (l := topL n (inOrd xs z)) (q := y.1) (by rw [e1]; exact hset.ne y hy)
    obtain ⟨⟨X, hX, e3⟩, _⟩ := hmem x hx
    obtain ⟨j1, j2, _⟩ := t2 X hX
    have e4 : wt (topL n (inOrd xs z)) X.2.1 = y.2 := by rw [← e1, ← e3]; exact wt_congr e2 _
    have := set_in h X.2 (inOrd_mem.1 hX).1.1
    rw [inW_iff] at this
    have hin : inW y.2 = true := by rw [inW_iff]; omega
    rw [hin] at hw
    cases hw
end Go.Proofs.YtfojonhblblbjaaGreat
/- The document's answer, chapter 4: the first rows. -/
namespace Go.Proofs.YtfojonhblblbjaaGreat
open Go.RowKit Go.Lib Go.Shelf

def bestI : Option Nat → Int
  | none => -1
  | some b => b
theorem Pick.pok {cols : List Int} {xs : List Ex} {z : List Zp} {n c : Int} {R pre : List Zp} {L : List Kp} (h : Pick cols xs z n c R pre L) (hn : n ≤ 50) : POk 50 pre :=
  ⟨by have := h.len; have := h.c0; omega, fun y hy => by obtain ⟨e, f⟩ := h.right y hy; rw [e]; exact ⟨fit_right f, by decide, by decide⟩⟩
theorem rowF_right {cols : List Int} {xs : List Ex} {row : List Vl} (hl : listE cols xs = 0) (hf : FitP cols row) : rightB (rowX xs row) = true := by
  obtain ⟨_, lt⟩ := listE_ok hl
  unfold rightB rowX
  rw [List.all_map, List.all_eq_true]
  intro e he
  have := (valX_of hf e _ (typ_of (lt e he))).1
  simpa [wrongP] using this
theorem fit_len8 {cols : List Int} {row : List Vl} (h : FitP cols row) (hc : cols.length ≤ 8) : row.length ≤ 8 := by rw [h.len]; exact hc

set_option maxRecDepth 100000 in
set_option maxHeartbeats 4000000 in
theorem refTop_at (cols : List Int) (xs : List Ex) (n : Int) (hn64 : -9223372036854775808 ≤ n ∧ n ≤ 9223372036854775807) (ca : Option Addr) (ccap : Nat) (xa : Option Addr) (xcap : Nat) (a : Option Addr) (cap : Nat) (l : List Zp) (w : World) (hc : IsAt w.heap.size w ca cols) (hx : KsAt w.heap.size w xa xs) (h : ZsAt w a l) :
    Calls Tryz.prog 15 #[.slice ca cols.length ccap, .slice xa xs.length xcap, .int .i64 n, .slice a l.length cap] w fun e w' => ∃ v, e = .returned (.tuple #[v, .int .i64 (topE cols xs n l)]) ∧ (∃ ua uc, v = .slice ua (topZ cols xs n l).length uc ∧ ZsAt w' ua (topZ cols xs n l)) ∧ Below w.heap.size w w' := by
  obtain ⟨i0, hi, hj0, hj1, hj2⟩ := info_parts Tryz.info42
  have con := refTypes_at cols xs ca ccap xa xcap w hx hc
  generalize hfz : topZ cols xs n l = fz
  generalize hfe : topE cols xs n l = fe
  have HZ : Hid (topZ cols xs n l = fz) := hfz
  have HE : Hid (topE cols xs n l = fe) := hfe
  clear hfz hfe
  generalize hte : listE cols xs = te at con
  have HTe : Hid (listE cols xs = te) := hte
  clear hte
  go_enter Tryz.func15, Tryz.ntmps15
  go_wp2_with fail
  refine con.mono ?_
  rintro e w2 ⟨u, rfl, hA2⟩
  clear con
  dsimp only
  by_cases ht : te = 0
  · subst ht
    by_cases hr : n < 0 ∨ 50 < n
    · have e0 : fe = 3 := by rw [← HE.out]; unfold topE; rw [HTe.out, if_neg (by simp), if_pos hr]
      have e1 : fz = [] := by rw [← HZ.out]; unfold topZ; rw [HE.out, e0, if_neg (by decide)]
      subst e0 e1
      by_cases hr1 : n < 0
      · go_wp2_with fail
        first
          | exact bodyPost_ret (v := .tuple #[.slice none 0 0, .int .i64 3]) (by simp [results, Tryz.results15, go_sem]) rfl ⟨_, rfl, ⟨_, _, rfl, ⟨by simp, .inl rfl⟩⟩, hA2⟩
          | exact bodyPost_ret (v := .tuple #[.slice none 0 0, .int .i64 3]) (by simp [results, Tryz.results15, go_sem]) rfl ⟨_, rfl, ⟨_, ⟨_, rfl⟩, ⟨by simp, .inl rfl⟩⟩, hA2⟩
      · have hr2 : 50 < n := by omega
        go_wp2_with fail
        first
          | exact bodyPost_ret (v := .tuple #[.slice none 0 0, .int .i64 3]) (by simp [results, Tryz.results15, go_sem]) rfl ⟨_, rfl, ⟨_, _, rfl, ⟨by simp, .inl rfl⟩⟩, hA2⟩
          | exact bodyPost_ret (v := .tuple #[.slice none 0 0, .int .i64 3]) (by simp [results, Tryz.results15, go_sem]) rfl ⟨_, rfl, ⟨_, ⟨_, rfl⟩, ⟨by simp, .inl rfl⟩⟩, hA2⟩
    have hr1 : ¬ n < 0 := fun h => hr (.inl h)
    have hr2 : ¬ 50 < n := fun h => hr (.inr h)
    have HRg : Hid (¬ (n < 0 ∨ 50 < n)) := hr
    clear hr
    have con := refInput_at cols ca ccap a cap l w2 ((hc.next hA2 (Nat.le_refl _)).up hA2.size) (h.next hA2)
    generalize hie : inpE cols l = ie at con
    have HIe : Hid (inpE cols l = ie) := hie
    clear hie
    go_wp2_with fail
    refine con.mono ?_
    rintro e w3 ⟨rfl, hb3⟩
    clear con
    have hA3 := chain hA2 hb3
    dsimp only
    by_cases hii : ie = 0
    · subst hii
      have HO : Hid (InpOk cols l) := (inpE_ok cols l).1 HIe.out
      have hl4 := set_len HO.out
      have e0 : fe = 0 := by rw [← HE.out]; unfold topE; rw [HTe.out, HIe.out, if_neg (by simp), if_neg HRg.out, if_neg (by simp)]; exact top_gather HO.out (by omega)
      have e1 : fz = canon (topL n (inOrd xs l)) := by rw [← HZ.out]; unfold topZ; rw [HE.out, e0, if_pos rfl]
      subst e0
      have HZe : Hid (fz = canon (topL n (inOrd xs l))) := e1
      clear HE HZ e1
      have H8 : Hid (cols.length ≤ 8) := by
        have := HIe.out
        unfold inpE at this
        show _ ≤ _
        by_cases h8 : 8 < cols.length
        · rw [if_pos h8] at this; cases this
        · omega
      obtain ⟨news, EN, one1', nil', at'⟩ := src_of (h.next hA3)
      have hbA : Below w3.heap.size w3 (w3.alloc (.cells #[] 53)) := (Below.refl _ _).alloc (Nat.le_refl _) _
      have O0 : (w3.alloc (.cells #[] 53)).ownsRow w3.heap.size 53 2 (.slice (some ⟨w3.heap.size, 0, none⟩) 0 0) 0 [] := World.ownsRow_made (e := 53) (size := 2) w3 #[] 0 (Nat.le_refl _) (Nat.zero_le _) (by simp)
      have RW : Raw w3 a l.length 2 news := ⟨EN.1, one1', fun e => by rw [nil' e]; rfl, at'⟩
      have hev : ∀ j u, news[j * 2]? = some u → ∃ a n c, u = .slice a n c := fun j u hu => by
        have hjl : j < l.length := by
          have := (List.getElem?_eq_some_iff.1 hu).1
          have := EN.1
          omega
        obtain ⟨a', c', e0, _⟩ := EN.2 j hjl
        rw [e0] at hu
        exact ⟨_, _, _, (Option.some.inj hu).symm⟩
      have HEv : Hid (∀ j u, news[j * 2]? = some u → ∃ a n c, u = .slice a n c) := hev
      have HEN : Hid (EncB w3 news l) := EN
      clear one1' nil' at' hev EN
      go_wp2_with (first | (at_builtin; refine wpList_append_even rfl (.tmp 39) (.tmp 40) 28 rfl w3.heap.size 53 i0 Tryz.underlying28 hi hj0 hj1 hj2 w3.heap.size rfl O0 a l.length cap news rfl (RW.alloc _) HEv.out hl4 (by simp) ?_))
      intro g cp w4 o4 g4 ev
      have hb4 : Below w3.heap.size w3 w4 := hbA.grown g4 (by simp) (by intro k hk; cases hk; exact Nat.le_refl _)
      have HRs : Rest w3 w3.heap.size g cp l.length w4 l := ⟨rfl, news, o4, HEN.out⟩
      have hg4 : g < w4.heap.size := (o4.lt g rfl).2
      have hg3 : w3.heap.size ≤ g := (o4.lt g rfl).1
      clear o4 g4 RW O0 hbA
      go_wp2_with fail
      go_loopw [2, 13] (fun kk v wr => ∃ (c : Int) (R pre : List Zp) (L : List Kp), kk = .int .i64 c ∧ Hid (Pick cols xs l n c R pre L) ∧ AccO g wr v pre ∧ Rest w3 w3.heap.size g cp l.length wr R ∧ Hid (EvenB wr g ∨ l.length = 0) ∧ g < wr.heap.size ∧ Below w3.heap.size w3 wr) (fun kk _ _ => (intOf kk).toNat)
      case atStart => exact ⟨n, l, [], inOrd xs l, rfl, Pick.start HO.out (by omega), AccO.nil _ _, HRs, (show _ ∨ _ by rcases ev with ev | ev; exact .inl ev; exact .inr (by simpa using ev)), hg4, hb4⟩
      case round =>
        obtain ⟨c, R, pre, L, rfl, HP, HA, HRs, HEb, hgo, hbo⟩ := hrel
        have hc0 := HP.out.c0
        have hcn : c ≤ 50 := by have := HP.out.len; omega
        have hRl := HRs.1
        obtain ⟨wo, hwo⟩ : ∃ z, z = wr := ⟨_, rfl⟩
        subst hwo
        obtain ⟨uo, huo⟩ : ∃ z, z = u13 := ⟨_, rfl⟩
        subst huo
        by_cases hpos : 0 < c
        · go_wp2_with fail
          go_loopw [15, 48] (fun b i wr => ∃ (j : Nat) (ob : Option Nat) (bz : Int), j ≤ l.length ∧ i = .int .i64 j ∧ b = .int .i64 bz ∧ Hid (bz = bestI ob) ∧ Hid (Scan xs R j ob) ∧ Below wo.heap.size wo wr) (fun _ i _ => l.length - (intOf i).toNat)
          case atStart => exact ⟨0, none, -1, Nat.zero_le _, rfl, rfl, rfl, Scan.nil _ _, Below.refl _ _⟩
          case round =>
            obtain ⟨j, ob, bz, hj, rfl, rfl, HB, HS, hb⟩ := hrel
            by_cases hlt : j < l.length
            · have hltR : j < R.length := by omega
              obtain ⟨_, hgl, _, c1, ar, cr, c0, sr⟩ := (HRs.next hb).at hltR
              have hal : Below wr.heap.size wr (wr.alloc (.cells #[.slice ar R[j].1.length cr, .int .i64 R[j].2] 53)) := (Below.refl _ _).alloc (Nat.le_refl _) _
              have q0 := heap_new wr #[.slice ar R[j].1.length cr, .int .i64 R[j].2] 53
              have hz := hb.size
              have j0 : (0 : Int) ≤ (j : Int) := by omega
              have j1 : (j : Int) < (l.length : Int) := by omega
              by_cases hw : R[j].2 ≤ 0
              · go_wp2_with fail
                go_roundw
                case rel => exact ⟨j + 1, ob, bz, by omega, by go_num, rfl, HB, HS.out.skip hltR hw, chain hb hal⟩
                case measure => simp [intOf]; omega
              · have HSr : Hid (SlAt w3 ar R[j].1) := sr
                clear sr
                have hA := chain hA3 (chain hbo (chain hb hal))
                have HFj : Hid (FitP cols R[j].1) := HP.out.fit _ (List.getElem_mem hltR)
                cases ob with
                | none =>
                  have e : bz = -1 := HB.out
                  subst e
                  go_wp2_with fail
                  clear c0 c1
                  generalize wr.alloc (.cells #[.slice ar R[j].1.length cr, .int .i64 R[j].2] 53) = wk at *
                  haveI : Nonempty (Past wk) := ⟨⟨wk, Below.refl _ _⟩⟩
                  refine wp_region_past (by kernel_rfl) (by kernel_rfl) ?_
                  repeat (go_big_quiet_step (fail))
                  refine wpQuiet_nil ?_
                  rintro w7 ⟨⟨v7, hb7⟩, h7⟩
                  obtain rfl : w7 = v7 := h7
                  have B7 := chain hb (chain hal hb7)
                  clear hA q0
                  go_wp2_with fail
                  go_roundw
                  case rel => exact ⟨j + 1, some j, j, by omega, by go_num, rfl, rfl, HS.out.first hltR (by omega), B7⟩
                  case measure => simp [intOf]; omega
                | some b =>
                  have e : bz = (b : Int) := HB.out
                  subst e
                  obtain ⟨hbR, hbj, _, _⟩ := HS.out
                  have hbl : b < l.length := by omega
                  obtain ⟨_, _, _, _, br, bc, d0, tr⟩ := (HRs.next hb).at hbR
                  have HTr : Hid (SlAt w3 br R[b].1) := tr
                  have HFb : Hid (FitP cols R[b].1) := HP.out.fit _ (List.getElem_mem hbR)
                  have d0' : (wr.alloc (.cells #[.slice ar R[j].1.length cr, .int .i64 R[j].2] 53)).cell? ⟨g, b * 2, none⟩ = some (.slice br R[b].1.length bc) := (hal.cell (p := ⟨g, b * 2, none⟩) hgl).trans d0
                  have b0 : (0 : Int) ≤ (b : Int) := by omega
                  have b1 : (b : Int) < (l.length : Int) := by omega
                  have b2 : ¬ (b : Int) < 0 := by omega
                  clear tr d0
                  go_wp2_with fail
                  clear c0 c1
                  generalize wr.alloc (.cells #[.slice ar R[j].1.length cr, .int .i64 R[j].2] 53) = wk at *
                  have hCC : ∀ W W' : World, (W.heap[wr.heap.size]? = some (.cells #[.slice ar R[j].1.length cr, .int .i64 R[j].2] 53 (0, 0)) ∧ W.cell? ⟨g, b * 2, none⟩ = some (.slice br R[b].1.length bc)) → Below W.heap.size W W' → (W'.heap[wr.heap.size]? = some (.cells #[.slice ar R[j].1.length cr, .int .i64 R[j].2] 53 (0, 0)) ∧ W'.cell? ⟨g, b * 2, none⟩ = some (.slice br R[b].1.length bc)) := fun W W' h hb => ⟨(hb.block _ (lt_of_heap h.1)).trans h.1, (hb.cell (World.block_lt_of_cell? _ _ h.2)).trans h.2⟩
                  have hd : Below wk.heap.size wk wk.drew := (Below.refl _ _).drew
                  have CW : (wk.drew.heap[wr.heap.size]? = some (.cells #[.slice ar R[j].1.length cr, .int .i64 R[j].2] 53 (0, 0)) ∧ wk.drew.cell? ⟨g, b * 2, none⟩ = some (.slice br R[b].1.length bc)) := hCC _ _ ⟨q0, d0'⟩ hd
                  refine wp_region_cls (fun W => (W.heap[wr.heap.size]? = some (.cells #[.slice ar R[j].1.length cr, .int .i64 R[j].2] 53 (0, 0)) ∧ W.cell? ⟨g, b * 2, none⟩ = some (.slice br R[b].1.length bc))) (by kernel_rfl) ?_
                  refine wpY_take hCC (some 56) (i := 0) (v := .int .i64 b) rfl rfl (by kernel_rfl) (by kernel_rfl) (by kernel_rfl) (fun _ _ _ h => h) (Or.inl ⟨rfl, fun n hn => ?_⟩) CW ?_
                  · go_simp
                  simp only [Act.put, List.setIfInBounds_toArray, List.set_cons_zero, List.set_cons_succ]
                  refine wpY_take hCC (some 57) (i := 1) (v := .bool false) rfl rfl (by kernel_rfl) (by kernel_rfl) (by kernel_rfl) (fun _ _ _ h => h) (Or.inl ⟨rfl, fun n hn => ?_⟩) CW ?_
                  · go_simp
                  simp only [Act.put, List.setIfInBounds_toArray, List.set_cons_zero, List.set_cons_succ]
                  refine wpY_take hCC (some 58) (i := 2) (v := .bool false) rfl rfl (by kernel_rfl) (by kernel_rfl) (by kernel_rfl) (fun _ _ _ h => h) (Or.inl ⟨rfl, fun n hn => ?_⟩) CW ?_
                  · go_simp
                  simp only [Act.put, List.setIfInBounds_toArray, List.set_cons_zero, List.set_cons_succ]
                  refine wpY_take hCC (some 59) (i := 3) (v := .slice xa xs.length xcap) rfl rfl (by kernel_rfl) (by kernel_rfl) (by kernel_rfl) (fun _ _ _ h => h) (Or.inl ⟨rfl, fun n hn => ?_⟩) CW ?_
                  · go_simp
                  simp only [Act.put, List.setIfInBounds_toArray, List.set_cons_zero, List.set_cons_succ]
                  refine wpY_take hCC (some 60) (i := 4) (v := .pointer (some ⟨wr.heap.size, 0, none⟩)) rfl rfl (by kernel_rfl) (by kernel_rfl) (by kernel_rfl) (fun _ _ _ h => h) (Or.inl ⟨rfl, fun n hn => ?_⟩) CW ?_
                  · go_simp
                  simp only [Act.put, List.setIfInBounds_toArray, List.set_cons_zero, List.set_cons_succ]
                  refine wpY_take hCC (some 61) (i := 5) (v := .slice ar R[j].1.length cr) rfl rfl (by kernel_rfl) (by kernel_rfl) (by kernel_rfl) (fun _ _ _ h => h) (Or.inl ⟨rfl, fun n hn => ?_⟩) CW ?_
                  · have hc : n.cell? ⟨wr.heap.size, 0, none⟩ = some (.slice ar R[j].1.length cr) := cell_of (i := 0) hn.1 rfl
                    go_simp
                  simp only [Act.put, List.setIfInBounds_toArray, List.set_cons_zero, List.set_cons_succ]
                  refine wpY_take hCC (some 63) (i := 7) (v := .slice xa xs.length xcap) rfl rfl (by kernel_rfl) (by kernel_rfl) (by kernel_rfl) (fun _ _ _ h => h) (Or.inl ⟨rfl, fun n hn => ?_⟩) CW ?_
                  · go_simp
                  simp only [Act.put, List.setIfInBounds_toArray, List.set_cons_zero, List.set_cons_succ]
                  refine wpY_take hCC (some 64) (i := 8) (v := .slice (some ⟨g, 0, none⟩) l.length cp) rfl rfl (by kernel_rfl) (by kernel_rfl) (by kernel_rfl) (fun _ _ _ h => h) (Or.inl ⟨rfl, fun n hn => ?_⟩) CW ?_
                  · go_simp
                  simp only [Act.put, List.setIfInBounds_toArray, List.set_cons_zero, List.set_cons_succ]
                  refine wpY_take hCC (some 65) (i := 9) (v := .int .i64 b) rfl rfl (by kernel_rfl) (by kernel_rfl) (by kernel_rfl) (fun _ _ _ h => h) (Or.inl ⟨rfl, fun n hn => ?_⟩) CW ?_
                  · go_simp
                  simp only [Act.put, List.setIfInBounds_toArray, List.set_cons_zero, List.set_cons_succ]
                  refine wpY_take hCC (some 66) (i := 10) (v := .pointer (some ⟨g, b * 2, none⟩)) rfl rfl (by kernel_rfl) (by kernel_rfl) (by kernel_rfl) (fun _ _ _ h => h) (Or.inl ⟨rfl, fun n hn => ?_⟩) CW ?_
                  · go_simp
                  simp only [Act.put, List.setIfInBounds_toArray, List.set_cons_zero, List.set_cons_succ]
                  refine wpY_take hCC (some 67) (i := 11) (v := .pointer (some ⟨g, b * 2, none⟩)) rfl rfl (by kernel_rfl) (by kernel_rfl) (by kernel_rfl) (fun _ _ _ h => h) (Or.inl ⟨rfl, fun n hn => ?_⟩) CW ?_
                  · go_simp
                  simp only [Act.put, List.setIfInBounds_toArray, List.set_cons_zero, List.set_cons_succ]
                  refine wpY_take hCC (some 68) (i := 12) (v := .slice br R[b].1.length bc) rfl rfl (by kernel_rfl) (by kernel_rfl) (by kernel_rfl) (fun _ _ _ h => h) (Or.inl ⟨rfl, fun n hn => ?_⟩) CW ?_
                  · have hc := hn.2
                    go_simp
                  simp only [Act.put, List.setIfInBounds_toArray, List.set_cons_zero, List.set_cons_succ]
                  refine wpY_step (rs := [6]) (by kernel_rfl) (by simp) ?_
                  intro w5 hb5 jj hjj
                  obtain rfl : jj = 6 := by simpa using hjj
                  clear hjj
                  have CW5 := hCC _ _ CW hb5
                  have D5 := chain hd hb5
                  have A5 := chain hA D5
                  have G5 : Below w3.heap.size w3 w5 := chain hbo (chain hb (chain hal D5))
                  have con := refValues_at (cols := cols) xs HTe.out R[j].1 HFj.out xa xcap ar cr w5 ((KsAt.next A5 (Nat.le_refl _) hx).up A5.size) (HSr.out.next G5)
                  refine wpOp_step rfl (fun K hK => ?_)
                  go_simp
                  refine con.mono ?_
                  rintro e w6 ⟨v6, rfl, O6, hb6⟩
                  clear con
                  obtain ⟨a6, c6, rfl, S6, T6, _⟩ := own_vals O6 (by simp [rowX])
                  have CW6 := hCC _ _ CW5 hb6
                  have D6 := chain D5 hb6
                  refine hK _ _ ⟨CW6, ?_⟩
                  clear hK K O6 T6
                  refine wpY_step (rs := [13]) (by kernel_rfl) (by simp) ?_
                  intro w7 hb7 jj hjj
                  obtain rfl : jj = 13 := by simpa using hjj
                  clear hjj
                  have CW7 := hCC _ _ CW6 hb7
                  have D7 := chain D6 hb7
                  have A7 := chain hA D7
                  have G7 : Below w3.heap.size w3 w7 := chain hbo (chain hb (chain hal D7))
                  have con := refValues_at (cols := cols) xs HTe.out R[b].1 HFb.out xa xcap br bc w7 ((KsAt.next A7 (Nat.le_refl _) hx).up A7.size) (HTr.out.next G7)
                  refine wpOp_step rfl (fun K hK => ?_)
                  go_simp
                  refine con.mono ?_
                  rintro e w8 ⟨v8, rfl, O8, hb8⟩
                  clear con
                  obtain ⟨a8, c8, rfl, S8, T8, _⟩ := own_vals O8 (by simp [rowX])
                  have CW8 := hCC _ _ CW7 hb8
                  have D8 := chain D7 hb8
                  refine hK _ _ ⟨CW8, ?_⟩
                  clear hK K O8 T8
                  refine wpY_step (rs := [14]) (by kernel_rfl) (by simp) ?_
                  intro w9 hb9 jj hjj
                  obtain rfl : jj = 14 := by simpa using hjj
                  clear hjj
                  have CW9 := hCC _ _ CW8 hb9
                  have D9 := chain D8 hb9
                  have con := refRows_at a6 a8 c6 c8 (rowX xs R[j].1) (rowX xs R[b].1) w9 (S6.next (chain hb7 (chain hb8 hb9))) (S8.next hb9) (rowF_right HTe.out HFj.out)
                  generalize hcm : cmpL (rowX xs R[j].1) (rowX xs R[b].1) = cm at *
                  have HCm : Hid (cmpL (rowX xs R[j].1) (rowX xs R[b].1) = cm) := hcm
                  clear hcm
                  refine wpOp_step rfl (fun K hK => ?_)
                  go_simp
                  refine con.mono ?_
                  rintro e wA ⟨rfl, hbA⟩
                  clear con
                  have CWA := hCC _ _ CW9 hbA
                  have DA := chain D9 hbA
                  refine hK _ _ ⟨CWA, ?_⟩
                  clear hK K CW5 CW6 CW7 CW8 CW9
                  refine wpY_take hCC (some 71) (i := 15) (v := .bool (decide (cm < 0))) rfl rfl (by kernel_rfl) (by kernel_rfl) (by kernel_rfl) (fun _ _ _ h => h) (Or.inl ⟨rfl, fun n hn => ?_⟩) CWA ?_
                  · go_simp
                  simp only [Act.put, List.setIfInBounds_toArray, List.set_cons_zero, List.set_cons_succ]
                  refine wpY_take hCC (some 72) (i := 16) (v := .bool (decide (cm < 0))) rfl rfl (by kernel_rfl) (by kernel_rfl) (by kernel_rfl) (fun _ _ _ h => h) (Or.inl ⟨rfl, fun n hn => ?_⟩) CWA ?_
                  · go_simp
                  simp only [Act.put, List.setIfInBounds_toArray, List.set_cons_zero, List.set_cons_succ]
                  refine wpY_done (by kernel_rfl) ?_
                  intro wB hbB
                  have B7 := chain hb (chain hal (chain DA hbB))
                  clear CW CWA hbB DA D9 D8 D7 D6 D5 A7 A5 G5 G7 S6 S8 hA q0 hCC
                  by_cases hcl : cm < 0
                  · have hdc : decide (cm < 0) = true := decide_eq_true hcl
                    rw [hdc]
                    have HN : Hid (Scan xs R (j + 1) (some j)) := HS.out.less hltR hbR (by omega) (by rw [HCm.out]; exact hcl)
                    go_wp2_with fail
                    go_roundw
                    case rel => exact ⟨j + 1, some j, j, by omega, by go_num, rfl, rfl, HN, B7⟩
                    case measure => simp [intOf]; omega
                  · have hdc : decide (cm < 0) = false := decide_eq_false hcl
                    rw [hdc]
                    have HN : Hid (Scan xs R (j + 1) (some b)) := HS.out.keep hltR hbR (by rw [HCm.out]; exact hcl)
                    go_wp2_with fail
                    go_roundw
                    case rel => exact ⟨j + 1, some b, b, by omega, by go_num, rfl, rfl, HN, B7⟩
                    case measure => simp [intOf]; omega
            · have e : j = R.length := by omega
              have HSe : Hid (Scan xs R R.length ob) := by show Scan _ _ _ _; rw [← e]; exact HS.out
              clear HS e
              cases ob with
              | none =>
                have e : bz = -1 := HB.out
                subst e
                have ez : fz = canon pre := HZe.out.trans (HP.out.none HSe.out).symm
                obtain ⟨av, cv, rfl, zv, lv⟩ := (HA.next hb).acc
                rw [← ez] at zv lv ⊢; clear ez
                have hA := chain hA3 (chain hbo hb)
                clear HP HA HRs HSe HB
                go_wp2_with fail
                first
                  | exact bodyPost_ret (v := .tuple #[.slice av fz.length cv, .int .i64 0]) (by simp [results, Tryz.results15, go_sem]) rfl ⟨_, rfl, ⟨_, _, rfl, zv⟩, hA⟩
                  | exact bodyPost_ret (v := .tuple #[.slice av fz.length cv, .int .i64 0]) (by simp [results, Tryz.results15, go_sem]) rfl ⟨_, rfl, ⟨_, ⟨_, rfl⟩, zv⟩, hA⟩
              | some b =>
                have e : bz = (b : Int) := HB.out
                subst e
                obtain ⟨hbR, _, hbp, _⟩ := HSe.out
                have hbl : b < l.length := by omega
                obtain ⟨_, hgl, fr, d1, br, bc, d0, tr⟩ := (HRs.next hb).at hbR
                have HTr : Hid (SlAt w3 br R[b].1) := tr
                have hsm := HP.out.small _ (List.getElem_mem hbR)
                have hl8 := fit_len8 (HP.out.fit _ (List.getElem_mem hbR)) H8.out
                have EB : EvenB wr g := by
                  rcases HEb.out with hE | hE
                  · exact hE.next hgo hb
                  · omega
                have b0 : (0 : Int) ≤ (b : Int) := by omega
                have b1 : (b : Int) < (l.length : Int) := by omega
                have b2 : ¬ (b : Int) < 0 := by omega
                obtain ⟨L', HP'⟩ := HP.out.step hbR HSe.out hpos
                have HPn : Hid (Pick cols xs l n (c - 1) (R.set b (R[b].1, R[b].2 - 1)) (pre ++ [(R[b].1, 1)]) L') := HP'
                have HPo : Hid (POk 50 pre) := HP.out.pok (by omega)
                have Gs : Below w3.heap.size w3 (wr.setCell ⟨g, b * 2 + 1, none⟩ (.int .i64 (R[b].2 - 1))) := (chain hbo hb).setCell (p := ⟨g, b * 2 + 1, none⟩) hg3 _
                have RSs := (HRs.next hb).set hbR (R[b].2 - 1)
                have HAs := (HA.next hb).set EB b (.int .i64 (R[b].2 - 1))
                have EBs : Hid (EvenB (wr.setCell ⟨g, b * 2 + 1, none⟩ (.int .i64 (R[b].2 - 1))) g) := EB.set b _
                have d0s : (wr.setCell ⟨g, b * 2 + 1, none⟩ (.int .i64 (R[b].2 - 1))).cell? ⟨g, b * 2, none⟩ = some (.slice br R[b].1.length bc) := by rw [cell_set_odd]; exact d0
                have gs : g < (wr.setCell ⟨g, b * 2 + 1, none⟩ (.int .i64 (R[b].2 - 1))).heap.size := by simpa [World.setCell] using hgl
                clear tr HP' HP HA HRs
                go_upto_region 23 with fail
                clear d0 d1 fr
                generalize wr.setCell ⟨g, b * 2 + 1, none⟩ (.int .i64 (R[b].2 - 1)) = ws at *
                have con := putO_at g uo pre 50 (by omega) HPo.out br bc R[b].1 1 ws gs HAs (HTr.out.next Gs) hl8 (by omega)
                go_wp2_with fail
                refine con.mono ?_
                rintro e w6 ⟨v6, rfl, HA6, hb6⟩
                clear con d0s
                have RS6 := RSs.next hb6
                have EB6 : Hid (EvenB w6 g ∨ l.length = 0) := Or.inl (EBs.out.next gs hb6)
                have hz6 := hb6.size
                have G6 := chain Gs hb6
                clear RSs HAs EBs EB Gs
                dsimp only
                go_wp2_with fail
                go_roundw
                case rel => exact ⟨c - 1, _, _, L', by go_num, HPn, HA6, RS6, EB6, by omega, G6⟩
                case measure => simp [intOf]; omega
        · have e : c = 0 := by omega
          subst e
          have ez : fz = canon pre := HZe.out.trans HP.out.all.symm
          obtain ⟨av, cv, rfl, zv, lv⟩ := HA.acc
          rw [← ez] at zv lv ⊢; clear ez
          have hA := chain hA3 hbo
          clear HP HA HRs
          go_wp2_with fail
          first
            | exact bodyPost_ret (v := .tuple #[.slice av fz.length cv, .int .i64 0]) (by simp [results, Tryz.results15, go_sem]) rfl ⟨_, rfl, ⟨_, _, rfl, zv⟩, hA⟩
            | exact bodyPost_ret (v := .tuple #[.slice av fz.length cv, .int .i64 0]) (by simp [results, Tryz.results15, go_sem]) rfl ⟨_, rfl, ⟨_, ⟨_, rfl⟩, zv⟩, hA⟩
    · have e0 : fe = ie := by rw [← HE.out]; unfold topE; rw [HTe.out, HIe.out, if_neg (by simp), if_neg HRg.out, if_pos hii]
      have e1 : fz = [] := by rw [← HZ.out]; unfold topZ; rw [HE.out, e0, if_neg hii]
      have hne : (ie != 0) = true := by simpa using hii
      subst e0 e1
      clear hii
      go_wp2_with fail
      first
        | exact bodyPost_ret (v := .tuple #[.slice none 0 0, .int .i64 fe]) (by simp [results, Tryz.results15, go_sem]) rfl ⟨_, rfl, ⟨_, _, rfl, ⟨by simp, .inl rfl⟩⟩, hA3⟩
        | exact bodyPost_ret (v := .tuple #[.slice none 0 0, .int .i64 fe]) (by simp [results, Tryz.results15, go_sem]) rfl ⟨_, rfl, ⟨_, ⟨_, rfl⟩, ⟨by simp, .inl rfl⟩⟩, hA3⟩
  · have e0 : fe = te := by rw [← HE.out]; unfold topE; rw [HTe.out, if_pos ht]
    have e1 : fz = [] := by rw [← HZ.out]; unfold topZ; rw [HE.out, e0, if_neg ht]
    have hne : (te != 0) = true := by simpa using ht
    subst e0 e1
    clear ht
    go_wp2_with fail
    first
      | exact bodyPost_ret (v := .tuple #[.slice none 0 0, .int .i64 fe]) (by simp [results, Tryz.results15, go_sem]) rfl ⟨_, rfl, ⟨_, _, rfl, ⟨by simp, .inl rfl⟩⟩, hA2⟩
      | exact bodyPost_ret (v := .tuple #[.slice none 0 0, .int .i64 fe]) (by simp [results, Tryz.results15, go_sem]) rfl ⟨_, rfl, ⟨_, ⟨_, rfl⟩, ⟨by simp, .inl rfl⟩⟩, hA2⟩
end Go.Proofs.YtfojonhblblbjaaGreat
