/- The walk of streams.each over sets. -/
import Derived.Test.YtibobmkelmalkaaST1
namespace Go.Proofs.Ytibobmkelmalkaa
open Go.RowKit Go.Lib Go.Shelf

theorem fset {W : World} {B : Nat} {a b x y : Value} {T : TypeId} (h : W.heap[B]? = some (.cells #[a, b] T (0, 0))) : ((W.setCell ⟨B, 0, none⟩ x).setCell ⟨B, 1, none⟩ y).heap[B]? = some (.cells #[x, y] T (0, 0)) :=
  heap_setCell_same _ B 1 #[x, b] T y (heap_setCell_same W B 0 #[a, b] T x h)
theorem fset_keep {W : World} {B : Nat} {a b x y : Value} {T : TypeId} (h : W.heap[B]? = some (.cells #[a, b] T (0, 0))) (h1 : T ≠ 47) (h2 : T ≠ 45) : KeepT W ((W.setCell ⟨B, 0, none⟩ x).setCell ⟨B, 1, none⟩ y) :=
  ((KeepT.refl W).set h h1 h2 0 x).set (heap_setCell_same W B 0 #[a, b] T x h) h1 h2 1 y
theorem fset_below {W : World} {B lo : Nat} {x y : Value} (hl : lo ≤ B) : Below lo W ((W.setCell ⟨B, 0, none⟩ x).setCell ⟨B, 1, none⟩ y) := ((Below.refl lo W).setCell (p := ⟨B, 0, none⟩) hl x).setCell (p := ⟨B, 1, none⟩) hl y
theorem fset_since {W : World} {B lo : Nat} {x y : Value} (hl : B < lo) : Since lo W ((W.setCell ⟨B, 0, none⟩ x).setCell ⟨B, 1, none⟩ y) := ((Since.refl lo W).set B 0 x hl).set B 1 y hl
/-- What each asks of its function: what holds of the world after k entries, and what holds whatever comes. -/
structure EachOk (l : List (List Zp)) (E : Nat → Int) (Z : Nat → List Zp) (I : Nat → World → Prop) (J : World → Prop) (w0 : World) (lo g : Nat) (cb : Array Value) : Prop where
  eg : ∀ args w, (callFunc g args).run Try.prog w = .ok (.enter g args) w
  ij : ∀ k W, I k W → J W
  old : ∀ W, J W → Below w0.heap.size w0 W
  mv : ∀ k W W', I k W → Below lo W W' → KeepT W W' → I k W'
  mvJ : ∀ W W', J W → Below lo W W' → KeepT W W' → J W'
  st : ∀ (k : Nat) (h : k < l.length) (W : World) (ai : Option Addr) (ci : Nat), I k W → lo ≤ W.heap.size → ZsAt w0 ai l[k] → (ai = none → ci = 0) → Calls Try.prog g (#[.slice ai l[k].length ci] ++ cb) W fun e w' => ∃ u, e = .returned (.tuple #[u, .int .i64 (E k)]) ∧ J w' ∧ Since lo W w' ∧ KeepT W w' ∧ (E k = 0 → OwnZ 0 w' u (Z k) ∧ I (k + 1) w')

set_option maxRecDepth 100000 in
set_option maxHeartbeats 4000000 in
theorem each_at (l : List (List Zp)) (E : Nat → Int) (Z : Nat → List Zp) (I : Nat → World → Prop) (J : World → Prop) (w0 w : World) (g : Nat) (cb : Array Value) (a : Option Addr) (cap : Nat) (hD : DtAt w0 a l) (h0 : I 0 w) (ok : EachOk l E Z I J w0 w.heap.size g cb) :
    Calls Try.prog 25 #[.slice a l.length cap, .func (.func g) #[] cb] w fun e w' => ∃ v, e = .returned (.tuple #[v, .agg #[.int .i64 (eachF l.length E).1, .int .i64 (eachF l.length E).2]]) ∧ OwnL w.heap.size w' v (eachZ l.length E Z) ∧ J w' := by
  obtain ⟨i0, hi, hj0, hj1, hj2⟩ := info_parts infoS
  obtain ⟨eg, ij, old, mv, mvJ, st⟩ := ok
  generalize hF : eachF l.length E = F
  generalize hZ : eachZ l.length E Z = zs
  have HF : Hid (eachF l.length E = F) := hF
  have HZ : Hid (eachZ l.length E Z = zs) := hZ
  clear hF hZ
  have Q0 := heap_new w #[.int .i64 0, .int .i64 0] 27
  have hA : Below w.heap.size w (w.alloc (.cells #[.int .i64 0, .int .i64 0] 27)) := (Below.refl _ _).alloc (Nat.le_refl _) _
  have hI : I 0 (w.alloc (.cells #[.int .i64 0, .int .i64 0] 27)) := mv 0 _ _ h0 hA (KeepT.of hA)
  have hz : (w.alloc (.cells #[.int .i64 0, .int .i64 0] 27)).heap.size = w.heap.size + 1 := by simp
  by_cases hn : 30 < l.length
  · have e1 : F = (5, 0) := by rw [← HF.out]; unfold eachF; rw [if_pos hn]
    have e2 : zs = [] := by rw [← HZ.out]; unfold eachZ; rw [if_neg (by rw [HF.out, e1]; decide)]
    subst e1 e2
    have hnz : (30 : Int) < (l.length : Int) := by omega
    go_enter Try.func25, Try.ntmps25
    go_upto_region 1 with fail
    generalize w.alloc (.cells #[.int .i64 0, .int .i64 0] 27) = w1 at *
    have f0 := cell_of (i := 0) Q0 rfl
    have f1 := cell_of (i := 1) Q0 rfl
    have z0 := frozen_of_row w1 w.heap.size 0 _ _ Q0
    have z1 := frozen_of_row w1 w.heap.size 1 _ _ Q0
    have QR := fset (x := .int .i64 5) (y := .int .i64 0) Q0
    have HJ : Hid (J _) := mvJ _ _ (ij _ _ hI) (fset_below (x := .int .i64 5) (y := .int .i64 0) (Nat.le_refl _)) (fset_keep Q0 (by decide) (by decide))
    have g0 := cell_of (i := 0) QR rfl
    have g1 := cell_of (i := 1) QR rfl
    clear QR hI
    go_wp2_with fail
    exact bodyPost_ret (v := .tuple #[.slice none 0 0, .agg #[.int .i64 5, .int .i64 0]]) (by simp [results, Try.results25, go_sem, g0, g1]) rfl ⟨_, rfl, OwnL.nil _ _, HJ.out⟩
  have hnz : ¬ (30 : Int) < (l.length : Int) := by omega
  go_enter Try.func25, Try.ntmps25
  go_upto_region 1 with fail
  generalize w.alloc (.cells #[.int .i64 0, .int .i64 0] 27) = w1 at *
  go_wp2_with fail
  go_loopw [6, 17] (fun v i wr => ∃ k : Nat, k ≤ l.length ∧ i = .int .i64 k ∧ Hid (∀ j, j < k → E j = 0) ∧ OwnL w.heap.size wr v ((List.range k).map Z) ∧ I k wr ∧ wr.heap[w.heap.size]? = some (.cells #[.int .i64 0, .int .i64 0] 27 (0, 0)) ∧ w.heap.size ≤ wr.heap.size) (fun _ i _ => l.length - (intOf i).toNat)
  case atStart => exact ⟨0, Nat.zero_le _, rfl, fun j hj => absurd hj (by omega), OwnL.nil _ _, hI, Q0, by omega⟩
  case round =>
    obtain ⟨k, hk, rfl, HE, HO, HI, QR, hsz⟩ := hrel
    clear Q0 hI
    by_cases hlt : k < l.length
    · obtain ⟨b, off, ai, ci, rfl, hbl, c0, z0, n0⟩ := hD.elem hlt
      have c1 := ((old _ (ij _ _ HI)).cell (p := ⟨b, off + k, none⟩) hbl).trans c0
      have hkz : (k : Int) < (l.length : Int) := by omega
      have con := st k hlt wr ai ci HI hsz z0 n0
      by_cases h0 : E k = 0
      · rw [h0] at con
        have HK : Hid (E k = 0) := h0
        clear h0
        go_upto_region 10 with (go_at_fn g; refine con.mono ?_; rintro e w2 ⟨u, rfl, J2, S2, K2, R2⟩; obtain ⟨O2, I2⟩ := R2 rfl; obtain ⟨a2, c2, rfl, z2, n2⟩ := O2.zs2)
        clear con R2 z2
        have hal : Below w2.heap.size w2 (w2.alloc (.cells #[.slice a2 (Z k).length c2] 34)) := (Below.refl _ _).alloc (Nat.le_refl _) _
        have q6 := cell_of (i := 0) (heap_new w2 #[.slice a2 (Z k).length c2] 34) rfl
        have hnews : ∀ jj u, [Value.slice a2 (Z k).length c2][jj]? = some u → (w2.alloc (.cells #[.slice a2 (Z k).length c2] 34)).cell? ((⟨w2.heap.size, 0, none⟩ : Addr).add jj) = some u := fun jj u hu => by
          rw [addr_zero]
          cases jj with
          | zero => exact q6.trans hu
          | succ n => simp at hu
        have S3 := S2.trans (Since.of hal)
        have K3 := K2.trans (KeepT.of hal)
        have O3 := O2.next hal
        have z3 := S3.1
        have I3 := mv _ _ _ I2 (hal.mono (by have := S2.1; omega)) (KeepT.of hal)
        obtain ⟨cs, o3, p3⟩ := HO.move (Nat.le_refl _) S3 K3
        have Q3 := (S3.2 w.heap.size (Nat.le_refl _) (lt_of_heap QR)).trans QR
        have HP : Hid (∀ (i : Nat) (h : i < ((List.range k).map Z).length), ∃ u, cs[i]? = some u ∧ OwnZ 0 _ u ((List.range k).map Z)[i]) := p3
        have hlk : ((List.range k).map Z).length = k := by simp
        have HL : Hid (((List.range k).map Z).length = k) := hlk
        rw [hlk] at o3
        clear hlk p3 HO S2 K2 O2 I2 J2 QR HI hal
        have HZs : Hid ((List.range (k + 1)).map Z = (List.range k).map Z ++ [Z k]) := by show _ = _; rw [List.range_succ]; simp
        generalize Z k = zk at *
        go_wp2_with (at_builtin; refine wpList_append_own _ rfl _ _ 22 rfl w.heap.size 34 i0 _ 1 24 Try.underlying22 hi hj0 hj1 hj2 rfl (by decide) _ k cs rfl o3 ⟨w2.heap.size, 0, none⟩ 1 1 [.slice a2 zk.length c2] rfl rfl hnews (fun u hu => by simp only [List.mem_singleton] at hu; subst hu; rfl) (by unfold maxLen; omega) (by omega) (by omega) ?_)
        intro v' w4 ho4 hg4 _
        have o3' := o3
        rw [← HL.out] at o3'
        have R4 := OwnL.push o3' HP.out O3 (by rw [HL.out]; exact ho4) hg4
        rw [← HZs.out] at R4
        have K4 := KeepT.own o3 (by decide) (by decide) hg4
        have B4 : Below w.heap.size _ w4 := (Below.refl _ _).grown hg4 (by omega) (fun q hq => (o3.lt q hq).1)
        have I4 := mv _ _ _ I3 B4 K4
        have Q4 : w4.heap[w.heap.size]? = some (.cells #[.int .i64 0, .int .i64 0] 27 (0, 0)) := by
          refine (hg4.block w.heap.size (lt_of_heap Q3) ?_).trans Q3
          intro e
          obtain ⟨_, ⟨rfl, _⟩ | ⟨gg, cap', cur, rfl, _, hh, _⟩⟩ := o3
          · simp [Value.ownBlock] at e
          · simp only [Value.ownBlock] at e
            injection e with e
            rw [← e, Q3] at hh
            have := Option.some.inj hh
            injection this with _ e2
            exact absurd e2 (by decide)
        have HE' : Hid (∀ j, j < k + 1 → E j = 0) := fun j hj => by
          by_cases e : j = k
          · rw [e]; exact HK.out
          · exact HE.out j (by omega)
        have z4 : w.heap.size ≤ w4.heap.size := Nat.le_trans (by omega) hg4.size
        clear ho4 hg4 o3 o3' HP O3 I3 K4 B4 Q3 hnews q6 S3 K3
        go_wp2_with fail
        go_roundw
        case rel => exact ⟨k + 1, by omega, by go_num, HE', R4, I4, Q4, z4⟩
        case measure => simp [intOf]; omega
      · have hne : (E k != 0) = true := by simpa using h0
        have e1 : F = (E k, (k : Int)) := by rw [← HF.out]; exact eachF_at (by omega) hlt HE.out h0
        have e2 : zs = [] := by rw [← HZ.out]; unfold eachZ; rw [if_neg (by rw [HF.out, e1]; exact h0)]
        have HE1 : Hid (F = (E k, (k : Int))) := e1
        have HE2 : Hid (zs = []) := e2
        generalize E k = ek at *
        clear h0 e1 e2
        go_upto_region 9 with (go_at_fn g; refine con.mono ?_; rintro e w2 ⟨u, rfl, J2, S2, K2, R2⟩)
        clear con R2
        have Q3 := (S2.2 w.heap.size (Nat.le_refl _) (lt_of_heap QR)).trans QR
        have f0 := cell_of (i := 0) Q3 rfl
        have f1 := cell_of (i := 1) Q3 rfl
        have z0 := frozen_of_row w2 w.heap.size 0 _ _ Q3
        have z1 := frozen_of_row w2 w.heap.size 1 _ _ Q3
        have QF := fset (x := .int .i64 ek) (y := .int .i64 k) Q3
        have HJ : Hid (J _) := mvJ _ _ J2 (fset_below (x := .int .i64 ek) (y := .int .i64 k) (Nat.le_refl _)) (fset_keep Q3 (by decide) (by decide))
        have g0 := cell_of (i := 0) QF rfl
        have g1 := cell_of (i := 1) QF rfl
        clear QF Q3 QR J2
        go_wp2_with fail
        exact bodyPost_ret (v := .tuple #[.slice none 0 0, .agg #[.int .i64 ek, .int .i64 k]]) (by simp [results, Try.results25, go_sem, g0, g1]) rfl ⟨_, by rw [HE1.out], by rw [HE2.out]; exact OwnL.nil _ _, HJ.out⟩
    · have e : k = l.length := by omega
      have hkn : ¬ (k : Int) < (l.length : Int) := by omega
      have e1 : F = (0, 0) := by rw [← HF.out]; exact eachF_all (by omega) (fun j hj => HE.out j (by omega))
      have e2 : zs = (List.range k).map Z := by rw [← HZ.out, e]; exact eachZ_all (by omega) (fun j hj => HE.out j (by omega))
      have HE1 : Hid (F = (0, 0)) := e1
      have HE2 : Hid (zs = (List.range k).map Z) := e2
      clear e1 e2
      generalize (List.range k).map Z = m at *
      have f0 := cell_of (i := 0) QR rfl
      have f1 := cell_of (i := 1) QR rfl
      have z0 := frozen_of_row wr w.heap.size 0 _ _ QR
      have z1 := frozen_of_row wr w.heap.size 1 _ _ QR
      have QF := fset (x := .int .i64 0) (y := .int .i64 0) QR
      have KF := fset_keep (x := .int .i64 0) (y := .int .i64 0) QR (by decide) (by decide)
      have HJ : Hid (J _) := mvJ _ _ (ij _ _ HI) (fset_below (x := .int .i64 0) (y := .int .i64 0) (Nat.le_refl _)) KF
      obtain ⟨av, cv, rfl, _, _⟩ := HO.dt
      have HL : Hid (OwnL w.heap.size ((wr.setCell ⟨w.heap.size, 0, none⟩ (.int .i64 0)).setCell ⟨w.heap.size, 1, none⟩ (.int .i64 0)) (.slice av m.length cv) m) := by
        obtain ⟨cs, o3, p3⟩ := HO
        refine ⟨cs, ?_, fun i hi => ?_⟩
        · obtain ⟨hx, h1 | ⟨gg, cap', cur, ev, hg, hh, rest⟩⟩ := o3
          · exact ⟨hx, .inl h1⟩
          · refine ⟨hx, .inr ⟨gg, cap', cur, ev, hg, ?_, rest⟩⟩
            have hne : gg ≠ w.heap.size := by
              intro e
              rw [e, QR] at hh
              have := Option.some.inj hh
              injection this with _ e2
              exact absurd e2 (by decide)
            exact (Below.heap_setCell _ ⟨w.heap.size, 1, none⟩ _ gg hne).trans ((Below.heap_setCell _ ⟨w.heap.size, 0, none⟩ _ gg hne).trans hh)
        · obtain ⟨u, e, o⟩ := p3 i hi
          exact ⟨u, e, o.keep KF⟩
      have g0 := cell_of (i := 0) QF rfl
      have g1 := cell_of (i := 1) QF rfl
      clear QF QR KF HI HO
      go_wp2_with fail
      exact bodyPost_ret (v := .tuple #[.slice av m.length cv, .agg #[.int .i64 0, .int .i64 0]]) (by simp [results, Try.results25, go_sem, g0, g1]) rfl ⟨_, by rw [HE1.out], by rw [HE2.out]; exact HL.out, HJ.out⟩
end Go.Proofs.Ytibobmkelmalkaa
