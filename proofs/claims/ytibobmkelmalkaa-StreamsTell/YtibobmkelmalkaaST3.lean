/- The walk of streams.along. -/
import Derived.Test.YtibobmkelmalkaaST2
namespace Go.Proofs.Ytibobmkelmalkaa
open Go.RowKit Go.Lib Go.Shelf

/-- The set ahead. -/
def aheadL (l : List (List Zp)) : Nat → List Zp
  | 0 => []
  | k + 1 => l.getD k []
theorem getD_at {l : List (List Zp)} {k : Nat} (h : k < l.length) : l.getD k [] = l[k] := by rw [List.getD_eq_getElem?_getD, List.getElem?_eq_getElem h]; rfl
def wrongsF (l : List (List Zp)) : Int × Int := eachF l.length fun k => wrongZ (l.getD k [])
def alongF (l : List (List Zp)) (E : Nat → Int) : Int × Int := if (wrongsF l).1 = 0 then eachF l.length E else wrongsF l
def alongZ (l : List (List Zp)) (E : Nat → Int) (Z : Nat → List Zp) : List (List Zp) := if (alongF l E).1 = 0 then (List.range l.length).map Z else []
theorem wrongs_ok {l : List (List Zp)} (h : (wrongsF l).1 = 0) : l.length ≤ 30 ∧ ∀ z ∈ l, wrongZ z = 0 := by
  obtain ⟨h1, h2⟩ := eachF_ok h
  refine ⟨h1, fun z hz => ?_⟩
  obtain ⟨i, hi, rfl⟩ := List.getElem_of_mem hz
  have := h2 i hi
  rwa [getD_at hi] at this
theorem alongZ_each {l : List (List Zp)} {E : Nat → Int} {Z : Nat → List Zp} (h : (wrongsF l).1 = 0) : alongZ l E Z = eachZ l.length E Z := by unfold alongZ eachZ alongF; rw [if_pos h]

set_option maxHeartbeats 1000000 in
theorem along1_at (ai : Option Addr) (ci : Nat) (z : List Zp) (W : World) (h : ZsAt W ai z) :
    Calls Try.prog 26 #[.slice ai z.length ci] W fun e w' => e = .returned (.tuple #[.slice none 0 0, .int .i64 (wrongZ z)]) ∧ Below W.heap.size W w' := by
  go_enter Try.func26, Try.ntmps26
  go_wp2_with fail
  refine (zWrong_at ai ci z W h).mono ?_
  rintro e w1 ⟨rfl, hb⟩
  go_wp2_with fail
  exact bodyPost_ret (v := .tuple #[.slice none 0 0, .int .i64 (wrongZ z)]) (by simp [results, Try.results26, go_sem]) rfl ⟨rfl, hb⟩

set_option maxHeartbeats 1000000 in
theorem along2_at (g : Nat) (cb : Array Value) (eg : ∀ args w, (callFunc g args).run Try.prog w = .ok (.enter g args) w) (B3 B8 : Nat) (W : World) (aa ai : Option Addr) (na ca n ci : Nat) (er : Int) (R : Value → World → Prop)
    (h3 : W.heap[B3]? = some (.cells #[.func (.func g) #[] cb] 36 (0, 0))) (h8 : W.heap[B8]? = some (.cells #[.slice aa na ca] 34 (0, 0))) (hR : ∀ u w1, R u w1 → w1.heap[B8]? = W.heap[B8]?)
    (con : Calls Try.prog g (#[.slice aa na ca, .slice ai n ci] ++ cb) W fun e w1 => ∃ u, e = .returned (.tuple #[u, .int .i64 er]) ∧ R u w1) :
    Calls Try.prog 28 #[.slice ai n ci, .pointer (some ⟨B3, 0, none⟩), .pointer (some ⟨B8, 0, none⟩)] W fun e w' => ∃ u w1, e = .returned (.tuple #[u, .int .i64 er]) ∧ w' = w1.setCell ⟨B8, 0, none⟩ (.slice ai n ci) ∧ R u w1 := by
  have c3 := cell_of (i := 0) h3 rfl
  have c8 := cell_of (i := 0) h8 rfl
  go_enter Try.func28, Try.ntmps28
  go_upto_region 2 with (go_at_fn g; refine con.mono ?_; rintro e w1 ⟨u, rfl, r1⟩)
  have h8' := (hR u w1 r1).trans h8
  have c8' := cell_of (i := 0) h8' rfl
  have z8 := frozen_of_row w1 B8 0 _ _ h8'
  clear con c3 c8 h8 h8' h3
  go_wp2_with fail
  exact bodyPost_ret (v := .tuple #[u, .int .i64 er]) (by simp [results, Try.results28, go_sem]) rfl ⟨u, w1, rfl, rfl, r1⟩

/-- What along asks of its function. -/
structure AlongOk (l : List (List Zp)) (E : Nat → Int) (Z : Nat → List Zp) (I : Nat → World → Prop) (J : World → Prop) (w0 : World) (lo g : Nat) (cb : Array Value) : Prop where
  eg : ∀ args w, (callFunc g args).run Try.prog w = .ok (.enter g args) w
  ij : ∀ k W, I k W → J W
  old : ∀ W, J W → Below w0.heap.size w0 W
  mv : ∀ k W W', I k W → Below lo W W' → KeepT W W' → I k W'
  mvJ : ∀ W W', J W → Below lo W W' → KeepT W W' → J W'
  st : ∀ (k : Nat) (h : k < l.length) (W : World) (aa : Option Addr) (ca : Nat) (ai : Option Addr) (ci : Nat), (∀ z ∈ l, wrongZ z = 0) → I k W → lo ≤ W.heap.size → ZsAt w0 aa (aheadL l k) → (aa = none → ca = 0) → ZsAt w0 ai l[k] → (ai = none → ci = 0) → Calls Try.prog g (#[.slice aa (aheadL l k).length ca, .slice ai l[k].length ci] ++ cb) W fun e w' => ∃ u, e = .returned (.tuple #[u, .int .i64 (E k)]) ∧ J w' ∧ Since lo W w' ∧ KeepT W w' ∧ (E k = 0 → OwnZ 0 w' u (Z k) ∧ I (k + 1) w')

/-- What lies in memory while along goes on. -/
structure AlI (l : List (List Zp)) (w0 : World) (B3 B5 B8 g : Nat) (cb : Array Value) (k : Nat) (W : World) : Prop where
  box : W.heap[B3]? = some (.cells #[.func (.func g) #[] cb] 36 (0, 0))
  res : W.heap[B5]? = some (.cells #[.int .i64 0, .int .i64 0] 27 (0, 0))
  var : ∃ aa ca, W.heap[B8]? = some (.cells #[.slice aa (aheadL l k).length ca] 34 (0, 0)) ∧ ZsAt w0 aa (aheadL l k) ∧ (aa = none → ca = 0)

theorem along_each {l : List (List Zp)} {E : Nat → Int} {Z : Nat → List Zp} {I : Nat → World → Prop} {J : World → Prop} {w0 : World} {lo g : Nat} {cb : Array Value} (ok : AlongOk l E Z I J w0 lo g cb) (hr : ∀ z ∈ l, wrongZ z = 0) {B3 B5 B8 lo2 : Nat} (h3 : lo ≤ B3) (h5 : lo ≤ B5) (h8 : lo ≤ B8) (l3 : B3 < lo2) (l5 : B5 < lo2) (l8 : B8 < lo2) (n35 : B5 ≠ B8) (n38 : B3 ≠ B8) :
    EachOk l E Z (fun k W => I k W ∧ AlI l w0 B3 B5 B8 g cb k W) (fun W => J W ∧ W.heap[B5]? = some (.cells #[.int .i64 0, .int .i64 0] 27 (0, 0))) w0 lo2 28 #[.pointer (some ⟨B3, 0, none⟩), .pointer (some ⟨B8, 0, none⟩)] := by
  have hlo : lo ≤ lo2 := by omega
  refine ⟨enters_of Try.func28 (by kernel_rfl) rfl, fun k W h => ⟨ok.ij k W h.1, h.2.res⟩, fun W h => ok.old W h.1, fun k W W' h hb hk => ⟨ok.mv k W W' h.1 (hb.mono hlo) hk, ?_⟩, fun W W' h hb hk => ⟨ok.mvJ W W' h.1 (hb.mono hlo) hk, (hb.block _ l5).trans h.2⟩, ?_⟩
  · obtain ⟨b, r, aa, ca, v1, v2, v3⟩ := h.2
    exact ⟨(hb.block _ l3).trans b, (hb.block _ l5).trans r, aa, ca, (hb.block _ l8).trans v1, v2, v3⟩
  · intro k hk W ai ci hI hl z n
    obtain ⟨hI, b, r, aa, ca, v1, v2, v3⟩ := hI
    have con := ok.st k hk W aa ca ai ci hr hI (by omega) v2 v3 z n
    refine (along2_at g cb ok.eg B3 B8 W aa ai _ ca _ ci (E k) (fun u w1 => J w1 ∧ Since lo W w1 ∧ KeepT W w1 ∧ (E k = 0 → OwnZ 0 w1 u (Z k) ∧ I (k + 1) w1)) b v1 (fun u w1 h => h.2.1.2 B8 h8 (lt_of_heap v1)) con).mono ?_
    rintro e w2 ⟨u, w1, rfl, rfl, j1, s1, k1, r1⟩
    have q8 := (s1.2 B8 h8 (lt_of_heap v1)).trans v1
    have q5 := (s1.2 B5 h5 (lt_of_heap r)).trans r
    have q3 := (s1.2 B3 h3 (lt_of_heap b)).trans b
    have p5 := (Below.heap_setCell w1 ⟨B8, 0, none⟩ (.slice ai l[k].length ci) B5 n35).trans q5
    have p3 := (Below.heap_setCell w1 ⟨B8, 0, none⟩ (.slice ai l[k].length ci) B3 n38).trans q3
    have p8 := heap_setCell_same w1 B8 0 _ _ (.slice ai l[k].length ci) q8
    have bb : Below lo w1 (w1.setCell ⟨B8, 0, none⟩ (.slice ai l[k].length ci)) := (Below.refl lo w1).setCell (p := ⟨B8, 0, none⟩) h8 _
    have kk : KeepT w1 (w1.setCell ⟨B8, 0, none⟩ (.slice ai l[k].length ci)) := (KeepT.refl w1).set q8 (by decide) (by decide) 0 _
    refine ⟨u, rfl, ⟨ok.mvJ _ _ j1 bb kk, p5⟩, (s1.up hlo).set B8 0 _ l8, k1.trans kk, fun h0 => ?_⟩
    obtain ⟨o1, i1⟩ := r1 h0
    have ea : aheadL l (k + 1) = l[k] := getD_at hk
    exact ⟨o1.keep kk, ok.mv _ _ _ i1 bb kk, p3, p5, ai, ci, by rw [ea]; exact p8, by rw [ea]; exact z, n⟩

set_option maxRecDepth 100000 in
set_option maxHeartbeats 4000000 in
theorem along_at (l : List (List Zp)) (E : Nat → Int) (Z : Nat → List Zp) (I : Nat → World → Prop) (J : World → Prop) (w0 w : World) (g : Nat) (cb : Array Value) (a : Option Addr) (cap : Nat) (hD : DtAt w0 a l) (h0 : I 0 w) (ok : AlongOk l E Z I J w0 w.heap.size g cb) :
    Calls Try.prog 16 #[.slice a l.length cap, .func (.func g) #[] cb] w fun e w' => ∃ v, e = .returned (.tuple #[v, .agg #[.int .i64 (alongF l E).1, .int .i64 (alongF l E).2]]) ∧ OwnL w.heap.size w' v (alongZ l E Z) ∧ J w' := by
  have b1 : Below w.heap.size w ((w.alloc (.cells #[.func (.func g) #[] cb] 36)).alloc (.cells #[.int .i64 0, .int .i64 0] 27)) := ((Below.refl _ _).alloc (Nat.le_refl _) _).alloc (by simp) _
  have q3 : ((w.alloc (.cells #[.func (.func g) #[] cb] 36)).alloc (.cells #[.int .i64 0, .int .i64 0] 27)).heap[w.heap.size]? = some (.cells #[.func (.func g) #[] cb] 36 (0, 0)) := by
    have h1 := heap_new w #[.func (.func g) #[] cb] 36
    have h2 : Below (w.alloc (.cells #[.func (.func g) #[] cb] 36)).heap.size _ ((w.alloc (.cells #[.func (.func g) #[] cb] 36)).alloc (.cells #[.int .i64 0, .int .i64 0] 27)) := (Below.refl _ _).alloc (Nat.le_refl _) _
    exact (h2.block _ (lt_of_heap h1)).trans h1
  have q5 := heap_new (w.alloc (.cells #[.func (.func g) #[] cb] 36)) #[.int .i64 0, .int .i64 0] 27
  have z1 : (w.alloc (.cells #[.func (.func g) #[] cb] 36)).heap.size = w.heap.size + 1 := by simp
  have z2 : ((w.alloc (.cells #[.func (.func g) #[] cb] 36)).alloc (.cells #[.int .i64 0, .int .i64 0] 27)).heap.size = w.heap.size + 2 := by simp
  rw [z1] at q5
  clear z1
  have I1 := ok.mv _ _ _ h0 b1 (KeepT.of b1)
  generalize hF : alongF l E = F
  generalize hZ : alongZ l E Z = zs
  have HF : Hid (alongF l E = F) := hF
  have HZ : Hid (alongZ l E Z = zs) := hZ
  have OK : Hid (AlongOk l E Z I J w0 w.heap.size g cb) := ok
  clear hF hZ ok
  go_enter Try.func16, Try.ntmps16
  go_upto_region 1 with fail
  generalize (w.alloc (.cells #[.func (.func g) #[] cb] 36)).alloc (.cells #[.int .i64 0, .int .i64 0] 27) = w1 at *
  have D1 : DtAt w1 a l := hD.next (OK.out.old _ (OK.out.ij _ _ I1))
  have con := each_at l (fun k => wrongZ (l.getD k [])) (fun _ => []) (fun _ W => Below w1.heap.size w1 W) (fun W => Below w1.heap.size w1 W) w1 w1 26 #[] a cap D1 (Below.refl _ _) ⟨enters_of Try.func26 (by kernel_rfl) rfl, fun _ _ h => h, fun _ h => h, fun _ _ _ h hb _ => h.trans hb, fun _ _ h hb _ => h.trans hb, fun k hk W ai ci hW _ z n => by
    rw [Array.append_empty]
    refine (along1_at ai ci l[k] W (z.next hW)).mono ?_
    rintro e w' ⟨rfl, hb⟩
    refine ⟨_, by rw [getD_at hk], chain hW hb, Since.of hb, KeepT.of hb, fun _ => ⟨own_nil _ _, chain hW hb⟩⟩⟩
  have HW : Hid (eachF l.length (fun k => wrongZ (l.getD k [])) = wrongsF l) := rfl
  rw [HW.out] at con
  go_wp2_with fail
  refine con.mono ?_
  rintro e w2 ⟨v2, rfl, O2, hb2⟩
  obtain ⟨a2, c2, rfl, _, _⟩ := O2.dt
  clear con O2 HW
  generalize hwf : wrongsF l = wf at *
  have HW : Hid (wrongsF l = wf) := hwf
  clear hwf
  obtain ⟨e1, e2⟩ := wf
  have Q8 := heap_new w2 #[.int .i64 e1, .int .i64 e2] 27
  have B8 : Below w1.heap.size w1 (w2.alloc (.cells #[.int .i64 e1, .int .i64 e2] 27)) := chain hb2 ((Below.refl _ _).alloc (Nat.le_refl _) _)
  go_upto_region 2 with fail
  generalize w2.alloc (.cells #[.int .i64 e1, .int .i64 e2] 27) = w4 at *
  have BW := b1.trans (B8.mono b1.size)
  have I4 := OK.out.mv _ _ _ I1 (B8.mono b1.size) (KeepT.of B8)
  have q35 := (B8.block _ (lt_of_heap q3)).trans q3
  have q55 := (B8.block _ (lt_of_heap q5)).trans q5
  have u0 := cell_of (i := 0) Q8 rfl
  have u1 := cell_of (i := 1) Q8 rfl
  have hz2 : w1.heap.size ≤ w2.heap.size := hb2.size
  by_cases hw : e1 = 0
  · have HWz : Hid (e1 = 0) := hw
    have ew : (wrongsF l).1 = 0 := by rw [HW.out]; exact hw
    have Hr : Hid (∀ z ∈ l, wrongZ z = 0) := (wrongs_ok ew).2
    have EF : Hid (F = eachF l.length E) := by show _ = _; rw [← HF.out]; unfold alongF; rw [if_pos ew]
    have EZ : Hid (zs = eachZ l.length E Z) := by show _ = _; rw [← HZ.out]; exact alongZ_each ew
    clear ew hw
    rw [HWz.out] at u0
    have b5 : Below w4.heap.size w4 (w4.alloc (.cells #[.slice none 0 0] 34)) := (Below.refl _ _).alloc (Nat.le_refl _) _
    have q8 := heap_new w4 #[.slice none 0 0] 34
    have hz4 := lt_of_heap Q8
    have hz5 : (w4.alloc (.cells #[.slice none 0 0] 34)).heap.size = w4.heap.size + 1 := by simp
    have A5 : AlI l w0 w.heap.size (w.heap.size + 1) w4.heap.size g cb 0 (w4.alloc (.cells #[.slice none 0 0] 34)) := ⟨(b5.block _ (lt_of_heap q35)).trans q35, (b5.block _ (lt_of_heap q55)).trans q55, none, 0, q8, ⟨Nat.zero_le _, .inl rfl⟩, fun _ => rfl⟩
    have I5 := OK.out.mv _ _ _ I4 (b5.mono BW.size) (KeepT.of b5)
    clear B8 I1 q3 q5 Q8 u1
    go_upto_region 5 with fail
    generalize w4.alloc (.cells #[.slice none 0 0] 34) = w5 at *
    have con := each_at l E Z _ _ w0 w5 28 #[.pointer (some ⟨w.heap.size, 0, none⟩), .pointer (some ⟨w4.heap.size, 0, none⟩)] a cap hD ⟨I5, A5⟩ (along_each OK.out Hr.out (B3 := w.heap.size) (B5 := w.heap.size + 1) (B8 := w4.heap.size) (lo2 := w5.heap.size) (by omega) (by omega) (by omega) (by omega) (by omega) (by omega) (by omega) (by omega))
    rw [← EF.out, ← EZ.out] at con
    clear HF HZ HW HWz EF EZ Hr
    go_wp2_with fail
    refine con.mono ?_
    rintro e w6 ⟨v6, rfl, O6, j6, q6⟩
    obtain ⟨f1, f2⟩ := F
    obtain ⟨a6, c6, rfl, _, _⟩ := O6.dt
    have x0 := cell_of (i := 0) q6 rfl
    have x1 := cell_of (i := 1) q6 rfl
    have y0 := frozen_of_row _ (w.heap.size + 1) 0 _ _ q6
    have y1 := frozen_of_row _ (w.heap.size + 1) 1 _ _ q6
    have Q9 := fset (x := .int .i64 f1) (y := .int .i64 f2) q6
    have K9 := fset_keep (x := .int .i64 f1) (y := .int .i64 f2) q6 (by decide) (by decide)
    have J9 : Hid (J _) := OK.out.mvJ _ _ j6 (fset_below (x := .int .i64 f1) (y := .int .i64 f2) (Nat.le_succ _)) K9
    have S9 : Since w5.heap.size w6 _ := fset_since (x := .int .i64 f1) (y := .int .i64 f2) (B := w.heap.size + 1) (by omega)
    have O9 : Hid (OwnL w.heap.size ((w6.setCell ⟨w.heap.size + 1, 0, none⟩ (.int .i64 f1)).setCell ⟨w.heap.size + 1, 1, none⟩ (.int .i64 f2)) (.slice a6 zs.length c6) zs) := (O6.move (Nat.le_refl _) S9 K9).mono (by omega)
    have g0 := cell_of (i := 0) Q9 rfl
    have g1 := cell_of (i := 1) Q9 rfl
    clear con Q9 K9 q6 O6 S9 j6 A5 I5
    go_wp2_with fail
    exact bodyPost_ret (v := .tuple #[.slice a6 zs.length c6, .agg #[.int .i64 f1, .int .i64 f2]]) (by simp [results, Try.results16, go_sem, g0, g1]) rfl ⟨_, rfl, O9.out, J9.out⟩
  · have hne : (e1 != 0) = true := by simpa using hw
    have ew : ¬ (wrongsF l).1 = 0 := by rw [HW.out]; exact hw
    have EF : F = (e1, e2) := by rw [← HF.out]; unfold alongF; rw [if_neg ew, HW.out]
    have EZ : zs = [] := by rw [← HZ.out]; unfold alongZ alongF; rw [if_neg]; rw [if_neg ew]; exact ew
    subst EF EZ
    clear ew hw
    have x0 := cell_of (i := 0) q55 rfl
    have x1 := cell_of (i := 1) q55 rfl
    have y0 := frozen_of_row _ (w.heap.size + 1) 0 _ _ q55
    have y1 := frozen_of_row _ (w.heap.size + 1) 1 _ _ q55
    have Q9 := fset (x := .int .i64 e1) (y := .int .i64 e2) q55
    have K9 := fset_keep (x := .int .i64 e1) (y := .int .i64 e2) q55 (by decide) (by decide)
    have J9 : Hid (J _) := OK.out.mvJ _ _ (OK.out.ij _ _ I4) (fset_below (x := .int .i64 e1) (y := .int .i64 e2) (Nat.le_succ _)).drew (K9.trans (KeepT.of ((Below.refl _ _).drew)))
    have g0 := cell_of (W := ((w4.setCell ⟨w.heap.size + 1, 0, none⟩ (.int .i64 e1)).setCell ⟨w.heap.size + 1, 1, none⟩ (.int .i64 e2)).drew) (i := 0) Q9 rfl
    have g1 := cell_of (W := ((w4.setCell ⟨w.heap.size + 1, 0, none⟩ (.int .i64 e1)).setCell ⟨w.heap.size + 1, 1, none⟩ (.int .i64 e2)).drew) (i := 1) Q9 rfl
    clear Q9 K9 q55 q35 Q8 I4 I1 q3 q5 B8
    go_upto_region 3 with fail
    go_region
    go_wp2_with fail
    exact bodyPost_ret (v := .tuple #[.slice none 0 0, .agg #[.int .i64 e1, .int .i64 e2]]) (by simp [results, Try.results16, go_sem, g0, g1]) rfl ⟨_, rfl, OwnL.nil _ _, J9.out⟩
end Go.Proofs.Ytibobmkelmalkaa
