/- The walks of streams.Integrate, streams.Differentiate and streams.Delay. -/
import Derived.Test.YtibobmkelmalkaaST3
namespace Go.Proofs.Ytibobmkelmalkaa
open Go.RowKit Go.Lib Go.Shelf

/-- What all up to a set are together. -/
def intS (l : List (List Zp)) : Nat → List Zp
  | 0 => []
  | k + 1 => bothZ 1 (intS l k) (l.getD k [])
def intE (l : List (List Zp)) (k : Nat) : Int := bothE 1 (intS l k) (l.getD k [])
def difE (l : List (List Zp)) (k : Nat) : Int := bothE (-1) (l.getD k []) (aheadL l k)
def difS (l : List (List Zp)) (k : Nat) : List Zp := bothZ (-1) (l.getD k []) (aheadL l k)
def delE (l : List (List Zp)) (k : Nat) : Int := gatherE (aheadL l k)
def delS (l : List (List Zp)) (k : Nat) : List Zp := gatherZ (aheadL l k)

set_option maxHeartbeats 1000000 in
theorem int1_at (B4 : Nat) (W : World) (aa ai az : Option Addr) (na ca ci cs : Nat) (s z : List Zp) (hq : W.heap[B4]? = some (.cells #[.slice az s.length cs] 34 (0, 0))) (hs : ZsAt W az s) (ns : az = none → cs = 0) (hz : ZsAt W ai z) :
    Calls Try.prog 17 #[.slice aa na ca, .slice ai z.length ci, .pointer (some ⟨B4, 0, none⟩)] W fun e w' => ∃ a c w1, e = .returned (.tuple #[.slice a (bothZ 1 s z).length c, .int .i64 (bothE 1 s z)]) ∧ w' = w1.setCell ⟨B4, 0, none⟩ (.slice a (bothZ 1 s z).length c) ∧ Below W.heap.size W w1 ∧ OwnZ 0 w1 (.slice a (bothZ 1 s z).length c) (bothZ 1 s z) := by
  have c0 := cell_of (i := 0) hq rfl
  have con := add_at az ai cs ci s z W hs hz ns
  generalize bothZ 1 s z = x at *
  generalize bothE 1 s z = er at *
  go_enter Try.func17, Try.ntmps17
  go_wp2_with fail
  refine con.mono ?_
  rintro e w1 ⟨v, rfl, O1, hb⟩
  obtain ⟨a1, c1, rfl, _, _⟩ := O1.zs2
  have h1 := (hb.block _ (lt_of_heap hq)).trans hq
  have c1' := cell_of (i := 0) h1 rfl
  have z1 := frozen_of_row w1 B4 0 _ _ h1
  have c2 := cell_of (i := 0) (heap_setCell_same w1 B4 0 _ _ (.slice a1 x.length c1) h1) rfl
  have O2 := O1.mono (Nat.zero_le _)
  clear con hq hs hz c0 h1 O1
  go_wp2_with fail
  exact bodyPost_ret (v := .tuple #[.slice a1 x.length c1, .int .i64 er]) (by simp [results, Try.results17, go_sem]) rfl ⟨a1, c1, w1, rfl, rfl, hb, O2⟩

set_option maxHeartbeats 1000000 in
theorem dif1_at (W : World) (aa ai : Option Addr) (ca ci : Nat) (y z : List Zp) (hy : ZsAt W aa y) (hz : ZsAt W ai z) (n : ai = none → ci = 0) :
    Calls Try.prog 18 #[.slice aa y.length ca, .slice ai z.length ci] W fun e w' => ∃ v, e = .returned (.tuple #[v, .int .i64 (bothE (-1) z y)]) ∧ OwnZ 0 w' v (bothZ (-1) z y) ∧ Below W.heap.size W w' := by
  have con := sub_at ai aa ci ca z y W hz hy n
  generalize bothZ (-1) z y = x at *
  generalize bothE (-1) z y = er at *
  go_enter Try.func18, Try.ntmps18
  go_wp2_with fail
  refine con.mono ?_
  rintro e w1 ⟨v, rfl, O1, hb⟩
  obtain ⟨a1, c1, rfl, _, _⟩ := O1.zs2
  have O2 := O1.mono (Nat.zero_le _)
  clear con hy hz O1
  go_wp2_with fail
  exact bodyPost_ret (v := .tuple #[.slice a1 x.length c1, .int .i64 er]) (by simp [results, Try.results18, go_sem]) rfl ⟨_, rfl, O2, hb⟩

set_option maxHeartbeats 1000000 in
theorem del1_at (W : World) (aa ai : Option Addr) (ca ni ci : Nat) (y : List Zp) (hy : ZsAt W aa y) (hr : wrongZ y = 0) :
    Calls Try.prog 19 #[.slice aa y.length ca, .slice ai ni ci] W fun e w' => ∃ v, e = .returned (.tuple #[v, .int .i64 (gatherE y)]) ∧ OwnZ 0 w' v (gatherZ y) ∧ Below W.heap.size W w' := by
  have hok := (wrongZ_iff y).1 hr
  have con := gathered_at aa ca y W hy (by have := hok.1; omega) (fun x hx => inW_big (hok.2.1 x hx).2.2) (fun x hx => ((wrongRowF_zero _).1 (hok.2.1 x hx).1).1)
  clear hok hr
  generalize gatherZ y = x at *
  generalize gatherE y = er at *
  go_enter Try.func19, Try.ntmps19
  go_wp2_with fail
  refine con.mono ?_
  rintro e w1 ⟨v, rfl, O1, hb⟩
  obtain ⟨a1, c1, rfl, _, _⟩ := O1.zs2
  have O2 := O1.mono (Nat.zero_le _)
  clear con hy O1
  go_wp2_with fail
  exact bodyPost_ret (v := .tuple #[.slice a1 x.length c1, .int .i64 er]) (by simp [results, Try.results19, go_sem]) rfl ⟨_, rfl, O2, hb⟩

/-- The old world, and the place of the answer's fault. -/
def StJ (w0 : World) (B3 : Nat) (W : World) : Prop := Below w0.heap.size w0 W ∧ W.heap[B3]? = some (.cells #[.int .i64 0, .int .i64 0] 27 (0, 0))
theorem StJ.mv {w0 W W' : World} {B3 lo : Nat} (h : StJ w0 B3 W) (hb : Below lo W W') (h0 : w0.heap.size ≤ lo) (h3 : B3 < lo) : StJ w0 B3 W' := ⟨h.1.trans (hb.mono h0), (hb.block _ h3).trans h.2⟩
theorem ahead_right {l : List (List Zp)} (h : ∀ z ∈ l, wrongZ z = 0) (k : Nat) : wrongZ (aheadL l k) = 0 := by
  cases k with
  | zero => rfl
  | succ k =>
    show wrongZ (l.getD k []) = 0
    by_cases e : k < l.length
    · rw [getD_at e]; exact h _ (List.getElem_mem e)
    · rw [List.getD_eq_getElem?_getD, List.getElem?_eq_none (by omega)]; rfl

set_option maxRecDepth 100000 in
set_option maxHeartbeats 2000000 in
theorem integrate_at (l : List (List Zp)) (a : Option Addr) (cap : Nat) (w : World) (hD : DtAt w a l) :
    Calls Try.prog 6 #[.slice a l.length cap] w fun e w' => ∃ v, e = .returned (.tuple #[v, .agg #[.int .i64 (alongF l (intE l)).1, .int .i64 (alongF l (intE l)).2]]) ∧ OwnL w.heap.size w' v (alongZ l (intE l) (fun k => intS l (k + 1))) ∧ Below w.heap.size w w' := by
  generalize hF : alongF l (intE l) = F
  generalize hZ : alongZ l (intE l) (fun k => intS l (k + 1)) = zs
  have HF : Hid (alongF l (intE l) = F) := hF
  have HZ : Hid (alongZ l (intE l) (fun k => intS l (k + 1)) = zs) := hZ
  clear hF hZ
  have b1 : Below w.heap.size w ((w.alloc (.cells #[.int .i64 0, .int .i64 0] 27)).alloc (.cells #[.slice none 0 0] 34)) := ((Below.refl _ _).alloc (Nat.le_refl _) _).alloc (by simp) _
  have z0 : (w.alloc (.cells #[.int .i64 0, .int .i64 0] 27)).heap.size = w.heap.size + 1 := by simp
  have z1 : ((w.alloc (.cells #[.int .i64 0, .int .i64 0] 27)).alloc (.cells #[.slice none 0 0] 34)).heap.size = w.heap.size + 2 := by simp
  have q3 : ((w.alloc (.cells #[.int .i64 0, .int .i64 0] 27)).alloc (.cells #[.slice none 0 0] 34)).heap[w.heap.size]? = some (.cells #[.int .i64 0, .int .i64 0] 27 (0, 0)) := by
    have h1 := heap_new w #[.int .i64 0, .int .i64 0] 27
    have h2 : Below (w.alloc (.cells #[.int .i64 0, .int .i64 0] 27)).heap.size _ ((w.alloc (.cells #[.int .i64 0, .int .i64 0] 27)).alloc (.cells #[.slice none 0 0] 34)) := (Below.refl _ _).alloc (Nat.le_refl _) _
    exact (h2.block _ (lt_of_heap h1)).trans h1
  have q4 := heap_new (w.alloc (.cells #[.int .i64 0, .int .i64 0] 27)) #[.slice none 0 0] 34
  rw [z0] at q4
  clear z0
  go_enter Try.func6, Try.ntmps6
  go_upto_region 2 with fail
  generalize (w.alloc (.cells #[.int .i64 0, .int .i64 0] 27)).alloc (.cells #[.slice none 0 0] 34) = w1 at *
  have con := along_at l (intE l) (fun k => intS l (k + 1)) (fun k W => StJ w w.heap.size W ∧ ∃ az cs, W.heap[w.heap.size + 1]? = some (.cells #[.slice az (intS l k).length cs] 34 (0, 0)) ∧ OwnZ 0 W (.slice az (intS l k).length cs) (intS l k)) (StJ w w.heap.size) w w1 17 #[.pointer (some ⟨w.heap.size + 1, 0, none⟩)] a cap hD ⟨⟨b1, q3⟩, none, 0, q4, own_nil _ _⟩ ⟨enters_of Try.func17 (by kernel_rfl) rfl, fun _ _ h => h.1, fun _ h => h.1, fun k W W' h hb hk => ⟨h.1.mv hb (by omega) (by omega), by
      obtain ⟨_, az, cs, h1, h2⟩ := h
      exact ⟨az, cs, (hb.block _ (by omega)).trans h1, h2.keep hk⟩⟩, fun W W' h hb _ => h.mv hb (by omega) (by omega), fun k hk W aa ca ai ci _ hI hl za na zi ni => by
      obtain ⟨hJ, az, cs, h1, h2⟩ := hI
      obtain ⟨a', c', e', zs, ns⟩ := h2.zs2
      injection e' with e1 _ e2
      subst e1 e2
      refine (int1_at (w.heap.size + 1) W aa ai az _ ca ci cs (intS l k) l[k] h1 zs ns (zi.next hJ.1)).mono ?_
      rintro e w' ⟨a2, c2, w2, rfl, rfl, hb, O2⟩
      have q := (hb.block _ (lt_of_heap h1)).trans h1
      have kk := (KeepT.of hb).set q (by decide) (by decide) 0 (.slice a2 (bothZ 1 (intS l k) l[k]).length c2)
      have kk2 := (KeepT.refl w2).set q (by decide) (by decide) 0 (.slice a2 (bothZ 1 (intS l k) l[k]).length c2)
      have eE : intE l k = bothE 1 (intS l k) l[k] := by unfold intE; rw [getD_at hk]
      have eS : intS l (k + 1) = bothZ 1 (intS l k) l[k] := by show bothZ 1 _ (l.getD k []) = _; rw [getD_at hk]
      have j2 : StJ w w.heap.size (w2.setCell ⟨w.heap.size + 1, 0, none⟩ (.slice a2 (bothZ 1 (intS l k) l[k]).length c2)) := (hJ.mv (lo := w.heap.size + 1) ((hb.mono (show w.heap.size + 1 ≤ W.heap.size by omega)).setCell (p := ⟨w.heap.size + 1, 0, none⟩) (Nat.le_refl _) _) (by omega) (by omega))
      refine ⟨_, by rw [eE], j2, (Since.of hb).set _ _ _ (by omega), kk, fun _ => ⟨by rw [eS]; exact O2.keep kk2, j2, a2, c2, by rw [eS]; exact heap_setCell_same w2 (w.heap.size + 1) 0 _ _ _ q, by rw [eS]; exact O2.keep kk2⟩⟩⟩
  rw [HF.out, HZ.out] at con
  clear HF HZ
  go_wp2_with fail
  refine con.mono ?_
  rintro e w6 ⟨v6, rfl, O6, hb6, q6⟩
  clear con
  obtain ⟨f1, f2⟩ := F
  obtain ⟨a6, c6, rfl, _, _⟩ := O6.dt
  have x0 := cell_of (i := 0) q6 rfl
  have x1 := cell_of (i := 1) q6 rfl
  have y0 := frozen_of_row _ w.heap.size 0 _ _ q6
  have y1 := frozen_of_row _ w.heap.size 1 _ _ q6
  have Q9 := fset (x := .int .i64 f1) (y := .int .i64 f2) q6
  have K9 := fset_keep (x := .int .i64 f1) (y := .int .i64 f2) q6 (by decide) (by decide)
  have S9 : Since w1.heap.size w6 _ := fset_since (x := .int .i64 f1) (y := .int .i64 f2) (B := w.heap.size) (by omega)
  have O9 : Hid (OwnL w.heap.size ((w6.setCell ⟨w.heap.size, 0, none⟩ (.int .i64 f1)).setCell ⟨w.heap.size, 1, none⟩ (.int .i64 f2)) (.slice a6 zs.length c6) zs) := (O6.move (Nat.le_refl _) S9 K9).mono (by omega)
  have hb9 := hb6.trans (fset_below (B := w.heap.size) (x := .int .i64 f1) (y := .int .i64 f2) (Nat.le_refl _))
  have g0 := cell_of (i := 0) Q9 rfl
  have g1 := cell_of (i := 1) Q9 rfl
  clear Q9 K9 q6 O6 S9 hb6
  go_wp2_with fail
  exact bodyPost_ret (v := .tuple #[.slice a6 zs.length c6, .agg #[.int .i64 f1, .int .i64 f2]]) (by simp [results, Try.results6, go_sem, g0, g1]) rfl ⟨_, rfl, O9.out, hb9⟩

set_option maxRecDepth 100000 in
set_option maxHeartbeats 2000000 in
theorem differentiate_at (l : List (List Zp)) (a : Option Addr) (cap : Nat) (w : World) (hD : DtAt w a l) :
    Calls Try.prog 7 #[.slice a l.length cap] w fun e w' => ∃ v, e = .returned (.tuple #[v, .agg #[.int .i64 (alongF l (difE l)).1, .int .i64 (alongF l (difE l)).2]]) ∧ OwnL w.heap.size w' v (alongZ l (difE l) (difS l)) ∧ Below w.heap.size w w' := by
  generalize hF : alongF l (difE l) = F
  generalize hZ : alongZ l (difE l) (difS l) = zs
  have HF : Hid (alongF l (difE l) = F) := hF
  have HZ : Hid (alongZ l (difE l) (difS l) = zs) := hZ
  clear hF hZ
  have b1 : Below w.heap.size w (w.alloc (.cells #[.int .i64 0, .int .i64 0] 27)) := (Below.refl _ _).alloc (Nat.le_refl _) _
  have z1 : (w.alloc (.cells #[.int .i64 0, .int .i64 0] 27)).heap.size = w.heap.size + 1 := by simp
  have q3 := heap_new w #[.int .i64 0, .int .i64 0] 27
  go_enter Try.func7, Try.ntmps7
  go_upto_region 1 with fail
  generalize w.alloc (.cells #[.int .i64 0, .int .i64 0] 27) = w1 at *
  have con := along_at l (difE l) (difS l) (fun k W => StJ w w.heap.size W) (StJ w w.heap.size) w w1 18 #[] a cap hD ⟨b1, q3⟩ ⟨enters_of Try.func18 (by kernel_rfl) rfl, fun _ _ h => h, fun _ h => h.1, fun k W W' h hb _ => h.mv hb (by omega) (by omega), fun W W' h hb _ => h.mv hb (by omega) (by omega), fun k hk W aa ca ai ci hr hI hl za na zi ni => by
      rw [Array.append_empty]
      refine (dif1_at W aa ai ca ci (aheadL l k) l[k] (za.next hI.1) (zi.next hI.1) ni).mono ?_
      rintro e w' ⟨v, rfl, O2, hb⟩
      have eE : difE l k = bothE (-1) l[k] (aheadL l k) := by unfold difE; rw [getD_at hk]
      have eS : difS l k = bothZ (-1) l[k] (aheadL l k) := by unfold difS; rw [getD_at hk]
      have hlW := hI.1.size
      have j2 : StJ w w.heap.size w' := hI.mv hb hlW (by omega)
      refine ⟨v, by rw [eE], j2, Since.of hb, KeepT.of hb, fun _ => ⟨by rw [eS]; exact O2, j2⟩⟩⟩
  rw [HF.out, HZ.out] at con
  clear HF HZ
  go_wp2_with fail
  refine con.mono ?_
  rintro e w6 ⟨v6, rfl, O6, hb6, q6⟩
  clear con
  obtain ⟨f1, f2⟩ := F
  obtain ⟨a6, c6, rfl, _, _⟩ := O6.dt
  have x0 := cell_of (i := 0) q6 rfl
  have x1 := cell_of (i := 1) q6 rfl
  have y0 := frozen_of_row _ w.heap.size 0 _ _ q6
  have y1 := frozen_of_row _ w.heap.size 1 _ _ q6
  have Q9 := fset (x := .int .i64 f1) (y := .int .i64 f2) q6
  have K9 := fset_keep (x := .int .i64 f1) (y := .int .i64 f2) q6 (by decide) (by decide)
  have S9 : Since w1.heap.size w6 _ := fset_since (x := .int .i64 f1) (y := .int .i64 f2) (B := w.heap.size) (by omega)
  have O9 : Hid (OwnL w.heap.size ((w6.setCell ⟨w.heap.size, 0, none⟩ (.int .i64 f1)).setCell ⟨w.heap.size, 1, none⟩ (.int .i64 f2)) (.slice a6 zs.length c6) zs) := (O6.move (Nat.le_refl _) S9 K9).mono (by omega)
  have hb9 := hb6.trans (fset_below (B := w.heap.size) (x := .int .i64 f1) (y := .int .i64 f2) (Nat.le_refl _))
  have g0 := cell_of (i := 0) Q9 rfl
  have g1 := cell_of (i := 1) Q9 rfl
  clear Q9 K9 q6 O6 S9 hb6
  go_wp2_with fail
  exact bodyPost_ret (v := .tuple #[.slice a6 zs.length c6, .agg #[.int .i64 f1, .int .i64 f2]]) (by simp [results, Try.results7, go_sem, g0, g1]) rfl ⟨_, rfl, O9.out, hb9⟩

set_option maxRecDepth 100000 in
set_option maxHeartbeats 2000000 in
theorem delay_at (l : List (List Zp)) (a : Option Addr) (cap : Nat) (w : World) (hD : DtAt w a l) :
    Calls Try.prog 8 #[.slice a l.length cap] w fun e w' => ∃ v, e = .returned (.tuple #[v, .agg #[.int .i64 (alongF l (delE l)).1, .int .i64 (alongF l (delE l)).2]]) ∧ OwnL w.heap.size w' v (alongZ l (delE l) (delS l)) ∧ Below w.heap.size w w' := by
  generalize hF : alongF l (delE l) = F
  generalize hZ : alongZ l (delE l) (delS l) = zs
  have HF : Hid (alongF l (delE l) = F) := hF
  have HZ : Hid (alongZ l (delE l) (delS l) = zs) := hZ
  clear hF hZ
  have b1 : Below w.heap.size w (w.alloc (.cells #[.int .i64 0, .int .i64 0] 27)) := (Below.refl _ _).alloc (Nat.le_refl _) _
  have z1 : (w.alloc (.cells #[.int .i64 0, .int .i64 0] 27)).heap.size = w.heap.size + 1 := by simp
  have q3 := heap_new w #[.int .i64 0, .int .i64 0] 27
  go_enter Try.func8, Try.ntmps8
  go_upto_region 1 with fail
  generalize w.alloc (.cells #[.int .i64 0, .int .i64 0] 27) = w1 at *
  have con := along_at l (delE l) (delS l) (fun k W => StJ w w.heap.size W) (StJ w w.heap.size) w w1 19 #[] a cap hD ⟨b1, q3⟩ ⟨enters_of Try.func19 (by kernel_rfl) rfl, fun _ _ h => h, fun _ h => h.1, fun k W W' h hb _ => h.mv hb (by omega) (by omega), fun W W' h hb _ => h.mv hb (by omega) (by omega), fun k hk W aa ca ai ci hr hI hl za na zi ni => by
      rw [Array.append_empty]
      refine (del1_at W aa ai ca _ ci (aheadL l k) (za.next hI.1) (ahead_right hr k)).mono ?_
      rintro e w' ⟨v, rfl, O2, hb⟩
      have eE : delE l k = gatherE (aheadL l k) := rfl
      have eS : delS l k = gatherZ (aheadL l k) := rfl
      have hlW := hI.1.size
      have j2 : StJ w w.heap.size w' := hI.mv hb hlW (by omega)
      refine ⟨v, by rw [eE], j2, Since.of hb, KeepT.of hb, fun _ => ⟨by rw [eS]; exact O2, j2⟩⟩⟩
  rw [HF.out, HZ.out] at con
  clear HF HZ
  go_wp2_with fail
  refine con.mono ?_
  rintro e w6 ⟨v6, rfl, O6, hb6, q6⟩
  clear con
  obtain ⟨f1, f2⟩ := F
  obtain ⟨a6, c6, rfl, _, _⟩ := O6.dt
  have x0 := cell_of (i := 0) q6 rfl
  have x1 := cell_of (i := 1) q6 rfl
  have y0 := frozen_of_row _ w.heap.size 0 _ _ q6
  have y1 := frozen_of_row _ w.heap.size 1 _ _ q6
  have Q9 := fset (x := .int .i64 f1) (y := .int .i64 f2) q6
  have K9 := fset_keep (x := .int .i64 f1) (y := .int .i64 f2) q6 (by decide) (by decide)
  have S9 : Since w1.heap.size w6 _ := fset_since (x := .int .i64 f1) (y := .int .i64 f2) (B := w.heap.size) (by omega)
  have O9 : Hid (OwnL w.heap.size ((w6.setCell ⟨w.heap.size, 0, none⟩ (.int .i64 f1)).setCell ⟨w.heap.size, 1, none⟩ (.int .i64 f2)) (.slice a6 zs.length c6) zs) := (O6.move (Nat.le_refl _) S9 K9).mono (by omega)
  have hb9 := hb6.trans (fset_below (B := w.heap.size) (x := .int .i64 f1) (y := .int .i64 f2) (Nat.le_refl _))
  have g0 := cell_of (i := 0) Q9 rfl
  have g1 := cell_of (i := 1) Q9 rfl
  clear Q9 K9 q6 O6 S9 hb6
  go_wp2_with fail
  exact bodyPost_ret (v := .tuple #[.slice a6 zs.length c6, .agg #[.int .i64 f1, .int .i64 f2]]) (by simp [results, Try.results8, go_sem, g0, g1]) rfl ⟨_, rfl, O9.out, hb9⟩
end Go.Proofs.Ytibobmkelmalkaa
