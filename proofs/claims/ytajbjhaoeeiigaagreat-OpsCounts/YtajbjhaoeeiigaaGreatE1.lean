/- Together: G6, G7, G8, EOpen. -/
import Derived.SizedLaws
import Derived.Test.YtajbjhaoeeiigaaGreatE0
import Derived.Test.YtajbjhaoeeiigaaGreatB9
/- Aggregates: the walk. -/
namespace Go.Proofs.YtajbjhaoeeiigaaGreat
open Go.RowKit Go.Lib Go.Shelf

set_option maxRecDepth 100000 in
set_option maxHeartbeats 2000000 in
theorem measuredBad_at (cols : List Int) (g : Ag) (ca : Option Addr) (ccap : Nat) (a : Option Addr) (cap : Nat) (w : World) (hk : KsAt w.heap.size w a g.2.ks) (hc : IsAt w.heap.size w ca cols) (h : ¬ measE cols g = 0) :
    Calls Tryz.prog 56 #[.slice ca cols.length ccap, .agg #[.int .i64 g.1, .int .i64 g.2.k, .int .i64 g.2.v.1, .int .i64 g.2.v.2.1, .string g.2.v.2.2, .int .i64 g.2.c, .slice a g.2.ks.length cap]] w fun e w' => e = .returned (.tuple #[.nilFunc, .int .i64 (measE cols g)]) ∧ Below w.heap.size w w' := by
  have hal : Below w.heap.size w (w.alloc (.cells #[.int .i64 g.1, .int .i64 g.2.k, .int .i64 g.2.v.1, .int .i64 g.2.v.2.1, .string g.2.v.2.2, .int .i64 g.2.c, .slice a g.2.ks.length cap] 34)) := (Below.refl _ _).alloc (Nat.le_refl _) _
  have q0 := heap_new w #[.int .i64 g.1, .int .i64 g.2.k, .int .i64 g.2.v.1, .int .i64 g.2.v.2.1, .string g.2.v.2.2, .int .i64 g.2.c, .slice a g.2.ks.length cap] 34
  have h1 : ¬ g.1 = 1 := fun h1 => h (by unfold measE; rw [if_pos h1])
  generalize hme : measE cols g = me at *
  have HM : Hid (measE cols g = me) := hme
  clear hme
  by_cases h2 : g.1 < 2 ∨ 5 < g.1
  · have e : me = 1 := by rw [← HM.out]; unfold measE; rw [if_neg h1, if_pos h2]
    subst e
    have n1 : (g.1 == 1) = false := by simpa using h1
    have n2 : (g.1 == 2) = false := by simp; omega
    have n3 : (g.1 == 3) = false := by simp; omega
    have n4 : (g.1 == 4) = false := by simp; omega
    have n5 : (g.1 == 5) = false := by simp; omega
    clear h h1 h2
    go_enter Tryz.func56, Tryz.ntmps56
    go_wp2_with fail
    exact bodyPost_ret (v := .tuple #[.nilFunc, .int .i64 1]) (by simp [results, Tryz.results56, go_sem]) rfl ⟨rfl, hal⟩
  · have hk4 : g.1 = 2 ∨ g.1 = 3 ∨ g.1 = 4 ∨ g.1 = 5 := by omega
    by_cases h3 : (typeTop cols g.2).2 = 0
    · have e3 : g.1 = 3 ∧ (typeTop cols g.2).1 ≠ 3 ∧ (typeTop cols g.2).1 ≠ 1 := Classical.byContradiction fun hn => by
        have := HM.out
        unfold measE at this
        rw [if_neg h1, if_neg h2, if_neg (by simpa using h3), if_neg hn] at this
        exact h this.symm
      have e9 : me = 9 := by rw [← HM.out]; unfold measE; rw [if_neg h1, if_neg h2, if_neg (by simpa using h3), if_pos e3]
      subst e9
      have con := readyOk_at cols g.2 ca ccap a cap _ ((KsAt.next hal (Nat.le_refl _) hk).up hal.size) ((hc.next hal (Nat.le_refl _)).up hal.size) h3
      obtain ⟨e31, e32, e33⟩ := e3
      generalize (typeTop cols g.2).1 = t at *
      unfold exV at con
      go_enter Tryz.func56, Tryz.ntmps56
      clear h h1 h2 h3 hk4
      generalize hk1 : g.1 = kd at *
      clear hk1
      subst e31
      have t3 : (t != 3) = true := by simpa using e32
      have t1 : (t != 1) = true := by simpa using e33
      clear e32 e33
      go_wp2_with fail
      generalize w.alloc (.cells #[.int .i64 3, .int .i64 g.2.k, .int .i64 g.2.v.1, .int .i64 g.2.v.2.1, .string g.2.v.2.2, .int .i64 g.2.c, .slice a g.2.ks.length cap] 34) = w1 at *
      refine con.mono ?_
      rintro e w2 ⟨u, rfl, hA2, hb2⟩
      have hA := chain hal hb2
      have q2 := (hb2.block _ (lt_of_heap q0)).trans q0
      have c0 : w2.cell? ⟨w.heap.size, 0, none⟩ = some (.int .i64 3) := cell_of (i := 0) q2 rfl
      clear con
      obtain ⟨g', cb, rfl⟩ : ∃ g' cb, u = .func (.func g') #[] cb := by obtain ⟨g', cb, e, _⟩ := hA2; exact ⟨g', cb, e⟩
      dsimp only
      go_wp2_with fail
      exact bodyPost_ret (v := .tuple #[.nilFunc, .int .i64 9]) (by simp [results, Tryz.results56, go_sem]) rfl ⟨rfl, hA⟩
    · have con := readyBad_at cols g.2 ca ccap a cap _ ((KsAt.next hal (Nat.le_refl _) hk).up hal.size) ((hc.next hal (Nat.le_refl _)).up hal.size) h3
      have em : me = (typeTop cols g.2).2 := by rw [← HM.out]; unfold measE; rw [if_neg h1, if_neg h2, if_pos h3]
      have hne : (me != 0) = true := by simpa using h
      rw [← em] at con
      unfold exV at con
      go_enter Tryz.func56, Tryz.ntmps56
      clear h h1 h2 h3 em HM
      generalize hk1 : g.1 = kd at *
      clear hk1
      rcases hk4 with rfl | rfl | rfl | rfl
      all_goals (
        go_wp2_with fail
        generalize w.alloc (.cells #[_, .int .i64 g.2.k, .int .i64 g.2.v.1, .int .i64 g.2.v.2.1, .string g.2.v.2.2, .int .i64 g.2.c, .slice a g.2.ks.length cap] 34) = w1 at *
        refine con.mono ?_
        rintro e w2 ⟨rfl, hb2⟩
        have hA := chain hal hb2
        clear con
        dsimp only
        go_wp2_with fail
        exact bodyPost_ret (v := .tuple #[.nilFunc, .int .i64 me]) (by simp [results, Tryz.results56, go_sem]) rfl ⟨rfl, hA⟩)

/-- totalOf makes what it should of a kind. -/
def TotalOk (k : Int) : Prop := ∀ w, Calls Tryz.prog 57 #[.int .i64 k] w fun e w' => ∃ u, e = .returned u ∧ TotF w.heap.size u (totP k) w' ∧ Below w.heap.size w w'
theorem count_tot (lo : Nat) (w : World) : TotF lo (.func (.func 95) #[] #[]) countP w :=
  ⟨95, #[], rfl, enters_of Tryz.func95 (by kernel_rfl) rfl, fun l a cap W hk hs _ => by simpa using count_at a cap l W hs hk⟩
set_option maxHeartbeats 400000 in
theorem totalC_ok (k : Int) (h3 : ¬ k = 3) (h4 : ¬ k = 4) (h5 : ¬ k = 5) : TotalOk k := by
  intro w
  have eT : totP k = countP := by funext l; unfold totP; rw [if_neg h3, if_neg h4, if_neg h5]
  rw [eT]
  have n3 : (k == 3) = false := by simpa using h3
  have n4 : (k == 4) = false := by simpa using h4
  have n5 : (k == 5) = false := by simpa using h5
  clear h3 h4 h5 eT
  go_enter Tryz.func57, Tryz.ntmps57
  go_wp2_with fail
  go_ret
  exact ⟨_, rfl, count_tot _ _, Below.refl _ _⟩

theorem make_rfuncs {n : Nat} (h : n ≤ 8) (w : World) : (Instr.makeSlice 114 (.int .i64 n) (.int .i64 n)).run Tryz.prog w = .ok (.slice (some ⟨w.heap.size, 0, none⟩) n n) (w.alloc (.cells (Array.replicate n Value.nilFunc) 121)) := by
  obtain rfl | rfl | rfl | rfl | rfl | rfl | rfl | rfl | rfl : n = 0 ∨ n = 1 ∨ n = 2 ∨ n = 3 ∨ n = 4 ∨ n = 5 ∨ n = 6 ∨ n = 7 ∨ n = 8 := by omega
  all_goals kernel_rfl
/-- Functions of rows in a slice in a variable, the first j of them made. -/
structure RTo (cols : List Int) (K kb M : Nat) (W : World) (Fs : List (List Zp → Vl)) (j : Nat) : Prop where
  lt : K < M ∧ kb < M ∧ K ≠ kb ∧ M ≤ W.heap.size
  box : W.cell? ⟨kb, 0, none⟩ = some (.slice (some ⟨K, 0, none⟩) Fs.length Fs.length)
  room : ∀ i, i < Fs.length → (∃ u, W.cell? ⟨K, i, none⟩ = some u) ∧ W.frozen? ⟨K, i, none⟩ = false
  done : ∀ i (h : i < Fs.length), i < j → ∃ u, W.cell? ⟨K, i, none⟩ = some u ∧ RowsF cols M u Fs[i] W
theorem RTo.next {cols : List Int} {K kb M : Nat} {W w1 : World} {Fs : List (List Zp → Vl)} {j : Nat} (h : RTo cols K kb M W Fs j) (hb : Below W.heap.size W w1) : RTo cols K kb M w1 Fs j := by
  obtain ⟨h1, h2, h3, h4⟩ := h
  have z := hb.size
  refine ⟨⟨h1.1, h1.2.1, h1.2.2.1, by omega⟩, (hb.cell (p := ⟨kb, 0, none⟩) (by show kb < _; omega)).trans h2, fun i hi => ?_, fun i hi hj => ?_⟩
  · obtain ⟨⟨u, hu⟩, hf⟩ := h3 i hi
    exact ⟨⟨u, (hb.cell (p := ⟨K, i, none⟩) (by show K < _; omega)).trans hu⟩, (hb.frozen (p := ⟨K, i, none⟩) (by show K < _; omega)).trans hf⟩
  · obtain ⟨u, hu, ha⟩ := h4 i hi hj
    exact ⟨u, (hb.cell (p := ⟨K, i, none⟩) (by show K < _; omega)).trans hu, ha.next (Since.of hb)⟩
theorem RTo.store {cols : List Int} {K kb M : Nat} {W : World} {Fs : List (List Zp → Vl)} {j : Nat} (h : RTo cols K kb M W Fs j) (hj : j < Fs.length) {u : Value} (ha : RowsF cols M u Fs[j] W) : RTo cols K kb M (W.setCell ⟨K, j, none⟩ u) Fs (j + 1) := by
  obtain ⟨h1, h2, h3, h4⟩ := h
  have hS : Since M W (W.setCell ⟨K, j, none⟩ u) := (Since.refl M W).set K j u (by omega)
  have same : (W.setCell ⟨K, j, none⟩ u).cell? ⟨K, j, none⟩ = some u := World.cell?_setCell_same' _ _ _ (by obtain ⟨⟨u', hu⟩, _⟩ := h3 j hj; rw [hu]; rfl)
  refine ⟨⟨h1.1, h1.2.1, h1.2.2.1, by simpa using h1.2.2.2⟩, ?_, fun i hi => ?_, fun i hi hij => ?_⟩
  · rw [World.cell?_setCell_other _ _ _ _ (by intro e; injection e with e; omega)]; exact h2
  · obtain ⟨⟨u', hu⟩, hf⟩ := h3 i hi
    refine ⟨?_, by rw [World.frozen?_setCell]; exact hf⟩
    by_cases e : i = j
    · subst e; exact ⟨_, same⟩
    · exact ⟨u', by rw [World.cell?_setCell_other _ _ _ _ (by intro e; injection e with _ e; omega)]; exact hu⟩
  · by_cases e : i = j
    · subst e; exact ⟨u, same, ha.next hS⟩
    · obtain ⟨u', hu, ha'⟩ := h4 i hi (by omega)
      exact ⟨u', by rw [World.cell?_setCell_other _ _ _ _ (by intro e; injection e with _ e; omega)]; exact hu, ha'.next hS⟩
theorem RTo.kids {cols : List Int} {K kb M lo : Nat} {W : World} {Fs : List (List Zp → Vl)} (h : RTo cols K kb M W Fs Fs.length) (h1 : lo ≤ K) (h2 : lo ≤ kb) : KidsR cols lo W kb Fs := by
  obtain ⟨l1, l2, _, l4⟩ := h
  refine ⟨K, h2, by omega, h1, by omega, l2, fun i hi => ?_⟩
  obtain ⟨u, hu, ha⟩ := l4 i hi hi
  exact ⟨u, hu, ha.down (by omega)⟩
theorem RTo.new {cols : List Int} {w : World} {n : Nat} (Fs : List (List Zp → Vl)) (hn : n = Fs.length) (T T' : TypeId) :
    RTo cols w.heap.size (w.heap.size + 1) (w.heap.size + 2) ((w.alloc (.cells (Array.replicate n Value.nilFunc) T)).alloc (.cells #[.slice (some ⟨w.heap.size, 0, none⟩) n n] T')) Fs 0 := by
  subst hn
  refine ⟨⟨by omega, by omega, by omega, by simp⟩, ?_, fun i hi => ⟨⟨Value.nilFunc, ?_⟩, ?_⟩, fun i _ h => absurd h (Nat.not_lt_zero _)⟩
  · rw [World.cell?_alloc_at _ _ _ _ (by simp)]; rfl
  · rw [World.cell?_alloc_past _ _ _ (by simp), World.cell?_alloc_at _ _ _ _ rfl]
    simp [hi]
  · rw [World.frozen?_alloc_past _ _ _ (by simp)]
    exact World.frozen?_alloc_at _ _ _ _ rfl
/-- A function value makes rows of what aggregates come to. -/
def AggF (cols : List Int) (lo : Nat) (u : Value) (gs : List Ag) (w : World) : Prop :=
  ∃ g cb, u = .func (.func g) #[] cb ∧ (∀ args w, (callFunc g args).run Tryz.prog w = .ok (.enter g args) w) ∧
    ∀ (rows : List Zp) (a : Option Addr) (cap : Nat) (W : World), ROk cols rows → ZsAt W a rows → Since lo w W →
      Calls Tryz.prog g (#[.slice a rows.length cap] ++ cb) W fun e w' => e = .returned (.slice (some ⟨W.heap.size, 0, none⟩) gs.length gs.length) ∧ RowNew W.heap.size w' (gs.map fun g => aggP g rows) ∧ Below W.heap.size W w'
theorem AggF.next {cols : List Int} {lo : Nat} {u : Value} {gs : List Ag} {w w1 : World} (h : AggF cols lo u gs w) (hb : Since lo w w1) : AggF cols lo u gs w1 := by
  obtain ⟨g, cb, e, eg, hd⟩ := h
  exact ⟨g, cb, e, eg, fun row a cap W hf hs hW => hd row a cap W hf hs (hb.trans hW)⟩
theorem agg_get {gs : List Ag} {j : Nat} (h : j < gs.length) : (gs.map fun g => aggP g)[j]'(by simpa using h) = aggP gs[j] := by simp

set_option maxRecDepth 100000 in
set_option maxHeartbeats 4000000 in
theorem aggregates_at (cols : List Int) (gs : List Ag) (hT : ∀ g ∈ gs, measE cols g = 0 → TotalOk g.1) (ca : Option Addr) (ccap : Nat) (xa : Option Addr) (xcap : Nat) (w : World) (hk : AgAt w.heap.size w xa gs) (hc : IsAt w.heap.size w ca cols) (h8 : gs.length ≤ 8) :
    Calls Tryz.prog 29 #[.slice ca cols.length ccap, .slice xa gs.length xcap] w fun e w' => ∃ u, e = .returned (.tuple #[u, .int .i64 (aggsE cols gs)]) ∧ ((aggsE cols gs = 0 ∧ AggF cols w.heap.size u gs w') ∨ (¬ aggsE cols gs = 0 ∧ u = .nilFunc)) ∧ Below w.heap.size w w' := by
  have HTot : Hid (∀ g ∈ gs, measE cols g = 0 → TotalOk g.1) := hT
  obtain ⟨Fs, eFs⟩ : ∃ Fs : List (List Zp → Vl), Fs = gs.map fun g => aggP g := ⟨_, rfl⟩
  have HFs : Hid (Fs = gs.map fun g => aggP g) := eFs
  have lFs : Fs.length = gs.length := by rw [eFs]; simp
  generalize hle : aggsE cols gs = le
  have HE : Hid (aggsE cols gs = le) := hle
  clear hT eFs hle
  have hmk := make_rfuncs h8
  have F0 : RTo cols w.heap.size (w.heap.size + 1) (w.heap.size + 2) ((w.alloc (.cells (Array.replicate gs.length Value.nilFunc) 121)).alloc (.cells #[.slice (some ⟨w.heap.size, 0, none⟩) gs.length gs.length] 114)) Fs 0 := RTo.new Fs lFs.symm _ _
  have hA : Below w.heap.size w ((w.alloc (.cells (Array.replicate gs.length Value.nilFunc) 121)).alloc (.cells #[.slice (some ⟨w.heap.size, 0, none⟩) gs.length gs.length] 114)) := ((Below.refl _ _).alloc (Nat.le_refl _) _).alloc (by simp) _
  go_enter Tryz.func29, Tryz.ntmps29
  go_wp2_with fail
  generalize (w.alloc (.cells (Array.replicate gs.length Value.nilFunc) 121)).alloc (.cells #[.slice (some ⟨w.heap.size, 0, none⟩) gs.length gs.length] 114) = w2 at *
  clear hmk
  go_loopw [17] (fun i wr => ∃ j : Nat, j ≤ gs.length ∧ i = .int .i64 j ∧ RTo cols w.heap.size (w.heap.size + 1) (w.heap.size + 2) wr Fs j ∧ Hid (le = aggsE cols (gs.drop j)) ∧ Below w.heap.size w wr) (fun i _ => gs.length - (intOf i).toNat)
  case atStart => exact ⟨0, Nat.zero_le _, rfl, F0, HE.out.symm, hA⟩
  case round =>
    clear F0 hA
    obtain ⟨j, hj, rfl, F, HT, hb⟩ := hrel
    have hz := hb.size
    have hzF := F.lt.2.2.2
    by_cases hlt : j < gs.length
    · obtain ⟨b, off, ai, ci, rfl, hbl, x0, sx, kx⟩ := (AgAt.next hb (Nat.le_refl _) hk).elem hlt
      obtain ⟨x1, x2, x3, x4, x5, x6⟩ := sx
      have hal : Below wr.heap.size wr (wr.alloc (.cells #[.int .i64 gs[j].1, .int .i64 gs[j].2.k, .int .i64 gs[j].2.v.1, .int .i64 gs[j].2.v.2.1, .string gs[j].2.v.2.2, .int .i64 gs[j].2.c, .slice ai gs[j].2.ks.length ci] 34)) := (Below.refl _ _).alloc (Nat.le_refl _) _
      have q0 := heap_new wr #[.int .i64 gs[j].1, .int .i64 gs[j].2.k, .int .i64 gs[j].2.v.1, .int .i64 gs[j].2.v.2.1, .string gs[j].2.v.2.2, .int .i64 gs[j].2.c, .slice ai gs[j].2.ks.length ci] 34
      have Fk := F.next hal
      have zk : (wr.alloc (.cells #[.int .i64 gs[j].1, .int .i64 gs[j].2.k, .int .i64 gs[j].2.v.1, .int .i64 gs[j].2.v.2.1, .string gs[j].2.v.2.2, .int .i64 gs[j].2.c, .slice ai gs[j].2.ks.length ci] 34)).heap.size = wr.heap.size + 1 := by simp
      have kk := (KsAt.next hal hz kx).up (show w.heap.size ≤ (wr.alloc (.cells #[.int .i64 gs[j].1, .int .i64 gs[j].2.k, .int .i64 gs[j].2.v.1, .int .i64 gs[j].2.v.2.1, .string gs[j].2.v.2.2, .int .i64 gs[j].2.c, .slice ai gs[j].2.ks.length ci] 34)).heap.size by omega)
      have cc := ((hc.next hb (Nat.le_refl _)).next hal hz).up (show w.heap.size ≤ (wr.alloc (.cells #[.int .i64 gs[j].1, .int .i64 gs[j].2.k, .int .i64 gs[j].2.v.1, .int .i64 gs[j].2.v.2.1, .string gs[j].2.v.2.2, .int .i64 gs[j].2.c, .slice ai gs[j].2.ks.length ci] 34)).heap.size by omega)
      have hjz : (j : Int) < gs.length := by omega
      by_cases h0 : measE cols gs[j] = 0
      · have con := measuredOk_at cols gs[j] ca ccap ai ci _ kk cc h0
        have HTo : Hid (TotalOk gs[j].1) := HTot.out _ (List.getElem_mem hlt) h0
        have Hr : Hid (∀ row, FitP cols row → wrongP (measF gs[j] row) = 0) := measF_right h0
        have HN : Hid (le = aggsE cols (gs.drop (j + 1))) := HT.out.trans (aggsE_next cols gs j hlt h0)
        clear h0 HT
        go_upto_region 5 with fail
        clear x0 x1 x2 x3 x4 x5 x6 kx kk cc
        generalize wr.alloc (.cells #[.int .i64 gs[j].1, .int .i64 gs[j].2.k, .int .i64 gs[j].2.v.1, .int .i64 gs[j].2.v.2.1, .string gs[j].2.v.2.2, .int .i64 gs[j].2.c, .slice ai gs[j].2.ks.length ci] 34) = wk at *
        have p0 : wk.cell? ⟨wr.heap.size, 0, none⟩ = some (.int .i64 gs[j].1) := cell_of (i := 0) q0 rfl
        have p1 : wk.cell? ⟨wr.heap.size, 1, none⟩ = some (.int .i64 gs[j].2.k) := cell_of (i := 1) q0 rfl
        have p2 : wk.cell? ⟨wr.heap.size, 2, none⟩ = some (.int .i64 gs[j].2.v.1) := cell_of (i := 2) q0 rfl
        have p3 : wk.cell? ⟨wr.heap.size, 3, none⟩ = some (.int .i64 gs[j].2.v.2.1) := cell_of (i := 3) q0 rfl
        have p4 : wk.cell? ⟨wr.heap.size, 4, none⟩ = some (.string gs[j].2.v.2.2) := cell_of (i := 4) q0 rfl
        have p5 : wk.cell? ⟨wr.heap.size, 5, none⟩ = some (.int .i64 gs[j].2.c) := cell_of (i := 5) q0 rfl
        have p6 : wk.cell? ⟨wr.heap.size, 6, none⟩ = some (.slice ai gs[j].2.ks.length ci) := cell_of (i := 6) q0 rfl
        go_wp2_with fail
        refine con.mono ?_
        rintro e w3 ⟨u, rfl, hA3, hb3⟩
        clear con p0 p1 p2 p3 p4 p5 p6
        obtain ⟨ug, ucb, rfl⟩ : ∃ g cb, u = .func (.func g) #[] cb := by obtain ⟨g, cb, e, _⟩ := hA3; exact ⟨g, cb, e⟩
        have hal4 : Below w3.heap.size w3 (w3.alloc (.cells #[.func (.func ug) #[] ucb] 111)) := (Below.refl _ _).alloc (Nat.le_refl _) _
        have q4 := heap_new w3 #[.func (.func ug) #[] ucb] 111
        have q0' := ((chain hb3 hal4).block _ (lt_of_heap q0)).trans q0
        have z3 := hb3.size
        have hV : Asks cols (w.heap.size + 2) (.func (.func ug) #[] ucb) (measF gs[j]) (w3.alloc (.cells #[.func (.func ug) #[] ucb] 111)) := (hA3.down (by omega)).next (Since.of hal4)
        have F4 := (Fk.next hb3).next hal4
        have hA4 := chain (chain (chain hb hal) hb3) hal4
        dsimp only
        go_upto_region 8 with fail
        clear hA3
        generalize w3.alloc (.cells #[.func (.func ug) #[] ucb] 111) = w4 at *
        have c8 : w4.cell? ⟨wr.heap.size, 0, none⟩ = some (.int .i64 gs[j].1) := cell_of (i := 0) q0' rfl
        have con := HTo.out w4
        go_wp2_with fail
        refine con.mono ?_
        rintro e w5 ⟨u5, rfl, hT5, hb5⟩
        clear con c8
        obtain ⟨tg, tcb, rfl⟩ : ∃ g cb, u5 = .func (.func g) #[] cb := by obtain ⟨g, cb, e, _⟩ := hT5; exact ⟨g, cb, e⟩
        have hal6 : Below w5.heap.size w5 (w5.alloc (.cells #[.func (.func tg) #[] tcb] 117)) := (Below.refl _ _).alloc (Nat.le_refl _) _
        have q6 := heap_new w5 #[.func (.func tg) #[] tcb] 117
        have q4' := ((chain hb5 hal6).block _ (lt_of_heap q4)).trans q4
        have z5 := hb5.size
        have z4 := hal4.size
        have hT6 : TotF (w.heap.size + 2) (.func (.func tg) #[] tcb) (totP gs[j].1) (w5.alloc (.cells #[.func (.func tg) #[] tcb] 117)) := (hT5.down (by omega)).next (Since.of hal6)
        have hV6 := (hV.next (Since.of hb5)).next (Since.of hal6)
        have F6 := (F4.next hb5).next hal6
        have hA6 := chain (chain hA4 hb5) hal6
        have t6 := lt_of_heap q6
        have v6 := lt_of_heap q4'
        dsimp only
        go_upto_region 9 with fail
        clear hT5 hV
        generalize w5.alloc (.cells #[.func (.func tg) #[] tcb] 117) = w6 at *
        have RF : RowsF cols (w.heap.size + 2) (.func (.func 58) #[] #[.pointer (some ⟨w5.heap.size, 0, none⟩), .pointer (some ⟨w3.heap.size, 0, none⟩)]) (aggP gs[j]) w6 := by
          refine ⟨58, _, rfl, enters_of Tryz.func58 (by kernel_rfl) rfl, fun rows a cap W hr hs hW => ?_⟩
          exact agg1_at cols (w.heap.size + 2) _ _ (totP gs[j].1) (measF gs[j]) Hr.out w5.heap.size w3.heap.size a cap rows W ((hW.cell (p := ⟨w5.heap.size, 0, none⟩) (by show _ ≤ w5.heap.size; omega) t6).trans (cell_of (i := 0) q6 rfl)) ((hW.cell (p := ⟨w3.heap.size, 0, none⟩) (by show _ ≤ w3.heap.size; omega) v6).trans (cell_of (i := 0) q4' rfl)) (hT6.next hW) (hV6.next hW) hr hs
        have HRF : Hid (RowsF cols (w.heap.size + 2) (.func (.func 58) #[] #[.pointer (some ⟨w5.heap.size, 0, none⟩), .pointer (some ⟨w3.heap.size, 0, none⟩)]) (Fs[j]'(by omega)) w6) := by
          show RowsF _ _ _ _ _
          have e : Fs[j]'(by omega) = aggP gs[j] := by simp only [HFs.out]; exact agg_get hlt
          rw [e]; exact RF
        have b6 := F6.box
        obtain ⟨⟨un, r2⟩, r3⟩ := F6.room j (by omega)
        rw [lFs] at b6
        clear RF hT6 hV6
        go_wp2_with fail
        go_roundw
        case rel => exact ⟨j + 1, by omega, by go_num, F6.store (by omega) HRF.out, HN, hA6.setCell (p := ⟨w.heap.size, j, none⟩) (Nat.le_refl _) _⟩
        case measure => simp [intOf]; omega
      · have con := measuredBad_at cols gs[j] ca ccap ai ci _ kk cc h0
        have HN : Hid (le = measE cols gs[j]) := HT.out.trans (aggsE_bad cols gs j hlt h0)
        have hne : (measE cols gs[j] != 0) = true := by simpa using h0
        have HN0 : Hid (¬ le = 0) := by show ¬ _; rw [HN.out]; exact h0
        rw [← HN.out] at con hne
        clear h0 HT
        go_upto_region 5 with fail
        clear x0 x1 x2 x3 x4 x5 x6 kx kk cc
        generalize wr.alloc (.cells #[.int .i64 gs[j].1, .int .i64 gs[j].2.k, .int .i64 gs[j].2.v.1, .int .i64 gs[j].2.v.2.1, .string gs[j].2.v.2.2, .int .i64 gs[j].2.c, .slice ai gs[j].2.ks.length ci] 34) = wk at *
        have p0 : wk.cell? ⟨wr.heap.size, 0, none⟩ = some (.int .i64 gs[j].1) := cell_of (i := 0) q0 rfl
        have p1 : wk.cell? ⟨wr.heap.size, 1, none⟩ = some (.int .i64 gs[j].2.k) := cell_of (i := 1) q0 rfl
        have p2 : wk.cell? ⟨wr.heap.size, 2, none⟩ = some (.int .i64 gs[j].2.v.1) := cell_of (i := 2) q0 rfl
        have p3 : wk.cell? ⟨wr.heap.size, 3, none⟩ = some (.int .i64 gs[j].2.v.2.1) := cell_of (i := 3) q0 rfl
        have p4 : wk.cell? ⟨wr.heap.size, 4, none⟩ = some (.string gs[j].2.v.2.2) := cell_of (i := 4) q0 rfl
        have p5 : wk.cell? ⟨wr.heap.size, 5, none⟩ = some (.int .i64 gs[j].2.c) := cell_of (i := 5) q0 rfl
        have p6 : wk.cell? ⟨wr.heap.size, 6, none⟩ = some (.slice ai gs[j].2.ks.length ci) := cell_of (i := 6) q0 rfl
        go_wp2_with fail
        refine con.mono ?_
        rintro e w3 ⟨rfl, hb3⟩
        clear con p0 p1 p2 p3 p4 p5 p6
        have hal4 : Below w3.heap.size w3 (w3.alloc (.cells #[.nilFunc] 111)) := (Below.refl _ _).alloc (Nat.le_refl _) _
        dsimp only
        go_wp2_with fail
        exact bodyPost_ret (v := .tuple #[.nilFunc, .int .i64 le]) (by simp [results, Tryz.results29, go_sem]) rfl ⟨_, rfl, .inr ⟨HN0.out, rfl⟩, chain (chain (chain hb hal) hb3) hal4⟩
    · have e : j = gs.length := by omega
      subst e
      have e0 : le = 0 := by rw [HT.out, List.drop_length]; rfl
      subst e0
      have KF : Hid (KidsR cols w.heap.size wr (w.heap.size + 1) Fs) := by rw [← lFs] at F; exact F.kids (Nat.le_refl _) (by omega)
      have AF : Hid (AggF cols w.heap.size (.func (.func 60) #[] #[.pointer (some ⟨w.heap.size + 1, 0, none⟩)]) gs wr) := ⟨60, _, rfl, enters_of Tryz.func60 (by kernel_rfl) rfl, fun rows a cap W hr hs hW => by
        have := agg2_at cols w.heap.size (w.heap.size + 1) Fs a rows cap W (KF.out.next hW) (by omega) hr hs
        have em : (Fs.map fun F : List Zp → Vl => F rows) = gs.map fun g => aggP g rows := by rw [HFs.out, List.map_map]; rfl
        rw [lFs, em] at this
        exact this⟩
      go_wp2_with fail
      first
        | exact bodyPost_ret (v := .tuple #[.func (.func 60) #[] #[.pointer (some ⟨w.heap.size + 1, 0, none⟩)], .int .i64 0]) (by simp [results, Tryz.results29, go_sem]) rfl ⟨_, rfl, .inl ⟨rfl, AF.out⟩, hb⟩
        | exact bodyPost_ret (v := .tuple #[.func (.func 60) #[] #[.pointer (some ⟨w.heap.size + 1, 0, none⟩)], .int .i64 0]) (by simp [results, Tryz.results29, go_sem]) rfl ⟨_, rfl, AF.out, hb⟩
end Go.Proofs.YtajbjhaoeeiigaaGreat
/- The walk of ops.Group. -/
namespace Go.Proofs.YtajbjhaoeeiigaaGreat
open Go.RowKit Go.Lib Go.Shelf

theorem partL_mem (L : List Kp) : ∀ p ∈ partL L, (∀ r ∈ p.2, ∃ x ∈ L, x.2 = r) ∧ ∃ x ∈ L, p.1 = x.1 := by
  have aux : ∀ (L : List Kp) (ps : List Pt) (P : Zp → Prop) (Q : List Vl → Prop), (∀ x ∈ L, P x.2 ∧ Q x.1) → (∀ p ∈ ps, (∀ r ∈ p.2, P r) ∧ Q p.1) → ∀ p ∈ L.foldl (fun ps x => putR (openP ps x) x.2) ps, (∀ r ∈ p.2, P r) ∧ Q p.1 := by
    intro L
    induction L with
    | nil => intro ps P Q _ h; exact h
    | cons x r ih =>
      intro ps P Q hL h
      rw [List.foldl_cons]
      refine ih _ P Q (fun y hy => hL y (by simp [hy])) ?_
      have hx := hL x (by simp)
      have ho : ∀ p ∈ openP ps x, (∀ r ∈ p.2, P r) ∧ Q p.1 := fun p hp => by
        have hnew : ∀ p ∈ ps ++ [((x.1, []) : Pt)], (∀ r ∈ p.2, P r) ∧ Q p.1 := fun p hp => by
          rcases List.mem_append.1 hp with hp | hp
          · exact h p hp
          · rw [List.mem_singleton.1 hp]; exact ⟨fun r hr => by simp at hr, hx.2⟩
        unfold openP at hp
        split at hp
        · exact hnew p hp
        · split at hp
          · exact h p hp
          · exact hnew p hp
      intro p hp
      unfold putR at hp
      split at hp
      · exact ho p hp
      · rename_i hne
        rcases List.mem_or_eq_of_mem_set hp with hp | rfl
        · exact ho p hp
        · have hl := ho _ (List.getElem_mem (l := openP ps x) (n := (openP ps x).length - 1) (by omega))
          refine ⟨fun r hr => ?_, hl.2⟩
          rcases List.mem_append.1 hr with hr | hr
          · exact hl.1 r hr
          · rw [List.mem_singleton.1 hr]; exact hx.1
  intro p hp
  exact aux L [] (fun r => ∃ x ∈ L, x.2 = r) (fun k => ∃ x ∈ L, k = x.1) (fun x hx => ⟨⟨x, hx, rfl⟩, ⟨x, hx, rfl⟩⟩) (fun p hp => by simp at hp) p hp
def partsG (xs : List Ex) (L : List Kp) : List Pt := if xs.length = 0 ∧ (partL L).length = 0 then [([], [])] else partL L
def groupL (xs : List Ex) (gs : List Ag) (L : List Kp) : List Zp := (partsG xs L).map fun p => (p.1 ++ gs.map fun g => aggP g p.2, 1)
def groupE (cols : List Int) (xs : List Ex) (gs : List Ag) (z : List Zp) : Int := if 8 < xs.length + gs.length then 5 else if listE cols xs ≠ 0 then listE cols xs else if aggsE cols gs ≠ 0 then aggsE cols gs else if inpE cols z ≠ 0 then inpE cols z else gatherE (groupL xs gs (inOrd xs z))
def groupZ (cols : List Int) (xs : List Ex) (gs : List Ag) (z : List Zp) : List Zp := if groupE cols xs gs z = 0 then canon (groupL xs gs (inOrd xs z)) else []
theorem parts_ok {cols : List Int} {xs : List Ex} {z : List Zp} (h : InpOk cols z) : (partsG xs (inOrd xs z)).length ≤ 401 ∧ ∀ p ∈ partsG xs (inOrd xs z), ROk cols p.2 ∧ p.1.length = xs.length := by
  have hs := partL_small (inOrd xs z)
  have hl := inOrd_len xs z
  have h4 := set_len h
  have hp : ∀ p ∈ partL (inOrd xs z), ROk cols p.2 ∧ p.1.length = xs.length := fun p hp => by
    obtain ⟨h1, x, hx, e⟩ := partL_mem (inOrd xs z) p hp
    refine ⟨⟨by have := hs.2 p hp; omega, fun r hr => ?_, fun r hr => ?_⟩, ?_⟩
    · obtain ⟨y, hy, rfl⟩ := h1 r hr
      exact h.fit _ (inOrd_mem.1 hy).1.1
    · obtain ⟨y, hy, rfl⟩ := h1 r hr
      have hm := inOrd_mem.1 hy
      have := set_in h y.2 hm.1.1
      rw [inW_iff] at this
      have := hm.1.2
      omega
    · rw [e, (inOrd_mem.1 hx).2]; simp [rowX]
  unfold partsG
  split
  · rename_i hc
    refine ⟨by simp, fun p hp' => ?_⟩
    rw [List.mem_singleton.1 hp']
    exact ⟨⟨Nat.zero_le _, fun r hr => by simp at hr, fun r hr => by simp at hr⟩, hc.1.symm⟩
  · exact ⟨by have := hs.1; omega, hp⟩

/-- Parts in memory, to be read. -/
def ElP (W : World) (b o : Nat) (p : Pt) : Prop := (∃ ka kc, W.cell? ⟨b, o, none⟩ = some (.slice ka p.1.length kc) ∧ SlAt W ka p.1) ∧ ∃ ra rc, W.cell? ⟨b, o + 1, none⟩ = some (.slice ra p.2.length rc) ∧ ZsAt W ra p.2
theorem ElP.next {W w1 : World} {b o : Nat} {p : Pt} (h : ElP W b o p) (hlt : b < W.heap.size) (hb : Below W.heap.size W w1) : ElP w1 b o p := by
  obtain ⟨⟨ka, kc, h1, h2⟩, ra, rc, h3, h4⟩ := h
  exact ⟨⟨ka, kc, (hb.cell (p := ⟨b, _, none⟩) hlt).trans h1, h2.next hb⟩, ra, rc, (hb.cell (p := ⟨b, _, none⟩) hlt).trans h3, h4.next hb⟩
def PtAt (W : World) (a : Option Addr) (ps : List Pt) : Prop := ps = [] ∨ ∃ b off, a = some ⟨b, off, none⟩ ∧ b < W.heap.size ∧ ∀ i (hi : i < ps.length), ElP W b (off + i * 2) ps[i]
theorem PtAt.next {W w1 : World} {a : Option Addr} {ps : List Pt} (h : PtAt W a ps) (hb : Below W.heap.size W w1) : PtAt w1 a ps := by
  rcases h with h | ⟨b, off, e, hlt, h⟩
  · exact .inl h
  · exact .inr ⟨b, off, e, Nat.lt_of_lt_of_le hlt hb.size, fun i hi => (h i hi).next hlt hb⟩
theorem PtAt.elem {W : World} {a : Option Addr} {ps : List Pt} (h : PtAt W a ps) {i : Nat} (hi : i < ps.length) : ∃ b off, a = some ⟨b, off, none⟩ ∧ b < W.heap.size ∧ ElP W b (off + i * 2) ps[i] := by
  rcases h with h | ⟨b, off, e, hlt, h⟩
  · subst h; simp at hi
  · exact ⟨b, off, e, hlt, h i hi⟩
theorem PsAt.pt {w0 : World} {B : Nat} {W : World} {v : Value} {ps : List Pt} (h : PsAt w0 B W v ps) (hb : Below w0.heap.size w0 W) : ∃ a c, v = .slice a ps.length c ∧ PtAt W a ps := by
  obtain ⟨xs, Bl, rv, zs, I⟩ := h
  have o := I.own
  rcases o.2 with ⟨rfl, h0⟩ | ⟨g, cap, cur, rfl, _⟩
  · exact ⟨none, 0, by rw [h0], .inl (List.eq_nil_of_length_eq_zero h0)⟩
  · refine ⟨_, cap, rfl, .inr ⟨g, 0, rfl, (o.lt g rfl).2, fun i hi => ?_⟩⟩
    obtain ⟨ka, kc, e0, s0⟩ := I.key i hi
    obtain ⟨ra, rc, er, zr⟩ := own_zsB (I.rowB hi) rfl (I.row i hi).2 hb
    refine ⟨⟨ka, kc, ?_, s0.next hb⟩, ra, rc, ?_, zr⟩
    · rw [Nat.zero_add, o.cellAt _ (by omega)]; exact e0
    · rw [Nat.zero_add, o.cellAt _ (by omega), I.cell i hi, er]

set_option maxRecDepth 100000 in
set_option maxHeartbeats 8000000 in
theorem group_at (cols : List Int) (xs : List Ex) (gs : List Ag) (hT : ∀ g ∈ gs, measE cols g = 0 → TotalOk g.1) (hsum : xs.length + gs.length ≤ 9223372036854775807) (ca : Option Addr) (ccap : Nat) (xa : Option Addr) (xcap : Nat) (ga : Option Addr) (gcap : Nat) (a : Option Addr) (cap : Nat) (l : List Zp) (w : World) (hc : IsAt w.heap.size w ca cols) (hk : KsAt w.heap.size w xa xs) (hg : AgAt w.heap.size w ga gs) (h : ZsAt w a l) :
    Calls Tryz.prog 10 #[.slice ca cols.length ccap, .slice xa xs.length xcap, .slice ga gs.length gcap, .slice a l.length cap] w fun e w' => ∃ v, e = .returned (.tuple #[v, .int .i64 (groupE cols xs gs l)]) ∧ OwnZ w.heap.size w' v (groupZ cols xs gs l) ∧ Below w.heap.size w w' := by
  obtain ⟨i0, hi, hz0, hz1, hz2⟩ := info_parts Tryz.info42
  have con := list_at cols xs ca ccap xa xcap w hk hc
  generalize hfz : groupZ cols xs gs l = fz
  generalize hfe : groupE cols xs gs l = fe
  have HZ : Hid (groupZ cols xs gs l = fz) := hfz
  have HF : Hid (groupE cols xs gs l = fe) := hfe
  have HTo : Hid (∀ g ∈ gs, measE cols g = 0 → TotalOk g.1) := hT
  clear hfz hfe hT
  have hW : IntKind.i64.wrap ((xs.length : Int) + (gs.length : Int)) = (xs.length : Int) + (gs.length : Int) := IntWalk.i64_in _ ⟨by omega, by omega⟩
  by_cases h8 : 8 < xs.length + gs.length
  · have e0 : fe = 5 := by rw [← HF.out]; unfold groupE; rw [if_pos h8]
    have e1 : fz = [] := by rw [← HZ.out]; unfold groupZ; rw [HF.out, e0, if_neg (by decide)]
    subst e0 e1
    have hz : (8 : Int) < (xs.length : Int) + (gs.length : Int) := by omega
    clear con
    go_enter Tryz.func10, Tryz.ntmps10
    go_wp2_with fail
    exact bodyPost_ret (v := .tuple #[.slice none 0 0, .int .i64 5]) (by simp [results, Tryz.results10, go_sem]) rfl ⟨_, rfl, own_nil _ _, Below.refl _ _⟩
  have hz : ¬ (8 : Int) < (xs.length : Int) + (gs.length : Int) := by omega
  have HN8 : Hid (¬ 8 < xs.length + gs.length) := h8
  by_cases h1 : listE cols xs = 0
  · have H1 : Hid (listE cols xs = 0) := h1
    rw [h1] at con
    clear h1
    go_enter Tryz.func10, Tryz.ntmps10
    go_wp2_with fail
    refine con.mono ?_
    rintro e w1 ⟨u, rfl, hL, hb1⟩
    clear con
    have hL : ListF cols w.heap.size u xs w1 := by
      rcases hL with ⟨_, hL⟩ | ⟨hL, _⟩
      · exact hL
      · exact absurd (by trivial) hL
    have HL : Hid (ListF cols w.heap.size u xs w1) := hL
    obtain ⟨ug, ucb, rfl⟩ : ∃ g cb, u = .func (.func g) #[] cb := by obtain ⟨g, cb, e, _⟩ := hL; exact ⟨g, cb, e⟩
    clear hL
    have con := aggregates_at cols gs HTo.out ca ccap ga gcap w1 ((AgAt.next hb1 (Nat.le_refl _) hg).up hb1.size) ((hc.next hb1 (Nat.le_refl _)).up hb1.size) (by omega)
    by_cases h2 : aggsE cols gs = 0
    · have H2 : Hid (aggsE cols gs = 0) := h2
      rw [h2] at con
      clear h2
      dsimp only
      go_wp2_with fail
      refine con.mono ?_
      rintro e w2 ⟨u2, rfl, hG, hb2⟩
      clear con
      have hG : AggF cols w1.heap.size u2 gs w2 := by
        rcases hG with ⟨_, hG⟩ | ⟨hG, _⟩
        · exact hG
        · exact absurd (by trivial) hG
      obtain ⟨tg, tcb, rfl, egt, dt⟩ := hG
      have HD : Hid (∀ (rows : List Zp) (a : Option Addr) (cap : Nat) (W : World), ROk cols rows → ZsAt W a rows → Since w1.heap.size w2 W → Calls Tryz.prog tg (#[.slice a rows.length cap] ++ tcb) W fun e w' => e = .returned (.slice (some ⟨W.heap.size, 0, none⟩) gs.length gs.length) ∧ RowNew W.heap.size w' (gs.map fun g => aggP g rows) ∧ Below W.heap.size W w') := dt
      clear dt
      have hA2 := chain hb1 hb2
      have con := wrongS_at cols ca ccap a cap l w2 ((hc.next hA2 (Nat.le_refl _)).up hA2.size) (h.next hA2)
      by_cases h3 : inpE cols l = 0
      · have HO : Hid (InpOk cols l) := (inpE_ok cols l).1 h3
        rw [h3] at con
        have H3 : Hid (inpE cols l = 0) := h3
        clear h3
        have HE : Hid (fe = gatherE (groupL xs gs (inOrd xs l))) := by
          show fe = _
          rw [← HF.out]; unfold groupE; rw [if_neg HN8.out, H1.out, H2.out, H3.out, if_neg (by simp), if_neg (by simp), if_neg (by simp)]
        have HV : Hid (fz = gatherZ (groupL xs gs (inOrd xs l))) := by
          show fz = _
          rw [← HZ.out]; unfold groupZ gatherZ; rw [HF.out, HE.out]
        have hl4 := set_len HO.out
        dsimp only
        go_wp2_with fail
        refine con.mono ?_
        rintro e w3 ⟨rfl, hb3⟩
        clear con
        have hA3 := chain hA2 hb3
        have con := inOrder_at cols xs (.func (.func ug) #[] ucb) w.heap.size a cap l w3 (HL.out.next (Since.of (chain hb2 hb3))) HO.out (h.next hA3)
        have hil := inOrd_len xs l
        dsimp only
        go_wp2_with fail
        refine con.mono ?_
        rintro e w4 ⟨a4, c4, rfl, kd, hb4⟩
        clear con
        have con := parted_at a4 c4 (inOrd xs l) w4 kd (by omega)
        have hpk := parts_ok (xs := xs) HO.out
        have HPk : Hid (∀ p ∈ partsG xs (inOrd xs l), ROk cols p.2 ∧ p.1.length = xs.length) := hpk.2
        have hpl := hpk.1
        clear hpk
        dsimp only
        go_wp2_with fail
        refine con.mono ?_
        rintro e w5 ⟨v5, rfl, PS, hb5⟩
        clear con kd
        obtain ⟨a5, c5, rfl, PT⟩ := PS.pt hb5
        clear PS
        have hA5 := chain (chain hA3 hb4) hb5
        have hS5 := chain (chain hb3 hb4) hb5
        have HG : Hid (groupL xs gs (inOrd xs l) = (partsG xs (inOrd xs l)).map fun p => (p.1 ++ gs.map fun g => aggP g p.2, 1)) := rfl
        dsimp only
        by_cases hcx : xs.length = 0 ∧ (partL (inOrd xs l)).length = 0
        · obtain ⟨hx0, hp0⟩ := hcx
          have eG : partsG xs (inOrd xs l) = [([], [])] := by unfold partsG; rw [if_pos ⟨hx0, hp0⟩]
          have hx0b : ((xs.length : Int) == 0) = true := by simp [hx0]
          have hp0b : (((partL (inOrd xs l)).length : Int) == 0) = true := by simp [hp0]
          obtain ⟨ps, eps⟩ : ∃ ps, ps = partsG xs (inOrd xs l) := ⟨_, rfl⟩
          have HPs : Hid (partsG xs (inOrd xs l) = ps) := eps.symm
          have hpsl : ps.length = 1 := by rw [eps, eG]; rfl
          have hplx : ps.length ≤ 401 := by omega
          generalize hpn : (partL (inOrd xs l)).length = pn at *
          have hal5 : Below w5.heap.size w5 (w5.alloc (.cells #[.slice none 0 0, .slice none 0 0] 76)) := (Below.refl _ _).alloc (Nat.le_refl _) _
          have q5 := heap_new w5 #[.slice none 0 0, .slice none 0 0] 76
          have PT : PtAt (w5.alloc (.cells #[.slice none 0 0, .slice none 0 0] 76)) (some ⟨w5.heap.size, 0, none⟩) ps := by
            rw [eps, eG]
            refine .inr ⟨w5.heap.size, 0, rfl, lt_of_heap q5, fun i hi => ?_⟩
            have e0 : i = 0 := by simpa using hi
            subst e0
            exact ⟨⟨none, 0, cell_of (i := 0) q5 rfl, Nat.zero_le _, .inl rfl⟩, none, 0, cell_of (i := 1) q5 rfl, Nat.zero_le _, .inl rfl⟩
          clear eps hpn eG hp0
          go_upto_region 15 with fail
          have hbx := chain hA5 hal5
          have hSx := chain hS5 hal5
          generalize w5.alloc (.cells #[.slice none 0 0, .slice none 0 0] 76) = wx at *
          obtain ⟨pa, epa⟩ : ∃ pa, pa = some (⟨w5.heap.size, 0, none⟩ : Addr) := ⟨_, rfl⟩
          rw [← epa] at PT ⊢
          clear epa
          rw [show (1 : Nat) = ps.length from hpsl.symm]
          clear hpsl hx0b hp0b hx0
          have hgl : (groupL xs gs (inOrd xs l)).length = ps.length := by rw [HG.out, HPs.out]; simp
          go_wp2_with (first | (at_make; refine wpList_make_full _ rfl _ _ 24 rfl wx.heap.size 38 i0 _ 2 Tryz.underlying24 hi hz0 hz1 .i64 .i64 ps.length ps.length ps.length rfl rfl rfl rfl (by rw [hz2]; omega) (by unfold maxLen; omega) (Nat.le_refl _) ?_))
          intro w6 hown hgrow
          have hb6 : Below wx.heap.size wx w6 := (Below.refl _ _).grown hgrow (Nat.le_refl _) (by simp)
          obtain ⟨f, hf⟩ : ∃ f : Nat → Zp, f = (fun j => (groupL xs gs (inOrd xs l)).getD j ([], 0)) := ⟨_, rfl⟩
          have HFn : Hid (f = (fun j => (groupL xs gs (inOrd xs l)).getD j ([], 0))) := hf
          have HGl : Hid ((groupL xs gs (inOrd xs l)).length = ps.length) := hgl
          clear hf hgl
          have hB0 : MTo w6 wx.heap.size ps.length f 0 := ⟨_, hown, fun j _ hj => absurd hj (Nat.not_lt_zero _)⟩
          clear hown hgrow
          go_wp2_with fail
          go_loopw [67] (fun i wr => ∃ k : Nat, k ≤ ps.length ∧ i = .int .i64 k ∧ MTo wr wx.heap.size ps.length f k ∧ wx.heap.size < wr.heap.size ∧ Below wx.heap.size wx wr) (fun i _ => ps.length - (intOf i).toNat)
          case atStart => exact ⟨0, Nat.zero_le _, rfl, hB0, (by obtain ⟨xs0, o0, _⟩ := hB0; exact (o0.lt wx.heap.size rfl).2), hb6⟩
          case round =>
            clear hB0 hb6
            obtain ⟨k, hk', rfl, HB, hwx, hb⟩ := hrel
            have hzz := hb.size
            by_cases hlt : k < ps.length
            · obtain ⟨b, off, rfl, hbl, ⟨ka, kc, c0, sk⟩, ra, rc, c1, zr⟩ := (PT.next hb).elem hlt
              have hal : Below wr.heap.size wr (wr.alloc (.cells #[.slice ka ps[k].1.length kc, .slice ra ps[k].2.length rc] 76)) := (Below.refl _ _).alloc (Nat.le_refl _) _
              have q0 := heap_new wr #[.slice ka ps[k].1.length kc, .slice ra ps[k].2.length rc] 76
              have hpo := HPk.out ps[k] (by rw [HPs.out]; exact List.getElem_mem hlt)
              have HRo : Hid (ROk cols ps[k].2) := hpo.1
              have hkl := hpo.2
              have HSk : Hid (SlAt wr ka ps[k].1) := sk
              have HZr : Hid (ZsAt wr ra ps[k].2) := zr
              have ef : f k = (ps[k].1 ++ gs.map fun g => aggP g ps[k].2, 1) := by
                rw [HFn.out]
                simp only [HG.out, HPs.out]
                simp [List.getD, hlt]
              have EF : Hid (f k = (ps[k].1 ++ gs.map fun g => aggP g ps[k].2, 1)) := ef
              have i0' : (0 : Int) ≤ (k : Int) := by omega
              have i1 : (k : Int) < (ps.length : Int) := by omega
              have hkl8 : ps[k].1.length + gs.length ≤ 8 := by omega
              clear ef sk zr hpo hkl
              go_wp2_with fail
              clear c0 c1
              generalize wr.alloc (.cells #[.slice ka ps[k].1.length kc, .slice ra ps[k].2.length rc] 76) = wk at *
              have hCC : ∀ W W' : World, (W.heap[wr.heap.size]? = some (.cells #[.slice ka ps[k].1.length kc, .slice ra ps[k].2.length rc] 76 (0, 0))) → Below W.heap.size W W' → (W'.heap[wr.heap.size]? = some (.cells #[.slice ka ps[k].1.length kc, .slice ra ps[k].2.length rc] 76 (0, 0))) := fun W W' h hb => (hb.block _ (lt_of_heap h)).trans h
              have hd : Below wk.heap.size wk wk.drew := (Below.refl _ _).drew
              have CW : (wk.drew.heap[wr.heap.size]? = some (.cells #[.slice ka ps[k].1.length kc, .slice ra ps[k].2.length rc] 76 (0, 0))) := hCC _ _ q0 hd
              refine wp_region_cls (fun W => (W.heap[wr.heap.size]? = some (.cells #[.slice ka ps[k].1.length kc, .slice ra ps[k].2.length rc] 76 (0, 0)))) (by kernel_rfl) ?_
              refine wpY_take hCC (some 72) (i := 0) (v := .slice (some ⟨wx.heap.size, 0, none⟩) ps.length ps.length) rfl rfl (by kernel_rfl) (by kernel_rfl) (by kernel_rfl) (fun _ _ _ h => h) (Or.inl ⟨rfl, fun n hn => ?_⟩) CW ?_
              · go_simp
              simp only [Act.put, List.setIfInBounds_toArray, List.set_cons_zero, List.set_cons_succ]
              refine wpY_take hCC (some 73) (i := 1) (v := .int .i64 (k : Int)) rfl rfl (by kernel_rfl) (by kernel_rfl) (by kernel_rfl) (fun _ _ _ h => h) (Or.inl ⟨rfl, fun n hn => ?_⟩) CW ?_
              · go_simp
              simp only [Act.put, List.setIfInBounds_toArray, List.set_cons_zero, List.set_cons_succ]
              refine wpY_take hCC (some 74) (i := 2) (v := .pointer (some ⟨wr.heap.size, 0, none⟩)) rfl rfl (by kernel_rfl) (by kernel_rfl) (by kernel_rfl) (fun _ _ _ h => h) (Or.inl ⟨rfl, fun n hn => ?_⟩) CW ?_
              · go_simp
              simp only [Act.put, List.setIfInBounds_toArray, List.set_cons_zero, List.set_cons_succ]
              refine wpY_take hCC (some 75) (i := 3) (v := .slice ka ps[k].1.length kc) rfl rfl (by kernel_rfl) (by kernel_rfl) (by kernel_rfl) (fun _ _ _ h => h) (Or.inl ⟨rfl, fun n hn => ?_⟩) CW ?_
              · have hc : n.cell? ⟨wr.heap.size, 0, none⟩ = some (.slice ka ps[k].1.length kc) := cell_of (i := 0) hn rfl
                go_simp
              simp only [Act.put, List.setIfInBounds_toArray, List.set_cons_zero, List.set_cons_succ]
              refine wpY_take hCC (some 76) (i := 4) (v := .func (.func tg) #[] tcb) rfl rfl (by kernel_rfl) (by kernel_rfl) (by kernel_rfl) (fun _ _ _ h => h) (Or.inl ⟨rfl, fun n hn => ?_⟩) CW ?_
              · go_simp
              simp only [Act.put, List.setIfInBounds_toArray, List.set_cons_zero, List.set_cons_succ]
              refine wpY_take hCC (some 77) (i := 5) (v := .pointer (some ⟨wr.heap.size, 1, none⟩)) rfl rfl (by kernel_rfl) (by kernel_rfl) (by kernel_rfl) (fun _ _ _ h => h) (Or.inl ⟨rfl, fun n hn => ?_⟩) CW ?_
              · go_simp
              simp only [Act.put, List.setIfInBounds_toArray, List.set_cons_zero, List.set_cons_succ]
              refine wpY_take hCC (some 78) (i := 6) (v := .slice ra ps[k].2.length rc) rfl rfl (by kernel_rfl) (by kernel_rfl) (by kernel_rfl) (fun _ _ _ h => h) (Or.inl ⟨rfl, fun n hn => ?_⟩) CW ?_
              · have hc : n.cell? ⟨wr.heap.size, 1, none⟩ = some (.slice ra ps[k].2.length rc) := cell_of (i := 1) hn rfl
                go_simp
              simp only [Act.put, List.setIfInBounds_toArray, List.set_cons_zero, List.set_cons_succ]
              refine wpY_step (rs := [7]) (by kernel_rfl) (by simp) ?_
              intro w7 hb7 jj hj
              obtain rfl : jj = 7 := by simpa using hj
              clear hj
              have CW7 := hCC _ _ CW hb7
              have D7 := chain hal (chain hd hb7)
              have con := HD.out ps[k].2 ra rc w7 HRo.out (HZr.out.next D7) (Since.of (chain hSx (chain hb D7)))
              refine wpOp_step rfl (fun K hK => ?_)
              go_simp
              first | (refine con.mono ?_) | (go_at_fn tg; refine con.mono ?_)
              rintro e w8 ⟨rfl, hRN, hb8⟩
              clear con
              have CW8 := hCC _ _ CW7 hb8
              have D8 := chain D7 hb8
              refine hK _ _ ⟨CW8, ?_⟩
              clear hK K
              refine wpY_step (rs := [8]) (by kernel_rfl) (by simp) ?_
              intro w9 hb9 jj hj
              obtain rfl : jj = 8 := by simpa using hj
              clear hj
              refine wpOp_step rfl (fun K hK => ?_)
              go_simp
              have CW9 := hCC _ _ CW8 hb9
              have D9 := chain D8 hb9
              have R2 := raw_vals (hRN.1.next hb9)
              have hgm : (gs.map fun g => aggP g ps[k].2).length = gs.length := by simp
              rw [hgm] at R2
              have PC := PairC.new kc gs.length (raw_vals (HSk.out.next D9)) R2 36
              have halA : Below w9.heap.size w9 (w9.alloc (.cells #[.slice ka ps[k].1.length kc, .slice (some ⟨w7.heap.size, 0, none⟩) gs.length gs.length] 36)) := (Below.refl _ _).alloc (Nat.le_refl _) _
              have CWA := hCC _ _ CW9 halA
              have DA := chain D9 halA
              refine hK _ _ ⟨CWA, ?_⟩
              clear hK K R2 hgm hRN
              generalize w9.alloc (.cells #[.slice ka ps[k].1.length kc, .slice (some ⟨w7.heap.size, 0, none⟩) gs.length gs.length] 36) = wA at *
              refine wpY_step (rs := [9]) (by kernel_rfl) (by simp) ?_
              intro wB hbB jj hj
              obtain rfl : jj = 9 := by simpa using hj
              clear hj
              refine wpOp_step rfl (fun K hK => ?_)
              go_simp
              have CWB := hCC _ _ CWA hbB
              have DB := chain DA hbB
              refine (concatV_at _ _ _ _ _ wB (PC.next hbB) (by omega)).mono ?_
              rintro e wC ⟨vC, rfl, OC, hbC⟩
              rw [← flatV_append] at OC
              obtain ⟨aC, cC, rfl, SC, TC, _⟩ := own_vals OC (by simp)
              have CWC := hCC _ _ CWB hbC
              have DC := chain DB hbC
              refine hK _ _ ⟨CWC, ?_⟩
              clear hK K OC PC CW7 CW8 CW9 CWA CWB CW
              obtain ⟨rr, err⟩ : ∃ rr, rr = ps[k].1 ++ gs.map fun g => aggP g ps[k].2 := ⟨_, rfl⟩
              rw [← err] at SC ⊢
              have EFr : Hid (f k = (rr, 1)) := by show _ = _; rw [err]; exact EF.out
              clear err EF
              refine wpY_take hCC (some 82) (i := 10) (v := .agg #[.slice aC rr.length cC, .int .i64 1]) rfl rfl (by kernel_rfl) (by kernel_rfl) (by kernel_rfl) (fun _ _ _ h => h) (Or.inl ⟨rfl, fun n hn => ?_⟩) CWC ?_
              · go_simp
              simp only [Act.put, List.setIfInBounds_toArray, List.set_cons_zero, List.set_cons_succ]
              refine wpY_take hCC (some 83) (i := 11) (v := .pointer (some ⟨wx.heap.size, k * 2, none⟩)) rfl rfl (by kernel_rfl) (by kernel_rfl) (by kernel_rfl) (fun _ _ _ h => h) (Or.inl ⟨rfl, fun n hn => ?_⟩) CWC ?_
              · go_simp
              simp only [Act.put, List.setIfInBounds_toArray, List.set_cons_zero, List.set_cons_succ]
              refine wpY_step (rs := [12]) (by kernel_rfl) (by simp) ?_
              intro wD hbD jj hj
              obtain rfl : jj = 12 := by simpa using hj
              clear hj
              have CWD := hCC _ _ CWC hbD
              have DD := chain DC hbD
              have HBD := (HB.next DD)
              obtain ⟨⟨u0, u1, d0, d1⟩, f0, f1, hlb⟩ := HBD.cells hlt
              have MS := HBD.step hlt (a := aC) (cap := cC) (by rw [EFr.out]; exact SC.next hbD) (TC.next hbD)
              rw [EFr.out] at MS
              have hne : wr.heap.size ≠ wx.heap.size := by omega
              have CWE : (((wD.setCell ⟨wx.heap.size, k * 2, none⟩ (.slice aC rr.length cC)).setCell ⟨wx.heap.size, k * 2 + 1, none⟩ (.int .i64 1)).heap[wr.heap.size]? = some (.cells #[.slice ka ps[k].1.length kc, .slice ra ps[k].2.length rc] 76 (0, 0))) := (Below.heap_setCell _ _ _ _ hne).trans ((Below.heap_setCell _ _ _ _ hne).trans CWD)
              have BE : Below wx.heap.size wx ((wD.setCell ⟨wx.heap.size, k * 2, none⟩ (.slice aC rr.length cC)).setCell ⟨wx.heap.size, k * 2 + 1, none⟩ (.int .i64 1)) := ((chain hb DD).setCell (p := ⟨wx.heap.size, k * 2, none⟩) (Nat.le_refl _) _).setCell (p := ⟨wx.heap.size, k * 2 + 1, none⟩) (Nat.le_refl _) _
              have zE : wx.heap.size < ((wD.setCell ⟨wx.heap.size, k * 2, none⟩ (.slice aC rr.length cC)).setCell ⟨wx.heap.size, k * 2 + 1, none⟩ (.int .i64 1)).heap.size := by simpa [World.setCell] using hlb
              refine wpOp_step rfl (fun K hK => ?_)
              go_simp
              refine hK _ _ ⟨CWE, ?_⟩
              clear hK K CWD CWC d0 d1 f0 f1 HBD SC TC
              generalize (wD.setCell ⟨wx.heap.size, k * 2, none⟩ (.slice aC rr.length cC)).setCell ⟨wx.heap.size, k * 2 + 1, none⟩ (.int .i64 1) = wE at *
              refine wpY_done (by kernel_rfl) ?_
              intro wF hbF
              have MF := MS.next hbF
              have BF := chain BE hbF
              have zF := hbF.size
              clear MS BE CWE hCC
              go_wp2_with fail
              go_roundw
              case rel => exact ⟨k + 1, by omega, by go_num, MF, by omega, BF⟩
              case measure => simp [intOf]; omega
            · have e : k = ps.length := by omega
              subst e
              have zsm := HB.done (groupL xs gs (inOrd xs l)) HGl.out.symm (fun j hj => by rw [HFn.out]; simp [List.getD, hj]) (by rw [HGl.out]; omega)
              have hmem : ∀ y ∈ groupL xs gs (inOrd xs l), y.2 = 1 ∧ y.1.length ≤ 8 := fun y hy => by
                rw [HG.out] at hy
                obtain ⟨p, hp, rfl⟩ := List.mem_map.1 hy
                have := (HPk.out p hp).2
                exact ⟨rfl, by simp; omega⟩
              have con := gathered_at (some ⟨wx.heap.size, 0, none⟩) ps.length (groupL xs gs (inOrd xs l)) wr zsm (by rw [HGl.out]; omega) (fun y hy => by rw [(hmem y hy).1]; rfl) (fun y hy => (hmem y hy).2)
              rw [HGl.out, ← HE.out, ← HV.out] at con
              clear zsm HB hmem
              have hAr := chain hbx hb
              go_wp2_with fail
              refine con.mono ?_
              rintro e w9 ⟨v9, rfl, O9, hb9⟩
              have O9' := O9.mono hAr.size
              obtain ⟨a9, c9, rfl, _⟩ := O9.zs
              clear con O9
              dsimp only
              go_wp2_with fail
              exact bodyPost_ret (v := .tuple #[.slice a9 fz.length c9, .int .i64 fe]) (by simp [results, Tryz.results10, go_sem]) rfl ⟨_, rfl, O9', chain hAr hb9⟩
        · have eG : partsG xs (inOrd xs l) = partL (inOrd xs l) := by unfold partsG; rw [if_neg hcx]
          obtain ⟨ps, eps⟩ : ∃ ps, ps = partsG xs (inOrd xs l) := ⟨_, rfl⟩
          have HPs : Hid (partsG xs (inOrd xs l) = ps) := eps.symm
          have eP : partL (inOrd xs l) = ps := by rw [eps, eG]
          rw [eP] at hcx PT ⊢
          have hplx : ps.length ≤ 401 := by rw [eps]; exact hpl
          clear eps eG eP
          obtain ⟨wx, hwx5⟩ : ∃ z, z = w5 := ⟨_, rfl⟩
          subst hwx5
          have hbx := hA5
          have hSx := hS5
          by_cases e1 : xs.length = 0
          · have e2n : ¬ (ps.length : Int) = 0 := fun e2 => hcx ⟨e1, by omega⟩
            have e2 : ((ps.length : Int) == 0) = false := by rw [beq_eq_false_iff_ne]; exact e2n
            have e1b : ((xs.length : Int) == 0) = true := by simp [e1]
            clear hcx e1
            go_upto_region 15 with fail
            clear e1b e2 e2n
            have hgl : (groupL xs gs (inOrd xs l)).length = ps.length := by rw [HG.out, HPs.out]; simp
            go_wp2_with (first | (at_make; refine wpList_make_full _ rfl _ _ 24 rfl wx.heap.size 38 i0 _ 2 Tryz.underlying24 hi hz0 hz1 .i64 .i64 ps.length ps.length ps.length rfl rfl rfl rfl (by rw [hz2]; omega) (by unfold maxLen; omega) (Nat.le_refl _) ?_))
            intro w6 hown hgrow
            have hb6 : Below wx.heap.size wx w6 := (Below.refl _ _).grown hgrow (Nat.le_refl _) (by simp)
            obtain ⟨f, hf⟩ : ∃ f : Nat → Zp, f = (fun j => (groupL xs gs (inOrd xs l)).getD j ([], 0)) := ⟨_, rfl⟩
            have HFn : Hid (f = (fun j => (groupL xs gs (inOrd xs l)).getD j ([], 0))) := hf
            have HGl : Hid ((groupL xs gs (inOrd xs l)).length = ps.length) := hgl
            clear hf hgl
            have hB0 : MTo w6 wx.heap.size ps.length f 0 := ⟨_, hown, fun j _ hj => absurd hj (Nat.not_lt_zero _)⟩
            clear hown hgrow
            go_wp2_with fail
            go_loopw [67] (fun i wr => ∃ k : Nat, k ≤ ps.length ∧ i = .int .i64 k ∧ MTo wr wx.heap.size ps.length f k ∧ wx.heap.size < wr.heap.size ∧ Below wx.heap.size wx wr) (fun i _ => ps.length - (intOf i).toNat)
            case atStart => exact ⟨0, Nat.zero_le _, rfl, hB0, (by obtain ⟨xs0, o0, _⟩ := hB0; exact (o0.lt wx.heap.size rfl).2), hb6⟩
            case round =>
              clear hB0 hb6
              obtain ⟨k, hk', rfl, HB, hwx, hb⟩ := hrel
              have hzz := hb.size
              by_cases hlt : k < ps.length
              · obtain ⟨b, off, rfl, hbl, ⟨ka, kc, c0, sk⟩, ra, rc, c1, zr⟩ := (PT.next hb).elem hlt
                have hal : Below wr.heap.size wr (wr.alloc (.cells #[.slice ka ps[k].1.length kc, .slice ra ps[k].2.length rc] 76)) := (Below.refl _ _).alloc (Nat.le_refl _) _
                have q0 := heap_new wr #[.slice ka ps[k].1.length kc, .slice ra ps[k].2.length rc] 76
                have hpo := HPk.out ps[k] (by rw [HPs.out]; exact List.getElem_mem hlt)
                have HRo : Hid (ROk cols ps[k].2) := hpo.1
                have hkl := hpo.2
                have HSk : Hid (SlAt wr ka ps[k].1) := sk
                have HZr : Hid (ZsAt wr ra ps[k].2) := zr
                have ef : f k = (ps[k].1 ++ gs.map fun g => aggP g ps[k].2, 1) := by
                  rw [HFn.out]
                  simp only [HG.out, HPs.out]
                  simp [List.getD, hlt]
                have EF : Hid (f k = (ps[k].1 ++ gs.map fun g => aggP g ps[k].2, 1)) := ef
                have i0' : (0 : Int) ≤ (k : Int) := by omega
                have i1 : (k : Int) < (ps.length : Int) := by omega
                have hkl8 : ps[k].1.length + gs.length ≤ 8 := by omega
                clear ef sk zr hpo hkl
                go_wp2_with fail
                clear c0 c1
                generalize wr.alloc (.cells #[.slice ka ps[k].1.length kc, .slice ra ps[k].2.length rc] 76) = wk at *
                have hCC : ∀ W W' : World, (W.heap[wr.heap.size]? = some (.cells #[.slice ka ps[k].1.length kc, .slice ra ps[k].2.length rc] 76 (0, 0))) → Below W.heap.size W W' → (W'.heap[wr.heap.size]? = some (.cells #[.slice ka ps[k].1.length kc, .slice ra ps[k].2.length rc] 76 (0, 0))) := fun W W' h hb => (hb.block _ (lt_of_heap h)).trans h
                have hd : Below wk.heap.size wk wk.drew := (Below.refl _ _).drew
                have CW : (wk.drew.heap[wr.heap.size]? = some (.cells #[.slice ka ps[k].1.length kc, .slice ra ps[k].2.length rc] 76 (0, 0))) := hCC _ _ q0 hd
                refine wp_region_cls (fun W => (W.heap[wr.heap.size]? = some (.cells #[.slice ka ps[k].1.length kc, .slice ra ps[k].2.length rc] 76 (0, 0)))) (by kernel_rfl) ?_
                refine wpY_take hCC (some 72) (i := 0) (v := .slice (some ⟨wx.heap.size, 0, none⟩) ps.length ps.length) rfl rfl (by kernel_rfl) (by kernel_rfl) (by kernel_rfl) (fun _ _ _ h => h) (Or.inl ⟨rfl, fun n hn => ?_⟩) CW ?_
                · go_simp
                simp only [Act.put, List.setIfInBounds_toArray, List.set_cons_zero, List.set_cons_succ]
                refine wpY_take hCC (some 73) (i := 1) (v := .int .i64 (k : Int)) rfl rfl (by kernel_rfl) (by kernel_rfl) (by kernel_rfl) (fun _ _ _ h => h) (Or.inl ⟨rfl, fun n hn => ?_⟩) CW ?_
                · go_simp
                simp only [Act.put, List.setIfInBounds_toArray, List.set_cons_zero, List.set_cons_succ]
                refine wpY_take hCC (some 74) (i := 2) (v := .pointer (some ⟨wr.heap.size, 0, none⟩)) rfl rfl (by kernel_rfl) (by kernel_rfl) (by kernel_rfl) (fun _ _ _ h => h) (Or.inl ⟨rfl, fun n hn => ?_⟩) CW ?_
                · go_simp
                simp only [Act.put, List.setIfInBounds_toArray, List.set_cons_zero, List.set_cons_succ]
                refine wpY_take hCC (some 75) (i := 3) (v := .slice ka ps[k].1.length kc) rfl rfl (by kernel_rfl) (by kernel_rfl) (by kernel_rfl) (fun _ _ _ h => h) (Or.inl ⟨rfl, fun n hn => ?_⟩) CW ?_
                · have hc : n.cell? ⟨wr.heap.size, 0, none⟩ = some (.slice ka ps[k].1.length kc) := cell_of (i := 0) hn rfl
                  go_simp
                simp only [Act.put, List.setIfInBounds_toArray, List.set_cons_zero, List.set_cons_succ]
                refine wpY_take hCC (some 76) (i := 4) (v := .func (.func tg) #[] tcb) rfl rfl (by kernel_rfl) (by kernel_rfl) (by kernel_rfl) (fun _ _ _ h => h) (Or.inl ⟨rfl, fun n hn => ?_⟩) CW ?_
                · go_simp
                simp only [Act.put, List.setIfInBounds_toArray, List.set_cons_zero, List.set_cons_succ]
                refine wpY_take hCC (some 77) (i := 5) (v := .pointer (some ⟨wr.heap.size, 1, none⟩)) rfl rfl (by kernel_rfl) (by kernel_rfl) (by kernel_rfl) (fun _ _ _ h => h) (Or.inl ⟨rfl, fun n hn => ?_⟩) CW ?_
                · go_simp
                simp only [Act.put, List.setIfInBounds_toArray, List.set_cons_zero, List.set_cons_succ]
                refine wpY_take hCC (some 78) (i := 6) (v := .slice ra ps[k].2.length rc) rfl rfl (by kernel_rfl) (by kernel_rfl) (by kernel_rfl) (fun _ _ _ h => h) (Or.inl ⟨rfl, fun n hn => ?_⟩) CW ?_
                · have hc : n.cell? ⟨wr.heap.size, 1, none⟩ = some (.slice ra ps[k].2.length rc) := cell_of (i := 1) hn rfl
                  go_simp
                simp only [Act.put, List.setIfInBounds_toArray, List.set_cons_zero, List.set_cons_succ]
                refine wpY_step (rs := [7]) (by kernel_rfl) (by simp) ?_
                intro w7 hb7 jj hj
                obtain rfl : jj = 7 := by simpa using hj
                clear hj
                have CW7 := hCC _ _ CW hb7
                have D7 := chain hal (chain hd hb7)
                have con := HD.out ps[k].2 ra rc w7 HRo.out (HZr.out.next D7) (Since.of (chain hSx (chain hb D7)))
                refine wpOp_step rfl (fun K hK => ?_)
                go_simp
                first | (refine con.mono ?_) | (go_at_fn tg; refine con.mono ?_)
                rintro e w8 ⟨rfl, hRN, hb8⟩
                clear con
                have CW8 := hCC _ _ CW7 hb8
                have D8 := chain D7 hb8
                refine hK _ _ ⟨CW8, ?_⟩
                clear hK K
                refine wpY_step (rs := [8]) (by kernel_rfl) (by simp) ?_
                intro w9 hb9 jj hj
                obtain rfl : jj = 8 := by simpa using hj
                clear hj
                refine wpOp_step rfl (fun K hK => ?_)
                go_simp
                have CW9 := hCC _ _ CW8 hb9
                have D9 := chain D8 hb9
                have R2 := raw_vals (hRN.1.next hb9)
                have hgm : (gs.map fun g => aggP g ps[k].2).length = gs.length := by simp
                rw [hgm] at R2
                have PC := PairC.new kc gs.length (raw_vals (HSk.out.next D9)) R2 36
                have halA : Below w9.heap.size w9 (w9.alloc (.cells #[.slice ka ps[k].1.length kc, .slice (some ⟨w7.heap.size, 0, none⟩) gs.length gs.length] 36)) := (Below.refl _ _).alloc (Nat.le_refl _) _
                have CWA := hCC _ _ CW9 halA
                have DA := chain D9 halA
                refine hK _ _ ⟨CWA, ?_⟩
                clear hK K R2 hgm hRN
                generalize w9.alloc (.cells #[.slice ka ps[k].1.length kc, .slice (some ⟨w7.heap.size, 0, none⟩) gs.length gs.length] 36) = wA at *
                refine wpY_step (rs := [9]) (by kernel_rfl) (by simp) ?_
                intro wB hbB jj hj
                obtain rfl : jj = 9 := by simpa using hj
                clear hj
                refine wpOp_step rfl (fun K hK => ?_)
                go_simp
                have CWB := hCC _ _ CWA hbB
                have DB := chain DA hbB
                refine (concatV_at _ _ _ _ _ wB (PC.next hbB) (by omega)).mono ?_
                rintro e wC ⟨vC, rfl, OC, hbC⟩
                rw [← flatV_append] at OC
                obtain ⟨aC, cC, rfl, SC, TC, _⟩ := own_vals OC (by simp)
                have CWC := hCC _ _ CWB hbC
                have DC := chain DB hbC
                refine hK _ _ ⟨CWC, ?_⟩
                clear hK K OC PC CW7 CW8 CW9 CWA CWB CW
                obtain ⟨rr, err⟩ : ∃ rr, rr = ps[k].1 ++ gs.map fun g => aggP g ps[k].2 := ⟨_, rfl⟩
                rw [← err] at SC ⊢
                have EFr : Hid (f k = (rr, 1)) := by show _ = _; rw [err]; exact EF.out
                clear err EF
                refine wpY_take hCC (some 82) (i := 10) (v := .agg #[.slice aC rr.length cC, .int .i64 1]) rfl rfl (by kernel_rfl) (by kernel_rfl) (by kernel_rfl) (fun _ _ _ h => h) (Or.inl ⟨rfl, fun n hn => ?_⟩) CWC ?_
                · go_simp
                simp only [Act.put, List.setIfInBounds_toArray, List.set_cons_zero, List.set_cons_succ]
                refine wpY_take hCC (some 83) (i := 11) (v := .pointer (some ⟨wx.heap.size, k * 2, none⟩)) rfl rfl (by kernel_rfl) (by kernel_rfl) (by kernel_rfl) (fun _ _ _ h => h) (Or.inl ⟨rfl, fun n hn => ?_⟩) CWC ?_
                · go_simp
                simp only [Act.put, List.setIfInBounds_toArray, List.set_cons_zero, List.set_cons_succ]
                refine wpY_step (rs := [12]) (by kernel_rfl) (by simp) ?_
                intro wD hbD jj hj
                obtain rfl : jj = 12 := by simpa using hj
                clear hj
                have CWD := hCC _ _ CWC hbD
                have DD := chain DC hbD
                have HBD := (HB.next DD)
                obtain ⟨⟨u0, u1, d0, d1⟩, f0, f1, hlb⟩ := HBD.cells hlt
                have MS := HBD.step hlt (a := aC) (cap := cC) (by rw [EFr.out]; exact SC.next hbD) (TC.next hbD)
                rw [EFr.out] at MS
                have hne : wr.heap.size ≠ wx.heap.size := by omega
                have CWE : (((wD.setCell ⟨wx.heap.size, k * 2, none⟩ (.slice aC rr.length cC)).setCell ⟨wx.heap.size, k * 2 + 1, none⟩ (.int .i64 1)).heap[wr.heap.size]? = some (.cells #[.slice ka ps[k].1.length kc, .slice ra ps[k].2.length rc] 76 (0, 0))) := (Below.heap_setCell _ _ _ _ hne).trans ((Below.heap_setCell _ _ _ _ hne).trans CWD)
                have BE : Below wx.heap.size wx ((wD.setCell ⟨wx.heap.size, k * 2, none⟩ (.slice aC rr.length cC)).setCell ⟨wx.heap.size, k * 2 + 1, none⟩ (.int .i64 1)) := ((chain hb DD).setCell (p := ⟨wx.heap.size, k * 2, none⟩) (Nat.le_refl _) _).setCell (p := ⟨wx.heap.size, k * 2 + 1, none⟩) (Nat.le_refl _) _
                have zE : wx.heap.size < ((wD.setCell ⟨wx.heap.size, k * 2, none⟩ (.slice aC rr.length cC)).setCell ⟨wx.heap.size, k * 2 + 1, none⟩ (.int .i64 1)).heap.size := by simpa [World.setCell] using hlb
                refine wpOp_step rfl (fun K hK => ?_)
                go_simp
                refine hK _ _ ⟨CWE, ?_⟩
                clear hK K CWD CWC d0 d1 f0 f1 HBD SC TC
                generalize (wD.setCell ⟨wx.heap.size, k * 2, none⟩ (.slice aC rr.length cC)).setCell ⟨wx.heap.size, k * 2 + 1, none⟩ (.int .i64 1) = wE at *
                refine wpY_done (by kernel_rfl) ?_
                intro wF hbF
                have MF := MS.next hbF
                have BF := chain BE hbF
                have zF := hbF.size
                clear MS BE CWE hCC
                go_wp2_with fail
                go_roundw
                case rel => exact ⟨k + 1, by omega, by go_num, MF, by omega, BF⟩
                case measure => simp [intOf]; omega
              · have e : k = ps.length := by omega
                subst e
                have zsm := HB.done (groupL xs gs (inOrd xs l)) HGl.out.symm (fun j hj => by rw [HFn.out]; simp [List.getD, hj]) (by rw [HGl.out]; omega)
                have hmem : ∀ y ∈ groupL xs gs (inOrd xs l), y.2 = 1 ∧ y.1.length ≤ 8 := fun y hy => by
                  rw [HG.out] at hy
                  obtain ⟨p, hp, rfl⟩ := List.mem_map.1 hy
                  have := (HPk.out p hp).2
                  exact ⟨rfl, by simp; omega⟩
                have con := gathered_at (some ⟨wx.heap.size, 0, none⟩) ps.length (groupL xs gs (inOrd xs l)) wr zsm (by rw [HGl.out]; omega) (fun y hy => by rw [(hmem y hy).1]; rfl) (fun y hy => (hmem y hy).2)
                rw [HGl.out, ← HE.out, ← HV.out] at con
                clear zsm HB hmem
                have hAr := chain hbx hb
                go_wp2_with fail
                refine con.mono ?_
                rintro e w9 ⟨v9, rfl, O9, hb9⟩
                have O9' := O9.mono hAr.size
                obtain ⟨a9, c9, rfl, _⟩ := O9.zs
                clear con O9
                dsimp only
                go_wp2_with fail
                exact bodyPost_ret (v := .tuple #[.slice a9 fz.length c9, .int .i64 fe]) (by simp [results, Tryz.results10, go_sem]) rfl ⟨_, rfl, O9', chain hAr hb9⟩
          · have e1n : ¬ (xs.length : Int) = 0 := by omega
            have e1b : ((xs.length : Int) == 0) = false := by rw [beq_eq_false_iff_ne]; exact e1n
            clear hcx e1
            go_upto_region 15 with fail
            clear e1b e1n
            have hgl : (groupL xs gs (inOrd xs l)).length = ps.length := by rw [HG.out, HPs.out]; simp
            go_wp2_with (first | (at_make; refine wpList_make_full _ rfl _ _ 24 rfl wx.heap.size 38 i0 _ 2 Tryz.underlying24 hi hz0 hz1 .i64 .i64 ps.length ps.length ps.length rfl rfl rfl rfl (by rw [hz2]; omega) (by unfold maxLen; omega) (Nat.le_refl _) ?_))
            intro w6 hown hgrow
            have hb6 : Below wx.heap.size wx w6 := (Below.refl _ _).grown hgrow (Nat.le_refl _) (by simp)
            obtain ⟨f, hf⟩ : ∃ f : Nat → Zp, f = (fun j => (groupL xs gs (inOrd xs l)).getD j ([], 0)) := ⟨_, rfl⟩
            have HFn : Hid (f = (fun j => (groupL xs gs (inOrd xs l)).getD j ([], 0))) := hf
            have HGl : Hid ((groupL xs gs (inOrd xs l)).length = ps.length) := hgl
            clear hf hgl
            have hB0 : MTo w6 wx.heap.size ps.length f 0 := ⟨_, hown, fun j _ hj => absurd hj (Nat.not_lt_zero _)⟩
            clear hown hgrow
            go_wp2_with fail
            go_loopw [67] (fun i wr => ∃ k : Nat, k ≤ ps.length ∧ i = .int .i64 k ∧ MTo wr wx.heap.size ps.length f k ∧ wx.heap.size < wr.heap.size ∧ Below wx.heap.size wx wr) (fun i _ => ps.length - (intOf i).toNat)
            case atStart => exact ⟨0, Nat.zero_le _, rfl, hB0, (by obtain ⟨xs0, o0, _⟩ := hB0; exact (o0.lt wx.heap.size rfl).2), hb6⟩
            case round =>
              clear hB0 hb6
              obtain ⟨k, hk', rfl, HB, hwx, hb⟩ := hrel
              have hzz := hb.size
              by_cases hlt : k < ps.length
              · obtain ⟨b, off, rfl, hbl, ⟨ka, kc, c0, sk⟩, ra, rc, c1, zr⟩ := (PT.next hb).elem hlt
                have hal : Below wr.heap.size wr (wr.alloc (.cells #[.slice ka ps[k].1.length kc, .slice ra ps[k].2.length rc] 76)) := (Below.refl _ _).alloc (Nat.le_refl _) _
                have q0 := heap_new wr #[.slice ka ps[k].1.length kc, .slice ra ps[k].2.length rc] 76
                have hpo := HPk.out ps[k] (by rw [HPs.out]; exact List.getElem_mem hlt)
                have HRo : Hid (ROk cols ps[k].2) := hpo.1
                have hkl := hpo.2
                have HSk : Hid (SlAt wr ka ps[k].1) := sk
                have HZr : Hid (ZsAt wr ra ps[k].2) := zr
                have ef : f k = (ps[k].1 ++ gs.map fun g => aggP g ps[k].2, 1) := by
                  rw [HFn.out]
                  simp only [HG.out, HPs.out]
                  simp [List.getD, hlt]
                have EF : Hid (f k = (ps[k].1 ++ gs.map fun g => aggP g ps[k].2, 1)) := ef
                have i0' : (0 : Int) ≤ (k : Int) := by omega
                have i1 : (k : Int) < (ps.length : Int) := by omega
                have hkl8 : ps[k].1.length + gs.length ≤ 8 := by omega
                clear ef sk zr hpo hkl
                go_wp2_with fail
                clear c0 c1
                generalize wr.alloc (.cells #[.slice ka ps[k].1.length kc, .slice ra ps[k].2.length rc] 76) = wk at *
                have hCC : ∀ W W' : World, (W.heap[wr.heap.size]? = some (.cells #[.slice ka ps[k].1.length kc, .slice ra ps[k].2.length rc] 76 (0, 0))) → Below W.heap.size W W' → (W'.heap[wr.heap.size]? = some (.cells #[.slice ka ps[k].1.length kc, .slice ra ps[k].2.length rc] 76 (0, 0))) := fun W W' h hb => (hb.block _ (lt_of_heap h)).trans h
                have hd : Below wk.heap.size wk wk.drew := (Below.refl _ _).drew
                have CW : (wk.drew.heap[wr.heap.size]? = some (.cells #[.slice ka ps[k].1.length kc, .slice ra ps[k].2.length rc] 76 (0, 0))) := hCC _ _ q0 hd
                refine wp_region_cls (fun W => (W.heap[wr.heap.size]? = some (.cells #[.slice ka ps[k].1.length kc, .slice ra ps[k].2.length rc] 76 (0, 0)))) (by kernel_rfl) ?_
                refine wpY_take hCC (some 72) (i := 0) (v := .slice (some ⟨wx.heap.size, 0, none⟩) ps.length ps.length) rfl rfl (by kernel_rfl) (by kernel_rfl) (by kernel_rfl) (fun _ _ _ h => h) (Or.inl ⟨rfl, fun n hn => ?_⟩) CW ?_
                · go_simp
                simp only [Act.put, List.setIfInBounds_toArray, List.set_cons_zero, List.set_cons_succ]
                refine wpY_take hCC (some 73) (i := 1) (v := .int .i64 (k : Int)) rfl rfl (by kernel_rfl) (by kernel_rfl) (by kernel_rfl) (fun _ _ _ h => h) (Or.inl ⟨rfl, fun n hn => ?_⟩) CW ?_
                · go_simp
                simp only [Act.put, List.setIfInBounds_toArray, List.set_cons_zero, List.set_cons_succ]
                refine wpY_take hCC (some 74) (i := 2) (v := .pointer (some ⟨wr.heap.size, 0, none⟩)) rfl rfl (by kernel_rfl) (by kernel_rfl) (by kernel_rfl) (fun _ _ _ h => h) (Or.inl ⟨rfl, fun n hn => ?_⟩) CW ?_
                · go_simp
                simp only [Act.put, List.setIfInBounds_toArray, List.set_cons_zero, List.set_cons_succ]
                refine wpY_take hCC (some 75) (i := 3) (v := .slice ka ps[k].1.length kc) rfl rfl (by kernel_rfl) (by kernel_rfl) (by kernel_rfl) (fun _ _ _ h => h) (Or.inl ⟨rfl, fun n hn => ?_⟩) CW ?_
                · have hc : n.cell? ⟨wr.heap.size, 0, none⟩ = some (.slice ka ps[k].1.length kc) := cell_of (i := 0) hn rfl
                  go_simp
                simp only [Act.put, List.setIfInBounds_toArray, List.set_cons_zero, List.set_cons_succ]
                refine wpY_take hCC (some 76) (i := 4) (v := .func (.func tg) #[] tcb) rfl rfl (by kernel_rfl) (by kernel_rfl) (by kernel_rfl) (fun _ _ _ h => h) (Or.inl ⟨rfl, fun n hn => ?_⟩) CW ?_
                · go_simp
                simp only [Act.put, List.setIfInBounds_toArray, List.set_cons_zero, List.set_cons_succ]
                refine wpY_take hCC (some 77) (i := 5) (v := .pointer (some ⟨wr.heap.size, 1, none⟩)) rfl rfl (by kernel_rfl) (by kernel_rfl) (by kernel_rfl) (fun _ _ _ h => h) (Or.inl ⟨rfl, fun n hn => ?_⟩) CW ?_
                · go_simp
                simp only [Act.put, List.setIfInBounds_toArray, List.set_cons_zero, List.set_cons_succ]
                refine wpY_take hCC (some 78) (i := 6) (v := .slice ra ps[k].2.length rc) rfl rfl (by kernel_rfl) (by kernel_rfl) (by kernel_rfl) (fun _ _ _ h => h) (Or.inl ⟨rfl, fun n hn => ?_⟩) CW ?_
                · have hc : n.cell? ⟨wr.heap.size, 1, none⟩ = some (.slice ra ps[k].2.length rc) := cell_of (i := 1) hn rfl
                  go_simp
                simp only [Act.put, List.setIfInBounds_toArray, List.set_cons_zero, List.set_cons_succ]
                refine wpY_step (rs := [7]) (by kernel_rfl) (by simp) ?_
                intro w7 hb7 jj hj
                obtain rfl : jj = 7 := by simpa using hj
                clear hj
                have CW7 := hCC _ _ CW hb7
                have D7 := chain hal (chain hd hb7)
                have con := HD.out ps[k].2 ra rc w7 HRo.out (HZr.out.next D7) (Since.of (chain hSx (chain hb D7)))
                refine wpOp_step rfl (fun K hK => ?_)
                go_simp
                first | (refine con.mono ?_) | (go_at_fn tg; refine con.mono ?_)
                rintro e w8 ⟨rfl, hRN, hb8⟩
                clear con
                have CW8 := hCC _ _ CW7 hb8
                have D8 := chain D7 hb8
                refine hK _ _ ⟨CW8, ?_⟩
                clear hK K
                refine wpY_step (rs := [8]) (by kernel_rfl) (by simp) ?_
                intro w9 hb9 jj hj
                obtain rfl : jj = 8 := by simpa using hj
                clear hj
                refine wpOp_step rfl (fun K hK => ?_)
                go_simp
                have CW9 := hCC _ _ CW8 hb9
                have D9 := chain D8 hb9
                have R2 := raw_vals (hRN.1.next hb9)
                have hgm : (gs.map fun g => aggP g ps[k].2).length = gs.length := by simp
                rw [hgm] at R2
                have PC := PairC.new kc gs.length (raw_vals (HSk.out.next D9)) R2 36
                have halA : Below w9.heap.size w9 (w9.alloc (.cells #[.slice ka ps[k].1.length kc, .slice (some ⟨w7.heap.size, 0, none⟩) gs.length gs.length] 36)) := (Below.refl _ _).alloc (Nat.le_refl _) _
                have CWA := hCC _ _ CW9 halA
                have DA := chain D9 halA
                refine hK _ _ ⟨CWA, ?_⟩
                clear hK K R2 hgm hRN
                generalize w9.alloc (.cells #[.slice ka ps[k].1.length kc, .slice (some ⟨w7.heap.size, 0, none⟩) gs.length gs.length] 36) = wA at *
                refine wpY_step (rs := [9]) (by kernel_rfl) (by simp) ?_
                intro wB hbB jj hj
                obtain rfl : jj = 9 := by simpa using hj
                clear hj
                refine wpOp_step rfl (fun K hK => ?_)
                go_simp
                have CWB := hCC _ _ CWA hbB
                have DB := chain DA hbB
                refine (concatV_at _ _ _ _ _ wB (PC.next hbB) (by omega)).mono ?_
                rintro e wC ⟨vC, rfl, OC, hbC⟩
                rw [← flatV_append] at OC
                obtain ⟨aC, cC, rfl, SC, TC, _⟩ := own_vals OC (by simp)
                have CWC := hCC _ _ CWB hbC
                have DC := chain DB hbC
                refine hK _ _ ⟨CWC, ?_⟩
                clear hK K OC PC CW7 CW8 CW9 CWA CWB CW
                obtain ⟨rr, err⟩ : ∃ rr, rr = ps[k].1 ++ gs.map fun g => aggP g ps[k].2 := ⟨_, rfl⟩
                rw [← err] at SC ⊢
                have EFr : Hid (f k = (rr, 1)) := by show _ = _; rw [err]; exact EF.out
                clear err EF
                refine wpY_take hCC (some 82) (i := 10) (v := .agg #[.slice aC rr.length cC, .int .i64 1]) rfl rfl (by kernel_rfl) (by kernel_rfl) (by kernel_rfl) (fun _ _ _ h => h) (Or.inl ⟨rfl, fun n hn => ?_⟩) CWC ?_
                · go_simp
                simp only [Act.put, List.setIfInBounds_toArray, List.set_cons_zero, List.set_cons_succ]
                refine wpY_take hCC (some 83) (i := 11) (v := .pointer (some ⟨wx.heap.size, k * 2, none⟩)) rfl rfl (by kernel_rfl) (by kernel_rfl) (by kernel_rfl) (fun _ _ _ h => h) (Or.inl ⟨rfl, fun n hn => ?_⟩) CWC ?_
                · go_simp
                simp only [Act.put, List.setIfInBounds_toArray, List.set_cons_zero, List.set_cons_succ]
                refine wpY_step (rs := [12]) (by kernel_rfl) (by simp) ?_
                intro wD hbD jj hj
                obtain rfl : jj = 12 := by simpa using hj
                clear hj
                have CWD := hCC _ _ CWC hbD
                have DD := chain DC hbD
                have HBD := (HB.next DD)
                obtain ⟨⟨u0, u1, d0, d1⟩, f0, f1, hlb⟩ := HBD.cells hlt
                have MS := HBD.step hlt (a := aC) (cap := cC) (by rw [EFr.out]; exact SC.next hbD) (TC.next hbD)
                rw [EFr.out] at MS
                have hne : wr.heap.size ≠ wx.heap.size := by omega
                have CWE : (((wD.setCell ⟨wx.heap.size, k * 2, none⟩ (.slice aC rr.length cC)).setCell ⟨wx.heap.size, k * 2 + 1, none⟩ (.int .i64 1)).heap[wr.heap.size]? = some (.cells #[.slice ka ps[k].1.length kc, .slice ra ps[k].2.length rc] 76 (0, 0))) := (Below.heap_setCell _ _ _ _ hne).trans ((Below.heap_setCell _ _ _ _ hne).trans CWD)
                have BE : Below wx.heap.size wx ((wD.setCell ⟨wx.heap.size, k * 2, none⟩ (.slice aC rr.length cC)).setCell ⟨wx.heap.size, k * 2 + 1, none⟩ (.int .i64 1)) := ((chain hb DD).setCell (p := ⟨wx.heap.size, k * 2, none⟩) (Nat.le_refl _) _).setCell (p := ⟨wx.heap.size, k * 2 + 1, none⟩) (Nat.le_refl _) _
                have zE : wx.heap.size < ((wD.setCell ⟨wx.heap.size, k * 2, none⟩ (.slice aC rr.length cC)).setCell ⟨wx.heap.size, k * 2 + 1, none⟩ (.int .i64 1)).heap.size := by simpa [World.setCell] using hlb
                refine wpOp_step rfl (fun K hK => ?_)
                go_simp
                refine hK _ _ ⟨CWE, ?_⟩
                clear hK K CWD CWC d0 d1 f0 f1 HBD SC TC
                generalize (wD.setCell ⟨wx.heap.size, k * 2, none⟩ (.slice aC rr.length cC)).setCell ⟨wx.heap.size, k * 2 + 1, none⟩ (.int .i64 1) = wE at *
                refine wpY_done (by kernel_rfl) ?_
                intro wF hbF
                have MF := MS.next hbF
                have BF := chain BE hbF
                have zF := hbF.size
                clear MS BE CWE hCC
                go_wp2_with fail
                go_roundw
                case rel => exact ⟨k + 1, by omega, by go_num, MF, by omega, BF⟩
                case measure => simp [intOf]; omega
              · have e : k = ps.length := by omega
                subst e
                have zsm := HB.done (groupL xs gs (inOrd xs l)) HGl.out.symm (fun j hj => by rw [HFn.out]; simp [List.getD, hj]) (by rw [HGl.out]; omega)
                have hmem : ∀ y ∈ groupL xs gs (inOrd xs l), y.2 = 1 ∧ y.1.length ≤ 8 := fun y hy => by
                  rw [HG.out] at hy
                  obtain ⟨p, hp, rfl⟩ := List.mem_map.1 hy
                  have := (HPk.out p hp).2
                  exact ⟨rfl, by simp; omega⟩
                have con := gathered_at (some ⟨wx.heap.size, 0, none⟩) ps.length (groupL xs gs (inOrd xs l)) wr zsm (by rw [HGl.out]; omega) (fun y hy => by rw [(hmem y hy).1]; rfl) (fun y hy => (hmem y hy).2)
                rw [HGl.out, ← HE.out, ← HV.out] at con
                clear zsm HB hmem
                have hAr := chain hbx hb
                go_wp2_with fail
                refine con.mono ?_
                rintro e w9 ⟨v9, rfl, O9, hb9⟩
                have O9' := O9.mono hAr.size
                obtain ⟨a9, c9, rfl, _⟩ := O9.zs
                clear con O9
                dsimp only
                go_wp2_with fail
                exact bodyPost_ret (v := .tuple #[.slice a9 fz.length c9, .int .i64 fe]) (by simp [results, Tryz.results10, go_sem]) rfl ⟨_, rfl, O9', chain hAr hb9⟩
      · have e0 : fe = inpE cols l := by rw [← HF.out]; unfold groupE; rw [if_neg HN8.out, H1.out, H2.out, if_neg (by simp), if_neg (by simp), if_pos h3]
        have e1 : fz = [] := by rw [← HZ.out]; unfold groupZ; rw [HF.out, e0, if_neg h3]
        have hne : (inpE cols l != 0) = true := by simpa using h3
        rw [← e0] at con hne
        have HV : Hid (fz = []) := e1
        clear e0 e1 h3
        dsimp only
        go_wp2_with fail
        refine con.mono ?_
        rintro e w3 ⟨rfl, hb3⟩
        clear con
        dsimp only
        go_wp2_with fail
        exact bodyPost_ret (v := .tuple #[.slice none 0 0, .int .i64 fe]) (by simp [results, Tryz.results10, go_sem]) rfl ⟨_, rfl, by rw [HV.out]; exact own_nil _ _, chain hA2 hb3⟩
    · have e0 : fe = aggsE cols gs := by rw [← HF.out]; unfold groupE; rw [if_neg HN8.out, H1.out, if_neg (by simp), if_pos h2]
      have e1 : fz = [] := by rw [← HZ.out]; unfold groupZ; rw [HF.out, e0, if_neg h2]
      have hne : (aggsE cols gs != 0) = true := by simpa using h2
      have HL2 : Hid (¬ aggsE cols gs = 0) := h2
      rw [← e0] at hne
      have HV : Hid (fz = []) := e1
      have HN : Hid (fe = aggsE cols gs) := e0
      clear e0 e1 h2
      dsimp only
      go_wp2_with fail
      refine con.mono ?_
      rintro e w2 ⟨u2, rfl, hG, hb2⟩
      obtain ⟨_, rfl⟩ : ¬ aggsE cols gs = 0 ∧ u2 = .nilFunc := by
        rcases hG with ⟨hG, _⟩ | hG
        · exact absurd hG HL2.out
        · exact hG
      rw [← HN.out]
      clear con
      dsimp only
      go_wp2_with fail
      exact bodyPost_ret (v := .tuple #[.slice none 0 0, .int .i64 fe]) (by simp [results, Tryz.results10, go_sem]) rfl ⟨_, rfl, by rw [HV.out]; exact own_nil _ _, chain hb1 hb2⟩
  · have e0 : fe = listE cols xs := by rw [← HF.out]; unfold groupE; rw [if_neg HN8.out, if_pos h1]
    have e1 : fz = [] := by rw [← HZ.out]; unfold groupZ; rw [HF.out, e0, if_neg h1]
    have hne : (listE cols xs != 0) = true := by simpa using h1
    have HL : Hid (¬ listE cols xs = 0) := h1
    rw [← e0] at hne
    have HV : Hid (fz = []) := e1
    have HN : Hid (fe = listE cols xs) := e0
    clear e0 e1 h1
    go_enter Tryz.func10, Tryz.ntmps10
    go_wp2_with fail
    refine con.mono ?_
    rintro e w1 ⟨u, rfl, hL, hb1⟩
    obtain ⟨_, rfl⟩ : ¬ listE cols xs = 0 ∧ u = .nilFunc := by
      rcases hL with ⟨hL, _⟩ | hL
      · exact absurd hL HL.out
      · exact hL
    rw [← HN.out]
    clear con
    go_wp2_with fail
    exact bodyPost_ret (v := .tuple #[.slice none 0 0, .int .i64 fe]) (by simp [results, Tryz.results10, go_sem]) rfl ⟨_, rfl, by rw [HV.out]; exact own_nil _ _, hb1⟩
end Go.Proofs.YtajbjhaoeeiigaaGreat
/- All are counted: plain facts. -/
namespace Go.Proofs.YtajbjhaoeeiigaaGreat
open Go.RowKit

theorem parts_rise : ∀ (L : List Kp) (ps : List Pt), L.Pairwise (fun x y => cmpL x.1 y.1 ≤ 0) → ps.Pairwise (fun p q => cmpL p.1 q.1 < 0) → (∀ p ∈ ps, ∀ x ∈ L, cmpL p.1 x.1 ≤ 0) → (L.foldl (fun ps x => putR (openP ps x) x.2) ps).Pairwise (fun p q => cmpL p.1 q.1 < 0)
  | [], _, _, h, _ => h
  | x :: r, ps, hL, h, hp => by
    rw [List.foldl_cons]
    obtain ⟨l1, l2⟩ := List.pairwise_cons.1 hL
    have push : (∀ p ∈ ps, cmpL p.1 x.1 < 0) → (ps ++ [((x.1, []) : Pt)]).Pairwise (fun p q => cmpL p.1 q.1 < 0) ∧ ∀ p ∈ ps ++ [((x.1, []) : Pt)], ∀ y ∈ r, cmpL p.1 y.1 ≤ 0 := fun hlt => by
      refine ⟨List.pairwise_append.2 ⟨h, List.pairwise_singleton _ _, fun p hp' q hq => by rw [List.mem_singleton.1 hq]; exact hlt p hp'⟩, fun p hp' y hy => ?_⟩
      rcases List.mem_append.1 hp' with hp' | hp'
      · exact hp p hp' y (by simp [hy])
      · rw [List.mem_singleton.1 hp']; exact l1 y hy
    have ho : (openP ps x).Pairwise (fun p q => cmpL p.1 q.1 < 0) ∧ ∀ p ∈ openP ps x, ∀ y ∈ r, cmpL p.1 y.1 ≤ 0 := by
      unfold openP
      split
      · rename_i h0
        have : ps = [] := List.eq_nil_of_length_eq_zero h0
        refine push fun p hp' => ?_
        rw [this] at hp'; simp at hp'
      · rename_i h0
        split
        · exact ⟨h, fun p hp' y hy => hp p hp' y (by simp [hy])⟩
        · rename_i hc
          refine push fun p hp' => ?_
          obtain ⟨i, hi, rfl⟩ := List.getElem_of_mem hp'
          have hlast := hp _ (List.getElem_mem (l := ps) (n := ps.length - 1) (by omega)) x (by simp)
          by_cases e : i = ps.length - 1
          · subst e; omega
          · have := List.pairwise_iff_getElem.1 h i (ps.length - 1) hi (by omega) (by omega)
            exact cmpL_lt_le this hlast
    have hkey : ∀ i (hi : i < (putR (openP ps x) x.2).length), ((putR (openP ps x) x.2)[i]).1 = ((openP ps x)[i]'(by rw [putR_len] at hi; exact hi)).1 := fun i hi => by
      unfold putR
      split
      · rfl
      · rw [List.getElem_set]
        split
        · rename_i e; subst e; rfl
        · rfl
    refine parts_rise r _ l2 ?_ ?_
    · refine List.pairwise_iff_getElem.2 fun i j hi hj hij => ?_
      rw [hkey i hi, hkey j hj]
      exact List.pairwise_iff_getElem.1 ho.1 i j _ _ hij
    · intro p hp' y hy
      obtain ⟨i, hi, rfl⟩ := List.getElem_of_mem hp'
      rw [hkey i hi]
      exact ho.2 _ (List.getElem_mem _) y hy
theorem partL_rise {xs : List Ex} {z : List Zp} (h : Rise z) : (partL (inOrd xs z)).Pairwise (fun p q => cmpL p.1 q.1 < 0) :=
  parts_rise _ [] ((inOrd_sorted h).imp fun {x y} hs => by rcases hs with h | ⟨h, _⟩ <;> omega) List.Pairwise.nil (fun p hp => by simp at hp)
def sumZ : List Zp → Int
  | [] => 0
  | p :: r => p.2 + sumZ r
theorem sumZ_snoc (l : List Zp) (p : Zp) : sumZ (l ++ [p]) = sumZ l + p.2 := by
  induction l with
  | nil => simp [sumZ]
  | cons q r ih => rw [List.cons_append, sumZ, sumZ, ih]; omega
def sumPs : List Pt → Int
  | [] => 0
  | p :: r => sumZ p.2 + sumPs r
theorem sumPs_append (a b : List Pt) : sumPs (a ++ b) = sumPs a + sumPs b := by
  induction a with
  | nil => simp [sumPs]
  | cons p r ih => rw [List.cons_append, sumPs, sumPs, ih]; omega
theorem sumPs_open (ps : List Pt) (x : Kp) : sumPs (openP ps x) = sumPs ps := by
  unfold openP
  split
  · rw [sumPs_append]; simp [sumPs, sumZ]
  · split
    · rfl
    · rw [sumPs_append]; simp [sumPs, sumZ]
theorem sumPs_put (ps : List Pt) (r : Zp) (h : 0 < ps.length) : sumPs (putR ps r) = sumPs ps + r.2 := by
  obtain ⟨m, hm⟩ : ∃ m, ps.length = m + 1 := ⟨ps.length - 1, by omega⟩
  have hlt : m < ps.length := by omega
  rw [putR_at hm, List.set_eq_take_append_cons_drop, if_pos hlt, sumPs_append]
  have e : ps = ps.take m ++ ([ps[m]] ++ ps.drop (m + 1)) := by rw [List.singleton_append, ← List.drop_eq_getElem_cons hlt, List.take_append_drop]
  have e2 : sumPs ps = sumPs (ps.take m) + (sumZ ps[m].2 + sumPs (ps.drop (m + 1))) := by
    have := congrArg sumPs e
    rw [sumPs_append, sumPs_append] at this
    simpa [sumPs] using this
  rw [e2, sumPs, sumZ_snoc]
  omega
theorem sumPs_partL (L : List Kp) : sumPs (partL L) = sumK L := by
  have aux : ∀ (L : List Kp) (ps : List Pt), sumPs (L.foldl (fun ps x => putR (openP ps x) x.2) ps) = sumPs ps + sumK L := by
    intro L
    induction L with
    | nil => intro ps; simp [sumK]
    | cons x r ih => intro ps; rw [List.foldl_cons, ih, sumPs_put _ _ (openP_len ps x).2, sumPs_open, sumK]; omega
  have := aux L []
  simpa [partL, sumPs] using this
theorem cmpL_app {a b x y : List Vl} (hl : a.length = b.length) (h : cmpL (a ++ x) (b ++ y) = 0) : cmpL a b = 0 := by
  have e := bareL_of h
  unfold bareL at e
  rw [List.map_append, List.map_append] at e
  have e1 := (List.append_inj e (by simp [hl])).1
  have e2 : bareL a = bareL b := e1
  have c1 : cmpL a b = cmpL a (bareL b) := (cmpL_bareR a b).symm
  rw [c1, ← e2, cmpL_bareR, cmpL_refl]
theorem wt_apart {l : List Zp} (h : l.Pairwise fun x y => cmpL x.1 y.1 ≠ 0) : ∀ x ∈ l, wt l x.1 = x.2 := by
  induction l with
  | nil => intro x hx; cases hx
  | cons y t ih =>
    obtain ⟨h1, h2⟩ := List.pairwise_cons.1 h
    intro x hx
    rcases List.mem_cons.1 hx with rfl | hx
    · rw [wt, if_pos (cmpL_refl _), wt_none fun v hv hc => h1 v hv (by have := cmpL_neg x.1 v.1; omega)]
      omega
    · rw [wt, if_neg (h1 x hx), ih h2 x hx]
      omega

def cntG (x0 : Ex) : List Ag := [(1, x0)]
theorem known_rows (rows : List Zp) (x0 : Ex) : sumW (knownL (measF (1, x0)) rows) = sumZ rows := by
  have e : measF (1, x0) = fun _ => (2, 1, ⟨#[]⟩) := by unfold measF; rw [if_pos rfl]
  rw [e]
  unfold knownL
  induction rows with
  | nil => rfl
  | cons p r ih =>
    rw [List.filterMap_cons]
    simp only [show ¬ ((2 : Int) = 1) by decide, if_false]
    rw [sumW, sumZ]
    simp only [show ¬ ((2 : Int) = 1) by decide, if_false] at ih
    rw [ih]
theorem agg_cnt (rows : List Zp) (x0 : Ex) : aggP (1, x0) rows = (3, sumZ rows, ⟨#[]⟩) := by
  unfold aggP totP
  rw [if_neg (by simp), if_neg (by simp), if_neg (by simp)]
  unfold countP
  rw [known_rows]
/-- The number at a place, as far as its kind has one. -/
def numAt (k : Nat) (r : List Vl) : Int := ((bareL r).getD k vl0).2.1
theorem resp_num (k : Nat) : Resp (numAt k) := fun a b h => by unfold numAt; rw [bareL_of h]
theorem sumRow (p : Pt) (x0 : Ex) (n : Nat) (h : p.1.length = n) : numAt n (p.1 ++ (cntG x0).map fun g => aggP g p.2) = sumZ p.2 := by
  unfold numAt cntG
  simp only [List.map_cons, List.map_nil, agg_cnt]
  unfold bareL
  rw [List.map_append]
  subst h
  simp [List.getD, bareP, bareN]
structure CntOk (xs : List Ex) (z t : List Zp) : Prop where
  len : t.length ≤ 401
  row : ∀ y ∈ t, y.2 = 1 ∧ y.1.length = xs.length + 1 ∧ 0 ≤ numAt xs.length y.1 ∧ numAt xs.length y.1 ≤ 400000000
  num : ∀ y ∈ t, (y.1.getD xs.length vl0).2.1 = numAt xs.length y.1
  sum : tot (numAt xs.length) t = posW z
  one : xs.length = 0 → t.length = 1
theorem sumZ_bd {l : List Zp} (h : ∀ p ∈ l, 0 ≤ p.2 ∧ p.2 ≤ 1000000) : 0 ≤ sumZ l ∧ sumZ l ≤ 1000000 * (l.length : Int) := by
  induction l with
  | nil => simp [sumZ]
  | cons p r ih =>
    have h1 := h p (by simp)
    have h2 := ih fun q hq => h q (by simp [hq])
    rw [sumZ, List.length_cons]
    omega
theorem groupE_ok {cols : List Int} {xs : List Ex} {gs : List Ag} {z : List Zp} (h : groupE cols xs gs z = 0) : InpOk cols z ∧ gatherE (groupL xs gs (inOrd xs z)) = 0 := by
  unfold groupE at h
  split at h
  · cases h
  · split at h
    · rename_i h1; exact absurd h h1
    · split at h
      · rename_i h1; exact absurd h h1
      · split at h
        · rename_i h1; exact absurd h h1
        · rename_i h1
          exact ⟨(inpE_ok _ _).1 (Classical.byContradiction h1), h⟩
theorem count_ok {cols : List Int} {xs : List Ex} {x0 : Ex} {z : List Zp} (h : groupE cols xs (cntG x0) z = 0) : CntOk xs z (groupZ cols xs (cntG x0) z) := by
  obtain ⟨hO, hga⟩ := groupE_ok h
  have hr : Rise z := ((wrongZ_iff z).1 hO.set).2.2
  have eZ : groupZ cols xs (cntG x0) z = canon (groupL xs (cntG x0) (inOrd xs z)) := by unfold groupZ; rw [if_pos h]
  obtain ⟨hpl, hpk⟩ := parts_ok (xs := xs) hO
  have hgl : groupL xs (cntG x0) (inOrd xs z) = (partsG xs (inOrd xs z)).map fun p => (p.1 ++ (cntG x0).map fun g => aggP g p.2, 1) := rfl
  have hrise : (partsG xs (inOrd xs z)).Pairwise (fun p q => cmpL p.1 q.1 < 0) := by
    unfold partsG
    split
    · exact List.pairwise_singleton _ _
    · exact partL_rise hr
  have hap : (groupL xs (cntG x0) (inOrd xs z)).Pairwise fun x y => cmpL x.1 y.1 ≠ 0 := by
    rw [hgl]
    refine List.pairwise_map.2 (hrise.imp_of_mem fun {p q} hp hq hlt hc => ?_)
    have := cmpL_app (by rw [(hpk p hp).2, (hpk q hq).2]) hc
    omega
  have hmem : ∀ x ∈ groupL xs (cntG x0) (inOrd xs z), x.2 = 1 ∧ x.1.length = xs.length + 1 ∧ 0 ≤ numAt xs.length x.1 ∧ numAt xs.length x.1 ≤ 400000000 := fun x hx => by
    rw [hgl] at hx
    obtain ⟨p, hp, rfl⟩ := List.mem_map.1 hx
    obtain ⟨ro, rk⟩ := hpk p hp
    have hb := sumZ_bd ro.wt
    have hl := ro.len
    refine ⟨rfl, by simp [cntG, rk], ?_, ?_⟩
    · show 0 ≤ numAt xs.length (p.1 ++ _)
      rw [sumRow p x0 _ rk]; exact hb.1
    · show numAt xs.length (p.1 ++ _) ≤ _
      rw [sumRow p x0 _ rk]; omega
  have hset : IsSet (canon (groupL xs (cntG x0) (inOrd xs z))) := canon_set _
  have hrow : ∀ y ∈ canon (groupL xs (cntG x0) (inOrd xs z)), ∃ x ∈ groupL xs (cntG x0) (inOrd xs z), cmpL x.1 y.1 = 0 ∧ y.2 = x.2 := fun y hy => by
    have e1 := wt_mem hset.rise y hy
    rw [canon_wt] at e1
    obtain ⟨x, hx, e2⟩ := wt_some (l := groupL xs (cntG x0) (inOrd xs z)) (q := y.1) (by rw [e1]; exact hset.ne y hy)
    exact ⟨x, hx, e2, by rw [← e1, ← wt_congr e2, wt_apart hap x hx]⟩
  refine ⟨?_, fun y hy => ?_, fun y hy => ?_, ?_, fun h0 => ?_⟩
  · rw [eZ]; have := (gather_ok hga).2; omega
  · rw [eZ] at hy
    obtain ⟨x, hx, e1, e2⟩ := hrow y hy
    obtain ⟨m1, m2, m3, m4⟩ := hmem x hx
    have en : numAt xs.length y.1 = numAt xs.length x.1 := (resp_num _ _ _ e1).symm
    exact ⟨by rw [e2]; exact m1, by rw [← cmpL_len e1]; exact m2, by rw [en]; exact m3, by rw [en]; exact m4⟩
  · rw [eZ] at hy
    unfold numAt
    rw [hset.bare y hy]
  · rw [eZ, tot_canon (resp_num _), hgl]
    have hsum : ∀ ps : List Pt, (∀ p ∈ ps, p.1.length = xs.length) → tot (numAt xs.length) (ps.map fun p => (p.1 ++ (cntG x0).map fun g => aggP g p.2, 1)) = sumPs ps := by
      intro ps
      induction ps with
      | nil => intro _; rfl
      | cons p r ih =>
        intro hp
        rw [List.map_cons, tot, sumPs, ih fun q hq => hp q (by simp [hq])]
        simp only [sumRow p x0 _ (hp p (by simp))]
        omega
    rw [hsum _ fun p hp => (hpk p hp).2]
    have hpw : sumPs (partL (inOrd xs z)) = posW z := by rw [sumPs_partL, sumK_perm (inOrd_perm _ z), sumK_with]
    unfold partsG
    split
    · rename_i hc
      have : partL (inOrd xs z) = [] := List.eq_nil_of_length_eq_zero hc.2
      rw [this] at hpw
      rw [← hpw]; simp [sumPs, sumZ]
    · exact hpw
  · have h1 : (partsG xs (inOrd xs z)).length = 1 := by
      unfold partsG
      split
      · rfl
      · rename_i hc
        have hne : ¬ (partL (inOrd xs z)).length = 0 := fun e => hc ⟨h0, e⟩
        have hk : ∀ p ∈ partL (inOrd xs z), p.1 = [] := fun p hp => by
          have := (hpk p (by unfold partsG; rw [if_neg hc]; exact hp)).2
          exact List.eq_nil_of_length_eq_zero (by omega)
        by_cases h2 : (partL (inOrd xs z)).length = 1
        · exact h2
        · have hlt : 1 < (partL (inOrd xs z)).length := by omega
          have := List.pairwise_iff_getElem.1 (partL_rise (xs := xs) hr) 0 1 (by omega) hlt (by omega)
          rw [hk _ (List.getElem_mem _), hk _ (List.getElem_mem _)] at this
          simp [cmpL] at this
    rw [eZ, hgl]
    match hp : partsG xs (inOrd xs z), h1 with
    | [p], _ => simp [canon, putL]
end Go.Proofs.YtajbjhaoeeiigaaGreat
/- How long the lists of expressions may be that are read. -/
namespace Go.Proofs.YtajbjhaoeeiigaaGreat
open Go.ChangeShapes Go.WideShapes Go.ChangeAt Go.RowKit Go.Joins

theorem bytes_expr : 8 ≤ Tryz.prog.bytesOf 32 := by decide +kernel
theorem exprs_sized {H : Type} {enc : TypeId × Value → H} {W : World} {a : Option Addr} {n cap : Nat} {d : DataW H} {p : List MemPlace} (h : DataW.Trod enc Tryz.prog W 0 (fun _ => true) true 23 (.slice a n cap) d p)
    {ts : List TypeId} {ds : List (DataW H)} (hs : (DataW.weightsEach Tryz.prog ts ds).all (· ≤ reachBytes) = true) {j : Nat} (ht : ts[j]? = some 23) (hd : ds[j]? = some d) : n ≤ 100000000000000 := by
  obtain ⟨fuel, hf⟩ := h
  rcases DataW.trod_slice Tryz.underlying23 hf with ⟨hcs, _⟩ | ⟨a', len, cap', elems, rest, m, hm, hcs, hx, _, _, _, hlen, _⟩
  · simp [Value.cells] at hcs
    omega
  · simp [Value.cells] at hcs
    obtain ⟨rfl, rfl, rfl⟩ := hcs
    simp only [Prod.mk.injEq] at hx
    have e := hx.1
    subst e
    have h1 := sized_slice hs ht hd Tryz.underlying23
    simp only [List.length_map] at h1
    have h2 := reachBytes_lt
    have h3 := bytes_expr
    have h4 : n * 8 ≤ (elems.length + rest.length) * Tryz.prog.bytesOf 32 := Nat.mul_le_mul (by omega) h3
    omega
end Go.Proofs.YtajbjhaoeeiigaaGreat
