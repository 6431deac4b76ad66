/- The walks of zsets.withTimes, zsets.Add and zsets.Sub. -/
import Derived.Test.YtibobmkelmalkaaZF
namespace Go.Proofs.Ytibobmkelmalkaa
open Go.RowKit Go.Lib Go.Shelf

theorem OwnZ.zs2 {base : Nat} {W : World} {v : Value} {l : List Zp} (h : OwnZ base W v l) : ∃ a cap, v = .slice a l.length cap ∧ ZsAt W a l ∧ (a = none → cap = 0) := by
  obtain ⟨a, cap, rfl, z⟩ := h.zs
  refine ⟨a, cap, rfl, z, ?_⟩
  intro e
  subst e
  obtain ⟨xs, ⟨_, ⟨e4, _⟩ | ⟨g, c1, cur, e4, _⟩⟩, _⟩ := h
  · injection e4
  · injection e4 with e4; cases e4

def timesF (t : Int) (w : Int) : Int := t * w
/-- What is wrong with two sets, or with what they make. -/
def bothE (t : Int) (a b : List Zp) : Int := if wrongZ a = 0 then (if wrongZ b = 0 then gatherE (a ++ weighL (timesF t) b) else wrongZ b) else wrongZ a
def bothZ (t : Int) (a b : List Zp) : List Zp := if bothE t a b = 0 then canon (a ++ weighL (timesF t) b) else []

theorem eg59 : ∀ args w, (callFunc 36 args).run Try.prog w = .ok (.enter 36 args) w := enters_of Try.func36 (by kernel_rfl) rfl
theorem makes59 (w : World) (B : Nat) (t : Int) (hB : w.cell? ⟨B, 0, none⟩ = some (.int .i64 t)) (ht : t = 1 ∨ t = -1) : Makes 36 #[.pointer (some ⟨B, 0, none⟩)] (timesF t) w := by
  intro x W hx hb
  have hx := (inW_iff _).1 hx
  have hc := (hb.cell (p := ⟨B, 0, none⟩) (World.block_lt_of_cell? _ _ hB)).trans hB
  show Calls Try.prog 36 #[.int .i64 x, .pointer (some ⟨B, 0, none⟩)] W _
  have e : timesF t x = t * x := rfl
  rw [e]
  rcases ht with rfl | rfl
  · go_enter Try.func36, Try.ntmps36
    go_wp2
    go_ret
    exact ⟨ret_int (by omega), Below.refl _ _⟩
  · go_enter Try.func36, Try.ntmps36
    go_wp2
    go_ret
    exact ⟨ret_int (by omega), Below.refl _ _⟩
theorem timesF_in (t : Int) (ht : t = 1 ∨ t = -1) (x : Int) (h : inW x = true) : inW (timesF t x) = true := by
  rw [inW_iff] at *
  unfold timesF
  rcases ht with rfl | rfl <;> omega

set_option maxRecDepth 100000 in
set_option maxHeartbeats 4000000 in
theorem withTimes_at (t : Int) (ht : t = 1 ∨ t = -1) (a b : Option Addr) (ca cb : Nat) (l l' : List Zp) (w : World) (h : ZsAt w a l) (h' : ZsAt w b l') (hn : a = none → ca = 0) :
    Calls Try.prog 24 #[.slice a l.length ca, .slice b l'.length cb, .int .i64 t] w fun e w' => ∃ v, e = .returned (.tuple #[v, .int .i64 (bothE t l l')]) ∧ OwnZ w.heap.size w' v (bothZ t l l') ∧ Below w.heap.size w w' := by
  have bA : Below w.heap.size w ((w.alloc (.cells #[.int .i64 t] 2)).alloc (.cells #[.slice a l.length ca, .slice b l'.length cb] 34)) := ((Below.refl _ _).alloc (Nat.le_refl _) _).alloc (by simp) _
  have cA0 : ((w.alloc (.cells #[.int .i64 t] 2)).alloc (.cells #[.slice a l.length ca, .slice b l'.length cb] 34)).cell? ⟨w.heap.size, 0, none⟩ = some (.int .i64 t) := by simp
  have cB0 : ((w.alloc (.cells #[.int .i64 t] 2)).alloc (.cells #[.slice a l.length ca, .slice b l'.length cb] 34)).cell? ⟨w.heap.size + 1, 0, none⟩ = some (.slice a l.length ca) := by simp
  have cB1 : ((w.alloc (.cells #[.int .i64 t] 2)).alloc (.cells #[.slice a l.length ca, .slice b l'.length cb] 34)).cell? ⟨w.heap.size + 1, 1, none⟩ = some (.slice b l'.length cb) := by simp
  have zA := h.next bA
  have zB := h'.next bA
  have hzA : w.heap.size + 2 ≤ ((w.alloc (.cells #[.int .i64 t] 2)).alloc (.cells #[.slice a l.length ca, .slice b l'.length cb] 34)).heap.size := by simp
  by_cases hw : wrongZ l = 0
  · have Hw : Hid (wrongZ l = 0) := hw
    by_cases hw' : wrongZ l' = 0
    · have Hw' : Hid (wrongZ l' = 0) := hw'
      have hok := (wrongZ_iff l).1 hw
      have hok' := (wrongZ_iff l').1 hw'
      have eE : bothE t l l' = gatherE (l ++ weighL (timesF t) l') := by simp [bothE, hw, hw']
      have eZ : bothZ t l l' = gatherZ (l ++ weighL (timesF t) l') := by unfold bothZ gatherZ; rw [eE]
      rw [eE, eZ]
      have hlen := weighL_len (timesF t) l'
      have hin : ∀ x ∈ l ++ weighL (timesF t) l', inW x.2 = true ∧ x.1.length ≤ 8 := by
        intro x hx
        rcases List.mem_append.1 hx with hx | hx
        · exact ⟨(hok.2.1 x hx).2.2, ((wrongRowF_zero _).1 (hok.2.1 x hx).1).1⟩
        · obtain ⟨y, hy, rfl, _⟩ := weighL_mem _ _ x hx
          exact ⟨timesF_in t ht _ (hok'.2.1 y hy).2.2, by simp only [bareL_length]; exact ((wrongRowF_zero _).1 (hok'.2.1 y hy).1).1⟩
      have HIn : Hid (∀ x ∈ l ++ weighL (timesF t) l', inW x.2 = true ∧ x.1.length ≤ 8) := hin
      clear hw hw' eE eZ hin
      go_enter Try.func24, Try.ntmps24
      go_wp2_with fail
      generalize ((w.alloc (.cells #[.int .i64 t] 2)).alloc (.cells #[.slice a l.length ca, .slice b l'.length cb] 34)) = wA at *
      refine wp_loop_rounds 3 ?_
      rw [rounds_succ]
      go_wp2_with fail
      refine (zWrong_at _ _ _ _ zA).mono ?_
      rintro e w1 ⟨rfl, hb1⟩
      rw [Hw.out]
      have cB1' := (hb1.cell (p := ⟨w.heap.size + 1, 1, none⟩) (World.block_lt_of_cell? _ _ cB1)).trans cB1
      have cA0' := (hb1.cell (p := ⟨w.heap.size, 0, none⟩) (World.block_lt_of_cell? _ _ cA0)).trans cA0
      go_wp2_with fail
      rw [rounds_succ]
      go_wp2_with fail
      refine (zWrong_at _ _ _ _ (zB.next hb1)).mono ?_
      rintro e w2 ⟨rfl, hb2⟩
      rw [Hw'.out]
      have cA2 := (hb2.cell (p := ⟨w.heap.size, 0, none⟩) (World.block_lt_of_cell? _ _ cA0')).trans cA0'
      go_wp2_with fail
      rw [rounds_succ]
      go_wp2_with fail
      refine (weighed_at 36 #[.pointer (some ⟨w.heap.size, 0, none⟩)] (timesF t) b cb l' w2 ((zB.next hb1).next hb2) eg59 (makes59 w2 w.heap.size t cA2 ht) (by omega) (fun x hx => ((wrongRowF_zero _).1 (hok'.2.1 x hx).1).1) (fun x hx => (hok'.2.1 x hx).2.2)).mono ?_
      rintro e w3 ⟨v3, rfl, O3, hb3⟩
      obtain ⟨a3, c3, rfl, z3, n3⟩ := O3.zs2
      have z1 := ((zA.next hb1).next hb2).next hb3
      have b3 := chain1 (chain1 (chain1 bA hb1) hb2) hb3
      have b4 : Below w3.heap.size w3 (w3.alloc (.cells #[.slice a l.length ca, .slice a3 (weighL (timesF t) l').length c3] 34)) := (Below.refl _ _).alloc (Nat.le_refl _) _
      have pr : Pair (w3.alloc (.cells #[.slice a l.length ca, .slice a3 (weighL (timesF t) l').length c3] 34)) w3.heap.size l (weighL (timesF t) l') := by
        refine ⟨by simp, fun k hk => ?_⟩
        match k, hk with
        | 0, _ => exact ⟨a, ca, l, by simp, z1.next b4, hn, by simp [catTo]⟩
        | 1, _ => exact ⟨a3, c3, _, by simp, z3.next b4, n3, by simp [catTo]⟩
      have cc := concat_at w3.heap.size l (weighL (timesF t) l') _ pr (by omega)
      clear O3 pr hb1 hb2 hb3 cA0 cB0 cB1 cA0' cB1' cA2 z1 z3
      generalize hm : weighL (timesF t) l' = m at *
      have HM : Hid (weighL (timesF t) l' = m) := hm
      clear hm
      go_wp2_with fail
      refine cc.mono ?_
      clear cc
      rintro e w5 ⟨a5, c5, rfl, z5, n5, hb5⟩
      have hql : (l ++ m).length ≤ 2000 := by simp; omega
      generalize hq : l ++ m = qq at *
      have HQ : Hid (l ++ m = qq) := hq
      clear hq
      go_wp2_with fail
      refine (gathered_at _ _ _ _ z5 (by omega) (fun x hx => inW_big (HIn.out x hx).1) (fun x hx => (HIn.out x hx).2)).mono ?_
      rintro e w6 ⟨v6, rfl, O6, hb6⟩
      have bb := chain1 (chain1 (chain1 b3 b4) hb5) hb6
      have O6' := O6.mono (Nat.le_trans (Nat.le_trans b3.size b4.size) hb5.size)
      obtain ⟨a6, c6, rfl, z6⟩ := O6.zs
      go_wp2_with fail
      exact bodyPost_ret (v := .tuple #[.slice a6 (gatherZ qq).length c6, .int .i64 (gatherE qq)]) (by simp [results, Try.results24, go_sem]) rfl ⟨_, by rw [HM.out, HQ.out], by rw [HM.out, HQ.out]; exact O6', bb⟩
    · have eE : bothE t l l' = wrongZ l' := by simp [bothE, hw, hw']
      have eZ : bothZ t l l' = [] := by simp [bothZ, eE, hw']
      rw [eE, eZ]
      have hne : (wrongZ l' != 0) = true := by simpa using hw'
      clear hw hw' eE eZ
      go_enter Try.func24, Try.ntmps24
      go_wp2_with fail
      generalize ((w.alloc (.cells #[.int .i64 t] 2)).alloc (.cells #[.slice a l.length ca, .slice b l'.length cb] 34)) = wA at *
      refine wp_loop_rounds 3 ?_
      rw [rounds_succ]
      go_wp2_with fail
      refine (zWrong_at _ _ _ _ zA).mono ?_
      rintro e w1 ⟨rfl, hb1⟩
      rw [Hw.out]
      have cB1' := (hb1.cell (p := ⟨w.heap.size + 1, 1, none⟩) (World.block_lt_of_cell? _ _ cB1)).trans cB1
      go_wp2_with fail
      rw [rounds_succ]
      go_wp2_with fail
      refine (zWrong_at _ _ _ _ (zB.next hb1)).mono ?_
      rintro e w2 ⟨rfl, hb2⟩
      go_wp2_with fail
      exact bodyPost_ret (v := .tuple #[.slice none 0 0, .int .i64 (wrongZ l')]) (by simp [results, Try.results24, go_sem]) rfl ⟨_, rfl, own_nil _ _, chain1 (chain1 bA hb1) hb2⟩
  · have eE : bothE t l l' = wrongZ l := by simp [bothE, hw]
    have eZ : bothZ t l l' = [] := by simp [bothZ, eE, hw]
    rw [eE, eZ]
    have hne : (wrongZ l != 0) = true := by simpa using hw
    clear hw eE eZ
    go_enter Try.func24, Try.ntmps24
    go_wp2_with fail
    generalize ((w.alloc (.cells #[.int .i64 t] 2)).alloc (.cells #[.slice a l.length ca, .slice b l'.length cb] 34)) = wA at *
    refine wp_loop_rounds 3 ?_
    rw [rounds_succ]
    go_wp2_with fail
    refine (zWrong_at _ _ _ _ zA).mono ?_
    rintro e w1 ⟨rfl, hb1⟩
    go_wp2_with fail
    exact bodyPost_ret (v := .tuple #[.slice none 0 0, .int .i64 (wrongZ l)]) (by simp [results, Try.results24, go_sem]) rfl ⟨_, rfl, own_nil _ _, chain1 bA hb1⟩

set_option maxRecDepth 100000 in
set_option maxHeartbeats 400000 in
theorem add_at (a b : Option Addr) (ca cb : Nat) (l l' : List Zp) (w : World) (h : ZsAt w a l) (h' : ZsAt w b l') (hn : a = none → ca = 0) :
    Calls Try.prog 15 #[.slice a l.length ca, .slice b l'.length cb] w fun e w' => ∃ v, e = .returned (.tuple #[v, .int .i64 (bothE 1 l l')]) ∧ OwnZ w.heap.size w' v (bothZ 1 l l') ∧ Below w.heap.size w w' := by
  go_enter Try.func15, Try.ntmps15
  go_wp2_with fail
  refine (withTimes_at 1 (by omega) a b ca cb l l' w h h' hn).mono ?_
  rintro e w1 ⟨v, rfl, O1, hb1⟩
  obtain ⟨a1, c1, rfl, z1⟩ := O1.zs
  go_wp2_with fail
  exact bodyPost_ret (v := .tuple #[.slice a1 (bothZ 1 l l').length c1, .int .i64 (bothE 1 l l')]) (by simp [results, Try.results15, go_sem]) rfl ⟨_, rfl, O1, hb1⟩

set_option maxRecDepth 100000 in
set_option maxHeartbeats 400000 in
theorem sub_at (a b : Option Addr) (ca cb : Nat) (l l' : List Zp) (w : World) (h : ZsAt w a l) (h' : ZsAt w b l') (hn : a = none → ca = 0) :
    Calls Try.prog 13 #[.slice a l.length ca, .slice b l'.length cb] w fun e w' => ∃ v, e = .returned (.tuple #[v, .int .i64 (bothE (-1) l l')]) ∧ OwnZ w.heap.size w' v (bothZ (-1) l l') ∧ Below w.heap.size w w' := by
  go_enter Try.func13, Try.ntmps13
  go_wp2_with fail
  refine (withTimes_at (-1) (by omega) a b ca cb l l' w h h' hn).mono ?_
  rintro e w1 ⟨v, rfl, O1, hb1⟩
  obtain ⟨a1, c1, rfl, z1⟩ := O1.zs
  go_wp2_with fail
  exact bodyPost_ret (v := .tuple #[.slice a1 (bothZ (-1) l l').length c1, .int .i64 (bothE (-1) l l')]) (by simp [results, Try.results13, go_sem]) rfl ⟨_, rfl, O1, hb1⟩
end Go.Proofs.Ytibobmkelmalkaa
