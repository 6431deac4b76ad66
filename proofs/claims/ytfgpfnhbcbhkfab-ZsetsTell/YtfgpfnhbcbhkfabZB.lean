/- The walks of zsets.Neg, Positive, Distinct and Weight, and of the document's Same at sets that are the same. -/
import Derived.Test.YtfgpfnhbcbhkfabZA
namespace Go.Proofs.Ytfgpfnhbcbhkfab
open Go.RowKit Go.Lib Go.Shelf

set_option maxHeartbeats 400000 in
theorem neg_at (a : Option Addr) (cap : Nat) (l : List Zp) (w : World) (h : ZsAt w a l) :
    Calls Try.prog 20 #[.slice a l.length cap] w fun e w' => ∃ v, e = .returned (.tuple #[v, .int .i64 (wrongZ l)]) ∧ OwnZ w.heap.size w' v (setZ (fun w => -w) l) ∧ Below w.heap.size w w' := by
  go_enter Try.func20, Try.ntmps20
  go_wp2_with fail
  refine (weighedSet_at 46 #[] (fun w => -w) a cap l w h eg46 makes46).mono ?_
  rintro e w1 ⟨v, rfl, O1, hb1⟩
  obtain ⟨a1, c1, rfl, z1⟩ := O1.zs
  go_wp2_with fail
  exact bodyPost_ret (v := .tuple #[.slice a1 (setZ (fun w => -w) l).length c1, .int .i64 (wrongZ l)]) (by simp [results, Try.results20, go_sem]) rfl ⟨_, rfl, O1, hb1⟩
set_option maxHeartbeats 400000 in
theorem positive_at (a : Option Addr) (cap : Nat) (l : List Zp) (w : World) (h : ZsAt w a l) :
    Calls Try.prog 23 #[.slice a l.length cap] w fun e w' => ∃ v, e = .returned (.tuple #[v, .int .i64 (wrongZ l)]) ∧ OwnZ w.heap.size w' v (setZ posF l) ∧ Below w.heap.size w w' := by
  go_enter Try.func23, Try.ntmps23
  go_wp2_with fail
  refine (weighedSet_at 47 #[] posF a cap l w h eg47 makes47).mono ?_
  rintro e w1 ⟨v, rfl, O1, hb1⟩
  obtain ⟨a1, c1, rfl, z1⟩ := O1.zs
  go_wp2_with fail
  exact bodyPost_ret (v := .tuple #[.slice a1 (setZ posF l).length c1, .int .i64 (wrongZ l)]) (by simp [results, Try.results23, go_sem]) rfl ⟨_, rfl, O1, hb1⟩
set_option maxHeartbeats 400000 in
theorem distinct_at (a : Option Addr) (cap : Nat) (l : List Zp) (w : World) (h : ZsAt w a l) :
    Calls Try.prog 25 #[.slice a l.length cap] w fun e w' => ∃ v, e = .returned (.tuple #[v, .int .i64 (wrongZ l)]) ∧ OwnZ w.heap.size w' v (setZ oneF l) ∧ Below w.heap.size w w' := by
  go_enter Try.func25, Try.ntmps25
  go_wp2_with fail
  refine (weighedSet_at 49 #[] oneF a cap l w h eg49 makes49).mono ?_
  rintro e w1 ⟨v, rfl, O1, hb1⟩
  obtain ⟨a1, c1, rfl, z1⟩ := O1.zs
  go_wp2_with fail
  exact bodyPost_ret (v := .tuple #[.slice a1 (setZ oneF l).length c1, .int .i64 (wrongZ l)]) (by simp [results, Try.results25, go_sem]) rfl ⟨_, rfl, O1, hb1⟩

set_option maxHeartbeats 400000 in
theorem weight1_at (a a' : Option Addr) (cap cap' : Nat) (x : Int) (l l' : List Vl) (w : World) (h : SlAt w a l) (h' : SlAt w a' l') :
    Calls Try.prog 41 #[.agg #[.slice a l.length cap, .int .i64 x], .slice a' l'.length cap'] w fun e w' => e = .returned (.int .i64 (cmpL l l')) ∧ Below w.heap.size w w' := by
  go_enter Try.func41, Try.ntmps41
  go_wp2_with fail
  have b2 : Below w.heap.size w (w.alloc (.cells #[.slice a l.length cap, .int .i64 x] 42)) := (Below.refl _ _).alloc (Nat.le_refl _) _
  refine (rows_at _ _ _ _ _ _ _ (h.next b2) (h'.next b2)).mono ?_
  rintro e w1 ⟨rfl, hb1⟩
  go_wp2_with fail
  go_ret
  exact ⟨rfl, below1 hb1⟩

/-- The place of a row. -/
def PlaceOf (l : List Zp) (r : List Vl) (i : Nat) : Prop := i ≤ l.length ∧ (∀ t (h : t < l.length), t < i → cmpL l[t].1 r < 0) ∧ ∀ t (h : t < l.length), i ≤ t → 0 ≤ cmpL l[t].1 r
theorem rise_get {l : List Zp} (h : Rise l) {i j : Nat} (hi : i < l.length) (hj : j < l.length) (hij : i < j) : cmpL l[i].1 l[j].1 < 0 := List.pairwise_iff_getElem.1 h i j hi hj hij
theorem wt_found {l : List Zp} {r : List Vl} {i : Nat} (h : Rise l) (hi : i < l.length) (hc : cmpL l[i].1 r = 0) : wt l r = l[i].2 := by
  rw [← wt_mem h l[i] (List.getElem_mem hi)]
  exact (wt_congr (q := l[i].1) (q' := r) hc l).symm
theorem wt_lost {l : List Zp} {r : List Vl} {i : Nat} (h : Rise l) (hp : PlaceOf l r i) (hc : ∀ hi : i < l.length, ¬ cmpL l[i].1 r = 0) : wt l r = 0 := by
  refine wt_none fun x hx => ?_
  obtain ⟨t, ht, rfl⟩ := List.getElem_of_mem hx
  rcases Nat.lt_trichotomy t i with g | g | g
  · have := hp.2.1 t ht g; omega
  · subst g; exact hc ht
  · have h1 := hp.2.2 i (by omega) (Nat.le_refl _)
    have h2 := rise_get h (i := i) (j := t) (by omega) ht g
    have h3 := cmpL_neg l[i].1 r
    have h4 := cmpL_neg l[t].1 r
    have h5 := cmpL_le_lt (a := r) (b := l[i].1) (c := l[t].1) (by omega) h2
    omega

set_option maxHeartbeats 2000000 in
theorem search_at (a a' : Option Addr) (cap cap' : Nat) (l : List Zp) (r : List Vl) (w : World) (h : ZsAt w a l) (h' : SlAt w a' r) (hr : Rise l) (hl : l.length ≤ 100000) :
    Calls Try.prog 40 #[.slice a l.length cap, .slice a' r.length cap', .func (.func 41) #[] #[]] w fun e w' =>
      (∃ i : Nat, ∃ f : Bool, e = .returned (.tuple #[.int .i64 i, .bool f]) ∧ PlaceOf l r i ∧ (f = true ↔ ∃ hi : i < l.length, cmpL l[i].1 r = 0)) ∧ Below w.heap.size w w' := by
  go_enter Try.func40, Try.ntmps40
  go_wp2_with fail
  go_loopw [9, 10] (fun s9 s10 wr => ∃ lo hi : Nat, s9 = .int .i64 lo ∧ s10 = .int .i64 hi ∧ lo ≤ hi ∧ hi ≤ l.length ∧ Hid ((∀ t (h : t < l.length), t < lo → cmpL l[t].1 r < 0) ∧ ∀ t (h : t < l.length), hi ≤ t → 0 ≤ cmpL l[t].1 r) ∧ Below w.heap.size w wr) (fun s9 s10 _ => (intOf s10 - intOf s9).toNat)
  case atStart => exact ⟨0, l.length, rfl, rfl, Nat.zero_le _, Nat.le_refl _, ⟨fun t _ ht => absurd ht (Nat.not_lt_zero _), fun t ht ht' => by omega⟩, Below.refl _ _⟩
  case round =>
    obtain ⟨lo, hi, rfl, rfl, hlh, hin, I, hb⟩ := hrel
    have hz := hb.size
    by_cases hlt : lo < hi
    · have hm : (lo + hi) / 2 < l.length := by omega
      obtain ⟨b, off, rfl, hbl, c1, ar, cr, c0, sr⟩ := (h.next hb).elem hm
      by_cases hc : cmpL l[(lo + hi) / 2].1 r < 0
      · go_wp2_with (go_at_call 41; refine (weight1_at _ _ _ _ _ _ _ _ sr (h'.next hb)).mono ?_; rintro e w1 ⟨rfl, hb1⟩)
        go_roundw
        case rel =>
          refine ⟨(lo + hi) / 2 + 1, hi, by rw [show ((lo : Int) + (hi : Int)) / 2 + 1 = (((lo + hi) / 2 + 1 : Nat) : Int) by omega], rfl, by omega, hin, ⟨fun t ht hlt' => ?_, I.out.2⟩, chain1 hb hb1⟩
          by_cases e : t = (lo + hi) / 2
          · subst e; exact hc
          · exact cmpL_lt_le (rise_get hr ht hm (by omega)) (by omega)
        case measure => simp [intOf]; omega
      · go_wp2_with (go_at_call 41; refine (weight1_at _ _ _ _ _ _ _ _ sr (h'.next hb)).mono ?_; rintro e w1 ⟨rfl, hb1⟩)
        go_roundw
        case rel =>
          refine ⟨lo, (lo + hi) / 2, rfl, by rw [show ((lo : Int) + (hi : Int)) / 2 = (((lo + hi) / 2 : Nat) : Int) by omega], by omega, by omega, ⟨I.out.1, fun t ht hlt' => ?_⟩, chain1 hb hb1⟩
          by_cases e : t = (lo + hi) / 2
          · subst e; omega
          · have h2 := rise_get hr (i := (lo + hi) / 2) (j := t) hm ht (by omega)
            have h3 := cmpL_neg l[(lo + hi) / 2].1 r
            have h4 := cmpL_neg l[t].1 r
            have h5 := cmpL_le_lt (a := r) (b := l[(lo + hi) / 2].1) (c := l[t].1) (by omega) h2
            omega
        case measure => simp [intOf]; omega
    · obtain rfl : hi = lo := by omega
      by_cases hn : hi < l.length
      · obtain ⟨b, off, rfl, hbl, c1, ar, cr, c0, sr⟩ := (h.next hb).elem hn
        by_cases hc : cmpL l[hi].1 r = 0
        · have HC : Hid (cmpL l[hi].1 r = 0) := hc
          go_wp2_with (go_at_call 41; refine (weight1_at _ _ _ _ _ _ _ _ sr (h'.next hb)).mono ?_; rintro e w1 ⟨rfl, hb1⟩)
          exact bodyPost_ret (v := .tuple #[.int .i64 hi, .bool true]) (by simp [results, Try.results40, go_sem]) rfl ⟨⟨hi, true, rfl, ⟨hin, I.out.1, I.out.2⟩, by simp; exact ⟨hn, HC.out⟩⟩, chain1 hb hb1⟩
        · have HC : Hid (¬ cmpL l[hi].1 r = 0) := hc
          have b0 : (cmpL l[hi].1 r == 0) = false := by simpa using hc
          go_wp2_with (go_at_call 41; refine (weight1_at _ _ _ _ _ _ _ _ sr (h'.next hb)).mono ?_; rintro e w1 ⟨rfl, hb1⟩)
          exact bodyPost_ret (v := .tuple #[.int .i64 hi, .bool false]) (by simp [results, Try.results40, go_sem]) rfl ⟨⟨hi, false, rfl, ⟨hin, I.out.1, I.out.2⟩, by simp; exact fun _ => HC.out⟩, chain1 hb hb1⟩
      · go_wp2_with fail
        exact bodyPost_ret (v := .tuple #[.int .i64 hi, .bool false]) (by simp [results, Try.results40, go_sem]) rfl ⟨⟨hi, false, rfl, ⟨hin, I.out.1, I.out.2⟩, by simp; exact fun h => absurd h hn⟩, hb⟩

set_option maxHeartbeats 1000000 in
theorem weight_at (a a' : Option Addr) (cap cap' : Nat) (l : List Zp) (r : List Vl) (w : World) (h : ZsAt w a l) (h' : SlAt w a' r) (hr : Rise l) (hl : l.length ≤ 100000) :
    Calls Try.prog 15 #[.slice a l.length cap, .slice a' r.length cap'] w fun e w' => e = .returned (.int .i64 (wt l r)) ∧ Below w.heap.size w w' := by
  go_enter Try.func15, Try.ntmps15
  go_wp2_with fail
  refine (search_at a a' cap cap' l r w h h' hr hl).mono ?_
  rintro e w1 ⟨⟨i, f, rfl, hp, hf⟩, hb1⟩
  cases f
  · have e : wt l r = 0 := wt_lost hr hp fun hi hc => by have := hf.2 ⟨hi, hc⟩; cases this
    have E : Hid (wt l r = 0) := e
    clear hf hp e
    go_wp2_with fail
    go_ret
    exact ⟨ret_int E.out.symm, hb1⟩
  · obtain ⟨hi, hc⟩ := hf.1 rfl
    have e : wt l r = l[i].2 := wt_found hr hi hc
    have E : Hid (wt l r = l[i].2) := e
    clear hf hp e
    obtain ⟨b, off, rfl, hbl, c1, ar, cr, c0, sr⟩ := (h.next hb1).elem hi
    have i0 : (0 : Int) ≤ (i : Int) := by omega
    have i1 : (i : Int) < (l.length : Int) := by omega
    go_wp2_with fail
    go_ret
    exact ⟨ret_int E.out.symm, hb1⟩
end Go.Proofs.Ytfgpfnhbcbhkfab
