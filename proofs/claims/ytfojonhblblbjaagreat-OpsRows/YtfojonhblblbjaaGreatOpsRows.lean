/- The walk of tidelaw4.OpsRows. -/
import Derived.Test.YtfojonhblblbjaaGreatD0
import Derived.Test.YtfojonhblblbjaaGreatD2
import Derived.Test.YtfojonhblblbjaaGreatB8
import Derived.Laws.EntriesVeiled
namespace Go.Proofs.YtfojonhblblbjaaGreat
open Go.RowKit Go.Lib Go.Shelf

set_option maxRecDepth 100000 in
set_option maxHeartbeats 8000000 in
theorem rows_walk (ca : Option Addr) (ccap : Nat) (cols : List Int) (x : Ex) (xa : Option Addr) (xcap : Nat) (sa : Option Addr) (scap : Nat) (xs : List Ex) (n : Int) (a : Option Addr) (cap : Nat) (l : List Zp) (w : World)
    (hc : IsAt w.heap.size w ca cols) (hx : KsAt w.heap.size w xa x.ks) (hs : KsAt w.heap.size w sa xs) (hn0 : -9223372036854775808 ≤ n) (hn1 : n ≤ 9223372036854775807) (h : ZsAt w a l) (_na : a = none → cap = 0) :
    Calls Tryz.prog 3 #[.slice ca cols.length ccap, exV x.k x.v x.c xa x.ks.length xcap, .slice sa xs.length scap, .int .i64 n, .slice a l.length cap] w fun e w' => e = .returned (.bool true) ∧ Below w.heap.size w w' := by
  have h1 : Below w.heap.size w (w.alloc (.cells #[.int .i64 x.k, .int .i64 x.v.1, .int .i64 x.v.2.1, .string x.v.2.2, .int .i64 x.c, .slice xa x.ks.length xcap] 27)) := (Below.refl _ _).alloc (Nat.le_refl _) _
  have S1 : Hid (Six (w.alloc (.cells #[.int .i64 x.k, .int .i64 x.v.1, .int .i64 x.v.2.1, .string x.v.2.2, .int .i64 x.c, .slice xa x.ks.length xcap] 27)) w.heap.size 0 x.k x.v x.c xa x.ks.length xcap) := Six.new w x.k x.v x.c xa x.ks.length xcap 27
  have z1 : (w.alloc (.cells #[.int .i64 x.k, .int .i64 x.v.1, .int .i64 x.v.2.1, .string x.v.2.2, .int .i64 x.c, .slice xa x.ks.length xcap] 27)).heap.size = w.heap.size + 1 := by simp
  have F1 : Hid (∀ W, Below w.heap.size w W → Calls Tryz.prog 9 #[.slice ca cols.length ccap, exV x.k x.v x.c xa x.ks.length xcap, .slice a l.length cap] W fun e w' => ∃ v, e = .returned (.tuple #[v, .int .i64 (filtE cols x l)]) ∧ OwnZ W.heap.size w' v (filtZ cols x l) ∧ Below W.heap.size W w') := fun W hA => filter_at cols x ca ccap xa xcap a cap l W ((hc.next hA (Nat.le_refl _)).up hA.size) ((KsAt.next hA (Nat.le_refl _) hx).up hA.size) (h.next hA)
  have F2 : Hid (∀ W, Below w.heap.size w W → Calls Tryz.prog 10 #[.slice ca cols.length ccap, exV x.k x.v x.c xa x.ks.length xcap, .slice a l.length cap] W fun e w' => ∃ v, e = .returned (.tuple #[v, .int .i64 (filtE cols x l)]) ∧ (∃ ua uc, v = .slice ua (filtZ cols x l).length uc ∧ ZsAt w' ua (filtZ cols x l)) ∧ Below W.heap.size W w') := fun W hA => refFilter_at cols x ca ccap xa xcap a cap l W ((hc.next hA (Nat.le_refl _)).up hA.size) ((KsAt.next hA (Nat.le_refl _) hx).up hA.size) (h.next hA)
  have M1 : Hid (∀ W, Below w.heap.size w W → Calls Tryz.prog 12 #[.slice ca cols.length ccap, .slice sa xs.length scap, .slice a l.length cap] W fun e w' => ∃ v, e = .returned (.tuple #[v, .int .i64 (mapE cols xs l)]) ∧ OwnZ W.heap.size w' v (mapZ cols xs l) ∧ Below W.heap.size W w') := fun W hA => map_at cols xs ca ccap sa scap a cap l W ((hc.next hA (Nat.le_refl _)).up hA.size) ((KsAt.next hA (Nat.le_refl _) hs).up hA.size) (h.next hA)
  have M2 : Hid (∀ W, Below w.heap.size w W → Calls Tryz.prog 13 #[.slice ca cols.length ccap, .slice sa xs.length scap, .slice a l.length cap] W fun e w' => ∃ v, e = .returned (.tuple #[v, .int .i64 (mapE cols xs l)]) ∧ (∃ ua uc, v = .slice ua (mapZ cols xs l).length uc ∧ ZsAt w' ua (mapZ cols xs l)) ∧ Below W.heap.size W w') := fun W hA => refMap_at cols xs ca ccap sa scap a cap l W ((hc.next hA (Nat.le_refl _)).up hA.size) ((KsAt.next hA (Nat.le_refl _) hs).up hA.size) (h.next hA)
  have T1 : Hid (∀ W, Below w.heap.size w W → Calls Tryz.prog 14 #[.slice ca cols.length ccap, .slice sa xs.length scap, .int .i64 n, .slice a l.length cap] W fun e w' => ∃ v, e = .returned (.tuple #[v, .int .i64 (topE cols xs n l)]) ∧ OwnZ W.heap.size w' v (topZ cols xs n l) ∧ Below W.heap.size W w') := fun W hA => top_at cols xs n ⟨hn0, hn1⟩ ca ccap sa scap a cap l W ((hc.next hA (Nat.le_refl _)).up hA.size) ((KsAt.next hA (Nat.le_refl _) hs).up hA.size) (h.next hA)
  have T2 : Hid (∀ W, Below w.heap.size w W → Calls Tryz.prog 15 #[.slice ca cols.length ccap, .slice sa xs.length scap, .int .i64 n, .slice a l.length cap] W fun e w' => ∃ v, e = .returned (.tuple #[v, .int .i64 (topE cols xs n l)]) ∧ (∃ ua uc, v = .slice ua (topZ cols xs n l).length uc ∧ ZsAt w' ua (topZ cols xs n l)) ∧ Below W.heap.size W w') := fun W hA => refTop_at cols xs n ⟨hn0, hn1⟩ ca ccap sa scap a cap l W ((hc.next hA (Nat.le_refl _)).up hA.size) ((KsAt.next hA (Nat.le_refl _) hs).up hA.size) (h.next hA)
  generalize filtE cols x l = fe at *
  generalize filtZ cols x l = fz at *
  generalize mapE cols xs l = me at *
  generalize mapZ cols xs l = mz at *
  generalize topE cols xs n l = te at *
  generalize topZ cols xs n l = tz at *
  clear hc hx hs h
  go_enter Tryz.func3, Tryz.ntmps3
  obtain ⟨s0, s1, s2, s3, s4, s5⟩ := S1.out
  simp only [Nat.zero_add] at s1 s2 s3 s4 s5
  go_wp2_with fail
  clear s0 s1 s2 s3 s4 s5
  generalize w.alloc (.cells #[.int .i64 x.k, .int .i64 x.v.1, .int .i64 x.v.2.1, .string x.v.2.2, .int .i64 x.c, .slice xa x.ks.length xcap] 27) = w1 at *
  refine (F1.out w1 h1).mono ?_
  rintro e w2 ⟨v2, rfl, O2, hb2⟩
  obtain ⟨a2, c2, rfl, zs2⟩ := O2.zs
  clear O2
  have hA2 := chain h1 hb2
  obtain ⟨s0, s1, s2, s3, s4, s5⟩ := S1.out.next hb2 (by omega)
  simp only [Nat.zero_add] at s1 s2 s3 s4 s5
  dsimp only
  go_wp2_with fail
  clear s0 s1 s2 s3 s4 s5
  refine (F2.out w2 hA2).mono ?_
  rintro e w3 ⟨v3, rfl, ⟨a3, c3, rfl, zs3⟩, hb3⟩
  have hA3 := chain hA2 hb3
  have con := same_eq a2 a3 c2 c3 fz w3 (zs2.next hb3) zs3
  have hne : (fe != fe) = false := by simp
  clear zs2 zs3
  dsimp only
  go_wp2_with fail
  refine con.mono ?_
  rintro e w4 ⟨rfl, hb4⟩
  clear con hne
  have hA4 := chain hA3 hb4
  dsimp only
  go_wp2_with fail
  refine (M1.out w4 hA4).mono ?_
  rintro e w5 ⟨v5, rfl, O5, hb5⟩
  obtain ⟨a5, c5, rfl, zs5⟩ := O5.zs
  clear O5
  have hA5 := chain hA4 hb5
  dsimp only
  go_wp2_with fail
  refine (M2.out w5 hA5).mono ?_
  rintro e w6 ⟨v6, rfl, ⟨a6, c6, rfl, zs6⟩, hb6⟩
  have hA6 := chain hA5 hb6
  have con := same_eq a5 a6 c5 c6 mz w6 (zs5.next hb6) zs6
  have hne : (me != me) = false := by simp
  clear zs5 zs6
  dsimp only
  go_wp2_with fail
  refine con.mono ?_
  rintro e w7 ⟨rfl, hb7⟩
  clear con hne
  have hA7 := chain hA6 hb7
  dsimp only
  go_wp2_with fail
  refine (T1.out w7 hA7).mono ?_
  rintro e w8 ⟨v8, rfl, O8, hb8⟩
  obtain ⟨a8, c8, rfl, zs8⟩ := O8.zs
  clear O8
  have hA8 := chain hA7 hb8
  dsimp only
  go_wp2_with fail
  refine (T2.out w8 hA8).mono ?_
  rintro e w9 ⟨v9, rfl, ⟨a9, c9, rfl, zs9⟩, hb9⟩
  have hA9 := chain hA8 hb9
  have con := same_eq a8 a9 c8 c9 tz w9 (zs8.next hb9) zs9
  have heq : (te == te) = true := by simp
  clear zs8 zs9
  dsimp only
  go_wp2_with fail
  refine con.mono ?_
  rintro e wA ⟨rfl, hbA⟩
  clear con
  have hAA := chain hA9 hbA
  dsimp only
  go_wp2_with fail
  go_ret
  exact ⟨rfl, hAA⟩
end Go.Proofs.YtfojonhblblbjaaGreat
