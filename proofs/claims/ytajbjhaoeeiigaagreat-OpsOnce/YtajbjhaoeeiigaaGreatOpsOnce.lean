/- The walk of tidelaw4.OpsOnce. -/
import Derived.Test.YtajbjhaoeeiigaaGreatB9
import Derived.Laws.EntriesVeiled
namespace Go.Proofs.YtajbjhaoeeiigaaGreat
open Go.RowKit Go.Lib Go.Shelf

set_option maxRecDepth 100000 in
set_option maxHeartbeats 8000000 in
theorem once_walk (ca : Option Addr) (ccap : Nat) (cols : List Int) (x : Ex) (xa : Option Addr) (xcap : Nat) (y : Ex) (ya : Option Addr) (ycap : Nat) (a : Option Addr) (acap : Nat) (l : List Zp) (w : World)
    (hc : IsAt w.heap.size w ca cols) (hx : KsAt w.heap.size w xa x.ks) (hy : KsAt w.heap.size w ya y.ks) (h : ZsAt w a l) (_na : a = none → acap = 0) :
    Calls Tryz.prog 5 #[.slice ca cols.length ccap, exV x.k x.v x.c xa x.ks.length xcap, exV y.k y.v y.c ya y.ks.length ycap, .slice a l.length acap] w fun e w' => e = .returned (.bool true) ∧ Below w.heap.size w w' := by
  have h1 : Below w.heap.size w (w.alloc (.cells #[.int .i64 x.k, .int .i64 x.v.1, .int .i64 x.v.2.1, .string x.v.2.2, .int .i64 x.c, .slice xa x.ks.length xcap] 32)) := (Below.refl _ _).alloc (Nat.le_refl _) _
  have S1 := Six.new w x.k x.v x.c xa x.ks.length xcap 32
  have z1 : (w.alloc (.cells #[.int .i64 x.k, .int .i64 x.v.1, .int .i64 x.v.2.1, .string x.v.2.2, .int .i64 x.c, .slice xa x.ks.length xcap] 32)).heap.size = w.heap.size + 1 := by simp
  go_enter Tryz.func5, Tryz.ntmps5
  go_wp2_with fail
  generalize w.alloc (.cells #[.int .i64 x.k, .int .i64 x.v.1, .int .i64 x.v.2.1, .string x.v.2.2, .int .i64 x.c, .slice xa x.ks.length xcap] 32) = w1 at *
  have h2 : Below w1.heap.size w1 (w1.alloc (.cells #[.int .i64 y.k, .int .i64 y.v.1, .int .i64 y.v.2.1, .string y.v.2.2, .int .i64 y.c, .slice ya y.ks.length ycap] 32)) := (Below.refl _ _).alloc (Nat.le_refl _) _
  have S2 := Six.new w1 y.k y.v y.c ya y.ks.length ycap 32
  have z2 : (w1.alloc (.cells #[.int .i64 y.k, .int .i64 y.v.1, .int .i64 y.v.2.1, .string y.v.2.2, .int .i64 y.c, .slice ya y.ks.length ycap] 32)).heap.size = w1.heap.size + 1 := by simp
  have S1 := S1.next h2 (by omega)
  rw [z1] at S2
  generalize w1.alloc (.cells #[.int .i64 y.k, .int .i64 y.v.1, .int .i64 y.v.2.1, .string y.v.2.2, .int .i64 y.c, .slice ya y.ks.length ycap] 32) = w2 at *
  have hA := chain h1 h2
  refine (alive_at w2).mono ?_
  rintro e w3 ⟨rfl, hb3⟩
  have hA := chain hA hb3
  have S1 := S1.next hb3 (by omega)
  have S2 := S2.next hb3 (by omega)
  have z3 := hb3.size
  have con := filter_at cols x ca ccap xa xcap a acap l w3 ((hc.next hA (Nat.le_refl _)).up hA.size) ((KsAt.next hA (Nat.le_refl _) hx).up hA.size) (h.next hA)
  generalize hE1 : filtE cols x l = t1 at con
  generalize hZ1 : filtZ cols x l = f1 at con
  have E1 : Hid (filtE cols x l = t1) := hE1
  have Z1 : Hid (filtZ cols x l = f1) := hZ1
  clear hE1 hZ1
  have T1 : Hid (Six w3 w.heap.size 0 x.k x.v x.c xa x.ks.length xcap) := S1
  have T2 : Hid (Six w3 (w.heap.size + 1) 0 y.k y.v y.c ya y.ks.length ycap) := S2
  obtain ⟨s0, s1, s2, s3, s4, s5⟩ := S1
  simp only [Nat.zero_add] at s1 s2 s3 s4 s5
  clear S2
  go_wp2_with fail
  refine con.mono ?_
  rintro e w4 ⟨v4, rfl, O4, hb4⟩
  obtain ⟨a4, c4, rfl, zs4⟩ := O4.zs
  have hA := chain hA hb4
  have z4 := hb4.size
  clear con O4 s0 s1 s2 s3 s4 s5
  have con := filter_at cols y ca ccap ya ycap a4 c4 f1 w4 ((hc.next hA (Nat.le_refl _)).up hA.size) ((KsAt.next hA (Nat.le_refl _) hy).up hA.size) zs4
  generalize hE1 : filtE cols y f1 = t2 at con
  generalize hZ1 : filtZ cols y f1 = f2 at con
  have E2 : Hid (filtE cols y f1 = t2) := hE1
  have Z2 : Hid (filtZ cols y f1 = f2) := hZ1
  clear hE1 hZ1
  obtain ⟨s0, s1, s2, s3, s4, s5⟩ := T2.out.next hb4 (by omega)
  simp only [Nat.zero_add] at s1 s2 s3 s4 s5
  go_wp2_with fail
  refine con.mono ?_
  rintro e w5 ⟨v5, rfl, O5, hb5⟩
  obtain ⟨a5, c5, rfl, zs5⟩ := O5.zs
  have hA := chain hA hb5
  have hS := chain hb4 hb5
  have zs4 := zs4.next hb5
  clear con O5 s0 s1 s2 s3 s4 s5
  have con := filter_at cols x ca ccap xa xcap a4 c4 f1 w5 ((hc.next hA (Nat.le_refl _)).up hA.size) ((KsAt.next hA (Nat.le_refl _) hx).up hA.size) zs4
  generalize hE1 : filtE cols x f1 = t3 at con
  generalize hZ1 : filtZ cols x f1 = f3 at con
  have E3 : Hid (filtE cols x f1 = t3) := hE1
  have Z3 : Hid (filtZ cols x f1 = f3) := hZ1
  clear hE1 hZ1
  obtain ⟨s0, s1, s2, s3, s4, s5⟩ := T1.out.next hS (by omega)
  simp only [Nat.zero_add] at s1 s2 s3 s4 s5
  go_wp2_with fail
  refine con.mono ?_
  rintro e w6 ⟨v6, rfl, O6, hb6⟩
  obtain ⟨a6, c6, rfl, zs6⟩ := O6.zs
  have hA := chain hA hb6
  have hS := chain hS hb6
  have zs4 := zs4.next hb6
  have zs5 := zs5.next hb6
  clear con O6 s0 s1 s2 s3 s4 s5
  obtain ⟨s0, s1, s2, s3, s4, s5⟩ := T1.out.next hS (by omega)
  obtain ⟨r0, r1, r2, r3, r4, r5⟩ := T2.out.next hS (by omega)
  simp only [Nat.zero_add] at s1 s2 s3 s4 s5 r1 r2 r3 r4 r5
  have h7 : Below w6.heap.size w6 (w6.alloc (.cells #[.int .i64 x.k, .int .i64 x.v.1, .int .i64 x.v.2.1, .string x.v.2.2, .int .i64 x.c, .slice xa x.ks.length xcap, .int .i64 y.k, .int .i64 y.v.1, .int .i64 y.v.2.1, .string y.v.2.2, .int .i64 y.c, .slice ya y.ks.length ycap] 32)) := (Below.refl _ _).alloc (Nat.le_refl _) _
  have K7 := ks_two w6 (B := w.heap.size) (x := x) (y := y) xa xcap ya ycap hA.size (KsAt.next hA (Nat.le_refl _) hx) (KsAt.next hA (Nat.le_refl _) hy)
  have z7 : (w6.alloc (.cells #[.int .i64 x.k, .int .i64 x.v.1, .int .i64 x.v.2.1, .string x.v.2.2, .int .i64 x.c, .slice xa x.ks.length xcap, .int .i64 y.k, .int .i64 y.v.1, .int .i64 y.v.2.1, .string y.v.2.2, .int .i64 y.c, .slice ya y.ks.length ycap] 32)).heap.size = w6.heap.size + 1 := by simp
  go_wp2_with fail
  clear s0 s1 s2 s3 s4 s5 r0 r1 r2 r3 r4 r5
  generalize w6.alloc (.cells #[.int .i64 x.k, .int .i64 x.v.1, .int .i64 x.v.2.1, .string x.v.2.2, .int .i64 x.c, .slice xa x.ks.length xcap, .int .i64 y.k, .int .i64 y.v.1, .int .i64 y.v.2.1, .string y.v.2.2, .int .i64 y.c, .slice ya y.ks.length ycap] 32) = w7 at *
  have hA := chain hA h7
  have zs4 := zs4.next h7
  have zs5 := zs5.next h7
  have zs6 := zs6.next h7
  have con : Calls Tryz.prog 15 #[.slice ca cols.length ccap, .agg #[.int .i64 4, .int .i64 0, .int .i64 0, .string ⟨#[]⟩, .int .i64 0, .slice (some ⟨w6.heap.size, 0, none⟩) 2 2], .slice a l.length acap] w7 fun e w' => ∃ v, e = .returned (.tuple #[v, .int .i64 (filtE cols (mk2 4 x y) l)]) ∧ OwnZ w7.heap.size w' v (filtZ cols (mk2 4 x y) l) ∧ Below w7.heap.size w7 w' :=
    filter_at cols (mk2 4 x y) ca ccap (some ⟨w6.heap.size, 0, none⟩) 2 a acap l w7 ((hc.next hA (Nat.le_refl _)).up hA.size) (by rw [z7]; exact K7) (h.next hA)
  generalize hE1 : filtE cols (mk2 4 x y) l = t4 at con
  generalize hZ1 : filtZ cols (mk2 4 x y) l = f4 at con
  have E4 : Hid (filtE cols (mk2 4 x y) l = t4) := hE1
  have Z4 : Hid (filtZ cols (mk2 4 x y) l = f4) := hZ1
  clear hE1 hZ1
  refine con.mono ?_
  rintro e w8 ⟨v8, rfl, O8, hb8⟩
  obtain ⟨a8, c8, rfl, zs8⟩ := O8.zs
  have hA := chain hA hb8
  have zs4 := zs4.next hb8
  have zs5 := zs5.next hb8
  have zs6 := zs6.next hb8
  clear con O8
  by_cases e1 : t1 = 0
  · by_cases e2 : t2 = 0
    · by_cases e3 : t3 = 0
      · by_cases e4 : t4 = 0
        · have fact := once_fact cols x y l (E1.out.trans e1) (by rw [Z1.out]; exact E2.out.trans e2) (by rw [Z1.out]; exact E3.out.trans e3) (E4.out.trans e4)
          rw [Z1.out, Z2.out, Z3.out, Z4.out] at fact
          obtain ⟨p1, p2⟩ := fact
          subst p1 p2 e1 e2 e3 e4
          have con5 := same_eq a5 a8 c5 c8 f2 w8 zs5 zs8
          go_wp2_with fail
          refine con5.mono ?_
          rintro e w9 ⟨rfl, hb9⟩
          clear con5
          have con6 := same_eq a4 a6 c4 c6 f1 w9 (zs4.next hb9) (zs6.next hb9)
          go_wp2_with fail
          refine con6.mono ?_
          rintro e w10 ⟨rfl, hb10⟩
          clear con6
          go_wp2_with fail
          go_ret
          exact ⟨rfl, chain (chain hA hb9) hb10⟩
        · have q1 : (t1 != 0) = false := by simpa using e1
          have q2 : (t2 != 0) = false := by simpa using e2
          have q3 : (t3 != 0) = false := by simpa using e3
          have q4 : (t4 != 0) = true := by simpa using e4
          go_wp2_with fail
          go_ret
          exact ⟨rfl, hA⟩
      · have q1 : (t1 != 0) = false := by simpa using e1
        have q2 : (t2 != 0) = false := by simpa using e2
        have q3 : (t3 != 0) = true := by simpa using e3
        go_wp2_with fail
        go_ret
        exact ⟨rfl, hA⟩
    · have q1 : (t1 != 0) = false := by simpa using e1
      have q2 : (t2 != 0) = true := by simpa using e2
      go_wp2_with fail
      go_ret
      exact ⟨rfl, hA⟩
  · have q1 : (t1 != 0) = true := by simpa using e1
    go_wp2_with fail
    go_ret
    exact ⟨rfl, hA⟩
end Go.Proofs.YtajbjhaoeeiigaaGreat
