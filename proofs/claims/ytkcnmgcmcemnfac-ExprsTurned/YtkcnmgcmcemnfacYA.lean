/- The walk of exprs.value, and of its kid. -/
import Derived.Test.YtkcnmgcmcemnfacY4
import Derived.Test.YtkcnmgcmcemnfacY9
import Derived.Test.YtkcnmgcmcemnfacX2
import Derived.Deep.RegionWith
namespace Go.Proofs.Ytkcnmgcmcemnfac
open Go.RowKit

/-- What value is asked for. -/
def ValueAt (row : List Vl) (x : Ex) : Prop :=
  ∀ (B : Nat) (a : Option Addr) (cap : Nat) (ra : Option Addr) (rcap : Nat) (w : World), KsAt B w a x.ks → B ≤ w.heap.size → SlAt w ra row →
    Calls Try.prog 27 #[exV x.k x.v x.c a x.ks.length cap, .slice ra row.length rcap] w fun e w' => e = .returned (agV (valX row x)) ∧ Below w.heap.size w w'

set_option maxHeartbeats 400000 in
theorem kid_at (row : List Vl) (k : Int) (v : Vl) (c : Int) (ks : List Ex) (B : Nat) (a : Option Addr) (cap : Nat) (ra : Option Addr) (rcap : Nat) (xb rb : Nat) (i : Nat) (hi : i < ks.length) (ih : ValueAt row ks[i]) (W : World)
    (hx : Six W xb 0 k v c a ks.length cap) (hxb : xb < W.heap.size) (hr : W.cell? ⟨rb, 0, none⟩ = some (.slice ra row.length rcap)) (hrb : rb < W.heap.size) (hk : KsAt B W a ks) (hB : B ≤ W.heap.size) (hs : SlAt W ra row) :
    Calls Try.prog 38 #[.int .i64 i, .pointer (some ⟨xb, 0, none⟩), .pointer (some ⟨rb, 0, none⟩)] W fun e w' => e = .returned (agV (valX row ks[i])) ∧ Below W.heap.size W w' := by
  have R0 := Box.new W (.int .i64 0) (.int .i64 0) (.string ⟨#[]⟩) 24
  have hal : Below W.heap.size W (W.alloc (.cells #[.int .i64 0, .int .i64 0, .string ⟨#[]⟩] 24)) := (Below.refl _ _).alloc (Nat.le_refl _) _
  have S0 := hx.next hal hxb
  have r0 := (hal.cell (p := ⟨rb, 0, none⟩) hrb).trans hr
  obtain ⟨b, off, ai, ci, rfl, hbl, sx, kx⟩ := (KsAt.next hal hB hk).elem hi
  have s0 := hs.next hal
  go_enter Try.func38, Try.ntmps38
  go_wp2_with fail
  generalize W.alloc (.cells #[.int .i64 0, .int .i64 0, .string ⟨#[]⟩] 24) = w0 at *
  obtain ⟨_, _, _, _, _, s5⟩ := S0
  obtain ⟨x0, x1, x2, x3, x4, x5⟩ := sx
  simp only [Nat.zero_add] at s5
  have hiz : (i : Int) < ks.length := by omega
  have con : ∀ W', Below w0.heap.size w0 W' → Calls Try.prog 27 #[exV ks[i].k ks[i].v ks[i].c ai ks[i].ks.length ci, .slice ra row.length rcap] W' fun e w' => e = .returned (agV (valX row ks[i])) ∧ Below W'.heap.size W' w' :=
    fun W' h => ih B ai ci ra rcap W' (KsAt.next h (Nat.le_trans hB hal.size) kx) (Nat.le_trans (Nat.le_trans hB hal.size) h.size) (s0.next h)
  have hd : Below w0.heap.size w0 w0.drew := (Below.refl _ _).drew
  have con := con _ hd
  generalize hr' : valX row ks[i] = r at *
  have HR : Hid (valX row ks[i] = r) := hr'
  clear hr'
  clear ih hs s0 kx hk hr
  go_region_with (go_at_call 27; refine con.mono ?_; rintro e w1 ⟨rfl, hb1⟩; have hb2 := chain hd hb1; have ⟨q0, q1, q2, q3, q4, q5, q6⟩ := R0.next hb2)
  all_goals go_wp2_with fail
  all_goals exact bodyPost_ret (v := agV r) (by simp [results, Try.results38, go_sem, q1, q2, q3]) rfl ⟨by rw [HR.out], below_set3 (chain hal hb2) (Nat.le_refl _)⟩
end Go.Proofs.Ytkcnmgcmcemnfac
