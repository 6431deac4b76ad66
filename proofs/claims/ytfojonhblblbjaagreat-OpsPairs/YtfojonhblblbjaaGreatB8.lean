/- Together: J11, J12, J13, J14, Q3, Q4, L1, XOpen, SOpen. -/
import Derived.Laws.CopyOwn
import Derived.Laws.StructEq
import Derived.Deep.Slices
import Derived.Deep.Strs
import Derived.ProofKit
import Derived.OpenShut
import Derived.ChangeOld
import Derived.Lib.SmallJoins
import Derived.SizedLaws
import Derived.Test.YtfojonhblblbjaaGreatB7
import Derived.Test.YtfojonhblblbjaaGreatB3
/- The walks of ops.picked with a method value, ops.matched, ops.unmatched. -/
namespace Go.Proofs.YtfojonhblblbjaaGreat
open Go.RowKit Go.Lib Go.Shelf

set_option maxRecDepth 100000 in
set_option maxHeartbeats 4000000 in
theorem picked2_at (g : Nat) (fs cb : Array Value) (p : Zp → Bool) (a : Option Addr) (cap : Nat) (l : List Zp) (w0 w : World) (Inv : World → Prop) (h : ZsAt w0 a l) (hl : l.length ≤ 100000)
    (eg : ∀ args w, (callFunc g args).run Tryz.prog w = .ok (.enter g args) w) (hI0 : Inv w) (hI1 : ∀ W, Inv W → Below w0.heap.size w0 W) (hI2 : ∀ W W', Inv W → Below w.heap.size W W' → Inv W')
    (hcall : ∀ x ∈ l, ∀ (ra : Option Addr) (rc : Nat) (W : World), Inv W → SlAt w0 ra x.1 → w.heap.size ≤ W.heap.size → Calls Tryz.prog g (fs ++ #[.agg #[.slice ra x.1.length rc, .int .i64 x.2]] ++ cb) W fun e w' => e = .returned (.bool (p x)) ∧ Inv w' ∧ Since w.heap.size W w') :
    Calls Tryz.prog 33 #[.slice a l.length cap, .func (.func g) fs cb] w fun e w' => ∃ v, e = .returned v ∧ OwnB w0 w.heap.size w' v (l.filter p) ∧ Inv w' ∧ w.heap.size ≤ w'.heap.size := by
  obtain ⟨i0, hi, hj0, hj1, hj2⟩ := info_parts Tryz.info42
  have HC : Hid (∀ x ∈ l, ∀ (ra : Option Addr) (rc : Nat) (W : World), Inv W → SlAt w0 ra x.1 → w.heap.size ≤ W.heap.size → Calls Tryz.prog g (fs ++ #[.agg #[.slice ra x.1.length rc, .int .i64 x.2]] ++ cb) W fun e w' => e = .returned (.bool (p x)) ∧ Inv w' ∧ Since w.heap.size W w') := hcall
  have H1 : Hid (∀ W, Inv W → Below w0.heap.size w0 W) := hI1
  have H2 : Hid (∀ W W', Inv W → Below w.heap.size W W' → Inv W') := hI2
  clear hcall hI1 hI2
  go_enter Tryz.func33, Tryz.ntmps33
  go_wp2_with fail
  go_loopw [5, 10] (fun v i wr => ∃ k : Nat, k ≤ l.length ∧ i = .int .i64 k ∧ OwnB w0 w.heap.size wr v ((l.take k).filter p) ∧ Hid (Inv wr) ∧ w.heap.size ≤ wr.heap.size) (fun _ i _ => l.length - (intOf i).toNat)
  case atStart => exact ⟨0, Nat.zero_le _, rfl, ⟨[], by simpa using World.ownsRow_nil _ _ _ _, by simp [EncB]⟩, hI0, Nat.le_refl _⟩
  case round =>
    clear hI0
    obtain ⟨k, hk, rfl, HO, HI, hz⟩ := hrel
    by_cases hlt : k < l.length
    · obtain ⟨b, off, rfl, hbl, d1, ar, cr, d0, sr⟩ := h.elem hlt
      have hB := H1.out _ HI.out
      have c1 := (hB.cell (p := ⟨b, _, none⟩) hbl).trans d1
      have c0 := (hB.cell (p := ⟨b, _, none⟩) hbl).trans d0
      have hbl' : b < wr.heap.size := Nat.lt_of_lt_of_le hbl hB.size
      have hlen : ((l.take k).filter p).length ≤ k := by have := List.length_filter_le p (l.take k); simp only [List.length_take] at this; omega
      have hal : Below wr.heap.size wr (wr.alloc (.cells #[.slice ar l[k].1.length cr, .int .i64 l[k].2] 53)) := (Below.refl _ _).alloc (Nat.le_refl _) _
      have IA : Inv (wr.alloc (.cells #[.slice ar l[k].1.length cr, .int .i64 l[k].2] 53)) := H2.out _ _ HI.out (hal.mono hz)
      have con := HC.out l[k] (List.getElem_mem hlt) ar cr _ IA sr (Nat.le_trans hz hal.size)
      have q0 : (wr.alloc (.cells #[.slice ar l[k].1.length cr, .int .i64 l[k].2] 53)).cell? ⟨wr.heap.size, 0, none⟩ = some (.slice ar l[k].1.length cr) := by simp
      have q1 : (wr.alloc (.cells #[.slice ar l[k].1.length cr, .int .i64 l[k].2] 53)).cell? ⟨wr.heap.size, 1, none⟩ = some (.int .i64 l[k].2) := by simp
      have za : (wr.alloc (.cells #[.slice ar l[k].1.length cr, .int .i64 l[k].2] 53)).heap.size = wr.heap.size + 1 := by simp
      have HS : Hid (SlAt w0 ar l[k].1) := sr
      obtain ⟨xs, ho, he⟩ := HO
      have HE : Hid (EncB w0 xs ((l.take k).filter p)) := he
      have ho1 := own_next ho hal
      clear d0 d1 sr he ho IA
      by_cases hp : p l[k] = true
      · rw [hp] at con
        have HP : Hid (p l[k] = true) := hp
        clear hp
        go_wp2_with (first | (go_at_fn g; refine con.mono ?_; rintro e w1 ⟨rfl, I1, s1⟩; have r0 := (s1.cell (p := ⟨wr.heap.size, 0, none⟩) hz (by show wr.heap.size < _; omega)).trans q0; have r1 := (s1.cell (p := ⟨wr.heap.size, 1, none⟩) hz (by show wr.heap.size < _; omega)).trans q1; have z1 := s1.1; have o1 := own_since ho1 (Nat.le_refl _) s1) | (at_builtin; refine wpList_append_own _ rfl _ _ 28 rfl w.heap.size 53 i0 _ 2 32 Tryz.underlying28 hi hj0 hj1 hj2 rfl (by decide) _ _ _ rfl (o1.alloc _) ⟨w1.heap.size, 0, none⟩ 1 1 [.slice ar l[k].1.length cr, .int .i64 l[k].2] rfl rfl ?Ac1 ?Ac2 ?Ac3 ?Ac4 ?Ac5 ?_))
        case Ac1 =>
          intro j u hj
          match j, hj with
          | 0, hj => simp at hj; subst hj; simp [Addr.add]
          | 1, hj => simp at hj; subst hj; simp [Addr.add]
        case Ac2 => intro u hu; simp at hu; rcases hu with rfl | rfl <;> rfl
        case Ac3 => unfold maxLen; omega
        case Ac4 => omega
        case Ac5 => simp; omega
        intro v' w5 ho5 hg5 _
        have hb5 : Below w.heap.size w1 w5 := ((Below.refl w.heap.size w1).alloc (by omega) _).grown hg5 (by simp; omega) (fun q hq => ((o1.alloc (.cells #[.slice ar l[k].1.length cr, .int .i64 l[k].2] 53)).lt q hq).1)
        have HI1 : Hid (Inv w5) := H2.out _ _ I1 hb5
        have z5 := hb5.size
        clear hg5 o1 I1 con q0 q1 ho1
        go_wp2_with fail
        go_roundw
        case rel => exact ⟨k + 1, by omega, by go_num, by rw [filter_take p hlt, if_pos HP.out]; exact ⟨_, by simpa using ho5, HE.out.push HS.out⟩, HI1, by omega⟩
        case measure => simp [intOf]; omega
      · have hp : p l[k] = false := by simpa using hp
        rw [hp] at con
        have HP : Hid (p l[k] = false) := hp
        clear hp
        go_wp2_with (go_at_fn g; refine con.mono ?_; rintro e w1 ⟨rfl, I1, s1⟩)
        have o1 := own_since ho1 (Nat.le_refl _) s1
        have z1 := s1.1
        have HI1 : Hid (Inv w1) := I1
        clear con q0 q1 ho1 I1
        go_roundw
        case rel => exact ⟨k + 1, by omega, by go_num, by rw [filter_take p hlt, HP.out, if_neg (by decide), List.append_nil]; exact ⟨_, o1, HE.out⟩, HI1, by omega⟩
        case measure => simp [intOf]; omega
    · have e : k = l.length := by omega
      subst e
      rw [List.take_length] at HO
      obtain ⟨av, cv, rfl, _⟩ := HO.zs (H1.out _ HI.out)
      go_wp2_with fail
      go_ret
      exact ⟨_, rfl, HO, HI.out, hz⟩

set_option maxRecDepth 100000 in
set_option maxHeartbeats 4000000 in
theorem matched_at (cols : List Int) (x : Ex) (w0 wp w : World) (a b : Option Addr) (ca cb : Nat) (l r : List Zp) (v : Value) (R rv : Nat) (hP : PairsIn cols x w0 wp a b ca cb l r v R rv) (hI : PInv wp R rv w) (za : ZsAt w0 a l) (zb : ZsAt w0 b r) (hq : Askable cols l r) :
    Calls Tryz.prog 47 #[v] w fun e w' => ∃ u, e = .returned u ∧ OwnB w0 (w.heap.size + 1) w' u (semiL x l r) ∧ PInv wp R rv w' ∧ w.heap.size ≤ w'.heap.size := by
  have hP' := hP
  obtain ⟨lo, wc, hv, u, rfl, hn, hv0, hc, hC, hcR, hcp, h0, h0p⟩ := hP
  have hrv := hI.sz hn
  have hll := hq.ll
  have h1 : Below w.heap.size w (w.alloc (.cells #[.slice a l.length ca, .slice b r.length cb, .func (.func 159) #[] #[.pointer (some ⟨rv, 0, none⟩), .pointer (some ⟨hv, 0, none⟩)]] 79)) := (Below.refl _ _).alloc (Nat.le_refl _) _
  have e1 : (w.alloc (.cells #[.slice a l.length ca, .slice b r.length cb, .func (.func 159) #[] #[.pointer (some ⟨rv, 0, none⟩), .pointer (some ⟨hv, 0, none⟩)]] 79)).heap.size = w.heap.size + 1 := by simp
  clear hC
  go_enter Tryz.func47, Tryz.ntmps47
  go_wp2_with fail
  generalize w.alloc (.cells #[.slice a l.length ca, .slice b r.length cb, .func (.func 159) #[] #[.pointer (some ⟨rv, 0, none⟩), .pointer (some ⟨hv, 0, none⟩)]] 79) = w1 at *
  have I1 := hI.later hn hI.size h1
  refine (picked2_at 87 #[.agg #[.slice a l.length ca, .slice b r.length cb, .func (.func 159) #[] #[.pointer (some ⟨rv, 0, none⟩), .pointer (some ⟨hv, 0, none⟩)]]] #[] (fun y => hasP x r y.1) a ca l w0 w1 (fun W => PInv wp R rv W) za (by omega) (enters_of Tryz.func87 (by kernel_rfl) rfl) I1 (fun W hW => h0p.trans ((hW.below hn).mono h0)) (fun W W' hW hb => hW.later hn I1.size hb) ?_).mono ?_
  · intro y hy ra rc W hW sy hz
    refine (isMatched_at cols x w0 wp W a b ca cb l r _ R rv hP' hW zb hq.rl ra rc y sy (fun q hq' => hq.row y hy q hq') (fun q hq' => hq.fit y hy q hq')).mono ?_
    rintro e w' ⟨rfl, I', S'⟩
    exact ⟨rfl, I', S'.up (by omega)⟩
  rintro e w2 ⟨v2, rfl, O2, I2, z2⟩
  have HI2 : Hid (PInv wp R rv w2) := I2
  have hs : l.filter (fun y => hasP x r y.1) = semiL x l r := rfl
  rw [hs, e1] at O2
  obtain ⟨a2, c2, rfl, _⟩ := O2.zs (h0p.trans ((I2.below hn).mono h0))
  clear I2 I1 hP'
  dsimp only
  go_wp2_with fail
  go_ret
  exact ⟨_, rfl, O2, HI2.out, by omega⟩
end Go.Proofs.YtfojonhblblbjaaGreat
/- The walks of ops.unmatched, ops.Semi and ops.Anti. -/
namespace Go.Proofs.YtfojonhblblbjaaGreat
open Go.RowKit Go.Lib Go.Shelf

set_option maxRecDepth 100000 in
set_option maxHeartbeats 4000000 in
theorem unmatched1_at (cols : List Int) (x : Ex) (w0 wp : World) (a b : Option Addr) (ca cb : Nat) (l r : List Zp) (R rv hv pb : Nat) (hP : PairsIn cols x w0 wp a b ca cb l r (.agg #[.slice a l.length ca, .slice b r.length cb, .func (.func 159) #[] #[.pointer (some ⟨rv, 0, none⟩), .pointer (some ⟨hv, 0, none⟩)]]) R rv) (W : World) (hI : PInv wp R rv W) (zb : ZsAt w0 b r) (hr : r.length ≤ 400) (ra : Option Addr) (rc : Nat) (y : Zp) (sy : SlAt w0 ra y.1) (h8 : ∀ q ∈ r, y.1.length + q.1.length ≤ 8) (hf : ∀ q ∈ r, FitP cols (y.1 ++ q.1))
    (cp : W.heap[pb]? = some (.cells #[.slice a l.length ca, .slice b r.length cb, .func (.func 159) #[] #[.pointer (some ⟨rv, 0, none⟩), .pointer (some ⟨hv, 0, none⟩)]] 79 (0, 0))) :
    Calls Tryz.prog 88 #[.agg #[.slice ra y.1.length rc, .int .i64 y.2], .pointer (some ⟨pb, 0, none⟩)] W fun e w' => e = .returned (.bool (!hasP x r y.1)) ∧ PInv wp R rv w' ∧ Since (rv + 1) W w' := by
  have hn : PNew wp R rv := by obtain ⟨_, _, _, _, _, hn, _⟩ := hP; exact hn
  have h1 : Below W.heap.size W (W.alloc (.cells #[.slice ra y.1.length rc, .int .i64 y.2] 53)) := (Below.refl _ _).alloc (Nat.le_refl _) _
  have p1 := (h1.block pb (lt_of_heap cp)).trans cp
  have k0 : (W.alloc (.cells #[.slice ra y.1.length rc, .int .i64 y.2] 53)).cell? ⟨pb, 0, none⟩ = some (.slice a l.length ca) := cell_of (i := 0) p1 rfl
  have k1 : (W.alloc (.cells #[.slice ra y.1.length rc, .int .i64 y.2] 53)).cell? ⟨pb, 1, none⟩ = some (.slice b r.length cb) := cell_of (i := 1) p1 rfl
  have k2 : (W.alloc (.cells #[.slice ra y.1.length rc, .int .i64 y.2] 53)).cell? ⟨pb, 2, none⟩ = some (.func (.func 159) #[] #[.pointer (some ⟨rv, 0, none⟩), .pointer (some ⟨hv, 0, none⟩)]) := cell_of (i := 2) p1 rfl
  have I1 := hI.later hn hI.size h1
  have con := isMatched_at cols x w0 wp _ a b ca cb l r _ R rv hP I1 zb hr ra rc y sy h8 hf
  generalize hasP x r y.1 = t at *
  clear hP p1 cp I1 h8 hf
  go_enter Tryz.func88, Tryz.ntmps88
  go_wp2_with fail
  generalize W.alloc (.cells #[.slice ra y.1.length rc, .int .i64 y.2] 53) = w1 at *
  refine con.mono ?_
  rintro e w2 ⟨rfl, I2, S2⟩
  have HI2 : Hid (PInv wp R rv w2) := I2
  have S3 : Since (rv + 1) W w2 := (Since.of h1).trans S2
  clear con I2 k0 k1 k2 hI
  dsimp only
  go_wp2_with fail
  go_ret
  exact ⟨rfl, HI2.out, S3⟩

set_option maxRecDepth 100000 in
set_option maxHeartbeats 4000000 in
theorem unmatched_at (cols : List Int) (x : Ex) (w0 wp w : World) (a b : Option Addr) (ca cb : Nat) (l r : List Zp) (v : Value) (R rv : Nat) (hP : PairsIn cols x w0 wp a b ca cb l r v R rv) (hI : PInv wp R rv w) (za : ZsAt w0 a l) (zb : ZsAt w0 b r) (hq : Askable cols l r) :
    Calls Tryz.prog 48 #[v] w fun e w' => ∃ u, e = .returned u ∧ OwnB w0 (w.heap.size + 1) w' u (antiL x l r) ∧ PInv wp R rv w' ∧ w.heap.size ≤ w'.heap.size := by
  have hP' := hP
  obtain ⟨lo, wc, hv, u, rfl, hn, hv0, hc, hC, hcR, hcp, h0, h0p⟩ := hP
  have hrv := hI.sz hn
  have hll := hq.ll
  have h1 : Below w.heap.size w (w.alloc (.cells #[.slice a l.length ca, .slice b r.length cb, .func (.func 159) #[] #[.pointer (some ⟨rv, 0, none⟩), .pointer (some ⟨hv, 0, none⟩)]] 79)) := (Below.refl _ _).alloc (Nat.le_refl _) _
  have p1 := heap_new w #[.slice a l.length ca, .slice b r.length cb, .func (.func 159) #[] #[.pointer (some ⟨rv, 0, none⟩), .pointer (some ⟨hv, 0, none⟩)]] 79
  have e1 : (w.alloc (.cells #[.slice a l.length ca, .slice b r.length cb, .func (.func 159) #[] #[.pointer (some ⟨rv, 0, none⟩), .pointer (some ⟨hv, 0, none⟩)]] 79)).heap.size = w.heap.size + 1 := by simp
  clear hC
  go_enter Tryz.func48, Tryz.ntmps48
  go_wp2_with fail
  generalize w.alloc (.cells #[.slice a l.length ca, .slice b r.length cb, .func (.func 159) #[] #[.pointer (some ⟨rv, 0, none⟩), .pointer (some ⟨hv, 0, none⟩)]] 79) = w1 at *
  have I1 := hI.later hn hI.size h1
  refine (picked_at 88 #[.pointer (some ⟨w.heap.size, 0, none⟩)] (fun y => !hasP x r y.1) a ca l w0 w1 (fun W => PInv wp R rv W ∧ W.heap[w.heap.size]? = some (.cells #[.slice a l.length ca, .slice b r.length cb, .func (.func 159) #[] #[.pointer (some ⟨rv, 0, none⟩), .pointer (some ⟨hv, 0, none⟩)]] 79 (0, 0))) za (by omega) (enters_of Tryz.func88 (by kernel_rfl) rfl) ⟨I1, p1⟩ (fun W hW => h0p.trans ((hW.1.below hn).mono h0)) (fun W W' hW hb => ⟨hW.1.later hn I1.size hb, (hb.block _ (by omega)).trans hW.2⟩) ?_).mono ?_
  · intro y hy ra rc W hW sy hz
    refine (unmatched1_at cols x w0 wp a b ca cb l r R rv hv w.heap.size hP' W hW.1 zb hq.rl ra rc y sy (fun q hq' => hq.row y hy q hq') (fun q hq' => hq.fit y hy q hq') hW.2).mono ?_
    rintro e w' ⟨rfl, I', S'⟩
    exact ⟨rfl, ⟨I', (S'.2 _ (by omega) (by omega)).trans hW.2⟩, S'.up (by omega)⟩
  rintro e w2 ⟨v2, rfl, O2, ⟨I2, _⟩, z2⟩
  have HI2 : Hid (PInv wp R rv w2) := I2
  have hs : l.filter (fun y => !hasP x r y.1) = antiL x l r := rfl
  rw [hs, e1] at O2
  obtain ⟨a2, c2, rfl, _⟩ := O2.zs (h0p.trans ((I2.below hn).mono h0))
  clear I2 I1 hP' p1
  dsimp only
  go_wp2_with fail
  go_ret
  exact ⟨_, rfl, O2, HI2.out, by omega⟩

set_option maxRecDepth 100000 in
set_option maxHeartbeats 4000000 in
theorem semi_at (left right : List Int) (x : Ex) (la : Option Addr) (lcap : Nat) (ra : Option Addr) (rcap : Nat) (xa : Option Addr) (xcap : Nat) (a : Option Addr) (ca : Nat) (l : List Zp) (b : Option Addr) (cb : Nat) (r : List Zp) (w : World)
    (hcl : IsAt w.heap.size w la left) (hcr : IsAt w.heap.size w ra right) (hx : KsAt w.heap.size w xa x.ks) (h : ZsAt w a l) (h' : ZsAt w b r) (hll : left.length ≤ 100000000000000) (hrl : right.length ≤ 100000000000000) :
    Calls Tryz.prog 17 #[.slice la left.length lcap, .slice ra right.length rcap, exV x.k x.v x.c xa x.ks.length xcap, .slice a l.length ca, .slice b r.length cb] w fun e w' => ∃ v, e = .returned (.tuple #[v, .int .i64 (pairE 1 left right x l r)]) ∧ OwnZ w.heap.size w' v (pairZ 1 left right x l r) ∧ Below w.heap.size w w' := by
  have h1 : Below w.heap.size w (w.alloc (.cells #[.int .i64 x.k, .int .i64 x.v.1, .int .i64 x.v.2.1, .string x.v.2.2, .int .i64 x.c, .slice xa x.ks.length xcap] 27)) := (Below.refl _ _).alloc (Nat.le_refl _) _
  have zs1 := h.next h1
  have zs1' := h'.next h1
  have con := ofPairs_at 1 47 #[] left right x la lcap ra rcap xa xcap a ca l b cb r (w.alloc (.cells #[.int .i64 x.k, .int .i64 x.v.1, .int .i64 x.v.2.1, .string x.v.2.2, .int .i64 x.c, .slice xa x.ks.length xcap] 27)) ((hcl.next h1 (Nat.le_refl _)).up h1.size) ((hcr.next h1 (Nat.le_refl _)).up h1.size) ((KsAt.next h1 (Nat.le_refl _) hx).up h1.size) zs1 zs1' hll hrl (enters_of Tryz.func47 (by kernel_rfl) rfl) (fun W v R rv hP hI hT => by
    refine (matched_at (left ++ right) x _ W W a b ca cb l r v R rv hP hI zs1 zs1' (askable hT)).mono ?_
    rintro e w' ⟨u, rfl, OJ, I', z'⟩
    obtain ⟨_, _, _, _, _, hn, _, _, _, _, _, hR, hB⟩ := hP
    have hE := hB.trans ((I'.below hn).mono hR)
    obtain ⟨ua, uc, rfl, zu, _⟩ := OJ.zs hE
    exact ⟨ua, uc, rfl, zu, hE⟩)
  generalize hfz : pairZ 1 left right x l r = fz at *
  generalize hfe : pairE 1 left right x l r = fe at *
  clear hfz hfe
  go_enter Tryz.func17, Tryz.ntmps17
  go_wp2_with fail
  generalize w.alloc (.cells #[.int .i64 x.k, .int .i64 x.v.1, .int .i64 x.v.2.1, .string x.v.2.2, .int .i64 x.c, .slice xa x.ks.length xcap] 27) = w1 at *
  refine con.mono ?_
  rintro e w2 ⟨v2, rfl, O2, hb2⟩
  have O2' := O2.mono h1.size
  obtain ⟨a2, c2, rfl, _⟩ := O2.zs
  clear con O2
  dsimp only
  go_wp2_with fail
  exact bodyPost_ret (v := .tuple #[.slice a2 fz.length c2, .int .i64 fe]) (by simp [results, Tryz.results17, go_sem]) rfl ⟨_, rfl, O2', chain h1 hb2⟩

set_option maxRecDepth 100000 in
set_option maxHeartbeats 4000000 in
theorem anti_at (left right : List Int) (x : Ex) (la : Option Addr) (lcap : Nat) (ra : Option Addr) (rcap : Nat) (xa : Option Addr) (xcap : Nat) (a : Option Addr) (ca : Nat) (l : List Zp) (b : Option Addr) (cb : Nat) (r : List Zp) (w : World)
    (hcl : IsAt w.heap.size w la left) (hcr : IsAt w.heap.size w ra right) (hx : KsAt w.heap.size w xa x.ks) (h : ZsAt w a l) (h' : ZsAt w b r) (hll : left.length ≤ 100000000000000) (hrl : right.length ≤ 100000000000000) :
    Calls Tryz.prog 18 #[.slice la left.length lcap, .slice ra right.length rcap, exV x.k x.v x.c xa x.ks.length xcap, .slice a l.length ca, .slice b r.length cb] w fun e w' => ∃ v, e = .returned (.tuple #[v, .int .i64 (pairE 2 left right x l r)]) ∧ OwnZ w.heap.size w' v (pairZ 2 left right x l r) ∧ Below w.heap.size w w' := by
  have h1 : Below w.heap.size w (w.alloc (.cells #[.int .i64 x.k, .int .i64 x.v.1, .int .i64 x.v.2.1, .string x.v.2.2, .int .i64 x.c, .slice xa x.ks.length xcap] 27)) := (Below.refl _ _).alloc (Nat.le_refl _) _
  have zs1 := h.next h1
  have zs1' := h'.next h1
  have con := ofPairs_at 2 48 #[] left right x la lcap ra rcap xa xcap a ca l b cb r (w.alloc (.cells #[.int .i64 x.k, .int .i64 x.v.1, .int .i64 x.v.2.1, .string x.v.2.2, .int .i64 x.c, .slice xa x.ks.length xcap] 27)) ((hcl.next h1 (Nat.le_refl _)).up h1.size) ((hcr.next h1 (Nat.le_refl _)).up h1.size) ((KsAt.next h1 (Nat.le_refl _) hx).up h1.size) zs1 zs1' hll hrl (enters_of Tryz.func48 (by kernel_rfl) rfl) (fun W v R rv hP hI hT => by
    refine (unmatched_at (left ++ right) x _ W W a b ca cb l r v R rv hP hI zs1 zs1' (askable hT)).mono ?_
    rintro e w' ⟨u, rfl, OJ, I', z'⟩
    obtain ⟨_, _, _, _, _, hn, _, _, _, _, _, hR, hB⟩ := hP
    have hE := hB.trans ((I'.below hn).mono hR)
    obtain ⟨ua, uc, rfl, zu, _⟩ := OJ.zs hE
    exact ⟨ua, uc, rfl, zu, hE⟩)
  generalize hfz : pairZ 2 left right x l r = fz at *
  generalize hfe : pairE 2 left right x l r = fe at *
  clear hfz hfe
  go_enter Tryz.func18, Tryz.ntmps18
  go_wp2_with fail
  generalize w.alloc (.cells #[.int .i64 x.k, .int .i64 x.v.1, .int .i64 x.v.2.1, .string x.v.2.2, .int .i64 x.c, .slice xa x.ks.length xcap] 27) = w1 at *
  refine con.mono ?_
  rintro e w2 ⟨v2, rfl, O2, hb2⟩
  have O2' := O2.mono h1.size
  obtain ⟨a2, c2, rfl, _⟩ := O2.zs
  clear con O2
  dsimp only
  go_wp2_with fail
  exact bodyPost_ret (v := .tuple #[.slice a2 fz.length c2, .int .i64 fe]) (by simp [results, Tryz.results18, go_sem]) rfl ⟨_, rfl, O2', chain h1 hb2⟩
end Go.Proofs.YtfojonhblblbjaaGreat
/- The walks of math/bits.Mul and slices.Repeat: one value, up to eight times. -/
namespace Go.Proofs.YtfojonhblblbjaaGreat
open Go.RowKit Go.Lib Go.Shelf

set_option maxRecDepth 100000 in
set_option maxHeartbeats 1000000 in
theorem mul64_at (c : Nat) (hc : c ≤ 8) (w : World) : Calls Tryz.prog 162 #[.int .u64 1, .int .u64 c] w fun e w' => e = .returned (.tuple #[.int .u64 0, .int .u64 c]) ∧ w' = w := by
  have h : c = 0 ∨ c = 1 ∨ c = 2 ∨ c = 3 ∨ c = 4 ∨ c = 5 ∨ c = 6 ∨ c = 7 ∨ c = 8 := by omega
  rcases h with rfl | rfl | rfl | rfl | rfl | rfl | rfl | rfl | rfl
  all_goals (
    have b0 : bits BinOp.and IntKind.u64 0 4294967295 = 0 := by decide +kernel
    have b1 : bits BinOp.and IntKind.u64 1 4294967295 = 1 := by decide +kernel
    have b2 : bits BinOp.and IntKind.u64 2 4294967295 = 2 := by decide +kernel
    have b3 : bits BinOp.and IntKind.u64 3 4294967295 = 3 := by decide +kernel
    have b4 : bits BinOp.and IntKind.u64 4 4294967295 = 4 := by decide +kernel
    have b5 : bits BinOp.and IntKind.u64 5 4294967295 = 5 := by decide +kernel
    have b6 : bits BinOp.and IntKind.u64 6 4294967295 = 6 := by decide +kernel
    have b7 : bits BinOp.and IntKind.u64 7 4294967295 = 7 := by decide +kernel
    have b8 : bits BinOp.and IntKind.u64 8 4294967295 = 8 := by decide +kernel
    go_enter Tryz.func162, Tryz.ntmps162
    go_wp2
    exact bodyPost_ret (by simp [results, Tryz.results162, go_sem]) rfl ⟨rfl, rfl⟩)
set_option maxRecDepth 100000 in
set_option maxHeartbeats 1000000 in
theorem mul_at (c : Nat) (hc : c ≤ 8) (w : World) : Calls Tryz.prog 127 #[.int .u64 1, .int .u64 c] w fun e w' => e = .returned (.tuple #[.int .u64 0, .int .u64 c]) ∧ w' = w := by
  go_enter Tryz.func127, Tryz.ntmps127
  go_wp2_with fail
  refine (mul64_at c hc w).mono ?_
  rintro e w1 ⟨rfl, rfl⟩
  dsimp only
  go_wp2_with fail
  exact bodyPost_ret (v := .tuple #[.int .u64 0, .int .u64 c]) (by simp [results, Tryz.results127, go_sem]) rfl ⟨rfl, rfl⟩

/-- A copy of elements of k cells. -/
theorem run_copy_k {P : Program} (w : World) (dT sT ty elem : TypeId) (g o dLen dCap : Nat) (a : Addr) (sLen sCap k m : Nat) (cur : List Value) (t : TypeId) (cs : List Value)
    (hu : P.underlying dT = some (.slice elem)) (hs : (P.info? elem).map (·.size) = some k)
    (hg : w.heap[g]? = some (.cells cur.toArray t (0, 0))) (hm : Nat.min sLen dLen = m) (hn : cs.length = m * k)
    (hsrc : ∀ j v, cs[j]? = some v → w.cell? (a.add j) = some v) (hfit : o + cs.length ≤ cur.length) (h1 : ∀ v ∈ cs, v.oneCell' = true) :
    (Builtin.copy_ #[dT, sT] ty #[.slice (some ⟨g, o, none⟩) dLen dCap, .slice (some a) sLen sCap]).run P w =
      .ok (goInt m) (w.setRow g (splice cur o cs).toArray) := by
  have hl := run_loadCells_list (P := P) w a cs hsrc
  have hst := run_storeCells_at P g o t cs 0 cur.toArray w hg (by simpa using hfit) h1
  rw [hn] at hl
  cases hq : P.info? elem with
  | none => simp [hq] at hs
  | some i =>
    have hi : i.size = k := by simpa [hq] using hs
    simp [Builtin.copy_, run_underlying hu, Builtin.lenOf, Builtin.firstCells, sizeOf, typeInfo, hq, hi, hm, hl, hst, splice]
def repV (v : Vl) (n c : Nat) : List Value := flatV (List.replicate n v ++ List.replicate (c - n) vl0)
theorem repV_len (v : Vl) (n c : Nat) (h : n ≤ c) : (repV v n c).length = c * 3 := by
  unfold repV; rw [flatV_len]; simp; omega
theorem repV_splice (v : Vl) (n m c : Nat) (h : n + m ≤ c) : splice (repV v n c) (n * 3) (flatV (List.replicate m v)) = repV v (n + m) c := by
  have e1 : repV v n c = flatV (List.replicate n v) ++ (flatV (List.replicate m vl0) ++ flatV (List.replicate (c - n - m) vl0)) := by
    unfold repV
    rw [← flatV_append, ← flatV_append, List.replicate_append_replicate, show m + (c - n - m) = c - n by omega]
  have l1 : (flatV (List.replicate n v)).length = n * 3 := by rw [flatV_len]; simp
  have l2 : (flatV (List.replicate m v)).length = m * 3 := by rw [flatV_len]; simp
  have l3 : (flatV (List.replicate m vl0)).length = m * 3 := by rw [flatV_len]; simp
  have t1 : (repV v n c).take (n * 3) = flatV (List.replicate n v) := by rw [e1]; exact List.take_left' l1
  have t2 : (repV v n c).drop (n * 3 + m * 3) = flatV (List.replicate (c - n - m) vl0) := by rw [e1, ← List.append_assoc]; exact List.drop_left' (by rw [List.length_append, l1, l3])
  unfold splice
  rw [l2, t1, t2]
  unfold repV
  rw [← List.append_assoc, ← flatV_append, ← flatV_append, List.replicate_append_replicate, show c - n - m = c - (n + m) by omega]
theorem sizeV : (Tryz.prog.info? 24).map (·.size) = some 3 := by kernel_rfl
theorem repV_cells {W : World} {g n c : Nat} {v : Vl} (h : W.heap[g]? = some (.cells (repV v n c).toArray 24 (0, 0))) {m : Nat} (hm : m ≤ n) : ∀ j u, (flatV (List.replicate m v))[j]? = some u → W.cell? ((⟨g, 0, none⟩ : Addr).add j) = some u := fun j u hj => by
  rw [addr_add', Nat.zero_add]
  have e : repV v n c = flatV (List.replicate m v) ++ flatV (List.replicate (n - m) v ++ List.replicate (c - n) vl0) := by
    unfold repV
    rw [← flatV_append, ← List.append_assoc, List.replicate_append_replicate, show m + (n - m) = n by omega]
  have hl : j < (flatV (List.replicate m v)).length := by
    rcases Nat.lt_or_ge j (flatV (List.replicate m v)).length with h | h
    · exact h
    · rw [List.getElem?_eq_none h] at hj; cases hj
  simp only [World.cell?, h]
  simp only [Option.isSome_none, Bool.false_eq_true, if_false, List.getElem?_toArray]
  rw [e, List.getElem?_append_left hl]
  exact hj

theorem made_rep (v : Vl) (c : Nat) (hc : c ≤ 8) : repV v 0 c = (madeCells #[.int .i64 0, .int .i64 0, .string ⟨#[]⟩] (c * 3)).toList := by
  have h : c = 0 ∨ c = 1 ∨ c = 2 ∨ c = 3 ∨ c = 4 ∨ c = 5 ∨ c = 6 ∨ c = 7 ∨ c = 8 := by omega
  rcases h with rfl | rfl | rfl | rfl | rfl | rfl | rfl | rfl | rfl <;> simp [repV, flatV, madeCells, vl0, List.replicate, List.range_succ]
theorem wp_copy_at {P : Program} {w : World} {o : Oper} {a : Act} {K : Act → World → Prop} {Q : Exit → Act → World → Prop} (d : Option Tmp) (hd : o.dst = d) (s x : Operand) (t : TypeId)
    (ho : o.op = .call { callee := .builtin .copy, args := #[s, x], argTypes := #[t, t] })
    (elem : TypeId) (g off dLen dCap : Nat) (ad : Addr) (sLen sCap k m : Nat) (cur : List Value) (T : TypeId) (cs : List Value)
    (hu : P.underlying t = some (.slice elem)) (hsz : (P.info? elem).map (·.size) = some k)
    (hg : w.heap[g]? = some (.cells cur.toArray T (0, 0))) (hm : Nat.min sLen dLen = m) (hn : cs.length = m * k)
    (hsrc : ∀ j v, cs[j]? = some v → w.cell? (ad.add j) = some v) (hfit : off + cs.length ≤ cur.length) (h1 : ∀ v ∈ cs, v.oneCell' = true)
    (hs : a.eval s = .slice (some ⟨g, off, none⟩) dLen dCap) (hx : a.eval x = .slice (some ad) sLen sCap)
    (h : K (a.put d (goInt m)) (w.setRow g (splice cur off cs).toArray)) : o.wp P a w K Q := by
  subst hd
  have hr := run_copy_k (P := P) w t t o.type elem g off dLen dCap ad sLen sCap k m cur T cs hu hsz hg hm hn hsrc hfit h1
  unfold Oper.wp execOp
  simp only [ho, resolve, invoke, builtin, Sem.run_bind, Sem.run_pure, Result.andThen_ok, List.map_toArray, List.map_cons, List.map_nil, hs, hx, hr]
  exact h
theorem repV_sl {W : World} {g c : Nat} {v : Vl} (h : W.heap[g]? = some (.cells (repV v c c).toArray 24 (0, 0))) (hc : c ≤ 8) : SlAt W (some ⟨g, 0, none⟩) (List.replicate c v) ∧ TyAt W (some ⟨g, 0, none⟩) := by
  have hlt := lt_of_heap h
  refine ⟨⟨by simp; unfold maxLen; omega, .inr ⟨g, 0, rfl, fun i hi => ?_, hlt⟩⟩, fun b off e => ?_⟩
  · have hi' : i < c := by simpa using hi
    have hc := repV_cells h (Nat.le_refl c)
    obtain ⟨f0, f1, f2⟩ := flatV_get (List.replicate c v) i hi
    have g0 := hc _ _ f0
    have g1 := hc _ _ f1
    have g2 := hc _ _ f2
    rw [addr_add'] at g0 g1 g2
    exact ⟨g0, g1, g2⟩
  · have e := Option.some.inj e
    injection e with e1
    subst e1
    exact ⟨_, _, h⟩

set_option maxRecDepth 100000 in
set_option maxHeartbeats 4000000 in
theorem repeat_at (B : Nat) (v : Vl) (c : Nat) (hc : c ≤ 8) (w : World) (q0 : w.cell? ⟨B, 0, none⟩ = some (.int .i64 v.1)) (q1 : w.cell? ⟨B, 1, none⟩ = some (.int .i64 v.2.1)) (q2 : w.cell? ⟨B, 2, none⟩ = some (.string v.2.2)) :
    Calls Tryz.prog 90 #[.slice (some ⟨B, 0, none⟩) 1 1, .int .i64 c] w fun e w' => e = .returned (.slice (some ⟨w.heap.size, 0, none⟩) c c) ∧ SlAt w' (some ⟨w.heap.size, 0, none⟩) (List.replicate c v) ∧ TyAt w' (some ⟨w.heap.size, 0, none⟩) ∧ Below w.heap.size w w' := by
  obtain ⟨i0, hi, hj0, hj1, hj2⟩ := info_parts infoV
  have hB := World.block_lt_of_cell? _ _ q0
  go_enter Tryz.func90, Tryz.ntmps90
  go_wp2_with fail
  refine (mul_at c hc w).mono ?_
  rintro e w1 ⟨rfl, rfl⟩
  dsimp only
  go_wp2_with (first | (at_make; refine wpList_make_full _ rfl _ _ 51 rfl w1.heap.size 24 i0 _ 3 Tryz.underlying51 hi hj0 hj1 .i64 .i64 c c c rfl rfl rfl rfl (by rw [hj2]; omega) (by unfold maxLen; omega) (Nat.le_refl _) ?_))
  intro w2 hown hgrow
  have hb2 : Below w1.heap.size w1 w2 := (Below.refl _ _).grown hgrow (Nat.le_refl _) (by simp)
  have hrow : w2.heap[w1.heap.size]? = some (.cells (repV v 0 c).toArray 24 (0, 0)) := by
    obtain ⟨hx, ⟨e, _⟩ | ⟨g, cap, cur, e, _, hh, _, hcs, hs, ht⟩⟩ := hown
    · cases e
    · injection e with e1 _ e3
      have e1 := Option.some.inj e1
      injection e1 with e1
      subst e1 e3
      have hcl : cur.toList = (madeCells #[.int .i64 0, .int .i64 0, .string ⟨#[]⟩] (c * 3)).toList := by
        rw [← ht]; exact (List.take_of_length_le (by simp [hs])).symm
      have hrp : repV v 0 c = (madeCells #[.int .i64 0, .int .i64 0, .string ⟨#[]⟩] (c * 3)).toList := made_rep v c hc
      rw [hrp, ← hcl]
      exact hh
  clear hown hgrow
  have p0 := (hb2.cell (p := ⟨B, 0, none⟩) hB).trans q0
  have p1 := (hb2.cell (p := ⟨B, 1, none⟩) hB).trans q1
  have p2 := (hb2.cell (p := ⟨B, 2, none⟩) hB).trans q2
  obtain ⟨m0, hm0⟩ : ∃ m, m = Nat.min 1 c := ⟨_, rfl⟩
  have hm1 : m0 ≤ 1 := by rw [hm0]; exact Nat.min_le_left _ _
  have hm2 : m0 ≤ c := by rw [hm0]; exact Nat.min_le_right _ _
  have hm3 : c = 0 ∨ m0 = 1 := by
    rcases Nat.eq_zero_or_pos c with h | h
    · exact .inl h
    · exact .inr (by rw [hm0]; exact Nat.min_eq_left h)
  have HM3 : Hid (c = 0 ∨ m0 = 1) := hm3
  have hrow1 : (w2.setRow w1.heap.size (splice (repV v 0 c) (0 * 3) (flatV (List.replicate m0 v))).toArray).heap[w1.heap.size]? = some (.cells (repV v (0 + m0) c).toArray 24 (0, 0)) := by
    rw [setRow_heap w2 w1.heap.size _ _ _ _ hrow, repV_splice v 0 m0 c (by omega)]
  have hbr : Below w1.heap.size w1 (w2.setRow w1.heap.size (splice (repV v 0 c) (0 * 3) (flatV (List.replicate m0 v))).toArray) := below_setRow hb2 (Nat.le_refl _) _
  have hs1 : ∀ j u, (flatV (List.replicate m0 v))[j]? = some u → w2.cell? ((⟨B, 0, none⟩ : Addr).add j) = some u := by
    intro j u hj
    have hj' : j < (flatV (List.replicate m0 v)).length := by
      rcases Nat.lt_or_ge j (flatV (List.replicate m0 v)).length with h | h
      · exact h
      · rw [List.getElem?_eq_none h] at hj; cases hj
    have e1 : m0 = 1 := by
      rw [flatV_len] at hj'; simp at hj'; omega
    rw [e1] at hj
    have hj3 : j = 0 ∨ j = 1 ∨ j = 2 := by rw [flatV_len] at hj'; simp at hj'; omega
    rcases hj3 with rfl | rfl | rfl
    · simp [flatV] at hj; subst hj; rw [addr_add']; exact p0
    · simp [flatV] at hj; subst hj; rw [addr_add']; exact p1
    · simp [flatV] at hj; subst hj; rw [addr_add']; exact p2
  have hs2 : 0 * 3 + (flatV (List.replicate m0 v)).length ≤ (repV v 0 c).length := by rw [flatV_len, repV_len v 0 c (Nat.zero_le _)]; simp; omega
  have hs3 : (flatV (List.replicate m0 v)).length = m0 * 3 := by rw [flatV_len]; simp
  have hcopy : Sem.run Tryz.prog (Builtin.copy_ #[51, 51] 3 #[.slice (some ⟨w1.heap.size, 0, none⟩) c c, .slice (some ⟨B, 0, none⟩) 1 1]) w2 = .ok (.int .i64 m0) (w2.setRow w1.heap.size (splice (repV v 0 c) (0 * 3) (flatV (List.replicate m0 v))).toArray) := run_copy_k w2 _ _ _ 24 w1.heap.size 0 c c ⟨B, 0, none⟩ 1 1 3 m0 (repV v 0 c) 24 (flatV (List.replicate m0 v)) Tryz.underlying51 sizeV hrow hm0.symm hs3 hs1 hs2 (flatV_one _)
  rw [Nat.zero_add] at hrow1
  clear hrow hm0 hm3 hs1 hs2 hs3
  generalize w2.setRow w1.heap.size (splice (repV v 0 c) (0 * 3) (flatV (List.replicate m0 v))).toArray = w3 at *
  go_wp2_with fail
  go_loopw [8] (fun s8 wr => ∃ n : Nat, n ≤ c ∧ s8 = .int .i64 n ∧ Hid (c = 0 ∨ 0 < n) ∧ Hid (wr.heap[w1.heap.size]? = some (.cells (repV v n c).toArray 24 (0, 0))) ∧ Below w1.heap.size w1 wr) (fun s8 _ => c - (intOf s8).toNat)
  case atStart => exact ⟨m0, hm2, by first | rfl | simp [goInt], by rcases HM3.out with h | h; exact .inl h; exact .inr (by omega), hrow1, hbr⟩
  case round =>
    clear hrow1 hbr
    obtain ⟨n, hnc, rfl, HN, HR, hb⟩ := hrel
    by_cases hlt : n < c
    · have hltz : (n : Int) < (c : Int) := by omega
      have hn0 : 0 < n := by rcases HN.out with h | h; omega; exact h
      obtain ⟨m, hm⟩ : ∃ m, m = Nat.min n (c - n) := ⟨_, rfl⟩
      have hm1 : m ≤ n := by rw [hm]; exact Nat.min_le_left _ _
      have hm2 : m ≤ c - n := by rw [hm]; exact Nat.min_le_right _ _
      have hm3 : 0 < m := by rw [hm]; exact Nat.lt_min.2 ⟨hn0, by omega⟩
      have HM : Hid (m = Nat.min n (c - n)) := hm
      clear hm
      go_wp2_with fail
      have hCC : ∀ W W' : World, True → Below W.heap.size W W' → True := fun _ _ _ _ => trivial
      have hdr : Below wr.heap.size wr wr.drew := (Below.refl _ _).drew
      refine wp_region_cls (fun _ => True) (by kernel_rfl) ?_
      refine wpY_take hCC (some 38) (i := 0) (v := .int .i64 n) rfl rfl (by kernel_rfl) (by kernel_rfl) (by kernel_rfl) (fun _ _ _ h => h) (Or.inl ⟨rfl, fun k hk => ?_⟩) trivial ?_
      · go_simp
      simp only [Act.put, List.setIfInBounds_toArray, List.set_cons_zero, List.set_cons_succ]
      refine wpY_take hCC (some 39) (i := 1) (v := .slice (some ⟨w1.heap.size, 0, none⟩) c c) rfl rfl (by kernel_rfl) (by kernel_rfl) (by kernel_rfl) (fun _ _ _ h => h) (Or.inl ⟨rfl, fun k hk => ?_⟩) trivial ?_
      · go_simp
      simp only [Act.put, List.setIfInBounds_toArray, List.set_cons_zero, List.set_cons_succ]
      refine wpY_take hCC (some 40) (i := 2) (v := .int .i64 n) rfl rfl (by kernel_rfl) (by kernel_rfl) (by kernel_rfl) (fun _ _ _ h => h) (Or.inl ⟨rfl, fun k hk => ?_⟩) trivial ?_
      · go_simp
      simp only [Act.put, List.setIfInBounds_toArray, List.set_cons_zero, List.set_cons_succ]
      refine wpY_take hCC (some 41) (i := 3) (v := .slice (some ⟨w1.heap.size, n * 3, none⟩) (c - n) (c - n)) rfl rfl (by kernel_rfl) (by kernel_rfl) (by kernel_rfl) (fun _ _ _ h => h) (Or.inl ⟨rfl, fun k hk => ?_⟩) trivial ?_
      · go_simp
        omega
      simp only [Act.put, List.setIfInBounds_toArray, List.set_cons_zero, List.set_cons_succ]
      refine wpY_take hCC (some 42) (i := 4) (v := .slice (some ⟨w1.heap.size, 0, none⟩) c c) rfl rfl (by kernel_rfl) (by kernel_rfl) (by kernel_rfl) (fun _ _ _ h => h) (Or.inl ⟨rfl, fun k hk => ?_⟩) trivial ?_
      · go_simp
      simp only [Act.put, List.setIfInBounds_toArray, List.set_cons_zero, List.set_cons_succ]
      refine wpY_take hCC (some 43) (i := 5) (v := .int .i64 n) rfl rfl (by kernel_rfl) (by kernel_rfl) (by kernel_rfl) (fun _ _ _ h => h) (Or.inl ⟨rfl, fun k hk => ?_⟩) trivial ?_
      · go_simp
      simp only [Act.put, List.setIfInBounds_toArray, List.set_cons_zero, List.set_cons_succ]
      refine wpY_take hCC (some 44) (i := 6) (v := .slice (some ⟨w1.heap.size, 0, none⟩) n c) rfl rfl (by kernel_rfl) (by kernel_rfl) (by kernel_rfl) (fun _ _ _ h => h) (Or.inl ⟨rfl, fun k hk => ?_⟩) trivial ?_
      · go_simp
      simp only [Act.put, List.setIfInBounds_toArray, List.set_cons_zero, List.set_cons_succ]
      refine wpY_step (rs := [7]) (by kernel_rfl) (by simp) ?_
      intro w4 hb4 jj hj
      obtain rfl : jj = 7 := by simpa using hj
      clear hj
      have D4 := chain hdr hb4
      have R4 : w4.heap[w1.heap.size]? = some (.cells (repV v n c).toArray 24 (0, 0)) := (D4.block _ (lt_of_heap HR.out)).trans HR.out
      have hrow1 : (w4.setRow w1.heap.size (splice (repV v n c) (n * 3) (flatV (List.replicate m v))).toArray).heap[w1.heap.size]? = some (.cells (repV v (n + m) c).toArray 24 (0, 0)) := by
        rw [setRow_heap w4 w1.heap.size _ _ _ _ R4, repV_splice v n m c (by omega)]
      have hbr : Below w1.heap.size w1 (w4.setRow w1.heap.size (splice (repV v n c) (n * 3) (flatV (List.replicate m v))).toArray) := below_setRow (chain hb D4) (Nat.le_refl _) _
      refine wpOp_step rfl (fun K hK => ?_)
      refine Eq.mpr (if_pos (by kernel_rfl)) ?_
      refine wp_copy_at (some 45) rfl (Operand.tmp 41) (Operand.tmp 44) 51 rfl 24 w1.heap.size (n * 3) (c - n) (c - n) ⟨w1.heap.size, 0, none⟩ n c 3 m (repV v n c) 24 (flatV (List.replicate m v)) Tryz.underlying51 sizeV R4 HM.out.symm (by rw [flatV_len]; simp) (repV_cells R4 hm1) (by rw [flatV_len, repV_len v n c hnc]; simp; omega) (flatV_one _) rfl rfl ?_
      refine hK _ _ ⟨trivial, ?_⟩
      clear hK K R4
      generalize w4.setRow w1.heap.size (splice (repV v n c) (n * 3) (flatV (List.replicate m v))).toArray = w5 at *
      simp only [Act.put, List.setIfInBounds_toArray, List.set_cons_zero, List.set_cons_succ]
      refine wpY_take hCC (some 46) (i := 8) (v := .int .i64 ((n + m : Nat) : Int)) rfl rfl (by kernel_rfl) (by kernel_rfl) (by kernel_rfl) (fun _ _ _ h => h) (Or.inl ⟨rfl, fun k hk => ?_⟩) trivial ?_
      · go_simp
        rw [IntKind.wrap_i64]
        omega
      simp only [Act.put, List.setIfInBounds_toArray, List.set_cons_zero, List.set_cons_succ]
      refine wpY_take hCC (some 8) (i := 9) (v := .int .i64 ((n + m : Nat) : Int)) rfl rfl (by kernel_rfl) (by kernel_rfl) (by kernel_rfl) (fun _ _ _ h => h) (Or.inl ⟨rfl, fun k hk => ?_⟩) trivial ?_
      · go_simp
      simp only [Act.put, List.setIfInBounds_toArray, List.set_cons_zero, List.set_cons_succ]
      refine wpY_done (by kernel_rfl) ?_
      intro w6 hb6
      have HR6 : Hid (w6.heap[w1.heap.size]? = some (.cells (repV v (n + m) c).toArray 24 (0, 0))) := (hb6.block _ (lt_of_heap hrow1)).trans hrow1
      have hB6 := chain hbr hb6
      clear hrow1 hbr hb6
      go_wp2_with fail
      go_roundw
      case rel => exact ⟨n + m, by omega, by first | rfl | go_num, .inr (by omega), HR6, hB6⟩
      case measure => simp [intOf]; omega
    · have e : n = c := by omega
      subst e
      obtain ⟨s1, s2⟩ := repV_sl HR.out hc
      go_wp2_with fail
      go_ret
      exact ⟨rfl, s1, s2, hb⟩
end Go.Proofs.YtfojonhblblbjaaGreat
/- The walks of ops.widened and ops.Left. -/
namespace Go.Proofs.YtfojonhblblbjaaGreat
open Go.RowKit Go.Lib Go.Shelf

theorem null_at (w : World) : Calls Tryz.prog 91 #[] w fun e w' => e = .returned (.agg #[.int .i64 1, .int .i64 0, .string ⟨#[]⟩]) ∧ Below w.heap.size w w' := by
  go_enter Tryz.func91, Tryz.ntmps91
  go_wp2_with fail
  exact bodyPost_ret (v := .agg #[.int .i64 1, .int .i64 0, .string ⟨#[]⟩]) (by simp [results, Tryz.results91, go_sem]) rfl ⟨rfl, by first | exact Below.refl _ _ | exact (Below.refl _ _).alloc (Nat.le_refl _) _⟩
theorem Pair.new2 {w : World} {a b : Option Addr} {ca cb : Nat} {l l' : List Zp} (h : ZsAt w a l) (n : a = none → ca = 0) (h' : ZsAt w b l') (n' : b = none → cb = 0) (T : TypeId) : Pair (w.alloc (.cells #[.slice a l.length ca, .slice b l'.length cb] T)) w.heap.size l l' := by
  have hal : Below w.heap.size w (w.alloc (.cells #[.slice a l.length ca, .slice b l'.length cb] T)) := (Below.refl _ _).alloc (Nat.le_refl _) _
  refine ⟨by simp, fun k hk => ?_⟩
  match k, hk with
  | 0, _ => exact ⟨a, ca, l, by simp, h.next hal, n, by simp [catTo]⟩
  | 1, _ => exact ⟨b, cb, l', by simp, h'.next hal, n', by simp [catTo]⟩
theorem wideL_len (n : Nat) (l : List Zp) : (wideL n l).length = l.length := by simp [wideL]

set_option maxRecDepth 100000 in
set_option maxHeartbeats 8000000 in
theorem widened_at (a : Option Addr) (ca : Nat) (l : List Zp) (m : Nat) (hm : m ≤ 8) (w : World) (h : ZsAt w a l) (hl : l.length ≤ 400) (h8 : ∀ y ∈ l, y.1.length + m ≤ 8) :
    Calls Tryz.prog 51 #[.slice a l.length ca, .int .i64 m] w fun e w' => ∃ a' c', e = .returned (.slice a' (wideL m l).length c') ∧ ZsAt w' a' (wideL m l) ∧ (a' = none → c' = 0) ∧ Below w.heap.size w w' := by
  obtain ⟨i0, hi, hz0, hz1, hz2⟩ := info_parts Tryz.info42
  rw [wideL_len]
  go_enter Tryz.func51, Tryz.ntmps51
  go_wp2_with fail
  refine (null_at w).mono ?_
  rintro e w1 ⟨rfl, hb1⟩
  dsimp only
  go_wp2_with fail
  have h2 : Below w1.heap.size w1 (w1.alloc (.cells #[.int .i64 1, .int .i64 0, .string ⟨#[]⟩] 24)) := (Below.refl _ _).alloc (Nat.le_refl _) _
  have con := repeat_at w1.heap.size (1, 0, ⟨#[]⟩) m hm (w1.alloc (.cells #[.int .i64 1, .int .i64 0, .string ⟨#[]⟩] 24)) (by simp) (by simp) (by simp)
  generalize w1.alloc (.cells #[.int .i64 1, .int .i64 0, .string ⟨#[]⟩] 24) = w2 at *
  refine con.mono ?_
  rintro e w3 ⟨rfl, sn, tn, hb3⟩
  clear con
  have hA := chain (chain hb1 h2) hb3
  have hnl : (nulls m).length = m := by simp [nulls]
  have sn : SlAt w3 (some ⟨w2.heap.size, 0, none⟩) (nulls m) := sn
  dsimp only
  go_wp2_with (first | (at_make; refine wpList_make_full _ rfl _ _ 28 rfl w3.heap.size 53 i0 _ 2 Tryz.underlying28 hi hz0 hz1 .i64 .i64 l.length l.length l.length rfl rfl rfl rfl (by rw [hz2]; omega) (by unfold maxLen; omega) (Nat.le_refl _) ?_))
  intro w4 hown hgrow
  have hb4 : Below w3.heap.size w3 w4 := (Below.refl _ _).grown hgrow (Nat.le_refl _) (by simp)
  obtain ⟨f, hf⟩ : ∃ f : Nat → Zp, f = (fun j => (wideL m l).getD j ([], 0)) := ⟨_, rfl⟩
  have HFn : Hid (f = (fun j => (wideL m l).getD j ([], 0))) := hf
  clear hf
  have hB0 : MTo w4 w3.heap.size l.length f 0 := ⟨_, hown, fun j _ hj => absurd hj (Nat.not_lt_zero _)⟩
  have HNL : Hid ((nulls m).length = m) := hnl
  clear hown hgrow hnl
  go_wp2_with fail
  go_loopw [18] (fun i wr => ∃ k : Nat, k ≤ l.length ∧ i = .int .i64 k ∧ MTo wr w3.heap.size l.length f k ∧ Below w3.heap.size w3 wr) (fun i _ => l.length - (intOf i).toNat)
  case atStart => exact ⟨0, Nat.zero_le _, rfl, hB0, hb4⟩
  case round =>
    clear hB0 hb4
    obtain ⟨k, hk, rfl, HB, hb⟩ := hrel
    have hz := hb.size
    by_cases hlt : k < l.length
    · obtain ⟨bb, off, rfl, hbl, c1, ar, cr, c0, sr⟩ := (h.next (chain hA hb)).elem hlt
      have hal : Below wr.heap.size wr (wr.alloc (.cells #[.slice ar l[k].1.length cr, .int .i64 l[k].2] 53)) := (Below.refl _ _).alloc (Nat.le_refl _) _
      have q0 := heap_new wr #[.slice ar l[k].1.length cr, .int .i64 l[k].2] 53
      have za : (wr.alloc (.cells #[.slice ar l[k].1.length cr, .int .i64 l[k].2] 53)).heap.size = wr.heap.size + 1 := by simp
      have ef : f k = (l[k].1 ++ nulls m, l[k].2) := by rw [HFn.out]; simp [wideL, List.getD, hlt]
      have EF : Hid (f k = (l[k].1 ++ nulls m, l[k].2)) := ef
      have h8k := h8 l[k] (List.getElem_mem hlt)
      have HS : Hid (SlAt wr ar l[k].1) := sr
      have i0' : (0 : Int) ≤ (k : Int) := by omega
      have i1 : (k : Int) < (l.length : Int) := by omega
      clear ef sr
      go_wp2_with fail
      clear c0 c1
      generalize wr.alloc (.cells #[.slice ar l[k].1.length cr, .int .i64 l[k].2] 53) = wk at *
      have CELW : ∀ W : World, (W.heap[wr.heap.size]? = some (.cells #[.slice ar l[k].1.length cr, .int .i64 l[k].2] 53 (0, 0))) = (W.heap[wr.heap.size]? = some (.cells #[.slice ar l[k].1.length cr, .int .i64 l[k].2] 53 (0, 0))) := fun _ => rfl
      clear CELW
      have hCC : ∀ W W' : World, W.heap[wr.heap.size]? = some (.cells #[.slice ar l[k].1.length cr, .int .i64 l[k].2] 53 (0, 0)) → Below W.heap.size W W' → W'.heap[wr.heap.size]? = some (.cells #[.slice ar l[k].1.length cr, .int .i64 l[k].2] 53 (0, 0)) := fun W W' h hb => (hb.block _ (lt_of_heap h)).trans h
      have hdr : Below wk.heap.size wk wk.drew := (Below.refl _ _).drew
      have CW : wk.drew.heap[wr.heap.size]? = some (.cells #[.slice ar l[k].1.length cr, .int .i64 l[k].2] 53 (0, 0)) := hCC _ _ q0 hdr
      refine wp_region_cls (fun W => W.heap[wr.heap.size]? = some (.cells #[.slice ar l[k].1.length cr, .int .i64 l[k].2] 53 (0, 0))) (by kernel_rfl) ?_
      refine wpY_take hCC (some 23) (i := 0) (v := .slice (some ⟨w3.heap.size, 0, none⟩) l.length l.length) rfl rfl (by kernel_rfl) (by kernel_rfl) (by kernel_rfl) (fun _ _ _ h => h) (Or.inl ⟨rfl, fun n hn => ?_⟩) CW ?_
      · go_simp
      simp only [Act.put, List.setIfInBounds_toArray, List.set_cons_zero, List.set_cons_succ]
      refine wpY_take hCC (some 24) (i := 1) (v := .int .i64 k) rfl rfl (by kernel_rfl) (by kernel_rfl) (by kernel_rfl) (fun _ _ _ h => h) (Or.inl ⟨rfl, fun n hn => ?_⟩) CW ?_
      · go_simp
      simp only [Act.put, List.setIfInBounds_toArray, List.set_cons_zero, List.set_cons_succ]
      refine wpY_take hCC (some 25) (i := 2) (v := .pointer (some ⟨wr.heap.size, 0, none⟩)) rfl rfl (by kernel_rfl) (by kernel_rfl) (by kernel_rfl) (fun _ _ _ h => h) (Or.inl ⟨rfl, fun n hn => ?_⟩) CW ?_
      · go_simp
      simp only [Act.put, List.setIfInBounds_toArray, List.set_cons_zero, List.set_cons_succ]
      refine wpY_take hCC (some 26) (i := 3) (v := .slice ar l[k].1.length cr) rfl rfl (by kernel_rfl) (by kernel_rfl) (by kernel_rfl) (fun _ _ _ h => h) (Or.inl ⟨rfl, fun n hn => ?_⟩) CW ?_
      · have hcell : n.cell? ⟨wr.heap.size, 0, none⟩ = some (.slice ar l[k].1.length cr) := cell_of (i := 0) hn rfl
        go_simp
      simp only [Act.put, List.setIfInBounds_toArray, List.set_cons_zero, List.set_cons_succ]
      refine wpY_take hCC (some 27) (i := 4) (v := .slice (some ⟨w2.heap.size, 0, none⟩) m m) rfl rfl (by kernel_rfl) (by kernel_rfl) (by kernel_rfl) (fun _ _ _ h => h) (Or.inl ⟨rfl, fun n hn => ?_⟩) CW ?_
      · go_simp
      simp only [Act.put, List.setIfInBounds_toArray, List.set_cons_zero, List.set_cons_succ]
      refine wpY_take hCC (some 30) (i := 7) (v := .pointer (some ⟨wr.heap.size, 1, none⟩)) rfl rfl (by kernel_rfl) (by kernel_rfl) (by kernel_rfl) (fun _ _ _ h => h) (Or.inl ⟨rfl, fun n hn => ?_⟩) CW ?_
      · go_simp
      simp only [Act.put, List.setIfInBounds_toArray, List.set_cons_zero, List.set_cons_succ]
      refine wpY_take hCC (some 31) (i := 8) (v := .int .i64 l[k].2) rfl rfl (by kernel_rfl) (by kernel_rfl) (by kernel_rfl) (fun _ _ _ h => h) (Or.inl ⟨rfl, fun n hn => ?_⟩) CW ?_
      · have hcell : n.cell? ⟨wr.heap.size, 1, none⟩ = some (.int .i64 l[k].2) := cell_of (i := 1) hn rfl
        go_simp
      simp only [Act.put, List.setIfInBounds_toArray, List.set_cons_zero, List.set_cons_succ]
      refine wpY_step (rs := [5]) (by kernel_rfl) (by simp) ?_
      intro w5 hb5 jj hj
      obtain rfl : jj = 5 := by simpa using hj
      clear hj
      refine wpOp_step rfl (fun K hK => ?_)
      go_simp
      have D5 := chain (chain hal hdr) hb5
      have CW5 := hCC _ _ CW hb5
      have B5 := chain hb D5
      have hal5 : Below w5.heap.size w5 (w5.alloc (.cells #[.slice ar l[k].1.length cr, .slice (some ⟨w2.heap.size, 0, none⟩) m m] 51)) := (Below.refl _ _).alloc (Nat.le_refl _) _
      have PC := PairC.new cr m (raw_vals (HS.out.next D5)) (raw_vals (sn.next B5)) 51
      rw [HNL.out] at PC
      have D6 := chain D5 hal5
      have CW6 := hCC _ _ CW5 hal5
      refine hK _ _ ⟨CW6, ?_⟩
      clear hK K hal5 hb5 CW CW5
      generalize w5.alloc (.cells #[.slice ar l[k].1.length cr, .slice (some ⟨w2.heap.size, 0, none⟩) m m] 51) = w6 at *
      refine wpY_step (rs := [6]) (by kernel_rfl) (by simp) ?_
      intro w7 hb7 jj hj
      obtain rfl : jj = 6 := by simpa using hj
      clear hj
      refine wpOp_step rfl (fun K hK => ?_)
      go_simp
      have D7 := chain D6 hb7
      have CW7 := hCC _ _ CW6 hb7
      refine (concatV_at _ _ _ _ _ w7 (PC.next hb7) (by omega)).mono ?_
      rintro e w8 ⟨v8, rfl, O8, hb8⟩
      rw [← flatV_append] at O8
      obtain ⟨a8, c8, rfl, S8, T8, _⟩ := own_vals O8 (by rw [List.length_append, HNL.out])
      have D8 := chain D7 hb8
      have CW8 := hCC _ _ CW7 hb8
      refine hK _ _ ⟨CW8, ?_⟩
      clear hK K PC O8 CW6 CW7
      refine wpY_take hCC (some 32) (i := 9) (v := .agg #[.slice a8 (l[k].1 ++ nulls m).length c8, .int .i64 l[k].2]) rfl rfl (by kernel_rfl) (by kernel_rfl) (by kernel_rfl) (fun _ _ _ h => h) (Or.inl ⟨rfl, fun n hn => ?_⟩) CW8 ?_
      · go_simp
      simp only [Act.put, List.setIfInBounds_toArray, List.set_cons_zero, List.set_cons_succ]
      refine wpY_take hCC (some 33) (i := 10) (v := .pointer (some ⟨w3.heap.size, k * 2, none⟩)) rfl rfl (by kernel_rfl) (by kernel_rfl) (by kernel_rfl) (fun _ _ _ h => h) (Or.inl ⟨rfl, fun n hn => ?_⟩) CW8 ?_
      · go_simp
      simp only [Act.put, List.setIfInBounds_toArray, List.set_cons_zero, List.set_cons_succ]
      refine wpY_step (rs := [11]) (by kernel_rfl) (by simp) ?_
      intro w9 hb9 jj hj
      obtain rfl : jj = 11 := by simpa using hj
      clear hj
      have D9 := chain D8 hb9
      have CW9 := hCC _ _ CW8 hb9
      have HB9 := HB.next D9
      have S9 := S8.next hb9
      have T9 := T8.next hb9
      obtain ⟨⟨u0, u1, d0, d1⟩, g0, g1, hlb9⟩ := HB9.cells hlt
      have hne : wr.heap.size ≠ w3.heap.size := by
        have := (HB.cells hlt).2.2.2
        omega
      refine wpOp_step rfl (fun K hK => ?_)
      go_simp
      have CWS : ((w9.setCell ⟨w3.heap.size, k * 2, none⟩ (.slice a8 (l[k].1.length + (nulls m).length) c8)).setCell ⟨w3.heap.size, k * 2 + 1, none⟩ (.int .i64 l[k].2)).heap[wr.heap.size]? = some (.cells #[.slice ar l[k].1.length cr, .int .i64 l[k].2] 53 (0, 0)) := by
        rw [Below.heap_setCell _ ⟨w3.heap.size, k * 2 + 1, none⟩ _ _ hne, Below.heap_setCell _ ⟨w3.heap.size, k * 2, none⟩ _ _ hne]
        exact CW9
      have MS := HB9.step hlt (a := a8) (cap := c8) (by rw [EF.out]; exact S9) T9
      rw [EF.out] at MS
      have BS := ((chain hb D9).setCell (p := ⟨w3.heap.size, k * 2, none⟩) (Nat.le_refl _) (.slice a8 (l[k].1 ++ nulls m).length c8)).setCell (p := ⟨w3.heap.size, k * 2 + 1, none⟩) (Nat.le_refl _) (.int .i64 l[k].2)
      rw [List.length_append] at MS BS
      refine hK _ _ ⟨CWS, ?_⟩
      clear hK K CW9 CW8 S9 T9 S8 T8 D9 D8 HB9 CWS
      generalize (w9.setCell ⟨w3.heap.size, k * 2, none⟩ (.slice a8 (l[k].1.length + (nulls m).length) c8)).setCell ⟨w3.heap.size, k * 2 + 1, none⟩ (.int .i64 l[k].2) = w10 at *
      refine wpY_done (by kernel_rfl) ?_
      intro w11 hb11
      have M11 := MS.next hb11
      have B11 := chain BS hb11
      clear MS BS hb11 HB
      go_wp2_with fail
      go_roundw
      case rel => exact ⟨k + 1, by omega, by go_num, M11, B11⟩
      case measure => simp [intOf]; omega
    · have e : k = l.length := by omega
      subst e
      have zsm := HB.done (wideL m l) (wideL_len m l).symm (fun j hj => by rw [HFn.out]; simp [List.getD, hj]) (by rw [wideL_len]; omega)
      have hAe := chain hA hb
      go_wp2_with fail
      go_ret
      exact ⟨_, _, rfl, zsm, (fun e => by cases e), hAe⟩
theorem PairsIn.step {cols : List Int} {x : Ex} {w0 wp W : World} {a b : Option Addr} {ca cb : Nat} {l r : List Zp} {v : Value} {R rv : Nat} (h : PairsIn cols x w0 wp a b ca cb l r v R rv) (hI : PInv wp R rv W) : PairsIn cols x w0 W a b ca cb l r v R rv ∧ PInv W R rv W := by
  obtain ⟨lo, wc, hv, u, e, hn, h2, h3, h4, h5, h6, h7, h8⟩ := h
  have hr := hn.r
  have hrv := hn.v
  have hb := hI.below hn
  have z := hI.size
  refine ⟨⟨lo, wc, hv, u, e, ⟨hr, by omega⟩, h2, (hb.cell (p := ⟨hv, 0, none⟩) h2).trans h3, h4, h5, ⟨by have := h6.1; omega, fun k h1 h2' => ?_⟩, h7, h8.trans (hb.mono h7)⟩, ⟨rfl, rfl, rfl, Nat.le_refl _, fun _ _ _ _ => rfl, hI.var, hI.warm, hI.room⟩⟩
  exact (hb.block k (by omega)).trans (h6.2 k h1 h2')

set_option maxRecDepth 100000 in
set_option maxHeartbeats 8000000 in
theorem left1_at (left right : List Int) (x : Ex) (ra : Option Addr) (rcap : Nat) (rb : Nat) (w0 wp w : World) (a b : Option Addr) (ca cb : Nat) (l r : List Zp) (v : Value) (R rv : Nat) (hP : PairsIn (left ++ right) x w0 wp a b ca cb l r v R rv) (hI : PInv wp R rv w) (za : ZsAt w0 a l) (zb : ZsAt w0 b r) (hT : TwoOk left right x l r)
    (hrb : w.heap[rb]? = some (.cells #[.slice ra right.length rcap] 22 (0, 0))) (hrb0 : rb < w0.heap.size) :
    Calls Tryz.prog 49 #[v, .pointer (some ⟨rb, 0, none⟩)] w fun e w' => ∃ ua uc, e = .returned (.slice ua (leftL x right.length l r).length uc) ∧ ZsAt w' ua (leftL x right.length l r) ∧ Below w0.heap.size w0 w' := by
  have hq := askable hT
  have hlen := hT.len
  generalize hlz : leftL x right.length l r = z
  have HLz : Hid (leftL x right.length l r = z) := hlz
  clear hlz
  obtain ⟨hP0, hI0⟩ := hP.step hI
  have hP' := hP0
  obtain ⟨lo, wc, hv, u, rfl, hn, hv0, hc, hC, hcR, hcp, h0, h0p⟩ := hP0
  have hrv := hn.v
  have hrr := hn.r
  have h1 : Below w.heap.size w (w.alloc (.cells #[.slice a l.length ca, .slice b r.length cb, .func (.func 159) #[] #[.pointer (some ⟨rv, 0, none⟩), .pointer (some ⟨hv, 0, none⟩)]] 79)) := (Below.refl _ _).alloc (Nat.le_refl _) _
  have p1 := heap_new w #[.slice a l.length ca, .slice b r.length cb, .func (.func 159) #[] #[.pointer (some ⟨rv, 0, none⟩), .pointer (some ⟨hv, 0, none⟩)]] 79
  obtain ⟨P1, I1⟩ := hP'.step (hI0.later hn (Nat.le_refl _) h1)
  have r1 := (h1.block rb (lt_of_heap hrb)).trans hrb
  clear hC
  go_enter Tryz.func49, Tryz.ntmps49
  go_wp2_with fail
  generalize w.alloc (.cells #[.slice a l.length ca, .slice b r.length cb, .func (.func 159) #[] #[.pointer (some ⟨rv, 0, none⟩), .pointer (some ⟨hv, 0, none⟩)]] 79) = w1 at *
  have hCC : ∀ W W' : World, (W.heap[w.heap.size]? = some (.cells #[.slice a l.length ca, .slice b r.length cb, .func (.func 159) #[] #[.pointer (some ⟨rv, 0, none⟩), .pointer (some ⟨hv, 0, none⟩)]] 79 (0, 0)) ∧ W.heap[rb]? = some (.cells #[.slice ra right.length rcap] 22 (0, 0))) → Below W.heap.size W W' → (W'.heap[w.heap.size]? = some (.cells #[.slice a l.length ca, .slice b r.length cb, .func (.func 159) #[] #[.pointer (some ⟨rv, 0, none⟩), .pointer (some ⟨hv, 0, none⟩)]] 79 (0, 0)) ∧ W'.heap[rb]? = some (.cells #[.slice ra right.length rcap] 22 (0, 0))) := fun W W' h hb => ⟨(hb.block _ (lt_of_heap h.1)).trans h.1, (hb.block _ (lt_of_heap h.2)).trans h.2⟩
  have hd : Below w1.heap.size w1 w1.drew := (Below.refl _ _).drew
  have CW : w1.drew.heap[w.heap.size]? = some (.cells #[.slice a l.length ca, .slice b r.length cb, .func (.func 159) #[] #[.pointer (some ⟨rv, 0, none⟩), .pointer (some ⟨hv, 0, none⟩)]] 79 (0, 0)) ∧ w1.drew.heap[rb]? = some (.cells #[.slice ra right.length rcap] 22 (0, 0)) := hCC _ _ ⟨p1, r1⟩ hd
  refine wp_region_cls (fun W => W.heap[w.heap.size]? = some (.cells #[.slice a l.length ca, .slice b r.length cb, .func (.func 159) #[] #[.pointer (some ⟨rv, 0, none⟩), .pointer (some ⟨hv, 0, none⟩)]] 79 (0, 0)) ∧ W.heap[rb]? = some (.cells #[.slice ra right.length rcap] 22 (0, 0))) (by kernel_rfl) ?_
  refine wpY_take hCC (some 4) (i := 0) (v := .agg #[.slice a l.length ca, .slice b r.length cb, .func (.func 159) #[] #[.pointer (some ⟨rv, 0, none⟩), .pointer (some ⟨hv, 0, none⟩)]]) rfl rfl (by kernel_rfl) (by kernel_rfl) (by kernel_rfl) (fun _ _ _ h => h) (Or.inl ⟨rfl, fun n hn => ?_⟩) CW ?_
  · have hc0 : n.cell? ⟨w.heap.size, 0, none⟩ = some (.slice a l.length ca) := cell_of (i := 0) hn.1 rfl
    have hc1 : n.cell? ⟨w.heap.size, 1, none⟩ = some (.slice b r.length cb) := cell_of (i := 1) hn.1 rfl
    have hc2 : n.cell? ⟨w.heap.size, 2, none⟩ = some (.func (.func 159) #[] #[.pointer (some ⟨rv, 0, none⟩), .pointer (some ⟨hv, 0, none⟩)]) := cell_of (i := 2) hn.1 rfl
    go_simp
  simp only [Act.put, List.setIfInBounds_toArray, List.set_cons_zero, List.set_cons_succ]
  refine wpY_take hCC (some 6) (i := 2) (v := .agg #[.slice a l.length ca, .slice b r.length cb, .func (.func 159) #[] #[.pointer (some ⟨rv, 0, none⟩), .pointer (some ⟨hv, 0, none⟩)]]) rfl rfl (by kernel_rfl) (by kernel_rfl) (by kernel_rfl) (fun _ _ _ h => h) (Or.inl ⟨rfl, fun n hn => ?_⟩) CW ?_
  · have hc0 : n.cell? ⟨w.heap.size, 0, none⟩ = some (.slice a l.length ca) := cell_of (i := 0) hn.1 rfl
    have hc1 : n.cell? ⟨w.heap.size, 1, none⟩ = some (.slice b r.length cb) := cell_of (i := 1) hn.1 rfl
    have hc2 : n.cell? ⟨w.heap.size, 2, none⟩ = some (.func (.func 159) #[] #[.pointer (some ⟨rv, 0, none⟩), .pointer (some ⟨hv, 0, none⟩)]) := cell_of (i := 2) hn.1 rfl
    go_simp
  simp only [Act.put, List.setIfInBounds_toArray, List.set_cons_zero, List.set_cons_succ]
  refine wpY_take hCC (some 8) (i := 4) (v := .slice ra right.length rcap) rfl rfl (by kernel_rfl) (by kernel_rfl) (by kernel_rfl) (fun _ _ _ h => h) (Or.inl ⟨rfl, fun n hn => ?_⟩) CW ?_
  · have hc0 : n.cell? ⟨rb, 0, none⟩ = some (.slice ra right.length rcap) := cell_of (i := 0) hn.2 rfl
    go_simp
  simp only [Act.put, List.setIfInBounds_toArray, List.set_cons_zero, List.set_cons_succ]
  refine wpY_take hCC (some 9) (i := 5) (v := .int .i64 right.length) rfl rfl (by kernel_rfl) (by kernel_rfl) (by kernel_rfl) (fun _ _ _ h => h) (Or.inl ⟨rfl, fun n hn => ?_⟩) CW ?_
  · go_simp
  simp only [Act.put, List.setIfInBounds_toArray, List.set_cons_zero, List.set_cons_succ]
  refine wpY_step (rs := [1]) (by kernel_rfl) (by simp) ?_
  intro w2 hb2 jj hj
  obtain rfl : jj = 1 := by simpa using hj
  clear hj
  have D2 := chain hd hb2
  have CW2 := hCC _ _ CW hb2
  obtain ⟨P2, I2⟩ := P1.step (I1.later (by obtain ⟨_, _, _, _, _, hn, _⟩ := P1; exact hn) (Nat.le_refl _) D2)
  have con := joined_at (left ++ right) x w0 w2 w2 a b ca cb l r _ R rv P2 I2 za zb hq
  refine wpOp_step rfl (fun K hK => ?_)
  go_simp
  refine con.mono ?_
  rintro e w3 ⟨u3, rfl, O3, I3, z3⟩
  clear con
  obtain ⟨P3, J3⟩ := P2.step I3
  have ne1 : w.heap.size ≠ R ∧ w.heap.size ≠ rv := by omega
  have ne2 : rb ≠ R ∧ rb ≠ rv := by omega
  have CW3 : w3.heap[w.heap.size]? = some (.cells #[.slice a l.length ca, .slice b r.length cb, .func (.func 159) #[] #[.pointer (some ⟨rv, 0, none⟩), .pointer (some ⟨hv, 0, none⟩)]] 79 (0, 0)) ∧ w3.heap[rb]? = some (.cells #[.slice ra right.length rcap] 22 (0, 0)) := ⟨(I3.block _ (lt_of_heap CW2.1) ne1.1 ne1.2).trans CW2.1, (I3.block _ (lt_of_heap CW2.2) ne2.1 ne2.2).trans CW2.2⟩
  obtain ⟨a3, c3, rfl⟩ := O3.slice
  refine hK _ _ ⟨CW3, ?_⟩
  clear hK K CW CW2 I2 P2 I3
  refine wpY_step (rs := [3]) (by kernel_rfl) (by simp) ?_
  intro w4 hb4 jj hj
  obtain rfl : jj = 3 := by simpa using hj
  clear hj
  have CW4 := hCC _ _ CW3 hb4
  have hn3 : PNew w3 R rv := by obtain ⟨_, _, _, _, _, hn, _⟩ := P3; exact hn
  obtain ⟨P4, I4⟩ := P3.step (J3.later hn3 (Nat.le_refl _) hb4)
  have hn4 : PNew w4 R rv := by obtain ⟨_, _, _, _, _, hn, _⟩ := P4; exact hn
  have O4 := O3.since (lo := 0) (Nat.zero_le _) (Since.of hb4)
  have con := unmatched_at (left ++ right) x w0 w4 w4 a b ca cb l r _ R rv P4 I4 za zb hq
  refine wpOp_step rfl (fun K hK => ?_)
  go_simp
  refine con.mono ?_
  rintro e w5 ⟨u5, rfl, O5, I5, z5⟩
  clear con
  obtain ⟨P5, J5⟩ := P4.step I5
  have hn5 : PNew w5 R rv := by obtain ⟨_, _, _, _, _, hn, _⟩ := P5; exact hn
  have CW5 : w5.heap[w.heap.size]? = some (.cells #[.slice a l.length ca, .slice b r.length cb, .func (.func 159) #[] #[.pointer (some ⟨rv, 0, none⟩), .pointer (some ⟨hv, 0, none⟩)]] 79 (0, 0)) ∧ w5.heap[rb]? = some (.cells #[.slice ra right.length rcap] 22 (0, 0)) := ⟨(I5.block _ (lt_of_heap CW4.1) ne1.1 ne1.2).trans CW4.1, (I5.block _ (lt_of_heap CW4.2) ne2.1 ne2.2).trans CW4.2⟩
  have S5 : Since (rv + 1) w4 w5 := ⟨I5.size, fun k h1 h2 => I5.block k h2 (by omega) (by omega)⟩
  have O4' := O4.since (lo := rv + 1) (by have := hI.size; have := hb2.size; have := D2.size; have := h1.size; have := hn.v; omega) S5
  have hE5 : Below w0.heap.size w0 w5 := by obtain ⟨_, _, _, _, _, _, _, _, _, _, _, _, hB⟩ := P5; exact hB
  obtain ⟨a5, c5, rfl, zs5, _⟩ := O5.zs hE5
  refine hK _ _ ⟨CW5, ?_⟩
  clear hK K CW3 CW4 I4 P4 I5 O5 O4
  refine wpY_step (rs := [6]) (by kernel_rfl) (by simp) ?_
  intro w6 hb6 jj hj
  obtain rfl : jj = 6 := by simpa using hj
  clear hj
  have CW6 := hCC _ _ CW5 hb6
  have O6 := O4'.since (lo := 0) (Nat.zero_le _) (Since.of hb6)
  have al : (antiL x l r).length ≤ l.length := List.length_filter_le _ _
  have con := widened_at a5 c5 (antiL x l r) right.length (by omega) w6 (zs5.next hb6) (by have := hq.ll; omega) (fun y hy => by
    have := (hT.left.fit y (List.mem_filter.1 hy).1).len
    omega)
  refine wpOp_step rfl (fun K hK => ?_)
  go_simp
  refine con.mono ?_
  rintro e w7 ⟨a7, c7, rfl, zs7, n7, hb7⟩
  clear con
  have CW7 := hCC _ _ CW6 hb7
  have O7 := O6.since (lo := 0) (Nat.zero_le _) (Since.of hb7)
  have D7 := chain hb6 hb7
  refine hK _ _ ⟨CW7, ?_⟩
  clear hK K CW5 CW6 O6 O4'
  refine wpY_step (rs := [7]) (by kernel_rfl) (by simp) ?_
  intro w8 hb8 jj hj
  obtain rfl : jj = 7 := by simpa using hj
  clear hj
  refine wpOp_step rfl (fun K hK => ?_)
  go_simp
  have O8 := O7.since (lo := 0) (Nat.zero_le _) (Since.of hb8)
  have zs8 := zs7.next hb8
  obtain ⟨aj, cj, ej, zj, nj⟩ := O8.z.zs2
  injection ej with ej1 _ ej3
  subst ej1 ej3
  have hal : Below w8.heap.size w8 (w8.alloc (.cells #[.slice a3 (joinL x l r).length c3, .slice a7 (wideL right.length (antiL x l r)).length c7] 28)) := (Below.refl _ _).alloc (Nat.le_refl _) _
  have PR := Pair.new2 zj nj zs8 n7 28
  have D9 := chain (chain D7 hb8) hal
  have CW9 := hCC _ _ (hCC _ _ CW7 hb8) hal
  refine hK _ _ ⟨CW9, ?_⟩
  clear hK K CW7 O7 O8
  generalize w8.alloc (.cells #[.slice a3 (joinL x l r).length c3, .slice a7 (wideL right.length (antiL x l r)).length c7] 28) = w9 at *
  refine wpY_step (rs := [8]) (by kernel_rfl) (by simp) ?_
  intro w10 hb10 jj hj
  obtain rfl : jj = 8 := by simpa using hj
  clear hj
  have jl := (join_ok hT).1
  have wl : (wideL right.length (antiL x l r)).length ≤ 400 := by rw [wideL_len]; have := hq.ll; omega
  have con := concat_at w8.heap.size (joinL x l r) (wideL right.length (antiL x l r)) w10 (PR.next hb10) (by omega)
  refine wpOp_step rfl (fun K hK => ?_)
  go_simp
  refine con.mono ?_
  rintro e w11 ⟨a11, c11, rfl, zs11, n11, hb11⟩
  clear con
  have CW11 := hCC _ _ (hCC _ _ CW9 hb10) hb11
  have hE11 := chain hE5 (chain (chain D9 hb10) hb11)
  refine hK _ _ ⟨CW11, ?_⟩
  clear hK K CW9
  refine wpY_take hCC (some 3) (i := 9) (v := .slice a11 (joinL x l r ++ wideL right.length (antiL x l r)).length c11) rfl rfl (by kernel_rfl) (by kernel_rfl) (by kernel_rfl) (fun _ _ _ h => h) (Or.inl ⟨rfl, fun n hn => ?_⟩) CW11 ?_
  · go_simp
  simp only [Act.put, List.setIfInBounds_toArray, List.set_cons_zero, List.set_cons_succ]
  refine wpY_done (by kernel_rfl) ?_
  intro w12 hb12
  have zs12 := zs11.next hb12
  have hE12 := chain hE11 hb12
  have hl2 : joinL x l r ++ wideL right.length (antiL x l r) = z := HLz.out
  rw [hl2] at zs12 ⊢
  clear zs11 CW11 hl2
  go_wp2_with fail
  go_ret
  first | exact ⟨_, _, rfl, zs12, hE12⟩ | exact ⟨_, ⟨_, rfl⟩, zs12, hE12⟩

set_option maxRecDepth 100000 in
set_option maxHeartbeats 4000000 in
theorem left_at (left right : List Int) (x : Ex) (la : Option Addr) (lcap : Nat) (ra : Option Addr) (rcap : Nat) (xa : Option Addr) (xcap : Nat) (a : Option Addr) (ca : Nat) (l : List Zp) (b : Option Addr) (cb : Nat) (r : List Zp) (w : World)
    (hcl : IsAt w.heap.size w la left) (hcr : IsAt w.heap.size w ra right) (hx : KsAt w.heap.size w xa x.ks) (h : ZsAt w a l) (h' : ZsAt w b r) (hll : left.length ≤ 100000000000000) (hrl : right.length ≤ 100000000000000) :
    Calls Tryz.prog 19 #[.slice la left.length lcap, .slice ra right.length rcap, exV x.k x.v x.c xa x.ks.length xcap, .slice a l.length ca, .slice b r.length cb] w fun e w' => ∃ v, e = .returned (.tuple #[v, .int .i64 (pairE 3 left right x l r)]) ∧ OwnZ w.heap.size w' v (pairZ 3 left right x l r) ∧ Below w.heap.size w w' := by
  have h1 : Below w.heap.size w (w.alloc (.cells #[.slice ra right.length rcap] 22)) := (Below.refl _ _).alloc (Nat.le_refl _) _
  have q1 := heap_new w #[.slice ra right.length rcap] 22
  have c1 : (w.alloc (.cells #[.slice ra right.length rcap] 22)).cell? ⟨w.heap.size, 0, none⟩ = some (.slice ra right.length rcap) := by simp
  have e1 : (w.alloc (.cells #[.slice ra right.length rcap] 22)).heap.size = w.heap.size + 1 := by simp
  generalize hfz : pairZ 3 left right x l r = fz
  generalize hfe : pairE 3 left right x l r = fe
  have HZ : Hid (pairZ 3 left right x l r = fz) := hfz
  have HE : Hid (pairE 3 left right x l r = fe) := hfe
  clear hfz hfe
  go_enter Tryz.func19, Tryz.ntmps19
  go_wp2_with fail
  generalize w.alloc (.cells #[.slice ra right.length rcap] 22) = w0 at *
  have h2 : Below w0.heap.size w0 (w0.alloc (.cells #[.int .i64 x.k, .int .i64 x.v.1, .int .i64 x.v.2.1, .string x.v.2.2, .int .i64 x.c, .slice xa x.ks.length xcap] 27)) := (Below.refl _ _).alloc (Nat.le_refl _) _
  have q2 := (h2.block w.heap.size (by omega)).trans q1
  have c2 := (h2.cell (p := ⟨w.heap.size, 0, none⟩) (by show w.heap.size < _; omega)).trans c1
  have e2 : (w0.alloc (.cells #[.int .i64 x.k, .int .i64 x.v.1, .int .i64 x.v.2.1, .string x.v.2.2, .int .i64 x.c, .slice xa x.ks.length xcap] 27)).heap.size = w0.heap.size + 1 := by simp
  have hA := chain h1 h2
  generalize w0.alloc (.cells #[.int .i64 x.k, .int .i64 x.v.1, .int .i64 x.v.2.1, .string x.v.2.2, .int .i64 x.c, .slice xa x.ks.length xcap] 27) = w1 at *
  have zs1 := h.next hA
  have zs1' := h'.next hA
  have con := ofPairs_at 3 49 #[.pointer (some ⟨w.heap.size, 0, none⟩)] left right x la lcap ra rcap xa xcap a ca l b cb r w1 ((hcl.next hA (Nat.le_refl _)).up hA.size) ((hcr.next hA (Nat.le_refl _)).up hA.size) ((KsAt.next hA (Nat.le_refl _) hx).up hA.size) zs1 zs1' hll hrl (enters_of Tryz.func49 (by kernel_rfl) rfl) (fun W v R rv hP hI hT => by
    have hBW : Below w1.heap.size w1 W := by obtain ⟨_, _, _, _, _, _, _, _, _, _, _, _, hB⟩ := hP; exact hB
    have := left1_at left right x ra rcap w.heap.size w1 W W a b ca cb l r v R rv hP hI zs1 zs1' hT ((hBW.block _ (by omega)).trans q2) (by omega)
    exact this)
  rw [HZ.out, HE.out] at con
  go_wp2_with fail
  refine con.mono ?_
  rintro e w2 ⟨v2, rfl, O2, hb2⟩
  have O2' := O2.mono hA.size
  obtain ⟨a2, c2', rfl, _⟩ := O2.zs
  clear con O2
  dsimp only
  go_wp2_with fail
  exact bodyPost_ret (v := .tuple #[.slice a2 fz.length c2', .int .i64 fe]) (by simp [results, Tryz.results19, go_sem]) rfl ⟨_, rfl, O2', chain hA hb2⟩
end Go.Proofs.YtfojonhblblbjaaGreat
/- Plain facts: joins are linear in both. -/
namespace Go.Proofs.YtfojonhblblbjaaGreat
open Go.RowKit

theorem sets_eq {s t : List Zp} (hs : IsSet s) (ht : IsSet t) (e : ∀ k, wt s k = wt t k) : s = t := (canon_of hs e).trans (canon_of ht fun _ => rfl).symm
theorem pairZ_set {what : Nat} {l r : List Int} {x : Ex} {a b : List Zp} (h : pairE what l r x a b = 0) : IsSet (pairZ what l r x a b) := by unfold pairZ; rw [if_pos h]; exact canon_set _
theorem pairZ_wt {what : Nat} {l r : List Int} {x : Ex} {a b : List Zp} (h : pairE what l r x a b = 0) (q : List Vl) : wt (pairZ what l r x a b) q = wt (nameL what r.length x a b) q := by unfold pairZ; rw [if_pos h, canon_wt]
/-- How much of a row the first sets have together. -/
def wts : Nat → List (List Zp) → List Vl → Int
  | 0, _, _ => 0
  | _, [], _ => 0
  | k + 1, z :: t, q => wt z q + wts k t q
theorem wts_step : ∀ (k : Nat) (zs : List (List Zp)) (q : List Vl) (h : k < zs.length), wts (k + 1) zs q = wts k zs q + wt zs[k] q
  | 0, z :: t, q, _ => by simp [wts]
  | k + 1, z :: t, q, h => by
    have := wts_step k t q (by simpa using h)
    rw [wts, this, wts, List.getElem_cons_succ]
    omega
  | _, [], _, h => by simp at h
theorem bilinear_fact {l r : List Int} {x : Ex} {a b c d s : List Zp} (h1 : bothE 1 a b = 0) (h2 : bothE 1 c d = 0) (e0 : pairE 0 l r x (bothZ 1 a b) (bothZ 1 c d) = 0) (e1 : pairE 0 l r x a c = 0) (e2 : pairE 0 l r x a d = 0) (e3 : pairE 0 l r x b c = 0) (e4 : pairE 0 l r x b d = 0)
    (hs : IsSet s) (hw : ∀ q, wt s q = wts 4 [pairZ 0 l r x a c, pairZ 0 l r x a d, pairZ 0 l r x b c, pairZ 0 l r x b d] q) : s = pairZ 0 l r x (bothZ 1 a b) (bothZ 1 c d) := by
  refine sets_eq hs (pairZ_set e0) fun q => ?_
  rw [hw, pairZ_wt e0]
  simp only [wts]
  rw [pairZ_wt e1, pairZ_wt e2, pairZ_wt e3, pairZ_wt e4]
  simp only [nameL, if_true]
  rw [join_bilinear (bothE_ok h1).2.2.2 (bothE_ok h2).2.2.2 q]
  omega
end Go.Proofs.YtfojonhblblbjaaGreat
/- With a partner, or without: plain facts. -/
namespace Go.Proofs.YtfojonhblblbjaaGreat
open Go.RowKit

theorem cmpL_lenQ : ∀ {a b : List Vl}, cmpL a b = 0 → a.length = b.length
  | [], [], _ => rfl
  | [], _ :: _, h => by simp [cmpL] at h
  | _ :: _, [], h => by simp [cmpL] at h
  | x :: r, y :: t, h => by
    rw [cmpL] at h
    split at h
    · rw [List.length_cons, List.length_cons, cmpL_lenQ h]
    · rename_i c; exact absurd h c
theorem wt_someQ {l : List Zp} {q : List Vl} (h : wt l q ≠ 0) : ∃ x ∈ l, cmpL x.1 q = 0 := by
  induction l with
  | nil => exact absurd rfl h
  | cons x r ih =>
    by_cases c : cmpL x.1 q = 0
    · exact ⟨x, by simp, c⟩
    · rw [wt, if_neg c] at h
      obtain ⟨y, hy, e⟩ := ih (by simpa using h)
      exact ⟨y, by simp [hy], e⟩
/-- The rows with a partner, and those without one, are as right as the set. -/
theorem pairE_half {left right : List Int} {x : Ex} {l r : List Zp} {what : Nat} (hw : what = 1 ∨ what = 2) : pairE what left right x l r = twoE left right x l r := by
  unfold pairE
  by_cases h : twoE left right x l r = 0
  · rw [if_neg (by simpa using h), h]
    have hT := (twoE_ok left right x l r).1 h
    rcases hw with rfl | rfl
    · exact filt_gather hT.left.set _
    · exact filt_gather hT.left.set _
  · rw [if_pos h]
theorem null_right (n : Nat) : rightB (nulls n) = true := by
  unfold rightB
  rw [List.all_eq_true]
  intro v hv
  rw [List.eq_of_mem_replicate hv]
  rfl
theorem right_append {a b : List Vl} (h : rightB a = true) (k : rightB b = true) : rightB (a ++ b) = true := by
  unfold rightB at h k ⊢
  rw [List.all_append, h, k]; rfl
theorem name_right {left right : List Int} {x : Ex} {l r : List Zp} (hT : TwoOk left right x l r) (what : Nat) : ∀ y ∈ nameL what right.length x l r, wrongRowF y.1 = 0 := by
  have one : ∀ y ∈ l, wrongRowF y.1 = 0 := fun y hy => fit_row (hT.left.fit y hy) hT.left.cols8
  have jn : ∀ y ∈ joinL x l r, wrongRowF y.1 = 0 := fun y hy => by
    unfold joinL at hy
    obtain ⟨p, hp, hy⟩ := List.mem_flatMap.1 hy
    unfold pairsOf at hy
    obtain ⟨q, hq, rfl⟩ := List.mem_map.1 hy
    have hq' := (List.mem_filter.1 hq).1
    exact fit_row (fit_append (hT.left.fit p hp) (hT.right.fit q hq')) (by rw [List.length_append]; exact hT.len)
  intro y hy
  unfold nameL at hy
  split at hy
  · exact jn y hy
  split at hy
  · exact one y (List.mem_filter.1 hy).1
  split at hy
  · exact one y (List.mem_filter.1 hy).1
  · rcases List.mem_append.1 hy with hy | hy
    · exact jn y hy
    · obtain ⟨p, hp, rfl⟩ := List.mem_map.1 hy
      have hf := hT.left.fit p (List.mem_filter.1 hp).1
      rw [wrongRowF_zero]
      refine ⟨?_, right_append (fit_right hf) (null_right _)⟩
      have h1 := hf.len
      have h2 := hT.len
      simp only [List.length_append, nulls, List.length_replicate]
      omega
theorem wrong_pair {left right : List Int} {x : Ex} {l r : List Zp} {what : Nat} (h : pairE what left right x l r = 0) : wrongZ (pairZ what left right x l r) = 0 := by
  obtain ⟨h1, h2⟩ := pairE_ok h
  unfold pairZ
  rw [if_pos h]
  exact wrong_canon (name_right h1 what) h2
theorem parted_one {left right : List Int} {x : Ex} {l r : List Zp} (h : twoE left right x l r = 0) :
    bothE 1 (pairZ 1 left right x l r) (pairZ 2 left right x l r) = 0 ∧ bothE 1 l [] = 0 ∧ bothZ 1 (pairZ 1 left right x l r) (pairZ 2 left right x l r) = bothZ 1 l [] := by
  have hT := (twoE_ok left right x l r).1 h
  have e1 : pairE 1 left right x l r = 0 := (pairE_half (.inl rfl)).trans h
  have e2 : pairE 2 left right x l r = 0 := (pairE_half (.inr rfl)).trans h
  have gl : gatherE l = 0 := gather_sub hT.left.set (List.Sublist.refl l)
  have wl : wrongZ (canon l) = 0 := wrong_canon (fun y hy => fit_row (hT.left.fit y hy) hT.left.cols8) gl
  obtain ⟨p1, p2⟩ := plus_of (wrong_pair e1) (wrong_pair e2) (canon_set l) wl (fun q => by
    rw [canon_wt, pairZ_wt e1, pairZ_wt e2]
    show _ = wt (semiL x l r) q + wt (antiL x l r) q
    rw [semi_wt, anti_wt]
    cases hasP x r q <;> simp)
  obtain ⟨q1, q2⟩ := plus_of (p := l) (q := []) hT.left.set (by rfl) (canon_set l) wl (fun q => by rw [canon_wt]; simp [wt])
  exact ⟨p1, q1, p2.trans q2.symm⟩
theorem nulls_bare (n : Nat) : bareL (nulls n) = nulls n := by
  unfold bareL nulls
  rw [List.map_replicate]
  rfl
theorem wide_ok {left right : List Int} {x : Ex} {l r : List Zp} (h : twoE left right x l r = 0) : wrongZ (wideL right.length (pairZ 2 left right x l r)) = 0 ∧ IsSet (wideL right.length (pairZ 2 left right x l r)) := by
  have hT := (twoE_ok left right x l r).1 h
  have e2 : pairE 2 left right x l r = 0 := (pairE_half (.inr rfl)).trans h
  have hs := pairZ_set e2
  obtain ⟨w1, w2, w3⟩ := (wrongZ_iff _).1 (wrong_pair e2)
  have hlen : ∀ y ∈ pairZ 2 left right x l r, y.1.length = left.length := fun y hy => by
    have e := wt_mem hs.rise y hy
    rw [pairZ_wt e2] at e
    obtain ⟨p, hp, ep⟩ := wt_someQ (l := nameL 2 right.length x l r) (q := y.1) (by rw [e]; exact hs.ne y hy)
    have hp' : p ∈ antiL x l r := hp
    rw [← cmpL_lenQ ep]
    exact (hT.left.fit p (List.mem_filter.1 hp').1).len
  have hrise : Rise (wideL right.length (pairZ 2 left right x l r)) := by
    unfold Rise wideL
    rw [List.pairwise_map]
    refine List.Pairwise.imp_of_mem ?_ hs.rise
    intro y z hy hz hlt
    exact cmpL_snoc_lt _ _ _ (by rw [hlen y hy, hlen z hz]) hlt
  refine ⟨(wrongZ_iff _).2 ⟨by simpa [wideL] using w1, fun y hy => ?_, hrise⟩, hrise, fun y hy => ?_, fun y hy => ?_⟩
  · obtain ⟨p, hp, rfl⟩ := List.mem_map.1 hy
    obtain ⟨g1, g2, g3⟩ := w2 p hp
    refine ⟨?_, g2, g3⟩
    rw [wrongRowF_zero] at g1 ⊢
    refine ⟨?_, right_append g1.2 (null_right _)⟩
    have := hlen p hp
    have := hT.len
    simp only [List.length_append, nulls, List.length_replicate]
    omega
  · obtain ⟨p, hp, rfl⟩ := List.mem_map.1 hy
    exact hs.ne p hp
  · obtain ⟨p, hp, rfl⟩ := List.mem_map.1 hy
    show bareL (p.1 ++ nulls _) = p.1 ++ nulls _
    have : bareL (p.1 ++ nulls right.length) = bareL p.1 ++ bareL (nulls right.length) := by unfold bareL; rw [List.map_append]
    rw [this, hs.bare p hp, nulls_bare]
theorem parted_two {left right : List Int} {x : Ex} {l r : List Zp} (h : twoE left right x l r = 0) (e0 : pairE 0 left right x l r = 0) (e3 : pairE 3 left right x l r = 0) :
    ofE (wideL right.length (pairZ 2 left right x l r)) = 0 ∧ bothE 1 (pairZ 0 left right x l r) (ofZ (wideL right.length (pairZ 2 left right x l r))) = 0 ∧ bothZ 1 (pairZ 0 left right x l r) (ofZ (wideL right.length (pairZ 2 left right x l r))) = pairZ 3 left right x l r := by
  obtain ⟨w1, w2⟩ := wide_ok h
  obtain ⟨o1, o2⟩ := of_set w1 w2
  have e2 : pairE 2 left right x l r = 0 := (pairE_half (.inr rfl)).trans h
  rw [o2]
  refine ⟨o1, plus_of (wrong_pair e0) w1 (pairZ_set e3) (wrong_pair e3) fun q => ?_⟩
  rw [pairZ_wt e3, pairZ_wt e0]
  have : wt (wideL right.length (pairZ 2 left right x l r)) q = wt (wideL right.length (antiL x l r)) q := wide_set (fun k => by rw [pairZ_wt e2]; rfl) q
  rw [this]
  show wt (joinL x l r ++ wideL right.length (antiL x l r)) q = wt (joinL x l r) q + _
  rw [wt_append]
end Go.Proofs.YtfojonhblblbjaaGreat
/- The statements' own small functions: num, col, alive, plus. -/
namespace Go.Proofs.YtfojonhblblbjaaGreat
open Go.RowKit Go.Lib Go.Shelf

theorem num_at (n : Int) (w : World) :
    Calls Tryz.prog 60 #[.int .i64 n] w fun e w' => e = .returned (.agg #[.int .i64 3, .int .i64 n, .string ⟨#[]⟩]) ∧ Below w.heap.size w w' := by
  go_enter Tryz.func60, Tryz.ntmps60
  go_wp2_with fail
  exact bodyPost_ret (v := .agg #[.int .i64 3, .int .i64 n, .string ⟨#[]⟩]) (by simp [results, Tryz.results60, go_sem]) rfl ⟨rfl, (Below.refl _ _).alloc (Nat.le_refl _) _⟩
theorem col_at (c : Int) (w : World) :
    Calls Tryz.prog 61 #[.int .i64 c] w fun e w' => e = .returned (exV 2 vl0 c none 0 0) ∧ Below w.heap.size w w' := by
  go_enter Tryz.func61, Tryz.ntmps61
  go_wp2_with fail
  exact bodyPost_ret (v := exV 2 vl0 c none 0 0) (by simp [results, Tryz.results61, go_sem, vl0]) rfl ⟨rfl, (Below.refl _ _).alloc (Nat.le_refl _) _⟩
theorem ks_two (w : World) {B : Nat} {x y : Ex} (ax : Option Addr) (cx : Nat) (ay : Option Addr) (cy : Nat) (hB : B ≤ w.heap.size) (kx : KsAt B w ax x.ks) (ky : KsAt B w ay y.ks) :
    KsAt (w.heap.size + 1) (w.alloc (.cells #[.int .i64 x.k, .int .i64 x.v.1, .int .i64 x.v.2.1, .string x.v.2.2, .int .i64 x.c, .slice ax x.ks.length cx, .int .i64 y.k, .int .i64 y.v.1, .int .i64 y.v.2.1, .string y.v.2.2, .int .i64 y.c, .slice ay y.ks.length cy] 27)) (some ⟨w.heap.size, 0, none⟩) [x, y] := by
  have hal : Below w.heap.size w (w.alloc (.cells #[.int .i64 x.k, .int .i64 x.v.1, .int .i64 x.v.2.1, .string x.v.2.2, .int .i64 x.c, .slice ax x.ks.length cx, .int .i64 y.k, .int .i64 y.v.1, .int .i64 y.v.2.1, .string y.v.2.2, .int .i64 y.c, .slice ay y.ks.length cy] 27)) := (Below.refl _ _).alloc (Nat.le_refl _) _
  have Kx := (KsAt.next hal hB kx).up (Nat.le_succ_of_le hB)
  have Ky := (KsAt.next hal hB ky).up (Nat.le_succ_of_le hB)
  refine .some w.heap.size 0 _ (fun i => if i = 0 then ax else ay) (fun i => if i = 0 then cx else cy) (Nat.lt_succ_self _) (fun i hi => ?_) (fun i hi => ?_)
  · match i, hi with
    | 0, _ => exact ⟨by simp, by simp, by simp, by simp, by simp, by simp⟩
    | 1, _ => exact ⟨by simp, by simp, by simp, by simp, by simp, by simp⟩
  · match i, hi with
    | 0, _ => exact Kx
    | 1, _ => exact Ky

set_option maxHeartbeats 400000 in
theorem plus_at (a b : Option Addr) (ca cb : Nat) (l l' : List Zp) (w : World) (h : ZsAt w a l) (h' : ZsAt w b l') (hn : a = none → ca = 0) :
    Calls Tryz.prog 24 #[.slice a l.length ca, .slice b l'.length cb] w fun e w' => ∃ v, e = .returned (.tuple #[v, .bool (bothE 1 l l' == 0)]) ∧ OwnZ w.heap.size w' v (bothZ 1 l l') ∧ Below w.heap.size w w' := by
  have con := add_at a b ca cb l l' w h h' hn
  generalize bothE 1 l l' = t at *
  generalize bothZ 1 l l' = z at *
  go_enter Tryz.func24, Tryz.ntmps24
  go_wp2_with fail
  refine con.mono ?_
  rintro e w1 ⟨v, rfl, O, hb⟩
  obtain ⟨a1, c1, rfl, _⟩ := O.zs
  go_wp2_with fail
  exact bodyPost_ret (v := .tuple #[.slice a1 z.length c1, .bool (t == 0)]) (by simp [results, Tryz.results24, go_sem]) rfl ⟨_, rfl, O, hb⟩

/-! ### alive -/
def zA : List Zp := [([(3, 1, ⟨#[]⟩)], 2), ([(3, 2, ⟨#[]⟩)], 1)]
def xA : Ex := mk2 8 (.mk 2 vl0 0 []) (.mk 1 (3, 2, ⟨#[]⟩) 0 [])
theorem wrong_zA : wrongZ zA = 0 := by
  rw [wrongZ_iff]
  refine ⟨by decide, ?_, ?_⟩
  · intro x hx
    simp only [zA, List.mem_cons, List.not_mem_nil, or_false] at hx
    rcases hx with rfl | rfl
    · exact ⟨by rfl, by decide, by rfl⟩
    · exact ⟨by rfl, by decide, by rfl⟩
  · simp only [Rise, zA, List.pairwise_cons, List.mem_cons, List.not_mem_nil, or_false, forall_eq, List.Pairwise.nil, and_true, false_imp_iff, implies_true]
    simp [cmpL, cmpP, cmpV, cmpI]
theorem filtE_A : filtE [3] xA zA = 0 := by
  have h1 : condE [3] xA = 0 := by rfl
  have h2 : inpE [3] zA = 0 := by
    rw [inpE_ok]
    refine ⟨by decide, wrong_zA, ?_⟩
    intro x hx
    simp only [zA, List.mem_cons, List.not_mem_nil, or_false] at hx
    rcases hx with rfl | rfl
    · exact (fitsL_ok _ _).1 (by rfl)
    · exact (fitsL_ok _ _).1 (by rfl)
  unfold filtE
  rw [h1, h2]
  rfl
theorem rise_A : Rise zA := ((wrongZ_iff zA).1 wrong_zA).2.2
theorem filtZ_A : filtZ [3] xA zA = [([(3, 1, ⟨#[]⟩)], 2)] := by
  unfold filtZ
  rw [if_pos filtE_A]
  have e : filtL xA zA = [([(3, 1, ⟨#[]⟩)], 2)] := by rfl
  rw [e, canon_rise (by simp [Rise])]
  rfl
def sA : List Zp := [([(3, 1, ⟨#[]⟩)], 4), ([(3, 2, ⟨#[]⟩)], 2)]
theorem both_A : bothE 1 zA zA = 0 ∧ bothZ 1 zA zA = sA := by
  have hr : Rise sA := by
    simp only [Rise, sA, List.pairwise_cons, List.mem_cons, List.not_mem_nil, or_false, forall_eq, List.Pairwise.nil, and_true, false_imp_iff, implies_true]
    simp [cmpL, cmpP, cmpV, cmpI]
  refine plus_of wrong_zA wrong_zA ⟨hr, ?_, ?_⟩ ?_ ?_
  · intro x hx
    simp only [sA, List.mem_cons, List.not_mem_nil, or_false] at hx
    rcases hx with rfl | rfl <;> decide
  · intro x hx
    simp only [sA, List.mem_cons, List.not_mem_nil, or_false] at hx
    rcases hx with rfl | rfl <;> rfl
  · rw [wrongZ_iff]
    refine ⟨by decide, ?_, hr⟩
    intro x hx
    simp only [sA, List.mem_cons, List.not_mem_nil, or_false] at hx
    rcases hx with rfl | rfl
    · exact ⟨by rfl, by decide, by rfl⟩
    · exact ⟨by rfl, by decide, by rfl⟩
  · intro k
    simp only [wt, sA, zA]
    split <;> split <;> omega
theorem zs_two {W : World} {b a1 a2 : Nat} {x1 x2 : Int} {r1 r2 : List Vl} (hb : b < W.heap.size) (h0 : W.cell? ⟨b, 0, none⟩ = some (.slice (some ⟨a1, 0, none⟩) r1.length r1.length)) (h1 : W.cell? ⟨b, 1, none⟩ = some (.int .i64 x1)) (h2 : W.cell? ⟨b, 2, none⟩ = some (.slice (some ⟨a2, 0, none⟩) r2.length r2.length)) (h3 : W.cell? ⟨b, 3, none⟩ = some (.int .i64 x2))
    (s1 : SlAt W (some ⟨a1, 0, none⟩) r1) (s2 : SlAt W (some ⟨a2, 0, none⟩) r2) : ZsAt W (some ⟨b, 0, none⟩) [(r1, x1), (r2, x2)] := by
  refine ⟨by simp [maxLen], .inr ⟨b, 0, rfl, hb, fun i hi => ?_⟩⟩
  match i, hi with
  | 0, _ => exact ⟨h1, _, _, h0, s1⟩
  | 1, _ => exact ⟨h3, _, _, h2, s2⟩

set_option maxRecDepth 100000 in
set_option maxHeartbeats 4000000 in
theorem alive_at (w : World) : Calls Tryz.prog 23 #[] w fun e w' => e = .returned (.bool true) ∧ Below w.heap.size w w' := by
  go_enter Tryz.func23, Tryz.ntmps23
  go_wp2_with fail
  refine (num_at 1 w).mono ?_
  rintro e w1 ⟨rfl, hb1⟩
  go_wp2_with fail
  have h2 : Below w1.heap.size w1 (w1.alloc (.cells #[.int .i64 3, .int .i64 1, .string ⟨#[]⟩] 24)) := (Below.refl _ _).alloc (Nat.le_refl _) _
  have s1 : SlAt (w1.alloc (.cells #[.int .i64 3, .int .i64 1, .string ⟨#[]⟩] 24)) (some ⟨w1.heap.size, 0, none⟩) [(3, 1, ⟨#[]⟩)] :=
    ⟨by unfold maxLen; simp, .inr ⟨w1.heap.size, 0, rfl, fun i hi => by
      match i, hi with
      | 0, _ => exact ⟨by simp, by simp, by simp⟩, by simp⟩⟩
  generalize w1.alloc (.cells #[.int .i64 3, .int .i64 1, .string ⟨#[]⟩] 24) = w2 at *
  have hA := chain hb1 h2
  refine (num_at 2 w2).mono ?_
  rintro e w3 ⟨rfl, hb3⟩
  have hA := chain hA hb3
  have s1 := s1.next hb3
  go_wp2_with fail
  have h4 : Below w3.heap.size w3 (w3.alloc (.cells #[.int .i64 3, .int .i64 2, .string ⟨#[]⟩] 24)) := (Below.refl _ _).alloc (Nat.le_refl _) _
  have s2 : SlAt (w3.alloc (.cells #[.int .i64 3, .int .i64 2, .string ⟨#[]⟩] 24)) (some ⟨w3.heap.size, 0, none⟩) [(3, 2, ⟨#[]⟩)] :=
    ⟨by unfold maxLen; simp, .inr ⟨w3.heap.size, 0, rfl, fun i hi => by
      match i, hi with
      | 0, _ => exact ⟨by simp, by simp, by simp⟩, by simp⟩⟩
  have s1 := s1.next h4
  have z4 : (w3.alloc (.cells #[.int .i64 3, .int .i64 2, .string ⟨#[]⟩] 24)).heap.size = w3.heap.size + 1 := by simp
  generalize w3.alloc (.cells #[.int .i64 3, .int .i64 2, .string ⟨#[]⟩] 24) = w4 at *
  have hA := chain hA h4
  have h5 : Below w4.heap.size w4 (w4.alloc (.cells #[.slice (some ⟨w1.heap.size, 0, none⟩) 1 1, .int .i64 2, .slice (some ⟨w3.heap.size, 0, none⟩) 1 1, .int .i64 1] 53)) := (Below.refl _ _).alloc (Nat.le_refl _) _
  have zs : ZsAt (w4.alloc (.cells #[.slice (some ⟨w1.heap.size, 0, none⟩) 1 1, .int .i64 2, .slice (some ⟨w3.heap.size, 0, none⟩) 1 1, .int .i64 1] 53)) (some ⟨w4.heap.size, 0, none⟩) zA :=
    zs_two (by simp) (by simp) (by simp) (by simp) (by simp) (s1.next h5) (s2.next h5)
  have z5 : (w4.alloc (.cells #[.slice (some ⟨w1.heap.size, 0, none⟩) 1 1, .int .i64 2, .slice (some ⟨w3.heap.size, 0, none⟩) 1 1, .int .i64 1] 53)).heap.size = w4.heap.size + 1 := by simp
  rw [z4] at zs
  generalize w4.alloc (.cells #[.slice (some ⟨w1.heap.size, 0, none⟩) 1 1, .int .i64 2, .slice (some ⟨w3.heap.size, 0, none⟩) 1 1, .int .i64 1] 53) = w5 at *
  have hA := chain hA h5
  clear s1 s2
  refine (col_at 0 w5).mono ?_
  rintro e w6 ⟨rfl, hb6⟩
  have hA := chain hA hb6
  have zs := zs.next hb6
  have hS := hb6
  go_wp2_with fail
  refine (num_at 2 w6).mono ?_
  rintro e w7 ⟨rfl, hb7⟩
  have hA := chain hA hb7
  have zs := zs.next hb7
  go_wp2_with fail
  have K8 : KsAt (w7.heap.size + 1) (w7.alloc (.cells #[.int .i64 2, .int .i64 vl0.1, .int .i64 vl0.2.1, .string vl0.2.2, .int .i64 0, .slice none 0 0, .int .i64 1, .int .i64 3, .int .i64 2, .string ⟨#[]⟩, .int .i64 0, .slice none 0 0] 27)) (some ⟨w7.heap.size, 0, none⟩) xA.ks := ks_two w7 (B := w7.heap.size) (x := .mk 2 vl0 0 []) (y := .mk 1 (3, 2, ⟨#[]⟩) 0 []) none 0 none 0 (Nat.le_refl _) (.nil _) (.nil _)
  have h8 : Below w7.heap.size w7 (w7.alloc (.cells #[.int .i64 2, .int .i64 vl0.1, .int .i64 vl0.2.1, .string vl0.2.2, .int .i64 0, .slice none 0 0, .int .i64 1, .int .i64 3, .int .i64 2, .string ⟨#[]⟩, .int .i64 0, .slice none 0 0] 27)) := (Below.refl _ _).alloc (Nat.le_refl _) _
  have z8 : (w7.alloc (.cells #[.int .i64 2, .int .i64 vl0.1, .int .i64 vl0.2.1, .string vl0.2.2, .int .i64 0, .slice none 0 0, .int .i64 1, .int .i64 3, .int .i64 2, .string ⟨#[]⟩, .int .i64 0, .slice none 0 0] 27)).heap.size = w7.heap.size + 1 := by simp
  generalize w7.alloc (.cells #[.int .i64 2, .int .i64 vl0.1, .int .i64 vl0.2.1, .string vl0.2.2, .int .i64 0, .slice none 0 0, .int .i64 1, .int .i64 3, .int .i64 2, .string ⟨#[]⟩, .int .i64 0, .slice none 0 0] 27) = w8 at *
  have hA := chain hA h8
  have zs := zs.next h8
  have h9 : Below w8.heap.size w8 (w8.alloc (.cells #[.int .i64 8, .int .i64 0, .int .i64 0, .string ⟨#[]⟩, .int .i64 0, .slice (some ⟨w7.heap.size, 0, none⟩) 2 2] 27)) := (Below.refl _ _).alloc (Nat.le_refl _) _
  have z9 : (w8.alloc (.cells #[.int .i64 8, .int .i64 0, .int .i64 0, .string ⟨#[]⟩, .int .i64 0, .slice (some ⟨w7.heap.size, 0, none⟩) 2 2] 27)).heap.size = w8.heap.size + 1 := by simp
  generalize w8.alloc (.cells #[.int .i64 8, .int .i64 0, .int .i64 0, .string ⟨#[]⟩, .int .i64 0, .slice (some ⟨w7.heap.size, 0, none⟩) 2 2] 27) = w9 at *
  have hA := chain hA h9
  have zs := zs.next h9
  have K9 := KsAt.next h9 (by omega) K8
  have hA10 : Below w9.heap.size w9 (w9.alloc (.cells #[.int .i64 3] 3)) := (Below.refl _ _).alloc (Nat.le_refl _) _
  have z10 : (w9.alloc (.cells #[.int .i64 3] 3)).heap.size = w9.heap.size + 1 := by simp
  have IC : IsAt (w9.alloc (.cells #[.int .i64 3] 3)).heap.size (w9.alloc (.cells #[.int .i64 3] 3)) (some ⟨w9.heap.size, 0, none⟩) [3] :=
    ⟨by unfold maxLen; simp, .inr ⟨w9.heap.size, 0, rfl, by omega, fun i hi => by
      match i, hi with
      | 0, _ => simp⟩⟩
  generalize w9.alloc (.cells #[.int .i64 3] 3) = w10 at *
  have hA := chain hA hA10
  have zs := zs.next hA10
  have K10 := (KsAt.next hA10 (by omega) K9).up (show w7.heap.size + 1 ≤ w10.heap.size by omega)
  have e9 : w9.heap.size = w7.heap.size + 1 + 1 := by omega
  rw [e9] at IC
  have con : Calls Tryz.prog 9 #[.slice (some ⟨w7.heap.size + 1 + 1, 0, none⟩) 1 1, .agg #[.int .i64 8, .int .i64 0, .int .i64 0, .string ⟨#[]⟩, .int .i64 0, .slice (some ⟨w7.heap.size, 0, none⟩) 2 2], .slice (some ⟨w3.heap.size + 1, 0, none⟩) 2 2] w10 fun e w' => ∃ v, e = .returned (.tuple #[v, .int .i64 (filtE [3] xA zA)]) ∧ OwnZ w10.heap.size w' v (filtZ [3] xA zA) ∧ Below w10.heap.size w10 w' :=
    filter_at [3] xA _ 1 (some ⟨w7.heap.size, 0, none⟩) 2 _ 2 zA w10 IC K10 zs
  rw [filtE_A, filtZ_A] at con
  refine con.mono ?_
  rintro e w11 ⟨v11, rfl, O11, hb11⟩
  have hA := chain hA hb11
  have zs := zs.next hb11
  obtain ⟨a11, c11, rfl, zf⟩ := O11.zs
  clear con IC K8 K9 K10 O11
  have con : Calls Tryz.prog 62 #[.slice (some ⟨w3.heap.size + 1, 0, none⟩) 2 2, .slice (some ⟨w3.heap.size + 1, 0, none⟩) 2 2] w11 fun e w' => ∃ v, e = .returned (.tuple #[v, .int .i64 (bothE 1 zA zA)]) ∧ OwnZ w11.heap.size w' v (bothZ 1 zA zA) ∧ Below w11.heap.size w11 w' :=
    add_at _ _ 2 2 zA zA w11 zs zs (fun h => by cases h)
  rw [both_A.1, both_A.2] at con
  go_wp2_with fail
  refine con.mono ?_
  rintro e w12 ⟨v12, rfl, O12, hb12⟩
  have hA := chain hA hb12
  have zf := zf.next hb12
  obtain ⟨a12, c12, rfl, zp⟩ := O12.zs
  obtain ⟨b1, o1, rfl, l1, y1, _⟩ := zf.elem (k := 0) (by simp)
  obtain ⟨b2, o2, rfl, l2, y2, _⟩ := zp.elem (k := 0) (by simp [sA])
  simp only [Nat.zero_mul, Nat.add_zero, List.getElem_cons_zero, sA] at y1 y2
  clear con zs O12 zf zp
  go_wp2_with fail
  go_ret
  exact ⟨rfl, hA⟩
end Go.Proofs.YtfojonhblblbjaaGreat
/- Opening arguments: numbers, values, expressions. -/
namespace Go.Proofs.YtfojonhblblbjaaGreat
open Go.ChangeShapes Go.WideShapes Go.ChangeAt Go.RowKit Go.Joins

set_option maxRecDepth 100000 in
theorem addr_addX (b off i : Nat) : (⟨b, off, none⟩ : Addr).add i = ⟨b, off + i, none⟩ := by
  unfold Addr.add
  by_cases h : i = 0 <;> simp [h]
theorem q3 : Tryz.prog.cellsOf 3 = 1 := by kernel_rfl
theorem q2 : Tryz.prog.cellsOf 2 = 1 := by kernel_rfl
theorem q9 : Tryz.prog.cellsOf 9 = 1 := by kernel_rfl
theorem q24 : Tryz.prog.cellsOf 24 = 3 := by kernel_rfl
theorem q25 : Tryz.prog.cellsOf 25 = 1 := by kernel_rfl
theorem q27 : Tryz.prog.cellsOf 27 = 6 := by kernel_rfl
set_option maxRecDepth 100000 in
theorem open_valT {H : Type} {enc : TypeId × Value → H} {W : World} {base : Nat} {sp : Nat → Bool} {hd : Bool} {fuel : Nat} {cs : List Value} {x : DataW H × List MemPlace}
    (h : DataW.trod enc Tryz.prog W base sp hd fuel 24 cs = some x) : ∃ v : Vl, cs = [.int .i64 v.1, .int .i64 v.2.1, .string v.2.2] := by
  obtain ⟨y0, y1, y2, m, _, hlen, h0, h1, h2⟩ := Go.Deep.trod_struct3 Tryz.underlying24 h
  rw [q24] at hlen
  match cs, hlen with
  | [c0, c1, c2], _ =>
    simp only [q3, q2, q9] at h0 h1 h2
    obtain ⟨k, e0, _, _⟩ := DataW.trod_int Tryz.underlying3 h0
    obtain ⟨n, e1, _, _⟩ := DataW.trod_int Tryz.underlying2 h1
    obtain ⟨s, e2, _, _⟩ := DataW.trod_string Tryz.underlying9 h2
    simp at e0 e1 e2
    subst e0 e1 e2
    exact ⟨(k, n, s), rfl⟩
set_option maxRecDepth 100000 in
theorem open_rowX {H : Type} {enc : TypeId × Value → H} {W : World} {base : Nat} {sp : Nat → Bool} {hd : Bool} {fuel : Nat} {cs : List Value} {x : DataW H × List MemPlace} {a : Addr}
    (hc : W.cells? base a 3 = some cs) (h : DataW.trod enc Tryz.prog W base sp hd fuel 24 cs = some x) :
    ∃ v : Vl, W.cell? (a.add 0) = some (.int .i64 v.1) ∧ W.cell? (a.add 1) = some (.int .i64 v.2.1) ∧ W.cell? (a.add 2) = some (.string v.2.2) := by
  obtain ⟨_, hlen, hcell⟩ := World.cells?_some hc
  obtain ⟨v, rfl⟩ := open_valT h
  exact ⟨v, hcell 0 (by simp), hcell 1 (by simp), hcell 2 (by simp)⟩
set_option maxRecDepth 100000 in
theorem open_valsX {H : Type} {enc : TypeId × Value → H} {W : World} {r : Reach} {b0 : Nat} {v : Value} {d : DataW H} {p : List MemPlace}
    (hv : Value.okWide Tryz.prog W r b0 51 v) (h : DataW.Trod enc Tryz.prog W 0 (fun _ => true) true 51 v d p) : ∃ (a : Option Addr) (cap : Nat) (l : List Vl), v = .slice a l.length cap ∧ SlAt W a l ∧ (a = none → cap = 0) := by
  obtain ⟨a0, len, cap, rfl⟩ := okWide_slice Tryz.underlying51 hv
  obtain ⟨fuel, hf⟩ := h
  rcases Go.Deep.open_slice Tryz.underlying51 hf with ⟨hcs, _⟩ | ⟨a, len', cap', m, n, D, Pl, hcs, _, hl, hm, hmm, _, hx⟩
  · simp [Value.cells] at hcs
    obtain ⟨rfl, rfl, rfl⟩ := hcs
    exact ⟨none, 0, [], rfl, ⟨by simp, .inl rfl⟩, fun _ => rfl⟩
  · simp [Value.cells] at hcs
    obtain ⟨rfl, rfl, rfl⟩ := hcs
    rw [q24] at hx
    simp only [if_true] at hmm
    obtain ⟨f, hf'⟩ := Go.Deep.choose_lt (α := Vl) (n := len) (p := fun i (v : Vl) => W.cell? ((a.add (i * 3)).add 0) = some (.int .i64 v.1) ∧ W.cell? ((a.add (i * 3)).add 1) = some (.int .i64 v.2.1) ∧ W.cell? ((a.add (i * 3)).add 2) = some (.string v.2.2)) (fun i hi => by
      obtain ⟨cs', h1, h2⟩ := hx i (by omega)
      exact open_rowX h1 h2)
    refine ⟨some a, cap, (List.range len).map f, by simp, ⟨?_, ?_⟩, fun e => by cases e⟩
    · simp; omega
    by_cases h0 : len = 0
    · left; simp [h0]
    · right
      obtain ⟨b, off, spot⟩ := a
      have hc := (hf' 0 (by omega)).1
      have hspot : spot = none := by simpa [Addr.add] using World.cell?_spot hc
      subst hspot
      refine ⟨b, off, rfl, fun i hi => ?_, ?_⟩
      · have hi' : i < len := by simpa using hi
        have := hf' i hi'
        simp only [addr_addX] at this
        simp only [List.getElem_map, List.getElem_range]
        exact this
      · exact World.block_lt_of_cell? W _ (by simpa [Addr.add] using hc)
set_option maxRecDepth 100000 in
theorem open_ints {H : Type} {enc : TypeId × Value → H} {W : World} {r : Reach} {b0 : Nat} {v : Value} {d : DataW H} {p : List MemPlace}
    (hv : Value.okWide Tryz.prog W r b0 22 v) (h : DataW.Trod enc Tryz.prog W 0 (fun _ => true) true 22 v d p) : ∃ (a : Option Addr) (cap : Nat) (l : List Int), v = .slice a l.length cap ∧ IsAt W.heap.size W a l := by
  obtain ⟨a0, len, cap, rfl⟩ := okWide_slice Tryz.underlying22 hv
  obtain ⟨fuel, hf⟩ := h
  rcases Go.Deep.open_slice1 Tryz.underlying22 q3 hf with ⟨hcs, _⟩ | ⟨a, len', cap', m, n, V, D, Pl, hcs, _, hl, hm, hmm, _, hx⟩
  · simp [Value.cells] at hcs
    obtain ⟨rfl, rfl, rfl⟩ := hcs
    exact ⟨none, 0, [], rfl, by simp, .inl rfl⟩
  · simp [Value.cells] at hcs
    obtain ⟨rfl, rfl, rfl⟩ := hcs
    simp only [if_true] at hmm
    obtain ⟨f, hf'⟩ := Go.Deep.choose_lt (α := Int) (n := len) (p := fun i (k : Int) => W.cell? (a.add i) = some (.int .i64 k)) (fun i hi => by
      obtain ⟨h1, h2⟩ := hx i (by omega)
      obtain ⟨k, e0, _, _⟩ := DataW.trod_int Tryz.underlying3 h2
      simp at e0
      exact ⟨k, by rw [h1, e0]⟩)
    refine ⟨some a, cap, (List.range len).map f, by simp, ?_, ?_⟩
    · simp; omega
    by_cases h0 : len = 0
    · left; simp [h0]
    · right
      obtain ⟨b, off, spot⟩ := a
      have hc := hf' 0 (by omega)
      have hspot : spot = none := by simpa [Addr.add] using World.cell?_spot hc
      subst hspot
      refine ⟨b, off, rfl, World.block_lt_of_cell? W _ (by simpa [Addr.add] using hc), fun i hi => ?_⟩
      have hi' : i < len := by simpa using hi
      have := hf' i hi'
      simp only [addr_addX] at this
      simp only [List.getElem_map, List.getElem_range]
      exact this
set_option maxRecDepth 100000 in
theorem open_val {H : Type} {enc : TypeId × Value → H} {W : World} {base : Nat} {sp : Nat → Bool} {hd : Bool} {r : Reach} {b0 : Nat} {v : Value} {d : DataW H} {p : List MemPlace}
    (hv : Value.okWide Tryz.prog W r b0 24 v) (h : DataW.Trod enc Tryz.prog W base sp hd 24 v d p) : ∃ u : Vl, v = agV u := by
  obtain ⟨cs, rfl, _⟩ := okWide_struct Tryz.underlying24 hv
  obtain ⟨fuel, hf⟩ := h
  obtain ⟨u, e⟩ := open_valT hf
  refine ⟨u, ?_⟩
  have e' : cs.toList = [.int .i64 u.1, .int .i64 u.2.1, .string u.2.2] := by simpa [Value.cells] using e
  exact congrArg Value.agg (Array.toList_inj.mp e')

instance : Inhabited Ex := ⟨.mk 0 (0, 0, ⟨#[]⟩) 0 []⟩
/-- The kids' opening, at less fuel. -/
def KidsOpen {H : Type} (enc : TypeId × Value → H) (W : World) (hd : Bool) (m : Nat) : Prop :=
  ∀ cs x, DataW.trod enc Tryz.prog W 0 (fun _ => true) hd m 25 cs = some x → ∃ (a : Option Addr) (cap : Nat) (l : List Ex), cs = [.slice a l.length cap] ∧ KsAt W.heap.size W a l
set_option maxRecDepth 100000 in
theorem open_exprT {H : Type} {enc : TypeId × Value → H} {W : World} {hd : Bool} {fuel : Nat} (ih : ∀ m, m < fuel → KidsOpen enc W hd m) {cs : List Value} {x : DataW H × List MemPlace}
    (h : DataW.trod enc Tryz.prog W 0 (fun _ => true) hd fuel 27 cs = some x) :
    ∃ (e : Ex) (a : Option Addr) (cap : Nat), cs = [.int .i64 e.k, .int .i64 e.v.1, .int .i64 e.v.2.1, .string e.v.2.2, .int .i64 e.c, .slice a e.ks.length cap] ∧ KsAt W.heap.size W a e.ks := by
  obtain ⟨xs, n, hn, _, hl, hlen, hf⟩ := DataW.trod_struct Tryz.underlying27 h
  rw [q27] at hl
  match xs, hlen with
  | [y0, y1, y2, y3], _ =>
    have h0 := hf 0 _ rfl
    have h1 := hf 1 _ rfl
    have h2 := hf 2 _ rfl
    have h3 := hf 3 _ rfl
    match cs, hl with
    | [c0, c1, c2, c3, c4, c5], _ =>
      simp [q3, q24, q25] at h0 h1 h2 h3
      obtain ⟨k, e0, _, _⟩ := DataW.trod_int Tryz.underlying3 h0
      obtain ⟨v, e1⟩ := open_valT h1
      obtain ⟨c, e2, _, _⟩ := DataW.trod_int Tryz.underlying3 h2
      obtain ⟨a, cap, l, e3, hk⟩ := ih n (by omega) _ _ h3
      simp at e0 e1 e2 e3
      obtain ⟨r1, r2, r3⟩ := e1
      subst e0 r1 r2 r3 e2 e3
      exact ⟨.mk k v c l, a, cap, rfl, hk⟩
set_option maxRecDepth 100000 in
theorem kidsOpen {H : Type} (enc : TypeId × Value → H) (W : World) (hd : Bool) (fuel : Nat) : KidsOpen enc W hd fuel := by
  induction fuel using Nat.strongRecOn with
  | ind fuel ih =>
    intro cs x h
    rcases DataW.trod_slice Tryz.underlying25 h with ⟨hcs, _⟩ | ⟨a, len, cap, elems, rest, n, hn, hcs, _, _, _, _, hlen, hel, _, _⟩
    · exact ⟨none, 0, [], hcs, .nil _⟩
    · rw [q27] at hel
      obtain ⟨f, hf⟩ := Go.Deep.choose_lt (α := Ex × Option Addr × Nat) (n := len) (p := fun i (y : Ex × Option Addr × Nat) =>
          (W.cell? ((a.add (i * 6)).add 0) = some (.int .i64 y.1.k) ∧ W.cell? ((a.add (i * 6)).add 1) = some (.int .i64 y.1.v.1) ∧ W.cell? ((a.add (i * 6)).add 2) = some (.int .i64 y.1.v.2.1) ∧ W.cell? ((a.add (i * 6)).add 3) = some (.string y.1.v.2.2) ∧
            W.cell? ((a.add (i * 6)).add 4) = some (.int .i64 y.1.c) ∧ W.cell? ((a.add (i * 6)).add 5) = some (.slice y.2.1 y.1.ks.length y.2.2)) ∧ KsAt W.heap.size W y.2.1 y.1.ks) (fun i hi => by
        have key := hel i hi
        rw [List.getElem?_eq_getElem (by omega)] at key
        obtain ⟨cs', h1, h2⟩ := Option.bind_eq_some_iff.1 key
        obtain ⟨_, hl6, hcell⟩ := World.cells?_some h1
        obtain ⟨e, ai, ci, rfl, hk⟩ := open_exprT (fun m hm => ih m (by omega)) h2
        exact ⟨(e, ai, ci), ⟨hcell 0 (by simp), hcell 1 (by simp), hcell 2 (by simp), hcell 3 (by simp), hcell 4 (by simp), hcell 5 (by simp)⟩, hk⟩)
      refine ⟨some a, cap, (List.range len).map fun i => (f i).1, by simpa using hcs, ?_⟩
      by_cases h0 : len = 0
      · subst h0; exact .nil _
      · obtain ⟨b, off, spot⟩ := a
        have hc := (hf 0 (by omega)).1.1
        have hspot : spot = none := by simpa [Addr.add] using World.cell?_spot hc
        subst hspot
        refine .some b off _ (fun i => (f i).2.1) (fun i => (f i).2.2) (World.block_lt_of_cell? W _ (by simpa [Addr.add] using hc)) (fun i hi => ?_) (fun i hi => ?_)
        · have hi' : i < len := by simpa using hi
          have := (hf i hi').1
          simp only [addr_addX] at this
          simp only [List.getElem_map, List.getElem_range]
          exact ⟨this.1, this.2.1, this.2.2.1, this.2.2.2.1, this.2.2.2.2.1, this.2.2.2.2.2⟩
        · have hi' : i < len := by simpa using hi
          simp only [List.getElem_map, List.getElem_range]
          exact (hf i hi').2
set_option maxRecDepth 100000 in
theorem open_expr {H : Type} {enc : TypeId × Value → H} {W : World} {r : Reach} {b0 : Nat} {v : Value} {d : DataW H} {p : List MemPlace}
    (hv : Value.okWide Tryz.prog W r b0 27 v) (h : DataW.Trod enc Tryz.prog W 0 (fun _ => true) true 27 v d p) : ∃ (e : Ex) (a : Option Addr) (cap : Nat), v = exV e.k e.v e.c a e.ks.length cap ∧ KsAt W.heap.size W a e.ks := by
  obtain ⟨cs, rfl, _⟩ := okWide_struct Tryz.underlying27 hv
  obtain ⟨fuel, hf⟩ := h
  obtain ⟨e, a, cap, he, hk⟩ := open_exprT (fun m _ => kidsOpen enc W true m) hf
  refine ⟨e, a, cap, ?_, hk⟩
  have e' : cs.toList = [.int .i64 e.k, .int .i64 e.v.1, .int .i64 e.v.2.1, .string e.v.2.2, .int .i64 e.c, .slice a e.ks.length cap] := by simpa [Value.cells] using he
  exact congrArg Value.agg (Array.toList_inj.mp e')
set_option maxRecDepth 100000 in
theorem open_exprs {H : Type} {enc : TypeId × Value → H} {W : World} {r : Reach} {b0 : Nat} {v : Value} {d : DataW H} {p : List MemPlace}
    (hv : Value.okWide Tryz.prog W r b0 25 v) (h : DataW.Trod enc Tryz.prog W 0 (fun _ => true) true 25 v d p) : ∃ (a : Option Addr) (cap : Nat) (l : List Ex), v = .slice a l.length cap ∧ KsAt W.heap.size W a l := by
  obtain ⟨a0, len, cap, rfl⟩ := okWide_slice Tryz.underlying25 hv
  obtain ⟨fuel, hf⟩ := h
  obtain ⟨a, c, l, e, hs⟩ := kidsOpen enc W true fuel _ _ hf
  refine ⟨a, c, l, ?_, hs⟩
  simpa [Value.cells] using e
end Go.Proofs.YtfojonhblblbjaaGreat
/- How long the lists of numbers may be that are read. -/
namespace Go.Proofs.YtfojonhblblbjaaGreat
open Go.ChangeShapes Go.WideShapes Go.ChangeAt Go.RowKit Go.Joins

theorem bytes_int : Tryz.prog.bytesOf 3 = 8 := by kernel_rfl
theorem ints_sized {H : Type} {enc : TypeId × Value → H} {W : World} {a : Option Addr} {n cap : Nat} {d : DataW H} {p : List MemPlace} (h : DataW.Trod enc Tryz.prog W 0 (fun _ => true) true 22 (.slice a n cap) d p)
    {ts : List TypeId} {ds : List (DataW H)} (hs : (DataW.weightsEach Tryz.prog ts ds).all (· ≤ reachBytes) = true) {j : Nat} (ht : ts[j]? = some 22) (hd : ds[j]? = some d) : n ≤ 100000000000000 := by
  obtain ⟨fuel, hf⟩ := h
  rcases Go.Deep.open_slice1 Tryz.underlying22 q3 hf with ⟨hcs, _⟩ | ⟨a, len', cap', m, k, V, D, Pl, hcs, _, hl, hm, hmm, hx, _⟩
  · simp [Value.cells] at hcs
    omega
  · simp [Value.cells] at hcs
    obtain ⟨rfl, rfl, rfl⟩ := hcs
    simp only [Prod.mk.injEq] at hx
    have e := hx.1
    subst e
    have := sized_slice hs ht hd Tryz.underlying22
    rw [bytes_int] at this
    simp only [List.length_map, List.length_range] at this
    have h2 := reachBytes_lt
    omega
end Go.Proofs.YtfojonhblblbjaaGreat
