/- Together: J9, Q3, SOpen. -/
import Derived.SizedLaws
import Derived.Test.YtfgpfnhbcbhkfadGreatC0
import Derived.Test.YtfgpfnhbcbhkfadGreatB6
import Derived.Test.YtfgpfnhbcbhkfadGreatB7
/- The walk of ops.ofPairs. -/
namespace Go.Proofs.YtfgpfnhbcbhkfadGreat
open Go.RowKit Go.Lib Go.Shelf

theorem mul_mid {a b : Int} (h1 : -1000000 ≤ a) (h2 : a ≤ 1000000) (h3 : -1000000 ≤ b) (h4 : b ≤ 1000000) : -1000000000000 ≤ a * b ∧ a * b ≤ 1000000000000 := by
  have ha : a.natAbs ≤ 1000000 := by omega
  have hb : b.natAbs ≤ 1000000 := by omega
  have := Nat.mul_le_mul ha hb
  rw [← Int.natAbs_mul] at this
  omega
theorem PairsIn.later {cols : List Int} {x : Ex} {w0 wp W : World} {a b : Option Addr} {ca cb : Nat} {l r : List Zp} {v : Value} {R rv : Nat} (h : PairsIn cols x w0 wp a b ca cb l r v R rv) (hI : PInv wp R rv wp) (hb : Below wp.heap.size wp W) : PairsIn cols x w0 W a b ca cb l r v R rv ∧ PInv W R rv W := by
  obtain ⟨lo, wc, hv, u, e, hn, h2, h3, h4, h5, h6, h7, h8⟩ := h
  have hr := hn.r
  have hrv := hn.v
  have hI' := hI.later hn (Nat.le_refl _) hb
  have z := hb.size
  exact ⟨⟨lo, wc, hv, u, e, ⟨hr, by omega⟩, h2, (hb.cell (p := ⟨hv, 0, none⟩) (by show hv < _; omega)).trans h3, h4, h5, h6.trans (Since.of hb), h7, chain h8 hb⟩, ⟨rfl, rfl, rfl, Nat.le_refl _, fun _ _ _ _ => rfl, hI'.var, hI'.warm, hI'.room⟩⟩
theorem PairsIn.down {cols : List Int} {x : Ex} {w w0 wp : World} {a b : Option Addr} {ca cb : Nat} {l r : List Zp} {v : Value} {R rv : Nat} (h : PairsIn cols x w0 wp a b ca cb l r v R rv) (hb : Below w.heap.size w w0) : PairsIn cols x w wp a b ca cb l r v R rv := by
  obtain ⟨lo, wc, hv, u, e, hn, h2, h3, h4, h5, h6, h7, h8⟩ := h
  exact ⟨lo, wc, hv, u, e, hn, h2, h3, h4, h5, h6, Nat.le_trans hb.size h7, chain hb h8⟩
theorem askable {left right : List Int} {x : Ex} {l r : List Zp} (h : TwoOk left right x l r) : Askable (left ++ right) l r where
  ll := set_len h.left
  rl := set_len h.right
  row p hp q hq := by
    have h1 := (h.left.fit p hp).len
    have h2 := (h.right.fit q hq).len
    have := h.len
    omega
  fit p hp q hq := fit_append (h.left.fit p hp) (h.right.fit q hq)
  mul p hp q hq := by
    have h1 := set_in h.left p hp
    have h2 := set_in h.right q hq
    rw [inW_iff] at h1 h2
    exact mul_mid h1.1 h1.2 h2.1 h2.2
theorem join_ok {left right : List Int} {x : Ex} {l r : List Zp} (h : TwoOk left right x l r) : (joinL x l r).length ≤ 160000 ∧ ∀ y ∈ joinL x l r, bigW y.2 = true ∧ y.1.length ≤ 8 := by
  have hq := askable h
  refine ⟨Nat.le_trans (joinL_len x l r) (Nat.mul_le_mul hq.ll hq.rl), fun y hy => ?_⟩
  unfold joinL at hy
  obtain ⟨p, hp, hy⟩ := List.mem_flatMap.1 hy
  unfold pairsOf at hy
  obtain ⟨q, hq', rfl⟩ := List.mem_map.1 hy
  have hq'' := (List.mem_filter.1 hq').1
  have h1 := hq.row p hp q hq''
  exact ⟨(bigW_iff _).2 (hq.mul p hp q hq''), by simpa using h1⟩
theorem name_ok {left right : List Int} {x : Ex} {l r : List Zp} (what : Nat) (h : TwoOk left right x l r) : (nameL what right.length x l r).length ≤ 200000 ∧ ∀ y ∈ nameL what right.length x l r, bigW y.2 = true ∧ y.1.length ≤ 8 := by
  have hj := join_ok h
  have hl := set_len h.left
  have one : ∀ y ∈ l, bigW y.2 = true ∧ y.1.length ≤ 8 := fun y hy => ⟨inW_big (set_in h.left y hy), row8 h.left y hy⟩
  unfold nameL
  split
  · exact ⟨by omega, hj.2⟩
  split
  · refine ⟨Nat.le_trans (List.length_filter_le _ _) (by omega), fun y hy => one y (List.mem_filter.1 hy).1⟩
  split
  · refine ⟨Nat.le_trans (List.length_filter_le _ _) (by omega), fun y hy => one y (List.mem_filter.1 hy).1⟩
  · have ha : (antiL x l r).length ≤ l.length := List.length_filter_le _ _
    refine ⟨?_, fun y hy => ?_⟩
    · unfold leftL wideL
      rw [List.length_append, List.length_map]
      omega
    · rcases List.mem_append.1 hy with hy | hy
      · exact hj.2 y hy
      · obtain ⟨p, hp, rfl⟩ := List.mem_map.1 hy
        have hp' := (List.mem_filter.1 hp).1
        have h1 := (h.left.fit p hp').len
        have h2 := h.len
        refine ⟨(one p hp').1, ?_⟩
        simp only [List.length_append, nulls, List.length_replicate]
        omega

set_option maxRecDepth 100000 in
set_option maxHeartbeats 8000000 in
theorem ofPairs_at (what : Nat) (g : Nat) (cbs : Array Value) (left right : List Int) (x : Ex) (la : Option Addr) (lcap : Nat) (ra : Option Addr) (rcap : Nat) (xa : Option Addr) (xcap : Nat) (a : Option Addr) (ca : Nat) (l : List Zp) (b : Option Addr) (cb : Nat) (r : List Zp) (w : World)
    (hcl : IsAt w.heap.size w la left) (hcr : IsAt w.heap.size w ra right) (hx : KsAt w.heap.size w xa x.ks) (h : ZsAt w a l) (h' : ZsAt w b r) (hll : left.length ≤ 100000000000000) (hrl : right.length ≤ 100000000000000)
    (eg : ∀ args w, (callFunc g args).run Tryz.prog w = .ok (.enter g args) w)
    (hcall : ∀ (W : World) (v : Value) (R rv : Nat), PairsIn (left ++ right) x w W a b ca cb l r v R rv → PInv W R rv W → TwoOk left right x l r → Calls Tryz.prog g (#[v] ++ cbs) W fun e w' => ∃ u, e = .returned u ∧ OwnZ w.heap.size w' u (nameL what right.length x l r) ∧ Below w.heap.size w w') :
    Calls Tryz.prog 45 #[.slice la left.length lcap, .slice ra right.length rcap, exV x.k x.v x.c xa x.ks.length xcap, .slice a l.length ca, .slice b r.length cb, .func (.func g) #[] cbs] w fun e w' => ∃ v, e = .returned (.tuple #[v, .int .i64 (pairE what left right x l r)]) ∧ OwnZ w.heap.size w' v (pairZ what left right x l r) ∧ Below w.heap.size w w' := by
  have h1 : Below w.heap.size w (w.alloc (.cells #[.int .i64 x.k, .int .i64 x.v.1, .int .i64 x.v.2.1, .string x.v.2.2, .int .i64 x.c, .slice xa x.ks.length xcap] 27)) := (Below.refl _ _).alloc (Nat.le_refl _) _
  have con := paired_at left right x la lcap ra rcap xa xcap a ca l b cb r (w.alloc (.cells #[.int .i64 x.k, .int .i64 x.v.1, .int .i64 x.v.2.1, .string x.v.2.2, .int .i64 x.c, .slice xa x.ks.length xcap] 27)) ((hcl.next h1 (Nat.le_refl _)).up h1.size) ((hcr.next h1 (Nat.le_refl _)).up h1.size) ((KsAt.next h1 (Nat.le_refl _) hx).up h1.size) (h.next h1) (h'.next h1) hll hrl
  have HC : Hid (∀ (W : World) (v : Value) (R rv : Nat), PairsIn (left ++ right) x w W a b ca cb l r v R rv → PInv W R rv W → TwoOk left right x l r → Calls Tryz.prog g (#[v] ++ cbs) W fun e w' => ∃ u, e = .returned u ∧ OwnZ w.heap.size w' u (nameL what right.length x l r) ∧ Below w.heap.size w w') := hcall
  clear hcall
  generalize hfz : pairZ what left right x l r = fz
  generalize hfe : pairE what left right x l r = fe
  have HZ : Hid (pairZ what left right x l r = fz) := hfz
  have HF : Hid (pairE what left right x l r = fe) := hfe
  clear hfz hfe
  by_cases ht : twoE left right x l r = 0
  · rw [ht] at con
    have HT := (twoE_ok left right x l r).1 ht
    have H2 : Hid (twoE left right x l r = 0) := ht
    clear ht
    go_enter Tryz.func45, Tryz.ntmps45
    go_wp2_with fail
    generalize w.alloc (.cells #[.int .i64 x.k, .int .i64 x.v.1, .int .i64 x.v.2.1, .string x.v.2.2, .int .i64 x.c, .slice xa x.ks.length xcap] 27) = w1 at *
    refine con.mono ?_
    rintro e w2 ⟨v2, rfl, hor, hb2⟩
    have PO : PairsOk (left ++ right) x w1 w2 a b ca cb l r v2 := by
      rcases hor with ⟨_, h⟩ | ⟨c, _⟩
      · exact h
      · exact absurd trivial c
    clear hor
    obtain ⟨R, rv, PI, I2⟩ := PO.in_
    have PI := PI.down h1
    clear con PO
    have hv2 : ∃ hv, v2 = .agg #[.slice a l.length ca, .slice b r.length cb, .func (.func 159) #[] #[.pointer (some ⟨rv, 0, none⟩), .pointer (some ⟨hv, 0, none⟩)]] := by obtain ⟨_, _, hv, _, e, _⟩ := PI; exact ⟨hv, e⟩
    obtain ⟨hv, rfl⟩ := hv2
    have hal2 : Below w2.heap.size w2 (w2.alloc (.cells #[.slice a l.length ca, .slice b r.length cb, .func (.func 159) #[] #[.pointer (some ⟨rv, 0, none⟩), .pointer (some ⟨hv, 0, none⟩)]] 79)) := (Below.refl _ _).alloc (Nat.le_refl _) _
    obtain ⟨PI3, I3⟩ := PI.later I2 hal2
    have con := HC.out _ _ R rv PI3 I3 HT
    have hn := name_ok what HT
    have H3 : Hid (TwoOk left right x l r) := HT
    clear HT PI PI3 I3 I2 hal2
    dsimp only
    go_wp2_with fail
    generalize w2.alloc (.cells #[.slice a l.length ca, .slice b r.length cb, .func (.func 159) #[] #[.pointer (some ⟨rv, 0, none⟩), .pointer (some ⟨hv, 0, none⟩)]] 79) = w3 at *
    refine con.mono ?_
    rintro e w4 ⟨u4, rfl, O4, hb4⟩
    clear con
    obtain ⟨a4, c4, rfl, zs4⟩ := O4.zs
    have con := gathered_at a4 c4 (nameL what right.length x l r) w4 zs4 hn.1 (fun y hy => (hn.2 y hy).1) (fun y hy => (hn.2 y hy).2)
    have e0 : pairE what left right x l r = gatherE (nameL what right.length x l r) := by unfold pairE; rw [H2.out, if_neg (by simp)]
    have e1 : gatherZ (nameL what right.length x l r) = fz := by rw [← HZ.out]; unfold pairZ gatherZ; rw [e0]
    rw [← e0, HF.out, e1] at con
    clear e0 e1 O4 zs4 hn
    generalize (nameL what right.length x l r).length = nl at *
    dsimp only
    go_wp2_with fail
    refine con.mono ?_
    rintro e w5 ⟨v5, rfl, O5, hb5⟩
    have O5' := O5.mono hb4.size
    obtain ⟨a5, c5, rfl, _⟩ := O5.zs
    clear con O5
    dsimp only
    go_wp2_with fail
    exact bodyPost_ret (v := .tuple #[.slice a5 fz.length c5, .int .i64 fe]) (by simp [results, Tryz.results45, go_sem]) rfl ⟨_, rfl, O5', chain hb4 hb5⟩
  · have e0 : fe = twoE left right x l r := by rw [← HF.out]; unfold pairE; rw [if_pos ht]
    have e1 : fz = [] := by rw [← HZ.out]; unfold pairZ; rw [if_neg (by rw [HF.out, e0]; exact ht)]
    rw [← e0] at con ht
    have hne : (fe != 0) = true := by simpa using ht
    subst e1
    clear e0
    go_enter Tryz.func45, Tryz.ntmps45
    go_wp2_with fail
    generalize w.alloc (.cells #[.int .i64 x.k, .int .i64 x.v.1, .int .i64 x.v.2.1, .string x.v.2.2, .int .i64 x.c, .slice xa x.ks.length xcap] 27) = w1 at *
    refine con.mono ?_
    rintro e w2 ⟨v2, rfl, hor, hb2⟩
    obtain ⟨c, _⟩ | ⟨_, rfl⟩ := hor
    · exact absurd c ht
    clear con
    dsimp only
    go_wp2_with fail
    exact bodyPost_ret (v := .tuple #[.slice none 0 0, .int .i64 fe]) (by simp [results, Tryz.results45, go_sem]) rfl ⟨_, rfl, ⟨[], by simpa using World.ownsRow_nil _ _ _ _, ⟨rfl, fun i hi => by simp at hi⟩⟩, (chain h1 hb2).alloc (by have := (chain h1 hb2).size; omega) _⟩

set_option maxRecDepth 100000 in
set_option maxHeartbeats 4000000 in
theorem join_at (left right : List Int) (x : Ex) (la : Option Addr) (lcap : Nat) (ra : Option Addr) (rcap : Nat) (xa : Option Addr) (xcap : Nat) (a : Option Addr) (ca : Nat) (l : List Zp) (b : Option Addr) (cb : Nat) (r : List Zp) (w : World)
    (hcl : IsAt w.heap.size w la left) (hcr : IsAt w.heap.size w ra right) (hx : KsAt w.heap.size w xa x.ks) (h : ZsAt w a l) (h' : ZsAt w b r) (hll : left.length ≤ 100000000000000) (hrl : right.length ≤ 100000000000000) :
    Calls Tryz.prog 16 #[.slice la left.length lcap, .slice ra right.length rcap, exV x.k x.v x.c xa x.ks.length xcap, .slice a l.length ca, .slice b r.length cb] w fun e w' => ∃ v, e = .returned (.tuple #[v, .int .i64 (pairE 0 left right x l r)]) ∧ OwnZ w.heap.size w' v (pairZ 0 left right x l r) ∧ Below w.heap.size w w' := by
  have h1 : Below w.heap.size w (w.alloc (.cells #[.int .i64 x.k, .int .i64 x.v.1, .int .i64 x.v.2.1, .string x.v.2.2, .int .i64 x.c, .slice xa x.ks.length xcap] 27)) := (Below.refl _ _).alloc (Nat.le_refl _) _
  have zs1 := h.next h1
  have zs1' := h'.next h1
  have con := ofPairs_at 0 46 #[] left right x la lcap ra rcap xa xcap a ca l b cb r (w.alloc (.cells #[.int .i64 x.k, .int .i64 x.v.1, .int .i64 x.v.2.1, .string x.v.2.2, .int .i64 x.c, .slice xa x.ks.length xcap] 27)) ((hcl.next h1 (Nat.le_refl _)).up h1.size) ((hcr.next h1 (Nat.le_refl _)).up h1.size) ((KsAt.next h1 (Nat.le_refl _) hx).up h1.size) zs1 zs1' hll hrl (enters_of Tryz.func46 (by kernel_rfl) rfl) (fun W v R rv hP hI hT => by
    refine (joined_at (left ++ right) x _ W W a b ca cb l r v R rv hP hI zs1 zs1' (askable hT)).mono ?_
    rintro e w' ⟨u, rfl, OJ, I', z'⟩
    obtain ⟨_, _, _, _, _, hn, _, _, _, _, _, hR, hB⟩ := hP
    exact ⟨u, rfl, OJ.z.mono (by have := hB.size; omega), hB.trans ((I'.below hn).mono hR)⟩)
  generalize hfz : pairZ 0 left right x l r = fz at *
  generalize hfe : pairE 0 left right x l r = fe at *
  clear hfz hfe
  go_enter Tryz.func16, Tryz.ntmps16
  go_wp2_with fail
  generalize w.alloc (.cells #[.int .i64 x.k, .int .i64 x.v.1, .int .i64 x.v.2.1, .string x.v.2.2, .int .i64 x.c, .slice xa x.ks.length xcap] 27) = w1 at *
  refine con.mono ?_
  rintro e w2 ⟨v2, rfl, O2, hb2⟩
  have O2' := O2.mono h1.size
  obtain ⟨a2, c2, rfl, _⟩ := O2.zs
  clear con O2
  dsimp only
  go_wp2_with fail
  exact bodyPost_ret (v := .tuple #[.slice a2 fz.length c2, .int .i64 fe]) (by simp [results, Tryz.results16, go_sem]) rfl ⟨_, rfl, O2', chain h1 hb2⟩
end Go.Proofs.YtfgpfnhbcbhkfadGreat
/- Plain facts: joins are linear in both. -/
namespace Go.Proofs.YtfgpfnhbcbhkfadGreat
open Go.RowKit

theorem sets_eq {s t : List Zp} (hs : IsSet s) (ht : IsSet t) (e : ∀ k, wt s k = wt t k) : s = t := (canon_of hs e).trans (canon_of ht fun _ => rfl).symm
theorem pairZ_set {what : Nat} {l r : List Int} {x : Ex} {a b : List Zp} (h : pairE what l r x a b = 0) : IsSet (pairZ what l r x a b) := by unfold pairZ; rw [if_pos h]; exact canon_set _
theorem pairZ_wt {what : Nat} {l r : List Int} {x : Ex} {a b : List Zp} (h : pairE what l r x a b = 0) (q : List Vl) : wt (pairZ what l r x a b) q = wt (nameL what r.length x a b) q := by unfold pairZ; rw [if_pos h, canon_wt]
/-- How much of a row the first sets have together. -/
def wts : Nat → List (List Zp) → List Vl → Int
  | 0, _, _ => 0
  | _, [], _ => 0
  | k + 1, z :: t, q => wt z q + wts k t q
theorem wts_step : ∀ (k : Nat) (zs : List (List Zp)) (q : List Vl) (h : k < zs.length), wts (k + 1) zs q = wts k zs q + wt zs[k] q
  | 0, z :: t, q, _ => by simp [wts]
  | k + 1, z :: t, q, h => by
    have := wts_step k t q (by simpa using h)
    rw [wts, this, wts, List.getElem_cons_succ]
    omega
  | _, [], _, h => by simp at h
theorem bilinear_fact {l r : List Int} {x : Ex} {a b c d s : List Zp} (h1 : bothE 1 a b = 0) (h2 : bothE 1 c d = 0) (e0 : pairE 0 l r x (bothZ 1 a b) (bothZ 1 c d) = 0) (e1 : pairE 0 l r x a c = 0) (e2 : pairE 0 l r x a d = 0) (e3 : pairE 0 l r x b c = 0) (e4 : pairE 0 l r x b d = 0)
    (hs : IsSet s) (hw : ∀ q, wt s q = wts 4 [pairZ 0 l r x a c, pairZ 0 l r x a d, pairZ 0 l r x b c, pairZ 0 l r x b d] q) : s = pairZ 0 l r x (bothZ 1 a b) (bothZ 1 c d) := by
  refine sets_eq hs (pairZ_set e0) fun q => ?_
  rw [hw, pairZ_wt e0]
  simp only [wts]
  rw [pairZ_wt e1, pairZ_wt e2, pairZ_wt e3, pairZ_wt e4]
  simp only [nameL, if_true]
  rw [join_bilinear (bothE_ok h1).2.2.2 (bothE_ok h2).2.2.2 q]
  omega
end Go.Proofs.YtfgpfnhbcbhkfadGreat
/- How long the lists of numbers may be that are read. -/
namespace Go.Proofs.YtfgpfnhbcbhkfadGreat
open Go.ChangeShapes Go.WideShapes Go.ChangeAt Go.RowKit Go.Joins

theorem bytes_int : Tryz.prog.bytesOf 3 = 8 := by kernel_rfl
theorem ints_sized {H : Type} {enc : TypeId × Value → H} {W : World} {a : Option Addr} {n cap : Nat} {d : DataW H} {p : List MemPlace} (h : DataW.Trod enc Tryz.prog W 0 (fun _ => true) true 22 (.slice a n cap) d p)
    {ts : List TypeId} {ds : List (DataW H)} (hs : (DataW.weightsEach Tryz.prog ts ds).all (· ≤ reachBytes) = true) {j : Nat} (ht : ts[j]? = some 22) (hd : ds[j]? = some d) : n ≤ 100000000000000 := by
  obtain ⟨fuel, hf⟩ := h
  rcases Go.Deep.open_slice1 Tryz.underlying22 q3 hf with ⟨hcs, _⟩ | ⟨a, len', cap', m, k, V, D, Pl, hcs, _, hl, hm, hmm, hx, _⟩
  · simp [Value.cells] at hcs
    omega
  · simp [Value.cells] at hcs
    obtain ⟨rfl, rfl, rfl⟩ := hcs
    simp only [Prod.mk.injEq] at hx
    have e := hx.1
    subst e
    have := sized_slice hs ht hd Tryz.underlying22
    rw [bytes_int] at this
    simp only [List.length_map, List.length_range] at this
    have h2 := reachBytes_lt
    omega
end Go.Proofs.YtfgpfnhbcbhkfadGreat
