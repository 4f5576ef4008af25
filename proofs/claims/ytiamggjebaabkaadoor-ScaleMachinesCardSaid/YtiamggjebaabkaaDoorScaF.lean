/- Package scale: Between. The statements of layer 12: the fixed fact, Long, the boxes of arguments. Written by gen_scl.py. -/
import Derived.Test.YtiamggjebaabkaaDoorScaC
import Derived.Test.YtiamggjebaabkaaDoorLeapN
import Derived.Test.YtiamggjebaabkaaDoorLeapK
import Derived.Test.YtiamggjebaabkaaDoorLabN
namespace Go.Proofs.YtiamggjebaabkaaDoor
open Go.RowKit
set_option linter.unusedVariables false
set_option linter.unusedSimpArgs false

theorem two12 (w : World) (a b : Lb) : ∃ W0, W0 = (w.alloc (.cells a.cells 26)).alloc (.cells b.cells 26) ∧ Lk 26 W0 w.heap.size a ∧ Lk 26 W0 (w.heap.size + 1) b ∧ Below w.heap.size w W0 := by
  obtain ⟨h1, h2, h3⟩ := both_lk 26 26 w a b
  exact ⟨_, rfl, h1, h2, h3⟩
/-- What Between answers. -/
def bwE (L : List Rw) (a b : Lb) : Int := if taE L a = 0 then taE L b else taE L a
def bwV (L : List Rw) (a b : Lb) : Int := if taE L a = 0 then (if taE L b = 0 then taV L b - taV L a else 0) else 0
theorem bwE_lo (L : List Rw) (a b : Lb) : 0 ≤ bwE L a b ∧ bwE L a b < 100 := by
  unfold bwE
  split
  · exact taE_lo _ _
  · exact taE_lo _ _

set_option maxHeartbeats 4000000 in
theorem between_bad {lo : Nat} {w : World} {g : Nat} {L : List Rw} {u e : Int} (a b : Lb) (he : Ends w) (h : Tb lo w g L u e) (V : Vr L) (h1 : taE L a ≠ 0) :
    Calls Tryd.prog 31 #[.pointer (some ⟨g, 0, none⟩), .agg a.cells, .agg b.cells] w fun x w' => x = .returned (.tuple #[.int .i64 0, ev (taE L a)]) ∧ Below w.heap.size w w' := by
  obtain ⟨W0, hW0, p0, z0, b0⟩ := two12 w a b
  obtain ⟨c0, c1, c2, c3, c4, c5, c6, c7⟩ := p0.all
  have Z0 := Lib.hid z0; have B0 := Lib.hid b0
  have HA := Lib.hid (tai12_any a (he.below b0) (h.below b0) V)
  have HB := Lib.hid (fun W (hb : Below W0.heap.size W0 W) => tai12_any b (he.below (b0.trans (hb.mono b0.size))) (h.below (b0.trans (hb.mono b0.size))) V)
  have ba := V.taV_bd a; have bb := V.taV_bd b
  have q0 := fun op t W x k => guard_ev op t W x k
  have q1 := fun W k => eql_ev W k
  have q2 := fun W k => neq_ev W k
  have hk1 : (taE L a != 0) = true := bne_iff_ne.mpr h1
  clear p0 z0 b0 he h V h1 HB
  generalize taV L a = va at *
  generalize taV L b = vb at *
  generalize taE L a = ea at *
  generalize taE L b = eb at *
  go_enter Tryd.func31, Tryd.ntmps31
  go_upto_region 1 with fail
  rw [← hW0]; clear hW0
  go_wp2_with fail
  refine HA.out.mono ?_
  rintro e w1 ⟨rfl, hb⟩
  have Q1 := Lib.hid hb
  have Z1 := Lib.hid (Z0.out.keep hb)
  have B1 := Lib.hid (B0.out.trans (hb.mono B0.out.size))
  clear hb c0 c1 c2 c3 c4 c5 c6 c7
  obtain ⟨c0, c1, c2, c3, c4, c5, c6, c7⟩ := Z1.out.all
  go_wp2_with fail
  go_ret2
  exact ⟨rfl, B1.out⟩

set_option maxHeartbeats 4000000 in
theorem between_second {lo : Nat} {w : World} {g : Nat} {L : List Rw} {u e : Int} (a b : Lb) (he : Ends w) (h : Tb lo w g L u e) (V : Vr L) (h1 : taE L a = 0) (h2 : taE L b ≠ 0) :
    Calls Tryd.prog 31 #[.pointer (some ⟨g, 0, none⟩), .agg a.cells, .agg b.cells] w fun x w' => x = .returned (.tuple #[.int .i64 0, ev (taE L b)]) ∧ Below w.heap.size w w' := by
  obtain ⟨W0, hW0, p0, z0, b0⟩ := two12 w a b
  obtain ⟨c0, c1, c2, c3, c4, c5, c6, c7⟩ := p0.all
  have Z0 := Lib.hid z0; have B0 := Lib.hid b0
  have HA := Lib.hid (tai12_any a (he.below b0) (h.below b0) V)
  have HB := Lib.hid (fun W (hb : Below W0.heap.size W0 W) => tai12_any b (he.below (b0.trans (hb.mono b0.size))) (h.below (b0.trans (hb.mono b0.size))) V)
  have ba := V.taV_bd a; have bb := V.taV_bd b
  have q0 := fun op t W x k => guard_ev op t W x k
  have q1 := fun W k => eql_ev W k
  have q2 := fun W k => neq_ev W k
  rw [h1] at HA
  have hk2 : (taE L b != 0) = true := bne_iff_ne.mpr h2
  clear p0 z0 b0 he h V h1 h2
  generalize taV L a = va at *
  generalize taV L b = vb at *
  generalize taE L a = ea at *
  generalize taE L b = eb at *
  go_enter Tryd.func31, Tryd.ntmps31
  go_upto_region 1 with fail
  rw [← hW0]; clear hW0
  go_wp2_with fail
  refine HA.out.mono ?_
  rintro e w1 ⟨rfl, hb⟩
  have Q1 := Lib.hid hb
  have Z1 := Lib.hid (Z0.out.keep hb)
  have B1 := Lib.hid (B0.out.trans (hb.mono B0.out.size))
  clear hb c0 c1 c2 c3 c4 c5 c6 c7
  obtain ⟨c0, c1, c2, c3, c4, c5, c6, c7⟩ := Z1.out.all
  go_wp2_with fail
  refine (HB.out _ Q1.out).mono ?_
  rintro e w2 ⟨rfl, hb⟩
  have B2 := Lib.hid (B1.out.trans (hb.mono B1.out.size))
  clear hb c0 c1 c2 c3 c4 c5 c6 c7
  go_wp2_with fail
  go_ret2
  exact ⟨rfl, B2.out⟩

set_option maxHeartbeats 4000000 in
theorem between_ok {lo : Nat} {w : World} {g : Nat} {L : List Rw} {u e : Int} (a b : Lb) (he : Ends w) (h : Tb lo w g L u e) (V : Vr L) (h1 : taE L a = 0) (h2 : taE L b = 0) :
    Calls Tryd.prog 31 #[.pointer (some ⟨g, 0, none⟩), .agg a.cells, .agg b.cells] w fun x w' => x = .returned (.tuple #[.int .i64 (taV L b - taV L a), ev 0]) ∧ Below w.heap.size w w' := by
  obtain ⟨W0, hW0, p0, z0, b0⟩ := two12 w a b
  obtain ⟨c0, c1, c2, c3, c4, c5, c6, c7⟩ := p0.all
  have Z0 := Lib.hid z0; have B0 := Lib.hid b0
  have HA := Lib.hid (tai12_any a (he.below b0) (h.below b0) V)
  have HB := Lib.hid (fun W (hb : Below W0.heap.size W0 W) => tai12_any b (he.below (b0.trans (hb.mono b0.size))) (h.below (b0.trans (hb.mono b0.size))) V)
  have ba := V.taV_bd a; have bb := V.taV_bd b
  have q0 := fun op t W x k => guard_ev op t W x k
  have q1 := fun W k => eql_ev W k
  have q2 := fun W k => neq_ev W k
  rw [h1] at HA
  rw [h2] at HB
  clear p0 z0 b0 he h V h1 h2
  generalize taV L a = va at *
  generalize taV L b = vb at *
  generalize taE L a = ea at *
  generalize taE L b = eb at *
  go_enter Tryd.func31, Tryd.ntmps31
  go_upto_region 1 with fail
  rw [← hW0]; clear hW0
  go_wp2_with fail
  refine HA.out.mono ?_
  rintro e w1 ⟨rfl, hb⟩
  have Q1 := Lib.hid hb
  have Z1 := Lib.hid (Z0.out.keep hb)
  have B1 := Lib.hid (B0.out.trans (hb.mono B0.out.size))
  clear hb c0 c1 c2 c3 c4 c5 c6 c7
  obtain ⟨c0, c1, c2, c3, c4, c5, c6, c7⟩ := Z1.out.all
  go_wp2_with fail
  refine (HB.out _ Q1.out).mono ?_
  rintro e w2 ⟨rfl, hb⟩
  have B2 := Lib.hid (B1.out.trans (hb.mono B1.out.size))
  clear hb c0 c1 c2 c3 c4 c5 c6 c7
  go_wp2_with fail
  go_ret2
  exact ⟨rfl, B2.out⟩

theorem between_any {lo : Nat} {w : World} {g : Nat} {L : List Rw} {u e : Int} (a b : Lb) (he : Ends w) (h : Tb lo w g L u e) (V : Vr L) :
    Calls Tryd.prog 31 #[.pointer (some ⟨g, 0, none⟩), .agg a.cells, .agg b.cells] w fun x w' => x = .returned (.tuple #[.int .i64 (bwV L a b), ev (bwE L a b)]) ∧ Below w.heap.size w w' := by
  unfold bwV bwE
  by_cases h1 : taE L a = 0
  · rw [if_pos h1, if_pos h1]
    by_cases h2 : taE L b = 0
    · rw [if_pos h2, h2]
      exact between_ok a b he h V h1 h2
    · rw [if_neg h2]
      exact between_second a b he h V h1 h2
  · rw [if_neg h1, if_neg h1]
    exact between_bad a b he h V h1

def exl12 : Lb := ⟨1972, 6, 30, 23, 59, 60, 0, 0⟩
set_option maxRecDepth 100000 in
set_option maxHeartbeats 2000000 in
theorem alive12_any (w : World) (he : Ends w) : Calls Tryd.prog 8 #[] w fun e w' => e = .returned (.bool true) ∧ Below w.heap.size w w' := by
  have q0 := fun op t W x k => guard_ev op t W x k
  have q1 := fun W k => eql_ev W k
  have q2 := fun W k => neq_ev W k
  obtain ⟨W0, hW0⟩ : ∃ W0, W0 = w.alloc (.cells #[.int .i64 730, .int .i64 10, .int .i64 912, .int .i64 11] 76) := ⟨_, rfl⟩
  have hb : Below w.heap.size w W0 := by rw [hW0]; exact bel_box w _
  have hl : W0.heap[w.heap.size]? = some (.cells #[.int .i64 730, .int .i64 10, .int .i64 912, .int .i64 11] 76 (0, 0)) := by rw [hW0]; exact heap_alloc_new w _
  have hr : Rp W0.heap.size W0 (some ⟨w.heap.size, 0, none⟩) exL := .inr ⟨_, 0, rfl, bk_lt hl, bk_lt hl, fun j hj => by
    rcases two_of hj with rfl | rfl
    · exact ⟨bk_cell hl 0, bk_cell hl 1⟩
    · exact ⟨bk_cell hl 2, bk_cell hl 3⟩⟩
  have HN := Lib.hid (new_some (some ⟨w.heap.size, 0, none⟩) 2 exL 5 9 W0 (he.below hb) (by decide) hr (fun h => by cases h) (by decide) (by decide) exL_ok)
  have V : Vr exL := (lkE_zero exL_ok).1
  have HV := Lib.hid V
  have HE := Lib.hid (he.below hb)
  have HT := Lib.hid (fun (lo g : Nat) (W : World) (h1 : Ends W) (h2 : Tb lo W g exL 5 9) => tai12_any exl12 h1 h2 V)
  rw [show taV exL exl12 = 78796810 by decide +kernel, show taE exL exl12 = 0 by decide +kernel] at HT
  have HB := Lib.hid hb
  clear hb hl hr V he
  go_enter Tryd.func8, Tryd.ntmps8
  go_wp2_with (first
    | (go_at_call 30; rw [← hW0]; refine HN.out.mono ?_; rintro e w1 ⟨g, rfl, hb, ht⟩; have B1 := Lib.hid (HB.out.trans (hb.mono HB.out.size)); have E1 := Lib.hid (HE.out.below hb); have T1 := Lib.hid ht; clear hb ht HN hW0)
    | (go_at_call 19; refine (HT.out _ _ _ E1.out T1.out).mono ?_; rintro e w2 ⟨rfl, hb⟩; have B2 := Lib.hid (B1.out.trans (hb.mono B1.out.size)); clear hb HT))
  go_ret
  exact ⟨rfl, B2.out⟩

theorem raw_new (w : World) (A : Option Addr) (n c : Nat) (u e : Int) : ∃ W0, W0 = w.alloc (.cells #[.slice A n c, .int .i64 u, .int .i64 e] 24) ∧ Below w.heap.size w W0 ∧ W0.heap.size = w.heap.size + 1 ∧ W0.heap[w.heap.size]? = some (.cells #[.slice A n c, .int .i64 u, .int .i64 e] 24 (0, 0)) := ⟨_, rfl, bel_box w _, by simp, heap_alloc_new w _⟩
set_option maxHeartbeats 1000000 in
theorem long10_any (A : Option Addr) (n c : Nat) (u e : Int) (w : World) : Calls Tryd.prog 9 #[.agg #[.slice A n c, .int .i64 u, .int .i64 e]] w fun x w' => x = .returned (.bool (decide (296 < n))) ∧ Below w.heap.size w w' := by
  obtain ⟨W0, hW0, b0, s0, g0⟩ := raw_new w A n c u e
  have c0 := bk_cell g0 0; have c1 := bk_cell g0 1; have c2 := bk_cell g0 2
  have HB := Lib.hid b0
  clear b0 s0 g0
  by_cases h : 296 < n
  · have hz : (296 : Int) < (n : Int) := by omega
    rw [decide_eq_true h]
    clear h
    go_enter Tryd.func9, Tryd.ntmps9
    go_upto_region 1 with fail
    rw [← hW0]; clear hW0
    go_wp2_with fail
    go_ret
    exact ⟨rfl, HB.out⟩
  · have hz : ¬ (296 : Int) < (n : Int) := by omega
    rw [decide_eq_false h]
    clear h
    go_enter Tryd.func9, Tryd.ntmps9
    go_upto_region 1 with fail
    rw [← hW0]; clear hW0
    go_wp2_with fail
    go_ret
    exact ⟨rfl, HB.out⟩

/-- The boxes of what a table is made of and of labels. -/
theorem rl_box (w : World) (A : Option Addr) (n c : Nat) (u e : Int) (l : Lb) : ∃ W1, W1 = (w.alloc (.cells #[.slice A n c, .int .i64 u, .int .i64 e] 24)).alloc (.cells l.cells 26) ∧ Below w.heap.size w W1 ∧ W1.heap.size = w.heap.size + 1 + 1 ∧
    W1.heap[w.heap.size]? = some (.cells #[.slice A n c, .int .i64 u, .int .i64 e] 24 (0, 0)) ∧ Lk 26 W1 (w.heap.size + 1) l := by
  obtain ⟨W0, hW0, b0, s0, g0⟩ := raw_new w A n c u e
  have b1 := bel_new W0 (.cells l.cells 26)
  have l1 := lk_new 26 W0 l
  rw [s0] at l1
  exact ⟨_, by rw [← hW0], b0.trans (b1.mono b0.size), by simp [s0], (b1.block _ (bk_lt g0)).trans g0, l1⟩
theorem rll_box (w : World) (A : Option Addr) (n c : Nat) (u e : Int) (a b : Lb) : ∃ W1, W1 = ((w.alloc (.cells #[.slice A n c, .int .i64 u, .int .i64 e] 24)).alloc (.cells a.cells 26)).alloc (.cells b.cells 26) ∧ Below w.heap.size w W1 ∧
    W1.heap[w.heap.size]? = some (.cells #[.slice A n c, .int .i64 u, .int .i64 e] 24 (0, 0)) ∧ Lk 26 W1 (w.heap.size + 1) a ∧ Lk 26 W1 (w.heap.size + 1 + 1) b := by
  obtain ⟨W0, hW0, b0, s0, g0, l0⟩ := rl_box w A n c u e a
  have b1 := bel_new W0 (.cells b.cells 26)
  have l1 := lk_new 26 W0 b
  rw [s0] at l1
  exact ⟨_, by rw [← hW0], b0.trans (b1.mono b0.size), (b1.block _ (bk_lt g0)).trans g0, l0.keep b1, l1⟩

end Go.Proofs.YtiamggjebaabkaaDoor
