/- Merged: ListL, LeapB. -/
import Derived.Test.YtdonicaiimeleaaGreatDoorGListParses17
import Derived.Test.YtdonicaiimeleaaGreatDoorGListParses14
import Derived.Test.YtdonicaiimeleaaGreatDoorGListParses15
import Derived.StillTailTactics
import Derived.Deep.DeepCutAuto
import Derived.Deep.CutRange
import Derived.Deep.CutBlock
import Derived.Deep.RegionHeld
import Derived.Deep.RegionHeld3
namespace Go.Proofs.YtdonicaiimeleaaGreatDoor
set_option linter.unusedVariables false
set_option linter.unusedSimpArgs false

theorem lnL_len (l : List UInt8) : (lnL l).length ≤ l.length + 1 := by
  have := lnS_len l l.length
  unfold lnL; split
  · rw [List.length_append]; simp; omega
  · omega
theorem lnS_all (l : List UInt8) : ∀ i, ∀ v ∈ (lnS l i).1, v.length ≤ l.length
  | 0 => by simp [lnS]
  | i + 1 => by
    have := lnS_all l i
    unfold lnS; split
    · intro v hv
      simp only [List.mem_append, List.mem_singleton] at hv
      rcases hv with hv | rfl
      · exact this v hv
      · rw [List.length_take, List.length_drop]; omega
    · exact this
theorem lnL_all (l : List UInt8) : ∀ v ∈ lnL l, v.length ≤ l.length := by
  have := lnS_all l l.length
  unfold lnL; split
  · intro v hv
    simp only [List.mem_append, List.mem_singleton] at hv
    rcases hv with hv | rfl
    · exact this v hv
    · rw [List.length_drop]; omega
  · exact this

/-- What has been read of the first K lines. -/
def alR (ls : List (List UInt8)) : Nat → Rd11
  | 0 => ⟨[], 0, 0, 0, 0, 0, 0, 0, 0, 0, 0⟩
  | K + 1 => nx11 (alR ls K) (ls.getD K [])
theorem nx_bd (r : Rd11) (l : List UInt8) (K : Nat) (h : r.L.length ≤ K ∧ 0 ≤ r.m ∧ r.m ≤ K ∧ 0 ≤ r.h ∧ r.h ≤ K ∧ 0 ≤ r.s) :
    (nx11 r l).L.length ≤ K + 1 ∧ 0 ≤ (nx11 r l).m ∧ (nx11 r l).m ≤ K + 1 ∧ 0 ≤ (nx11 r l).h ∧ (nx11 r l).h ≤ K + 1 ∧ 0 ≤ (nx11 r l).s := by
  obtain ⟨h1, h2, h3, h4, h5, h6⟩ := h
  unfold nx11
  split
  · exact ⟨by omega, by omega, by omega, by omega, by omega, by omega⟩
  split
  · exact ⟨by dsimp; omega, by dsimp; omega, by dsimp; omega, by dsimp; omega, by dsimp; omega, by dsimp; omega⟩
  split
  · exact ⟨by dsimp; omega, by dsimp; omega, by dsimp; omega, by dsimp; omega, by dsimp; omega, by dsimp; omega⟩
  split
  · exact ⟨by dsimp; omega, by dsimp; omega, by dsimp; omega, by dsimp; omega, by dsimp; omega, by dsimp; omega⟩
  split
  · exact ⟨by omega, by omega, by omega, by omega, by omega, by omega⟩
  · refine ⟨by dsimp; rw [List.length_append]; simp; omega, by dsimp; omega, by dsimp; omega, by dsimp; omega, by dsimp; omega, by dsimp; omega⟩
theorem al_bd (ls : List (List UInt8)) : ∀ K : Nat, (alR ls K).L.length ≤ K ∧ 0 ≤ (alR ls K).m ∧ (alR ls K).m ≤ K ∧ 0 ≤ (alR ls K).h ∧ (alR ls K).h ≤ K ∧ 0 ≤ (alR ls K).s
  | 0 => ⟨Nat.le_refl _, Int.le_refl _, Int.le_refl _, Int.le_refl _, Int.le_refl _, Int.le_refl _⟩
  | K + 1 => by
    have := nx_bd (alR ls K) (ls.getD K []) K (al_bd ls K)
    unfold alR
    exact_mod_cast this
/-- The first n lines are right. -/
def alG (ls : List (List UInt8)) (n : Nat) : Prop := ∀ j, j < n → on11 (alR ls j) (ls.getD j []) = 0

end Go.Proofs.YtdonicaiimeleaaGreatDoor

namespace Go.Proofs.YtdonicaiimeleaaGreatDoor
open Go.RowKit
set_option linter.unusedVariables false
set_option linter.unusedSimpArgs false

theorem istime_any (n : Int) (w : World) : Calls Tryz.prog 77 #[.int .i64 n] w fun e w' => e = .returned (.bool (!wt n)) ∧ w = w' := by
  unfold wt
  rcases (by omega : n < 0 ∨ (0 ≤ n ∧ n ≤ 1099511627776) ∨ (0 ≤ n ∧ 1099511627776 < n)) with a | ⟨a, b⟩ | ⟨a, b⟩
  · have h : ¬ (0 : Int) ≤ n := by omega
    rw [decide_eq_true a]
    go_enter Tryz.func77, Tryz.ntmps77
    go_wp2
    go_ret
    exact ⟨rfl, rfl⟩
  · rw [decide_eq_false (by omega : ¬ n < 0), decide_eq_false (by omega : ¬ 1099511627776 < n)]
    go_enter Tryz.func77, Tryz.ntmps77
    go_wp2
    go_ret
    exact ⟨rfl, rfl⟩
  · have h : ¬ n ≤ 1099511627776 := by omega
    rw [decide_eq_false (by omega : ¬ n < 0), decide_eq_true b]
    go_enter Tryz.func77, Tryz.ntmps77
    go_wp2
    go_ret
    exact ⟨rfl, rfl⟩

set_option maxHeartbeats 1000000 in
theorem isdated_any (n : Int) (w : World) (he : Ends w) : Calls Tryz.prog 74 #[.int .i64 n] w fun e w' => e = .returned (.bool (dtd n)) ∧ Below w.heap.size w w' := by
  have q0 := fun op t W x k => guard_ev op t W x k
  have q1 := fun W k => eql_ev W k
  by_cases h : n < -4371587 ∨ 2932896 < n
  · rw [dtd_no h]
    have HD := Lib.hid (date_none n w h)
    clear h he
    go_enter Tryz.func74, Tryz.ntmps74
    go_wp2_with (go_at_call 101; refine HD.out.mono ?_; rintro e w' ⟨rfl, rfl⟩)
    go_ret
    exact ⟨rfl, Below.refl _ _⟩
  · obtain ⟨y, m, d, hd⟩ := dt_some (n := n) (by omega) (by omega)
    rw [← dtd_year hd]
    have HD := Lib.hid (date_some n y m d w hd he)
    clear h he hd
    go_enter Tryz.func74, Tryz.ntmps74
    go_wp2_with (go_at_call 101; refine HD.out.mono ?_; rintro e w' ⟨rfl, hb⟩; have HB := Lib.hid hb; clear hb)
    go_ret
    exact ⟨rfl, HB.out⟩

open Classical in
theorem d1_no {n : Int} (h : n < -4371587 ∨ 2932896 < n) : d1 n = false := by
  unfold d1
  refine decide_eq_false ?_
  rintro ⟨y, m, hd⟩
  have := hd.range
  omega

set_option maxHeartbeats 1000000 in
theorem isfirst_any (n : Int) (w : World) (he : Ends w) : Calls Tryz.prog 76 #[.int .i64 n] w fun e w' => e = .returned (.bool (d1 n)) ∧ Below w.heap.size w w' := by
  have q0 := fun op t W x k => guard_ev op t W x k
  have q1 := fun W k => eql_ev W k
  by_cases h : n < -4371587 ∨ 2932896 < n
  · rw [d1_no h]
    have HD := Lib.hid (date_none n w h)
    clear h he
    go_enter Tryz.func76, Tryz.ntmps76
    go_wp2_with (go_at_call 101; refine HD.out.mono ?_; rintro e w' ⟨rfl, rfl⟩)
    go_ret
    exact ⟨rfl, Below.refl _ _⟩
  · obtain ⟨y, m, d, hd⟩ := dt_some (n := n) (by omega) (by omega)
    rw [d1_is hd]
    have HD := Lib.hid (date_some n y m d w hd he)
    clear h he hd
    go_enter Tryz.func76, Tryz.ntmps76
    go_wp2_with (go_at_call 101; refine HD.out.mono ?_; rintro e w' ⟨rfl, hb⟩; have HB := Lib.hid hb; clear hb)
    go_ret
    exact ⟨rfl, HB.out⟩

theorem bel_box (w : World) (o : Obj) : Below w.heap.size w (w.alloc o) := (Below.refl _ w).alloc (Nat.le_refl _) _
set_option maxHeartbeats 1000000 in
/-- Of a row: is its day not of the years that a table knows? -/
theorem check1_any (a b : Int) (w : World) (he : Ends w) : Calls Tryz.prog 73 #[.agg #[.int .i64 a, .int .i64 b]] w fun e w' => e = .returned (.bool (!dtd a)) ∧ Below w.heap.size w w' := by
  have hb0 := bel_box w (.cells #[.int .i64 a, .int .i64 b] 43)
  have HD := Lib.hid (isdated_any a _ (he.below hb0))
  have B0 := Lib.hid hb0
  clear he hb0
  generalize dtd a = x at *
  go_enter Tryz.func73, Tryz.ntmps73
  go_wp2_with (go_at_call 74; refine HD.out.mono ?_; rintro e w' ⟨rfl, hb⟩; have HB := Lib.hid (B0.out.trans (hb.mono B0.out.size)); clear hb)
  go_ret
  exact ⟨rfl, HB.out⟩

set_option maxHeartbeats 1000000 in
/-- Of a row: is its day not the first of a month, or its offset out of range? -/
theorem check2_any (a b : Int) (w : World) (he : Ends w) : Calls Tryz.prog 75 #[.agg #[.int .i64 a, .int .i64 b]] w fun e w' => e = .returned (.bool (!d1 a || (decide (b < 0) || decide (1000 < b)))) ∧ Below w.heap.size w w' := by
  obtain ⟨W0, hW0⟩ : ∃ W0, W0 = w.alloc (.cells #[.int .i64 a, .int .i64 b] 43) := ⟨_, rfl⟩
  have hb0 : Below w.heap.size w W0 := by rw [hW0]; exact bel_box w _
  have hl : W0.heap[w.heap.size]? = some (.cells #[.int .i64 a, .int .i64 b] 43 (0, 0)) := by rw [hW0]; exact heap_alloc_new w _
  have HD := Lib.hid (isfirst_any a W0 (he.below hb0))
  have c0 : W0.cell? ⟨w.heap.size, 0, none⟩ = some (.int .i64 a) := bk_cell hl 0
  have B0 := Lib.hid hb0
  have HL := Lib.hid hl
  clear he hb0 hl
  cases hx : d1 a with
  | false =>
    rw [hx] at HD
    clear hx
    go_enter Tryz.func75, Tryz.ntmps75
    go_upto_region 1 with fail
    rw [← hW0]; clear hW0
    go_wp2_with (go_at_call 76; refine HD.out.mono ?_; rintro e w' ⟨rfl, hb⟩; have HB := Lib.hid (B0.out.trans (hb.mono B0.out.size)); clear hb)
    go_ret
    exact ⟨rfl, HB.out⟩
  | true =>
    rw [hx] at HD
    clear hx
    go_enter Tryz.func75, Tryz.ntmps75
    go_upto_region 1 with fail
    rw [← hW0]; clear hW0
    go_wp2_with (go_at_call 76; refine HD.out.mono ?_; rintro e w' ⟨rfl, hb⟩; have HB := Lib.hid (B0.out.trans (hb.mono B0.out.size)); have c1 : w'.cell? ⟨w.heap.size, 1, none⟩ = some (.int .i64 b) := bk_cell ((hb.block _ (bk_lt HL.out)).trans HL.out) 1; clear hb)
    all_goals go_ret
    all_goals exact ⟨by first | rfl | simp_all, HB.out⟩

theorem misplaced_any (a b : Int) (w : World) : Calls Tryz.prog 78 #[.agg #[.int .i64 a, .int .i64 b]] w fun e w' => e = .returned (.func (.func 102) #[] #[.pointer (some ⟨w.heap.size, 0, none⟩)]) ∧ w' = w.alloc (.cells #[.int .i64 a, .int .i64 b] 43) := by
  go_enter Tryz.func78, Tryz.ntmps78
  go_wp2
  go_ret
  exact ⟨rfl, rfl⟩


set_option maxHeartbeats 2000000 in
/-- Of a row behind another one: can it not follow that? The row takes the other's place. -/
theorem misplaced1_any (a b x y : Int) (g : Nat) (w : World) (hg : w.heap[g]? = some (.cells #[.int .i64 a, .int .i64 b] 43 (0, 0))) (hb : 0 ≤ b ∧ b ≤ 1000) (hy : 0 ≤ y ∧ y ≤ 1000) :
    Calls Tryz.prog 102 #[.agg #[.int .i64 x, .int .i64 y], .pointer (some ⟨g, 0, none⟩)] w fun e w' => e = .returned (.bool (pr a b x y)) ∧ Below g w w' ∧ w'.heap[g]? = some (.cells #[.int .i64 x, .int .i64 y] 43 (0, 0)) := by
  have hlt := bk_lt hg
  obtain ⟨W0, hW0⟩ : ∃ W0, W0 = w.alloc (.cells #[.int .i64 x, .int .i64 y] 43) := ⟨_, rfl⟩
  have hb0 : Below w.heap.size w W0 := by rw [hW0]; exact bel_box w _
  have hl : W0.heap[w.heap.size]? = some (.cells #[.int .i64 x, .int .i64 y] 43 (0, 0)) := by rw [hW0]; exact heap_alloc_new w _
  have hg0 : W0.heap[g]? = some (.cells #[.int .i64 a, .int .i64 b] 43 (0, 0)) := (hb0.block g hlt).trans hg
  have hs0 : W0.heap.size = w.heap.size + 1 := by rw [hW0]; simp
  obtain ⟨W1, hW1⟩ : ∃ W1, W1 = W0.alloc (.cells #[.int .i64 a, .int .i64 b] 43) := ⟨_, rfl⟩
  have hb1 : Below W0.heap.size W0 W1 := by rw [hW1]; exact bel_box W0 _
  have hl1 : W1.heap[W0.heap.size]? = some (.cells #[.int .i64 a, .int .i64 b] 43 (0, 0)) := by rw [hW1]; exact heap_alloc_new W0 _
  obtain ⟨W2, hW2⟩ : ∃ W2, W2 = (W1.setCell ⟨g, 0, none⟩ (.int .i64 x)).setCell ⟨g, 1, none⟩ (.int .i64 y) := ⟨_, rfl⟩
  have hg1 : W1.heap[g]? = some (.cells #[.int .i64 a, .int .i64 b] 43 (0, 0)) := (hb1.block g (by omega)).trans hg0
  have hg2 : W2.heap[g]? = some (.cells #[.int .i64 x, .int .i64 y] 43 (0, 0)) := by rw [hW2]; exact bk_set (bk_set hg1 0 _) 1 _
  have B2 : Below g w W2 := by
    rw [hW2]
    exact (((hb0.mono (Nat.le_of_lt hlt)).trans (hb1.mono (by omega))).setCell (Nat.le_refl _) _).setCell (Nat.le_refl _) _
  have oth : ∀ k i, k ≠ g → W2.cell? ⟨k, i, none⟩ = W1.cell? ⟨k, i, none⟩ := fun k i hk => by rw [hW2, World.cell?_setCell_far _ _ _ _ (fun e => hk e.symm), World.cell?_setCell_far _ _ _ _ (fun e => hk e.symm)]
  have c0 : W1.cell? ⟨w.heap.size, 0, none⟩ = some (.int .i64 x) := (hb1.cell (p := ⟨w.heap.size, 0, none⟩) (by omega : w.heap.size < W0.heap.size)).trans (bk_cell hl 0)
  have c1 : W1.cell? ⟨w.heap.size, 1, none⟩ = some (.int .i64 y) := (hb1.cell (p := ⟨w.heap.size, 1, none⟩) (by omega : w.heap.size < W0.heap.size)).trans (bk_cell hl 1)
  have d0 : W1.cell? ⟨g, 0, none⟩ = some (.int .i64 a) := bk_cell hg1 0
  have d1 : W1.cell? ⟨g, 1, none⟩ = some (.int .i64 b) := bk_cell hg1 1
  have f0 := bk_free hg1 0
  have f1 := bk_free hg1 1
  have e0 : W2.cell? ⟨W0.heap.size, 0, none⟩ = some (.int .i64 a) := (oth W0.heap.size 0 (by omega)).trans (bk_cell hl1 0)
  have e1 : W2.cell? ⟨W0.heap.size, 1, none⟩ = some (.int .i64 b) := (oth W0.heap.size 1 (by omega)).trans (bk_cell hl1 1)
  have x0 : W2.cell? ⟨w.heap.size, 0, none⟩ = some (.int .i64 x) := (oth w.heap.size 0 (by omega)).trans c0
  have x1 : W2.cell? ⟨w.heap.size, 1, none⟩ = some (.int .i64 y) := (oth w.heap.size 1 (by omega)).trans c1
  have g0 : W0.cell? ⟨g, 0, none⟩ = some (.int .i64 a) := bk_cell hg0 0
  have g1 : W0.cell? ⟨g, 1, none⟩ = some (.int .i64 b) := bk_cell hg0 1
  have HE := Lib.hid B2; have HG := Lib.hid hg2
  have s1 : IntKind.i64.wrap (y - b) = y - b := IntWalk.i64_in _ (by omega)
  have h0 : W0.cell? ⟨w.heap.size, 0, none⟩ = some (.int .i64 x) := bk_cell hl 0
  clear oth hg hlt hb0 hl hg0 hs0 hb1 hl1 hg1 hg2 B2 hb hy
  go_enter Tryz.func102, Tryz.ntmps102
  have HW1 := Lib.hid hW1; have HW2 := Lib.hid hW2
  clear hW1 hW2
  go_upto_region 1 with fail
  rw [← hW0]
  clear hW0
  go_upto_region 2 with fail
  rw [← HW1.out]
  clear HW1 h0 g0 g1
  go_upto_region 3 with fail
  rw [← HW2.out]
  clear HW2 c0 c1 d0 d1 f0 f1
  go_wp2
  all_goals go_ret
  all_goals refine ⟨ret1_eq (bool_eq ?_), HE.out, HG.out⟩
  all_goals clear e0 e1 x0 x1 HE HG s1
  all_goals unfold pr
  all_goals (by_cases k1 : y - b = 1 <;> by_cases k2 : y - b = -1 <;> simp_all)

open Classical in
set_option maxHeartbeats 4000000 in
set_option maxRecDepth 100000 in
theorem check_any (A : Option Addr) (c : Nat) (L : List Rw) (u e : Int) (w : World) (he : Ends w) (hn : L.length < 1000000) (hr : Rp w.heap.size w A L) (hc : L.length ≤ c) (hm : c ≤ maxLen) :
    Calls Tryz.prog 48 #[.slice A L.length c, .int .i64 u, .int .i64 e] w fun x w' => x = .returned (ev (lkE L u e)) ∧ Below w.heap.size w w' := by
  by_cases h0 : L.length = 0
  · have hz : (L.length : Int) = 0 := by omega
    rw [show lkE L u e = 8 by unfold lkE; rw [if_pos h0], ev_pos (by decide)]
    clear h0
    go_enter Tryz.func48, Tryz.ntmps48
    go_wp2
    go_ret
    exact ⟨rfl, Below.refl _ _⟩
  have hz : ¬ (L.length : Int) = 0 := by omega
  by_cases h1 : 256 < L.length
  · have hy : (L.length : Int) > 256 := by omega
    rw [show lkE L u e = 3 by unfold lkE; rw [if_neg h0, if_pos h1], ev_pos (by decide)]
    clear h0 h1
    go_enter Tryz.func48, Tryz.ntmps48
    go_wp2
    go_ret
    exact ⟨rfl, Below.refl _ _⟩
  have hy : ¬ (L.length : Int) > 256 := by omega
  have k1 := contains_any 73 #[] w.heap.size A c L (fun _ _ => True) (w1 L) w (enters_of Tryz.func73 (by kernel_rfl) rfl) (by omega) hr (Nat.le_refl _) trivial
    (fun j W hj _ hb => (check1_any (rd L j) (ro L j) W (he.below hb)).mono fun _ _ h => ⟨h.1, hb.trans (h.2.mono hb.size), fun _ => trivial⟩)
  have k2 := fun (w1 : World) (hb1 : Below w.heap.size w w1) => contains_any 75 #[] w.heap.size A c L (fun _ _ => True) (w2 L) w1 (enters_of Tryz.func75 (by kernel_rfl) rfl) (by omega) (hr.below hb1) hb1.size trivial
    (fun j W hj _ hb => (check2_any (rd L j) (ro L j) W (he.below (hb1.trans hb))).mono fun _ _ h => ⟨h.1, hb.trans (h.2.mono (Nat.le_trans hb1.size hb.size)), fun _ => trivial⟩)
  by_cases h2 : ∃ j, j < L.length ∧ w1 L j = true
  · rw [decide_eq_true h2] at k1
    have HK1 := Lib.hid k1
    rw [show lkE L u e = 13 by unfold lkE; rw [if_neg h0, if_neg h1, if_pos h2], ev_pos (by decide)]
    clear h0 h1 h2 k1 k2 he hr
    go_enter Tryz.func48, Tryz.ntmps48
    go_wp2_with (first
        | (go_at_call 72; refine HK1.out.mono ?_; rintro e w1 ⟨rfl, hb⟩; have B1 := Lib.hid hb; clear hb HK1))
    go_ret
    exact ⟨rfl, B1.out⟩
  rw [decide_eq_false h2] at k1
  have HK1 := Lib.hid k1
  by_cases h3 : ∃ j, j < L.length ∧ w2 L j = true
  · rw [decide_eq_true h3] at k2
    have HK2 := Lib.hid k2
    rw [show lkE L u e = 1 by unfold lkE; rw [if_neg h0, if_neg h1, if_neg h2, if_pos h3], ev_pos (by decide)]
    clear h0 h1 h2 h3 k1 k2 he hr
    go_enter Tryz.func48, Tryz.ntmps48
    go_wp2_with (first
        | (go_at_call 72; refine HK1.out.mono ?_; rintro e w1 ⟨rfl, hb⟩; have B1 := Lib.hid hb; clear hb HK1)
        | (go_at_call 72; refine (HK2.out _ B1.out).mono ?_; rintro e w2 ⟨rfl, hb⟩; have B2 := Lib.hid (B1.out.trans hb); clear hb HK2))
    go_ret
    exact ⟨rfl, B2.out⟩
  rw [decide_eq_false h3] at k2
  have HK2 := Lib.hid k2
  have hU := fun w => istime_any u w
  have hE := fun w => istime_any e w
  by_cases h4 : wt u = true ∨ wt e = true
  · rw [show lkE L u e = 1 by unfold lkE; rw [if_neg h0, if_neg h1, if_neg h2, if_neg h3, if_pos h4], ev_pos (by decide)]
    cases ku : wt u with
    | true =>
      rw [ku] at hU
      clear h0 h1 h2 h3 h4 k1 k2 he hr hE ku
      have HU := Lib.hid hU; clear hU
      go_enter Tryz.func48, Tryz.ntmps48
      go_wp2_with (first
          | (go_at_call 72; refine HK1.out.mono ?_; rintro e w1 ⟨rfl, hb⟩; have B1 := Lib.hid hb; clear hb HK1)
          | (go_at_call 72; refine (HK2.out _ B1.out).mono ?_; rintro e w2 ⟨rfl, hb⟩; have B2 := Lib.hid (B1.out.trans hb); clear hb HK2)
          | (go_at_call 77; refine (HU.out _).mono ?_; rintro e w3 ⟨rfl, rfl⟩; clear HU))
      go_ret
      exact ⟨rfl, B2.out⟩
    | false =>
      have ke : wt e = true := by rcases h4 with h | h; (rw [ku] at h; cases h); exact h
      rw [ku] at hU
      rw [ke] at hE
      clear h0 h1 h2 h3 h4 k1 k2 he hr ku ke
      have HU := Lib.hid hU; have HE := Lib.hid hE; clear hU hE
      go_enter Tryz.func48, Tryz.ntmps48
      go_wp2_with (first
          | (go_at_call 72; refine HK1.out.mono ?_; rintro e w1 ⟨rfl, hb⟩; have B1 := Lib.hid hb; clear hb HK1)
          | (go_at_call 72; refine (HK2.out _ B1.out).mono ?_; rintro e w2 ⟨rfl, hb⟩; have B2 := Lib.hid (B1.out.trans hb); clear hb HK2)
          | (go_at_call 77; refine (HU.out _).mono ?_; rintro e w3 ⟨rfl, rfl⟩; clear HU)
          | (go_at_call 77; refine (HE.out _).mono ?_; rintro e w3 ⟨rfl, rfl⟩; clear HE))
      go_ret
      exact ⟨rfl, B2.out⟩
  have ku : wt u = false := by
    cases ku : wt u with
    | true => exact absurd (Or.inl ku) h4
    | false => rfl
  have ke : wt e = false := by
    cases ke : wt e with
    | true => exact absurd (Or.inr ke) h4
    | false => rfl
  rw [ku] at hU
  rw [ke] at hE
  have ho : ∀ j, j < L.length → 0 ≤ ro L j ∧ ro L j ≤ 1000 := fun j hj => by
    have : w2 L j = false := by
      cases hw : w2 L j with
      | true => exact absurd ⟨j, hj, hw⟩ h3
      | false => rfl
    unfold w2 at this
    simp at this
    omega
  obtain ⟨b, off, rfl, hb1, hb2, hcell⟩ := hr.pos (by omega)
  obtain ⟨n, hN⟩ : ∃ n, L.length = n + 1 := ⟨L.length - 1, by omega⟩
  obtain ⟨m, rfl⟩ : ∃ m, c = m + 1 := ⟨c - 1, by omega⟩
  have hnm : n ≤ m := by omega
  have k3 := fun (W : World) (g : Nat) (A' : Option Addr) (hA' : Rp w.heap.size w A' (L.drop 1)) (hW : Below w.heap.size w W) (hge : w.heap.size ≤ g) (hg : W.heap[g]? = some (.cells #[.int .i64 (rd L 0), .int .i64 (ro L 0)] 43 (0, 0))) =>
    contains_any 102 #[.pointer (some ⟨g, 0, none⟩)] w.heap.size A' m (L.drop 1) (fun j W => W.heap[g]? = some (.cells #[.int .i64 (rd L j), .int .i64 (ro L j)] 43 (0, 0))) (w3 L) W (enters_of Tryz.func102 (by kernel_rfl) rfl) (by simp; omega) (hA'.below hW) hW.size hg
    (fun j W' hj hI hb => by
      have hj' : j + 1 < L.length := by simp at hj; omega
      have := misplaced1_any (rd L j) (ro L j) (rd L (j + 1)) (ro L (j + 1)) g W' hI (ho j (by omega)) (ho (j + 1) hj')
      rw [show rv (L.drop 1) j = .agg #[.int .i64 (rd L (j + 1)), .int .i64 (ro L (j + 1))] by unfold rv; rw [rd_drop, ro_drop, Nat.add_comm]]
      exact this.mono fun _ _ h => ⟨h.1, hb.trans (h.2.1.mono hge), fun _ => h.2.2⟩)
  rw [show (L.drop 1).length = n by simp; omega] at k3
  obtain ⟨q, hq, hl⟩ : ∃ q : Bool, decide (∃ j, j < n ∧ w3 L j = true) = q ∧ lkE L u e = if q = true then 6 else 0 := by
    refine ⟨_, rfl, ?_⟩
    unfold lkE
    rw [if_neg h0, if_neg h1, if_neg h2, if_neg h3, if_neg h4, hN]
    simp
  rw [hq] at k3
  rw [hl]
  obtain ⟨c0, c1⟩ := hcell 0 (by omega)
  have hA2 : Rp w.heap.size w (if m = 0 then some ⟨b, off, none⟩ else some ⟨b, off + 2, none⟩) (L.drop 1) := by
    split
    · exact .inl (List.eq_nil_of_length_eq_zero (by simp; omega))
    · exact hr.drop 1
  have HA2 := Lib.hid hA2
  have HK3 := Lib.hid k3; have HU := Lib.hid hU; have HE := Lib.hid hE
  have C0 := Lib.hid c0; have C1 := Lib.hid c1; have HB := Lib.hid hb1
  rw [hN] at hz hy HK1 HK2 ⊢
  clear h0 h1 h2 h3 h4 k1 k2 he hr ku ke hU hE k3 hcell hA2 c0 c1 hb1 hb2 ho hq hl hn hN
  go_enter Tryz.func48, Tryz.ntmps48
  go_wp2_with (first
      | (go_at_call 72; refine HK1.out.mono ?_; rintro e w1 ⟨rfl, hb⟩; have B1 := Lib.hid hb; clear hb HK1)
      | (go_at_call 72; refine (HK2.out _ B1.out).mono ?_; rintro e w2 ⟨rfl, hb⟩; have B2 := Lib.hid (B1.out.trans hb); clear hb HK2)
      | (go_at_call 77; refine (HU.out _).mono ?_; rintro e w3 ⟨rfl, rfl⟩; clear HU)
      | (go_at_call 77; refine (HE.out _).mono ?_; rintro e w3 ⟨rfl, rfl⟩; clear HE))
  obtain ⟨w3, hw3⟩ : ∃ w3, w3 = w2.drew := ⟨_, rfl⟩
  have B3 : Hid (Below w.heap.size w w3) := Lib.hid (by rw [hw3]; exact B2.out.drew)
  have c0 : w3.cell? ⟨b, off, none⟩ = some (.int .i64 (rd L 0)) := (B3.out.cell (p := ⟨b, off, none⟩) HB.out).trans (by simpa using C0.out)
  have c1 : w3.cell? ⟨b, off + 1, none⟩ = some (.int .i64 (ro L 0)) := (B3.out.cell (p := ⟨b, off + 1, none⟩) HB.out).trans (by simpa using C1.out)
  have SS : ∀ w', Below w.heap.size w w' → w'.cell? ⟨b, off, none⟩ = some (.int .i64 (rd L 0)) ∧ w'.cell? ⟨b, off + 1, none⟩ = some (.int .i64 (ro L 0)) ∧ Below w.heap.size w w' := fun w' h =>
    ⟨(h.cell (p := ⟨b, off, none⟩) HB.out).trans (by simpa using C0.out), (h.cell (p := ⟨b, off + 1, none⟩) HB.out).trans (by simpa using C1.out), h⟩
  have HS := Lib.hid SS
  have G0 := Lib.hid (SS _ B3.out)
  clear SS c0 c1
  have hp1 : (1 : Int) ≤ (n : Int) + 1 := by omega
  have hp0 : (0 : Int) < (n : Int) + 1 := by omega
  rw [hw3] at G0 B3
  clear hw3 w3 B1 B2 C0 C1
  refine wp_region_held_drew (S := fun w' => w'.cell? ⟨b, off, none⟩ = some (.int .i64 (rd L 0)) ∧ w'.cell? ⟨b, off + 1, none⟩ = some (.int .i64 (ro L 0)) ∧ Below w.heap.size w w') (by kernel_rfl) G0.out (fun hHeld => ?_)
  refine wpAnyH_take (i := 0) (v := .slice (some ⟨b, off, none⟩) (n + 1) (m + 1)) rfl (by kernel_rfl) (by kernel_rfl) (by kernel_rfl) (fun _ _ _ h => h) (Or.inl ⟨by rfl, fun w hSw => by go_simp⟩) hHeld ?_
  try simp only [Act.put, List.setIfInBounds_toArray, List.set_cons_zero, List.set_cons_succ]
  refine wpAnyH_take (i := 1) (v := .slice (if m = 0 then some ⟨b, off, none⟩ else some ⟨b, off + 2, none⟩) n m) rfl (by kernel_rfl) (by kernel_rfl) (by kernel_rfl) (fun _ _ _ h => h) (Or.inl ⟨by rfl, fun w hSw => by go_simp⟩) hHeld ?_
  try simp only [Act.put, List.setIfInBounds_toArray, List.set_cons_zero, List.set_cons_succ]
  refine wpAnyH_take (i := 2) (v := .slice (some ⟨b, off, none⟩) (n + 1) (m + 1)) rfl (by kernel_rfl) (by kernel_rfl) (by kernel_rfl) (fun _ _ _ h => h) (Or.inl ⟨by rfl, fun w hSw => by go_simp⟩) hHeld ?_
  try simp only [Act.put, List.setIfInBounds_toArray, List.set_cons_zero, List.set_cons_succ]
  refine wpAnyH_take (i := 3) (v := .pointer (some ⟨b, off, none⟩)) rfl (by kernel_rfl) (by kernel_rfl) (by kernel_rfl) (fun _ _ _ h => h) (Or.inl ⟨by rfl, fun w hSw => by go_simp⟩) hHeld ?_
  try simp only [Act.put, List.setIfInBounds_toArray, List.set_cons_zero, List.set_cons_succ]
  refine wpAnyH_take (i := 4) (v := .agg #[.int .i64 (rd L 0), .int .i64 (ro L 0)]) rfl (by kernel_rfl) (by kernel_rfl) (by kernel_rfl) (fun _ _ _ h => h) (Or.inl ⟨by rfl, fun w hSw => by obtain ⟨c0, c1, -⟩ := hSw; go_simp⟩) hHeld ?_
  try simp only [Act.put, List.setIfInBounds_toArray, List.set_cons_zero, List.set_cons_succ]
  refine wpAnyH_ready (rs := [5]) (by kernel_rfl) (by simp) ?_
  refine AllReadyH.cons rfl (fun K hK => ?_) AllReadyH.nil
  go_simp
  obtain ⟨w3, hw3⟩ : ∃ w3, w3 = w2.drew := ⟨_, rfl⟩
  rw [← hw3] at B3 ⊢
  clear hw3
  have hb4 := bel_box w3 (.cells #[.int .i64 (rd L 0), .int .i64 (ro L 0)] 43)
  have HK := Lib.hid (HK3.out _ _ _ HA2.out (B3.out.trans (hb4.mono B3.out.size)) B3.out.size (heap_alloc_new w3 _))
  have B4 := Lib.hid (B3.out.trans (hb4.mono B3.out.size))
  have G1 := Lib.hid (HS.out _ B4.out)
  clear HK3 hb4
  go_at_call 78
  refine (misplaced_any _ _ _).mono ?_
  rintro e w4 ⟨rfl, rfl⟩
  refine hK.out _ _ G1.out (fun hHeld => ?_)
  clear hK K
  try simp only [Act.put, List.setIfInBounds_toArray, List.set_cons_zero, List.set_cons_succ]
  refine wpAnyH_ready (rs := [6]) (by kernel_rfl) (by simp) ?_
  refine AllReadyH.cons rfl (fun K hK => ?_) AllReadyH.nil
  go_simp
  go_at_call 72
  refine HK.out.mono ?_
  rintro e w5 ⟨rfl, hb⟩
  have B5 := Lib.hid (B4.out.trans hb)
  have G2 := Lib.hid (HS.out _ B5.out)
  clear hb HK
  refine hK.out _ _ G2.out (fun hHeld => ?_)
  clear hK K
  try simp only [Act.put, List.setIfInBounds_toArray, List.set_cons_zero, List.set_cons_succ]
  refine wpAnyH_take (i := 7) (v := .bool q) rfl (by kernel_rfl) (by kernel_rfl) (by kernel_rfl) (fun _ _ _ h => h) (Or.inl ⟨by rfl, fun w hSw => by go_simp⟩) hHeld ?_
  try simp only [Act.put, List.setIfInBounds_toArray, List.set_cons_zero, List.set_cons_succ]
  refine wpAnyH_done (by kernel_rfl) ?_ _
  cases q with
  | true =>
    go_wp2
    all_goals go_ret
    all_goals exact ⟨rfl, B5.out⟩
  | false =>
    go_wp2
    all_goals go_ret
    all_goals exact ⟨rfl, B5.out⟩

set_option maxHeartbeats 2000000 in
/-- A table behind a pointer: its block at lo or above, its rows too. -/
def Tb (lo : Nat) (w : World) (g : Nat) (L : List Rw) (u e : Int) : Prop :=
  lo ≤ g ∧ ∃ A c, w.heap[g]? = some (.cells #[.slice A L.length c, .int .i64 u, .int .i64 e] 93 (0, 0)) ∧ Rp w.heap.size w A L ∧ (A = none → c = 0 ∧ L = []) ∧ ∀ b off, A = some ⟨b, off, none⟩ → lo ≤ b
theorem new_no (A : Option Addr) (c : Nat) (L : List Rw) (u e : Int) (w : World) (he : Ends w) (hn : L.length < 1000000) (hr : Rp w.heap.size w A L) (hc : L.length ≤ c) (hm : c ≤ maxLen) (h : lkE L u e ≠ 0) :
    Calls Tryz.prog 26 #[.slice A L.length c, .int .i64 u, .int .i64 e] w fun x w' => x = .returned (.tuple #[.pointer none, ev (lkE L u e)]) ∧ Below w.heap.size w w' := by
  have q0 := fun op t W x k => guard_ev op t W x k
  have q2 := fun W k => neq_ev W k
  have HC := Lib.hid (check_any A c L u e w he hn hr hc hm)
  generalize lkE L u e = k at *
  have hb : (k != 0) = true := bne_iff_ne.mpr h
  clear he hn hr hc hm h
  go_enter Tryz.func26, Tryz.ntmps26
  go_wp2_with (go_at_call 48; refine HC.out.mono ?_; rintro e w1 ⟨rfl, hb⟩; have B1 := Lib.hid hb; clear hb)
  go_ret2
  exact ⟨rfl, B1.out⟩
set_option maxHeartbeats 2000000 in
theorem new_some (A : Option Addr) (c : Nat) (L : List Rw) (u e : Int) (w : World) (he : Ends w) (hn : L.length ≤ 100000) (hr : Rp w.heap.size w A L) (hA : A = none → c = 0 ∧ L = []) (hc : L.length ≤ c) (hm : c ≤ maxLen) (h : lkE L u e = 0) :
    Calls Tryz.prog 26 #[.slice A L.length c, .int .i64 u, .int .i64 e] w fun x w' => ∃ g, x = .returned (.tuple #[.pointer (some ⟨g, 0, none⟩), ev 0]) ∧ Below w.heap.size w w' ∧ Tb w.heap.size w' g L u e := by
  have q0 := fun op t W x k => guard_ev op t W x k
  have q2 := fun W k => neq_ev W k
  have hC := check_any A c L u e w he (by omega) hr hc hm
  rw [h] at hC
  have HC := Lib.hid hC
  have HR := Lib.hid hr; have HA := Lib.hid hA; have HN := Lib.hid hn
  clear he hn hr hA hc hm h hC
  go_enter Tryz.func26, Tryz.ntmps26
  obtain ⟨N, hN⟩ : ∃ N, N = L.length := ⟨_, rfl⟩
  have HL := Lib.hid hN
  have HCl := Lib.hid (fun (W : World) (h : Below w.heap.size w W) => clone_any A c L W HN.out ((HR.out.below h).low) HA.out)
  rw [← hN] at HC HCl ⊢
  clear hN
  go_wp2_with (first
    | (go_at_call 48; refine HC.out.mono ?_; rintro e w1 ⟨rfl, hb⟩; have B1 := Lib.hid hb; clear hb HC)
    | (go_at_call 39; refine (HCl.out _ B1.out).mono ?_; rintro e w2 ⟨v, rfl, hv, hb⟩; obtain ⟨A', c', rfl, hV⟩ := hv.reads; rw [← HL.out] at hV ⊢; have V := Lib.hid hV; have B2 := Lib.hid (B1.out.trans (hb.mono B1.out.size)); have S1 := Lib.hid B1.out.size; clear hb hv hV HCl))
  all_goals go_ret2
  obtain ⟨r, rA, rc, rm, rb⟩ := V.out
  have hb3 := bel_box w2 (.cells #[.slice A' N c', .int .i64 u, .int .i64 e] 93)
  refine ⟨w2.heap.size, rfl, B2.out.trans (hb3.mono B2.out.size), B2.out.size, A', c', by rw [← HL.out]; exact heap_alloc_new w2 _, (r.keep hb3).low, rA, fun b off hA => ?_⟩
  have := (rb b off hA).1
  have := S1.out
  omega
end Go.Proofs.YtdonicaiimeleaaGreatDoor
