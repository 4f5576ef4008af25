/- Package leap: Leap, Length, Has, Row, Same. -/
import Derived.Test.YtiamggjebaabkaaDoorLeapD
namespace Go.Proofs.YtiamggjebaabkaaDoor
open Go.RowKit
set_option linter.unusedVariables false
set_option linter.unusedSimpArgs false

set_option maxHeartbeats 1000000 in
theorem leapday_any {lo : Nat} {w : World} {v : Value} {L : List Rw} {u e : Int} (n : Int) (h : Tv lo w v L u e) (hV : Vx L) :
    Calls Tryd.prog 90 #[v, .int .i64 n] w fun x w' => x = .returned (.int .i64 (lpN L n)) ∧ Below w.heap.size w w' := by
  have hN := next_any n h hV
  rw [lpN_is]
  clear h hV
  generalize nxD L n = d at *
  generalize nxK L n = k at *
  cases hb : nxB L n with
  | false =>
    rw [hb] at hN
    have HN := Lib.hid hN
    rw [if_pos (.inl rfl)]
    clear hN hb
    go_enter Tryd.func90, Tryd.ntmps90
    go_wp2_with (go_at_call 107; refine HN.out.mono ?_; rintro e w1 ⟨rfl, hb⟩; have B1 := Lib.hid hb; clear hb)
    go_ret
    exact ⟨rfl, B1.out⟩
  | true =>
    rw [hb] at hN
    have HN := Lib.hid hN
    clear hN hb
    by_cases c : d = n
    · subst c
      rw [if_neg (by simp)]
      go_enter Tryd.func90, Tryd.ntmps90
      go_wp2_with (go_at_call 107; refine HN.out.mono ?_; rintro e w1 ⟨rfl, hb⟩; have B1 := Lib.hid hb; clear hb)
      go_ret
      exact ⟨rfl, B1.out⟩
    · rw [if_pos (.inr c)]
      go_enter Tryd.func90, Tryd.ntmps90
      go_wp2_with (go_at_call 107; refine HN.out.mono ?_; rintro e w1 ⟨rfl, hb⟩; have B1 := Lib.hid hb; clear hb)
      go_ret
      exact ⟨rfl, B1.out⟩

theorem length_any {lo : Nat} {w : World} {v : Value} {L : List Rw} {u e : Int} (n : Int) (h : Tv lo w v L u e) (hV : Vx L) :
    Calls Tryd.prog 67 #[v, .int .i64 n] w fun x w' => x = .returned (.int .i64 (86400 + lpN L n)) ∧ Below w.heap.size w w' := by
  have HN := Lib.hid (leapday_any n h hV)
  have hb := (hV.bd n).2
  have hb1 : -1 ≤ lpN L n := by omega
  have hb2 : lpN L n ≤ 1 := by omega
  clear h hV hb
  generalize lpN L n = k at *
  go_enter Tryd.func67, Tryd.ntmps67
  go_wp2_with (go_at_call 90; refine HN.out.mono ?_; rintro e w1 ⟨rfl, hb⟩; have B1 := Lib.hid hb; clear hb)
  go_ret
  exact ⟨rfl, B1.out⟩

theorem has_any {lo : Nat} {w : World} {v : Value} {L : List Rw} {u e : Int} (n s : Int) (h : Tv lo w v L u e) (hV : Vx L) :
    Calls Tryd.prog 43 #[v, .int .i64 n, .int .i64 s] w fun x w' => x = .returned (.bool (decide (0 ≤ s) && decide (s < 86400 + lpN L n))) ∧ Below w.heap.size w w' := by
  have HN := Lib.hid (length_any n h hV)
  clear h hV
  generalize 86400 + lpN L n = k at *
  by_cases c : 0 ≤ s
  · rw [decide_eq_true c, Bool.true_and]
    go_enter Tryd.func43, Tryd.ntmps43
    go_wp2_with (go_at_call 67; refine HN.out.mono ?_; rintro e w1 ⟨rfl, hb⟩; have B1 := Lib.hid hb; clear hb)
    go_ret
    exact ⟨rfl, B1.out⟩
  · have c' : ¬ s ≥ 0 := c
    rw [decide_eq_false c, Bool.false_and]
    go_enter Tryd.func43, Tryd.ntmps43
    go_wp2
    go_ret
    exact ⟨rfl, Below.refl _ _⟩

/-- What Row answers. -/
def rwB (L : List Rw) (i : Int) : Bool := decide (0 ≤ i ∧ i < L.length)
def rwD (L : List Rw) (i : Int) : Int := if 0 ≤ i ∧ i < L.length then rd L i.toNat else 0
def rwO (L : List Rw) (i : Int) : Int := if 0 ≤ i ∧ i < L.length then ro L i.toNat else 0
set_option maxHeartbeats 2000000 in
theorem row_any {lo : Nat} {w : World} {v : Value} {L : List Rw} {u e : Int} (i : Int) (h : Tv lo w v L u e) :
    Calls Tryd.prog 96 #[v, .int .i64 i] w fun x w' => x = .returned (.tuple #[.agg #[.int .i64 (rwD L i), .int .i64 (rwO L i)], .bool (rwB L i)]) ∧ Below w.heap.size w w' := by
  obtain ⟨W0, hW0⟩ : ∃ W0, W0 = w.alloc (.cells #[.int .i64 0, .int .i64 0] 76) := ⟨_, rfl⟩
  have b0 : Below w.heap.size w W0 := by rw [hW0]; exact bel_box w _
  have h0 : W0.heap[w.heap.size]? = some (.cells #[.int .i64 0, .int .i64 0] 76 (0, 0)) := by rw [hW0]; exact heap_alloc_new w _
  obtain ⟨A, c, r, -, -, ha⟩ := (h.below b0).all
  have c0 : W0.cell? ⟨w.heap.size, 0, none⟩ = some (.int .i64 0) := bk_cell h0 0
  have c1 : W0.cell? ⟨w.heap.size, 1, none⟩ = some (.int .i64 0) := bk_cell h0 1
  have f0 : W0.frozen? ⟨w.heap.size, 0, none⟩ = false := bk_free h0 0
  have f1 : W0.frozen? ⟨w.heap.size, 1, none⟩ = false := bk_free h0 1
  have B0 := Lib.hid b0; have HA := Lib.hid ha; have H0 := Lib.hid h0
  have hB : ∀ x y, Below w.heap.size w ((W0.setCell ⟨w.heap.size, 0, none⟩ x).setCell ⟨w.heap.size, 1, none⟩ y) := fun x y => (b0.setCell (Nat.le_refl _) _).setCell (Nat.le_refl _) _
  have hL : ∀ x y, ((W0.setCell ⟨w.heap.size, 0, none⟩ x).setCell ⟨w.heap.size, 1, none⟩ y).heap[w.heap.size]? = some (.cells #[x, y] 76 (0, 0)) := fun x y => bk_set (bk_set h0 0 _) 1 _
  have HB := Lib.hid hB; have HL := Lib.hid hL
  clear b0 h0 ha h hB hL
  unfold rwB rwD rwO
  by_cases h1 : 0 ≤ i
  · obtain ⟨k, rfl⟩ : ∃ k : Nat, i = k := ⟨i.toNat, by omega⟩
    have z0 : ¬ (k : Int) < 0 := by omega
    by_cases h2 : k < L.length
    · have hz : ¬ (k : Int) ≥ (L.length : Int) := by omega
      have hz2 : (k : Int) < (L.length : Int) := by omega
      rw [if_pos ⟨h1, by omega⟩, if_pos ⟨h1, by omega⟩, decide_eq_true ⟨h1, by omega⟩, show ((k : Int)).toNat = k by omega]
      obtain ⟨b, off, rfl, -, hb2, hc⟩ := r.pos (by omega)
      obtain ⟨d0, d1⟩ := hc k h2
      clear hc r
      generalize L.length = N at *
      go_enter Tryd.func96, Tryd.ntmps96
      go_upto_region 1 with fail
      rw [← hW0]
      clear hW0
      go_wp2_with (go_at_call 91; refine HA.out.mono ?_; rintro e w' ⟨rfl, rfl⟩)
      have r0 := bk_cell (HL.out (.int .i64 (rd L k)) (.int .i64 (ro L k))) 0
      have r1 := bk_cell (HL.out (.int .i64 (rd L k)) (.int .i64 (ro L k))) 1
      refine bodyPost_ret (v := .tuple #[.agg #[.int .i64 (rd L k), .int .i64 (ro L k)], .bool true]) (by simp [results, Tryd.results96, go_sem, r0, r1]) rfl ⟨rfl, HB.out _ _⟩
    · have hz : (k : Int) ≥ (L.length : Int) := by omega
      rw [if_neg (by omega), if_neg (by omega), decide_eq_false (by omega)]
      clear r
      generalize L.length = N at *
      go_enter Tryd.func96, Tryd.ntmps96
      go_upto_region 1 with fail
      rw [← hW0]
      clear hW0
      go_wp2_with (go_at_call 91; refine HA.out.mono ?_; rintro e w' ⟨rfl, rfl⟩)
      have r0 := bk_cell (HL.out (.int .i64 0) (.int .i64 0)) 0
      have r1 := bk_cell (HL.out (.int .i64 0) (.int .i64 0)) 1
      refine bodyPost_ret (v := .tuple #[.agg #[.int .i64 0, .int .i64 0], .bool false]) (by simp [results, Tryd.results96, go_sem, r0, r1]) rfl ⟨rfl, HB.out _ _⟩
  · have z0 : i < 0 := by omega
    rw [if_neg (by omega), if_neg (by omega), decide_eq_false (by omega)]
    clear r
    generalize L.length = N at *
    go_enter Tryd.func96, Tryd.ntmps96
    go_upto_region 1 with fail
    rw [← hW0]
    clear hW0
    go_wp2_with (go_at_call 91; refine HA.out.mono ?_; rintro e w' ⟨rfl, rfl⟩)
    have r0 := bk_cell (HL.out (.int .i64 0) (.int .i64 0)) 0
    have r1 := bk_cell (HL.out (.int .i64 0) (.int .i64 0)) 1
    refine bodyPost_ret (v := .tuple #[.agg #[.int .i64 0, .int .i64 0], .bool false]) (by simp [results, Tryd.results96, go_sem, r0, r1]) rfl ⟨rfl, HB.out _ _⟩

end Go.Proofs.YtiamggjebaabkaaDoor
