/- Package cmp: Compare, Or of three. Package label: At, UTC. -/
import Derived.Test.YtiamggjebaabkaaDoorLabC
import Derived.LoopTactic
namespace Go.Proofs.YtiamggjebaabkaaDoor
open Go.RowKit
set_option linter.unusedVariables false

theorem isnan_any (a : Int) (w : World) : Calls Tryd.prog 82 #[.int .i64 a] w fun e w' => e = .returned (.bool false) ∧ w = w' := by
  go_enter Tryd.func82, Tryd.ntmps82
  go_wp2
  go_ret
  exact ⟨rfl, rfl⟩
theorem isnan_wide (a : Int) (w : World) : Calls Tryd.prog 81 #[.int .i64 a] w fun e w' => e = .returned (.bool false) ∧ w = w' := by
  go_enter Tryd.func81, Tryd.ntmps81
  go_wp2
  go_ret
  exact ⟨rfl, rfl⟩
theorem cmp_any (a b : Int) (w : World) : Calls Tryd.prog 54 #[.int .i64 a, .int .i64 b] w fun e w' => e = .returned (.int .i64 (cp a b)) ∧ w = w' := by
  rcases cp_bd a b with ⟨h, e⟩ | ⟨h, e⟩ | ⟨h, e⟩
  · rw [e]; clear e
    go_enter Tryd.func54, Tryd.ntmps54
    go_wp2_with (go_at_call 82; refine (isnan_any _ _).mono ?_; rintro e w' ⟨rfl, rfl⟩)
    go_ret
    exact ⟨rfl, rfl⟩
  · rw [e]; clear e
    have h1 : ¬ a < b := by omega
    have h2 : a > b := h
    go_enter Tryd.func54, Tryd.ntmps54
    go_wp2_with (go_at_call 82; refine (isnan_any _ _).mono ?_; rintro e w' ⟨rfl, rfl⟩)
    go_ret
    exact ⟨rfl, rfl⟩
  · rw [e]; clear e
    have h1 : ¬ a < b := by omega
    have h2 : ¬ a > b := by omega
    clear h
    go_enter Tryd.func54, Tryd.ntmps54
    go_wp2_with (go_at_call 82; refine (isnan_any _ _).mono ?_; rintro e w' ⟨rfl, rfl⟩)
    go_ret
    exact ⟨rfl, rfl⟩
theorem cmp_wide (a b : Int) (w : World) : Calls Tryd.prog 53 #[.int .i64 a, .int .i64 b] w fun e w' => e = .returned (.int .i64 (cp a b)) ∧ w = w' := by
  rcases cp_bd a b with ⟨h, e⟩ | ⟨h, e⟩ | ⟨h, e⟩
  · rw [e]; clear e
    go_enter Tryd.func53, Tryd.ntmps53
    go_wp2_with (go_at_call 81; refine (isnan_wide _ _).mono ?_; rintro e w' ⟨rfl, rfl⟩)
    go_ret
    exact ⟨rfl, rfl⟩
  · rw [e]; clear e
    have h1 : ¬ a < b := by omega
    have h2 : a > b := h
    go_enter Tryd.func53, Tryd.ntmps53
    go_wp2_with (go_at_call 81; refine (isnan_wide _ _).mono ?_; rintro e w' ⟨rfl, rfl⟩)
    go_ret
    exact ⟨rfl, rfl⟩
  · rw [e]; clear e
    have h1 : ¬ a < b := by omega
    have h2 : ¬ a > b := by omega
    clear h
    go_enter Tryd.func53, Tryd.ntmps53
    go_wp2_with (go_at_call 81; refine (isnan_wide _ _).mono ?_; rintro e w' ⟨rfl, rfl⟩)
    go_ret
    exact ⟨rfl, rfl⟩

/-- The first of three that isn't 0. -/
def or3 (x y z : Int) : Int := if x = 0 then (if y = 0 then z else y) else x
set_option maxHeartbeats 1000000 in
theorem or_any (b : Nat) (x y z : Int) (w : World) (c0 : w.cell? ⟨b, 0, none⟩ = some (.int .i64 x)) (c1 : w.cell? ⟨b, 1, none⟩ = some (.int .i64 y)) (c2 : w.cell? ⟨b, 2, none⟩ = some (.int .i64 z)) :
    Calls Tryd.prog 52 #[.slice (some ⟨b, 0, none⟩) 3 3] w fun e w' => e = .returned (.int .i64 (or3 x y z)) ∧ w = w' := by
  have O : Hid (or3 x y z = if x = 0 then (if y = 0 then z else y) else x) := Lib.hid rfl
  generalize or3 x y z = r at *
  go_enter Tryd.func52, Tryd.ntmps52
  go_wp2
  go_loop [8] (fun a => ∃ k : Int, a = .int .i64 k ∧ 0 ≤ k ∧ k ≤ 3 ∧ Hid ((1 ≤ k → x = 0) ∧ (2 ≤ k → y = 0) ∧ (3 ≤ k → z = 0))) (fun a => (3 - intOf a).toNat)
  case atStart => exact ⟨0, rfl, by omega, by omega, Lib.hid ⟨fun h => by omega, fun h => by omega, fun h => by omega⟩⟩
  case round =>
    obtain ⟨k, rfl, k0, k1, I⟩ := hrel
    rcases (by omega : k = 0 ∨ k = 1 ∨ k = 2 ∨ k = 3) with rfl | rfl | rfl | rfl
    · clear k0 k1 I
      by_cases h : x = 0
      · have h' : (x != 0) = false := by simpa using h
        have H := Lib.hid h; clear h
        go_wp2
        go_round
        case rel => exact ⟨1, rfl, by omega, by omega, Lib.hid ⟨fun _ => H.out, fun h => by omega, fun h => by omega⟩⟩
        case measure => simp [intOf]
      · have h' : (x != 0) = true := bne_iff_ne.2 h
        obtain rfl : r = x := by rw [O.out, if_neg h]
        clear O h
        go_wp2
        go_ret
        exact ⟨rfl, rfl⟩
    · obtain ⟨i0, -, -⟩ := I.out
      have X := Lib.hid (i0 (by omega))
      clear k0 k1 I i0
      by_cases h : y = 0
      · have h' : (y != 0) = false := by simpa using h
        have H := Lib.hid h; clear h
        go_wp2
        go_round
        case rel => exact ⟨2, rfl, by omega, by omega, Lib.hid ⟨fun _ => X.out, fun h => H.out, fun h => by omega⟩⟩
        case measure => simp [intOf]
      · have h' : (y != 0) = true := bne_iff_ne.2 h
        obtain rfl : r = y := by rw [O.out, if_pos X.out, if_neg h]
        clear O h X
        go_wp2
        go_ret
        exact ⟨rfl, rfl⟩
    · obtain ⟨i0, i1, -⟩ := I.out
      have X := Lib.hid (i0 (by omega))
      have Y := Lib.hid (i1 (by omega))
      clear k0 k1 I i0 i1
      by_cases h : z = 0
      · have h' : (z != 0) = false := by simpa using h
        have H := Lib.hid h; clear h
        go_wp2
        go_round
        case rel => exact ⟨3, rfl, by omega, by omega, Lib.hid ⟨fun _ => X.out, fun h => Y.out, fun h => H.out⟩⟩
        case measure => simp [intOf]
      · have h' : (z != 0) = true := bne_iff_ne.2 h
        obtain rfl : r = z := by rw [O.out, if_pos X.out, if_pos Y.out]
        clear O h X Y
        go_wp2
        go_ret
        exact ⟨rfl, rfl⟩
    · obtain ⟨i0, i1, i2⟩ := I.out
      obtain rfl : r = 0 := by rw [O.out, if_pos (i0 (by omega)), if_pos (i1 (by omega)), i2 (by omega)]
      clear k0 k1 I i0 i1 i2 O
      go_wp2
      go_ret
      exact ⟨rfl, rfl⟩

/-! two blocks: an argument's, a result's -/
theorem two_lk (T U : TypeId) (w : World) (l : Lb) :
    Lk T ((w.alloc (.cells l.cells T)).alloc (.cells lb0.cells U)) w.heap.size l ∧ Lk U ((w.alloc (.cells l.cells T)).alloc (.cells lb0.cells U)) (w.heap.size + 1) lb0 ∧ Below w.heap.size w ((w.alloc (.cells l.cells T)).alloc (.cells lb0.cells U)) := by
  have h1 := lk_new T w l
  have h2 := lk_new U (w.alloc (.cells l.cells T)) lb0
  rw [World.size_alloc] at h2
  exact ⟨h1.keep (bel_new _ _), h2, (bel_new w _).alloc (by simp) _⟩

end Go.Proofs.YtiamggjebaabkaaDoor
