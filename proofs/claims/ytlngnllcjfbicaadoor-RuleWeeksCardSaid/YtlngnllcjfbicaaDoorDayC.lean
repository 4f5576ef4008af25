/- sort.Search with a closure that only reads; package day: yearOf, monthOf. -/
import Derived.Test.YtlngnllcjfbicaaDoorDayB
import Derived.Deep.LoopGhost
import Derived.Deep.Draws
import Derived.Deep.QuietTactic
import Derived.BigQuiet
import Derived.Shelf.Abstract
namespace Go.Proofs.YtlngnllcjfbicaaDoor
open Go.RowKit
set_option linter.unusedVariables false

set_option maxHeartbeats 4000000 in
/-- A search among the first n numbers: r of them are told false, and all behind these true. -/
theorem search_any (g : Nat) (cb : Array Value) (n r : Nat) (p : Nat → Bool) (w : World) (eg : ∀ args w, (callFunc g args).run Tryd.prog w = .ok (.enter g args) w) (hn : n < 4611686018427387904) (hr : r ≤ n)
    (hf : ∀ (m i : Nat), i < n → Calls Tryd.prog g (#[.int .i64 i] ++ cb) (w.drewN m) fun e w' => e = .returned (.bool (p i)) ∧ ∃ q, w' = (w.drewN m).drewN q)
    (hlo : ∀ i, i < r → p i = false) (hhi : ∀ i, r ≤ i → i < n → p i = true) :
    Calls Tryd.prog 67 #[.int .i64 n, .func (.func g) #[] cb] w fun e w' => e = .returned (.int .i64 r) ∧ ∃ q, w' = w.drewN q := by
  have HF := Lib.hid hf; have L := Lib.hid hlo; have H := Lib.hid hhi
  clear hf hlo hhi
  go_enter Tryd.func67, Tryd.ntmps67
  go_wp2
  go_loopg [5, 6] n (fun kx s5 s6 wr => ∃ (lo hi q : Nat), s5 = .int .i64 lo ∧ s6 = .int .i64 hi ∧ lo ≤ r ∧ r ≤ hi ∧ hi ≤ n ∧ hi - lo ≤ kx ∧ wr = w.drewN q)
  case atStart => exact ⟨0, n, 0, rfl, rfl, Nat.zero_le _, hr, Nat.le_refl _, by omega, rfl⟩
  case round =>
    obtain ⟨lo, hi, q, rfl, rfl, h1, h2, h3, h4, rfl⟩ := hrel
    by_cases hlt : lo < hi
    · have hc := HF.out q ((lo + hi) / 2) (by omega)
      rw [show (((lo + hi) / 2 : Nat) : Int) = ((lo : Int) + (hi : Int)) / 2 by omega] at hc
      by_cases hp : (lo + hi) / 2 < r
      · rw [L.out _ hp] at hc
        go_wp2_with (go_at_fn g; refine hc.mono ?_; rintro e w' ⟨rfl, nq, rfl⟩)
        go_roundg (hi - ((lo + hi) / 2 + 1))
        case measure => omega
        case rel => exact ⟨(lo + hi) / 2 + 1, hi, q + nq, by rw [show ((lo : Int) + (hi : Int)) / 2 + 1 = (((lo + hi) / 2 + 1 : Nat) : Int) by omega], rfl, by omega, h2, h3, Nat.le_refl _, rfl⟩
      · rw [H.out _ (by omega) (by omega)] at hc
        go_wp2_with (go_at_fn g; refine hc.mono ?_; rintro e w' ⟨rfl, nq, rfl⟩)
        go_roundg ((lo + hi) / 2 - lo)
        case measure => omega
        case rel => exact ⟨lo, (lo + hi) / 2, q + nq, rfl, by rw [show ((lo : Int) + (hi : Int)) / 2 = (((lo + hi) / 2 : Nat) : Int) by omega], h1, by omega, by omega, Nat.le_refl _, rfl⟩
    · obtain rfl : r = lo := by omega
      go_wp2
      go_ret
      exact ⟨rfl, q, rfl⟩

set_option maxHeartbeats 1000000 in
/-- Of a year: does it end behind the day? -/
theorem year_closure (b : Nat) (n : Int) (i : Nat) (W : World) (hi : i < 19998) (hc : W.cell? ⟨b, 0, none⟩ = some (.int .i64 n)) :
    Calls Tryd.prog 68 (#[.int .i64 i] ++ #[.pointer (some ⟨b, 0, none⟩)]) W fun e w' => e = .returned (.bool (decide (n < st (-9999 + i + 1)))) ∧ ∃ q, w' = W.drewN q := by
  have hs := fun w => start_any (-9999 + i + 1) w (by omega) (by omega)
  have hz : (i : Int) < 19998 := by omega
  have HS := Lib.hid hs; clear hs
  generalize st (-9999 + i + 1) = v at *
  have s1 : IntKind.i64.wrap (-9999 + (i : Int)) = -9999 + i := IntWalk.i64_in _ (by omega)
  have s2 : IntKind.i64.wrap (-9999 + (i : Int) + 1) = -9999 + i + 1 := IntWalk.i64_in _ (by omega)
  go_enter Tryd.func68, Tryd.ntmps68
  go_wp2
  go_quiet ((go_at_call 52; exact Calls.quiet_of_same ((HS.out _).mono fun _ _ h => ⟨h.1, h.2.symm⟩)))
  go_wp2
  go_ret
  exact ⟨rfl, _, rfl⟩

set_option maxHeartbeats 1000000 in
/-- Of a month: does it end with the day, or behind it? -/
theorem month_closure (a b : Nat) (y k : Int) (i : Nat) (W : World) (hi : i < 11) (hk : W.cell? ⟨a, 0, none⟩ = some (.int .i64 k)) (hy : W.cell? ⟨b, 0, none⟩ = some (.int .i64 y)) (he : Ends W) :
    Calls Tryd.prog 69 (#[.int .i64 i] ++ #[.pointer (some ⟨a, 0, none⟩), .pointer (some ⟨b, 0, none⟩)]) W fun e w' => e = .returned (.bool (decide (k ≤ em y (i + 1)))) ∧ ∃ q, w' = W.drewN q := by
  have hs : ∀ m, Calls Tryd.prog 54 #[.int .i64 y, .int .i64 (i + 1)] (W.drewN m) fun e w' => e = .returned (.int .i64 (em y (i + 1))) ∧ W.drewN m = w' := fun m => end_any y (i + 1) (W.drewN m) (by omega) (by omega) he
  have hz : (i : Int) < 11 := by omega
  have HS := Lib.hid hs; clear hs he
  generalize em y (i + 1) = v at *
  have s1 : IntKind.i64.wrap ((i : Int) + 1) = i + 1 := IntWalk.i64_in _ (by omega)
  go_enter Tryd.func69, Tryd.ntmps69
  go_wp2
  go_quiet ((go_at_call 54; exact Calls.quiet_of_same ((HS.out _).mono fun _ _ h => ⟨h.1, h.2.symm⟩)))
  go_wp2
  go_ret
  exact ⟨rfl, _, rfl⟩

/-- A box just laid. -/
theorem dbox_cell (W : World) (v : Value) (t : TypeId) : (W.alloc (.cells #[v] t)).cell? ⟨W.heap.size, 0, none⟩ = some v := by
  rw [World.cell?_alloc_at _ _ _ _ (by simp)]; rfl
theorem drewN_below (B : Nat) (w : World) (q : Nat) : Below B w (w.drewN q) := ⟨rfl, rfl, rfl, Nat.le_refl _, fun _ _ => rfl⟩

theorem enters_year : ∀ args w, (callFunc 68 args).run Tryd.prog w = .ok (.enter 68 args) w := enters_of Tryd.func68 (by kernel_rfl) rfl
theorem enters_month : ∀ args w, (callFunc 69 args).run Tryd.prog w = .ok (.enter 69 args) w := enters_of Tryd.func69 (by kernel_rfl) rfl

set_option maxHeartbeats 1000000 in
theorem yearof_any (n y : Int) (w : World) (hy : isy y) (h1 : st y ≤ n) (h2 : n < st (y + 1)) :
    Calls Tryd.prog 51 #[.int .i64 n] w fun e w' => e = .returned (.int .i64 y) ∧ Below w.heap.size w w' := by
  unfold isy at hy
  obtain ⟨r, rfl⟩ : ∃ r : Nat, y = -9999 + r := ⟨(y + 9999).toNat, by omega⟩
  obtain ⟨W0, hW0⟩ : ∃ W0, W0 = w.alloc (.cells #[.int .i64 n] 2) := ⟨_, rfl⟩
  have hc : W0.cell? ⟨w.heap.size, 0, none⟩ = some (.int .i64 n) := by rw [hW0]; exact dbox_cell w _ _
  have hB : Hid (Below w.heap.size w W0) := Lib.hid (by rw [hW0]; exact (Below.refl _ w).alloc (Nat.le_refl _) _)
  have hS := search_any 68 #[.pointer (some ⟨w.heap.size, 0, none⟩)] 19998 r (fun i => decide (n < st (-9999 + i + 1))) W0 enters_year (by omega) (by omega)
    (fun m i hi => year_closure w.heap.size n i (W0.drewN m) hi hc)
    (fun i hi => decide_eq_false (by have := st_mono (a := -9999 + i + 1) (b := -9999 + r) (by omega); omega))
    (fun i hi hi' => decide_eq_true (by have := st_mono (a := -9999 + r + 1) (b := -9999 + i + 1) (by omega); omega))
  have hr : (r : Int) ≤ 19998 := by omega
  clear hc h1 h2 hy
  have HS := Lib.hid hS; clear hS
  go_enter Tryd.func51, Tryd.ntmps51
  go_wp2_with (go_at_call 67; rw [← hW0]; refine HS.out.mono ?_; rintro e w' ⟨rfl, q, rfl⟩)
  go_ret
  rw [← hW0]
  exact ⟨rfl, hB.out.trans (drewN_below _ _ _)⟩

set_option maxHeartbeats 1000000 in
theorem monthof_any (y k m : Int) (w : World) (hm : 1 ≤ m) (hm' : m ≤ 12) (h1 : em y (m - 1) < k) (h2 : k ≤ em y m) (he : Ends w) :
    Calls Tryd.prog 53 #[.int .i64 y, .int .i64 k] w fun e w' => e = .returned (.int .i64 m) ∧ Below w.heap.size w w' := by
  obtain ⟨r, rfl⟩ : ∃ r : Nat, m = 1 + r := ⟨(m - 1).toNat, by omega⟩
  obtain ⟨W0, hW0⟩ : ∃ W0, W0 = (w.alloc (.cells #[.int .i64 y] 3)).alloc (.cells #[.int .i64 k] 3) := ⟨_, rfl⟩
  have hsz : (w.alloc (.cells #[.int .i64 y] 3)).heap.size = w.heap.size + 1 := by simp
  have ck : W0.cell? ⟨w.heap.size + 1, 0, none⟩ = some (.int .i64 k) := by rw [hW0, ← hsz]; exact dbox_cell _ _ _
  have hB1 : Below w.heap.size w (w.alloc (.cells #[.int .i64 y] 3)) := (Below.refl _ w).alloc (Nat.le_refl _) _
  have hB2 : Below (w.heap.size + 1) (w.alloc (.cells #[.int .i64 y] 3)) W0 := by rw [hW0]; exact (Below.refl _ _).alloc (by simp) _
  have cy : W0.cell? ⟨w.heap.size, 0, none⟩ = some (.int .i64 y) := (hB2.cell (p := ⟨w.heap.size, 0, none⟩) (by simp)).trans (dbox_cell w _ _)
  have hB := Lib.hid (hB1.trans (hB2.mono (Nat.le_succ _)))
  have hE : Ends W0 := he.below hB.out
  have hS := search_any 69 #[.pointer (some ⟨w.heap.size + 1, 0, none⟩), .pointer (some ⟨w.heap.size, 0, none⟩)] 11 r (fun i => decide (k ≤ em y (i + 1))) W0 enters_month (by omega) (by omega)
    (fun j i hi => month_closure (w.heap.size + 1) w.heap.size y k i (W0.drewN j) hi ck cy hE)
    (fun i hi => decide_eq_false (by have := em_mono y (a := i + 1) (b := 1 + r - 1) (by omega) (by omega) (by omega); omega))
    (fun i hi hi' => decide_eq_true (by have := em_mono y (a := 1 + r) (b := i + 1) (by omega) (by omega) (by omega); omega))
  have hr : (r : Int) ≤ 11 := by omega
  clear ck cy hE he hB1 hB2 hsz h1 h2
  have HS := Lib.hid hS; clear hS
  go_enter Tryd.func53, Tryd.ntmps53
  go_wp2_with (go_at_call 67; rw [← hW0]; refine HS.out.mono ?_; rintro e w' ⟨rfl, q, rfl⟩)
  go_ret
  rw [← hW0]
  exact ⟨rfl, hB.out.trans (drewN_below _ _ _)⟩

end Go.Proofs.YtlngnllcjfbicaaDoor
