/- sort.Search with a closure that makes memory of its own; package scale: machine, split. -/
import Derived.Test.YtiamggjebaabkaaDoorDayC
import Derived.Test.YtiamggjebaabkaaDoorNumB
import Derived.Test.YtiamggjebaabkaaDoorLeapE
import Derived.Test.YtiamggjebaabkaaDoorScaM
namespace Go.Proofs.YtiamggjebaabkaaDoor
open Go.RowKit
set_option linter.unusedVariables false
set_option linter.unusedSimpArgs false

set_option maxHeartbeats 4000000 in
/-- A search among the first n numbers, where the function may make memory at B and above. -/
theorem search_bel (g : Nat) (cb : Array Value) (B n r : Nat) (p : Nat → Bool) (w : World) (eg : ∀ args w, (callFunc g args).run Tryd.prog w = .ok (.enter g args) w) (hn : n < 4611686018427387904) (hr : r ≤ n) (hB : B ≤ w.heap.size)
    (hf : ∀ (i : Nat) (W : World), i < n → Below B w W → Calls Tryd.prog g (#[.int .i64 i] ++ cb) W fun e w' => e = .returned (.bool (p i)) ∧ Below B W w')
    (hlo : ∀ i, i < r → p i = false) (hhi : ∀ i, r ≤ i → i < n → p i = true) :
    Calls Tryd.prog 92 #[.int .i64 n, .func (.func g) #[] cb] w fun e w' => e = .returned (.int .i64 r) ∧ Below B w w' := by
  have HF := Lib.hid hf; have L := Lib.hid hlo; have H := Lib.hid hhi
  clear hf hlo hhi
  go_enter Tryd.func92, Tryd.ntmps92
  go_wp2
  go_loopg [5, 6] n (fun kx s5 s6 wr => ∃ (lo hi : Nat), s5 = .int .i64 lo ∧ s6 = .int .i64 hi ∧ lo ≤ r ∧ r ≤ hi ∧ hi ≤ n ∧ hi - lo ≤ kx ∧ Hid (Below B w wr))
  case atStart => exact ⟨0, n, rfl, rfl, Nat.zero_le _, hr, Nat.le_refl _, by omega, Lib.hid (Below.refl _ _)⟩
  case round =>
    obtain ⟨lo, hi, rfl, rfl, h1, h2, h3, h4, hb⟩ := hrel
    by_cases hlt : lo < hi
    · have hc := HF.out ((lo + hi) / 2) wr (by omega) hb.out
      rw [show (((lo + hi) / 2 : Nat) : Int) = ((lo : Int) + (hi : Int)) / 2 by omega] at hc
      by_cases hp : (lo + hi) / 2 < r
      · rw [L.out _ hp] at hc
        go_wp2_with (go_at_fn g; refine hc.mono ?_; rintro e w' ⟨rfl, hb2⟩; have HB2 := Lib.hid (hb.out.trans hb2); clear hb2)
        go_roundg (hi - ((lo + hi) / 2 + 1))
        case measure => omega
        case rel => exact ⟨(lo + hi) / 2 + 1, hi, by rw [show ((lo : Int) + (hi : Int)) / 2 + 1 = (((lo + hi) / 2 + 1 : Nat) : Int) by omega], rfl, by omega, h2, h3, Nat.le_refl _, HB2⟩
      · rw [H.out _ (by omega) (by omega)] at hc
        go_wp2_with (go_at_fn g; refine hc.mono ?_; rintro e w' ⟨rfl, hb2⟩; have HB2 := Lib.hid (hb.out.trans hb2); clear hb2)
        go_roundg ((lo + hi) / 2 - lo)
        case measure => omega
        case rel => exact ⟨lo, (lo + hi) / 2, rfl, by rw [show ((lo : Int) + (hi : Int)) / 2 = (((lo + hi) / 2 : Nat) : Int) by omega], h1, by omega, by omega, Nat.le_refl _, HB2⟩
    · obtain rfl : r = lo := by omega
      go_wp2
      go_ret
      exact ⟨rfl, hb.out⟩

theorem machine_any (n s : Int) (w : World) (h1 : -100000000 ≤ n) (h2 : n ≤ 100000000) (h3 : 0 ≤ s) (h4 : s ≤ 100000) : Calls Tryd.prog 35 #[.int .i64 n, .int .i64 s] w fun e w' => e = .returned (.int .i64 (86400 * n + s)) ∧ w = w' := by
  go_enter Tryd.func35, Tryd.ntmps35
  go_wp2
  go_ret
  exact ⟨rfl, rfl⟩

theorem split12_any (p : Int) (w : World) (hp : fits p) : Calls Tryd.prog 49 #[.int .i64 p] w fun e w' => e = .returned (.tuple #[.int .i64 (p / 86400), .int .i64 (p % 86400)]) ∧ w = w' := by
  have hs := split_any p 86400 w hp (by unfold fits; omega) (by omega)
  rw [Int.fdiv_eq_ediv_of_nonneg _ (by omega), Int.fmod_eq_emod_of_nonneg _ (by omega)] at hs
  have HS := Lib.hid hs
  have b0 : 0 ≤ p % 86400 := by omega
  have b1 : p % 86400 < 86400 := by omega
  clear hs hp
  generalize p / 86400 = a at *
  generalize p % 86400 = b at *
  go_enter Tryd.func49, Tryd.ntmps49
  go_wp2_with (go_at_call 73; refine HS.out.mono ?_; rintro e w' ⟨rfl, rfl⟩)
  go_ret2
  exact ⟨rfl, rfl⟩

end Go.Proofs.YtiamggjebaabkaaDoor
