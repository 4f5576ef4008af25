/- Merged: RulF. -/
import Derived.Test.YtkhcneacjnpcnaaGPosixParses17
namespace Go.Proofs.Ytkhcneacjnpcnaa
open Go.RowKit
set_option linter.unusedVariables false
set_option linter.unusedSimpArgs false

/-- A rule's block, of the document's type. -/
def Qk (w : World) (p : Nat) (r : Ru) : Prop := w.heap[p]? = some (.cells r.cells 31 (0, 0))
theorem Qk.lt {w : World} {p : Nat} {r : Ru} (h : Qk w p r) : p < w.heap.size := bk_lt h
theorem Qk.below {w w' : World} {p B : Nat} {r : Ru} (h : Qk w p r) (hb : Below B w w') (hB : p < B) : Qk w' p r := (hb.block p hB).trans h
theorem Qk.keep {w w' : World} {p : Nat} {r : Ru} (h : Qk w p r) (hb : Below w.heap.size w w') : Qk w' p r := h.below hb h.lt
theorem Qk.all {w : World} {p : Nat} {r : Ru} (h : Qk w p r) :
    w.cell? ⟨p, 0, none⟩ = some (.int .i64 r.K) ∧ w.cell? ⟨p, 1, none⟩ = some (.int .i64 r.M) ∧ w.cell? ⟨p, 2, none⟩ = some (.int .i64 r.W) ∧ w.cell? ⟨p, 3, none⟩ = some (.int .i64 r.D) ∧ w.cell? ⟨p, 4, none⟩ = some (.int .i64 r.T) :=
  ⟨bk_cell h 0, bk_cell h 1, bk_cell h 2, bk_cell h 3, bk_cell h 4⟩
theorem qk_new (w : World) (r : Ru) : Qk (w.alloc (.cells r.cells 31)) w.heap.size r := heap_alloc_new w _
/-- A rule as the document's. -/
theorem document_any (r : Ru) (w : World) : Calls Try.prog 17 #[.agg r.cells] w fun e w' => e = .returned (.agg #[.int .i64 r.K, .int .i64 r.M, .int .i64 r.W, .int .i64 r.D, .int .i64 r.T]) ∧ Below w.heap.size w w' := by
  obtain ⟨K, M, W9, D, T⟩ := r
  show Calls _ _ #[.agg #[.int .i64 K, .int .i64 M, .int .i64 W9, .int .i64 D, .int .i64 T]] _ _
  go_enter Try.func17, Try.ntmps17
  go_wp2
  refine bodyPost_ret (v := .agg #[.int .i64 K, .int .i64 M, .int .i64 W9, .int .i64 D, .int .i64 T]) (by simp [results, Try.results17, go_sem]) rfl ⟨rfl, ((Below.refl _ _).alloc (Nat.le_refl _) _).alloc (by simp) _⟩

set_option maxHeartbeats 4000000 in
theorem rchk16_any (r : Ru) (w : World) : Calls Try.prog 34 #[.agg r.cells] w fun e w' => e = .returned (.int .i64 (ruE r)) ∧ Below w.heap.size w w' := by
  obtain ⟨W0, hW0⟩ : ∃ W0, W0 = w.alloc (.cells r.cells 31) := ⟨_, rfl⟩
  have B0 : Hid (Below w.heap.size w W0) := Lib.hid (by rw [hW0]; exact bel16 w _)
  have L0 : Qk W0 w.heap.size r := by rw [hW0]; exact qk_new _ _
  obtain ⟨c0, c1, c2, c3, c4⟩ := L0.all
  clear L0
  obtain ⟨K, M, W9, D, T⟩ := r
  simp only at c0 c1 c2 c3 c4
  have hu : ruE ⟨K, M, W9, D, T⟩ = if 1 ≤ K ∧ K ≤ 3 then (if (if K = 3 then 1 ≤ M ∧ M ≤ 12 ∧ 1 ≤ W9 ∧ W9 ≤ 5 ∧ 0 ≤ D ∧ D ≤ 6 else M = 0 ∧ W9 = 0 ∧ (if K = 1 then 1 else 0) ≤ D ∧ D ≤ 365) ∧ (-604799 ≤ T ∧ T ≤ 604799) then 0 else 1) else 11 := rfl
  generalize ruE ⟨K, M, W9, D, T⟩ = E at *
  rcases (by omega : K = 1 ∨ K = 2 ∨ K = 3 ∨ (K ≠ 1 ∧ K ≠ 2 ∧ K ≠ 3)) with k | k | k | ⟨k, k2, k3⟩
  · have HE : E = if (M = 0 ∧ W9 = 0 ∧ 1 ≤ D ∧ D ≤ 365) ∧ (-604799 ≤ T ∧ T ≤ 604799) then 0 else 1 := by
      rw [hu, if_pos (by omega)]; subst k; simp
    have k1 : (K == 1) = true := eq_yes (by omega)
    have k2 : (K == 2) = false := eq_no (by omega)
    have k3 : (K == 3) = false := eq_no (by omega)
    clear hu
    by_cases hu1 : -604799 ≤ T
    case neg =>
      have u1 : decide (-604799 ≤ T) = false := decide_eq_false hu1
      rw [HE, if_neg (by omega)]
      clear HE k hu1
      go_enter Try.func34, Try.ntmps34
      go_upto_region 1 with fail
      rw [← hW0]; clear hW0
      go_wp2_with fail
      go_ret
      exact ⟨rfl, B0.out⟩
    case pos =>
      by_cases hu2 : T ≤ 604799
      case neg =>
        have u1 : decide (-604799 ≤ T) = true := decide_eq_true hu1
        have u2 : decide (T ≤ 604799) = false := decide_eq_false hu2
        rw [HE, if_neg (by omega)]
        clear HE k hu1 hu2
        go_enter Try.func34, Try.ntmps34
        go_upto_region 1 with fail
        rw [← hW0]; clear hW0
        go_wp2_with fail
        go_ret
        exact ⟨rfl, B0.out⟩
      case pos =>
        by_cases hv0 : 1 ≤ D
        case neg =>
          have u1 : decide (-604799 ≤ T) = true := decide_eq_true hu1
          have u2 : decide (T ≤ 604799) = true := decide_eq_true hu2
          have v0 : decide (1 ≤ D) = false := decide_eq_false hv0
          rw [HE, if_neg (by omega)]
          clear HE k hu1 hu2 hv0
          go_enter Try.func34, Try.ntmps34
          go_upto_region 1 with fail
          rw [← hW0]; clear hW0
          go_wp2_with fail
          go_ret
          exact ⟨rfl, B0.out⟩
        case pos =>
          by_cases hv1 : D ≤ 365
          case neg =>
            have u1 : decide (-604799 ≤ T) = true := decide_eq_true hu1
            have u2 : decide (T ≤ 604799) = true := decide_eq_true hu2
            have v0 : decide (1 ≤ D) = true := decide_eq_true hv0
            have v1 : decide (D ≤ 365) = false := decide_eq_false hv1
            rw [HE, if_neg (by omega)]
            clear HE k hu1 hu2 hv0 hv1
            go_enter Try.func34, Try.ntmps34
            go_upto_region 1 with fail
            rw [← hW0]; clear hW0
            go_wp2_with fail
            go_ret
            exact ⟨rfl, B0.out⟩
          case pos =>
            by_cases hv2 : M = 0
            case neg =>
              have u1 : decide (-604799 ≤ T) = true := decide_eq_true hu1
              have u2 : decide (T ≤ 604799) = true := decide_eq_true hu2
              have v0 : decide (1 ≤ D) = true := decide_eq_true hv0
              have v1 : decide (D ≤ 365) = true := decide_eq_true hv1
              have v2 : (M == 0) = false := eq_no hv2
              rw [HE, if_neg (by omega)]
              clear HE k hu1 hu2 hv0 hv1 hv2
              go_enter Try.func34, Try.ntmps34
              go_upto_region 1 with fail
              rw [← hW0]; clear hW0
              go_wp2_with fail
              go_ret
              exact ⟨rfl, B0.out⟩
            case pos =>
              by_cases hv3 : W9 = 0
              case neg =>
                have u1 : decide (-604799 ≤ T) = true := decide_eq_true hu1
                have u2 : decide (T ≤ 604799) = true := decide_eq_true hu2
                have v0 : decide (1 ≤ D) = true := decide_eq_true hv0
                have v1 : decide (D ≤ 365) = true := decide_eq_true hv1
                have v2 : (M == 0) = true := eq_yes hv2
                have v3 : (W9 == 0) = false := eq_no hv3
                rw [HE, if_neg (by omega)]
                clear HE k hu1 hu2 hv0 hv1 hv2 hv3
                go_enter Try.func34, Try.ntmps34
                go_upto_region 1 with fail
                rw [← hW0]; clear hW0
                go_wp2_with fail
                go_ret
                exact ⟨rfl, B0.out⟩
              case pos =>
                have u1 : decide (-604799 ≤ T) = true := decide_eq_true hu1
                have u2 : decide (T ≤ 604799) = true := decide_eq_true hu2
                have v0 : decide (1 ≤ D) = true := decide_eq_true hv0
                have v1 : decide (D ≤ 365) = true := decide_eq_true hv1
                have v2 : (M == 0) = true := eq_yes hv2
                have v3 : (W9 == 0) = true := eq_yes hv3
                rw [HE, if_pos (by omega)]
                clear HE k hu1 hu2 hv0 hv1 hv2 hv3
                go_enter Try.func34, Try.ntmps34
                go_upto_region 1 with fail
                rw [← hW0]; clear hW0
                go_wp2_with fail
                go_ret
                exact ⟨rfl, B0.out⟩
  · have HE : E = if (M = 0 ∧ W9 = 0 ∧ 0 ≤ D ∧ D ≤ 365) ∧ (-604799 ≤ T ∧ T ≤ 604799) then 0 else 1 := by
      rw [hu, if_pos (by omega)]; subst k; simp
    have k1 : (K == 1) = false := eq_no (by omega)
    have k2 : (K == 2) = true := eq_yes (by omega)
    have k3 : (K == 3) = false := eq_no (by omega)
    clear hu
    by_cases hu1 : -604799 ≤ T
    case neg =>
      have u1 : decide (-604799 ≤ T) = false := decide_eq_false hu1
      rw [HE, if_neg (by omega)]
      clear HE k hu1
      go_enter Try.func34, Try.ntmps34
      go_upto_region 1 with fail
      rw [← hW0]; clear hW0
      go_wp2_with fail
      go_ret
      exact ⟨rfl, B0.out⟩
    case pos =>
      by_cases hu2 : T ≤ 604799
      case neg =>
        have u1 : decide (-604799 ≤ T) = true := decide_eq_true hu1
        have u2 : decide (T ≤ 604799) = false := decide_eq_false hu2
        rw [HE, if_neg (by omega)]
        clear HE k hu1 hu2
        go_enter Try.func34, Try.ntmps34
        go_upto_region 1 with fail
        rw [← hW0]; clear hW0
        go_wp2_with fail
        go_ret
        exact ⟨rfl, B0.out⟩
      case pos =>
        by_cases hv0 : 0 ≤ D
        case neg =>
          have u1 : decide (-604799 ≤ T) = true := decide_eq_true hu1
          have u2 : decide (T ≤ 604799) = true := decide_eq_true hu2
          have v0 : decide (0 ≤ D) = false := decide_eq_false hv0
          rw [HE, if_neg (by omega)]
          clear HE k hu1 hu2 hv0
          go_enter Try.func34, Try.ntmps34
          go_upto_region 1 with fail
          rw [← hW0]; clear hW0
          go_wp2_with fail
          go_ret
          exact ⟨rfl, B0.out⟩
        case pos =>
          by_cases hv1 : D ≤ 365
          case neg =>
            have u1 : decide (-604799 ≤ T) = true := decide_eq_true hu1
            have u2 : decide (T ≤ 604799) = true := decide_eq_true hu2
            have v0 : decide (0 ≤ D) = true := decide_eq_true hv0
            have v1 : decide (D ≤ 365) = false := decide_eq_false hv1
            rw [HE, if_neg (by omega)]
            clear HE k hu1 hu2 hv0 hv1
            go_enter Try.func34, Try.ntmps34
            go_upto_region 1 with fail
            rw [← hW0]; clear hW0
            go_wp2_with fail
            go_ret
            exact ⟨rfl, B0.out⟩
          case pos =>
            by_cases hv2 : M = 0
            case neg =>
              have u1 : decide (-604799 ≤ T) = true := decide_eq_true hu1
              have u2 : decide (T ≤ 604799) = true := decide_eq_true hu2
              have v0 : decide (0 ≤ D) = true := decide_eq_true hv0
              have v1 : decide (D ≤ 365) = true := decide_eq_true hv1
              have v2 : (M == 0) = false := eq_no hv2
              rw [HE, if_neg (by omega)]
              clear HE k hu1 hu2 hv0 hv1 hv2
              go_enter Try.func34, Try.ntmps34
              go_upto_region 1 with fail
              rw [← hW0]; clear hW0
              go_wp2_with fail
              go_ret
              exact ⟨rfl, B0.out⟩
            case pos =>
              by_cases hv3 : W9 = 0
              case neg =>
                have u1 : decide (-604799 ≤ T) = true := decide_eq_true hu1
                have u2 : decide (T ≤ 604799) = true := decide_eq_true hu2
                have v0 : decide (0 ≤ D) = true := decide_eq_true hv0
                have v1 : decide (D ≤ 365) = true := decide_eq_true hv1
                have v2 : (M == 0) = true := eq_yes hv2
                have v3 : (W9 == 0) = false := eq_no hv3
                rw [HE, if_neg (by omega)]
                clear HE k hu1 hu2 hv0 hv1 hv2 hv3
                go_enter Try.func34, Try.ntmps34
                go_upto_region 1 with fail
                rw [← hW0]; clear hW0
                go_wp2_with fail
                go_ret
                exact ⟨rfl, B0.out⟩
              case pos =>
                have u1 : decide (-604799 ≤ T) = true := decide_eq_true hu1
                have u2 : decide (T ≤ 604799) = true := decide_eq_true hu2
                have v0 : decide (0 ≤ D) = true := decide_eq_true hv0
                have v1 : decide (D ≤ 365) = true := decide_eq_true hv1
                have v2 : (M == 0) = true := eq_yes hv2
                have v3 : (W9 == 0) = true := eq_yes hv3
                rw [HE, if_pos (by omega)]
                clear HE k hu1 hu2 hv0 hv1 hv2 hv3
                go_enter Try.func34, Try.ntmps34
                go_upto_region 1 with fail
                rw [← hW0]; clear hW0
                go_wp2_with fail
                go_ret
                exact ⟨rfl, B0.out⟩
  · have HE : E = if (1 ≤ M ∧ M ≤ 12 ∧ 1 ≤ W9 ∧ W9 ≤ 5 ∧ 0 ≤ D ∧ D ≤ 6) ∧ (-604799 ≤ T ∧ T ≤ 604799) then 0 else 1 := by
      rw [hu, if_pos (by omega)]; subst k; simp
    have k1 : (K == 1) = false := eq_no (by omega)
    have k2 : (K == 2) = false := eq_no (by omega)
    have k3 : (K == 3) = true := eq_yes (by omega)
    clear hu
    by_cases hu1 : -604799 ≤ T
    case neg =>
      have u1 : decide (-604799 ≤ T) = false := decide_eq_false hu1
      rw [HE, if_neg (by omega)]
      clear HE k hu1
      go_enter Try.func34, Try.ntmps34
      go_upto_region 1 with fail
      rw [← hW0]; clear hW0
      go_wp2_with fail
      go_ret
      exact ⟨rfl, B0.out⟩
    case pos =>
      by_cases hu2 : T ≤ 604799
      case neg =>
        have u1 : decide (-604799 ≤ T) = true := decide_eq_true hu1
        have u2 : decide (T ≤ 604799) = false := decide_eq_false hu2
        rw [HE, if_neg (by omega)]
        clear HE k hu1 hu2
        go_enter Try.func34, Try.ntmps34
        go_upto_region 1 with fail
        rw [← hW0]; clear hW0
        go_wp2_with fail
        go_ret
        exact ⟨rfl, B0.out⟩
      case pos =>
        by_cases hv0 : 1 ≤ M
        case neg =>
          have u1 : decide (-604799 ≤ T) = true := decide_eq_true hu1
          have u2 : decide (T ≤ 604799) = true := decide_eq_true hu2
          have v0 : decide (1 ≤ M) = false := decide_eq_false hv0
          rw [HE, if_neg (by omega)]
          clear HE k hu1 hu2 hv0
          go_enter Try.func34, Try.ntmps34
          go_upto_region 1 with fail
          rw [← hW0]; clear hW0
          go_wp2_with fail
          go_ret
          exact ⟨rfl, B0.out⟩
        case pos =>
          by_cases hv1 : M ≤ 12
          case neg =>
            have u1 : decide (-604799 ≤ T) = true := decide_eq_true hu1
            have u2 : decide (T ≤ 604799) = true := decide_eq_true hu2
            have v0 : decide (1 ≤ M) = true := decide_eq_true hv0
            have v1 : decide (M ≤ 12) = false := decide_eq_false hv1
            rw [HE, if_neg (by omega)]
            clear HE k hu1 hu2 hv0 hv1
            go_enter Try.func34, Try.ntmps34
            go_upto_region 1 with fail
            rw [← hW0]; clear hW0
            go_wp2_with fail
            go_ret
            exact ⟨rfl, B0.out⟩
          case pos =>
            by_cases hv2 : 1 ≤ W9
            case neg =>
              have u1 : decide (-604799 ≤ T) = true := decide_eq_true hu1
              have u2 : decide (T ≤ 604799) = true := decide_eq_true hu2
              have v0 : decide (1 ≤ M) = true := decide_eq_true hv0
              have v1 : decide (M ≤ 12) = true := decide_eq_true hv1
              have v2 : decide (1 ≤ W9) = false := decide_eq_false hv2
              rw [HE, if_neg (by omega)]
              clear HE k hu1 hu2 hv0 hv1 hv2
              go_enter Try.func34, Try.ntmps34
              go_upto_region 1 with fail
              rw [← hW0]; clear hW0
              go_wp2_with fail
              go_ret
              exact ⟨rfl, B0.out⟩
            case pos =>
              by_cases hv3 : W9 ≤ 5
              case neg =>
                have u1 : decide (-604799 ≤ T) = true := decide_eq_true hu1
                have u2 : decide (T ≤ 604799) = true := decide_eq_true hu2
                have v0 : decide (1 ≤ M) = true := decide_eq_true hv0
                have v1 : decide (M ≤ 12) = true := decide_eq_true hv1
                have v2 : decide (1 ≤ W9) = true := decide_eq_true hv2
                have v3 : decide (W9 ≤ 5) = false := decide_eq_false hv3
                rw [HE, if_neg (by omega)]
                clear HE k hu1 hu2 hv0 hv1 hv2 hv3
                go_enter Try.func34, Try.ntmps34
                go_upto_region 1 with fail
                rw [← hW0]; clear hW0
                go_wp2_with fail
                go_ret
                exact ⟨rfl, B0.out⟩
              case pos =>
                by_cases hv4 : 0 ≤ D
                case neg =>
                  have u1 : decide (-604799 ≤ T) = true := decide_eq_true hu1
                  have u2 : decide (T ≤ 604799) = true := decide_eq_true hu2
                  have v0 : decide (1 ≤ M) = true := decide_eq_true hv0
                  have v1 : decide (M ≤ 12) = true := decide_eq_true hv1
                  have v2 : decide (1 ≤ W9) = true := decide_eq_true hv2
                  have v3 : decide (W9 ≤ 5) = true := decide_eq_true hv3
                  have v4 : decide (0 ≤ D) = false := decide_eq_false hv4
                  rw [HE, if_neg (by omega)]
                  clear HE k hu1 hu2 hv0 hv1 hv2 hv3 hv4
                  go_enter Try.func34, Try.ntmps34
                  go_upto_region 1 with fail
                  rw [← hW0]; clear hW0
                  go_wp2_with fail
                  go_ret
                  exact ⟨rfl, B0.out⟩
                case pos =>
                  by_cases hv5 : D ≤ 6
                  case neg =>
                    have u1 : decide (-604799 ≤ T) = true := decide_eq_true hu1
                    have u2 : decide (T ≤ 604799) = true := decide_eq_true hu2
                    have v0 : decide (1 ≤ M) = true := decide_eq_true hv0
                    have v1 : decide (M ≤ 12) = true := decide_eq_true hv1
                    have v2 : decide (1 ≤ W9) = true := decide_eq_true hv2
                    have v3 : decide (W9 ≤ 5) = true := decide_eq_true hv3
                    have v4 : decide (0 ≤ D) = true := decide_eq_true hv4
                    have v5 : decide (D ≤ 6) = false := decide_eq_false hv5
                    rw [HE, if_neg (by omega)]
                    clear HE k hu1 hu2 hv0 hv1 hv2 hv3 hv4 hv5
                    go_enter Try.func34, Try.ntmps34
                    go_upto_region 1 with fail
                    rw [← hW0]; clear hW0
                    go_wp2_with fail
                    go_ret
                    exact ⟨rfl, B0.out⟩
                  case pos =>
                    have u1 : decide (-604799 ≤ T) = true := decide_eq_true hu1
                    have u2 : decide (T ≤ 604799) = true := decide_eq_true hu2
                    have v0 : decide (1 ≤ M) = true := decide_eq_true hv0
                    have v1 : decide (M ≤ 12) = true := decide_eq_true hv1
                    have v2 : decide (1 ≤ W9) = true := decide_eq_true hv2
                    have v3 : decide (W9 ≤ 5) = true := decide_eq_true hv3
                    have v4 : decide (0 ≤ D) = true := decide_eq_true hv4
                    have v5 : decide (D ≤ 6) = true := decide_eq_true hv5
                    rw [HE, if_pos (by omega)]
                    clear HE k hu1 hu2 hv0 hv1 hv2 hv3 hv4 hv5
                    go_enter Try.func34, Try.ntmps34
                    go_upto_region 1 with fail
                    rw [← hW0]; clear hW0
                    go_wp2_with fail
                    go_ret
                    exact ⟨rfl, B0.out⟩
  · have HE : E = 11 := by rw [hu, if_neg (by omega)]
    have j1 : (K == 1) = false := eq_no (by omega)
    have j2 : (K == 2) = false := eq_no (by omega)
    have j3 : (K == 3) = false := eq_no (by omega)
    clear hu
    by_cases hu1 : -604799 ≤ T
    case neg =>
      have u1 : decide (-604799 ≤ T) = false := decide_eq_false hu1
      rw [HE]
      clear HE k k2 k3 hu1
      go_enter Try.func34, Try.ntmps34
      go_upto_region 1 with fail
      rw [← hW0]; clear hW0
      go_wp2_with fail
      go_ret
      exact ⟨rfl, B0.out⟩
    case pos =>
      by_cases hu2 : T ≤ 604799
      case neg =>
        have u1 : decide (-604799 ≤ T) = true := decide_eq_true hu1
        have u2 : decide (T ≤ 604799) = false := decide_eq_false hu2
        rw [HE]
        clear HE k k2 k3 hu1 hu2
        go_enter Try.func34, Try.ntmps34
        go_upto_region 1 with fail
        rw [← hW0]; clear hW0
        go_wp2_with fail
        go_ret
        exact ⟨rfl, B0.out⟩
      case pos =>
        have u1 : decide (-604799 ≤ T) = true := decide_eq_true hu1
        have u2 : decide (T ≤ 604799) = true := decide_eq_true hu2
        rw [HE]
        clear HE k k2 k3 hu1 hu2
        go_enter Try.func34, Try.ntmps34
        go_upto_region 1 with fail
        rw [← hW0]; clear hW0
        go_wp2_with fail
        go_ret
        exact ⟨rfl, B0.out⟩
end Go.Proofs.Ytkhcneacjnpcnaa
