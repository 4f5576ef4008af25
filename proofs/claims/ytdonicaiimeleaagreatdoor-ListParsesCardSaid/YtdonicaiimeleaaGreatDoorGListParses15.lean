/- Merged: DayC, DayD, DayE, DayF, DayG. -/
import Derived.Test.YtdonicaiimeleaaGreatDoorGListParses14
import Derived.Deep.LoopGhost
import Derived.Deep.Draws
import Derived.Deep.QuietTactic
import Derived.BigQuiet
import Derived.Shelf.Abstract
namespace Go.Proofs.YtdonicaiimeleaaGreatDoor
open Go.RowKit
set_option linter.unusedVariables false

set_option maxHeartbeats 4000000 in
/-- A search among the first n numbers: r of them are told false, and all behind these true. -/
theorem search_any (g : Nat) (cb : Array Value) (n r : Nat) (p : Nat → Bool) (w : World) (eg : ∀ args w, (callFunc g args).run Tryz.prog w = .ok (.enter g args) w) (hn : n < 4611686018427387904) (hr : r ≤ n)
    (hf : ∀ (m i : Nat), i < n → Calls Tryz.prog g (#[.int .i64 i] ++ cb) (w.drewN m) fun e w' => e = .returned (.bool (p i)) ∧ ∃ q, w' = (w.drewN m).drewN q)
    (hlo : ∀ i, i < r → p i = false) (hhi : ∀ i, r ≤ i → i < n → p i = true) :
    Calls Tryz.prog 160 #[.int .i64 n, .func (.func g) #[] cb] w fun e w' => e = .returned (.int .i64 r) ∧ ∃ q, w' = w.drewN q := by
  have HF := Lib.hid hf; have L := Lib.hid hlo; have H := Lib.hid hhi
  clear hf hlo hhi
  go_enter Tryz.func160, Tryz.ntmps160
  go_wp2
  go_loopg [5, 6] n (fun kx s5 s6 wr => ∃ (lo hi q : Nat), s5 = .int .i64 lo ∧ s6 = .int .i64 hi ∧ lo ≤ r ∧ r ≤ hi ∧ hi ≤ n ∧ hi - lo ≤ kx ∧ wr = w.drewN q)
  case atStart => exact ⟨0, n, 0, rfl, rfl, Nat.zero_le _, hr, Nat.le_refl _, by omega, rfl⟩
  case round =>
    obtain ⟨lo, hi, q, rfl, rfl, h1, h2, h3, h4, rfl⟩ := hrel
    by_cases hlt : lo < hi
    · have hc := HF.out q ((lo + hi) / 2) (by omega)
      rw [show (((lo + hi) / 2 : Nat) : Int) = ((lo : Int) + (hi : Int)) / 2 by omega] at hc
      by_cases hp : (lo + hi) / 2 < r
      · rw [L.out _ hp] at hc
        go_wp2_with (go_at_fn g; refine hc.mono ?_; rintro e w' ⟨rfl, nq, rfl⟩)
        go_roundg (hi - ((lo + hi) / 2 + 1))
        case measure => omega
        case rel => exact ⟨(lo + hi) / 2 + 1, hi, q + nq, by rw [show ((lo : Int) + (hi : Int)) / 2 + 1 = (((lo + hi) / 2 + 1 : Nat) : Int) by omega], rfl, by omega, h2, h3, Nat.le_refl _, rfl⟩
      · rw [H.out _ (by omega) (by omega)] at hc
        go_wp2_with (go_at_fn g; refine hc.mono ?_; rintro e w' ⟨rfl, nq, rfl⟩)
        go_roundg ((lo + hi) / 2 - lo)
        case measure => omega
        case rel => exact ⟨lo, (lo + hi) / 2, q + nq, rfl, by rw [show ((lo : Int) + (hi : Int)) / 2 = (((lo + hi) / 2 : Nat) : Int) by omega], h1, by omega, by omega, Nat.le_refl _, rfl⟩
    · obtain rfl : r = lo := by omega
      go_wp2
      go_ret
      exact ⟨rfl, q, rfl⟩

set_option maxHeartbeats 1000000 in
/-- Of a year: does it end behind the day? -/
theorem year_closure (b : Nat) (n : Int) (i : Nat) (W : World) (hi : i < 19998) (hc : W.cell? ⟨b, 0, none⟩ = some (.int .i64 n)) :
    Calls Tryz.prog 161 (#[.int .i64 i] ++ #[.pointer (some ⟨b, 0, none⟩)]) W fun e w' => e = .returned (.bool (decide (n < st (-9999 + i + 1)))) ∧ ∃ q, w' = W.drewN q := by
  have hs := fun w => start_any (-9999 + i + 1) w (by omega) (by omega)
  have hz : (i : Int) < 19998 := by omega
  have HS := Lib.hid hs; clear hs
  generalize st (-9999 + i + 1) = v at *
  have s1 : IntKind.i64.wrap (-9999 + (i : Int)) = -9999 + i := IntWalk.i64_in _ (by omega)
  have s2 : IntKind.i64.wrap (-9999 + (i : Int) + 1) = -9999 + i + 1 := IntWalk.i64_in _ (by omega)
  go_enter Tryz.func161, Tryz.ntmps161
  go_wp2
  go_quiet ((go_at_call 128; exact Calls.quiet_of_same ((HS.out _).mono fun _ _ h => ⟨h.1, h.2.symm⟩)))
  go_wp2
  go_ret
  exact ⟨rfl, _, rfl⟩

set_option maxHeartbeats 1000000 in
/-- Of a month: does it end with the day, or behind it? -/
theorem month_closure (a b : Nat) (y k : Int) (i : Nat) (W : World) (hi : i < 11) (hk : W.cell? ⟨a, 0, none⟩ = some (.int .i64 k)) (hy : W.cell? ⟨b, 0, none⟩ = some (.int .i64 y)) (he : Ends W) :
    Calls Tryz.prog 162 (#[.int .i64 i] ++ #[.pointer (some ⟨a, 0, none⟩), .pointer (some ⟨b, 0, none⟩)]) W fun e w' => e = .returned (.bool (decide (k ≤ em y (i + 1)))) ∧ ∃ q, w' = W.drewN q := by
  have hs : ∀ m, Calls Tryz.prog 130 #[.int .i64 y, .int .i64 (i + 1)] (W.drewN m) fun e w' => e = .returned (.int .i64 (em y (i + 1))) ∧ W.drewN m = w' := fun m => end_any y (i + 1) (W.drewN m) (by omega) (by omega) he
  have hz : (i : Int) < 11 := by omega
  have HS := Lib.hid hs; clear hs he
  generalize em y (i + 1) = v at *
  have s1 : IntKind.i64.wrap ((i : Int) + 1) = i + 1 := IntWalk.i64_in _ (by omega)
  go_enter Tryz.func162, Tryz.ntmps162
  go_wp2
  go_quiet ((go_at_call 130; exact Calls.quiet_of_same ((HS.out _).mono fun _ _ h => ⟨h.1, h.2.symm⟩)))
  go_wp2
  go_ret
  exact ⟨rfl, _, rfl⟩

/-- A box just laid. -/
theorem dbox_cell (W : World) (v : Value) (t : TypeId) : (W.alloc (.cells #[v] t)).cell? ⟨W.heap.size, 0, none⟩ = some v := by
  rw [World.cell?_alloc_at _ _ _ _ (by simp)]; rfl
theorem drewN_below (B : Nat) (w : World) (q : Nat) : Below B w (w.drewN q) := ⟨rfl, rfl, rfl, Nat.le_refl _, fun _ _ => rfl⟩

theorem enters_year : ∀ args w, (callFunc 161 args).run Tryz.prog w = .ok (.enter 161 args) w := enters_of Tryz.func161 (by kernel_rfl) rfl
theorem enters_month : ∀ args w, (callFunc 162 args).run Tryz.prog w = .ok (.enter 162 args) w := enters_of Tryz.func162 (by kernel_rfl) rfl

set_option maxHeartbeats 1000000 in
theorem yearof_any (n y : Int) (w : World) (hy : isy y) (h1 : st y ≤ n) (h2 : n < st (y + 1)) :
    Calls Tryz.prog 127 #[.int .i64 n] w fun e w' => e = .returned (.int .i64 y) ∧ Below w.heap.size w w' := by
  unfold isy at hy
  obtain ⟨r, rfl⟩ : ∃ r : Nat, y = -9999 + r := ⟨(y + 9999).toNat, by omega⟩
  obtain ⟨W0, hW0⟩ : ∃ W0, W0 = w.alloc (.cells #[.int .i64 n] 2) := ⟨_, rfl⟩
  have hc : W0.cell? ⟨w.heap.size, 0, none⟩ = some (.int .i64 n) := by rw [hW0]; exact dbox_cell w _ _
  have hB : Hid (Below w.heap.size w W0) := Lib.hid (by rw [hW0]; exact (Below.refl _ w).alloc (Nat.le_refl _) _)
  have hS := search_any 161 #[.pointer (some ⟨w.heap.size, 0, none⟩)] 19998 r (fun i => decide (n < st (-9999 + i + 1))) W0 enters_year (by omega) (by omega)
    (fun m i hi => year_closure w.heap.size n i (W0.drewN m) hi hc)
    (fun i hi => decide_eq_false (by have := st_mono (a := -9999 + i + 1) (b := -9999 + r) (by omega); omega))
    (fun i hi hi' => decide_eq_true (by have := st_mono (a := -9999 + r + 1) (b := -9999 + i + 1) (by omega); omega))
  have hr : (r : Int) ≤ 19998 := by omega
  clear hc h1 h2 hy
  have HS := Lib.hid hS; clear hS
  go_enter Tryz.func127, Tryz.ntmps127
  go_wp2_with (go_at_call 160; rw [← hW0]; refine HS.out.mono ?_; rintro e w' ⟨rfl, q, rfl⟩)
  go_ret
  rw [← hW0]
  exact ⟨rfl, hB.out.trans (drewN_below _ _ _)⟩

set_option maxHeartbeats 1000000 in
theorem monthof_any (y k m : Int) (w : World) (hm : 1 ≤ m) (hm' : m ≤ 12) (h1 : em y (m - 1) < k) (h2 : k ≤ em y m) (he : Ends w) :
    Calls Tryz.prog 129 #[.int .i64 y, .int .i64 k] w fun e w' => e = .returned (.int .i64 m) ∧ Below w.heap.size w w' := by
  obtain ⟨r, rfl⟩ : ∃ r : Nat, m = 1 + r := ⟨(m - 1).toNat, by omega⟩
  obtain ⟨W0, hW0⟩ : ∃ W0, W0 = (w.alloc (.cells #[.int .i64 y] 3)).alloc (.cells #[.int .i64 k] 3) := ⟨_, rfl⟩
  have hsz : (w.alloc (.cells #[.int .i64 y] 3)).heap.size = w.heap.size + 1 := by simp
  have ck : W0.cell? ⟨w.heap.size + 1, 0, none⟩ = some (.int .i64 k) := by rw [hW0, ← hsz]; exact dbox_cell _ _ _
  have hB1 : Below w.heap.size w (w.alloc (.cells #[.int .i64 y] 3)) := (Below.refl _ w).alloc (Nat.le_refl _) _
  have hB2 : Below (w.heap.size + 1) (w.alloc (.cells #[.int .i64 y] 3)) W0 := by rw [hW0]; exact (Below.refl _ _).alloc (by simp) _
  have cy : W0.cell? ⟨w.heap.size, 0, none⟩ = some (.int .i64 y) := (hB2.cell (p := ⟨w.heap.size, 0, none⟩) (by simp)).trans (dbox_cell w _ _)
  have hB := Lib.hid (hB1.trans (hB2.mono (Nat.le_succ _)))
  have hE : Ends W0 := he.below hB.out
  have hS := search_any 162 #[.pointer (some ⟨w.heap.size + 1, 0, none⟩), .pointer (some ⟨w.heap.size, 0, none⟩)] 11 r (fun i => decide (k ≤ em y (i + 1))) W0 enters_month (by omega) (by omega)
    (fun j i hi => month_closure (w.heap.size + 1) w.heap.size y k i (W0.drewN j) hi ck cy hE)
    (fun i hi => decide_eq_false (by have := em_mono y (a := i + 1) (b := 1 + r - 1) (by omega) (by omega) (by omega); omega))
    (fun i hi hi' => decide_eq_true (by have := em_mono y (a := 1 + r) (b := i + 1) (by omega) (by omega) (by omega); omega))
  have hr : (r : Int) ≤ 11 := by omega
  clear ck cy hE he hB1 hB2 hsz h1 h2
  have HS := Lib.hid hS; clear hS
  go_enter Tryz.func129, Tryz.ntmps129
  go_wp2_with (go_at_call 160; rw [← hW0]; refine HS.out.mono ?_; rintro e w' ⟨rfl, q, rfl⟩)
  go_ret
  rw [← hW0]
  exact ⟨rfl, hB.out.trans (drewN_below _ _ _)⟩

end Go.Proofs.YtdonicaiimeleaaGreatDoor

namespace Go.Proofs.YtdonicaiimeleaaGreatDoor
open Go.RowKit
set_option linter.unusedVariables false

/-- Four results. -/
theorem results_tmp4 {fn : Func} {t u v x : Tmp} (h : fn.results = #[.tmp t, .tmp u, .tmp v, .tmp x]) (tmps : Array Value) (P : Program) (w : World) :
    (results fn tmps).run P w = .ok (.tuple #[tmps.getD t undef, tmps.getD u undef, tmps.getD v undef, tmps.getD x undef]) w := by
  simp [results, h]
theorem ret4_eq {x x' y y' z z' u u' : Value} (h : x = x') (k : y = y') (l : z = z') (m : u = u') : Ending.returned (.tuple #[x, y, z, u]) = Ending.returned (.tuple #[x', y', z', u']) := by rw [h, k, l, m]

theorem date_none (n : Int) (w : World) (hn : n < -4371587 ∨ 2932896 < n) :
    Calls Tryz.prog 101 #[.int .i64 n] w fun e w' => e = .returned (.tuple #[.int .i64 0, .int .i64 0, .int .i64 0, ev 13]) ∧ w = w' := by
  have hF := first_any w
  have hL := last_any w
  rw [ev_pos (by decide)]
  rcases (by omega : n < -4371587 ∨ (¬ n < -4371587 ∧ n > 2932896)) with h | ⟨h, h'⟩
  all_goals
    go_enter Tryz.func101, Tryz.ntmps101
    go_wp2_with (first
      | (go_at_call 118; refine hF.mono ?_; rintro e w' ⟨rfl, rfl⟩)
      | (go_at_call 119; refine hL.mono ?_; rintro e w' ⟨rfl, rfl⟩))
    (try simp only [Exit.inBlock, Exit.then])
    refine bodyPost_ret (results_tmp4 rfl _ _ _) rfl ?_
    exact ⟨rfl, rfl⟩

set_option maxHeartbeats 1000000 in
theorem date_some (n y m d : Int) (w : World) (hd : Dt n y m d) (he : Ends w) :
    Calls Tryz.prog 101 #[.int .i64 n] w fun e w' => e = .returned (.tuple #[.int .i64 y, .int .i64 m, .int .i64 d, ev 0]) ∧ Below w.heap.size w w' := by
  have hF := fun w => first_any w
  have hL := fun w => last_any w
  obtain ⟨e1, e2, e3, e4⟩ := hd.ends
  have hr := hd.range
  obtain ⟨hy, m1, m2, d1, d2, hn⟩ := hd
  have hY := yearof_any n y w hy e1 e2
  have hS := fun w => start_any y w (by have := hy.1; omega) (by have := hy.2; omega)
  have hM := fun w he => monthof_any y (n - st y + 1) m w m1 m2 (by omega) (by omega) he
  have hE := fun w he => end_any y (m - 1) w (by omega) (by omega) he
  have b := em_bd y (m := m - 1) (by omega) (by omega)
  have s := st_in hy
  have k1 : ¬ n < -4371587 := by omega
  have k2 : ¬ n > 2932896 := by omega
  have l := yd_bd y
  have q : 0 ≤ n - st y ∧ n - st y ≤ 366 := by rw [st_succ] at e2; omega
  have N : Hid (n - st y + 1 - em y (m - 1) = d) := Lib.hid (by omega)
  have HE := Lib.hid he
  clear e1 e2 e3 e4 hn d2 d1 hy he
  generalize st y = S at *
  generalize em y (m - 1) = E at *
  generalize yd y = Y at *
  go_enter Tryz.func101, Tryz.ntmps101
  go_wp2_with (first
    | (go_at_call 118; refine (hF _).mono ?_; rintro e w' ⟨rfl, rfl⟩)
    | (go_at_call 119; refine (hL _).mono ?_; rintro e w' ⟨rfl, rfl⟩))
  refine hY.mono ?_
  rintro e w1 ⟨rfl, hb1⟩
  have B1 := Lib.hid hb1
  have E1 := Lib.hid (HE.out.below hb1)
  clear hb1
  go_wp2_with (go_at_call 128; refine (hS _).mono ?_; rintro e w' ⟨rfl, rfl⟩)
  refine (hM _ E1.out).mono ?_
  rintro e w2 ⟨rfl, hb2⟩
  have B2 := Lib.hid (B1.out.trans (hb2.mono B1.out.size))
  have E2 := Lib.hid (E1.out.below hb2)
  clear hb2
  go_wp2_with (go_at_call 130; refine (hE _ E2.out).mono ?_; rintro e w' ⟨rfl, rfl⟩)
  (try simp only [Exit.inBlock, Exit.then])
  refine bodyPost_ret (results_tmp4 rfl _ _ _) rfl ?_
  exact ⟨ret4_eq rfl rfl (int_eq N.out) rfl, B2.out⟩

end Go.Proofs.YtdonicaiimeleaaGreatDoor

namespace Go.Proofs.YtdonicaiimeleaaGreatDoor
open Go.RowKit
set_option linter.unusedVariables false

theorem rleap_any (y : Int) (w : World) : Calls Tryz.prog 82 #[.int .i64 y] w fun e w' => e = .returned (.bool (lp y)) ∧ w = w' := by
  have h4 := tm_zero y 4; have h100 := tm_zero y 100; have h400 := tm_zero y 400
  by_cases c : y % 400 = 0
  · rw [decide_eq_true c] at h400
    rw [lp_yes.2 ⟨by omega, Or.inr c⟩]
    clear c h4 h100
    go_enter Tryz.func82, Tryz.ntmps82
    go_wp2
    go_ret
    exact ⟨rfl, rfl⟩
  · rw [decide_eq_false c] at h400
    by_cases a : y % 4 = 0
    · rw [decide_eq_true a] at h4
      by_cases b : y % 100 = 0
      · rw [decide_eq_true b] at h100
        have h100' : (y.tmod 100 != 0) = false := by rw [bne, h100]; rfl
        rw [lp_no.2 (by omega)]
        clear a b c
        go_enter Tryz.func82, Tryz.ntmps82
        go_wp2
        go_ret
        exact ⟨rfl, rfl⟩
      · rw [decide_eq_false b] at h100
        have h100' : (y.tmod 100 != 0) = true := by rw [bne, h100]; rfl
        rw [lp_yes.2 ⟨a, Or.inl b⟩]
        clear a b c
        go_enter Tryz.func82, Tryz.ntmps82
        go_wp2
        go_ret
        exact ⟨rfl, rfl⟩
    · rw [decide_eq_false a] at h4
      rw [lp_no.2 (by omega)]
      clear a c h100
      go_enter Tryz.func82, Tryz.ntmps82
      go_wp2
      go_ret
      exact ⟨rfl, rfl⟩

theorem rdays_any (y : Int) (w : World) : Calls Tryz.prog 54 #[.int .i64 y] w fun e w' => e = .returned (.int .i64 (yd y)) ∧ w = w' := by
  have hL := rleap_any y w
  have e : yd y = if lp y = true then 366 else 365 := rfl
  rw [e]; clear e
  cases hl : lp y
  all_goals
    rw [hl] at hL
    clear hl
    go_enter Tryz.func54, Tryz.ntmps54
    go_wp2_with (go_at_call 82; refine hL.mono ?_; rintro e w' ⟨rfl, rfl⟩)
    go_ret
    exact ⟨rfl, rfl⟩

set_option maxHeartbeats 2000000 in
theorem rmonth_any (y m : Int) (w : World) (h : 1 ≤ m) (h' : m ≤ 12) : Calls Tryz.prog 55 #[.int .i64 y, .int .i64 m] w fun e w' => e = .returned (.int .i64 (ml y m)) ∧ Below w.heap.size w w' := by
  rw [ml_is y h h']
  have hL := fun w => rleap_any y w
  generalize lp y = l at *
  have HL := Lib.hid hL; clear hL
  rcases twelve h h' with rfl | rfl | rfl | rfl | rfl | rfl | rfl | rfl | rfl | rfl | rfl | rfl
  all_goals
    cases l
    all_goals
      clear h h'
      go_enter Tryz.func55, Tryz.ntmps55
      go_wp2_with (go_at_call 82; refine (HL.out _).mono ?_; rintro e w' ⟨rfl, rfl⟩)
      go_ret
      exact ⟨rfl, by go_grown⟩

end Go.Proofs.YtdonicaiimeleaaGreatDoor

namespace Go.Proofs.YtdonicaiimeleaaGreatDoor
open Go.RowKit
set_option linter.unusedVariables false

set_option maxHeartbeats 2000000 in
theorem rstart_any (y : Int) (w : World) (h : -30000 ≤ y) (h' : y ≤ 30000) : Calls Tryz.prog 28 #[.int .i64 y] w fun e w' => e = .returned (.int .i64 (st y)) ∧ w = w' := by
  have bs := st_bd h h'
  have hD := fun y w => rdays_any y w
  have HD := Lib.hid hD; clear hD
  obtain ⟨S, hS⟩ : ∃ S, S = st y := ⟨_, rfl⟩
  have HS := Lib.hid hS
  rw [← hS] at bs ⊢
  clear hS
  go_enter Tryz.func28, Tryz.ntmps28
  go_wp2
  go_loop [0, 3] (fun a b => ∃ x n : Int, a = .int .i64 x ∧ b = .int .i64 n ∧ -30000 ≤ x ∧ x ≤ 30000 ∧ -40000000 ≤ n ∧ n ≤ 0 ∧ Hid (n + st x = S)) (fun a _ => (1970 - intOf a).toNat)
  case atStart => exact ⟨y, 0, rfl, rfl, h, h', by omega, by omega, Lib.hid (by rw [HS.out]; omega)⟩
  case round =>
    obtain ⟨x, n, rfl, rfl, x1, x2, n1, n2, I⟩ := hrel
    by_cases hlt : x < 1970
    · have I2 : Hid (n - 146097 + st (x + 400) = S) := Lib.hid (by rw [st_cycle, ← I.out]; omega)
      have bx : -40000000 ≤ n - 146097 := by have := st_mono (a := x) (b := 1969) (by omega); have := I.out; rw [show st 1969 = -365 by decide] at *; omega
      go_wp2
      go_round
      case rel => exact ⟨x + 400, n - 146097, rfl, rfl, by omega, by omega, bx, by omega, I2⟩
      case measure => simp [intOf]; omega
    · have x0 : 1970 ≤ x := by omega
      have n0 : -40000000 ≤ n ∧ n ≤ 0 := ⟨n1, n2⟩
      clear hlt n1 n2
      go_wp2
      go_loop [0, 3] (fun a b => ∃ x n : Int, a = .int .i64 x ∧ b = .int .i64 n ∧ 1970 ≤ x ∧ x ≤ 30000 ∧ -40000000 ≤ n ∧ n ≤ 40000000 ∧ Hid (n + st x = S)) (fun a _ => (intOf a).toNat)
      case atStart => exact ⟨x, n, rfl, rfl, x0, x2, n0.1, by omega, I⟩
      case round =>
        clear I n0 x0 x1 x2
        obtain ⟨x, n, rfl, rfl, x1, x2, n1, n2, I⟩ := hrel
        by_cases hge : x ≥ 2370
        · have I2 : Hid (n + 146097 + st (x - 400) = S) := Lib.hid (by have := st_cycle (x - 400); rw [show x - 400 + 400 = x by omega] at this; rw [← I.out]; omega)
          have bx : n + 146097 ≤ 40000000 := by have := st_mono (a := 1970) (b := x - 400) (by omega); have := I2.out; rw [st_1970] at *; omega
          go_wp2
          go_round
          case rel => exact ⟨x - 400, n + 146097, rfl, rfl, by omega, by omega, by omega, bx, I2⟩
          case measure => simp [intOf]; omega
        · have x3 : x < 2370 := by omega
          clear hge x2
          go_wp2
          go_loop [3, 4] (fun a b => ∃ v z : Int, a = .int .i64 v ∧ b = .int .i64 z ∧ 1970 ≤ z ∧ z ≤ x ∧ -40000000 ≤ v ∧ v ≤ 50000000 + 400 * (z - 1970) ∧ Hid (v = n + st z)) (fun _ b => (x - intOf b).toNat)
          case atStart => exact ⟨n, 1970, rfl, rfl, by omega, x1, n1, by omega, Lib.hid (by rw [st_1970]; omega)⟩
          case round =>
            obtain ⟨v, z, rfl, rfl, z1, z2, v1, v2, J⟩ := hrel
            by_cases hl : z < x
            · have J2 : Hid (v + yd z = n + st (z + 1)) := Lib.hid (by rw [st_succ, J.out]; omega)
              have b := yd_bd z
              have hD := HD.out z w
              generalize yd z = l at *
              go_wp2_with (go_at_call 54; refine hD.mono ?_; rintro e w' ⟨rfl, rfl⟩)
              go_round
              case rel => exact ⟨v + l, z + 1, rfl, rfl, by omega, by omega, by omega, by omega, J2⟩
              case measure => simp [intOf]; omega
            · obtain rfl : x = z := by omega
              have E : Hid (v = S) := Lib.hid (by rw [J.out]; exact I.out)
              go_wp2
              go_ret
              exact ⟨ret1_eq (int_eq E.out), rfl⟩
theorem rlast_any (w : World) : Calls Tryz.prog 29 #[] w fun e w' => e = .returned (.int .i64 2932896) ∧ w = w' := by
  have hS := rstart_any 10000 w (by omega) (by omega)
  rw [st_end] at hS
  go_enter Tryz.func29, Tryz.ntmps29
  go_wp2_with (go_at_call 28; refine hS.mono ?_; rintro e w' ⟨rfl, rfl⟩)
  go_ret
  exact ⟨rfl, rfl⟩

set_option maxHeartbeats 1000000 in
theorem rof_any (y m d : Int) (w : World) (hy : isy y) (h : 1 ≤ m) (h' : m ≤ 12) (hd : 1 ≤ d) (hd' : d ≤ 31) : Calls Tryz.prog 32 #[.int .i64 y, .int .i64 m, .int .i64 d] w fun e w' => e = .returned (.int .i64 (st y + em y (m - 1) + d - 1)) ∧ Below w.heap.size w w' := by
  have hS := rstart_any y w (by have := hy.1; omega) (by have := hy.2; omega)
  have bs := st_in hy
  have bl := yd_bd y
  clear hy
  obtain ⟨z, hz⟩ : ∃ z, z = st y := ⟨_, rfl⟩
  have HZ := Lib.hid hz
  rw [← hz] at hS bs ⊢
  generalize yd y = Y at *
  clear hz
  have hS' := Lib.hid hS; clear hS
  go_enter Tryz.func32, Tryz.ntmps32
  go_wp2_with (go_at_call 28; refine hS'.out.mono ?_; rintro e w' ⟨rfl, rfl⟩)
  go_loopg [7, 8] (13 : Nat) (fun g a b wr => ∃ v x : Int, a = .int .i64 v ∧ b = .int .i64 x ∧ 1 ≤ x ∧ x ≤ m ∧ 12 - x ≤ g ∧ z ≤ v ∧ v ≤ z + 31 * x ∧ Hid (v = z + em y (x - 1) + d - 1) ∧ Hid (Below w.heap.size w wr))
  case atStart => exact ⟨z + d - 1, 1, rfl, rfl, by omega, h, by omega, by omega, by omega, Lib.hid (by rw [show (1 : Int) - 1 = 0 by omega, em_zero]; omega), Lib.hid (Below.refl _ _)⟩
  case round =>
    obtain ⟨v, x, rfl, rfl, x1, x2, hg, v1, v2, I, B⟩ := hrel
    by_cases hl : x < m
    · have hM := fun w => rmonth_any y x w x1 (by omega)
      have b := ml_bd y x1 (by omega)
      have I2 : Hid (v + ml y x = z + em y (x + 1 - 1) + d - 1) := Lib.hid (by have := em_succ y x; rw [show x + 1 - 1 = x by omega, I.out]; omega)
      generalize ml y x = l at *
      have HM := Lib.hid hM; clear hM
      go_wp2_with fail
      refine (HM.out _).mono ?_
      rintro e w1 ⟨rfl, hb⟩
      have B2 := Lib.hid (B.out.trans (hb.mono B.out.size))
      clear hb
      go_wp2_with fail
      go_roundg (12 - (x + 1)).toNat
      case measure => omega
      case rel => exact ⟨v + l, x + 1, rfl, rfl, by omega, by omega, by omega, by omega, by omega, I2, B2⟩
    · obtain rfl : m = x := by omega
      go_wp2
      go_ret
      exact ⟨ret1_eq (int_eq I.out), B.out⟩

end Go.Proofs.YtdonicaiimeleaaGreatDoor

namespace Go.Proofs.YtdonicaiimeleaaGreatDoor
open Go.RowKit
set_option linter.unusedVariables false

/-- Below the year's end lies a date whose month isn't over. -/
theorem month_left (y x : Int) (h1 : 1 ≤ x) (h2 : x ≤ 12) (r n : Int) (hn : r = n - st y - em y (x - 1)) (hr : n < st (y + 1)) : (¬ r ≥ ml y x) ∨ (r ≥ ml y x ∧ x < 12) := by
  by_cases c : r ≥ ml y x
  · refine Or.inr ⟨c, ?_⟩
    have e := em_succ y x
    rcases (by omega : x < 12 ∨ x = 12) with g | rfl
    · exact g
    · have k := em_yd y
      rw [st_succ] at hr
      omega
  · exact Or.inl c

set_option maxHeartbeats 4000000 in
theorem rdate_some (n y m d : Int) (w : World) (hd : Dt n y m d) :
    Calls Tryz.prog 30 #[.int .i64 n] w fun e w' => e = .returned (.tuple #[.int .i64 y, .int .i64 m, .int .i64 d]) ∧ Below w.heap.size w w' := by
  have hr := hd.range
  have DT := Lib.hid hd
  have hD := Lib.hid (fun y w => rdays_any y w)
  have hM := Lib.hid (fun y m w h h' => rmonth_any y m w h h')
  clear hd
  go_enter Tryz.func30, Tryz.ntmps30
  go_wp2
  go_loop [0, 5] (fun a b => ∃ r x : Int, a = .int .i64 r ∧ b = .int .i64 x ∧ -5000000 ≤ r ∧ r ≤ 5000000 ∧ -30000 ≤ x ∧ x ≤ 1970 ∧ Hid (r + st x = n)) (fun a _ => (-(intOf a)).toNat)
  case atStart => exact ⟨n, 1970, rfl, rfl, by omega, by omega, by omega, by omega, Lib.hid (by rw [st_1970]; omega)⟩
  case round =>
    obtain ⟨r, x, rfl, rfl, r1, r2, x1, x2, I⟩ := hrel
    by_cases hlt : r < 0
    · have I2 : Hid (r + 146097 + st (x - 400) = n) := Lib.hid (by have := st_cycle (x - 400); rw [show x - 400 + 400 = x by omega] at this; rw [← I.out]; omega)
      have bx : -29000 ≤ x := by have h0 := I.out; unfold st at h0; omega
      go_wp2
      go_round
      case rel => exact ⟨r + 146097, x - 400, rfl, rfl, by omega, by omega, by omega, by omega, I2⟩
      case measure => simp [intOf]; omega
    · have r0 : 0 ≤ r := by omega
      have r3 := r2
      have x3 := x1
      clear hlt r1 r2 x1 x2
      go_wp2
      go_loop [0, 5] (fun a b => ∃ r x : Int, a = .int .i64 r ∧ b = .int .i64 x ∧ 0 ≤ r ∧ r ≤ 5000000 ∧ Hid (r + st x = n)) (fun a _ => (intOf a).toNat)
      case atStart => exact ⟨r, x, rfl, rfl, r0, r3, I⟩
      case round =>
        clear I r0 r3 x3
        obtain ⟨r, x, rfl, rfl, r1, r2, I⟩ := hrel
        have x1 : -30000 ≤ x ∧ x ≤ 29000 := by have h0 := I.out; unfold st at h0; omega
        by_cases hge : r ≥ 146097
        · have I2 : Hid (r - 146097 + st (x + 400) = n) := Lib.hid (by have := st_cycle x; rw [← I.out]; omega)
          go_wp2
          go_round
          case rel => exact ⟨r - 146097, x + 400, rfl, rfl, by omega, by omega, I2⟩
          case measure => simp [intOf]; omega
        · clear x1
          go_wp2
          clear hge
          go_loop [0, 5] (fun a b => ∃ r x : Int, a = .int .i64 r ∧ b = .int .i64 x ∧ 0 ≤ r ∧ r ≤ 5000000 ∧ Hid (r + st x = n)) (fun a _ => (intOf a).toNat)
          case atStart => exact ⟨r, x, rfl, rfl, r1, r2, I⟩
          case round =>
            clear I r1 r2
            obtain ⟨r, x, rfl, rfl, r1, r2, I⟩ := hrel
            have x1 : -30000 ≤ x ∧ x ≤ 29000 := by have h0 := I.out; unfold st at h0; omega
            have hd := hD.out x
            have b := yd_bd x
            have sx := st_succ x
            have SX := Lib.hid sx
            clear sx
            obtain ⟨l, hl⟩ : ∃ l, l = yd x := ⟨_, rfl⟩
            have HL := Lib.hid hl
            rw [← hl] at hd b
            clear hl
            have HD := Lib.hid hd; clear hd
            by_cases hge : r ≥ l
            · have I2 : Hid (r - l + st (x + 1) = n) := Lib.hid (by rw [SX.out, ← HL.out, ← I.out]; omega)
              go_wp2_with (go_at_call 54; refine (HD.out _).mono ?_; rintro e w' ⟨rfl, rfl⟩)
              go_round
              case rel => exact ⟨r - l, x + 1, rfl, rfl, by omega, by omega, I2⟩
              case measure => simp [intOf]; omega
            · obtain ⟨rfl, hn1, hn2⟩ : x = y ∧ r = n - st x ∧ n < st (x + 1) := by
                have e := DT.out.ends
                have i := I.out; have s := SX.out; rw [← HL.out] at s
                refine ⟨?_, by omega, by omega⟩
                rcases (by omega : x < y ∨ y < x ∨ x = y) with g | g | g
                · have := st_mono (show x + 1 ≤ y by omega); omega
                · have := st_mono (show y + 1 ≤ x by omega); omega
                · exact g
              have N1 := Lib.hid hn1; have N2 := Lib.hid hn2
              clear hn1 hn2 I SX HL x1
              obtain ⟨r0, hr0⟩ : ∃ r0, r0 = r := ⟨_, rfl⟩
              have R0 := Lib.hid hr0
              clear hr0
              go_wp2_with (go_at_call 54; refine (HD.out _).mono ?_; rintro e w' ⟨rfl, rfl⟩)
              go_loopg [0, 6] (13 : Nat) (fun g a b wr => ∃ v z : Int, a = .int .i64 v ∧ b = .int .i64 z ∧ 1 ≤ z ∧ z ≤ 12 ∧ 12 - z ≤ g ∧ 0 ≤ v ∧ v ≤ 5000000 ∧ Hid (v = n - st x - em x (z - 1)) ∧ Hid (Below w.heap.size w wr))
              case atStart => exact ⟨r, 1, rfl, rfl, by omega, by omega, by omega, r1, r2, Lib.hid (by rw [show (1 : Int) - 1 = 0 by omega, em_zero]; have := N1.out; omega), Lib.hid (Below.refl _ _)⟩
              case round =>
                clear r1 r2 hge b N1 R0
                obtain ⟨v, z, rfl, rfl, z1, z2, hg, v1, v2, J, B⟩ := hrel
                have hm := hM.out x z
                have bm := ml_bd x z1 z2
                have es : Hid (em x z = em x (z - 1) + ml x z) := Lib.hid (em_succ x z)
                have mo := month_left x z z1 z2 v n J.out N2.out
                have hm' := fun w => hm w z1 z2
                clear hm
                have HM := Lib.hid hm'; clear hm'
                obtain ⟨q, hq⟩ : ∃ q, q = ml x z := ⟨_, rfl⟩
                have HQ := Lib.hid hq
                rw [← hq] at HM bm es mo
                clear hq
                rcases mo with hge | ⟨hge, hz⟩
                · go_wp2_with fail
                  refine (HM.out _).mono ?_
                  rintro e w1 ⟨rfl, hb⟩
                  have B2 := Lib.hid (B.out.trans (hb.mono B.out.size))
                  clear hb
                  go_wp2_with fail
                  have D : Dt n x z (v + 1) := ⟨DT.out.1, z1, z2, by omega, by rw [← HQ.out]; omega, by have := J.out; omega⟩
                  obtain ⟨_, e2, e3⟩ := D.one DT.out
                  go_ret3
                  exact ⟨ret3_eq rfl (int_eq e2) (int_eq e3), B2.out⟩
                · go_wp2_with fail
                  refine (HM.out _).mono ?_
                  rintro e w1 ⟨rfl, hb⟩
                  have B2 := Lib.hid (B.out.trans (hb.mono B.out.size))
                  clear hb
                  go_wp2_with fail
                  refine (HM.out _).mono ?_
                  rintro e w2 ⟨rfl, hb⟩
                  have B3 := Lib.hid (B2.out.trans (hb.mono B2.out.size))
                  clear hb
                  have J2 : Hid (v - q = n - st x - em x (z + 1 - 1)) := Lib.hid (by rw [show z + 1 - 1 = z by omega, es.out]; have := J.out; omega)
                  go_wp2_with fail
                  go_roundg (12 - (z + 1)).toNat
                  case measure => omega
                  case rel => exact ⟨v - q, z + 1, rfl, rfl, by omega, by omega, by omega, by omega, by omega, J2, B3⟩

end Go.Proofs.YtdonicaiimeleaaGreatDoor
