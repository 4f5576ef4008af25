/- A label's block; package label: isClock, isNano, isOffset, isDay, shift, Clock. -/
import Derived.Test.YtiamggjebaabkaaDoorLabM
import Derived.Test.YtiamggjebaabkaaDoorNumB
import Derived.Test.YtiamggjebaabkaaDoorDayD
import Derived.Test.YtiamggjebaabkaaDoorBlk
import Derived.Deep.DeepCutAuto
import Derived.Deep.CutRange
import Derived.Deep.CutBlock
namespace Go.Proofs.YtiamggjebaabkaaDoor
open Go.RowKit
set_option linter.unusedVariables false

/-- A label's block. -/
def Lk (T : TypeId) (w : World) (p : Nat) (l : Lb) : Prop := w.heap[p]? = some (.cells l.cells T (0, 0))
theorem Lk.lt {T : TypeId} {w : World} {p : Nat} {l : Lb} (h : Lk T w p l) : p < w.heap.size := bk_lt h
theorem Lk.free {T : TypeId} {w : World} {p : Nat} {l : Lb} (h : Lk T w p l) (i : Nat) : w.frozen? ⟨p, i, none⟩ = false := bk_free h i
theorem Lk.below {T : TypeId} {w w' : World} {p B : Nat} {l : Lb} (h : Lk T w p l) (hb : Below B w w') (hB : p < B) : Lk T w' p l := (hb.block p hB).trans h
theorem Lk.keep {T : TypeId} {w w' : World} {p : Nat} {l : Lb} (h : Lk T w p l) (hb : Below w.heap.size w w') : Lk T w' p l := h.below hb h.lt
theorem Lk.all {T : TypeId} {w : World} {p : Nat} {l : Lb} (h : Lk T w p l) :
    w.cell? ⟨p, 0, none⟩ = some (.int .i64 l.y) ∧ w.cell? ⟨p, 1, none⟩ = some (.int .i64 l.m) ∧ w.cell? ⟨p, 2, none⟩ = some (.int .i64 l.d) ∧ w.cell? ⟨p, 3, none⟩ = some (.int .i64 l.h) ∧
    w.cell? ⟨p, 4, none⟩ = some (.int .i64 l.i) ∧ w.cell? ⟨p, 5, none⟩ = some (.int .i64 l.s) ∧ w.cell? ⟨p, 6, none⟩ = some (.int .i64 l.n) ∧ w.cell? ⟨p, 7, none⟩ = some (.int .i64 l.o) :=
  ⟨bk_cell h 0, bk_cell h 1, bk_cell h 2, bk_cell h 3, bk_cell h 4, bk_cell h 5, bk_cell h 6, bk_cell h 7⟩
theorem lk_new (T : TypeId) (w : World) (l : Lb) : Lk T (w.alloc (.cells l.cells T)) w.heap.size l := heap_alloc_new w _
theorem bel_new (w : World) (o : Obj) : Below w.heap.size w (w.alloc o) := (Below.refl _ w).alloc (Nat.le_refl _) _

theorem isnano_any (n : Int) (w : World) : Calls Tryd.prog 58 #[.int .i64 n] w fun e w' => e = .returned (.bool (decide (nnok n))) ∧ w = w' := by
  rcases (by omega : (0 ≤ n ∧ n < 1000000000) ∨ (0 ≤ n ∧ ¬ n < 1000000000) ∨ ¬ 0 ≤ n) with ⟨a, b⟩ | ⟨a, b⟩ | a
  · rw [decide_eq_true (p := nnok n) ⟨a, by omega⟩]
    go_enter Tryd.func58, Tryd.ntmps58
    go_wp2
    go_ret
    exact ⟨rfl, rfl⟩
  all_goals
    rw [decide_eq_false (p := nnok n) (fun h => by unfold nnok at h; omega)]
    go_enter Tryd.func58, Tryd.ntmps58
    go_wp2
    go_ret
    exact ⟨rfl, rfl⟩
theorem isoffset_any (n : Int) (w : World) : Calls Tryd.prog 59 #[.int .i64 n] w fun e w' => e = .returned (.bool (decide (ofok n))) ∧ w = w' := by
  rcases (by omega : (-1439 ≤ n ∧ n ≤ 1439) ∨ (-1439 ≤ n ∧ ¬ n ≤ 1439) ∨ ¬ -1439 ≤ n) with ⟨a, b⟩ | ⟨a, b⟩ | a
  · rw [decide_eq_true (p := ofok n) ⟨a, by omega⟩]
    go_enter Tryd.func59, Tryd.ntmps59
    go_wp2
    go_ret
    exact ⟨rfl, rfl⟩
  all_goals
    rw [decide_eq_false (p := ofok n) (fun h => by unfold ofok at h; omega)]
    go_enter Tryd.func59, Tryd.ntmps59
    go_wp2
    go_ret
    exact ⟨rfl, rfl⟩
theorem isday_any (n : Int) (w : World) : Calls Tryd.prog 61 #[.int .i64 n] w fun e w' => e = .returned (.bool (decide (dyok n))) ∧ w = w' := by
  have e : decide (dyok n) = (decide (-4371587 ≤ n) && decide (n ≤ 2932896)) := by
    by_cases a : dyok n
    · rw [decide_eq_true a]; unfold dyok at a; simp; omega
    · rw [decide_eq_false a]; unfold dyok at a; simp; omega
  rw [e]; clear e
  have hW := within_any n (-4371587) 2932896 w
  generalize (decide (-4371587 ≤ n) && decide (n ≤ 2932896)) = b at *
  go_enter Tryd.func61, Tryd.ntmps61
  go_wp2_with (first
    | (go_at_call 86; refine (first_any _).mono ?_; rintro e w' ⟨rfl, rfl⟩)
    | (go_at_call 70; refine (last_any _).mono ?_; rintro e w' ⟨rfl, rfl⟩)
    | (go_at_call 85; refine hW.mono ?_; rintro e w' ⟨rfl, rfl⟩))
  go_ret
  exact ⟨rfl, rfl⟩

/-- The day and the minute, so many minutes later. -/
theorem shift_any (n m b : Int) (w : World) (hn : -4371587 ≤ n ∧ n ≤ 2932896) (hm : 0 ≤ m ∧ m ≤ 1439) (hb : -1439 ≤ b ∧ b ≤ 1439) :
    Calls Tryd.prog 60 #[.int .i64 n, .int .i64 m, .int .i64 b] w fun e w' => e = .returned (.tuple #[.int .i64 (n + (m + b) / 1440), .int .i64 ((m + b) % 1440)]) ∧ w = w' := by
  have hS := split_any (m + b) 1440 w (by unfold fits; omega) (by decide) (by decide)
  rw [Int.fdiv_eq_ediv_of_nonneg _ (by omega), Int.fmod_eq_emod_of_nonneg _ (by omega)] at hS
  have hq : -1 ≤ (m + b) / 1440 ∧ (m + b) / 1440 ≤ 1 := by omega
  have HS := Lib.hid hS; clear hS
  generalize (m + b) / 1440 = q at *
  generalize (m + b) % 1440 = r at *
  go_enter Tryd.func60, Tryd.ntmps60
  go_wp2_with (go_at_call 73; refine HS.out.mono ?_; rintro e w' ⟨rfl, rfl⟩)
  go_ret2
  exact ⟨rfl, rfl⟩

/-- What Clock answers. -/
def ckB (t : Int) : Prop := 0 ≤ t ∧ t ≤ 86400
instance (t : Int) : Decidable (ckB t) := by unfold ckB; infer_instance
theorem clock_no (t : Int) (w : World) (h : ¬ ckB t) : Calls Tryd.prog 71 #[.int .i64 t] w fun e w' => e = .returned (.tuple #[.int .i64 0, .int .i64 0, .int .i64 0, ev 1]) ∧ w = w' := by
  unfold ckB at h
  rw [ev_pos (by decide)]
  rcases (by omega : t < 0 ∨ (¬ t < 0 ∧ t > 86400)) with a | ⟨a, b⟩
  all_goals
    clear h
    go_enter Tryd.func71, Tryd.ntmps71
    go_wp2
    (try simp only [Exit.inBlock, Exit.then])
    refine bodyPost_ret (results_tmp4 rfl _ _ _) rfl ?_
    exact ⟨rfl, rfl⟩
theorem clock_some (t : Int) (w : World) (h : ckB t) : Calls Tryd.prog 71 #[.int .i64 t] w fun e w' => e = .returned (.tuple #[.int .i64 (cmn t / 60), .int .i64 (cmn t % 60), .int .i64 (crs t), ev 0]) ∧ w = w' := by
  unfold ckB at h
  have a : ¬ t < 0 := by omega
  have b : ¬ t > 86400 := by omega
  have h0 : 0 ≤ t := h.1
  have C : Hid (cmn t = if t / 60 ≤ 1439 then t / 60 else 1439) := Lib.hid rfl
  have R : Hid (crs t = t - 60 * cmn t) := Lib.hid rfl
  have hc : 0 ≤ cmn t ∧ cmn t ≤ 1439 := by rw [C.out]; split <;> omega
  generalize cmn t = c at *
  generalize crs t = r at *
  by_cases g : t / 60 ≤ 1439
  · obtain rfl : c = t / 60 := by rw [C.out, if_pos g]
    clear C h
    go_enter Tryd.func71, Tryd.ntmps71
    go_wp2
    (try simp only [Exit.inBlock, Exit.then])
    refine bodyPost_ret (results_tmp4 rfl _ _ _) rfl ?_
    exact ⟨ret4_eq rfl rfl (int_eq R.out.symm) rfl, rfl⟩
  · obtain rfl : c = 1439 := by rw [C.out, if_neg g]
    clear C h
    go_enter Tryd.func71, Tryd.ntmps71
    go_wp2
    (try simp only [Exit.inBlock, Exit.then])
    refine bodyPost_ret (results_tmp4 rfl _ _ _) rfl ?_
    exact ⟨ret4_eq rfl rfl (int_eq R.out.symm) rfl, rfl⟩

set_option maxHeartbeats 1000000 in
theorem isclock_any (l : Lb) (w : World) : Calls Tryd.prog 57 #[.agg l.cells] w fun e w' => e = .returned (.bool (decide (clok l.h l.i l.s))) ∧ Below w.heap.size w w' := by
  obtain ⟨W0, hW0⟩ : ∃ W0, W0 = w.alloc (.cells l.cells 26) := ⟨_, rfl⟩
  have B0 : Hid (Below w.heap.size w W0) := Lib.hid (by rw [hW0]; exact bel_new w _)
  have L0 : Lk 26 W0 w.heap.size l := by rw [hW0]; exact lk_new _ _ _
  obtain ⟨-, -, -, c3, c4, c5, -, -⟩ := L0.all
  clear L0
  have D : Hid (∀ t : Bool, (t = true ↔ clok l.h l.i l.s) → decide (clok l.h l.i l.s) = t) := Lib.hid (fun t ht => by cases t <;> simp_all)
  generalize l.h = h at *
  generalize l.i = i at *
  generalize l.s = s at *
  rcases (by omega : (0 ≤ h ∧ h < 24 ∧ 0 ≤ i ∧ i < 60 ∧ 0 ≤ s ∧ s ≤ 60) ∨ (0 ≤ h ∧ h < 24 ∧ 0 ≤ i ∧ i < 60 ∧ 0 ≤ s ∧ ¬ s ≤ 60) ∨ (0 ≤ h ∧ h < 24 ∧ 0 ≤ i ∧ i < 60 ∧ ¬ 0 ≤ s) ∨ (0 ≤ h ∧ h < 24 ∧ 0 ≤ i ∧ ¬ i < 60) ∨ (0 ≤ h ∧ h < 24 ∧ ¬ 0 ≤ i) ∨ (0 ≤ h ∧ ¬ h < 24) ∨ ¬ 0 ≤ h)
    with ⟨a0, a1, a2, a3, a4, a5⟩ | ⟨a0, a1, a2, a3, a4, a5⟩ | ⟨a0, a1, a2, a3, a4⟩ | ⟨a0, a1, a2, a3⟩ | ⟨a0, a1, a2⟩ | ⟨a0, a1⟩ | a0
  · rw [D.out true (by unfold clok; simp; omega)]
    go_enter Tryd.func57, Tryd.ntmps57
    go_upto_region 1 with fail
    rw [← hW0]; clear hW0
    go_wp2
    go_ret
    exact ⟨rfl, B0.out⟩
  all_goals
    rw [D.out false (by unfold clok; simp; omega)]
    go_enter Tryd.func57, Tryd.ntmps57
    go_upto_region 1 with fail
    rw [← hW0]; clear hW0
    go_wp2
    go_ret
    exact ⟨rfl, B0.out⟩

end Go.Proofs.YtiamggjebaabkaaDoor
