/- A day's text: package week's digits and Put; the document's Put. -/
import Derived.Test.YtplibjgfdnbifaaDoorWeekB
import Derived.Test.YtplibjgfdnbifaaDoorWeekN
import Derived.Test.YtplibjgfdnbifaaDoorRefA
import Derived.Laws.Concat
namespace Go.Proofs.YtplibjgfdnbifaaDoor
open Go.RowKit
set_option linter.unusedVariables false

theorem digits_any (n k : Int) (w : World) (hn : fits n) (hk : fits k) (ht : Tab w) :
    Calls Tryd.prog 27 #[.int .i64 n, .int .i64 k] w fun e w' => e = .returned (.string ⟨(ptL n k).toArray⟩) ∧ Below w.heap.size w w' := by
  have hP := put_any n k w hn hk ht
  have HP := Lib.hid hP; clear hP ht
  generalize ptL n k = L at *
  generalize ptE k = E at *
  go_enter Tryd.func27, Tryd.ntmps27
  go_wp2_with fail
  refine HP.out.mono ?_
  rintro e w1 ⟨rfl, hb⟩
  have B1 := Lib.hid hb; clear hb
  go_wp2_with fail
  go_ret
  exact ⟨rfl, B1.out⟩

theorem w_ptL_len {n : Int} (k : Int) (h : fits n) : (ptL n k).length ≤ 21 := by
  unfold fits at h
  have hu : n.natAbs < 10 ^ 19 := by
    have h : 9223372036854775808 < 10 ^ 19 := by decide
    omega
  have hl := dec_len (k := 19) (u := n.natAbs) (by decide) hu
  have hp := pad_len k.toNat (Lib.decDigits n.natAbs)
  unfold ptL
  split
  · simp
  · split
    · rw [List.length_cons]; omega
    · omega
theorem sums (a b c : List UInt8) (ha : a.length ≤ 100) (hb : b.length ≤ 100) (hc : c.length ≤ 100) : ∃ X1 X2 X3 : ByteArray,
    (∀ W, (Op.stringOp .add ⟨a.toArray⟩ ⟨#[45, 87]⟩).run Tryd.prog W = .ok (.string X1) W) ∧ (∀ W, (Op.stringOp .add X1 ⟨b.toArray⟩).run Tryd.prog W = .ok (.string X2) W) ∧
    (∀ W, (Op.stringOp .add X2 ⟨#[45]⟩).run Tryd.prog W = .ok (.string X3) W) ∧ (∀ W, (Op.stringOp .add X3 ⟨c.toArray⟩).run Tryd.prog W = .ok (.string ⟨(a ++ [45, 87] ++ b ++ [45] ++ c).toArray⟩) W) := by
  have e1 : (⟨#[45, 87]⟩ : ByteArray) = ⟨([45, 87] : List UInt8).toArray⟩ := rfl
  have e2 : (⟨#[45]⟩ : ByteArray) = ⟨([45] : List UInt8).toArray⟩ := rfl
  rw [e1, e2]
  have f := fun (x y : List UInt8) (hx : x.length ≤ 1000) (hy : y.length ≤ 1000) W => run_string_add_lists (P := Tryd.prog) (w := W) x y (by omega) (by omega)
  refine ⟨⟨(a ++ [45, 87]).toArray⟩, ⟨(a ++ [45, 87] ++ b).toArray⟩, ⟨(a ++ [45, 87] ++ b ++ [45]).toArray⟩, f _ _ ?_ ?_, f _ _ ?_ ?_, f _ _ ?_ ?_, f _ _ ?_ ?_⟩
  all_goals ((try simp only [List.length_append, List.length_cons, List.length_nil]); omega)

theorem wput_none (n : Int) (w : World) (hn : n < -4371587 ∨ 2932896 < n) :
    Calls Tryd.prog 9 #[.int .i64 n] w fun e w' => e = .returned (.tuple #[.string ⟨#[]⟩, ev 13]) ∧ w = w' := by
  have hD := wof_none n w hn
  have q0 := fun op t x k => guard_ev op t w x k
  have q2 := fun k => neq_ev w k
  clear hn
  go_enter Tryd.func9, Tryd.ntmps9
  go_wp2_with (go_at_call 8; refine hD.mono ?_; rintro e w' ⟨rfl, rfl⟩)
  go_ret2
  exact ⟨rfl, rfl⟩

theorem fit_small {z : Int} (h : -1000000000 ≤ z) (h' : z ≤ 1000000000) : fits z := by unfold fits; omega

set_option maxRecDepth 100000 in
set_option maxHeartbeats 1000000 in
theorem wput_some (n Y : Int) (w : World) (h1 : -4371587 ≤ n) (h2 : n ≤ 2932896) (hY : Wk n Y) (hy : -9999 ≤ Y ∧ Y ≤ 9999) (he : Ends w) (ht : Tab w) :
    Calls Tryd.prog 9 #[.int .i64 n] w fun e w' => e = .returned (.tuple #[.string ⟨(pwL Y (wn n Y) (wd n)).toArray⟩, ev 0]) ∧ Below w.heap.size w w' := by
  have HO := Lib.hid (wof_some n Y w h1 h2 hY he)
  have q0 := fun op t W x k => guard_ev op t W x k
  have q2 := fun W k => neq_ev W k
  have a := wn_bd hY; have b := wk_bd Y; have c := wd_in n
  have D1 := Lib.hid (fun w t => digits_any Y 4 w (fit_small (by omega) (by omega)) (by decide) t)
  have D2 := Lib.hid (fun w t => digits_any (wn n Y) 2 w (fit_small (by omega) (by omega)) (by decide) t)
  have D3 := Lib.hid (fun w t => digits_any (wd n) 1 w (fit_small (by omega) (by omega)) (by decide) t)
  have P : pwL Y (wn n Y) (wd n) = ptL Y 4 ++ [45, 87] ++ ptL (wn n Y) 2 ++ [45] ++ ptL (wd n) 1 := rfl
  have u1 := w_ptL_len 4 (fit_small (z := Y) (by omega) (by omega)); have u2 := w_ptL_len 2 (fit_small (z := wn n Y) (by omega) (by omega)); have u3 := w_ptL_len 1 (fit_small (z := wd n) (by omega) (by omega))
  obtain ⟨X1, X2, X3, A1, A2, A3, A4⟩ := sums (ptL Y 4) (ptL (wn n Y) 2) (ptL (wd n) 1) (by omega) (by omega) (by omega)
  rw [← P] at A4
  clear P u1 u2 u3
  have T0 := Lib.hid ht
  clear he ht hY
  generalize pwL Y (wn n Y) (wd n) = L at *
  generalize ptL Y 4 = l1 at *
  generalize ptL (wn n Y) 2 = l2 at *
  generalize ptL (wd n) 1 = l3 at *
  generalize wn n Y = k at *
  generalize wd n = v at *
  go_enter Tryd.func9, Tryd.ntmps9
  go_wp2_with fail
  refine HO.out.mono ?_
  rintro e w1 ⟨rfl, hb⟩
  have B1 := Lib.hid hb
  have T1 := Lib.hid (T0.out.below hb); clear hb
  go_wp2_with fail
  refine (D1.out _ T1.out).mono ?_
  rintro e w2 ⟨rfl, hb⟩
  have B2 := Lib.hid (B1.out.trans (hb.mono B1.out.size))
  have T2 := Lib.hid (T1.out.below hb); clear hb
  go_wp2_with fail
  refine (D2.out _ T2.out).mono ?_
  rintro e w3 ⟨rfl, hb⟩
  have B3 := Lib.hid (B2.out.trans (hb.mono B2.out.size))
  have T3 := Lib.hid (T2.out.below hb); clear hb
  go_wp2_with fail
  refine (D3.out _ T3.out).mono ?_
  rintro e w4 ⟨rfl, hb⟩
  have B4 := Lib.hid (B3.out.trans (hb.mono B3.out.size)); clear hb
  go_wp2_with fail
  go_ret2
  exact ⟨rfl, B4.out⟩

theorem rwput_any (y k d : Int) (w : World) (h1 : fits y) (h2 : fits k) (h3 : fits d) :
    Calls Tryd.prog 14 #[.int .i64 y, .int .i64 k, .int .i64 d] w fun e w' => e = .returned (.string ⟨(pwL y k d).toArray⟩) ∧ Below w.heap.size w w' := by
  have D1 := Lib.hid (fun w => rput_any y 4 w h1 (by decide))
  have D2 := Lib.hid (fun w => rput_any k 2 w h2 (by decide))
  have D3 := Lib.hid (fun w => rput_any d 1 w h3 (by decide))
  have P : pwL y k d = ptL y 4 ++ [45, 87] ++ ptL k 2 ++ [45] ++ ptL d 1 := rfl
  have u1 := w_ptL_len 4 h1; have u2 := w_ptL_len 2 h2; have u3 := w_ptL_len 1 h3
  obtain ⟨X1, X2, X3, A1, A2, A3, A4⟩ := sums (ptL y 4) (ptL k 2) (ptL d 1) (by omega) (by omega) (by omega)
  rw [← P] at A4
  clear P u1 u2 u3
  unfold fits at h1 h2 h3
  generalize pwL y k d = L at *
  generalize ptL y 4 = l1 at *
  generalize ptL k 2 = l2 at *
  generalize ptL d 1 = l3 at *
  go_enter Tryd.func14, Tryd.ntmps14
  go_wp2_with fail
  refine (D1.out _).mono ?_
  rintro e w2 ⟨rfl, hb⟩
  have B2 := Lib.hid hb; clear hb
  go_wp2_with fail
  refine (D2.out _).mono ?_
  rintro e w3 ⟨rfl, hb⟩
  have B3 := Lib.hid (B2.out.trans (hb.mono B2.out.size)); clear hb
  go_wp2_with fail
  refine (D3.out _).mono ?_
  rintro e w4 ⟨rfl, hb⟩
  have B4 := Lib.hid (B3.out.trans (hb.mono B3.out.size)); clear hb
  go_wp2_with fail
  go_ret
  exact ⟨rfl, B4.out⟩

end Go.Proofs.YtplibjgfdnbifaaDoor
