/- Package mjd: Day. -/
import Derived.Test.YtmfjfbofkkbmiaaDoorMjdA
namespace Go.Proofs.YtmfjfbofkkbmiaaDoor
open Go.RowKit
set_option linter.unusedVariables false

theorem wrap_near {z : Int} (h : -100000000 ≤ z ∧ z ≤ 100000000) : IntKind.i64.wrap z = z := by
  simp only [IntKind.wrap, IntKind.signed, IntKind.bits]; simp; omega
theorem below_dn7 {B : Nat} {a w : World} (h : Below B a w) (n : Nat) : Below B a (w.drewN n) := ⟨h.os, h.tape, h.output, h.size, h.block⟩
theorem first_q (w : World) : Calls Tryd.prog 25 #[] w fun e w' => e = .returned (.int .i64 (-4371587)) ∧ w' = w := (first_any w).mono fun _ _ h => ⟨h.1, h.2.symm⟩
theorem last_q (w : World) : Calls Tryd.prog 26 #[] w fun e w' => e = .returned (.int .i64 2932896) ∧ w' = w := (last_any w).mono fun _ _ h => ⟨h.1, h.2.symm⟩
set_option maxHeartbeats 1000000 in
theorem day7_any (k c : Int) (w : World) (he : Eps w) (hc : fits c) :
    Calls Tryd.prog 14 #[.int .i64 k, .int .i64 c] w fun e w' => e = .returned (.tuple #[.int .i64 (dyN k c), ev (dyE k c)]) ∧ Below w.heap.size w w' := by
  have H := Lib.hid (epoch_any k w he)
  clear he
  have hF := Lib.hid (fun w => first_q w)
  have hL := Lib.hid (fun w => last_q w)
  have q0 := fun op t W x k => guard_ev op t W x k
  have q2 := fun W k => neq_ev W k
  have b := ez_bd k
  unfold fits at hc
  generalize (⟨(ew k).toArray⟩ : ByteArray) = S at *
  by_cases h : kn k
  · rw [(kn_yes h).1] at H
    have r1 := wrap_near (z := -4371587 + ez k) (by omega)
    have r2 := wrap_near (z := 2932896 + ez k) (by omega)
    by_cases g : nod (c - ez k)
    · obtain ⟨e1, e2⟩ := dy_far h g
      rw [e1, e2]
      unfold nod at g
      clear e1 e2 h
      generalize ez k = z at *
      rcases (by omega : c < -4371587 + z ∨ (¬ c < -4371587 + z ∧ 2932896 + z < c)) with a | ⟨a, a'⟩
      · have a := decide_eq_true a
        clear g
        go_enter Tryd.func14, Tryd.ntmps14
        go_wp2_with fail
        refine H.out.mono ?_
        rintro e w1 ⟨rfl, hb⟩
        have B1 := Lib.hid hb; clear hb
        go_wp2_with fail
        go_quiet ((first
          | (go_at_call 25; exact Calls.quiet_of_same (hF.out _))
          | (go_at_call 26; exact Calls.quiet_of_same (hL.out _))))
        go_wp2_with fail
        go_ret2
        exact ⟨rfl, below_dn7 (B1.out.alloc B1.out.size _) _⟩
      · have a := decide_eq_false a
        have a' := decide_eq_true a'
        clear g
        go_enter Tryd.func14, Tryd.ntmps14
        go_wp2_with fail
        refine H.out.mono ?_
        rintro e w1 ⟨rfl, hb⟩
        have B1 := Lib.hid hb; clear hb
        go_wp2_with fail
        go_quiet ((first
          | (go_at_call 25; exact Calls.quiet_of_same (hF.out _))
          | (go_at_call 26; exact Calls.quiet_of_same (hL.out _))))
        go_wp2_with fail
        go_ret2
        exact ⟨rfl, below_dn7 (B1.out.alloc B1.out.size _) _⟩
    · obtain ⟨e1, e2⟩ := dy_yes h g
      rw [e1, e2]
      unfold nod at g
      clear e1 e2 h
      generalize ez k = z at *
      have g1 : decide (c < -4371587 + z) = false := decide_eq_false (by omega)
      have g2 : decide (2932896 + z < c) = false := decide_eq_false (by omega)
      have r3 := wrap_near (z := c - z) (by omega)
      clear g
      go_enter Tryd.func14, Tryd.ntmps14
      go_wp2_with fail
      refine H.out.mono ?_
      rintro e w1 ⟨rfl, hb⟩
      have B1 := Lib.hid hb; clear hb
      go_wp2_with fail
      go_quiet ((first
        | (go_at_call 25; exact Calls.quiet_of_same (hF.out _))
        | (go_at_call 26; exact Calls.quiet_of_same (hL.out _))))
      go_wp2_with fail
      go_ret2
      exact ⟨rfl, below_dn7 (B1.out.alloc B1.out.size _) _⟩
  · obtain ⟨e1, e2⟩ := dy_no c h
    rw [e1, e2]
    rw [(kn_no h).2.2] at H
    clear e1 e2 h
    generalize ez k = z at *
    go_enter Tryd.func14, Tryd.ntmps14
    go_wp2_with fail
    refine H.out.mono ?_
    rintro e w1 ⟨rfl, hb⟩
    have B1 := Lib.hid hb; clear hb
    go_wp2_with fail
    go_ret2
    exact ⟨rfl, B1.out.alloc B1.out.size _⟩

end Go.Proofs.YtmfjfbofkkbmiaaDoor
