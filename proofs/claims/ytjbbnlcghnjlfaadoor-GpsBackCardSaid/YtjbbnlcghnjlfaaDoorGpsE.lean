/- GpsBack. (Written by gen_gpse.py.) -/
import Derived.Test.YtjbbnlcghnjlfaaDoorGpsB
import Derived.Test.YtjbbnlcghnjlfaaDoorGpsI
import Derived.Test.YtjbbnlcghnjlfaaDoorTabs
namespace Go.Proofs.YtjbbnlcghnjlfaaDoor
open Go.RowKit
set_option linter.unusedVariables false
set_option linter.unusedSimpArgs false

theorem gback_no (t p : Int) (w : World) (h : owE t = 5) (ht : fits t) :
    Calls Tryd.prog 4 #[.int .i64 t, .int .i64 p] w fun e w' => e = .returned (.bool true) ∧ Below w.heap.size w w' := by
  have q0 := fun op t W x k => guard_ev op t W x k
  have q2 := fun W k => neq_ev W k
  have HA := Lib.hid (fun w => alive14_any w)
  have H1 := Lib.hid (fun w => gof_any t w ht)
  have hn : ¬ fits (t - 315964819) := fun c => by rw [(ow_yes c).1] at h; cases h
  obtain ⟨e1, e2, e3⟩ := ow_no hn
  rw [e1, e2, e3] at H1
  clear e1 e2 e3 hn h ht
  go_enter Tryd.func4, Tryd.ntmps4
  go_wp2_with first
    | (go_at_call 5; refine (HA.out _).mono ?_; rintro e w' ⟨rfl, rfl⟩)
    | (go_at_call 6; refine (H1.out _).mono ?_; rintro e w' ⟨rfl, rfl⟩)
  go_ret
  exact ⟨rfl, Below.refl _ _⟩

set_option maxHeartbeats 3200000 in
theorem gback_over_p (t p N S P R : Int) (X : ByteArray) (w : World) (hT : Hid (Tab w))
    (H1 : Hid (∀ w, Calls Tryd.prog 6 #[.int .i64 t] w fun e w' => e = .returned (.tuple #[.int .i64 N, .int .i64 S, ev 0]) ∧ w = w'))
    (H2 : Hid (∀ w, Tab w → Calls Tryd.prog 7 #[.int .i64 t] w fun e w' => e = .returned (.tuple #[.string X, ev 0]) ∧ Below w.heap.size w w'))
    (H3 : Hid (∀ w, Calls Tryd.prog 11 #[.int .i64 N, .int .i64 S] w fun e w' => e = .returned (.tuple #[.int .i64 0, ev 5]) ∧ Below w.heap.size w w'))
    (H4 : Hid (∀ w, Calls Tryd.prog 15 #[.string X] w fun e w' => e = .returned (.tuple #[.int .i64 0, ev 5]) ∧ Below w.heap.size w w'))
    (H5 : Hid (∀ w, Calls Tryd.prog 6 #[.int .i64 p] w fun e w' => e = .returned (.tuple #[.int .i64 P, .int .i64 R, ev 5]) ∧ w = w')) :
    Calls Tryd.prog 4 #[.int .i64 t, .int .i64 p] w fun e w' => e = .returned (.bool true) ∧ Below w.heap.size w w' := by
  have q0 := fun op t W x k => guard_ev op t W x k
  have q1 := fun W k => eql_ev W k
  have q2 := fun W k => neq_ev W k
  have HA := Lib.hid (fun w => alive14_any w)
  go_enter Tryd.func4, Tryd.ntmps4
  go_upto_region 6 with first
    | (go_at_call 5; refine (HA.out _).mono ?_; rintro e w' ⟨rfl, rfl⟩)
    | (go_at_call 6; refine (H1.out _).mono ?_; rintro e w' ⟨rfl, rfl⟩)
  go_wp2_with first
    | (go_at_call 7; refine (H2.out _ hT.out).mono ?_; rintro e w1 ⟨rfl, hb⟩; have B := Lib.hid hb; clear hb)
    | (go_at_call 11; refine (H3.out _).mono ?_; rintro e w2 ⟨rfl, hb⟩; have B := Lib.hid (B.out.trans (hb.mono B.out.size)); clear hb)
    | (go_at_call 15; refine (H4.out _).mono ?_; rintro e w3 ⟨rfl, hb⟩; have B := Lib.hid (B.out.trans (hb.mono B.out.size)); clear hb)
    | (go_at_call 10; refine (num_any 5 _ (by decide) (by decide)).mono ?_; rintro e w' ⟨rfl, rfl⟩)
    | (go_at_call 6; refine (H5.out _).mono ?_; rintro e w' ⟨rfl, rfl⟩)
  go_ret
  exact ⟨by simp, B.out⟩

set_option maxHeartbeats 3200000 in
theorem gback_over (t p N S P R : Int) (X : ByteArray) (w : World) (hT : Hid (Tab w))
    (H1 : Hid (∀ w, Calls Tryd.prog 6 #[.int .i64 t] w fun e w' => e = .returned (.tuple #[.int .i64 N, .int .i64 S, ev 0]) ∧ w = w'))
    (H2 : Hid (∀ w, Tab w → Calls Tryd.prog 7 #[.int .i64 t] w fun e w' => e = .returned (.tuple #[.string X, ev 0]) ∧ Below w.heap.size w w'))
    (H3 : Hid (∀ w, Calls Tryd.prog 11 #[.int .i64 N, .int .i64 S] w fun e w' => e = .returned (.tuple #[.int .i64 0, ev 5]) ∧ Below w.heap.size w w'))
    (H4 : Hid (∀ w, Calls Tryd.prog 15 #[.string X] w fun e w' => e = .returned (.tuple #[.int .i64 0, ev 5]) ∧ Below w.heap.size w w'))
    (H5 : Hid (∀ w, Calls Tryd.prog 6 #[.int .i64 p] w fun e w' => e = .returned (.tuple #[.int .i64 P, .int .i64 R, ev 0]) ∧ w = w')) :
    Calls Tryd.prog 4 #[.int .i64 t, .int .i64 p] w fun e w' => e = .returned (.bool true) ∧ Below w.heap.size w w' := by
  have q0 := fun op t W x k => guard_ev op t W x k
  have q1 := fun W k => eql_ev W k
  have q2 := fun W k => neq_ev W k
  have HA := Lib.hid (fun w => alive14_any w)
  go_enter Tryd.func4, Tryd.ntmps4
  go_upto_region 6 with first
    | (go_at_call 5; refine (HA.out _).mono ?_; rintro e w' ⟨rfl, rfl⟩)
    | (go_at_call 6; refine (H1.out _).mono ?_; rintro e w' ⟨rfl, rfl⟩)
  go_wp2_with first
    | (go_at_call 7; refine (H2.out _ hT.out).mono ?_; rintro e w1 ⟨rfl, hb⟩; have B := Lib.hid hb; clear hb)
    | (go_at_call 11; refine (H3.out _).mono ?_; rintro e w2 ⟨rfl, hb⟩; have B := Lib.hid (B.out.trans (hb.mono B.out.size)); clear hb)
    | (go_at_call 15; refine (H4.out _).mono ?_; rintro e w3 ⟨rfl, hb⟩; have B := Lib.hid (B.out.trans (hb.mono B.out.size)); clear hb)
    | (go_at_call 10; refine (num_any 5 _ (by decide) (by decide)).mono ?_; rintro e w' ⟨rfl, rfl⟩)
    | (go_at_call 6; refine (H5.out _).mono ?_; rintro e w' ⟨rfl, rfl⟩)
  go_ret
  exact ⟨by simp, B.out⟩

set_option maxHeartbeats 3200000 in
theorem gback_p (t p N S P R : Int) (X : ByteArray) (w : World) (hT : Hid (Tab w))
    (H1 : Hid (∀ w, Calls Tryd.prog 6 #[.int .i64 t] w fun e w' => e = .returned (.tuple #[.int .i64 N, .int .i64 S, ev 0]) ∧ w = w'))
    (H2 : Hid (∀ w, Tab w → Calls Tryd.prog 7 #[.int .i64 t] w fun e w' => e = .returned (.tuple #[.string X, ev 0]) ∧ Below w.heap.size w w'))
    (H3 : Hid (∀ w, Calls Tryd.prog 11 #[.int .i64 N, .int .i64 S] w fun e w' => e = .returned (.tuple #[.int .i64 t, ev 0]) ∧ Below w.heap.size w w'))
    (H4 : Hid (∀ w, Calls Tryd.prog 15 #[.string X] w fun e w' => e = .returned (.tuple #[.int .i64 t, ev 0]) ∧ Below w.heap.size w w'))
    (H5 : Hid (∀ w, Calls Tryd.prog 6 #[.int .i64 p] w fun e w' => e = .returned (.tuple #[.int .i64 P, .int .i64 R, ev 5]) ∧ w = w')) :
    Calls Tryd.prog 4 #[.int .i64 t, .int .i64 p] w fun e w' => e = .returned (.bool true) ∧ Below w.heap.size w w' := by
  have q0 := fun op t W x k => guard_ev op t W x k
  have q1 := fun W k => eql_ev W k
  have q2 := fun W k => neq_ev W k
  have HA := Lib.hid (fun w => alive14_any w)
  go_enter Tryd.func4, Tryd.ntmps4
  go_upto_region 6 with first
    | (go_at_call 5; refine (HA.out _).mono ?_; rintro e w' ⟨rfl, rfl⟩)
    | (go_at_call 6; refine (H1.out _).mono ?_; rintro e w' ⟨rfl, rfl⟩)
  go_wp2_with first
    | (go_at_call 7; refine (H2.out _ hT.out).mono ?_; rintro e w1 ⟨rfl, hb⟩; have B := Lib.hid hb; clear hb)
    | (go_at_call 11; refine (H3.out _).mono ?_; rintro e w2 ⟨rfl, hb⟩; have B := Lib.hid (B.out.trans (hb.mono B.out.size)); clear hb)
    | (go_at_call 15; refine (H4.out _).mono ?_; rintro e w3 ⟨rfl, hb⟩; have B := Lib.hid (B.out.trans (hb.mono B.out.size)); clear hb)
    | (go_at_call 10; refine (num_any 0 _ (by decide) (by decide)).mono ?_; rintro e w' ⟨rfl, rfl⟩)
    | (go_at_call 6; refine (H5.out _).mono ?_; rintro e w' ⟨rfl, rfl⟩)
  go_ret
  exact ⟨by simp, B.out⟩

set_option maxHeartbeats 3200000 in
theorem gback_low (t p N S P R : Int) (X : ByteArray) (w : World) (hT : Hid (Tab w)) (hP : -15250284452472 ≤ P ∧ P ≤ 15250284452471) (h : N < P - 512)
    (H1 : Hid (∀ w, Calls Tryd.prog 6 #[.int .i64 t] w fun e w' => e = .returned (.tuple #[.int .i64 N, .int .i64 S, ev 0]) ∧ w = w'))
    (H2 : Hid (∀ w, Tab w → Calls Tryd.prog 7 #[.int .i64 t] w fun e w' => e = .returned (.tuple #[.string X, ev 0]) ∧ Below w.heap.size w w'))
    (H3 : Hid (∀ w, Calls Tryd.prog 11 #[.int .i64 N, .int .i64 S] w fun e w' => e = .returned (.tuple #[.int .i64 t, ev 0]) ∧ Below w.heap.size w w'))
    (H4 : Hid (∀ w, Calls Tryd.prog 15 #[.string X] w fun e w' => e = .returned (.tuple #[.int .i64 t, ev 0]) ∧ Below w.heap.size w w'))
    (H5 : Hid (∀ w, Calls Tryd.prog 6 #[.int .i64 p] w fun e w' => e = .returned (.tuple #[.int .i64 P, .int .i64 R, ev 0]) ∧ w = w')) :
    Calls Tryd.prog 4 #[.int .i64 t, .int .i64 p] w fun e w' => e = .returned (.bool true) ∧ Below w.heap.size w w' := by
  have q0 := fun op t W x k => guard_ev op t W x k
  have q1 := fun W k => eql_ev W k
  have q2 := fun W k => neq_ev W k
  have HA := Lib.hid (fun w => alive14_any w)
  have r1 : IntKind.i64.wrap (P - 512) = P - 512 := IntWalk.i64_in _ (by omega)
  have r2 : IntKind.i64.wrap (P + 512) = P + 512 := IntWalk.i64_in _ (by omega)
  clear hP
  have d1 : decide (N < P - 512) = true := decide_eq_true h
  clear h
  go_enter Tryd.func4, Tryd.ntmps4
  go_upto_region 6 with first
    | (go_at_call 5; refine (HA.out _).mono ?_; rintro e w' ⟨rfl, rfl⟩)
    | (go_at_call 6; refine (H1.out _).mono ?_; rintro e w' ⟨rfl, rfl⟩)
  go_wp2_with first
    | (go_at_call 7; refine (H2.out _ hT.out).mono ?_; rintro e w1 ⟨rfl, hb⟩; have B := Lib.hid hb; clear hb)
    | (go_at_call 11; refine (H3.out _).mono ?_; rintro e w2 ⟨rfl, hb⟩; have B := Lib.hid (B.out.trans (hb.mono B.out.size)); clear hb)
    | (go_at_call 15; refine (H4.out _).mono ?_; rintro e w3 ⟨rfl, hb⟩; have B := Lib.hid (B.out.trans (hb.mono B.out.size)); clear hb)
    | (go_at_call 10; refine (num_any 0 _ (by decide) (by decide)).mono ?_; rintro e w' ⟨rfl, rfl⟩)
    | (go_at_call 6; refine (H5.out _).mono ?_; rintro e w' ⟨rfl, rfl⟩)
  go_ret
  exact ⟨by simp, B.out⟩

set_option maxHeartbeats 3200000 in
theorem gback_high (t p N S P R : Int) (X : ByteArray) (w : World) (hT : Hid (Tab w)) (hP : -15250284452472 ≤ P ∧ P ≤ 15250284452471) (h0 : ¬ N < P - 512) (h : P + 512 ≤ N)
    (H1 : Hid (∀ w, Calls Tryd.prog 6 #[.int .i64 t] w fun e w' => e = .returned (.tuple #[.int .i64 N, .int .i64 S, ev 0]) ∧ w = w'))
    (H2 : Hid (∀ w, Tab w → Calls Tryd.prog 7 #[.int .i64 t] w fun e w' => e = .returned (.tuple #[.string X, ev 0]) ∧ Below w.heap.size w w'))
    (H3 : Hid (∀ w, Calls Tryd.prog 11 #[.int .i64 N, .int .i64 S] w fun e w' => e = .returned (.tuple #[.int .i64 t, ev 0]) ∧ Below w.heap.size w w'))
    (H4 : Hid (∀ w, Calls Tryd.prog 15 #[.string X] w fun e w' => e = .returned (.tuple #[.int .i64 t, ev 0]) ∧ Below w.heap.size w w'))
    (H5 : Hid (∀ w, Calls Tryd.prog 6 #[.int .i64 p] w fun e w' => e = .returned (.tuple #[.int .i64 P, .int .i64 R, ev 0]) ∧ w = w')) :
    Calls Tryd.prog 4 #[.int .i64 t, .int .i64 p] w fun e w' => e = .returned (.bool true) ∧ Below w.heap.size w w' := by
  have q0 := fun op t W x k => guard_ev op t W x k
  have q1 := fun W k => eql_ev W k
  have q2 := fun W k => neq_ev W k
  have HA := Lib.hid (fun w => alive14_any w)
  have r1 : IntKind.i64.wrap (P - 512) = P - 512 := IntWalk.i64_in _ (by omega)
  have r2 : IntKind.i64.wrap (P + 512) = P + 512 := IntWalk.i64_in _ (by omega)
  clear hP
  have d1 : decide (N < P - 512) = false := decide_eq_false h0
  have d2 : decide (P + 512 ≤ N) = true := decide_eq_true h
  clear h h0
  go_enter Tryd.func4, Tryd.ntmps4
  go_upto_region 6 with first
    | (go_at_call 5; refine (HA.out _).mono ?_; rintro e w' ⟨rfl, rfl⟩)
    | (go_at_call 6; refine (H1.out _).mono ?_; rintro e w' ⟨rfl, rfl⟩)
  go_wp2_with first
    | (go_at_call 7; refine (H2.out _ hT.out).mono ?_; rintro e w1 ⟨rfl, hb⟩; have B := Lib.hid hb; clear hb)
    | (go_at_call 11; refine (H3.out _).mono ?_; rintro e w2 ⟨rfl, hb⟩; have B := Lib.hid (B.out.trans (hb.mono B.out.size)); clear hb)
    | (go_at_call 15; refine (H4.out _).mono ?_; rintro e w3 ⟨rfl, hb⟩; have B := Lib.hid (B.out.trans (hb.mono B.out.size)); clear hb)
    | (go_at_call 10; refine (num_any 0 _ (by decide) (by decide)).mono ?_; rintro e w' ⟨rfl, rfl⟩)
    | (go_at_call 6; refine (H5.out _).mono ?_; rintro e w' ⟨rfl, rfl⟩)
  go_ret
  exact ⟨by simp, B.out⟩

set_option maxHeartbeats 3200000 in
theorem gback_near (t p N S P R : Int) (X : ByteArray) (w : World) (hT : Hid (Tab w)) (hP : -15250284452472 ≤ P ∧ P ≤ 15250284452471) (h0 : ¬ N < P - 512) (h : ¬ P + 512 ≤ N) (F : Int)
    (HSh : Hid (∀ w, Calls Tryd.prog 13 #[.int .i64 N] w fun e w' => e = .returned (.int .i64 F) ∧ w = w'))
    (HNr : Hid (∀ w, Calls Tryd.prog 16 #[.int .i64 F, .int .i64 S, .int .i64 p] w fun e w' => e = .returned (.tuple #[.int .i64 t, ev 0]) ∧ Below w.heap.size w w'))
    (H1 : Hid (∀ w, Calls Tryd.prog 6 #[.int .i64 t] w fun e w' => e = .returned (.tuple #[.int .i64 N, .int .i64 S, ev 0]) ∧ w = w'))
    (H2 : Hid (∀ w, Tab w → Calls Tryd.prog 7 #[.int .i64 t] w fun e w' => e = .returned (.tuple #[.string X, ev 0]) ∧ Below w.heap.size w w'))
    (H3 : Hid (∀ w, Calls Tryd.prog 11 #[.int .i64 N, .int .i64 S] w fun e w' => e = .returned (.tuple #[.int .i64 t, ev 0]) ∧ Below w.heap.size w w'))
    (H4 : Hid (∀ w, Calls Tryd.prog 15 #[.string X] w fun e w' => e = .returned (.tuple #[.int .i64 t, ev 0]) ∧ Below w.heap.size w w'))
    (H5 : Hid (∀ w, Calls Tryd.prog 6 #[.int .i64 p] w fun e w' => e = .returned (.tuple #[.int .i64 P, .int .i64 R, ev 0]) ∧ w = w')) :
    Calls Tryd.prog 4 #[.int .i64 t, .int .i64 p] w fun e w' => e = .returned (.bool true) ∧ Below w.heap.size w w' := by
  have q0 := fun op t W x k => guard_ev op t W x k
  have q1 := fun W k => eql_ev W k
  have q2 := fun W k => neq_ev W k
  have HA := Lib.hid (fun w => alive14_any w)
  have r1 : IntKind.i64.wrap (P - 512) = P - 512 := IntWalk.i64_in _ (by omega)
  have r2 : IntKind.i64.wrap (P + 512) = P + 512 := IntWalk.i64_in _ (by omega)
  clear hP
  have d1 : decide (N < P - 512) = false := decide_eq_false h0
  have d2 : decide (P + 512 ≤ N) = false := decide_eq_false h
  clear h h0
  go_enter Tryd.func4, Tryd.ntmps4
  go_upto_region 6 with first
    | (go_at_call 5; refine (HA.out _).mono ?_; rintro e w' ⟨rfl, rfl⟩)
    | (go_at_call 6; refine (H1.out _).mono ?_; rintro e w' ⟨rfl, rfl⟩)
  go_wp2_with first
    | (go_at_call 7; refine (H2.out _ hT.out).mono ?_; rintro e w1 ⟨rfl, hb⟩; have B := Lib.hid hb; clear hb)
    | (go_at_call 11; refine (H3.out _).mono ?_; rintro e w2 ⟨rfl, hb⟩; have B := Lib.hid (B.out.trans (hb.mono B.out.size)); clear hb)
    | (go_at_call 15; refine (H4.out _).mono ?_; rintro e w3 ⟨rfl, hb⟩; have B := Lib.hid (B.out.trans (hb.mono B.out.size)); clear hb)
    | (go_at_call 10; refine (num_any 0 _ (by decide) (by decide)).mono ?_; rintro e w' ⟨rfl, rfl⟩)
    | (go_at_call 6; refine (H5.out _).mono ?_; rintro e w' ⟨rfl, rfl⟩)
    | (go_at_call 13; refine (HSh.out _).mono ?_; rintro e w' ⟨rfl, rfl⟩)
    | (go_at_call 16; refine (HNr.out _).mono ?_; rintro e w4 ⟨rfl, hb⟩; have B := Lib.hid (B.out.trans (hb.mono B.out.size)); clear hb)
  go_ret
  exact ⟨by simp, B.out⟩

theorem back_walk14 (t p : Int) (w : World) (ht : fits t) (hp : fits p) (hT : Tab w) :
    Calls Tryd.prog 4 #[.int .i64 t, .int .i64 p] w fun e w' => e = .returned (.bool true) ∧ Below w.heap.size w w' := by
  rcases owE_or t with c | c
  · have hf : fits (t - 315964819) := by
      by_cases d : fits (t - 315964819)
      · exact d
      · rw [(ow_no d).1] at c; cases c
    have ob := ow_bd t
    have H1 := fun w => gof_any t w ht
    have H2 := fun w T => gput_any t w ht T
    have e1 : gtL t = gpL (owN t) (owS t) := if_pos c
    rw [e1] at H2
    rw [c] at H1 H2
    have H3 := fun w => gtai_any (owN t) (owS t) w (owN_fits t) (owS_fits t)
    have hlen := gp_len (owN_fits t) (s := owS t) (by omega) (by omega)
    have H4 := fun w => gparse_any ⟨(gpL (owN t) (owS t)).toArray⟩ w (by rw [Lib.size_mk]; omega)
    obtain ⟨g1, g2⟩ := gp_put (w := owN t) (s := owS t) (by omega) (by omega) (owN_fits t)
    rw [show (⟨(gpL (owN t) (owS t)).toArray⟩ : ByteArray).data.toList = gpL (owN t) (owS t) by simp, g1, g2] at H4
    have H5 := fun w => gof_any p w hp
    have pb := ow_bd p
    rcases ow_ta ht hf with ⟨_, a1, a2⟩ | ⟨a1, a2⟩
    · rw [a1, a2] at H3 H4
      rcases owE_or p with d | d
      · rw [d] at H5
        by_cases k1 : owN t < owN p - 512
        · exact gback_low t p _ _ _ _ _ w (Lib.hid hT) ⟨by omega, by omega⟩ k1 (Lib.hid H1) (Lib.hid H2) (Lib.hid H3) (Lib.hid H4) (Lib.hid H5)
        · by_cases k2 : owN p + 512 ≤ owN t
          · exact gback_high t p _ _ _ _ _ w (Lib.hid hT) ⟨by omega, by omega⟩ k1 k2 (Lib.hid H1) (Lib.hid H2) (Lib.hid H3) (Lib.hid H4) (Lib.hid H5)
          · have HS := fun w => gshort_any (owN t) w (owN_fits t)
            have fb := fo_bd (owN t) 10
            rw [pw_10] at fb
            have HN := fun w => near_any14 (fo (owN t) 10) (owS t) p w (by unfold fits; omega) (owS_fits t) hp
            obtain ⟨n1, n2⟩ := na_back d (by omega) (by omega) a1 a2
            rw [n1, n2] at HN
            exact gback_near t p _ _ _ _ _ w (Lib.hid hT) ⟨by omega, by omega⟩ k1 k2 _ (Lib.hid HS) (Lib.hid HN) (Lib.hid H1) (Lib.hid H2) (Lib.hid H3) (Lib.hid H4) (Lib.hid H5)
      · rw [d] at H5
        exact gback_p t p _ _ _ _ _ w (Lib.hid hT) (Lib.hid H1) (Lib.hid H2) (Lib.hid H3) (Lib.hid H4) (Lib.hid H5)
    · rw [a1, a2] at H3 H4
      rcases owE_or p with d | d
      · rw [d] at H5
        exact gback_over t p _ _ _ _ _ w (Lib.hid hT) (Lib.hid H1) (Lib.hid H2) (Lib.hid H3) (Lib.hid H4) (Lib.hid H5)
      · rw [d] at H5
        exact gback_over_p t p _ _ _ _ _ w (Lib.hid hT) (Lib.hid H1) (Lib.hid H2) (Lib.hid H3) (Lib.hid H4) (Lib.hid H5)
  · exact gback_no t p w c ht
end Go.Proofs.YtjbbnlcghnjlfaaDoor
