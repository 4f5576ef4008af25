/- Merged: RulB. -/
import Derived.Test.YtkhcneacjnpcnaaGPosixParses16
import Derived.Test.YtkhcneacjnpcnaaGPosixParses4
namespace Go.Proofs.Ytkhcneacjnpcnaa
open Go.RowKit
set_option linter.unusedVariables false
set_option linter.unusedSimpArgs false

theorem lt_yes {a b : Int} (h : a < b) : decide (a < b) = true := decide_eq_true h
theorem lt_no {a b : Int} (h : ¬ a < b) : decide (a < b) = false := decide_eq_false h
theorem eq_yes {a b : Int} (h : a = b) : (a == b) = true := beq_iff_eq.2 h
theorem eq_no {a b : Int} (h : a ≠ b) : (a == b) = false := beq_eq_false_iff_ne.2 h
theorem ne_yes {a b : Int} (h : a ≠ b) : (a != b) = true := bne_iff_ne.2 h
theorem chk_ways (r : Ru) : (r.K < 1 ∧ ruE r = 11) ∨ (¬ r.K < 1 ∧ 3 < r.K ∧ ruE r = 11) ∨ (¬ r.K < 1 ∧ ¬ 3 < r.K ∧ hdB r = false ∧ ruE r = 1) ∨ (¬ r.K < 1 ∧ ¬ 3 < r.K ∧ hdB r = true ∧ wiB r.T (-604799) 604799 = false ∧ ruE r = 1) ∨
    (¬ r.K < 1 ∧ ¬ 3 < r.K ∧ hdB r = true ∧ wiB r.T (-604799) 604799 = true ∧ ruE r = 0) := by
  by_cases a : r.K < 1
  · exact .inl ⟨a, if_neg (by unfold kdP; omega)⟩
  · by_cases b : 3 < r.K
    · exact .inr (.inl ⟨a, b, if_neg (by unfold kdP; omega)⟩)
    · have k : kdP r := by unfold kdP; omega
      cases c : hdB r with
      | false => exact .inr (.inr (.inl ⟨a, b, rfl, by unfold ruE; rw [if_pos k, if_neg (fun h => of_decide_eq_false c h.1)]⟩))
      | true =>
        have c' : hdP r := of_decide_eq_true c
        cases d : wiB r.T (-604799) 604799 with
        | false => exact .inr (.inr (.inr (.inl ⟨a, b, rfl, rfl, by unfold ruE; rw [if_pos k, if_neg (fun h => wiB_no.1 d h.2)]⟩)))
        | true => exact .inr (.inr (.inr (.inr ⟨a, b, rfl, rfl, by unfold ruE; rw [if_pos k, if_pos ⟨c', wiB_yes.1 d⟩]⟩)))

set_option maxHeartbeats 2000000 in
theorem check_any (r : Ru) (w : World) : Calls Try.prog 28 #[.agg r.cells] w fun e w' => e = .returned (ev (ruE r)) ∧ Below w.heap.size w w' := by
  obtain ⟨W0, hW0⟩ : ∃ W0, W0 = w.alloc (.cells r.cells 24) := ⟨_, rfl⟩
  have B0 : Hid (Below w.heap.size w W0) := Lib.hid (by rw [hW0]; exact bel16 w _)
  have L0 : Rk W0 w.heap.size r := by rw [hW0]; exact rk_new _ _
  obtain ⟨c0, c1, c2, c3, c4⟩ := L0.all
  have R0 := Lib.hid L0
  have HW := Lib.hid (fun n a b w => wi_any n a b w)
  have HD := Lib.hid (hasday_any r W0)
  have hw := chk_ways r
  clear L0
  generalize hdB r = P at *
  generalize ruE r = E at *
  obtain ⟨K, M, W, D, T⟩ := r
  simp only at hw c0 c1 c2 c3 c4
  rcases hw with ⟨k, rfl⟩ | ⟨k, k2, rfl⟩ | ⟨k, k2, rfl, rfl⟩ | ⟨k, k2, rfl, a, rfl⟩ | ⟨k, k2, rfl, a, rfl⟩
  · have t1 := lt_yes k
    clear k
    rw [ev_pos (k := 11) (by decide)]
    go_enter Try.func28, Try.ntmps28
    go_upto_region 1 with fail
    rw [← hW0]; clear hW0
    go_wp2_with (first
      | (go_at_call 46; refine HD.out.mono ?_; rintro e w1 ⟨rfl, hb⟩; obtain ⟨d0, d1, d2, d3, d4⟩ := (R0.out.keep hb).all; have B0 := Lib.hid (B0.out.trans (hb.mono B0.out.size)); clear hb)
      | (go_at_call 47; refine (HW.out _ _ _ _).mono ?_; rintro e w' ⟨rfl, rfl⟩))
    go_ret
    exact ⟨rfl, B0.out⟩
  · have t1 := lt_no k
    have t2 := lt_yes k2
    clear k k2
    rw [ev_pos (k := 11) (by decide)]
    go_enter Try.func28, Try.ntmps28
    go_upto_region 1 with fail
    rw [← hW0]; clear hW0
    go_wp2_with (first
      | (go_at_call 46; refine HD.out.mono ?_; rintro e w1 ⟨rfl, hb⟩; obtain ⟨d0, d1, d2, d3, d4⟩ := (R0.out.keep hb).all; have B0 := Lib.hid (B0.out.trans (hb.mono B0.out.size)); clear hb)
      | (go_at_call 47; refine (HW.out _ _ _ _).mono ?_; rintro e w' ⟨rfl, rfl⟩))
    go_ret
    exact ⟨rfl, B0.out⟩
  · have t1 := lt_no k
    have t2 := lt_no k2
    clear k k2
    rw [ev_pos (k := 1) (by decide)]
    go_enter Try.func28, Try.ntmps28
    go_upto_region 1 with fail
    rw [← hW0]; clear hW0
    go_wp2_with (first
      | (go_at_call 46; refine HD.out.mono ?_; rintro e w1 ⟨rfl, hb⟩; obtain ⟨d0, d1, d2, d3, d4⟩ := (R0.out.keep hb).all; have B0 := Lib.hid (B0.out.trans (hb.mono B0.out.size)); clear hb)
      | (go_at_call 47; refine (HW.out _ _ _ _).mono ?_; rintro e w' ⟨rfl, rfl⟩))
    go_ret
    exact ⟨rfl, B0.out⟩
  · have t1 := lt_no k
    have t2 := lt_no k2
    clear k k2
    rw [ev_pos (k := 1) (by decide)]
    go_enter Try.func28, Try.ntmps28
    go_upto_region 1 with fail
    rw [← hW0]; clear hW0
    go_wp2_with (first
      | (go_at_call 46; refine HD.out.mono ?_; rintro e w1 ⟨rfl, hb⟩; obtain ⟨d0, d1, d2, d3, d4⟩ := (R0.out.keep hb).all; have B0 := Lib.hid (B0.out.trans (hb.mono B0.out.size)); clear hb)
      | (go_at_call 47; refine (HW.out _ _ _ _).mono ?_; rintro e w' ⟨rfl, rfl⟩))
    go_ret
    exact ⟨rfl, B0.out⟩
  · have t1 := lt_no k
    have t2 := lt_no k2
    clear k k2
    go_enter Try.func28, Try.ntmps28
    go_upto_region 1 with fail
    rw [← hW0]; clear hW0
    go_wp2_with (first
      | (go_at_call 46; refine HD.out.mono ?_; rintro e w1 ⟨rfl, hb⟩; obtain ⟨d0, d1, d2, d3, d4⟩ := (R0.out.keep hb).all; have B0 := Lib.hid (B0.out.trans (hb.mono B0.out.size)); clear hb)
      | (go_at_call 47; refine (HW.out _ _ _ _).mono ?_; rintro e w' ⟨rfl, rfl⟩))
    go_ret
    exact ⟨rfl, B0.out⟩

/-! clock times -/
def clC (n : Bool) (h m s : Int) : Array Value := #[.bool n, .int .i64 h, .int .i64 m, .int .i64 s]
theorem fits16_any (n : Bool) (h m s most : Int) (w : World) :
    Calls Try.prog 55 #[.agg (clC n h m s), .int .i64 most] w fun e w' => e = .returned (.bool (ckF most h m s)) ∧ Below w.heap.size w w' := by
  unfold ckF clC
  cases a : decide (h ≤ most) with
  | false =>
    rw [Bool.false_and]
    go_enter Try.func55, Try.ntmps55
    go_wp2
    go_ret
    exact ⟨rfl, bel16 w _⟩
  | true =>
    rw [Bool.true_and]
    cases b : decide (m ≤ 59) with
    | false =>
      rw [Bool.false_and]
      go_enter Try.func55, Try.ntmps55
      go_wp2
      go_ret
      exact ⟨rfl, bel16 w _⟩
    | true =>
      rw [Bool.true_and]
      go_enter Try.func55, Try.ntmps55
      go_wp2
      go_ret
      exact ⟨rfl, bel16 w _⟩
theorem total_any (n : Bool) (h m s : Int) (w : World) (h0 : 0 ≤ h ∧ h < 100000) (m0 : 0 ≤ m ∧ m < 100000) (s0 : 0 ≤ s ∧ s < 100000) :
    Calls Try.prog 56 #[.agg (clC n h m s)] w fun e w' => e = .returned (.int .i64 (ckT n h m s)) ∧ Below w.heap.size w w' := by
  unfold ckT clC
  cases n with
  | false =>
    rw [if_neg (by decide)]
    go_enter Try.func56, Try.ntmps56
    go_wp2
    go_ret
    exact ⟨ret1_eq (int_eq (by omega)), bel16 w _⟩
  | true =>
    rw [if_pos rfl]
    go_enter Try.func56, Try.ntmps56
    go_wp2
    go_ret
    exact ⟨ret1_eq (int_eq (by omega)), bel16 w _⟩
/-- The parts of so many seconds. -/
def ab (t : Int) : Int := if t < 0 then -t else t
theorem clockof_any (t : Int) (w : World) (h : -4000000 ≤ t ∧ t ≤ 4000000) :
    Calls Try.prog 58 #[.int .i64 t] w fun e w' => e = .returned (.agg (clC (decide (t < 0)) (ab t / 3600) (ab t % 3600 / 60) (ab t % 60))) ∧ Below w.heap.size w w' := by
  unfold ab clC
  by_cases c : t < 0
  · rw [if_pos c, decide_eq_true c]
    have t1 := lt_yes c
    obtain ⟨a, ha⟩ : ∃ a, a = -t := ⟨_, rfl⟩
    rw [← ha]
    have e1 : IntKind.i64.wrap (-t) = a := by rw [ha]; exact IntWalk.i64_in _ (by omega)
    have e2 : wrap64 (-t) = a := by rw [ha]; unfold wrap64; omega
    have a0 : 0 ≤ a := by omega
    have a1 : a ≤ 4000000 := by omega
    clear c h ha
    go_enter Try.func58, Try.ntmps58
    go_wp2
    refine bodyPost_ret (v := .agg #[.bool true, .int .i64 (a / 3600), .int .i64 (a % 3600 / 60), .int .i64 (a % 60)]) (by simp [results, Try.results58, go_sem]) rfl ⟨rfl, bel16 w _⟩
  · rw [if_neg c, decide_eq_false c]
    have t1 := lt_no c
    have a0 : 0 ≤ t := by omega
    go_enter Try.func58, Try.ntmps58
    go_wp2
    refine bodyPost_ret (v := .agg #[.bool false, .int .i64 (t / 3600), .int .i64 (t % 3600 / 60), .int .i64 (t % 60)]) (by simp [results, Try.results58, go_sem]) rfl ⟨rfl, bel16 w _⟩

/-! texts -/
theorem add_ba (x y : ByteArray) (hx : x.size ≤ 1000) (hy : y.size ≤ 1000) : ∃ z : ByteArray, (∀ W, (Op.stringOp .add x y).run Try.prog W = .ok (.string z) W) ∧ z.data.toList = x.data.toList ++ y.data.toList ∧ z.size = x.size + y.size := by
  refine ⟨⟨(x.data.toList ++ y.data.toList).toArray⟩, fun W => ?_, by simp, by rw [Lib.size_mk]; simp⟩
  have h := run_string_add_lists (P := Try.prog) (w := W) x.data.toList y.data.toList (by simp; omega) (by simp; omega)
  simpa using h
theorem str_is {z : ByteArray} {l : List UInt8} (h : z.data.toList = l) : Value.string z = .string ⟨l.toArray⟩ := by
  subst h; rfl
end Go.Proofs.Ytkhcneacjnpcnaa
