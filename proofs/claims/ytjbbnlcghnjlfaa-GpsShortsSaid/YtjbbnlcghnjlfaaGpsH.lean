/- GpsShorts. (Written by gen_gpsg.py.) -/
import Derived.Test.YtjbbnlcghnjlfaaGpsC
import Derived.Test.YtjbbnlcghnjlfaaGpsI
import Derived.Test.YtjbbnlcghnjlfaaEraE
namespace Go.Proofs.Ytjbbnlcghnjlfaa
open Go.RowKit
set_option linter.unusedVariables false
set_option linter.unusedSimpArgs false

theorem rlong14 (x p : Int) (w : World) (hx : fits x) (hp : fits p) :
    Calls Try.prog 7 #[.int .i64 x, .int .i64 p] w fun e w' => e = .returned (.tuple #[.int .i64 (loN x p), .int .i64 (loE x p)]) ∧ Below w.heap.size w w' :=
  rglong_any x p w hx hp (fun w h0 => rbits_any x 10 p w h0 hp)

set_option maxHeartbeats 2000000 in
theorem gshorts_over (x s p V1 E1 P R V2 E2 z r : Int) (w : World) (h1 : Hid (0 ≤ E1 ∧ E1 < 100)) (hr : Hid (0 ≤ r ∧ r < 100))
    (HL : Hid (∀ w, Calls Try.prog 6 #[.int .i64 x, .int .i64 p] w fun e w' => e = .returned (.tuple #[.int .i64 V1, ev E1]) ∧ w = w'))
    (HR : Hid (∀ w, Calls Try.prog 7 #[.int .i64 x, .int .i64 p] w fun e w' => e = .returned (.tuple #[.int .i64 V1, .int .i64 E1]) ∧ Below w.heap.size w w'))
    (HN : Hid (∀ w, Calls Try.prog 9 #[.int .i64 x, .int .i64 s, .int .i64 p] w fun e w' => e = .returned (.tuple #[.int .i64 0, ev 5]) ∧ Below w.heap.size w w'))
    (HO : Hid (∀ w, Calls Try.prog 10 #[.int .i64 p] w fun e w' => e = .returned (.tuple #[.int .i64 P, .int .i64 R, .int .i64 5]) ∧ Below w.heap.size w w')) :
    Calls Try.prog 3 #[.int .i64 x, .int .i64 s, .int .i64 p] w fun e w' => e = .returned (.bool true) ∧ Below w.heap.size w w' := by
  have HA := Lib.hid (fun w => alive14_any w)
  go_enter Try.func3, Try.ntmps3
  go_upto_region 7 with first
    | (go_at_call 5; refine (HA.out _).mono ?_; rintro e w' ⟨rfl, rfl⟩)
    | (go_at_call 6; refine (HL.out _).mono ?_; rintro e w' ⟨rfl, rfl⟩)
    | (go_at_call 7; refine (HR.out _).mono ?_; rintro e w1 ⟨rfl, hb⟩; have B := Lib.hid hb; clear hb)
    | (go_at_call 8; refine (num_any E1 _ h1.out.1 h1.out.2).mono ?_; rintro e w' ⟨rfl, rfl⟩)
  go_wp2_with first
    | (go_at_call 9; refine (HN.out _).mono ?_; rintro e w2 ⟨rfl, hb⟩; have B := Lib.hid (B.out.trans (hb.mono B.out.size)); clear hb)
    | (go_at_call 10; refine (HO.out _).mono ?_; rintro e w3 ⟨rfl, hb⟩; have B := Lib.hid (B.out.trans (hb.mono B.out.size)); clear hb)
    | (go_at_call 8; refine (num_any 5 _ (by decide) (by decide)).mono ?_; rintro e w' ⟨rfl, rfl⟩)
  go_ret
  exact ⟨by simp, B.out⟩

set_option maxHeartbeats 2000000 in
theorem gshorts_long (x s p V1 E1 P R V2 E2 z r : Int) (w : World) (h1 : Hid (0 ≤ E1 ∧ E1 < 100)) (hr : Hid (0 ≤ r ∧ r < 100)) (h2 : Hid (0 ≤ E2 ∧ E2 < 100)) (hne : E2 ≠ 0)
    (HL : Hid (∀ w, Calls Try.prog 6 #[.int .i64 x, .int .i64 p] w fun e w' => e = .returned (.tuple #[.int .i64 V1, ev E1]) ∧ w = w'))
    (HR : Hid (∀ w, Calls Try.prog 7 #[.int .i64 x, .int .i64 p] w fun e w' => e = .returned (.tuple #[.int .i64 V1, .int .i64 E1]) ∧ Below w.heap.size w w'))
    (HN : Hid (∀ w, Calls Try.prog 9 #[.int .i64 x, .int .i64 s, .int .i64 p] w fun e w' => e = .returned (.tuple #[.int .i64 0, ev E2]) ∧ Below w.heap.size w w'))
    (HO : Hid (∀ w, Calls Try.prog 10 #[.int .i64 p] w fun e w' => e = .returned (.tuple #[.int .i64 P, .int .i64 R, .int .i64 0]) ∧ Below w.heap.size w w'))
    (HL2 : Hid (∀ w, Calls Try.prog 7 #[.int .i64 x, .int .i64 P] w fun e w' => e = .returned (.tuple #[.int .i64 V2, .int .i64 E2]) ∧ Below w.heap.size w w')) :
    Calls Try.prog 3 #[.int .i64 x, .int .i64 s, .int .i64 p] w fun e w' => e = .returned (.bool true) ∧ Below w.heap.size w w' := by
  have HA := Lib.hid (fun w => alive14_any w)
  have d : (E2 == 0) = false := beq_eq_false_iff_ne.2 hne
  clear hne
  go_enter Try.func3, Try.ntmps3
  go_upto_region 7 with first
    | (go_at_call 5; refine (HA.out _).mono ?_; rintro e w' ⟨rfl, rfl⟩)
    | (go_at_call 6; refine (HL.out _).mono ?_; rintro e w' ⟨rfl, rfl⟩)
    | (go_at_call 7; refine (HR.out _).mono ?_; rintro e w1 ⟨rfl, hb⟩; have B := Lib.hid hb; clear hb)
    | (go_at_call 8; refine (num_any E1 _ h1.out.1 h1.out.2).mono ?_; rintro e w' ⟨rfl, rfl⟩)
  go_wp2_with first
    | (go_at_call 9; refine (HN.out _).mono ?_; rintro e w2 ⟨rfl, hb⟩; have B := Lib.hid (B.out.trans (hb.mono B.out.size)); clear hb)
    | (go_at_call 10; refine (HO.out _).mono ?_; rintro e w3 ⟨rfl, hb⟩; have B := Lib.hid (B.out.trans (hb.mono B.out.size)); clear hb)
    | (go_at_call 7; refine (HL2.out _).mono ?_; rintro e w4 ⟨rfl, hb⟩; have B := Lib.hid (B.out.trans (hb.mono B.out.size)); clear hb)
    | (go_at_call 8; refine (num_any E2 _ h2.out.1 h2.out.2).mono ?_; rintro e w' ⟨rfl, rfl⟩)
  go_ret
  exact ⟨by simp, B.out⟩

set_option maxHeartbeats 2000000 in
theorem gshorts_all (x s p V1 E1 P R V2 E2 z r : Int) (w : World) (h1 : Hid (0 ≤ E1 ∧ E1 < 100)) (hr : Hid (0 ≤ r ∧ r < 100))
    (HL : Hid (∀ w, Calls Try.prog 6 #[.int .i64 x, .int .i64 p] w fun e w' => e = .returned (.tuple #[.int .i64 V1, ev E1]) ∧ w = w'))
    (HR : Hid (∀ w, Calls Try.prog 7 #[.int .i64 x, .int .i64 p] w fun e w' => e = .returned (.tuple #[.int .i64 V1, .int .i64 E1]) ∧ Below w.heap.size w w'))
    (HN : Hid (∀ w, Calls Try.prog 9 #[.int .i64 x, .int .i64 s, .int .i64 p] w fun e w' => e = .returned (.tuple #[.int .i64 z, ev r]) ∧ Below w.heap.size w w'))
    (HO : Hid (∀ w, Calls Try.prog 10 #[.int .i64 p] w fun e w' => e = .returned (.tuple #[.int .i64 P, .int .i64 R, .int .i64 0]) ∧ Below w.heap.size w w'))
    (HL2 : Hid (∀ w, Calls Try.prog 7 #[.int .i64 x, .int .i64 P] w fun e w' => e = .returned (.tuple #[.int .i64 V2, .int .i64 0]) ∧ Below w.heap.size w w'))
    (HT : Hid (∀ w, Calls Try.prog 11 #[.int .i64 V2, .int .i64 s] w fun e w' => e = .returned (.tuple #[.int .i64 z, .int .i64 r]) ∧ Below w.heap.size w w')) :
    Calls Try.prog 3 #[.int .i64 x, .int .i64 s, .int .i64 p] w fun e w' => e = .returned (.bool true) ∧ Below w.heap.size w w' := by
  have HA := Lib.hid (fun w => alive14_any w)
  go_enter Try.func3, Try.ntmps3
  go_upto_region 7 with first
    | (go_at_call 5; refine (HA.out _).mono ?_; rintro e w' ⟨rfl, rfl⟩)
    | (go_at_call 6; refine (HL.out _).mono ?_; rintro e w' ⟨rfl, rfl⟩)
    | (go_at_call 7; refine (HR.out _).mono ?_; rintro e w1 ⟨rfl, hb⟩; have B := Lib.hid hb; clear hb)
    | (go_at_call 8; refine (num_any E1 _ h1.out.1 h1.out.2).mono ?_; rintro e w' ⟨rfl, rfl⟩)
  go_wp2_with first
    | (go_at_call 9; refine (HN.out _).mono ?_; rintro e w2 ⟨rfl, hb⟩; have B := Lib.hid (B.out.trans (hb.mono B.out.size)); clear hb)
    | (go_at_call 10; refine (HO.out _).mono ?_; rintro e w3 ⟨rfl, hb⟩; have B := Lib.hid (B.out.trans (hb.mono B.out.size)); clear hb)
    | (go_at_call 7; refine (HL2.out _).mono ?_; rintro e w4 ⟨rfl, hb⟩; have B := Lib.hid (B.out.trans (hb.mono B.out.size)); clear hb)
    | (go_at_call 11; refine (HT.out _).mono ?_; rintro e w5 ⟨rfl, hb⟩; have B := Lib.hid (B.out.trans (hb.mono B.out.size)); clear hb)
    | (go_at_call 8; refine (num_any r _ hr.out.1 hr.out.2).mono ?_; rintro e w' ⟨rfl, rfl⟩)
  go_ret
  exact ⟨by simp, B.out⟩

theorem shorts_walk14 (x s p : Int) (w : World) (hx : fits x) (hs : fits s) (hp : fits p) :
    Calls Try.prog 3 #[.int .i64 x, .int .i64 s, .int .i64 p] w fun e w' => e = .returned (.bool true) ∧ Below w.heap.size w w' := by
  have HL := Lib.hid (fun w => glong_any x p w hx hp)
  have HR := Lib.hid (fun w => rlong14 x p w hx hp)
  have HN := fun w => near_any14 x s p w hx hs hp
  have HO := fun w => rgof_any p w hp
  have h1 := Lib.hid (loE_lo x p)
  have HL2 := fun w => rlong14 x (owN p) w hx (owN_fits p)
  have HT := fun w => rgtai_any (loN x (owN p)) s w (loN_fits _ _) hs
  have hr := Lib.hid (taE_lo (loN x (owN p)) s)
  rcases owE_or p with c | c
  · by_cases d : loE x (owN p) = 0
    · have e1 : naE x s p = taE (loN x (owN p)) s := by unfold naE; rw [if_neg (by omega), if_neg (by omega)]
      have e2 : naN x s p = taN (loN x (owN p)) s := by unfold naN; rw [if_neg (by omega), if_neg (by omega)]
      rw [e1, e2] at HN
      rw [c] at HO
      rw [d] at HL2
      exact gshorts_all x s p _ _ _ _ _ 0 _ _ w h1 hr HL HR (Lib.hid HN) (Lib.hid HO) (Lib.hid HL2) (Lib.hid HT)
    · have e1 : naE x s p = loE x (owN p) := by unfold naE; rw [if_neg (by omega), if_pos d]
      have e2 : naN x s p = 0 := by unfold naN; rw [if_neg (by omega), if_pos d]
      rw [e1, e2] at HN
      rw [c] at HO
      exact gshorts_long x s p _ _ _ _ _ _ 0 0 w h1 (Lib.hid (by decide)) (Lib.hid (loE_lo x (owN p))) d HL HR (Lib.hid HN) (Lib.hid HO) (Lib.hid HL2)
  · have e1 : naE x s p = 5 := by unfold naE; rw [if_pos (by omega), c]
    have e2 : naN x s p = 0 := by unfold naN; rw [if_pos (by omega)]
    rw [e1, e2] at HN
    rw [c] at HO
    exact gshorts_over x s p _ _ _ _ 0 0 0 0 w h1 (Lib.hid (by decide)) HL HR (Lib.hid HN) (Lib.hid HO)
end Go.Proofs.Ytjbbnlcghnjlfaa
