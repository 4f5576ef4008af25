/- Merged: PosB. -/
import Derived.Test.YtkhcneacjnpcnaaGPosixParses18
import Derived.Test.YtkhcneacjnpcnaaGPosixParses16
import Derived.Test.YtkhcneacjnpcnaaGPosixParses4
import Derived.Test.YtkhcneacjnpcnaaGPosixParses2
import Derived.Deep.Fields
import Derived.ChangeArms
import Derived.ChangeSame
namespace Go.Proofs.Ytkhcneacjnpcnaa
open Go.RowKit
set_option linter.unusedVariables false
set_option linter.unusedSimpArgs false

def Plk (w : World) (p : Nat) (a : Pl) : Prop := w.heap[p]? = some (.cells a.cells 26 (0, 0))
theorem Plk.lt {w : World} {p : Nat} {a : Pl} (h : Plk w p a) : p < w.heap.size := bk_lt h
theorem Plk.below {w w' : World} {p B : Nat} {a : Pl} (h : Plk w p a) (hb : Below B w w') (hB : p < B) : Plk w' p a := (hb.block p hB).trans h
theorem Plk.keep {w w' : World} {p : Nat} {a : Pl} (h : Plk w p a) (hb : Below w.heap.size w w') : Plk w' p a := h.below hb h.lt
theorem Plk.all {w : World} {p : Nat} {a : Pl} (h : Plk w p a) :
    w.cell? ⟨p, 0, none⟩ = some (.string ⟨a.N.toArray⟩) ∧ w.cell? ⟨p, 1, none⟩ = some (.string ⟨a.S.toArray⟩) ∧ w.cell? ⟨p, 2, none⟩ = some (.int .i64 a.O) ∧ w.cell? ⟨p, 3, none⟩ = some (.int .i64 a.A) ∧ w.cell? ⟨p, 4, none⟩ = some (.int .i64 a.B.K) ∧ w.cell? ⟨p, 5, none⟩ = some (.int .i64 a.B.M) ∧ w.cell? ⟨p, 6, none⟩ = some (.int .i64 a.B.W) ∧ w.cell? ⟨p, 7, none⟩ = some (.int .i64 a.B.D) ∧ w.cell? ⟨p, 8, none⟩ = some (.int .i64 a.B.T) ∧ w.cell? ⟨p, 9, none⟩ = some (.int .i64 a.E.K) ∧ w.cell? ⟨p, 10, none⟩ = some (.int .i64 a.E.M) ∧ w.cell? ⟨p, 11, none⟩ = some (.int .i64 a.E.W) ∧ w.cell? ⟨p, 12, none⟩ = some (.int .i64 a.E.D) ∧ w.cell? ⟨p, 13, none⟩ = some (.int .i64 a.E.T) :=
  ⟨bk_cell h 0, bk_cell h 1, bk_cell h 2, bk_cell h 3, bk_cell h 4, bk_cell h 5, bk_cell h 6, bk_cell h 7, bk_cell h 8, bk_cell h 9, bk_cell h 10, bk_cell h 11, bk_cell h 12, bk_cell h 13⟩
theorem plk_new (w : World) (a : Pl) : Plk (w.alloc (.cells a.cells 26)) w.heap.size a := heap_alloc_new w _

theorem eq_ru0 (k m d a t : Int) (w : World) : (Op.equalIn 10000 24 (.agg #[.int .i64 k, .int .i64 m, .int .i64 d, .int .i64 a, .int .i64 t]) (.agg #[.int .i64 0, .int .i64 0, .int .i64 0, .int .i64 0, .int .i64 0])).run Try.prog w = .ok (decide (ruZ ⟨k, m, d, a, t⟩)) w := by
  have u3 := Try.underlying3
  have a3 := Try.isAgg3
  have z3 := Try.sizeOf3
  have hz : decide (ruZ ⟨k, m, d, a, t⟩) = ((k == 0) && ((m == 0) && ((d == 0) && ((a == 0) && (t == 0))))) := by
    rw [Bool.eq_iff_iff]; unfold ruZ; simp; exact decide_eq_true_iff
  rw [hz, show (10000 : Nat) = 9999 + 1 from rfl, Op.equalIn]
  simp only [Sem.run_bind, run_underlying Try.underlying24, Result.andThen_ok]
  clear hz
  cases h0 : (k == 0)
  · go_simp
  · cases h1 : (m == 0)
    · go_simp
    · cases h2 : (d == 0)
      · go_simp
      · cases h3 : (a == 0)
        · go_simp
        · cases h4 : (t == 0) <;> go_simp

theorem changes_any (a : Pl) (w : World) (hs : a.S.length ≤ 100000) :
    Calls Try.prog 27 #[.agg a.cells] w fun x w' => x = .returned (.bool (!decide (a.S = []))) ∧ Below w.heap.size w w' := by
  obtain ⟨W0, hW0⟩ : ∃ W0, W0 = w.alloc (.cells a.cells 26) := ⟨_, rfl⟩
  have B0 : Hid (Below w.heap.size w W0) := Lib.hid (by rw [hW0]; exact bel16 w _)
  have L0 : Plk W0 w.heap.size a := by rw [hW0]; exact plk_new _ _
  obtain ⟨c0, c1, c2, c3, c4, c5, c6, c7, c8, c9, c10, c11, c12, c13⟩ := L0.all
  clear L0
  have hd : decide (a.S = []) = a.S.isEmpty := by cases a.S <;> rfl
  rw [hd]
  go_enter Try.func27, Try.ntmps27
  go_upto_region 1 with fail
  rw [← hW0]; clear hW0
  go_wp2
  go_ret
  exact ⟨ret1_eq (bool_eq (by simp)), B0.out⟩
set_option maxHeartbeats 4000000 in
theorem summer_any (a : Pl) (w : World) (hs : a.S.length ≤ 100000) :
    Calls Try.prog 25 #[.agg a.cells] w fun x w' => x = .returned (.bool (decide (smP a))) ∧ Below w.heap.size w w' := by
  obtain ⟨W0, hW0⟩ : ∃ W0, W0 = w.alloc (.cells a.cells 26) := ⟨_, rfl⟩
  have B0 : Hid (Below w.heap.size w W0) := Lib.hid (by rw [hW0]; exact bel16 w _)
  have L0 : Plk W0 w.heap.size a := by rw [hW0]; exact plk_new _ _
  obtain ⟨c0, c1, c2, c3, c4, c5, c6, c7, c8, c9, c10, c11, c12, c13⟩ := L0.all
  have R0 := Lib.hid L0
  clear L0
  have HC : Hid (∀ w, Calls Try.prog 27 #[.agg #[.string ⟨a.N.toArray⟩, .string ⟨a.S.toArray⟩, .int .i64 a.O, .int .i64 a.A, .int .i64 a.B.K, .int .i64 a.B.M, .int .i64 a.B.W, .int .i64 a.B.D, .int .i64 a.B.T, .int .i64 a.E.K, .int .i64 a.E.M, .int .i64 a.E.W, .int .i64 a.E.D, .int .i64 a.E.T]] w fun x w' => x = .returned (.bool (!decide (a.S = []))) ∧ Below w.heap.size w w') := Lib.hid (fun w => changes_any a w hs)
  have HN : Hid (∀ w, Calls Try.prog 24 #[.string ⟨a.S.toArray⟩] w fun x w' => x = .returned (.bool (nmP a.S)) ∧ w = w') := Lib.hid (fun w => by
    have := name_any ⟨a.S.toArray⟩ w (by rw [Lib.size_mk]; exact hs)
    rwa [show (⟨a.S.toArray⟩ : ByteArray).data.toList = a.S by simp] at this)
  have eB := eq_ru0 a.B.K a.B.M a.B.W a.B.D a.B.T
  have eE := eq_ru0 a.E.K a.E.M a.E.W a.E.D a.E.T
  rw [show (⟨a.B.K, a.B.M, a.B.W, a.B.D, a.B.T⟩ : Ru) = a.B from rfl] at eB
  rw [show (⟨a.E.K, a.E.M, a.E.W, a.E.D, a.E.T⟩ : Ru) = a.E from rfl] at eE
  by_cases h : a.S = []
  · have u : smP a ↔ a.A = 0 ∧ ruZ a.B ∧ ruZ a.E := by unfold smP; rw [if_pos h]
    rw [show decide (smP a) = (decide (a.A = 0) && (decide (ruZ a.B) && decide (ruZ a.E))) by rw [Bool.eq_iff_iff]; simp [u]]
    rw [decide_eq_true h] at HC
    clear u h hs
    generalize decide (ruZ a.B) = p at *
    generalize decide (ruZ a.E) = q at *
    by_cases h1 : a.A = 0
    · have t1 := eq_yes h1
      rw [decide_eq_true h1, Bool.true_and]
      clear h1
      cases p with
      | false =>
        go_enter Try.func25, Try.ntmps25
        go_upto_region 1 with fail
        rw [← hW0]; clear hW0
        go_wp2_with (first
          | (go_at_call 27; with_reducible refine (HC.out _).mono ?_; rintro x w1 ⟨rfl, hb⟩; obtain ⟨c0, c1, c2, c3, c4, c5, c6, c7, c8, c9, c10, c11, c12, c13⟩ := (R0.out.keep hb).all; have R0 := Lib.hid (R0.out.keep hb); have B0 := Lib.hid (B0.out.trans (hb.mono B0.out.size)); clear hb))
        go_ret
        exact ⟨rfl, B0.out⟩
      | true =>
        go_enter Try.func25, Try.ntmps25
        go_upto_region 1 with fail
        rw [← hW0]; clear hW0
        go_wp2_with (first
          | (go_at_call 27; with_reducible refine (HC.out _).mono ?_; rintro x w1 ⟨rfl, hb⟩; obtain ⟨c0, c1, c2, c3, c4, c5, c6, c7, c8, c9, c10, c11, c12, c13⟩ := (R0.out.keep hb).all; have R0 := Lib.hid (R0.out.keep hb); have B0 := Lib.hid (B0.out.trans (hb.mono B0.out.size)); clear hb))
        go_ret
        exact ⟨rfl, B0.out⟩
    · have t1 := eq_no h1
      rw [decide_eq_false h1, Bool.false_and]
      clear h1
      go_enter Try.func25, Try.ntmps25
      go_upto_region 1 with fail
      rw [← hW0]; clear hW0
      go_wp2_with (first
        | (go_at_call 27; with_reducible refine (HC.out _).mono ?_; rintro x w1 ⟨rfl, hb⟩; obtain ⟨c0, c1, c2, c3, c4, c5, c6, c7, c8, c9, c10, c11, c12, c13⟩ := (R0.out.keep hb).all; have R0 := Lib.hid (R0.out.keep hb); have B0 := Lib.hid (B0.out.trans (hb.mono B0.out.size)); clear hb))
      go_ret
      exact ⟨rfl, B0.out⟩
  · have u : smP a ↔ nmP a.S = true := by unfold smP; rw [if_neg h]
    rw [show decide (smP a) = nmP a.S by rw [Bool.eq_iff_iff]; simp [u]]
    rw [decide_eq_false h] at HC
    clear u h hs
    generalize nmP a.S = n at *
    go_enter Try.func25, Try.ntmps25
    go_upto_region 1 with fail
    rw [← hW0]; clear hW0
    go_wp2_with (first
      | (go_at_call 27; with_reducible refine (HC.out _).mono ?_; rintro x w1 ⟨rfl, hb⟩; obtain ⟨c0, c1, c2, c3, c4, c5, c6, c7, c8, c9, c10, c11, c12, c13⟩ := (R0.out.keep hb).all; have R0 := Lib.hid (R0.out.keep hb); have B0 := Lib.hid (B0.out.trans (hb.mono B0.out.size)); clear hb)
      | (go_at_call 24; with_reducible refine (HN.out _).mono ?_; rintro x w2 ⟨rfl, rfl⟩))
    go_ret
    exact ⟨rfl, B0.out⟩
set_option maxRecDepth 100000 in
set_option maxHeartbeats 8000000 in
theorem plcheck_any (a : Pl) (w : World) (hn : a.N.length ≤ 100000) (hs : a.S.length ≤ 100000) :
    Calls Try.prog 12 #[.agg a.cells] w fun x w' => x = .returned (ev (plE a)) ∧ Below w.heap.size w w' := by
  obtain ⟨W0, hW0⟩ : ∃ W0, W0 = w.alloc (.cells a.cells 26) := ⟨_, rfl⟩
  have B0 : Hid (Below w.heap.size w W0) := Lib.hid (by rw [hW0]; exact bel16 w _)
  have L0 : Plk W0 w.heap.size a := by rw [hW0]; exact plk_new _ _
  obtain ⟨c0, c1, c2, c3, c4, c5, c6, c7, c8, c9, c10, c11, c12, c13⟩ := L0.all
  have R0 := Lib.hid L0
  clear L0
  have HC : Hid (∀ w, Calls Try.prog 27 #[.agg #[.string ⟨a.N.toArray⟩, .string ⟨a.S.toArray⟩, .int .i64 a.O, .int .i64 a.A, .int .i64 a.B.K, .int .i64 a.B.M, .int .i64 a.B.W, .int .i64 a.B.D, .int .i64 a.B.T, .int .i64 a.E.K, .int .i64 a.E.M, .int .i64 a.E.W, .int .i64 a.E.D, .int .i64 a.E.T]] w fun x w' => x = .returned (.bool (!decide (a.S = []))) ∧ Below w.heap.size w w') := Lib.hid (fun w => changes_any a w hs)
  have HM : Hid (∀ w, Calls Try.prog 25 #[.agg #[.string ⟨a.N.toArray⟩, .string ⟨a.S.toArray⟩, .int .i64 a.O, .int .i64 a.A, .int .i64 a.B.K, .int .i64 a.B.M, .int .i64 a.B.W, .int .i64 a.B.D, .int .i64 a.B.T, .int .i64 a.E.K, .int .i64 a.E.M, .int .i64 a.E.W, .int .i64 a.E.D, .int .i64 a.E.T]] w fun x w' => x = .returned (.bool (decide (smP a))) ∧ Below w.heap.size w w') := Lib.hid (fun w => summer_any a w hs)
  have HRB : Hid (∀ w, Calls Try.prog 28 #[.agg #[.int .i64 a.B.K, .int .i64 a.B.M, .int .i64 a.B.W, .int .i64 a.B.D, .int .i64 a.B.T]] w fun x w' => x = .returned (ev (ruE a.B)) ∧ Below w.heap.size w w') := Lib.hid (fun w => check_any a.B w)
  have HRE : Hid (∀ w, Calls Try.prog 28 #[.agg #[.int .i64 a.E.K, .int .i64 a.E.M, .int .i64 a.E.W, .int .i64 a.E.D, .int .i64 a.E.T]] w fun x w' => x = .returned (ev (ruE a.E)) ∧ Below w.heap.size w w') := Lib.hid (fun w => check_any a.E w)
  have HN : Hid (∀ w, Calls Try.prog 24 #[.string ⟨a.N.toArray⟩] w fun x w' => x = .returned (.bool (nmP a.N)) ∧ w = w') := Lib.hid (fun w => by
    have := name_any ⟨a.N.toArray⟩ w (by rw [Lib.size_mk]; exact hn)
    rwa [show (⟨a.N.toArray⟩ : ByteArray).data.toList = a.N by simp] at this)
  have HF := Lib.hid (fun n w => fits17_any n w)
  have q0 := fun op t W x k => guard_ev op t W x k
  have q2 := fun W k => neq_ev W k
  have u : plE a = if nmP a.N = true ∧ smP a then (if ofP a.O = true ∧ ofP a.A = true then (if a.S = [] then 0 else if ruE a.B ≠ 0 then ruE a.B else ruE a.E) else 1) else 2 := rfl
  rw [u]
  clear u hs hn
  cases n1 : nmP a.N with
  | false =>
    rw [if_neg (fun c => by cases c.1)]
    rw [n1] at HN; clear n1
    rw [ev_pos (k := 2) (by decide)]
    go_enter Try.func12, Try.ntmps12
    go_upto_region 1 with fail
    rw [← hW0]; clear hW0
    go_wp2_with (first
      | (go_at_call 24; with_reducible refine (HN.out _).mono ?_; rintro x w1 ⟨rfl, rfl⟩))
    go_ret
    exact ⟨rfl, B0.out⟩
  | true =>
    rw [n1] at HN; clear n1
    by_cases n2 : smP a
    · rw [if_pos ⟨rfl, n2⟩]
      rw [decide_eq_true n2] at HM; clear n2
      cases n3 : ofP a.O with
      | false =>
        rw [if_neg (fun c => by cases c.1)]
        rw [ev_pos (k := 1) (by decide)]
        go_enter Try.func12, Try.ntmps12
        go_upto_region 1 with fail
        rw [← hW0]; clear hW0
        go_wp2_with (first
          | (go_at_call 24; with_reducible refine (HN.out _).mono ?_; rintro x w1 ⟨rfl, rfl⟩)
          | (go_at_call 25; with_reducible refine (HM.out _).mono ?_; rintro x w2 ⟨rfl, hb⟩; obtain ⟨c0, c1, c2, c3, c4, c5, c6, c7, c8, c9, c10, c11, c12, c13⟩ := (R0.out.keep hb).all; have R0 := Lib.hid (R0.out.keep hb); have B0 := Lib.hid (B0.out.trans (hb.mono B0.out.size)); clear hb)
          | (go_at_call 26; with_reducible refine (HF.out _ _).mono ?_; rintro x w3 ⟨rfl, rfl⟩))
        go_ret
        exact ⟨rfl, B0.out⟩
      | true =>
        cases n4 : ofP a.A with
        | false =>
          rw [if_neg (fun c => by cases c.2)]
          rw [ev_pos (k := 1) (by decide)]
          go_enter Try.func12, Try.ntmps12
          go_upto_region 1 with fail
          rw [← hW0]; clear hW0
          go_wp2_with (first
            | (go_at_call 24; with_reducible refine (HN.out _).mono ?_; rintro x w1 ⟨rfl, rfl⟩)
            | (go_at_call 25; with_reducible refine (HM.out _).mono ?_; rintro x w2 ⟨rfl, hb⟩; obtain ⟨c0, c1, c2, c3, c4, c5, c6, c7, c8, c9, c10, c11, c12, c13⟩ := (R0.out.keep hb).all; have R0 := Lib.hid (R0.out.keep hb); have B0 := Lib.hid (B0.out.trans (hb.mono B0.out.size)); clear hb)
            | (go_at_call 26; with_reducible refine (HF.out _ _).mono ?_; rintro x w3 ⟨rfl, rfl⟩))
          go_ret
          exact ⟨rfl, B0.out⟩
        | true =>
          rw [if_pos ⟨rfl, rfl⟩]
          by_cases n5 : a.S = []
          · rw [if_pos n5]
            rw [decide_eq_true n5] at HC; clear n5
            go_enter Try.func12, Try.ntmps12
            go_upto_region 1 with fail
            rw [← hW0]; clear hW0
            go_wp2_with (first
              | (go_at_call 24; with_reducible refine (HN.out _).mono ?_; rintro x w1 ⟨rfl, rfl⟩)
              | (go_at_call 25; with_reducible refine (HM.out _).mono ?_; rintro x w2 ⟨rfl, hb⟩; obtain ⟨c0, c1, c2, c3, c4, c5, c6, c7, c8, c9, c10, c11, c12, c13⟩ := (R0.out.keep hb).all; have R0 := Lib.hid (R0.out.keep hb); have B0 := Lib.hid (B0.out.trans (hb.mono B0.out.size)); clear hb)
              | (go_at_call 26; with_reducible refine (HF.out _ _).mono ?_; rintro x w3 ⟨rfl, rfl⟩)
              | (go_at_call 27; with_reducible refine (HC.out _).mono ?_; rintro x w4 ⟨rfl, hb⟩; obtain ⟨c0, c1, c2, c3, c4, c5, c6, c7, c8, c9, c10, c11, c12, c13⟩ := (R0.out.keep hb).all; have R0 := Lib.hid (R0.out.keep hb); have B0 := Lib.hid (B0.out.trans (hb.mono B0.out.size)); clear hb))
            go_ret
            exact ⟨rfl, B0.out⟩
          · rw [if_neg n5]
            rw [decide_eq_false n5] at HC; clear n5
            by_cases n6 : ruE a.B = 0
            · rw [if_neg (fun c => c n6)]
              rw [n6] at HRB; clear n6
              generalize ruE a.E = F at *
              go_enter Try.func12, Try.ntmps12
              go_upto_region 1 with fail
              rw [← hW0]; clear hW0
              go_wp2_with (first
                | (go_at_call 24; with_reducible refine (HN.out _).mono ?_; rintro x w1 ⟨rfl, rfl⟩)
                | (go_at_call 25; with_reducible refine (HM.out _).mono ?_; rintro x w2 ⟨rfl, hb⟩; obtain ⟨c0, c1, c2, c3, c4, c5, c6, c7, c8, c9, c10, c11, c12, c13⟩ := (R0.out.keep hb).all; have R0 := Lib.hid (R0.out.keep hb); have B0 := Lib.hid (B0.out.trans (hb.mono B0.out.size)); clear hb)
                | (go_at_call 26; with_reducible refine (HF.out _ _).mono ?_; rintro x w3 ⟨rfl, rfl⟩)
                | (go_at_call 27; with_reducible refine (HC.out _).mono ?_; rintro x w4 ⟨rfl, hb⟩; obtain ⟨c0, c1, c2, c3, c4, c5, c6, c7, c8, c9, c10, c11, c12, c13⟩ := (R0.out.keep hb).all; have R0 := Lib.hid (R0.out.keep hb); have B0 := Lib.hid (B0.out.trans (hb.mono B0.out.size)); clear hb)
                | (go_at_call 28; with_reducible refine (HRB.out _).mono ?_; rintro x w5 ⟨rfl, hb⟩; obtain ⟨c0, c1, c2, c3, c4, c5, c6, c7, c8, c9, c10, c11, c12, c13⟩ := (R0.out.keep hb).all; have R0 := Lib.hid (R0.out.keep hb); have B0 := Lib.hid (B0.out.trans (hb.mono B0.out.size)); clear hb)
                | (go_at_call 28; with_reducible refine (HRE.out _).mono ?_; rintro x w6 ⟨rfl, hb⟩; obtain ⟨c0, c1, c2, c3, c4, c5, c6, c7, c8, c9, c10, c11, c12, c13⟩ := (R0.out.keep hb).all; have R0 := Lib.hid (R0.out.keep hb); have B0 := Lib.hid (B0.out.trans (hb.mono B0.out.size)); clear hb))
              go_ret
              exact ⟨rfl, B0.out⟩
            · rw [if_pos n6]
              have t1 := ne_yes n6
              generalize ruE a.B = F at *
              clear n6
              go_enter Try.func12, Try.ntmps12
              go_upto_region 1 with fail
              rw [← hW0]; clear hW0
              go_wp2_with (first
                | (go_at_call 24; with_reducible refine (HN.out _).mono ?_; rintro x w1 ⟨rfl, rfl⟩)
                | (go_at_call 25; with_reducible refine (HM.out _).mono ?_; rintro x w2 ⟨rfl, hb⟩; obtain ⟨c0, c1, c2, c3, c4, c5, c6, c7, c8, c9, c10, c11, c12, c13⟩ := (R0.out.keep hb).all; have R0 := Lib.hid (R0.out.keep hb); have B0 := Lib.hid (B0.out.trans (hb.mono B0.out.size)); clear hb)
                | (go_at_call 26; with_reducible refine (HF.out _ _).mono ?_; rintro x w3 ⟨rfl, rfl⟩)
                | (go_at_call 27; with_reducible refine (HC.out _).mono ?_; rintro x w4 ⟨rfl, hb⟩; obtain ⟨c0, c1, c2, c3, c4, c5, c6, c7, c8, c9, c10, c11, c12, c13⟩ := (R0.out.keep hb).all; have R0 := Lib.hid (R0.out.keep hb); have B0 := Lib.hid (B0.out.trans (hb.mono B0.out.size)); clear hb)
                | (go_at_call 28; with_reducible refine (HRB.out _).mono ?_; rintro x w5 ⟨rfl, hb⟩; obtain ⟨c0, c1, c2, c3, c4, c5, c6, c7, c8, c9, c10, c11, c12, c13⟩ := (R0.out.keep hb).all; have R0 := Lib.hid (R0.out.keep hb); have B0 := Lib.hid (B0.out.trans (hb.mono B0.out.size)); clear hb))
              go_ret
              exact ⟨rfl, B0.out⟩
    · rw [if_neg (fun c => n2 c.2)]
      rw [decide_eq_false n2] at HM; clear n2
      rw [ev_pos (k := 2) (by decide)]
      go_enter Try.func12, Try.ntmps12
      go_upto_region 1 with fail
      rw [← hW0]; clear hW0
      go_wp2_with (first
        | (go_at_call 24; with_reducible refine (HN.out _).mono ?_; rintro x w1 ⟨rfl, rfl⟩)
        | (go_at_call 25; with_reducible refine (HM.out _).mono ?_; rintro x w2 ⟨rfl, hb⟩; obtain ⟨c0, c1, c2, c3, c4, c5, c6, c7, c8, c9, c10, c11, c12, c13⟩ := (R0.out.keep hb).all; have R0 := Lib.hid (R0.out.keep hb); have B0 := Lib.hid (B0.out.trans (hb.mono B0.out.size)); clear hb))
      go_ret
      exact ⟨rfl, B0.out⟩
end Go.Proofs.Ytkhcneacjnpcnaa
