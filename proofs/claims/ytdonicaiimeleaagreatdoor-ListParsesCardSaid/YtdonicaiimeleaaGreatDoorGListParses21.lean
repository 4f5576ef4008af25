/- Merged: ListAZ. -/
import Derived.Test.YtdonicaiimeleaaGreatDoorGListParses18
import Derived.Test.YtdonicaiimeleaaGreatDoorGListParses20
namespace Go.Proofs.YtdonicaiimeleaaGreatDoor
open Go.RowKit Go.WideShapes Go.ChangeShapes
set_option linter.unusedVariables false
set_option linter.unusedSimpArgs false

theorem one_any2 (r : Rd11) (A : Option Addr) (c : Nat) (f k : Int) (t : ByteArray) (w : World) (ht : t.size ≤ 100000) (hr : Rp w.heap.size w A r.L) (hA : A = none → c = 0 ∧ r.L = []) (hL : r.L.length ≤ 90000)
    (hm : 0 ≤ r.m) (hm2 : r.m ≤ 1000000) (hh : 0 ≤ r.h) (hh2 : r.h ≤ 1000000) (hs : 0 ≤ r.s) :
    Calls Tryz.prog 17 #[.agg (rcR A c r f k), .string t] w fun x w' => ∃ A' c' r', x = .returned (.tuple #[.agg (rcR A' c' r' f k), .int .i64 (on11 r t.data.toList)]) ∧ (on11 r t.data.toList = 0 → r' = nx11 r t.data.toList) ∧ Rp w'.heap.size w' A' r'.L ∧ (A' = none → c' = 0 ∧ r'.L = []) ∧ Below w.heap.size w w' ∧ ((A' = A ∧ r'.L = r.L) ∨ ∀ b off, A' = some ⟨b, off, none⟩ → w.heap.size ≤ b) := by
  have keep : ∀ w', Below w.heap.size w w' → Rp w'.heap.size w' A r.L := fun w' hb => (hr.below hb).mono hb.size
  have hsz : t.data.toList.length = t.size := by simp
  by_cases hw : wdL t.data.toList = []
  · have e1 : on11 r t.data.toList = 0 := by unfold on11; rw [if_pos hw]
    have e2 : nx11 r t.data.toList = r := by unfold nx11; rw [if_pos hw]
    rw [e1, e2]
    refine (one_empty A r.L.length c r.u r.e r.m r.h r.s r.x0 r.x1 r.x2 r.x3 r.x4 f k t w ht hw).mono ?_
    rintro x w' ⟨rfl, hb⟩
    exact ⟨A, c, r, rfl, fun _ => rfl, keep w' hb, hA, hb, .inl ⟨rfl, rfl⟩⟩
  have hpos : 1 ≤ t.size := by
    refine Nat.pos_of_ne_zero fun h0 => hw ?_
    have : t.data.toList = [] := List.eq_nil_of_length_eq_zero (by omega)
    rw [this]; rfl
  have tl : ∀ q : List UInt8, q.length = 2 → t.data.toList.take 2 = q → 2 ≤ t.size := by
    intro q h1 h2
    have := congrArg List.length h2
    rw [List.length_take] at this
    omega
  by_cases q0 : t.data.toList.take 2 = [35, 36]
  · have e1 : on11 r t.data.toList = twE (tiE (t.data.toList.drop 2)) r.m := by unfold on11; rw [if_neg hw, if_pos q0]
    have e2 : nx11 r t.data.toList = { r with u := (tiN (t.data.toList.drop 2) : Nat), m := r.m + 1 } := by unfold nx11; rw [if_neg hw, if_pos q0]
    rw [e1, e2]
    refine (one_time A r.L.length c r.u r.e r.m r.h r.s r.x0 r.x1 r.x2 r.x3 r.x4 f k t w ht hw (tl _ rfl q0) (head_is t _ _ (decide_eq_true q0)) hm hm2).mono ?_
    rintro x w' ⟨rfl, hb⟩
    exact ⟨A, c, { r with u := (tiN (t.data.toList.drop 2) : Nat), m := r.m + 1 }, rfl, fun _ => rfl, keep w' hb, hA, hb, .inl ⟨rfl, rfl⟩⟩
  by_cases q1 : t.data.toList.take 2 = [35, 64]
  · have e1 : on11 r t.data.toList = twE (tiE (t.data.toList.drop 2)) r.h := by unfold on11; rw [if_neg hw, if_neg q0, if_pos q1]
    have e2 : nx11 r t.data.toList = { r with e := (tiN (t.data.toList.drop 2) : Nat), h := r.h + 1 } := by unfold nx11; rw [if_neg hw, if_neg q0, if_pos q1]
    rw [e1, e2]
    refine (one_hold A r.L.length c r.u r.e r.m r.h r.s r.x0 r.x1 r.x2 r.x3 r.x4 f k t w ht hw (tl _ rfl q1) (head_is t _ _ (decide_eq_false q0)) (head_is t _ _ (decide_eq_true q1)) hh hh2).mono ?_
    rintro x w' ⟨rfl, hb⟩
    exact ⟨A, c, { r with e := (tiN (t.data.toList.drop 2) : Nat), h := r.h + 1 }, rfl, fun _ => rfl, keep w' hb, hA, hb, .inl ⟨rfl, rfl⟩⟩
  by_cases q2 : t.data.toList.take 2 = [35, 104]
  · have h2 := tl _ rfl q2
    by_cases hbad : gpL (t.data.toList.drop 2) = false ∨ (wdL (t.data.toList.drop 2)).length ≠ 5 ∨ 0 < r.s
    · have e1 : on11 r t.data.toList = 2 := by unfold on11; rw [if_neg hw, if_neg q0, if_neg q1, if_pos q2, if_pos hbad]
      rw [e1]
      refine (one_sumno A r.L.length c r.u r.e r.m r.h r.s r.x0 r.x1 r.x2 r.x3 r.x4 f k t w ht hw h2 (head_is t _ _ (decide_eq_false q0)) (head_is t _ _ (decide_eq_false q1)) (head_is t _ _ (decide_eq_true q2)) hbad).mono ?_
      rintro x w' ⟨rfl, hb⟩
      exact ⟨A, c, r, rfl, fun h => absurd h (by decide), keep w' hb, hA, hb, .inl ⟨rfl, rfl⟩⟩
    · have e1 : on11 r t.data.toList = suE (wdL (t.data.toList.drop 2)) := by unfold on11; rw [if_neg hw, if_neg q0, if_neg q1, if_pos q2, if_neg hbad]
      have e2 : nx11 r t.data.toList = { r with s := 1, x0 := (suN (wdL (t.data.toList.drop 2)) 0 : Nat), x1 := (suN (wdL (t.data.toList.drop 2)) 1 : Nat), x2 := (suN (wdL (t.data.toList.drop 2)) 2 : Nat), x3 := (suN (wdL (t.data.toList.drop 2)) 3 : Nat), x4 := (suN (wdL (t.data.toList.drop 2)) 4 : Nat) } := by unfold nx11; rw [if_neg hw, if_neg q0, if_neg q1, if_pos q2]
      have g1 : gpL (t.data.toList.drop 2) = true := by
        cases hg : gpL (t.data.toList.drop 2) with
        | true => rfl
        | false => exact absurd (.inl hg) hbad
      have g2 : (wdL (t.data.toList.drop 2)).length = 5 := Decidable.byContradiction fun h => hbad (.inr (.inl h))
      have g3 : r.s = 0 := by have : ¬ 0 < r.s := fun h => hbad (.inr (.inr h)); omega
      have g4 : ∀ v ∈ wdL (t.data.toList.drop 2), v.length ≤ 100000 := by
        intro v hv
        have := wdL_all _ v hv
        rw [List.length_drop] at this
        omega
      rw [e1, e2]
      show Calls Tryz.prog 17 #[.agg (rc13 (.slice A r.L.length c) r.u r.e r.m r.h r.s r.x0 r.x1 r.x2 r.x3 r.x4 f k), .string t] w _
      rw [g3]
      refine (one_sumyes A r.L.length c r.u r.e r.m r.h r.x0 r.x1 r.x2 r.x3 r.x4 f k t w ht hw h2 (head_is t _ _ (decide_eq_false q0)) (head_is t _ _ (decide_eq_false q1)) (head_is t _ _ (decide_eq_true q2)) g1 g2 g4).mono ?_
      rintro x w' ⟨y0, y1, y2, y3, y4, rfl, hy, hb⟩
      refine ⟨A, c, { r with s := 1, x0 := y0, x1 := y1, x2 := y2, x3 := y3, x4 := y4 }, rfl, fun h => ?_, keep w' hb, hA, hb, .inl ⟨rfl, rfl⟩⟩
      obtain ⟨z0, z1, z2, z3, z4⟩ := hy h
      rw [z0, z1, z2, z3, z4]
  by_cases h0 : t.data.toList[0]? = some 35
  · have e1 : on11 r t.data.toList = 0 := by unfold on11; rw [if_neg hw, if_neg q0, if_neg q1, if_neg q2, if_pos h0]
    have e2 : nx11 r t.data.toList = r := by unfold nx11; rw [if_neg hw, if_neg q0, if_neg q1, if_neg q2, if_pos h0]
    rw [e1, e2]
    by_cases h2 : 2 ≤ t.size
    · refine (one_mark A r.L.length c r.u r.e r.m r.h r.s r.x0 r.x1 r.x2 r.x3 r.x4 f k t w ht hw h2 (head_is t _ _ (decide_eq_false q0)) (head_is t _ _ (decide_eq_false q1)) (head_is t _ _ (decide_eq_false q2)) h0).mono ?_
      rintro x w' ⟨rfl, hb⟩
      exact ⟨A, c, r, rfl, fun _ => rfl, keep w' hb, hA, hb, .inl ⟨rfl, rfl⟩⟩
    · refine (one_lone A r.L.length c r.u r.e r.m r.h r.s r.x0 r.x1 r.x2 r.x3 r.x4 f k t w ht hw (by omega) h0).mono ?_
      rintro x w' ⟨rfl, hb⟩
      exact ⟨A, c, r, rfl, fun _ => rfl, keep w' hb, hA, hb, .inl ⟨rfl, rfl⟩⟩
  have e1 : on11 r t.data.toList = rwE t.data.toList := by unfold on11; rw [if_neg hw, if_neg q0, if_neg q1, if_neg q2, if_neg h0]
  have e2 : nx11 r t.data.toList = { r with L := r.L ++ [⟨(rwA t.data.toList : Nat) / 86400 + -25567, (rwO11 t.data.toList : Nat)⟩] } := by unfold nx11; rw [if_neg hw, if_neg q0, if_neg q1, if_neg q2, if_neg h0]
  rw [e1, e2]
  by_cases h2 : 2 ≤ t.size
  · by_cases hE : rwE t.data.toList = 0
    · rw [hE]
      refine (one_rowgood A c r.L r.u r.e r.m r.h r.s r.x0 r.x1 r.x2 r.x3 r.x4 f k t w ht hr hA hL hw h2 (head_is t _ _ (decide_eq_false q0)) (head_is t _ _ (decide_eq_false q1)) (head_is t _ _ (decide_eq_false q2)) h0 hE).mono ?_
      rintro x w' ⟨A', c', rfl, h3, h4, hb, h5⟩
      exact ⟨A', c', { r with L := r.L ++ [⟨(rwA t.data.toList : Nat) / 86400 + -25567, (rwO11 t.data.toList : Nat)⟩] }, rfl, fun _ => rfl, h3, h4, hb, .inr h5⟩
    · refine (one_rowbad A c r.L r.u r.e r.m r.h r.s r.x0 r.x1 r.x2 r.x3 r.x4 f k t w ht hr hA hL hw h2 (head_is t _ _ (decide_eq_false q0)) (head_is t _ _ (decide_eq_false q1)) (head_is t _ _ (decide_eq_false q2)) h0 hE).mono ?_
      rintro x w' ⟨rfl, hb⟩
      exact ⟨A, c, r, rfl, fun h => absurd h hE, keep w' hb, hA, hb, .inl ⟨rfl, rfl⟩⟩
  · have hE := rw_lone (l := t.data.toList) (by omega)
    refine (one_rowlone A c r.L r.u r.e r.m r.h r.s r.x0 r.x1 r.x2 r.x3 r.x4 f k t w ht hr hA hL hw (by omega) h0 hE).mono ?_
    rintro x w' ⟨rfl, hb⟩
    exact ⟨A, c, r, rfl, fun h => absurd h hE, keep w' hb, hA, hb, .inl ⟨rfl, rfl⟩⟩

theorem rp_put13 {B : Nat} {W : World} {A : Option Addr} {L : List Rw} (h : Rp B W A L) (q : Nat) (hq : ∀ b off, A = some ⟨b, off, none⟩ → q ≠ b) (a0 a1 a2 a3 a4 a5 a6 a7 a8 a9 a10 a11 a12 : Value) : Rp B (put13 W q a0 a1 a2 a3 a4 a5 a6 a7 a8 a9 a10 a11 a12) A L :=
  (((((((((((((h.set q 0 a0 hq).set q 1 a1 hq).set q 2 a2 hq).set q 3 a3 hq).set q 4 a4 hq).set q 5 a5 hq).set q 6 a6 hq).set q 7 a7 hq).set q 8 a8 hq).set q 9 a9 hq).set q 10 a10 hq).set q 11 a11 hq).set q 12 a12 hq)
/-- The same, where the rows lie below the block. -/
theorem rp_off13 {B : Nat} {W : World} {A : Option Addr} {L : List Rw} (h : Rp B W A L) (q : Nat) (hq : B ≤ q) (a0 a1 a2 a3 a4 a5 a6 a7 a8 a9 a10 a11 a12 : Value) : Rp B (put13 W q a0 a1 a2 a3 a4 a5 a6 a7 a8 a9 a10 a11 a12) A L := by
  rcases h with h | ⟨b, off, h1, h2, h4, h3⟩
  · exact .inl h
  · exact rp_put13 (.inr ⟨b, off, h1, h2, h4, h3⟩) q (fun b' off' e => by rw [h1] at e; injection e with e; injection e with e; omega) ..
theorem B13.farz {W : World} {q g : Nat} {cs : Array Value} (h : B13 W g cs) (hq : q ≠ g) (a0 a1 a2 a3 a4 a5 a6 a7 a8 a9 a10 a11 a12 : Value) : B13 (put13 W q a0 a1 a2 a3 a4 a5 a6 a7 a8 a9 a10 a11 a12) g cs := by
  have f : ∀ (V : World) i u, (V.setCell ⟨q, i, none⟩ u).heap[g]? = V.heap[g]? := fun V i u => by simp [World.setCell, Array.getElem?_modify, hq]
  unfold B13 put13
  rw [f, f, f, f, f, f, f, f, f, f, f, f, f]
  exact h
theorem B13.far1 {W : World} {q g : Nat} {cs : Array Value} (h : B13 W g cs) (hq : q ≠ g) (i : Nat) (u : Value) : B13 (W.setCell ⟨q, i, none⟩ u) g cs := by
  have f : (W.setCell ⟨q, i, none⟩ u).heap[g]? = W.heap[g]? := by simp [World.setCell, Array.getElem?_modify, hq]
  unfold B13
  rw [f]
  exact h
theorem size_put13 (W : World) (q : Nat) (a0 a1 a2 a3 a4 a5 a6 a7 a8 a9 a10 a11 a12 : Value) : (put13 W q a0 a1 a2 a3 a4 a5 a6 a7 a8 a9 a10 a11 a12).heap.size = W.heap.size := by simp [put13, World.setCell]
theorem os_put13 {W : World} {base q : Nat} {v : Value} {ls : List (List UInt8)} (h : Os W base v ls) (hq : q < base) (a0 a1 a2 a3 a4 a5 a6 a7 a8 a9 a10 a11 a12 : Value) : Os (put13 W q a0 a1 a2 a3 a4 a5 a6 a7 a8 a9 a10 a11 a12) base v ls := by
  refine ⟨h.1, ?_⟩
  rcases h.2 with h0 | ⟨g, cap, cur, h1, h2, h3, h4⟩
  · exact .inl h0
  · have hne : q ≠ g := by omega
    have f : ∀ (V : World) i u, (V.setCell ⟨q, i, none⟩ u).heap[g]? = V.heap[g]? := fun V i u => by simp [World.setCell, Array.getElem?_modify, hne]
    refine .inr ⟨g, cap, cur, h1, h2, ?_, h4⟩
    unfold put13
    rw [f, f, f, f, f, f, f, f, f, f, f, f, f]
    exact h3

end Go.Proofs.YtdonicaiimeleaaGreatDoor
