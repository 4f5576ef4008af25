/- Merged: RulK. -/
import Derived.Test.YtkhcneacjnpcnaaGPosixParses25
namespace Go.Proofs.Ytkhcneacjnpcnaa
open Go.RowKit
set_option linter.unusedVariables false
set_option linter.unusedSimpArgs false

theorem tdR_T (l : List UInt8) : (tdR l).T = 0 := by
  unfold tdR; split
  · rfl
  · split <;> rfl
theorem tdR_cells (l : List UInt8) : (tdR l).cells = #[.int .i64 (tdR l).K, .int .i64 (tdR l).M, .int .i64 (tdR l).W, .int .i64 (tdR l).D, .int .i64 0] := by
  have := tdR_T l
  unfold Ru.cells; rw [this]
theorem parse16_any (s : ByteArray) (w : World) (hs : s.size ≤ 100000) :
    Calls Try.prog 44 #[.string s] w fun x w' => x = .returned (.tuple #[.agg (rpV s.data.toList).cells, ev (rpE s.data.toList)]) ∧ Below w.heap.size w w' := by
  have hsz : s.data.toList.length = s.size := by simp
  have HD := fun g w h => tday_any g s w h hs
  have T := fun g k e (hk : k ≤ s.data.toList.length) b w h => takes_s g k e (.string s) s b w h rfl (by omega) hs
  have C := fun g k e (hk : k ≤ s.data.toList.length) w h => tclock_any g k e s w h (by omega) hs
  have E := fun g k e (hk : k ≤ s.data.toList.length) w h => end_s g k e (.string s) s w h rfl (by omega) hs
  generalize s.data.toList = l at *
  rw [tdR_cells] at HD
  have tk := tdk_le l
  have T1 := fun g => T g (tdk l) (tde l) tk 47
  cases hs1 : slB l with
  | true =>
    have hs2 : ((rs l (tdk l) (tde l)).head? == some 47) = true := hs1
    rw [hs2, if_pos (hd_true hs2)] at T1
    have tk2 := (sl_yes hs1).2
    have C1 := fun g => C g (tdk l + 1) (tde l) tk2
    have k3 := cK3_le l (tde l) tk2
    have E1 := fun g => E g (cK3 l (tdk l + 1) (tde l)) (cE3 l (tdk l + 1) (tde l)) k3
    have bH := cH_bd l (tdk l + 1) (tde l); have bM := cM_bd l (tdk l + 1) (tde l); have bS := cS_bd l (tdk l + 1) (tde l)
    rcases rp_slash hs1 with ⟨e, r1, r2⟩ | ⟨e, d, c⟩
    · rw [e] at E1
      rw [r1, r2]
      exact parse16_s_bad s w _ _ _ _ _ _ _ _ _ _ _ _ _ (Lib.hid HD) (Lib.hid T1) (Lib.hid C1) (Lib.hid E1)
    · rw [e] at E1
      obtain ⟨r1, r2⟩ := rp_some d c
      have F := fun w => fits16_any (cNg l (tdk l + 1) (tde l)) (cH l (tdk l + 1) (tde l)) (cM l (tdk l + 1) (tde l)) (cS l (tdk l + 1) (tde l)) 167 w
      have O := fun w => total_any (cNg l (tdk l + 1) (tde l)) (cH l (tdk l + 1) (tde l)) (cM l (tdk l + 1) (tde l)) (cS l (tdk l + 1) (tde l)) w bH bM bS
      have X := fun w => check_any ⟨(tdR l).K, (tdR l).M, (tdR l).W, (tdR l).D, ckT (cNg l (tdk l + 1) (tde l)) (cH l (tdk l + 1) (tde l)) (cM l (tdk l + 1) (tde l)) (cS l (tdk l + 1) (tde l))⟩ w
      cases f : ckF 167 (cH l (tdk l + 1) (tde l)) (cM l (tdk l + 1) (tde l)) (cS l (tdk l + 1) (tde l)) with
      | false =>
        rw [f] at F r1 r2
        rw [if_neg (by decide)] at r1
        rw [if_neg (fun h => by cases h.1)] at r2
        rw [r1, r2]
        exact parse16_s_unfit s w _ _ _ _ _ _ _ _ _ _ _ _ _ (Lib.hid HD) (Lib.hid T1) (Lib.hid C1) (Lib.hid E1) (Lib.hid F)
      | true =>
        rw [f] at F r1 r2
        rw [if_pos rfl] at r1
        rw [r1]
        by_cases h : ruE ⟨(tdR l).K, (tdR l).M, (tdR l).W, (tdR l).D, ckT (cNg l (tdk l + 1) (tde l)) (cH l (tdk l + 1) (tde l)) (cM l (tdk l + 1) (tde l)) (cS l (tdk l + 1) (tde l))⟩ = 0
        · rw [if_pos ⟨rfl, h⟩] at r2
          rw [r2, h]
          rw [h] at X
          exact parse16_s_good s w _ _ _ _ _ _ _ _ _ _ _ _ _ _ (Lib.hid HD) (Lib.hid T1) (Lib.hid C1) (Lib.hid E1) (Lib.hid F) (Lib.hid O) (Lib.hid X)
        · rw [if_neg (fun c => h c.2)] at r2
          rw [r2]
          exact parse16_s_wrong s w _ _ _ _ _ _ _ _ _ _ _ _ _ _ _ h (Lib.hid HD) (Lib.hid T1) (Lib.hid C1) (Lib.hid E1) (Lib.hid F) (Lib.hid O) (Lib.hid X)
  | false =>
    have hs2 : ((rs l (tdk l) (tde l)).head? == some 47) = false := hs1
    rw [hs2, if_neg (hd_false hs2)] at T1
    have E1 := fun g => E g (tdk l) (tde l) tk
    rcases rp_plain hs1 with ⟨e, r1, r2⟩ | ⟨e, d, c⟩
    · rw [e] at E1
      rw [r1, r2]
      exact parse16_n_bad s w _ _ _ _ _ _ _ (Lib.hid HD) (Lib.hid T1) (Lib.hid E1)
    · rw [e] at E1
      obtain ⟨r1, r2⟩ := rp_some d c
      have F : ∀ w, Calls Try.prog 55 #[.agg #[.bool false, .int .i64 2, .int .i64 0, .int .i64 0], .int .i64 167] w fun x w' => x = .returned (.bool true) ∧ Below w.heap.size w w' := fun w => fits16_any false 2 0 0 167 w
      have O : ∀ w, Calls Try.prog 56 #[.agg #[.bool false, .int .i64 2, .int .i64 0, .int .i64 0]] w fun x w' => x = .returned (.int .i64 7200) ∧ Below w.heap.size w w' := fun w => total_any false 2 0 0 w (by decide) (by decide) (by decide)
      have X := fun w => check_any ⟨(tdR l).K, (tdR l).M, (tdR l).W, (tdR l).D, 7200⟩ w
      have f : ckF 167 2 0 0 = true := by decide
      have o : ckT false 2 0 0 = 7200 := by decide
      rw [o, f] at r1 r2
      rw [if_pos rfl] at r1
      rw [r1]
      by_cases h : ruE ⟨(tdR l).K, (tdR l).M, (tdR l).W, (tdR l).D, 7200⟩ = 0
      · rw [if_pos ⟨rfl, h⟩] at r2
        rw [r2, h]
        rw [h] at X
        exact parse16_n_good s w _ _ _ _ _ _ _ _ (Lib.hid HD) (Lib.hid T1) (Lib.hid E1) (Lib.hid F) (Lib.hid O) (Lib.hid X)
      · rw [if_neg (fun c => h c.2)] at r2
        rw [r2]
        exact parse16_n_wrong s w _ _ _ _ _ _ _ _ _ h (Lib.hid HD) (Lib.hid T1) (Lib.hid E1) (Lib.hid F) (Lib.hid O) (Lib.hid X)
end Go.Proofs.Ytkhcneacjnpcnaa
