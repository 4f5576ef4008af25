/- The document's answer for labels: Of, whole. Written by gen_labi.py. -/
import Derived.Test.YtiamggjebaabkaaDoorLabI
import Derived.Test.YtiamggjebaabkaaDoorLabK
namespace Go.Proofs.YtiamggjebaabkaaDoor
open Go.RowKit
set_option linter.unusedVariables false


/-- The label of a day and a second of it, or an error's number. -/
theorem lrof_any (n t nn o : Int) (w : World) {L : Lb} (hL : Mk n t nn o L) :
    Calls Tryd.prog 48 #[.int .i64 n, .int .i64 t, .int .i64 nn, .int .i64 o] w fun e w' => e = .returned (.tuple #[.agg L.cells, .int .i64 (mkE n t nn o)]) ∧ Below w.heap.size w w' := by
  by_cases a : dyok n
  · by_cases g : ckB t ∧ nnok nn ∧ ofok o
    · obtain ⟨b, c, g⟩ := g
      have eC : cmn t = if t / 60 ≤ 1439 then t / 60 else 1439 := rfl
      have eR : crs t = t - 60 * cmn t := rfl
      have eN : shn n t o = n + (cmn t + o) / 1440 := rfl
      have eM : shm t o = (cmn t + o) % 1440 := rfl
      have b' := b; have g' := g
      unfold ckB at b'
      unfold ofok at g'
      have key : (mkE n t nn o = 0 ∧ ∃ y m d, Dt (shn n t o) y m d ∧ L = ⟨y, m, d, shm t o / 60, shm t o % 60, crs t, nn, o⟩) ∨ (mkE n t nn o = 13 ∧ L = lb0 ∧ ¬ dyok (shn n t o)) := by
        rcases hL with h | ⟨h, h'⟩
        · exact .inl h
        · have k : ¬ dyok (shn n t o) := fun k => h (zero_mkE a b c g k)
          exact .inr ⟨by unfold mkE; rw [if_pos a, if_pos ⟨b, c, g⟩, if_neg k], h', k⟩
      by_cases ht : t = 86400
      · have e1 : cmn t = 1439 := by rw [eC, ht]; decide
        have e2 : crs t = 60 := by rw [eR, e1, ht]; decide
        rw [e1] at eN eM
        rcases (by unfold ofok at g; omega : (¬ 1439 + o < 0 ∧ ¬ 1439 + o ≥ 1440) ∨ (¬ 1439 + o < 0 ∧ 1439 + o ≥ 1440)) with ⟨m1, m2⟩ | ⟨m1, m2⟩
        · have e3 : shn n t o = n := by rw [eN]; omega
          have e4 : shm t o = 1439 + o := by rw [eM]; omega
          rw [e2, e3, e4] at key
          rcases key with ⟨h, y, m, d, D, rfl⟩ | ⟨h, rfl, k⟩
          · rw [h]; exact lrof_l1y n t nn o w a b c g ht m1 m2 D
          · rw [h]; exact lrof_l1n n t nn o w a b c g ht m1 m2 k
        · have e3 : shn n t o = n + 1 := by rw [eN]; omega
          have e4 : shm t o = 1439 + o - 1440 := by rw [eM]; omega
          rw [e2, e3, e4] at key
          rcases key with ⟨h, y, m, d, D, rfl⟩ | ⟨h, rfl, k⟩
          · rw [h]; exact lrof_l2y n t nn o w a b c g ht m1 m2 D
          · rw [h]; exact lrof_l2n n t nn o w a b c g ht m1 m2 k
      · have e1 : cmn t = t / 60 := by rw [eC, if_pos (by omega)]
        have e2 : crs t = t % 60 := by rw [eR, e1]; omega
        rw [e1] at eN eM
        rcases (by omega : t / 60 + o < 0 ∨ (¬ t / 60 + o < 0 ∧ ¬ t / 60 + o ≥ 1440) ∨ (¬ t / 60 + o < 0 ∧ t / 60 + o ≥ 1440)) with m1 | ⟨m1, m2⟩ | ⟨m1, m2⟩
        · have e3 : shn n t o = n - 1 := by rw [eN]; omega
          have e4 : shm t o = t / 60 + o + 1440 := by rw [eM]; omega
          rw [e2, e3, e4] at key
          rcases key with ⟨h, y, m, d, D, rfl⟩ | ⟨h, rfl, k⟩
          · rw [h]; exact lrof_e0y n t nn o w a b c g ht m1 D
          · rw [h]; exact lrof_e0n n t nn o w a b c g ht m1 k
        · have e3 : shn n t o = n := by rw [eN]; omega
          have e4 : shm t o = t / 60 + o := by rw [eM]; omega
          rw [e2, e3, e4] at key
          rcases key with ⟨h, y, m, d, D, rfl⟩ | ⟨h, rfl, k⟩
          · rw [h]; exact lrof_e1y n t nn o w a b c g ht m1 m2 D
          · rw [h]; exact lrof_e1n n t nn o w a b c g ht m1 m2 k
        · have e3 : shn n t o = n + 1 := by rw [eN]; omega
          have e4 : shm t o = t / 60 + o - 1440 := by rw [eM]; omega
          rw [e2, e3, e4] at key
          rcases key with ⟨h, y, m, d, D, rfl⟩ | ⟨h, rfl, k⟩
          · rw [h]; exact lrof_e2y n t nn o w a b c g ht m1 m2 D
          · rw [h]; exact lrof_e2n n t nn o w a b c g ht m1 m2 k
    · have e : mkE n t nn o = 1 := by unfold mkE; rw [if_pos a]; exact if_neg g
      rcases hL with ⟨h, -⟩ | ⟨-, rfl⟩
      · rw [e] at h; cases h
      · rw [e]; exact lrof_range n t nn o w a g
  · have e : mkE n t nn o = 13 := by unfold mkE; rw [if_neg a]
    rcases hL with ⟨h, -⟩ | ⟨-, rfl⟩
    · rw [e] at h; cases h
    · rw [e]; exact lrof_day n t nn o w a

end Go.Proofs.YtiamggjebaabkaaDoor
