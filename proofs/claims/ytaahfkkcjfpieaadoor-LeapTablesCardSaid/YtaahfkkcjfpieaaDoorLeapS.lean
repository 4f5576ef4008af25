/- The statements of layer 10: Is. -/
import Derived.Test.YtaahfkkcjfpieaaDoorLeapR
namespace Go.Proofs.YtaahfkkcjfpieaaDoor
open Go.RowKit
set_option linter.unusedVariables false
set_option linter.unusedSimpArgs false

set_option maxRecDepth 100000 in
set_option maxHeartbeats 4000000 in
theorem is10_any {lo : Nat} (g : Nat) (A : Option Addr) (c : Nat) (L : List Rw) (u e : Int) (w : World) (ht : Tb lo w g L u e) (hr : Rp w.heap.size w A L) (hL : L.length ≤ 256) :
    Calls Tryd.prog 12 #[.pointer (some ⟨g, 0, none⟩), .agg #[.slice A L.length c, .int .i64 u, .int .i64 e]] w fun x w' => x = .returned (.bool true) ∧ Below w.heap.size w w' := by
  obtain ⟨W1, hW1, b1, hlt, hD⟩ := doc_box w A L.length c u e
  have hS : ∀ W, Kb W1 W → W.cell? ⟨w.heap.size, 0, none⟩ = some (.slice A L.length c) ∧ W.cell? ⟨w.heap.size, 1, none⟩ = some (.int .i64 u) ∧ W.cell? ⟨w.heap.size, 2, none⟩ = some (.int .i64 e) ∧ Kb W1 W := fun W h => ⟨(hD W h.bel).1, (hD W h.bel).2.1, (hD W h.bel).2.2, h⟩
  have ht1 := ht.below b1
  have hr1 := (hr.keep b1).low
  have hro : ∀ W, Kb W1 W → Calls Tryd.prog 14 #[.pointer (some ⟨g, 0, none⟩)] W fun x w' => ∃ A9 c9, x = .returned (.slice A9 L.length c9) ∧ Rp w'.heap.size w' A9 L ∧ Kb W1 w' := fun W h => (rows_any (ht1.below h.bel).v (by omega)).mono fun e w' ⟨v, he, hv, hb⟩ => by
    obtain ⟨A9, c9, rfl, hR, -⟩ := hv.reads
    exact ⟨A9, c9, he, hR, h.step hb⟩
  have hup : ∀ W, Kb W1 W → Calls Tryd.prog 26 #[.pointer (some ⟨g, 0, none⟩)] W fun x w' => x = .returned (.int .i64 u) ∧ W = w' := fun W h => updated_any (ht1.below h.bel).v
  have hex : ∀ W, Kb W1 W → Calls Tryd.prog 27 #[.pointer (some ⟨g, 0, none⟩)] W fun x w' => x = .returned (.int .i64 e) ∧ W = w' := fun W h => expires_any (ht1.below h.bel).v
  have hdo : ∀ (A9 : Option Addr) (c9 : Nat) W, Kb W1 W → Rp W.heap.size W A9 L → Calls Tryd.prog 9 #[.agg #[.slice A9 L.length c9, .int .i64 u, .int .i64 e]] W fun x w' => ∃ A8 c8, x = .returned (.agg #[.slice A8 L.length c8, .int .i64 u, .int .i64 e]) ∧ Rp w'.heap.size w' A8 L ∧ Kb W1 w' := fun A9 c9 W h hr9 => (document_any A9 c9 L u e W hr9 (by omega)).mono fun x w' ⟨A8, c8, h1, h2, h3, h4, h5⟩ => ⟨A8, c8, h1, h2, h.step h5⟩
  have hsa : ∀ (A8 : Option Addr) (c8 : Nat) W, Kb W1 W → Rp W.heap.size W A8 L → Calls Tryd.prog 29 #[.agg #[.slice A8 L.length c8, .int .i64 u, .int .i64 e], .agg #[.slice A L.length c, .int .i64 u, .int .i64 e]] W fun x w' => x = .returned (.bool true) ∧ Kb W1 w' := fun A8 c8 W h hr8 => (rsame_any A8 A c8 c L L u e u e W hr8 ((hr1.keep h.bel).low) (by omega) (by omega)).mono fun _ _ k => ⟨by rw [k.1, smB_self], h.step k.2⟩
  have HRo := Lib.hid hro; have HUp := Lib.hid hup; have HEx := Lib.hid hex; have HDo := Lib.hid hdo; have HSa := Lib.hid hsa
  have HK := Lib.hid hS
  have HB := Lib.hid b1
  obtain ⟨d0, d1, d2⟩ := hD W1 (Below.refl _ _)
  have hKD : Kb W1 W1.drew := ⟨(Below.refl _ W1).drew⟩
  generalize L.length = N at *
  clear hro hup hex hdo hsa hS ht1 hr1 hD b1 ht hr hlt hL
  go_enter Tryd.func12, Tryd.ntmps12
  go_upto_region 1 with fail
  rw [← hW1]
  clear hW1
  go_region_held3 (fun W => W.cell? ⟨w.heap.size, 0, none⟩ = some (.slice A N c) ∧ W.cell? ⟨w.heap.size, 1, none⟩ = some (.int .i64 u) ∧ W.cell? ⟨w.heap.size, 2, none⟩ = some (.int .i64 e) ∧ Kb W1 W)
    (exact HK.out _ (by assumption))
    (first
      | (go_at_call 14; go_split_ands; refine (HRo.out _ (by assumption)).mono ?_; rintro e w2 ⟨A9, c9, rfl, hr9, hk2⟩; have R9 := Lib.hid hr9; clear hr9)
      | (go_at_call 26; go_split_ands; refine (HUp.out _ (by assumption)).mono ?_; rintro e w' ⟨rfl, rfl⟩)
      | (go_at_call 27; go_split_ands; refine (HEx.out _ (by assumption)).mono ?_; rintro e w' ⟨rfl, rfl⟩)
      | (go_at_call 9; go_split_ands; refine (HDo.out _ _ _ hk2 R9.out).mono ?_; rintro e w3 ⟨A8, c8, rfl, hr8, hk3⟩; have R8 := Lib.hid hr8; clear hr8)
      | (go_at_call 29; go_split_ands; refine (HSa.out _ _ _ hk3 R8.out).mono ?_; rintro e w4 ⟨rfl, hk4⟩))
  all_goals
    have hB := Kb.bel (W0 := W1) (by assumption)
    have HB9 := Lib.hid (HB.out.trans (hB.mono HB.out.size))
    clear hB
    go_wp2_with fail
    go_ret
    exact ⟨rfl, HB9.out⟩

end Go.Proofs.YtaahfkkcjfpieaaDoor
