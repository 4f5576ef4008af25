/- The statements of layer 10: the fixed fact, Made. -/
import Derived.Test.YtaahfkkcjfpieaaDoorLeapJ
import Derived.Test.YtaahfkkcjfpieaaDoorLeapE
import Derived.Test.YtaahfkkcjfpieaaDoorLeapI
namespace Go.Proofs.YtaahfkkcjfpieaaDoor
open Go.RowKit
set_option linter.unusedVariables false
set_option linter.unusedSimpArgs false

theorem Rp.set {B : Nat} {w : World} {A : Option Addr} {L : List Rw} (h : Rp B w A L) (k i : Nat) (v : Value) (hk : ∀ b off, A = some ⟨b, off, none⟩ → k ≠ b) : Rp B (w.setCell ⟨k, i, none⟩ v) A L := by
  rcases h with h | ⟨b, off, h1, h2, h4, h3⟩
  · exact .inl h
  · have hne := hk b off h1
    refine .inr ⟨b, off, h1, h2, by simpa using h4, fun j hj => ?_⟩
    rw [World.cell?_setCell_far _ _ _ _ hne, World.cell?_setCell_far _ _ _ _ hne]
    exact h3 j hj
theorem Tb.set {lo : Nat} {w : World} {g : Nat} {L : List Rw} {u e : Int} (h : Tb lo w g L u e) (k i : Nat) (v : Value) (hk : k < lo) : Tb lo (w.setCell ⟨k, i, none⟩ v) g L u e := by
  obtain ⟨h0, A, c, h1, h2, h3, h4⟩ := h
  refine ⟨h0, A, c, ?_, ?_, h3, h4⟩
  · have hne : k ≠ g := by omega
    simp [World.setCell, Array.getElem?_modify, hne, h1]
  · have := h2.set k i v (fun b off hb => by have := h4 b off hb; omega)
    simpa using this
theorem Tb.mono {lo lo' : Nat} {w : World} {g : Nat} {L : List Rw} {u e : Int} (h : Tb lo w g L u e) (hl : lo' ≤ lo) : Tb lo' w g L u e := by
  obtain ⟨h0, A, c, h1, h2, h3, h4⟩ := h
  exact ⟨Nat.le_trans hl h0, A, c, h1, h2, h3, fun b off hb => Nat.le_trans hl (h4 b off hb)⟩

def exL : List Rw := [⟨730, 10⟩, ⟨912, 11⟩]
theorem dt730 : Dt 730 1972 1 1 := ⟨by unfold isy; omega, by decide, by decide, by decide, by decide, by decide⟩
theorem dt912 : Dt 912 1972 7 1 := ⟨by unfold isy; omega, by decide, by decide, by decide, by decide, by decide⟩
theorem two_of {j : Nat} (h : j < 2) : j = 0 ∨ j = 1 := by omega
theorem exL_ok : lkE exL 5 9 = 0 := by
  refine lk_0 ⟨by decide, by decide⟩ (fun j hj => ?_) (fun j hj => ?_) (by decide) (by decide) (fun j hj => ?_)
  · rcases two_of hj with rfl | rfl <;> decide
  · rcases two_of hj with rfl | rfl
    · exact w2_no dt730 (by decide) (by decide)
    · exact w2_no dt912 (by decide) (by decide)
  · obtain rfl : j = 0 := by have : j + 1 < 2 := hj; omega
    decide
theorem exL_lp : lpN exL 911 = 1 := by decide

set_option maxHeartbeats 2000000 in
theorem alive10_any (w : World) (he : Ends w) : Calls Tryd.prog 7 #[] w fun e w' => e = .returned (.bool true) ∧ Below w.heap.size w w' := by
  have q0 := fun op t W x k => guard_ev op t W x k
  have q1 := fun W k => eql_ev W k
  obtain ⟨W0, hW0⟩ : ∃ W0, W0 = w.alloc (.cells #[.int .i64 730, .int .i64 10, .int .i64 912, .int .i64 11] 40) := ⟨_, rfl⟩
  have hb : Below w.heap.size w W0 := by rw [hW0]; exact bel_box w _
  have hl : W0.heap[w.heap.size]? = some (.cells #[.int .i64 730, .int .i64 10, .int .i64 912, .int .i64 11] 40 (0, 0)) := by rw [hW0]; exact heap_alloc_new w _
  have hr : Rp W0.heap.size W0 (some ⟨w.heap.size, 0, none⟩) exL := .inr ⟨_, 0, rfl, bk_lt hl, bk_lt hl, fun j hj => by
    rcases two_of hj with rfl | rfl
    · exact ⟨bk_cell hl 0, bk_cell hl 1⟩
    · exact ⟨bk_cell hl 2, bk_cell hl 3⟩⟩
  have HN := Lib.hid (new_some (some ⟨w.heap.size, 0, none⟩) 2 exL 5 9 W0 (he.below hb) (by decide) hr (fun h => by cases h) (by decide) (by decide) exL_ok)
  have V : Vr exL := (lkE_zero exL_ok).1
  have HV : Hid (Vx exL) := Lib.hid (.inl V)
  have HB := Lib.hid hb
  clear hb hl hr V he
  go_enter Tryd.func7, Tryd.ntmps7
  go_wp2_with (first
    | (go_at_call 8; rw [← hW0]; refine HN.out.mono ?_; rintro e w1 ⟨g, rfl, hb, ht⟩; have B1 := Lib.hid (HB.out.trans (hb.mono HB.out.size)); have T1 := Lib.hid ht; clear hb ht HN hW0)
    | (go_at_call 21; refine (length_any 911 T1.out.v HV.out).mono ?_; rintro e w2 ⟨rfl, hb⟩; rw [exL_lp]; have B2 := Lib.hid (B1.out.trans (hb.mono B1.out.size)); have T2 := Lib.hid (T1.out.below hb); clear hb T1)
    | (go_at_call 13; refine (len_any T2.out.v).mono ?_; rintro e w3 ⟨rfl, rfl⟩; rw [show ((exL.length : Nat) : Int) = 2 from rfl]))
  go_ret
  exact ⟨rfl, B2.out⟩

end Go.Proofs.YtaahfkkcjfpieaaDoor
