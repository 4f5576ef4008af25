/- Merged: LeapC. -/
import Derived.Test.YtiamggjebaabkaaGreatDoorGListRemarks35
namespace Go.Proofs.YtiamggjebaabkaaGreatDoor
open Go.RowKit
set_option linter.unusedVariables false
set_option linter.unusedSimpArgs false

/-- A table's pointer: nil, or a table's. -/
def Tv (lo : Nat) (w : World) (v : Value) (L : List Rw) (u e : Int) : Prop := (v = .pointer none ∧ L = [] ∧ u = 0 ∧ e = 0) ∨ ∃ g, v = .pointer (some ⟨g, 0, none⟩) ∧ Tb lo w g L u e
theorem Tb.below {lo : Nat} {w w' : World} {g : Nat} {L : List Rw} {u e : Int} (h : Tb lo w g L u e) (hb : Below w.heap.size w w') : Tb lo w' g L u e := by
  obtain ⟨h0, A, c, h1, h2, h3, h4⟩ := h
  exact ⟨h0, A, c, (hb.block g (bk_lt h1)).trans h1, (h2.keep hb).low, h3, h4⟩
theorem Tv.below {lo : Nat} {w w' : World} {v : Value} {L : List Rw} {u e : Int} (h : Tv lo w v L u e) (hb : Below w.heap.size w w') : Tv lo w' v L u e := by
  rcases h with h | ⟨g, h1, h2⟩
  · exact .inl h
  · exact .inr ⟨g, h1, h2.below hb⟩
theorem Tb.v {lo : Nat} {w : World} {g : Nat} {L : List Rw} {u e : Int} (h : Tb lo w g L u e) : Tv lo w (.pointer (some ⟨g, 0, none⟩)) L u e := .inr ⟨g, rfl, h⟩
/-- What its rows' slice is. -/
theorem Tv.all {lo : Nat} {w : World} {v : Value} {L : List Rw} {u e : Int} (h : Tv lo w v L u e) :
    ∃ A c, Rp w.heap.size w A L ∧ (A = none → c = 0 ∧ L = []) ∧ (∀ b off, A = some ⟨b, off, none⟩ → lo ≤ b) ∧ Calls Tryz.prog 54 #[v] w fun x w' => x = .returned (.slice A L.length c) ∧ w = w' := by
  rcases h with ⟨rfl, rfl, rfl, rfl⟩ | ⟨g, rfl, h0, A, c, h1, h2, h3, h4⟩
  · refine ⟨none, 0, .inl rfl, fun _ => ⟨rfl, rfl⟩, fun b off h => (by cases h), ?_⟩
    go_enter Tryz.func54, Tryz.ntmps54
    go_wp2
    go_ret
    exact ⟨rfl, rfl⟩
  · refine ⟨A, c, h2, h3, h4, ?_⟩
    have c0 : w.cell? ⟨g, 0, none⟩ = some (.slice A L.length c) := bk_cell h1 0
    clear h0 h1 h2 h3 h4
    generalize L.length = n at *
    go_enter Tryz.func54, Tryz.ntmps54
    go_wp2
    go_ret
    exact ⟨rfl, rfl⟩
theorem updated_any {lo : Nat} {w : World} {v : Value} {L : List Rw} {u e : Int} (h : Tv lo w v L u e) : Calls Tryz.prog 35 #[v] w fun x w' => x = .returned (.int .i64 u) ∧ w = w' := by
  rcases h with ⟨rfl, rfl, rfl, rfl⟩ | ⟨g, rfl, h0, A, c, h1, h2, h3, h4⟩
  · go_enter Tryz.func35, Tryz.ntmps35
    go_wp2
    go_ret
    exact ⟨rfl, rfl⟩
  · have c1 : w.cell? ⟨g, 1, none⟩ = some (.int .i64 u) := bk_cell h1 1
    clear h0 h1 h2 h3 h4
    go_enter Tryz.func35, Tryz.ntmps35
    go_wp2
    go_ret
    exact ⟨rfl, rfl⟩
theorem expires_any {lo : Nat} {w : World} {v : Value} {L : List Rw} {u e : Int} (h : Tv lo w v L u e) : Calls Tryz.prog 36 #[v] w fun x w' => x = .returned (.int .i64 e) ∧ w = w' := by
  rcases h with ⟨rfl, rfl, rfl, rfl⟩ | ⟨g, rfl, h0, A, c, h1, h2, h3, h4⟩
  · go_enter Tryz.func36, Tryz.ntmps36
    go_wp2
    go_ret
    exact ⟨rfl, rfl⟩
  · have c2 : w.cell? ⟨g, 2, none⟩ = some (.int .i64 e) := bk_cell h1 2
    clear h0 h1 h2 h3 h4
    go_enter Tryz.func36, Tryz.ntmps36
    go_wp2
    go_ret
    exact ⟨rfl, rfl⟩
theorem rows_any {lo : Nat} {w : World} {v : Value} {L : List Rw} {u e : Int} (h : Tv lo w v L u e) (hn : L.length ≤ 100000) : Calls Tryz.prog 34 #[v] w fun x w' => ∃ v', x = .returned v' ∧ Ow 70 w' w.heap.size v' L ∧ Below w.heap.size w w' := by
  obtain ⟨A, c, r, rA, -, ha⟩ := h.all
  have HA := Lib.hid ha
  have HC := Lib.hid (clone_any A c L w hn r rA)
  clear ha h r rA hn
  generalize L.length = n at *
  go_enter Tryz.func34, Tryz.ntmps34
  go_wp2_with (first
    | (go_at_call 54; refine HA.out.mono ?_; rintro e w' ⟨rfl, rfl⟩)
    | (go_at_call 52; refine HC.out.mono ?_; rintro e w2 ⟨v, rfl, hv, hb⟩; have V := Lib.hid hv; have B2 := Lib.hid hb; clear hb hv HC))
  go_ret
  exact ⟨_, rfl, V.out, B2.out⟩

end Go.Proofs.YtiamggjebaabkaaGreatDoor
