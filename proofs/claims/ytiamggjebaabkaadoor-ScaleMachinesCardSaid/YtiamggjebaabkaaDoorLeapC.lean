/- Package leap: what a table, or nil, answers. -/
import Derived.Test.YtiamggjebaabkaaDoorLeapB
namespace Go.Proofs.YtiamggjebaabkaaDoor
open Go.RowKit
set_option linter.unusedVariables false
set_option linter.unusedSimpArgs false

/-- A table's pointer: nil, or a table's. -/
def Tv (lo : Nat) (w : World) (v : Value) (L : List Rw) (u e : Int) : Prop := (v = .pointer none ∧ L = [] ∧ u = 0 ∧ e = 0) ∨ ∃ g, v = .pointer (some ⟨g, 0, none⟩) ∧ Tb lo w g L u e
theorem Tb.below {lo : Nat} {w w' : World} {g : Nat} {L : List Rw} {u e : Int} (h : Tb lo w g L u e) (hb : Below w.heap.size w w') : Tb lo w' g L u e := by
  obtain ⟨h0, A, c, h1, h2, h3, h4⟩ := h
  exact ⟨h0, A, c, (hb.block g (bk_lt h1)).trans h1, (h2.keep hb).low, h3, h4⟩
theorem Tv.below {lo : Nat} {w w' : World} {v : Value} {L : List Rw} {u e : Int} (h : Tv lo w v L u e) (hb : Below w.heap.size w w') : Tv lo w' v L u e := by
  rcases h with h | ⟨g, h1, h2⟩
  · exact .inl h
  · exact .inr ⟨g, h1, h2.below hb⟩
theorem Tb.v {lo : Nat} {w : World} {g : Nat} {L : List Rw} {u e : Int} (h : Tb lo w g L u e) : Tv lo w (.pointer (some ⟨g, 0, none⟩)) L u e := .inr ⟨g, rfl, h⟩
theorem nil_tv (w : World) : Tv 0 w (.pointer none) [] 0 0 := .inl ⟨rfl, rfl, rfl, rfl⟩
/-- What its rows' slice is. -/
theorem Tv.all {lo : Nat} {w : World} {v : Value} {L : List Rw} {u e : Int} (h : Tv lo w v L u e) :
    ∃ A c, Rp w.heap.size w A L ∧ (A = none → c = 0 ∧ L = []) ∧ (∀ b off, A = some ⟨b, off, none⟩ → lo ≤ b) ∧ Calls Tryd.prog 91 #[v] w fun x w' => x = .returned (.slice A L.length c) ∧ w = w' := by
  rcases h with ⟨rfl, rfl, rfl, rfl⟩ | ⟨g, rfl, h0, A, c, h1, h2, h3, h4⟩
  · refine ⟨none, 0, .inl rfl, fun _ => ⟨rfl, rfl⟩, fun b off h => (by cases h), ?_⟩
    go_enter Tryd.func91, Tryd.ntmps91
    go_wp2
    go_ret
    exact ⟨rfl, rfl⟩
  · refine ⟨A, c, h2, h3, h4, ?_⟩
    have c0 : w.cell? ⟨g, 0, none⟩ = some (.slice A L.length c) := bk_cell h1 0
    clear h0 h1 h2 h3 h4
    generalize L.length = n at *
    go_enter Tryd.func91, Tryd.ntmps91
    go_wp2
    go_ret
    exact ⟨rfl, rfl⟩
theorem len_any {lo : Nat} {w : World} {v : Value} {L : List Rw} {u e : Int} (h : Tv lo w v L u e) : Calls Tryd.prog 94 #[v] w fun x w' => x = .returned (.int .i64 (L.length : Nat)) ∧ w = w' := by
  obtain ⟨A, c, -, -, -, ha⟩ := h.all
  have HA := Lib.hid ha
  clear ha h
  generalize L.length = n at *
  go_enter Tryd.func94, Tryd.ntmps94
  go_wp2_with (go_at_call 91; refine HA.out.mono ?_; rintro e w' ⟨rfl, rfl⟩)
  go_ret
  exact ⟨rfl, rfl⟩
set_option maxHeartbeats 1000000 in
/-- Of a row: is its day behind day n? -/
theorem after1_any (B a b : Nat) (A : Option Addr) (c : Nat) (L : List Rw) (n : Int) (i : Nat) (W : World) (hi : i < L.length) (hr : Rp B W A L) (hs : W.cell? ⟨a, 0, none⟩ = some (.slice A L.length c)) (hn : W.cell? ⟨b, 0, none⟩ = some (.int .i64 n)) :
    Calls Tryd.prog 93 (#[.int .i64 i] ++ #[.pointer (some ⟨a, 0, none⟩), .pointer (some ⟨b, 0, none⟩)]) W fun e w' => e = .returned (.bool (decide (n < rd L i))) ∧ ∃ q, w' = W.drewN q := by
  obtain ⟨bb, off, rfl, -, -, hc⟩ := hr.pos (by omega)
  obtain ⟨c1, -⟩ := hc i hi
  have hz : (i : Int) < (L.length : Int) := by omega
  have hi0 : (0 : Int) ≤ (i : Int) := by omega
  clear hc hr
  generalize L.length = N at *
  go_enter Tryd.func93, Tryd.ntmps93
  go_wp2
  go_quiet (fail)
  go_wp2
  go_ret
  exact ⟨rfl, _, rfl⟩
theorem enters_after : ∀ args w, (callFunc 93 args).run Tryd.prog w = .ok (.enter 93 args) w := enters_of Tryd.func93 (by kernel_rfl) rfl

set_option maxHeartbeats 2000000 in
theorem after_any {lo : Nat} {w : World} {v : Value} {L : List Rw} {u e : Int} (n : Int) (h : Tv lo w v L u e) (hL : L.length ≤ 100000) (hV : ∀ i, i < af L n → rd L i ≤ n) :
    Calls Tryd.prog 68 #[v, .int .i64 n] w fun x w' => x = .returned (.int .i64 (af L n : Nat)) ∧ Below w.heap.size w w' := by
  obtain ⟨W0, hW0⟩ : ∃ W0, W0 = w.alloc (.cells #[.int .i64 n] 2) := ⟨_, rfl⟩
  have b0 : Below w.heap.size w W0 := by rw [hW0]; exact bel_box w _
  have s0 : W0.heap.size = w.heap.size + 1 := by rw [hW0]; simp
  have h0 : W0.heap[w.heap.size]? = some (.cells #[.int .i64 n] 2 (0, 0)) := by rw [hW0]; exact heap_alloc_new w _
  obtain ⟨A, c, r, -, -, ha⟩ := (h.below b0).all
  obtain ⟨W1, hW1⟩ : ∃ W1, W1 = W0.alloc (.cells #[.slice A L.length c] 22) := ⟨_, rfl⟩
  have b1 : Below W0.heap.size W0 W1 := by rw [hW1]; exact bel_box W0 _
  have h1 : W1.heap[W0.heap.size]? = some (.cells #[.slice A L.length c] 22 (0, 0)) := by rw [hW1]; exact heap_alloc_new W0 _
  have cn0 : W1.cell? ⟨w.heap.size, 0, none⟩ = some (.int .i64 n) := (b1.cell (p := ⟨w.heap.size, 0, none⟩) (by omega : w.heap.size < W0.heap.size)).trans (bk_cell h0 0)
  have cs0 : W1.cell? ⟨W0.heap.size, 0, none⟩ = some (.slice A L.length c) := bk_cell h1 0
  have r1 := r.below b1
  have hS := search_any 93 #[.pointer (some ⟨W0.heap.size, 0, none⟩), .pointer (some ⟨w.heap.size, 0, none⟩)] L.length (af L n) (fun i => decide (n < rd L i)) W1 enters_after (by omega) (af_le L n)
    (fun m i hi => after1_any _ W0.heap.size w.heap.size A c L n i (W1.drewN m) hi r1 cs0 cn0)
    (fun i hi => decide_eq_false (by have := hV i hi; omega))
    (fun i hi hi' => decide_eq_true (af_hi L n hi hi'))
  have HB := Lib.hid (b0.trans (b1.mono b0.size))
  have HA := Lib.hid ha; have HS := Lib.hid hS; have HW := Lib.hid hW1
  have C0 := Lib.hid cs0
  clear b0 s0 h0 r ha b1 h1 cn0 r1 hS h hV hL hW1
  generalize L.length = N at *
  generalize af L n = a at *
  go_enter Tryd.func68, Tryd.ntmps68
  go_upto_region 1 with fail
  rw [← hW0]
  clear hW0
  go_upto_region 2 with (go_at_call 91; refine HA.out.mono ?_; rintro e w' ⟨rfl, rfl⟩)
  rw [← HW.out]
  clear HW
  go_wp2_with (go_at_call 92; refine HS.out.mono ?_; rintro e w' ⟨rfl, q, rfl⟩)
  go_ret
  exact ⟨rfl, HB.out.trans (drewN_below _ _ _)⟩

end Go.Proofs.YtiamggjebaabkaaDoor
