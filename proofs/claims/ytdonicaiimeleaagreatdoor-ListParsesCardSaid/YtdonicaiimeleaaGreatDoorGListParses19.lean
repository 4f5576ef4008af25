/- Merged: LeapG, LeapJ, LeapC, LeapD, LeapE. -/
import Derived.Test.YtdonicaiimeleaaGreatDoorGListParses18
namespace Go.Proofs.YtdonicaiimeleaaGreatDoor
open Go.RowKit
set_option linter.unusedVariables false
set_option linter.unusedSimpArgs false

theorem dbox (w : World) (A : Option Addr) (n c : Nat) (u e : Int) : ∃ W0, W0 = w.alloc (.cells #[.slice A n c, .int .i64 u, .int .i64 e] 30) ∧ Below w.heap.size w W0 ∧ W0.heap.size = w.heap.size + 1 ∧
    W0.cell? ⟨w.heap.size, 0, none⟩ = some (.slice A n c) ∧ W0.cell? ⟨w.heap.size, 1, none⟩ = some (.int .i64 u) ∧ W0.cell? ⟨w.heap.size, 2, none⟩ = some (.int .i64 e) := by
  have h := heap_alloc_new w (.cells #[.slice A n c, .int .i64 u, .int .i64 e] 30)
  exact ⟨_, rfl, bel_box w _, by simp, bk_cell h 0, bk_cell h 1, bk_cell h 2⟩

end Go.Proofs.YtdonicaiimeleaaGreatDoor

namespace Go.Proofs.YtdonicaiimeleaaGreatDoor
open Go.RowKit
set_option linter.unusedVariables false
set_option linter.unusedSimpArgs false

theorem take_next {L : List Rw} {k : Nat} (h : k < L.length) : L.take (k + 1) = L.take k ++ [⟨rd L k, ro L k⟩] := by
  rw [List.take_add_one, List.getElem?_eq_getElem h]
  simp only [Option.toList]
  have : (⟨rd L k, ro L k⟩ : Rw) = L[k] := by
    unfold rd ro
    simp [List.getD, List.getElem?_eq_getElem h]
  rw [this]
theorem Ow.set {T : TypeId} {w : World} {base g i : Nat} {v u : Value} {L : List Rw} (h : Ow T w base v L) (hg : g < base) : Ow T (w.setCell ⟨g, i, none⟩ u) base v L := by
  refine ⟨h.1, ?_⟩
  rcases h.2 with h0 | ⟨g', cap, cur, h1, h2, h3, h4⟩
  · exact .inl h0
  · refine .inr ⟨g', cap, cur, h1, h2, ?_, h4⟩
    have hne : g ≠ g' := by omega
    simp [World.setCell, Array.getElem?_modify, h3, hne]
theorem Ow.slice {T : TypeId} {w : World} {base : Nat} {v : Value} {L : List Rw} (h : Ow T w base v L) : ∃ A n c, v = .slice A n c := by
  obtain ⟨A, c, h1, -⟩ := h.reads
  exact ⟨A, _, c, h1⟩
/-- A block of three values. -/
def B3 (w : World) (g : Nat) (x y z : Value) : Prop := w.heap[g]? = some (.cells #[x, y, z] 30 (0, 0))
theorem B3.c0 {w : World} {g : Nat} {x y z : Value} (h : B3 w g x y z) : w.cell? ⟨g, 0, none⟩ = some x := bk_cell h 0
theorem B3.c1 {w : World} {g : Nat} {x y z : Value} (h : B3 w g x y z) : w.cell? ⟨g, 1, none⟩ = some y := bk_cell h 1
theorem B3.c2 {w : World} {g : Nat} {x y z : Value} (h : B3 w g x y z) : w.cell? ⟨g, 2, none⟩ = some z := bk_cell h 2
theorem B3.f {w : World} {g : Nat} {x y z : Value} (h : B3 w g x y z) (i : Nat) : w.frozen? ⟨g, i, none⟩ = false := bk_free h i
theorem B3.below {w w' : World} {g B : Nat} {x y z : Value} (h : B3 w g x y z) (hb : Below B w w') (hg : g < B) : B3 w' g x y z := (hb.block g hg).trans h
theorem B3.set0 {w : World} {g : Nat} {x y z : Value} (h : B3 w g x y z) (v : Value) : B3 (w.setCell ⟨g, 0, none⟩ v) g v y z := bk_set h 0 v
theorem B3.put {w : World} {g : Nat} {x y z : Value} (h : B3 w g x y z) (a b c : Value) : B3 (((w.setCell ⟨g, 0, none⟩ a).setCell ⟨g, 1, none⟩ b).setCell ⟨g, 2, none⟩ c) g a b c := bk_set (bk_set (bk_set h 0 a) 1 b) 2 c
theorem B3.far {w : World} {g k i : Nat} {x y z v : Value} (h : B3 w g x y z) (hk : k ≠ g) : B3 (w.setCell ⟨k, i, none⟩ v) g x y z := by
  unfold B3
  simp [World.setCell, Array.getElem?_modify, hk, h.symm]

/-- One row just made reads as it is. -/
theorem one_row (w : World) (T : TypeId) (a b : Int) : Rp (w.alloc (.cells #[.int .i64 a, .int .i64 b] T)).heap.size (w.alloc (.cells #[.int .i64 a, .int .i64 b] T)) (some ⟨w.heap.size, 0, none⟩) [⟨a, b⟩] := by
  have h := heap_alloc_new w (.cells #[.int .i64 a, .int .i64 b] T)
  refine .inr ⟨_, 0, rfl, by simp, by simp, fun j hj => ?_⟩
  obtain rfl : j = 0 := by simpa using hj
  exact ⟨bk_cell h 0, bk_cell h 1⟩

set_option maxRecDepth 100000 in
set_option maxHeartbeats 4000000 in
theorem document_any (A : Option Addr) (c : Nat) (L : List Rw) (u e : Int) (w : World) (hr : Rp w.heap.size w A L) (hL : L.length ≤ 100000) :
    Calls Tryz.prog 19 #[.agg #[.slice A L.length c, .int .i64 u, .int .i64 e]] w fun x w' => ∃ A' c', x = .returned (.agg #[.slice A' L.length c', .int .i64 u, .int .i64 e]) ∧ Rp w'.heap.size w' A' L ∧ (A' = none → c' = 0 ∧ L = []) ∧ (∀ b off, A' = some ⟨b, off, none⟩ → w.heap.size ≤ b) ∧ Below w.heap.size w w' := by
  obtain ⟨W1, hW1⟩ : ∃ W1, W1 = (w.alloc (.cells #[.slice A L.length c, .int .i64 u, .int .i64 e] 67)).alloc (.cells #[.slice none 0 0, .int .i64 0, .int .i64 0] 30) := ⟨_, rfl⟩
  have b1 : Below w.heap.size w W1 := by rw [hW1]; exact ((Below.refl _ w).alloc (Nat.le_refl _) _).alloc (by simp) _
  have s1 : W1.heap.size = w.heap.size + 1 + 1 := by rw [hW1]; simp
  have g0 : (w.alloc (.cells #[.slice A L.length c, .int .i64 u, .int .i64 e] 67)).heap[w.heap.size]? = some (.cells #[.slice A L.length c, .int .i64 u, .int .i64 e] 67 (0, 0)) := heap_alloc_new w _
  have g1 : W1.heap[w.heap.size]? = some (.cells #[.slice A L.length c, .int .i64 u, .int .i64 e] 67 (0, 0)) := by
    rw [hW1]
    exact ((bel_box _ _).block w.heap.size (by simp)).trans g0
  have z1 : B3 W1 (w.heap.size + 1) (.slice none 0 0) (.int .i64 0) (.int .i64 0) := by
    have h := heap_alloc_new (w.alloc (.cells #[.slice A L.length c, .int .i64 u, .int .i64 e] 67)) (.cells #[.slice none 0 0, .int .i64 0, .int .i64 0] 30)
    rw [← hW1] at h
    simpa [B3] using h
  have c0 : W1.cell? ⟨w.heap.size, 0, none⟩ = some (.slice A L.length c) := bk_cell g1 0
  have c1 : W1.cell? ⟨w.heap.size, 1, none⟩ = some (.int .i64 u) := bk_cell g1 1
  have c2 : W1.cell? ⟨w.heap.size, 2, none⟩ = some (.int .i64 e) := bk_cell g1 2
  obtain ⟨W2, hW2⟩ : ∃ W2, W2 = W1.alloc (.cells #[.slice none 0 0, .int .i64 u, .int .i64 e] 30) := ⟨_, rfl⟩
  have b2 : Below W1.heap.size W1 W2 := by rw [hW2]; exact bel_box W1 _
  have t2 : B3 W2 (w.heap.size + 1 + 1) (.slice none 0 0) (.int .i64 u) (.int .i64 e) := by
    have h := heap_alloc_new W1 (.cells #[.slice none 0 0, .int .i64 u, .int .i64 e] 30)
    rw [← hW2, s1] at h
    exact h
  have z2 := z1.below b2 (by omega)
  have d0 : W2.cell? ⟨w.heap.size, 0, none⟩ = some (.slice A L.length c) := (b2.cell (p := ⟨w.heap.size, 0, none⟩) (show w.heap.size < W1.heap.size by omega)).trans c0
  have s2 : W2.heap.size = w.heap.size + 1 + 1 + 1 := by rw [hW2]; simp [s1]
  have HR := Lib.hid hr; have HB := Lib.hid (b1.trans (b2.mono b1.size)); have T2 := Lib.hid t2; have Z2 := Lib.hid z2; have S2 := Lib.hid s2; have HW2 := Lib.hid hW2
  have HS1 := Lib.hid s1
  clear hr b1 s1 g0 g1 z1 hW2 b2 t2 z2 s2
  obtain ⟨N, hN⟩ : ∃ N, L.length = N := ⟨_, rfl⟩
  rw [hN] at c0 d0 hL hW1 ⊢
  have HN := Lib.hid hN
  clear hN
  go_enter Tryz.func19, Tryz.ntmps19
  go_upto_region 1 with fail
  rw [← hW1]
  clear hW1
  go_upto_region 2 with fail
  rw [HS1.out, ← HW2.out]
  clear HW2 c0 c1 c2
  go_wp2
  go_loopg [14] N (fun gg s14 wr => ∃ (k : Nat) (A1 : Option Addr) (n1 c1 : Nat), k ≤ N ∧ N - k ≤ gg ∧ s14 = .int .i64 k ∧ Hid (Below w.heap.size w wr) ∧ Hid (w.heap.size + 1 + 1 + 1 ≤ wr.heap.size) ∧ Hid (B3 wr (w.heap.size + 1 + 1) (.slice A1 n1 c1) (.int .i64 u) (.int .i64 e)) ∧ Hid (B3 wr (w.heap.size + 1) (.slice none 0 0) (.int .i64 0) (.int .i64 0)) ∧ Hid (Ow 77 wr (w.heap.size + 1 + 1 + 1) (.slice A1 n1 c1) (L.take k)))
  case atStart => exact ⟨0, none, 0, 0, Nat.zero_le _, by omega, rfl, HB, Lib.hid (by rw [S2.out]; exact Nat.le_refl _), T2, Z2, Lib.hid (Ow.nil _ _ _)⟩
  case round =>
    clear HB T2 Z2 S2 d0
    obtain ⟨k, A1, n1, c1, hk, hg, rfl, B, S, T, Z, O⟩ := hrel
    by_cases hlt : k < N
    · have hltz : (k : Int) < (N : Int) := by omega
      obtain ⟨b, off, rfl, hb1, -, hc⟩ := (HR.out.below B.out).pos (by have := HN.out; omega)
      obtain ⟨d1, d2⟩ := hc k (by have := HN.out; omega)
      have HK := Lib.hid hlt
      have l0 : w.heap.size + 1 + 1 < wr.heap.size := by have := S.out; omega
      have c3 := T.out.c0
      clear hc HR
      have ba : Below wr.heap.size wr (wr.alloc (.cells #[.int .i64 (rd L k), .int .i64 (ro L k)] 43)) := bel_box _ _
      have bb : Below wr.heap.size wr ((wr.alloc (.cells #[.int .i64 (rd L k), .int .i64 (ro L k)] 43)).alloc (.cells #[.int .i64 (rd L k), .int .i64 (ro L k)] 77)) := ba.alloc ba.size _
      have OB := Lib.hid (O.out.below bb (Nat.le_refl _))
      have TB := Lib.hid (T.out.below bb l0)
      have ZB := Lib.hid (Z.out.below bb (by omega))
      have BB := Lib.hid (B.out.trans (bb.mono B.out.size))
      have SB := Lib.hid (Nat.le_trans S.out bb.size)
      have RB := Lib.hid (one_row (wr.alloc (.cells #[.int .i64 (rd L k), .int .i64 (ro L k)] 43)) 77 (rd L k) (ro L k))
      have hsz : (wr.alloc (.cells #[.int .i64 (rd L k), .int .i64 (ro L k)] 43)).heap.size = wr.heap.size + 1 := by simp
      rw [hsz] at RB
      clear ba bb hsz
      have TK : Hid (L.take (k + 1) = L.take k ++ [⟨rd L k, ro L k⟩]) := Lib.hid (take_next (by have := HN.out; omega))
      have LK : Hid ((L.take k).length ≤ 100000) := Lib.hid (by simp; omega)
      go_wp2_with (at_builtin; refine app_rows 28 77 et_doc _ _ (w.heap.size + 1 + 1 + 1) _ (L.take k) OB.out (some ⟨wr.heap.size + 1, 0, none⟩) [⟨rd L k, ro L k⟩] 1 1 rfl RB.out (fun h => by cases h) LK.out (by simp) SB.out rfl rfl rfl rfl ?_; intro v' w1 hv hb; obtain ⟨A2, n2, c2, rfl⟩ := hv.slice; have V1 := Lib.hid hv; have T1 := Lib.hid (TB.out.below hb (by omega)); have Z1 := Lib.hid (ZB.out.below hb (by omega)); have B1 := Lib.hid (BB.out.trans (hb.mono (by omega))); have S1 := Lib.hid (Nat.le_trans SB.out hb.size); have c4 := T1.out.c0; have f4 := T1.out.f 0; clear hv hb OB TB ZB BB SB RB)
      go_roundg (N - (k + 1))
      case measure => omega
      case rel =>
        exact ⟨k + 1, _, _, _, by omega, by omega, by go_num, Lib.hid (B1.out.setCell (show w.heap.size ≤ w.heap.size + 1 + 1 by omega) _), Lib.hid (by simpa using S1.out), Lib.hid (T1.out.set0 _), Lib.hid (Z1.out.far (show w.heap.size + 1 + 1 ≠ w.heap.size + 1 by omega)), Lib.hid (by rw [TK.out]; exact V1.out.set (show w.heap.size + 1 + 1 < w.heap.size + 1 + 1 + 1 by omega))⟩
    · have hltz : ¬ (k : Int) < (N : Int) := by omega
      obtain rfl : N = k := by omega
      rw [← HN.out, List.take_length] at O
      have c3 := T.out.c0
      have c4 := T.out.c1
      have c5 := T.out.c2
      have e3 := Z.out.c0
      have e4 := Z.out.c1
      have e5 := Z.out.c2
      have f3 := Z.out.f 0
      have f4 := Z.out.f 1
      have f5 := Z.out.f 2
      obtain ⟨A2, c2, hA, r, rA, rc, rm, rb⟩ := O.out.reads
      injection hA with hA hB hC
      subst hA; subst hB; subst hC
      have B9 := (((B.out.setCell (p := ⟨w.heap.size + 1, 0, none⟩) (by simp) (.slice A1 L.length c1)).setCell (p := ⟨w.heap.size + 1, 1, none⟩) (by simp) (.int .i64 u)).setCell (p := ⟨w.heap.size + 1, 2, none⟩) (by simp) (.int .i64 e))
      have K9 : Ow 77 (((wr.setCell ⟨w.heap.size + 1, 0, none⟩ (.slice A1 L.length c1)).setCell ⟨w.heap.size + 1, 1, none⟩ (.int .i64 u)).setCell ⟨w.heap.size + 1, 2, none⟩ (.int .i64 e)) (w.heap.size + 1 + 1 + 1) (.slice A1 L.length c1) L := ((O.out.set (by omega)).set (by omega)).set (by omega)
      have P9 := Z.out.put (.slice A1 L.length c1) (.int .i64 u) (.int .i64 e)
      have HB9 := Lib.hid B9; have HK9 := Lib.hid K9; have HP9 := Lib.hid P9
      clear B9 K9 P9 r rA rc rm rb
      go_wp2
      have r0 := HP9.out.c0
      have r1 := HP9.out.c1
      have r2 := HP9.out.c2
      obtain ⟨A2, c2, hA, r, rA, rc, rm, rb⟩ := HK9.out.reads
      injection hA with hA hB hC
      subst hA; subst hC
      refine bodyPost_ret (v := .agg #[.slice A1 L.length c1, .int .i64 u, .int .i64 e]) (by simp [results, Tryz.results19, go_sem, r0, r1, r2]) rfl ⟨A1, c1, by rw [HN.out], r, rA, fun b off h => ?_, HB9.out⟩
      have := (rb b off h).1
      omega

end Go.Proofs.YtdonicaiimeleaaGreatDoor

namespace Go.Proofs.YtdonicaiimeleaaGreatDoor
open Go.RowKit
set_option linter.unusedVariables false
set_option linter.unusedSimpArgs false

/-- A table's pointer: nil, or a table's. -/
def Tv (lo : Nat) (w : World) (v : Value) (L : List Rw) (u e : Int) : Prop := (v = .pointer none ∧ L = [] ∧ u = 0 ∧ e = 0) ∨ ∃ g, v = .pointer (some ⟨g, 0, none⟩) ∧ Tb lo w g L u e
theorem Tb.below {lo : Nat} {w w' : World} {g : Nat} {L : List Rw} {u e : Int} (h : Tb lo w g L u e) (hb : Below w.heap.size w w') : Tb lo w' g L u e := by
  obtain ⟨h0, A, c, h1, h2, h3, h4⟩ := h
  exact ⟨h0, A, c, (hb.block g (bk_lt h1)).trans h1, (h2.keep hb).low, h3, h4⟩
theorem Tv.below {lo : Nat} {w w' : World} {v : Value} {L : List Rw} {u e : Int} (h : Tv lo w v L u e) (hb : Below w.heap.size w w') : Tv lo w' v L u e := by
  rcases h with h | ⟨g, h1, h2⟩
  · exact .inl h
  · exact .inr ⟨g, h1, h2.below hb⟩
theorem Tb.v {lo : Nat} {w : World} {g : Nat} {L : List Rw} {u e : Int} (h : Tb lo w g L u e) : Tv lo w (.pointer (some ⟨g, 0, none⟩)) L u e := .inr ⟨g, rfl, h⟩
/-- What its rows' slice is. -/
theorem Tv.all {lo : Nat} {w : World} {v : Value} {L : List Rw} {u e : Int} (h : Tv lo w v L u e) :
    ∃ A c, Rp w.heap.size w A L ∧ (A = none → c = 0 ∧ L = []) ∧ (∀ b off, A = some ⟨b, off, none⟩ → lo ≤ b) ∧ Calls Tryz.prog 23 #[v] w fun x w' => x = .returned (.slice A L.length c) ∧ w = w' := by
  rcases h with ⟨rfl, rfl, rfl, rfl⟩ | ⟨g, rfl, h0, A, c, h1, h2, h3, h4⟩
  · refine ⟨none, 0, .inl rfl, fun _ => ⟨rfl, rfl⟩, fun b off h => (by cases h), ?_⟩
    go_enter Tryz.func23, Tryz.ntmps23
    go_wp2
    go_ret
    exact ⟨rfl, rfl⟩
  · refine ⟨A, c, h2, h3, h4, ?_⟩
    have c0 : w.cell? ⟨g, 0, none⟩ = some (.slice A L.length c) := bk_cell h1 0
    clear h0 h1 h2 h3 h4
    generalize L.length = n at *
    go_enter Tryz.func23, Tryz.ntmps23
    go_wp2
    go_ret
    exact ⟨rfl, rfl⟩
theorem updated_any {lo : Nat} {w : World} {v : Value} {L : List Rw} {u e : Int} (h : Tv lo w v L u e) : Calls Tryz.prog 21 #[v] w fun x w' => x = .returned (.int .i64 u) ∧ w = w' := by
  rcases h with ⟨rfl, rfl, rfl, rfl⟩ | ⟨g, rfl, h0, A, c, h1, h2, h3, h4⟩
  · go_enter Tryz.func21, Tryz.ntmps21
    go_wp2
    go_ret
    exact ⟨rfl, rfl⟩
  · have c1 : w.cell? ⟨g, 1, none⟩ = some (.int .i64 u) := bk_cell h1 1
    clear h0 h1 h2 h3 h4
    go_enter Tryz.func21, Tryz.ntmps21
    go_wp2
    go_ret
    exact ⟨rfl, rfl⟩
theorem expires_any {lo : Nat} {w : World} {v : Value} {L : List Rw} {u e : Int} (h : Tv lo w v L u e) : Calls Tryz.prog 22 #[v] w fun x w' => x = .returned (.int .i64 e) ∧ w = w' := by
  rcases h with ⟨rfl, rfl, rfl, rfl⟩ | ⟨g, rfl, h0, A, c, h1, h2, h3, h4⟩
  · go_enter Tryz.func22, Tryz.ntmps22
    go_wp2
    go_ret
    exact ⟨rfl, rfl⟩
  · have c2 : w.cell? ⟨g, 2, none⟩ = some (.int .i64 e) := bk_cell h1 2
    clear h0 h1 h2 h3 h4
    go_enter Tryz.func22, Tryz.ntmps22
    go_wp2
    go_ret
    exact ⟨rfl, rfl⟩
theorem rows_any {lo : Nat} {w : World} {v : Value} {L : List Rw} {u e : Int} (h : Tv lo w v L u e) (hn : L.length ≤ 100000) : Calls Tryz.prog 20 #[v] w fun x w' => ∃ v', x = .returned v' ∧ Ow 43 w' w.heap.size v' L ∧ Below w.heap.size w w' := by
  obtain ⟨A, c, r, rA, -, ha⟩ := h.all
  have HA := Lib.hid ha
  have HC := Lib.hid (clone_any A c L w hn r rA)
  clear ha h r rA hn
  generalize L.length = n at *
  go_enter Tryz.func20, Tryz.ntmps20
  go_wp2_with (first
    | (go_at_call 23; refine HA.out.mono ?_; rintro e w' ⟨rfl, rfl⟩)
    | (go_at_call 39; refine HC.out.mono ?_; rintro e w2 ⟨v, rfl, hv, hb⟩; have V := Lib.hid hv; have B2 := Lib.hid hb; clear hb hv HC))
  go_ret
  exact ⟨_, rfl, V.out, B2.out⟩

end Go.Proofs.YtdonicaiimeleaaGreatDoor

namespace Go.Proofs.YtdonicaiimeleaaGreatDoor
open Go.RowKit
set_option linter.unusedVariables false
set_option linter.unusedSimpArgs false

/-- A valid table's rows, or none. -/
def Vx (L : List Rw) : Prop := Vr L ∨ L = []
theorem Vx.few {L : List Rw} (h : Vx L) : L.length ≤ 256 := by
  rcases h with h | rfl
  · exact h.few
  · exact Nat.zero_le _
theorem Vx.lo {L : List Rw} (h : Vx L) (n : Int) : ∀ i, i < af L n → rd L i ≤ n := by
  rcases h with h | rfl
  · exact fun i hi => h.af_lo n hi
  · intro i hi
    exact absurd hi (Nat.not_lt_zero _)
theorem Vx.at {L : List Rw} (h : Vx L) {j : Nat} (hj : j < L.length) : -25567 ≤ rd L j ∧ rd L j ≤ 2932896 ∧ 0 ≤ ro L j ∧ ro L j ≤ 1000 := by
  rcases h with h | rfl
  · exact ⟨(h.day j hj).1, (h.day j hj).2, (h.off j hj).1, (h.off j hj).2⟩
  · exact absurd hj (Nat.not_lt_zero _)
theorem Vx.bd {L : List Rw} (h : Vx L) (n : Int) : (nxK L n = 0 ∨ nxK L n = 1 ∨ nxK L n = -1) ∧ (lpN L n = 0 ∨ lpN L n = 1 ∨ lpN L n = -1) := by
  rcases h with h | rfl
  · exact ⟨h.nxK_bd n, h.lpN_bd n⟩
  · exact ⟨.inl (nxK_nil n), .inl (lpN_nil n)⟩
end Go.Proofs.YtdonicaiimeleaaGreatDoor

namespace Go.Proofs.YtdonicaiimeleaaGreatDoor
open Go.RowKit
set_option linter.unusedVariables false
set_option linter.unusedSimpArgs false

/-- What Row answers. -/
def rwB (L : List Rw) (i : Int) : Bool := decide (0 ≤ i ∧ i < L.length)
def rwD (L : List Rw) (i : Int) : Int := if 0 ≤ i ∧ i < L.length then rd L i.toNat else 0
def rwO (L : List Rw) (i : Int) : Int := if 0 ≤ i ∧ i < L.length then ro L i.toNat else 0
set_option maxHeartbeats 2000000 in
theorem row_any {lo : Nat} {w : World} {v : Value} {L : List Rw} {u e : Int} (i : Int) (h : Tv lo w v L u e) :
    Calls Tryz.prog 11 #[v, .int .i64 i] w fun x w' => x = .returned (.tuple #[.agg #[.int .i64 (rwD L i), .int .i64 (rwO L i)], .bool (rwB L i)]) ∧ Below w.heap.size w w' := by
  obtain ⟨W0, hW0⟩ : ∃ W0, W0 = w.alloc (.cells #[.int .i64 0, .int .i64 0] 43) := ⟨_, rfl⟩
  have b0 : Below w.heap.size w W0 := by rw [hW0]; exact bel_box w _
  have h0 : W0.heap[w.heap.size]? = some (.cells #[.int .i64 0, .int .i64 0] 43 (0, 0)) := by rw [hW0]; exact heap_alloc_new w _
  obtain ⟨A, c, r, -, -, ha⟩ := (h.below b0).all
  have c0 : W0.cell? ⟨w.heap.size, 0, none⟩ = some (.int .i64 0) := bk_cell h0 0
  have c1 : W0.cell? ⟨w.heap.size, 1, none⟩ = some (.int .i64 0) := bk_cell h0 1
  have f0 : W0.frozen? ⟨w.heap.size, 0, none⟩ = false := bk_free h0 0
  have f1 : W0.frozen? ⟨w.heap.size, 1, none⟩ = false := bk_free h0 1
  have B0 := Lib.hid b0; have HA := Lib.hid ha; have H0 := Lib.hid h0
  have hB : ∀ x y, Below w.heap.size w ((W0.setCell ⟨w.heap.size, 0, none⟩ x).setCell ⟨w.heap.size, 1, none⟩ y) := fun x y => (b0.setCell (Nat.le_refl _) _).setCell (Nat.le_refl _) _
  have hL : ∀ x y, ((W0.setCell ⟨w.heap.size, 0, none⟩ x).setCell ⟨w.heap.size, 1, none⟩ y).heap[w.heap.size]? = some (.cells #[x, y] 43 (0, 0)) := fun x y => bk_set (bk_set h0 0 _) 1 _
  have HB := Lib.hid hB; have HL := Lib.hid hL
  clear b0 h0 ha h hB hL
  unfold rwB rwD rwO
  by_cases h1 : 0 ≤ i
  · obtain ⟨k, rfl⟩ : ∃ k : Nat, i = k := ⟨i.toNat, by omega⟩
    have z0 : ¬ (k : Int) < 0 := by omega
    by_cases h2 : k < L.length
    · have hz : ¬ (k : Int) ≥ (L.length : Int) := by omega
      have hz2 : (k : Int) < (L.length : Int) := by omega
      rw [if_pos ⟨h1, by omega⟩, if_pos ⟨h1, by omega⟩, decide_eq_true ⟨h1, by omega⟩, show ((k : Int)).toNat = k by omega]
      obtain ⟨b, off, rfl, -, hb2, hc⟩ := r.pos (by omega)
      obtain ⟨d0, d1⟩ := hc k h2
      clear hc r
      generalize L.length = N at *
      go_enter Tryz.func11, Tryz.ntmps11
      go_upto_region 1 with fail
      rw [← hW0]
      clear hW0
      go_wp2_with (go_at_call 23; refine HA.out.mono ?_; rintro e w' ⟨rfl, rfl⟩)
      have r0 := bk_cell (HL.out (.int .i64 (rd L k)) (.int .i64 (ro L k))) 0
      have r1 := bk_cell (HL.out (.int .i64 (rd L k)) (.int .i64 (ro L k))) 1
      refine bodyPost_ret (v := .tuple #[.agg #[.int .i64 (rd L k), .int .i64 (ro L k)], .bool true]) (by simp [results, Tryz.results11, go_sem, r0, r1]) rfl ⟨rfl, HB.out _ _⟩
    · have hz : (k : Int) ≥ (L.length : Int) := by omega
      rw [if_neg (by omega), if_neg (by omega), decide_eq_false (by omega)]
      clear r
      generalize L.length = N at *
      go_enter Tryz.func11, Tryz.ntmps11
      go_upto_region 1 with fail
      rw [← hW0]
      clear hW0
      go_wp2_with (go_at_call 23; refine HA.out.mono ?_; rintro e w' ⟨rfl, rfl⟩)
      have r0 := bk_cell (HL.out (.int .i64 0) (.int .i64 0)) 0
      have r1 := bk_cell (HL.out (.int .i64 0) (.int .i64 0)) 1
      refine bodyPost_ret (v := .tuple #[.agg #[.int .i64 0, .int .i64 0], .bool false]) (by simp [results, Tryz.results11, go_sem, r0, r1]) rfl ⟨rfl, HB.out _ _⟩
  · have z0 : i < 0 := by omega
    rw [if_neg (by omega), if_neg (by omega), decide_eq_false (by omega)]
    clear r
    generalize L.length = N at *
    go_enter Tryz.func11, Tryz.ntmps11
    go_upto_region 1 with fail
    rw [← hW0]
    clear hW0
    go_wp2_with (go_at_call 23; refine HA.out.mono ?_; rintro e w' ⟨rfl, rfl⟩)
    have r0 := bk_cell (HL.out (.int .i64 0) (.int .i64 0)) 0
    have r1 := bk_cell (HL.out (.int .i64 0) (.int .i64 0)) 1
    refine bodyPost_ret (v := .tuple #[.agg #[.int .i64 0, .int .i64 0], .bool false]) (by simp [results, Tryz.results11, go_sem, r0, r1]) rfl ⟨rfl, HB.out _ _⟩

end Go.Proofs.YtdonicaiimeleaaGreatDoor
