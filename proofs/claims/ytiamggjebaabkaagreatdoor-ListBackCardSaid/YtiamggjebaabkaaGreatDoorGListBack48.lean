/- Merged: LeapE, LeapF, LeapJ, LeapK, LeapR, ListAS. -/
import Derived.Test.YtiamggjebaabkaaGreatDoorGListBack47
import Derived.Test.YtiamggjebaabkaaGreatDoorGListBack35
import Derived.Test.YtiamggjebaabkaaGreatDoorGListBack34
import Derived.StillTailTactics
import Derived.BigRegion
import Derived.Deep.RegionHeld3
import Derived.Test.YtiamggjebaabkaaGreatDoorGListBack37
namespace Go.Proofs.YtiamggjebaabkaaGreatDoor
open Go.RowKit
set_option linter.unusedVariables false
set_option linter.unusedSimpArgs false

/-- What Row answers. -/
def rwB (L : List Rw) (i : Int) : Bool := decide (0 ≤ i ∧ i < L.length)
def rwD (L : List Rw) (i : Int) : Int := if 0 ≤ i ∧ i < L.length then rd L i.toNat else 0
def rwO (L : List Rw) (i : Int) : Int := if 0 ≤ i ∧ i < L.length then ro L i.toNat else 0
set_option maxHeartbeats 2000000 in
theorem row_any {lo : Nat} {w : World} {v : Value} {L : List Rw} {u e : Int} (i : Int) (h : Tv lo w v L u e) :
    Calls Tryz.prog 28 #[v, .int .i64 i] w fun x w' => x = .returned (.tuple #[.agg #[.int .i64 (rwD L i), .int .i64 (rwO L i)], .bool (rwB L i)]) ∧ Below w.heap.size w w' := by
  obtain ⟨W0, hW0⟩ : ∃ W0, W0 = w.alloc (.cells #[.int .i64 0, .int .i64 0] 70) := ⟨_, rfl⟩
  have b0 : Below w.heap.size w W0 := by rw [hW0]; exact bel_box w _
  have h0 : W0.heap[w.heap.size]? = some (.cells #[.int .i64 0, .int .i64 0] 70 (0, 0)) := by rw [hW0]; exact heap_alloc_new w _
  obtain ⟨A, c, r, -, -, ha⟩ := (h.below b0).all
  have c0 : W0.cell? ⟨w.heap.size, 0, none⟩ = some (.int .i64 0) := bk_cell h0 0
  have c1 : W0.cell? ⟨w.heap.size, 1, none⟩ = some (.int .i64 0) := bk_cell h0 1
  have f0 : W0.frozen? ⟨w.heap.size, 0, none⟩ = false := bk_free h0 0
  have f1 : W0.frozen? ⟨w.heap.size, 1, none⟩ = false := bk_free h0 1
  have B0 := Lib.hid b0; have HA := Lib.hid ha; have H0 := Lib.hid h0
  have hB : ∀ x y, Below w.heap.size w ((W0.setCell ⟨w.heap.size, 0, none⟩ x).setCell ⟨w.heap.size, 1, none⟩ y) := fun x y => (b0.setCell (Nat.le_refl _) _).setCell (Nat.le_refl _) _
  have hL : ∀ x y, ((W0.setCell ⟨w.heap.size, 0, none⟩ x).setCell ⟨w.heap.size, 1, none⟩ y).heap[w.heap.size]? = some (.cells #[x, y] 70 (0, 0)) := fun x y => bk_set (bk_set h0 0 _) 1 _
  have HB := Lib.hid hB; have HL := Lib.hid hL
  clear b0 h0 ha h hB hL
  unfold rwB rwD rwO
  by_cases h1 : 0 ≤ i
  · obtain ⟨k, rfl⟩ : ∃ k : Nat, i = k := ⟨i.toNat, by omega⟩
    have z0 : ¬ (k : Int) < 0 := by omega
    by_cases h2 : k < L.length
    · have hz : ¬ (k : Int) ≥ (L.length : Int) := by omega
      have hz2 : (k : Int) < (L.length : Int) := by omega
      rw [if_pos ⟨h1, by omega⟩, if_pos ⟨h1, by omega⟩, decide_eq_true ⟨h1, by omega⟩, show ((k : Int)).toNat = k by omega]
      obtain ⟨b, off, rfl, -, hb2, hc⟩ := r.pos (by omega)
      obtain ⟨d0, d1⟩ := hc k h2
      clear hc r
      generalize L.length = N at *
      go_enter Tryz.func28, Tryz.ntmps28
      go_upto_region 1 with fail
      rw [← hW0]
      clear hW0
      go_wp2_with (go_at_call 54; refine HA.out.mono ?_; rintro e w' ⟨rfl, rfl⟩)
      have r0 := bk_cell (HL.out (.int .i64 (rd L k)) (.int .i64 (ro L k))) 0
      have r1 := bk_cell (HL.out (.int .i64 (rd L k)) (.int .i64 (ro L k))) 1
      refine bodyPost_ret (v := .tuple #[.agg #[.int .i64 (rd L k), .int .i64 (ro L k)], .bool true]) (by simp [results, Tryz.results28, go_sem, r0, r1]) rfl ⟨rfl, HB.out _ _⟩
    · have hz : (k : Int) ≥ (L.length : Int) := by omega
      rw [if_neg (by omega), if_neg (by omega), decide_eq_false (by omega)]
      clear r
      generalize L.length = N at *
      go_enter Tryz.func28, Tryz.ntmps28
      go_upto_region 1 with fail
      rw [← hW0]
      clear hW0
      go_wp2_with (go_at_call 54; refine HA.out.mono ?_; rintro e w' ⟨rfl, rfl⟩)
      have r0 := bk_cell (HL.out (.int .i64 0) (.int .i64 0)) 0
      have r1 := bk_cell (HL.out (.int .i64 0) (.int .i64 0)) 1
      refine bodyPost_ret (v := .tuple #[.agg #[.int .i64 0, .int .i64 0], .bool false]) (by simp [results, Tryz.results28, go_sem, r0, r1]) rfl ⟨rfl, HB.out _ _⟩
  · have z0 : i < 0 := by omega
    rw [if_neg (by omega), if_neg (by omega), decide_eq_false (by omega)]
    clear r
    generalize L.length = N at *
    go_enter Tryz.func28, Tryz.ntmps28
    go_upto_region 1 with fail
    rw [← hW0]
    clear hW0
    go_wp2_with (go_at_call 54; refine HA.out.mono ?_; rintro e w' ⟨rfl, rfl⟩)
    have r0 := bk_cell (HL.out (.int .i64 0) (.int .i64 0)) 0
    have r1 := bk_cell (HL.out (.int .i64 0) (.int .i64 0)) 1
    refine bodyPost_ret (v := .tuple #[.agg #[.int .i64 0, .int .i64 0], .bool false]) (by simp [results, Tryz.results28, go_sem, r0, r1]) rfl ⟨rfl, HB.out _ _⟩

end Go.Proofs.YtiamggjebaabkaaGreatDoor

namespace Go.Proofs.YtiamggjebaabkaaGreatDoor
open Go.RowKit
set_option linter.unusedVariables false
set_option linter.unusedSimpArgs false

/-- Are two tables the same? -/
noncomputable def smB (L : List Rw) (u e : Int) (M : List Rw) (x y : Int) : Bool := (u == x && e == y) && eqL L M
set_option maxHeartbeats 2000000 in
theorem same_any {lo lo' : Nat} {w : World} {g h : Nat} {L M : List Rw} {u e x y : Int} (ha : Tb lo w g L u e) (hb : Tb lo' w h M x y) (hL : L.length ≤ 256) (hM : M.length ≤ 256) :
    Calls Tryz.prog 27 #[.pointer (some ⟨g, 0, none⟩), .pointer (some ⟨h, 0, none⟩)] w fun r w' => r = .returned (.bool (smB L u e M x y)) ∧ Below w.heap.size w w' := by
  obtain ⟨-, A, c, a1, a2, -, -⟩ := ha
  obtain ⟨-, A', c', b1, b2, -, -⟩ := hb
  have c0 : w.cell? ⟨g, 0, none⟩ = some (.slice A L.length c) := bk_cell a1 0
  have c1 : w.cell? ⟨g, 1, none⟩ = some (.int .i64 u) := bk_cell a1 1
  have c2 : w.cell? ⟨g, 2, none⟩ = some (.int .i64 e) := bk_cell a1 2
  have d0 : w.cell? ⟨h, 0, none⟩ = some (.slice A' M.length c') := bk_cell b1 0
  have d1 : w.cell? ⟨h, 1, none⟩ = some (.int .i64 x) := bk_cell b1 1
  have d2 : w.cell? ⟨h, 2, none⟩ = some (.int .i64 y) := bk_cell b1 2
  have hE := fun q => equal_any A A' c c' L M (w.drewN q) (by omega) (by omega) a2 b2
  have HE := Lib.hid hE
  clear a1 a2 b1 b2 hE
  unfold smB
  generalize eqL L M = t at *
  generalize L.length = N at *
  generalize M.length = N' at *
  by_cases h1 : u = x
  · have t1 : (u == x) = true := by simpa using h1
    by_cases h2 : e = y
    · have t2 : (e == y) = true := by simpa using h2
      rw [t1, t2]
      go_enter Tryz.func27, Tryz.ntmps27
      go_wp2
      go_quiet ((go_at_call 53; exact Calls.quiet_of (HE.out _)))
      go_wp2
      go_ret
      exact ⟨rfl, drewN_below _ _ _⟩
    · have t2 : (e == y) = false := by simpa using h2
      rw [t1, t2]
      go_enter Tryz.func27, Tryz.ntmps27
      go_wp2
      go_quiet (fail)
      go_wp2
      go_ret
      exact ⟨rfl, drewN_below _ _ _⟩
  · have t1 : (u == x) = false := by simpa using h1
    rw [t1]
    go_enter Tryz.func27, Tryz.ntmps27
    go_wp2
    go_quiet (fail)
    go_wp2
    go_ret
    exact ⟨rfl, drewN_below _ _ _⟩

end Go.Proofs.YtiamggjebaabkaaGreatDoor

namespace Go.Proofs.YtiamggjebaabkaaGreatDoor
open Go.RowKit
set_option linter.unusedVariables false
set_option linter.unusedSimpArgs false

theorem Ow.set {T : TypeId} {w : World} {base g i : Nat} {v u : Value} {L : List Rw} (h : Ow T w base v L) (hg : g < base) : Ow T (w.setCell ⟨g, i, none⟩ u) base v L := by
  refine ⟨h.1, ?_⟩
  rcases h.2 with h0 | ⟨g', cap, cur, h1, h2, h3, h4⟩
  · exact .inl h0
  · refine .inr ⟨g', cap, cur, h1, h2, ?_, h4⟩
    have hne : g ≠ g' := by omega
    simp [World.setCell, Array.getElem?_modify, h3, hne]
theorem Ow.slice {T : TypeId} {w : World} {base : Nat} {v : Value} {L : List Rw} (h : Ow T w base v L) : ∃ A n c, v = .slice A n c := by
  obtain ⟨A, c, h1, -⟩ := h.reads
  exact ⟨A, _, c, h1⟩
/-- A block of three values. -/
def B3 (w : World) (g : Nat) (x y z : Value) : Prop := w.heap[g]? = some (.cells #[x, y, z] 30 (0, 0))
theorem B3.c0 {w : World} {g : Nat} {x y z : Value} (h : B3 w g x y z) : w.cell? ⟨g, 0, none⟩ = some x := bk_cell h 0
theorem B3.c1 {w : World} {g : Nat} {x y z : Value} (h : B3 w g x y z) : w.cell? ⟨g, 1, none⟩ = some y := bk_cell h 1
theorem B3.c2 {w : World} {g : Nat} {x y z : Value} (h : B3 w g x y z) : w.cell? ⟨g, 2, none⟩ = some z := bk_cell h 2
theorem B3.f {w : World} {g : Nat} {x y z : Value} (h : B3 w g x y z) (i : Nat) : w.frozen? ⟨g, i, none⟩ = false := bk_free h i
theorem B3.below {w w' : World} {g B : Nat} {x y z : Value} (h : B3 w g x y z) (hb : Below B w w') (hg : g < B) : B3 w' g x y z := (hb.block g hg).trans h
theorem B3.put {w : World} {g : Nat} {x y z : Value} (h : B3 w g x y z) (a b c : Value) : B3 (((w.setCell ⟨g, 0, none⟩ a).setCell ⟨g, 1, none⟩ b).setCell ⟨g, 2, none⟩ c) g a b c := bk_set (bk_set (bk_set h 0 a) 1 b) 2 c
theorem B3.far {w : World} {g k i : Nat} {x y z v : Value} (h : B3 w g x y z) (hk : k ≠ g) : B3 (w.setCell ⟨k, i, none⟩ v) g x y z := by
  unfold B3
  simp [World.setCell, Array.getElem?_modify, hk, h.symm]

end Go.Proofs.YtiamggjebaabkaaGreatDoor

namespace Go.Proofs.YtiamggjebaabkaaGreatDoor
open Go.RowKit
set_option linter.unusedVariables false
set_option linter.unusedSimpArgs false

theorem Rp.set {B : Nat} {w : World} {A : Option Addr} {L : List Rw} (h : Rp B w A L) (k i : Nat) (v : Value) (hk : ∀ b off, A = some ⟨b, off, none⟩ → k ≠ b) : Rp B (w.setCell ⟨k, i, none⟩ v) A L := by
  rcases h with h | ⟨b, off, h1, h2, h4, h3⟩
  · exact .inl h
  · have hne := hk b off h1
    refine .inr ⟨b, off, h1, h2, by simpa using h4, fun j hj => ?_⟩
    rw [World.cell?_setCell_far _ _ _ _ hne, World.cell?_setCell_far _ _ _ _ hne]
    exact h3 j hj
theorem Tb.set {lo : Nat} {w : World} {g : Nat} {L : List Rw} {u e : Int} (h : Tb lo w g L u e) (k i : Nat) (v : Value) (hk : k < lo) : Tb lo (w.setCell ⟨k, i, none⟩ v) g L u e := by
  obtain ⟨h0, A, c, h1, h2, h3, h4⟩ := h
  refine ⟨h0, A, c, ?_, ?_, h3, h4⟩
  · have hne : k ≠ g := by omega
    simp [World.setCell, Array.getElem?_modify, hne, h1]
  · have := h2.set k i v (fun b off hb => by have := h4 b off hb; omega)
    simpa using this
theorem Tb.mono {lo lo' : Nat} {w : World} {g : Nat} {L : List Rw} {u e : Int} (h : Tb lo w g L u e) (hl : lo' ≤ lo) : Tb lo' w g L u e := by
  obtain ⟨h0, A, c, h1, h2, h3, h4⟩ := h
  exact ⟨Nat.le_trans hl h0, A, c, h1, h2, h3, fun b off hb => Nat.le_trans hl (h4 b off hb)⟩

theorem dt730 : Dt 730 1972 1 1 := ⟨by unfold isy; omega, by decide, by decide, by decide, by decide, by decide⟩
end Go.Proofs.YtiamggjebaabkaaGreatDoor

namespace Go.Proofs.YtiamggjebaabkaaGreatDoor
open Go.RowKit
set_option linter.unusedVariables false
set_option linter.unusedSimpArgs false

theorem smB_self (L : List Rw) (u e : Int) : smB L u e L u e = true := by unfold smB; rw [eqL_self]; simp
/-- What a drawn region keeps. -/
structure Kb (W0 W : World) : Prop where
  bel : Below W0.heap.size W0 W
theorem Kb.step {W0 W W' : World} (h : Kb W0 W) (hb : Below W.heap.size W W') : Kb W0 W' := ⟨h.bel.trans (hb.mono h.bel.size)⟩

end Go.Proofs.YtiamggjebaabkaaGreatDoor

namespace Go.Proofs.YtiamggjebaabkaaGreatDoor
open Go.RowKit
set_option linter.unusedVariables false
set_option linter.unusedSimpArgs false

/-- What the program's variables hold. -/
structure S11 (w : World) : Prop where
  ends : Ends w
  tab : Tab w
  eps : Eps w
  start : Start w
  ge : GE w
theorem S11.below {w w' : World} (h : S11 w) (hb : Below w.heap.size w w') : S11 w' := ⟨h.ends.below hb, h.tab.below hb, h.eps.below hb, h.start.below hb, h.ge.below hb⟩
theorem parse11_s (t : ByteArray) (w : World) (h : S11 w) :
    Calls Tryz.prog 8 #[.string t] w fun x w' => ∃ v, x = .returned (.tuple #[v, ev (pZ11 t.data.toList)]) ∧ (pZ11 t.data.toList ≠ 0 → v = .pointer none) ∧
      (pZ11 t.data.toList = 0 → ∃ g, v = .pointer (some ⟨g, 0, none⟩) ∧ Tb 0 w' g (rg11 t.data.toList).L (rg11 t.data.toList).u (rg11 t.data.toList).e) ∧ Below w.heap.size w w' := parse11_all t w h.eps h.ge h.ends h.tab h.start
theorem parse11_no (t : ByteArray) (w : World) (h : S11 w) (hz : pZ11 t.data.toList ≠ 0) :
    Calls Tryz.prog 8 #[.string t] w fun x w' => x = .returned (.tuple #[.pointer none, ev (pZ11 t.data.toList)]) ∧ Below w.heap.size w w' :=
  (parse11_s t w h).mono fun x w' ⟨v, k1, k2, k3, k4⟩ => ⟨by rw [k1, k2 hz], k4⟩
theorem parse11_yes (t : ByteArray) (w : World) (h : S11 w) (hz : pZ11 t.data.toList = 0) :
    Calls Tryz.prog 8 #[.string t] w fun x w' => ∃ g, x = .returned (.tuple #[.pointer (some ⟨g, 0, none⟩), ev 0]) ∧ Below w.heap.size w w' ∧ Tb 0 w' g (rg11 t.data.toList).L (rg11 t.data.toList).u (rg11 t.data.toList).e :=
  (parse11_s t w h).mono fun x w' ⟨v, k1, k2, k3, k4⟩ => by
    obtain ⟨g, rfl, hg⟩ := k3 hz
    exact ⟨g, by rw [k1, hz], k4, hg⟩
theorem pE11_zero {l : List UInt8} (h : pZ11 l = 0) : l.length ≤ 65535 ∧ (go11 (lnL l) zr11).1 = 0 ∧ paE11 (rg11 l) = 0 := by
  unfold pZ11 at h
  split at h
  · unfold pE11 at h
    split at h
    · exact ⟨by assumption, by assumption, h⟩
    · exact absurd h (by assumption)
  · cases h
/-- A right table's text, and its length. -/
abbrev tx11 (L : List Rw) (u e : Int) : List UInt8 := ptTk L u e (byt (dig (dgT L u e)))
theorem tx_len {L : List Rw} {u e : Int} (h : Rows11 L u e) : (tx11 L u e).length ≤ 40000 := by
  have h1 := h.hl; have h2 := h.hn
  have h3 := ptRk_len L
  have h4 := w8_len 5 (hxL (byt (dig (dgT L u e))))
  unfold tx11 ptTk ptUk ptEk ptHk
  unfold dgT at h1
  simp only [List.length_append, List.length_cons, List.length_nil] at h1 ⊢
  omega
theorem tx_go {L : List Rw} {u e : Int} (h : lkE L u e = 0) : ∃ r, go11 (lnL (tx11 L u e)) zr11 = (0, r) ∧ r.L = L ∧ r.u = u ∧ r.e = e ∧ paE11 r = 0 := by
  obtain ⟨v, ⟨hu1, hu2⟩, he1, he2⟩ := lkE_zero h
  have hr : ∀ j, j < L.length → -25567 ≤ rd L j ∧ rd L j ≤ 2932896 ∧ 0 ≤ ro L j ∧ ro L j ≤ 1000 := fun j hj => ⟨(v.day j hj).1, (v.day j hj).2, (v.off j hj).1, (v.off j hj).2⟩
  obtain ⟨a1, a2⟩ := al_text L u e (dig (dgT L u e)) hu1 (by omega) he1 (by omega) hr
  have hg : go11 (spR 10 (tx11 L u e)) zr11 = (0, alR (spR 10 (tx11 L u e)) (spR 10 (tx11 L u e)).length) := by
    rcases go_is (spR 10 (tx11 L u e)) with ⟨_, g⟩ | ⟨K, k1, k2, k3, k4⟩
    · exact g
    · exact absurd (a2 K k1) k3
  rw [a1, go_sp] at hg
  refine ⟨_, hg, rfl, rfl, rfl, ?_⟩
  unfold paE11
  rw [if_neg (by dsimp; omega), if_pos h, if_neg]
  rintro ⟨-, q⟩
  exact q ⟨rfl, rfl, rfl, rfl, rfl⟩
theorem tx_zero {L : List Rw} {u e : Int} (h : lkE L u e = 0) : pZ11 (tx11 L u e) = 0 ∧ (rg11 (tx11 L u e)).L = L ∧ (rg11 (tx11 L u e)).u = u ∧ (rg11 (tx11 L u e)).e = e := by
  obtain ⟨r, h1, h2, h3, h4, h5⟩ := tx_go h
  have hl := tx_len (rows11_of h)
  have e1 : rg11 (tx11 L u e) = r := by unfold rg11; rw [h1]
  rw [e1]
  refine ⟨?_, h2, h3, h4⟩
  unfold pZ11 pE11
  rw [if_pos (by omega), h1, if_pos rfl, e1]
  exact h5
theorem fault11_zero (t : ByteArray) (w : World) (hs : S11 w) (h : pZ11 t.data.toList = 0) : Calls Tryz.prog 11 #[.string t] w fun x w' => x = .returned (.int .i64 0) ∧ Below w.heap.size w w' := by
  obtain ⟨h1, h2, h3⟩ := pE11_zero h
  have hz : t.data.toList.length = t.size := by rw [Array.length_toList]; rfl
  refine (fault11_any t w hs.eps hs.ge (by omega)).mono ?_
  rintro x w' ⟨n, rfl, hn, hb⟩
  rcases hn with ⟨rfl, -⟩ | ⟨K, rfl, k1, k2, k3⟩
  · exact ⟨rfl, hb⟩
  · rcases go_is (spR 10 t.data.toList) with ⟨g1, g2⟩ | ⟨J, j1, j2, j3, j4⟩
    · exact absurd (g1 K k1) k3
    · rw [go_sp] at j4
      rw [j4] at h2
      exact absurd h2 j3

set_option maxRecDepth 100000 in
set_option maxHeartbeats 4000000 in
theorem back11_any {lo g : Nat} {L : List Rw} {u e : Int} (w : World) (hs : S11 w) (ht : Tb lo w g L u e) (hk : lkE L u e = 0) :
    Calls Tryz.prog 25 #[.pointer (some ⟨g, 0, none⟩)] w fun x w' => x = .returned (.bool true) ∧ Below w.heap.size w w' := by
  obtain ⟨z, r1, r2, r3⟩ := tx_zero hk
  have few := (lkE_zero hk).1.few
  have hPu := put11_any ht (rows11_of hk) hs.tab hs.eps hs.start
  have hPa := fun W h => parse11_yes ⟨(tx11 L u e).toArray⟩ W h (by simpa using z)
  rw [show ((⟨(tx11 L u e).toArray⟩ : ByteArray).data.toList) = tx11 L u e by simp, r1, r2, r3] at hPa
  have hFa := fun W h => fault11_zero ⟨(tx11 L u e).toArray⟩ W h (by simpa using z)
  have hSa := fun (lo' g' : Nat) (W : World) (h1 : Tb lo W g L u e) (h2 : Tb lo' W g' L u e) => same_any h1 h2 few few
  rw [smB_self] at hSa
  have HPu := Lib.hid hPu; have HPa := Lib.hid hPa; have HFa := Lib.hid hFa; have HSa := Lib.hid hSa
  have S := Lib.hid hs; have T := Lib.hid ht; have B : Hid (Below w.heap.size w w) := Lib.hid (Below.refl _ _)
  clear hPu hPa hFa hSa hs ht hk z r1 r2 r3 few
  unfold tx11 at HPa HFa
  generalize (ptTk L u e (byt (dig (dgT L u e)))).toArray = X at *
  have q0 := fun op t W x k => guard_ev op t W x k
  have q1 := fun W k => eql_ev W k
  have q2 := fun W k => neq_ev W k
  go_enter Tryz.func25, Tryz.ntmps25
  go_wp2_with fail
  refine HPu.out.mono ?_
  rintro e1 w1 ⟨rfl, hb⟩
  have B := Lib.hid (B.out.trans (hb.mono B.out.size))
  have S := Lib.hid (S.out.below hb)
  have T := Lib.hid (T.out.below hb)
  clear hb
  go_wp2_with fail
  refine (HPa.out _ S.out).mono ?_
  rintro e2 w2 ⟨g2, rfl, hb, ht2⟩
  have T2 := Lib.hid ht2
  clear ht2
  have B := Lib.hid (B.out.trans (hb.mono B.out.size))
  have S := Lib.hid (S.out.below hb)
  have T := Lib.hid (T.out.below hb)
  clear hb
  go_wp2_with fail
  refine (HSa.out _ _ _ T.out T2.out).mono ?_
  rintro e3 w3 ⟨rfl, hb⟩
  have B := Lib.hid (B.out.trans (hb.mono B.out.size))
  have S := Lib.hid (S.out.below hb)
  have T := Lib.hid (T.out.below hb)
  have T2 := Lib.hid (T2.out.below hb)
  clear hb
  go_wp2_with fail
  refine (HFa.out _ S.out).mono ?_
  rintro e4 w4 ⟨rfl, hb⟩
  have B := Lib.hid (B.out.trans (hb.mono B.out.size))
  have S := Lib.hid (S.out.below hb)
  have T := Lib.hid (T.out.below hb)
  have T2 := Lib.hid (T2.out.below hb)
  clear hb
  go_wp2_with fail
  go_ret
  exact ⟨rfl, B.out⟩

/-- The chapter's example. -/
def ext11 : List UInt8 := [35, 36, 32, 53, 10, 35, 64, 32, 57, 10, 50, 50, 55, 50, 48, 54, 48, 56, 48, 48, 9, 49, 48, 10]
theorem ext_go : go11 (lnL ext11) zr11 = (0, ⟨[⟨730, 10⟩], 5, 9, 1, 1, 0, 0, 0, 0, 0, 0⟩) := by kernel_rfl
theorem exl11_ok : lkE [⟨730, 10⟩] 5 9 = 0 := by
  have one : ∀ {j : Nat}, j < 1 → j = 0 := fun h => by omega
  unfold lkE
  rw [if_neg (by decide), if_neg (by decide), if_neg, if_neg, if_neg (by decide), if_neg]
  · rintro ⟨j, hj, -⟩; simp at hj
  · rintro ⟨j, hj, h⟩
    have := one hj
    subst this
    unfold w2 at h
    rw [show rd [⟨730, 10⟩] 0 = 730 from rfl, d1_is dt730] at h
    exact absurd h (by decide)
  · rintro ⟨j, hj, h⟩
    have := one hj
    subst this
    exact absurd h (by decide)
theorem ext_zero : pZ11 ext11 = 0 ∧ (rg11 ext11).L = [⟨730, 10⟩] := by
  have e1 : rg11 ext11 = ⟨[⟨730, 10⟩], 5, 9, 1, 1, 0, 0, 0, 0, 0, 0⟩ := by unfold rg11; rw [ext_go]
  rw [e1]
  refine ⟨?_, rfl⟩
  unfold pZ11 pE11
  rw [if_pos (by decide), ext_go, if_pos rfl, e1]
  unfold paE11
  rw [if_neg (by decide), if_pos exl11_ok, if_neg (by decide)]
set_option maxRecDepth 100000 in
set_option maxHeartbeats 4000000 in
theorem alive11_any (w : World) (hs : S11 w) : Calls Tryz.prog 7 #[] w fun e w' => e = .returned (.bool true) ∧ Below w.heap.size w w' := by
  have q0 := fun op t W x k => guard_ev op t W x k
  have q1 := fun W k => eql_ev W k
  have q2 := fun W k => neq_ev W k
  have hPa := parse11_yes ⟨ext11.toArray⟩ w hs (by simpa using ext_zero.1)
  rw [show ((⟨ext11.toArray⟩ : ByteArray).data.toList) = ext11 by simp, ext_zero.2] at hPa
  generalize (rg11 ext11).u = u0 at *
  generalize (rg11 ext11).e = e0 at *
  have HPa := Lib.hid hPa
  have hRo := fun (lo g : Nat) (W : World) (h : Tb lo W g [⟨730, 10⟩] u0 e0) => row_any 0 h.v
  rw [show rwD [⟨730, 10⟩] 0 = 730 from rfl, show rwO [⟨730, 10⟩] 0 = 10 from rfl, show rwB [⟨730, 10⟩] 0 = true from rfl] at hRo
  have HRo := Lib.hid hRo
  clear hPa hs hRo
  go_enter Tryz.func7, Tryz.ntmps7
  go_wp2_with fail
  refine HPa.out.mono ?_
  rintro e1 w1 ⟨g, rfl, hb, ht⟩
  have B1 := Lib.hid hb; have T1 := Lib.hid ht
  clear hb ht
  go_wp2_with fail
  refine (HRo.out _ _ _ T1.out).mono ?_
  rintro e2 w2 ⟨rfl, hb⟩
  have B2 := Lib.hid (B1.out.trans (hb.mono B1.out.size))
  clear hb
  go_wp2_with fail
  go_ret
  exact ⟨rfl, B2.out.alloc B2.out.size _⟩

end Go.Proofs.YtiamggjebaabkaaGreatDoor
