/- Merged: LeapF, LeapJ, LeapK, LeapR, ListAS. -/
import Derived.Test.YtiamggjebaabkaaGreatDoorGListRemarks47
import Derived.Test.YtiamggjebaabkaaGreatDoorGListRemarks35
import Derived.Test.YtiamggjebaabkaaGreatDoorGListRemarks34
import Derived.StillTailTactics
import Derived.BigRegion
import Derived.Deep.RegionHeld3
import Derived.Test.YtiamggjebaabkaaGreatDoorGListRemarks37
namespace Go.Proofs.YtiamggjebaabkaaGreatDoor
open Go.RowKit
set_option linter.unusedVariables false
set_option linter.unusedSimpArgs false

theorem same_nil (w : World) : Calls Tryz.prog 27 #[.pointer none, .pointer none] w fun x w' => x = .returned (.bool true) ∧ w = w' := by
  go_enter Tryz.func27, Tryz.ntmps27
  go_wp2
  go_ret
  exact ⟨rfl, rfl⟩
/-- Are two tables the same? -/
noncomputable def smB (L : List Rw) (u e : Int) (M : List Rw) (x y : Int) : Bool := (u == x && e == y) && eqL L M
set_option maxHeartbeats 2000000 in
theorem same_any {lo lo' : Nat} {w : World} {g h : Nat} {L M : List Rw} {u e x y : Int} (ha : Tb lo w g L u e) (hb : Tb lo' w h M x y) (hL : L.length ≤ 256) (hM : M.length ≤ 256) :
    Calls Tryz.prog 27 #[.pointer (some ⟨g, 0, none⟩), .pointer (some ⟨h, 0, none⟩)] w fun r w' => r = .returned (.bool (smB L u e M x y)) ∧ Below w.heap.size w w' := by
  obtain ⟨-, A, c, a1, a2, -, -⟩ := ha
  obtain ⟨-, A', c', b1, b2, -, -⟩ := hb
  have c0 : w.cell? ⟨g, 0, none⟩ = some (.slice A L.length c) := bk_cell a1 0
  have c1 : w.cell? ⟨g, 1, none⟩ = some (.int .i64 u) := bk_cell a1 1
  have c2 : w.cell? ⟨g, 2, none⟩ = some (.int .i64 e) := bk_cell a1 2
  have d0 : w.cell? ⟨h, 0, none⟩ = some (.slice A' M.length c') := bk_cell b1 0
  have d1 : w.cell? ⟨h, 1, none⟩ = some (.int .i64 x) := bk_cell b1 1
  have d2 : w.cell? ⟨h, 2, none⟩ = some (.int .i64 y) := bk_cell b1 2
  have hE := fun q => equal_any A A' c c' L M (w.drewN q) (by omega) (by omega) a2 b2
  have HE := Lib.hid hE
  clear a1 a2 b1 b2 hE
  unfold smB
  generalize eqL L M = t at *
  generalize L.length = N at *
  generalize M.length = N' at *
  by_cases h1 : u = x
  · have t1 : (u == x) = true := by simpa using h1
    by_cases h2 : e = y
    · have t2 : (e == y) = true := by simpa using h2
      rw [t1, t2]
      go_enter Tryz.func27, Tryz.ntmps27
      go_wp2
      go_quiet ((go_at_call 53; exact Calls.quiet_of (HE.out _)))
      go_wp2
      go_ret
      exact ⟨rfl, drewN_below _ _ _⟩
    · have t2 : (e == y) = false := by simpa using h2
      rw [t1, t2]
      go_enter Tryz.func27, Tryz.ntmps27
      go_wp2
      go_quiet (fail)
      go_wp2
      go_ret
      exact ⟨rfl, drewN_below _ _ _⟩
  · have t1 : (u == x) = false := by simpa using h1
    rw [t1]
    go_enter Tryz.func27, Tryz.ntmps27
    go_wp2
    go_quiet (fail)
    go_wp2
    go_ret
    exact ⟨rfl, drewN_below _ _ _⟩

end Go.Proofs.YtiamggjebaabkaaGreatDoor

namespace Go.Proofs.YtiamggjebaabkaaGreatDoor
open Go.RowKit
set_option linter.unusedVariables false
set_option linter.unusedSimpArgs false

theorem Ow.set {T : TypeId} {w : World} {base g i : Nat} {v u : Value} {L : List Rw} (h : Ow T w base v L) (hg : g < base) : Ow T (w.setCell ⟨g, i, none⟩ u) base v L := by
  refine ⟨h.1, ?_⟩
  rcases h.2 with h0 | ⟨g', cap, cur, h1, h2, h3, h4⟩
  · exact .inl h0
  · refine .inr ⟨g', cap, cur, h1, h2, ?_, h4⟩
    have hne : g ≠ g' := by omega
    simp [World.setCell, Array.getElem?_modify, h3, hne]
theorem Ow.slice {T : TypeId} {w : World} {base : Nat} {v : Value} {L : List Rw} (h : Ow T w base v L) : ∃ A n c, v = .slice A n c := by
  obtain ⟨A, c, h1, -⟩ := h.reads
  exact ⟨A, _, c, h1⟩
/-- A block of three values. -/
def B3 (w : World) (g : Nat) (x y z : Value) : Prop := w.heap[g]? = some (.cells #[x, y, z] 30 (0, 0))
theorem B3.c0 {w : World} {g : Nat} {x y z : Value} (h : B3 w g x y z) : w.cell? ⟨g, 0, none⟩ = some x := bk_cell h 0
theorem B3.c1 {w : World} {g : Nat} {x y z : Value} (h : B3 w g x y z) : w.cell? ⟨g, 1, none⟩ = some y := bk_cell h 1
theorem B3.c2 {w : World} {g : Nat} {x y z : Value} (h : B3 w g x y z) : w.cell? ⟨g, 2, none⟩ = some z := bk_cell h 2
theorem B3.f {w : World} {g : Nat} {x y z : Value} (h : B3 w g x y z) (i : Nat) : w.frozen? ⟨g, i, none⟩ = false := bk_free h i
theorem B3.below {w w' : World} {g B : Nat} {x y z : Value} (h : B3 w g x y z) (hb : Below B w w') (hg : g < B) : B3 w' g x y z := (hb.block g hg).trans h
theorem B3.put {w : World} {g : Nat} {x y z : Value} (h : B3 w g x y z) (a b c : Value) : B3 (((w.setCell ⟨g, 0, none⟩ a).setCell ⟨g, 1, none⟩ b).setCell ⟨g, 2, none⟩ c) g a b c := bk_set (bk_set (bk_set h 0 a) 1 b) 2 c
theorem B3.far {w : World} {g k i : Nat} {x y z v : Value} (h : B3 w g x y z) (hk : k ≠ g) : B3 (w.setCell ⟨k, i, none⟩ v) g x y z := by
  unfold B3
  simp [World.setCell, Array.getElem?_modify, hk, h.symm]

end Go.Proofs.YtiamggjebaabkaaGreatDoor

namespace Go.Proofs.YtiamggjebaabkaaGreatDoor
open Go.RowKit
set_option linter.unusedVariables false
set_option linter.unusedSimpArgs false

theorem Rp.set {B : Nat} {w : World} {A : Option Addr} {L : List Rw} (h : Rp B w A L) (k i : Nat) (v : Value) (hk : ∀ b off, A = some ⟨b, off, none⟩ → k ≠ b) : Rp B (w.setCell ⟨k, i, none⟩ v) A L := by
  rcases h with h | ⟨b, off, h1, h2, h4, h3⟩
  · exact .inl h
  · have hne := hk b off h1
    refine .inr ⟨b, off, h1, h2, by simpa using h4, fun j hj => ?_⟩
    rw [World.cell?_setCell_far _ _ _ _ hne, World.cell?_setCell_far _ _ _ _ hne]
    exact h3 j hj
theorem Tb.set {lo : Nat} {w : World} {g : Nat} {L : List Rw} {u e : Int} (h : Tb lo w g L u e) (k i : Nat) (v : Value) (hk : k < lo) : Tb lo (w.setCell ⟨k, i, none⟩ v) g L u e := by
  obtain ⟨h0, A, c, h1, h2, h3, h4⟩ := h
  refine ⟨h0, A, c, ?_, ?_, h3, h4⟩
  · have hne : k ≠ g := by omega
    simp [World.setCell, Array.getElem?_modify, hne, h1]
  · have := h2.set k i v (fun b off hb => by have := h4 b off hb; omega)
    simpa using this
theorem Tb.mono {lo lo' : Nat} {w : World} {g : Nat} {L : List Rw} {u e : Int} (h : Tb lo w g L u e) (hl : lo' ≤ lo) : Tb lo' w g L u e := by
  obtain ⟨h0, A, c, h1, h2, h3, h4⟩ := h
  exact ⟨Nat.le_trans hl h0, A, c, h1, h2, h3, fun b off hb => Nat.le_trans hl (h4 b off hb)⟩

theorem dt730 : Dt 730 1972 1 1 := ⟨by unfold isy; omega, by decide, by decide, by decide, by decide, by decide⟩
end Go.Proofs.YtiamggjebaabkaaGreatDoor

namespace Go.Proofs.YtiamggjebaabkaaGreatDoor
open Go.RowKit
set_option linter.unusedVariables false
set_option linter.unusedSimpArgs false

theorem smB_self (L : List Rw) (u e : Int) : smB L u e L u e = true := by unfold smB; rw [eqL_self]; simp
/-- What a drawn region keeps. -/
structure Kb (W0 W : World) : Prop where
  bel : Below W0.heap.size W0 W
theorem Kb.step {W0 W W' : World} (h : Kb W0 W) (hb : Below W.heap.size W W') : Kb W0 W' := ⟨h.bel.trans (hb.mono h.bel.size)⟩

end Go.Proofs.YtiamggjebaabkaaGreatDoor

namespace Go.Proofs.YtiamggjebaabkaaGreatDoor
open Go.RowKit
set_option linter.unusedVariables false
set_option linter.unusedSimpArgs false

/-- What the program's variables hold. -/
structure S11 (w : World) : Prop where
  ends : Ends w
  tab : Tab w
  eps : Eps w
  start : Start w
  ge : GE w
theorem S11.below {w w' : World} (h : S11 w) (hb : Below w.heap.size w w') : S11 w' := ⟨h.ends.below hb, h.tab.below hb, h.eps.below hb, h.start.below hb, h.ge.below hb⟩
theorem parse11_s (t : ByteArray) (w : World) (h : S11 w) :
    Calls Tryz.prog 8 #[.string t] w fun x w' => ∃ v, x = .returned (.tuple #[v, ev (pZ11 t.data.toList)]) ∧ (pZ11 t.data.toList ≠ 0 → v = .pointer none) ∧
      (pZ11 t.data.toList = 0 → ∃ g, v = .pointer (some ⟨g, 0, none⟩) ∧ Tb 0 w' g (rg11 t.data.toList).L (rg11 t.data.toList).u (rg11 t.data.toList).e) ∧ Below w.heap.size w w' := parse11_all t w h.eps h.ge h.ends h.tab h.start
theorem parse11_no (t : ByteArray) (w : World) (h : S11 w) (hz : pZ11 t.data.toList ≠ 0) :
    Calls Tryz.prog 8 #[.string t] w fun x w' => x = .returned (.tuple #[.pointer none, ev (pZ11 t.data.toList)]) ∧ Below w.heap.size w w' :=
  (parse11_s t w h).mono fun x w' ⟨v, k1, k2, k3, k4⟩ => ⟨by rw [k1, k2 hz], k4⟩
theorem parse11_yes (t : ByteArray) (w : World) (h : S11 w) (hz : pZ11 t.data.toList = 0) :
    Calls Tryz.prog 8 #[.string t] w fun x w' => ∃ g, x = .returned (.tuple #[.pointer (some ⟨g, 0, none⟩), ev 0]) ∧ Below w.heap.size w w' ∧ Tb 0 w' g (rg11 t.data.toList).L (rg11 t.data.toList).u (rg11 t.data.toList).e :=
  (parse11_s t w h).mono fun x w' ⟨v, k1, k2, k3, k4⟩ => by
    obtain ⟨g, rfl, hg⟩ := k3 hz
    exact ⟨g, by rw [k1, hz], k4, hg⟩
theorem pE11_zero {l : List UInt8} (h : pZ11 l = 0) : l.length ≤ 65535 ∧ (go11 (lnL l) zr11).1 = 0 ∧ paE11 (rg11 l) = 0 := by
  unfold pZ11 at h
  split at h
  · unfold pE11 at h
    split at h
    · exact ⟨by assumption, by assumption, h⟩
    · exact absurd h (by assumption)
  · cases h
/-- The chapter's example. -/
def ext11 : List UInt8 := [35, 36, 32, 53, 10, 35, 64, 32, 57, 10, 50, 50, 55, 50, 48, 54, 48, 56, 48, 48, 9, 49, 48, 10]
theorem ext_go : go11 (lnL ext11) zr11 = (0, ⟨[⟨730, 10⟩], 5, 9, 1, 1, 0, 0, 0, 0, 0, 0⟩) := by kernel_rfl
theorem exl11_ok : lkE [⟨730, 10⟩] 5 9 = 0 := by
  have one : ∀ {j : Nat}, j < 1 → j = 0 := fun h => by omega
  unfold lkE
  rw [if_neg (by decide), if_neg (by decide), if_neg, if_neg, if_neg (by decide), if_neg]
  · rintro ⟨j, hj, -⟩; simp at hj
  · rintro ⟨j, hj, h⟩
    have := one hj
    subst this
    unfold w2 at h
    rw [show rd [⟨730, 10⟩] 0 = 730 from rfl, d1_is dt730] at h
    exact absurd h (by decide)
  · rintro ⟨j, hj, h⟩
    have := one hj
    subst this
    exact absurd h (by decide)
theorem ext_zero : pZ11 ext11 = 0 ∧ (rg11 ext11).L = [⟨730, 10⟩] := by
  have e1 : rg11 ext11 = ⟨[⟨730, 10⟩], 5, 9, 1, 1, 0, 0, 0, 0, 0, 0⟩ := by unfold rg11; rw [ext_go]
  rw [e1]
  refine ⟨?_, rfl⟩
  unfold pZ11 pE11
  rw [if_pos (by decide), ext_go, if_pos rfl, e1]
  unfold paE11
  rw [if_neg (by decide), if_pos exl11_ok, if_neg (by decide)]
set_option maxRecDepth 100000 in
set_option maxHeartbeats 4000000 in
theorem alive11_any (w : World) (hs : S11 w) : Calls Tryz.prog 7 #[] w fun e w' => e = .returned (.bool true) ∧ Below w.heap.size w w' := by
  have q0 := fun op t W x k => guard_ev op t W x k
  have q1 := fun W k => eql_ev W k
  have q2 := fun W k => neq_ev W k
  have hPa := parse11_yes ⟨ext11.toArray⟩ w hs (by simpa using ext_zero.1)
  rw [show ((⟨ext11.toArray⟩ : ByteArray).data.toList) = ext11 by simp, ext_zero.2] at hPa
  generalize (rg11 ext11).u = u0 at *
  generalize (rg11 ext11).e = e0 at *
  have HPa := Lib.hid hPa
  have hRo := fun (lo g : Nat) (W : World) (h : Tb lo W g [⟨730, 10⟩] u0 e0) => row_any 0 h.v
  rw [show rwD [⟨730, 10⟩] 0 = 730 from rfl, show rwO [⟨730, 10⟩] 0 = 10 from rfl, show rwB [⟨730, 10⟩] 0 = true from rfl] at hRo
  have HRo := Lib.hid hRo
  clear hPa hs hRo
  go_enter Tryz.func7, Tryz.ntmps7
  go_wp2_with fail
  refine HPa.out.mono ?_
  rintro e1 w1 ⟨g, rfl, hb, ht⟩
  have B1 := Lib.hid hb; have T1 := Lib.hid ht
  clear hb ht
  go_wp2_with fail
  refine (HRo.out _ _ _ T1.out).mono ?_
  rintro e2 w2 ⟨rfl, hb⟩
  have B2 := Lib.hid (B1.out.trans (hb.mono B1.out.size))
  clear hb
  go_wp2_with fail
  go_ret
  exact ⟨rfl, B2.out.alloc B2.out.size _⟩

end Go.Proofs.YtiamggjebaabkaaGreatDoor
