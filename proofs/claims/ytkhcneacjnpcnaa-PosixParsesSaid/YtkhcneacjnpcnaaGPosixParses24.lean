/- Merged: RulI, RulE. -/
import Derived.Test.YtkhcneacjnpcnaaGPosixParses23
import Derived.Test.YtkhcneacjnpcnaaGPosixParses21
import Derived.Test.YtkhcneacjnpcnaaGPosixParses1
import Derived.Test.YtkhcneacjnpcnaaGPosixParses2
import Derived.Lib.LaidTab
import Derived.Lib.SmallJoins
namespace Go.Proofs.Ytkhcneacjnpcnaa
open Go.RowKit
set_option linter.unusedVariables false
set_option linter.unusedSimpArgs false

theorem hd_true {l : List UInt8} {k : Nat} {e : Int} {b : UInt8} (h : ((rs l k e).head? == some b) = true) : (rs l k e).head? = some b := by simpa using h
theorem hd_false {l : List UInt8} {k : Nat} {e : Int} {b : UInt8} (h : ((rs l k e).head? == some b) = false) : (rs l k e).head? ≠ some b := by simpa using h
theorem o_is {l : List UInt8} {k : Nat} {e : Int} (h : oY l k e = true) : oN l k e = fgN (rs l (k + 1) e) e 2 2 ∧ oK l k e = fgK (k + 1) (rs l (k + 1) e) e 2 2 ∧ oE l k e = fgE (rs l (k + 1) e) e 2 2 := by
  unfold oN oK oE; rw [h]; exact ⟨rfl, rfl, rfl⟩
theorem o_not {l : List UInt8} {k : Nat} {e : Int} (h : oY l k e = false) : oN l k e = 0 ∧ oK l k e = k ∧ oE l k e = e := by
  unfold oN oK oE; rw [h]; exact ⟨rfl, rfl, rfl⟩
theorem w16 {z : Int} (h : 0 ≤ z ∧ z < 100000) : IntKind.i64.wrap z = z := IntWalk.i64_in _ (by omega)
set_option maxHeartbeats 1000000 in
theorem tclock_any (g k : Nat) (e : Int) (s : ByteArray) (w : World) (h : Sk Ts w g (.string s) k e) (hk : k ≤ s.size) (hs : s.size ≤ 100000) :
    Calls Try.prog 54 #[.pointer (some ⟨g, 0, none⟩)] w fun x w' =>
      x = .returned (.agg (clC (cNg s.data.toList k e) (cH s.data.toList k e) (cM s.data.toList k e) (cS s.data.toList k e))) ∧ Mv Ts g (.string s) (cK3 s.data.toList k e) (cE3 s.data.toList k e) w w' := by
  have hsz : s.data.toList.length = s.size := by simp
  obtain ⟨l, hl⟩ : ∃ l, l = s.data.toList := ⟨_, rfl⟩
  have T := fun k e (hk : k ≤ l.length) b w h => takes_s g k e (.string s) s b w h rfl (by rw [← hsz, ← hl]; exact hk) hs
  have G := fun k e (hk : k ≤ l.length) a b (ha : fits a) (hb : fits b) w h => figures_s g k e a b (.string s) s w h rfl (by rw [← hsz, ← hl]; exact hk) hs ha hb
  rw [← hl] at T G hsz ⊢
  have kl : k ≤ l.length := by omega
  have k0 := cK0_le l e kl
  have k1 := cK1_le l e kl
  have k2 := cK2_le l e kl
  have k3 := cK3_le l e kl
  have bH := w16 (cH_bd l k e); have bM := w16 (cM_bd l k e); have bS := w16 (cS_bd l k e)
  have T1 := T k e kl 45
  have F1 := G (cK0 l k e) e k0 1 3 (by decide) (by decide)
  have C1 := T (cK1 l k e) (cE1 l k e) k1 58
  have C2 := T (cK2 l k e) (cE2 l k e) k2 58
  cases hn : cNg l k e with
  | true =>
    have u : cK0 l k e = k + 1 := if_pos (hd_true hn)
    have hn' : ((rs l k e).head? == some 45) = true := hn
    rw [hn', if_pos (hd_true hn), ← u] at T1
    cases h1 : oY l (cK1 l k e) (cE1 l k e) with
    | false =>
      have h1' : ((rs l (cK1 l k e) (cE1 l k e)).head? == some 58) = false := h1
      rw [h1', if_neg (hd_false h1')] at C1
      obtain ⟨a1, a2, a3⟩ := o_not h1
      have m1 : cM l k e = 0 := a1
      have m2 : cK2 l k e = cK1 l k e := a2
      have m3 : cE2 l k e = cE1 l k e := a3
      have s1 : cS l k e = 0 := by unfold cS; rw [m2, m3]; exact a1
      have s2 : cK3 l k e = cK1 l k e := by unfold cK3; rw [m2, m3]; exact a2
      have s3 : cE3 l k e = cE1 l k e := by unfold cE3; rw [m2, m3]; exact a3
      rw [m1, s1, s2, s3]
      exact tclock_t0 g k _ _ _ _ _ _ _ bH w h (Lib.hid T1) (Lib.hid F1) (Lib.hid C1)
    | true =>
      have h1' : ((rs l (cK1 l k e) (cE1 l k e)).head? == some 58) = true := h1
      rw [h1', if_pos (hd_true h1')] at C1
      obtain ⟨a1, a2, a3⟩ := o_is h1
      have m1 : cM l k e = _ := a1
      have F2 := G (cK1 l k e + 1) (cE1 l k e) (head16 (hd_true h1')) 2 2 (by decide) (by decide)
      rw [← a1, ← a2, ← a3] at F2
      cases h2 : oY l (cK2 l k e) (cE2 l k e) with
      | false =>
        have h2' : ((rs l (cK2 l k e) (cE2 l k e)).head? == some 58) = false := h2
        rw [h2', if_neg (hd_false h2')] at C2
        obtain ⟨c1, c2, c3⟩ := o_not h2
        have s1 : cS l k e = 0 := c1
        have s2 : cK3 l k e = cK2 l k e := c2
        have s3 : cE3 l k e = cE2 l k e := c3
        rw [s1, s2, s3]
        exact tclock_t1 g k _ _ _ _ _ _ _ _ _ _ _ bH bM w h (Lib.hid T1) (Lib.hid F1) (Lib.hid C1) (Lib.hid F2) (Lib.hid C2)
      | true =>
        have h2' : ((rs l (cK2 l k e) (cE2 l k e)).head? == some 58) = true := h2
        rw [h2', if_pos (hd_true h2')] at C2
        obtain ⟨c1, c2, c3⟩ := o_is h2
        have F3 := G (cK2 l k e + 1) (cE2 l k e) (head16 (hd_true h2')) 2 2 (by decide) (by decide)
        rw [← c1, ← c2, ← c3] at F3
        exact tclock_t2 g k _ _ _ _ _ _ _ _ _ _ _ _ _ _ bH bM bS w h (Lib.hid T1) (Lib.hid F1) (Lib.hid C1) (Lib.hid F2) (Lib.hid C2) (Lib.hid F3)
  | false =>
    have hn' : ((rs l k e).head? == some 45) = false := hn
    have u : cK0 l k e = if (rs l k e).head? = some 43 then k + 1 else k := if_neg (hd_false hn)
    rw [hn', if_neg (hd_false hn)] at T1
    have T2 := T k e kl 43
    rw [← u] at T2
    cases h1 : oY l (cK1 l k e) (cE1 l k e) with
    | false =>
      have h1' : ((rs l (cK1 l k e) (cE1 l k e)).head? == some 58) = false := h1
      rw [h1', if_neg (hd_false h1')] at C1
      obtain ⟨a1, a2, a3⟩ := o_not h1
      have m1 : cM l k e = 0 := a1
      have m2 : cK2 l k e = cK1 l k e := a2
      have m3 : cE2 l k e = cE1 l k e := a3
      have s1 : cS l k e = 0 := by unfold cS; rw [m2, m3]; exact a1
      have s2 : cK3 l k e = cK1 l k e := by unfold cK3; rw [m2, m3]; exact a2
      have s3 : cE3 l k e = cE1 l k e := by unfold cE3; rw [m2, m3]; exact a3
      rw [m1, s1, s2, s3]
      exact tclock_f0 g k _ _ _ _ _ _ _ _ _ bH w h (Lib.hid T1) (Lib.hid T2) (Lib.hid F1) (Lib.hid C1)
    | true =>
      have h1' : ((rs l (cK1 l k e) (cE1 l k e)).head? == some 58) = true := h1
      rw [h1', if_pos (hd_true h1')] at C1
      obtain ⟨a1, a2, a3⟩ := o_is h1
      have m1 : cM l k e = _ := a1
      have F2 := G (cK1 l k e + 1) (cE1 l k e) (head16 (hd_true h1')) 2 2 (by decide) (by decide)
      rw [← a1, ← a2, ← a3] at F2
      cases h2 : oY l (cK2 l k e) (cE2 l k e) with
      | false =>
        have h2' : ((rs l (cK2 l k e) (cE2 l k e)).head? == some 58) = false := h2
        rw [h2', if_neg (hd_false h2')] at C2
        obtain ⟨c1, c2, c3⟩ := o_not h2
        have s1 : cS l k e = 0 := c1
        have s2 : cK3 l k e = cK2 l k e := c2
        have s3 : cE3 l k e = cE2 l k e := c3
        rw [s1, s2, s3]
        exact tclock_f1 g k _ _ _ _ _ _ _ _ _ _ _ _ _ bH bM w h (Lib.hid T1) (Lib.hid T2) (Lib.hid F1) (Lib.hid C1) (Lib.hid F2) (Lib.hid C2)
      | true =>
        have h2' : ((rs l (cK2 l k e) (cE2 l k e)).head? == some 58) = true := h2
        rw [h2', if_pos (hd_true h2')] at C2
        obtain ⟨c1, c2, c3⟩ := o_is h2
        have F3 := G (cK2 l k e + 1) (cE2 l k e) (head16 (hd_true h2')) 2 2 (by decide) (by decide)
        rw [← c1, ← c2, ← c3] at F3
        exact tclock_f2 g k _ _ _ _ _ _ _ _ _ _ _ _ _ _ _ _ bH bM bS w h (Lib.hid T1) (Lib.hid T2) (Lib.hid F1) (Lib.hid C1) (Lib.hid F2) (Lib.hid C2) (Lib.hid F3)

set_option maxHeartbeats 1000000 in
theorem tweekly_any (g : Nat) (s : ByteArray) (w : World) (h : Sk Ts w g (.string s) 1 0) (h1 : 1 ≤ s.size) (hs : s.size ≤ 100000) :
    Calls Try.prog 63 #[.pointer (some ⟨g, 0, none⟩)] w fun x w' =>
      x = .returned (.agg #[.int .i64 3, .int .i64 (wN1 s.data.toList), .int .i64 (wN3 s.data.toList), .int .i64 (wN5 s.data.toList), .int .i64 0]) ∧ Mv Ts g (.string s) (wK5 s.data.toList) (wE5 s.data.toList) w w' := by
  have hsz : s.data.toList.length = s.size := by simp
  obtain ⟨l, hl⟩ : ∃ l, l = s.data.toList := ⟨_, rfl⟩
  have G := fun k e (hk : k ≤ l.length) a b (ha : fits a) (hb : fits b) w h => figures_s g k e a b (.string s) s w h rfl (by rw [← hsz, ← hl]; exact hk) hs ha hb
  have M := fun k e (hk : k ≤ l.length) w h => must_s g k e (.string s) s ⟨#[46]⟩ w h rfl (by rw [← hsz, ← hl]; exact hk) hs (by decide)
  rw [← hl] at M G hsz ⊢
  obtain ⟨k1, k2, k3, k4, k5⟩ := wK2_le (l := l) (by omega)
  obtain ⟨b1, b3, b5⟩ := wN_bd l
  have F1 := G 1 0 (by omega) 1 2 (by decide) (by decide)
  have M1 := M (wK1 l) (wE1 l) k1
  have F2 := G (wK2 l) (wE2 l) k2 1 1 (by decide) (by decide)
  have M2 := M (wK3 l) (wE3 l) k3
  have F3 := G (wK4 l) (wE4 l) k4 1 1 (by decide) (by decide)
  rw [show (⟨#[46]⟩ : ByteArray).data.toList = [46] from rfl] at M1 M2
  rw [(mu_is l (wK1 l) (wE1 l)).1, (mu_is l (wK1 l) (wE1 l)).2] at M1
  rw [(mu_is l (wK3 l) (wE3 l)).1, (mu_is l (wK3 l) (wE3 l)).2] at M2
  exact tweekly_way g 1 _ _ _ _ _ 0 _ _ _ _ _ _ _ _ _ (w16 b1) (w16 b3) (w16 b5) w h (Lib.hid F1) (Lib.hid M1) (Lib.hid F2) (Lib.hid M2) (Lib.hid F3)
set_option maxHeartbeats 1000000 in
theorem tday_any (g : Nat) (s : ByteArray) (w : World) (h : Sk Ts w g (.string s) 0 0) (hs : s.size ≤ 100000) :
    Calls Try.prog 57 #[.pointer (some ⟨g, 0, none⟩)] w fun x w' =>
      x = .returned (.agg (tdR s.data.toList).cells) ∧ Mv Ts g (.string s) (tdk s.data.toList) (tde s.data.toList) w w' := by
  have hsz : s.data.toList.length = s.size := by simp
  obtain ⟨l, hl⟩ : ∃ l, l = s.data.toList := ⟨_, rfl⟩
  have T := fun k e (hk : k ≤ l.length) b w h => takes_s g k e (.string s) s b w h rfl (by rw [← hsz, ← hl]; exact hk) hs
  have G := fun k e (hk : k ≤ l.length) a b (ha : fits a) (hb : fits b) w h => figures_s g k e a b (.string s) s w h rfl (by rw [← hsz, ← hl]; exact hk) hs ha hb
  have HW := fun h1 w h => tweekly_any g s w h h1 hs
  rw [← hl] at T G HW hsz ⊢
  have T1 := T 0 0 (Nat.zero_le _) 77
  have T2 := T 0 0 (Nat.zero_le _) 74
  rw [show rs l 0 0 = l from rs_zero l 0] at T1 T2
  by_cases c : l.head? = some 77
  · have e1 : tdR l = ⟨3, wN1 l, wN3 l, wN5 l, 0⟩ := if_pos c
    have e2 : tdk l = wK5 l := if_pos c
    have e3 : tde l = wE5 l := if_pos c
    have hh := head_len c
    rw [e1, e2, e3]
    rw [if_pos c, c, show (some (77 : UInt8) == some 77) = true by simp] at T1
    exact tday_m g 0 _ _ 0 _ _ _ _ _ w h (Lib.hid T1) (Lib.hid (HW (by omega)))
  · rw [if_neg c, show (l.head? == some 77) = false by simpa using c] at T1
    by_cases d : l.head? = some 74
    · have e1 : tdR l = ⟨1, 0, 0, dN l 1, 0⟩ := by unfold tdR; rw [if_neg c, if_pos d]
      have e2 : tdk l = dK l 1 := by unfold tdk; rw [if_neg c, if_pos d]
      have e3 : tde l = dE l 1 := by unfold tde; rw [if_neg c, if_pos d]
      have hh := head_len d
      rw [e1, e2, e3]
      rw [if_pos d, d, show (some (74 : UInt8) == some 74) = true by simp] at T2
      exact tday_j g 0 _ _ _ 0 _ _ _ (w16 (dN_bd l 1)) w h (Lib.hid T1) (Lib.hid T2) (Lib.hid (G 1 0 hh 1 3 (by decide) (by decide)))
    · have e1 : tdR l = ⟨2, 0, 0, dN l 0, 0⟩ := by unfold tdR; rw [if_neg c, if_neg d]
      have e2 : tdk l = dK l 0 := by unfold tdk; rw [if_neg c, if_neg d]
      have e3 : tde l = dE l 0 := by unfold tde; rw [if_neg c, if_neg d]
      rw [e1, e2, e3]
      rw [if_neg d, show (l.head? == some 74) = false by simpa using d] at T2
      exact tday_c g 0 _ _ _ 0 _ _ _ (w16 (dN_bd l 0)) w h (Lib.hid T1) (Lib.hid T2) (Lib.hid (G 0 0 (Nat.zero_le _) 1 3 (by decide) (by decide)))
end Go.Proofs.Ytkhcneacjnpcnaa

namespace Go.Proofs.Ytkhcneacjnpcnaa
open Go.RowKit
set_option linter.unusedVariables false
set_option linter.unusedSimpArgs false

theorem below_dn16 {B : Nat} {a w : World} (h : Below B a w) (n : Nat) : Below B a (w.drewN n) := ⟨h.os, h.tape, h.output, h.size, h.block⟩
/-! ### how many days of a year are over -/
/-! ### Day, At -/
end Go.Proofs.Ytkhcneacjnpcnaa
