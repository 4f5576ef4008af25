/- Merged: RefE. -/
import Derived.Test.YtjbbnlcghnjlfaaGGpsTexts45
namespace Go.Proofs.Ytjbbnlcghnjlfaa
open Go.RowKit
set_option linter.unusedVariables false

set_option maxRecDepth 100000 in
set_option maxHeartbeats 800000 in
theorem rwhole_any (s : ByteArray) (a b : Int) (w : World) (hs : s.size ≤ maxLen) (ha : fits a) (hb : fits b) :
    Calls Try.prog 34 #[.string s, .int .i64 a, .int .i64 b] w fun e w' =>
      e = .returned (.tuple #[.int .i64 (whN s.data.toList a b mx : Nat), .int .i64 (whE s.data.toList a b mx)]) ∧ Below w.heap.size w w' := by
  have HT := Lib.hid (rtake_any s a b w hs ha hb)
  have hsz : s.data.toList.length = s.size := by simp
  have hkl := tkK_le s.data.toList a b mx
  have hN0 : tkE s.data.toList a b mx ≠ 0 → tkN s.data.toList a b mx = 0 := fun h => (tk_no rfl h).1
  obtain ⟨N, hN⟩ : ∃ N, N = tkN s.data.toList a b mx := ⟨_, rfl⟩
  obtain ⟨K, hK⟩ : ∃ K, K = tkK s.data.toList a b mx := ⟨_, rfl⟩
  obtain ⟨E, hE⟩ : ∃ E, E = tkE s.data.toList a b mx := ⟨_, rfl⟩
  have HWE : RowKit.Hid (whE s.data.toList a b mx = if E = 0 then (if K < s.size then 2 else 0) else E) := by unfold whE; rw [← hE, ← hK, hsz]; exact rfl
  have HWN : RowKit.Hid (whN s.data.toList a b mx = if whE s.data.toList a b mx = 0 then N else 0) := by unfold whN; rw [← hN]; exact rfl
  rw [← hN, ← hK, ← hE] at HT
  rw [← hN, ← hE] at hN0
  rw [← hK, hsz] at hkl
  obtain ⟨x, hx⟩ : ∃ x, x = whE s.data.toList a b mx := ⟨_, rfl⟩
  rw [← hx] at HWE HWN ⊢
  obtain ⟨y, hy⟩ : ∃ y, y = whN s.data.toList a b mx := ⟨_, rfl⟩
  rw [← hy] at HWN ⊢
  clear hN hK hE hx hy hsz ha hb
  unfold maxLen at hs
  by_cases hz : E = 0
  · subst hz
    clear hN0
    by_cases hlt : K < s.size
    · have hX : x = 2 := by rw [HWE.out, if_pos rfl, if_pos hlt]
      have hY : y = 0 := by rw [HWN.out, hX]; rfl
      subst hX; subst hY
      clear HWE HWN
      go_enter Try.func34, Try.ntmps34
      go_wp2_with (go_at_call 64; refine HT.out.mono ?_; rintro e w1 ⟨rfl, hb1⟩; have B1 := Lib.hid hb1; clear hb1)
      go_ret2
      exact ⟨rfl, B1.out⟩
    · have hX : x = 0 := by rw [HWE.out, if_pos rfl, if_neg hlt]
      have hY : y = N := by rw [HWN.out, hX]; rfl
      subst hX; subst hY
      clear HWE HWN
      go_enter Try.func34, Try.ntmps34
      go_wp2_with (go_at_call 64; refine HT.out.mono ?_; rintro e w1 ⟨rfl, hb1⟩; have B1 := Lib.hid hb1; clear hb1)
      go_ret2
      exact ⟨rfl, B1.out⟩
  · have hX : x = E := by rw [HWE.out, if_neg hz]
    have hY : y = 0 := by rw [HWN.out, hX, if_neg hz]
    obtain rfl : N = 0 := hN0 hz
    subst hX; subst hY
    have hz' : (x == 0) = false := beq_eq_false_iff_ne.mpr hz
    clear HWE HWN hz hN0
    go_enter Try.func34, Try.ntmps34
    go_wp2_with (go_at_call 64; refine HT.out.mono ?_; rintro e w1 ⟨rfl, hb1⟩; have B1 := Lib.hid hb1; clear hb1)
    go_ret2
    exact ⟨rfl, B1.out⟩

/-! ### Signed -/
/-- The limit, by the sign; the number. -/
def lm (g : Bool) : Nat := if g then mxn else mx
end Go.Proofs.Ytjbbnlcghnjlfaa
