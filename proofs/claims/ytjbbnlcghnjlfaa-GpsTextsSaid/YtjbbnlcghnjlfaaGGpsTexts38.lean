/- Merged: ScanD. -/
import Derived.Test.YtjbbnlcghnjlfaaGGpsTexts37
import Derived.IntWalk
namespace Go.Proofs.Ytjbbnlcghnjlfaa
open Go.RowKit
set_option linter.unusedVariables false

theorem ev_iface {b : Int} (h : b ≠ 0) : ev b = .iface 44 (.int .i64 b) := by unfold ev; rw [if_neg h]
/-- The first error stays. -/
def flE (e b : Int) : Int := if e = 0 then b else e
theorem fl_zero (b : Int) : flE 0 b = b := rfl
theorem fl_bad {e : Int} (b : Int) (h : e ≠ 0) : flE e b = e := by unfold flE; rw [if_neg h]
set_option maxHeartbeats 800000 in
theorem fail_s (g k : Nat) (e b : Int) (u v : Value) (w : World) (h : Sk Ts w g v k e) (hu : u = ev b) (hb : b ≠ 0) :
    Calls Try.prog 28 #[.pointer (some ⟨g, 0, none⟩), u] w fun x w' => x = .returned (.tuple #[]) ∧ Mv Ts g v k (flE e b) w w' := by
  have HT := Lib.hid (stopped_s g k e v w h)
  have HS := Lib.hid h
  subst hu
  by_cases h0 : e = 0
  · subst h0
    rw [fl_zero, ev_iface hb]
    have HB := Lib.hid hb; clear hb
    have hz : ((0 : Int) != 0) = false := rfl
    have c2 := h.c2
    have f2 := h.free 2
    clear h
    go_enter Try.func28, Try.ntmps28
    go_wp2_with (go_at_call 55; refine HT.out.mono ?_; rintro x w' ⟨rfl, rfl⟩)
    go_end0
    refine ⟨rfl, ?_, gb_set (gb_refl _ _) 2 _⟩
    rw [← ev_iface HB.out]
    exact HS.out.set2 b
  · rw [fl_bad b h0]
    have hz : (e != 0) = true := bne_iff_ne.mpr h0
    clear h h0 hb
    go_enter Try.func28, Try.ntmps28
    go_wp2_with (go_at_call 55; refine HT.out.mono ?_; rintro x w' ⟨rfl, rfl⟩)
    refine bodyPost_ret (results_none rfl _ _ _) rfl ?_
    exact ⟨rfl, HS.out, gb_refl _ _⟩
theorem Mv.then_s {g k k' : Nat} {e e' : Int} {v : Value} {w w1 w2 : World} (h : Mv Ts g v k e w w1) (h2 : Mv Ts g v k' e' w1 w2) : Mv Ts g v k' e' w w2 := ⟨h2.1, h.2.trans h2.2⟩

end Go.Proofs.Ytjbbnlcghnjlfaa
