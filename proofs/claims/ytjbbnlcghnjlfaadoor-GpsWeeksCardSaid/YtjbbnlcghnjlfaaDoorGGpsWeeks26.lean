/- Merged: GpsB. -/
import Derived.Test.YtjbbnlcghnjlfaaDoorGGpsWeeks10
import Derived.Test.YtjbbnlcghnjlfaaDoorGGpsWeeks25
import Derived.Test.YtjbbnlcghnjlfaaDoorGGpsWeeks23
import Derived.Test.YtjbbnlcghnjlfaaDoorGGpsWeeks15
import Derived.Deep.LoopGhost
import Derived.Deep.DeepCutAuto
import Derived.Deep.CutRange
import Derived.Deep.CutBlock
import Derived.Test.YtjbbnlcghnjlfaaDoorGGpsWeeks17
import Derived.Laws.Concat
namespace Go.Proofs.YtjbbnlcghnjlfaaDoor
open Go.RowKit
set_option linter.unusedVariables false
set_option linter.unusedSimpArgs false

theorem gdigits_any (n k : Int) (w : World) (hn : fits n) (hk : fits k) (ht : Tab w) :
    Calls Tryd.prog 19 #[.int .i64 n, .int .i64 k] w fun e w' => e = .returned (.string ⟨(ptL n k).toArray⟩) ∧ Below w.heap.size w w' := by
  have hP := put_any n k w hn hk ht
  have HP := Lib.hid hP; clear hP ht
  generalize ptL n k = L at *
  generalize ptE k = E at *
  go_enter Tryd.func19, Tryd.ntmps19
  go_wp2_with fail
  refine HP.out.mono ?_
  rintro e w1 ⟨rfl, hb⟩
  have B1 := Lib.hid hb; clear hb
  go_wp2_with fail
  go_ret
  exact ⟨rfl, B1.out⟩
theorem sums14 (a b : List UInt8) (ha : a.length ≤ 100) (hb : b.length ≤ 100) : ∃ X1 : ByteArray,
    (∀ W, (Op.stringOp .add ⟨a.toArray⟩ ⟨#[58]⟩).run Tryd.prog W = .ok (.string X1) W) ∧ (∀ W, (Op.stringOp .add X1 ⟨b.toArray⟩).run Tryd.prog W = .ok (.string ⟨(a ++ [58] ++ b).toArray⟩) W) := by
  have e1 : (⟨#[58]⟩ : ByteArray) = ⟨([58] : List UInt8).toArray⟩ := rfl
  rw [e1]
  have f := fun (x y : List UInt8) (hx : x.length ≤ 1000) (hy : y.length ≤ 1000) W => run_string_add_lists (P := Tryd.prog) (w := W) x y (by omega) (by omega)
  refine ⟨⟨(a ++ [58]).toArray⟩, f _ _ ?_ ?_, f _ _ ?_ ?_⟩
  all_goals ((try simp only [List.length_append, List.length_cons, List.length_nil]); omega)
theorem ptL14_len {n : Int} (k : Int) (h : fits n) : (ptL n k).length ≤ 21 := by
  unfold fits at h
  have hu : n.natAbs < 10 ^ 19 := by
    have h : 9223372036854775808 < 10 ^ 19 := by decide
    omega
  have hl := dec_len (k := 19) (u := n.natAbs) (by decide) hu
  have hp := pad_len k.toNat (Lib.decDigits n.natAbs)
  unfold ptL
  split
  · simp
  · split
    · rw [List.length_cons]; omega
    · omega
/-- What Put answers. -/
def gtL (t : Int) : List UInt8 := if owE t = 0 then gpL (owN t) (owS t) else []
set_option maxRecDepth 100000 in
set_option maxHeartbeats 1000000 in
theorem gput_any (t : Int) (w : World) (ht : fits t) (hT : Tab w) :
    Calls Tryd.prog 7 #[.int .i64 t] w fun e w' => e = .returned (.tuple #[.string ⟨(gtL t).toArray⟩, ev (owE t)]) ∧ Below w.heap.size w w' := by
  have q0 := fun op t W x k => guard_ev op t W x k
  have q2 := fun W k => neq_ev W k
  have HO := Lib.hid (gof_any t w ht)
  by_cases c : owE t = 0
  · have e1 : gtL t = gpL (owN t) (owS t) := if_pos c
    rw [e1, c]
    rw [c] at HO
    have D1 := Lib.hid (fun w t' => gdigits_any (owN t) 4 w (owN_fits t) (by decide) t')
    have D2 := Lib.hid (fun w t' => gdigits_any (owS t) 6 w (owS_fits t) (by decide) t')
    have P : gpL (owN t) (owS t) = ptL (owN t) 4 ++ [58] ++ ptL (owS t) 6 := rfl
    have u1 := ptL14_len 4 (owN_fits t); have u2 := ptL14_len 6 (owS_fits t)
    obtain ⟨X1, A1, A2⟩ := sums14 (ptL (owN t) 4) (ptL (owS t) 6) (by omega) (by omega)
    rw [← P] at A2
    have hb := ow_bd t
    have r1 : IntKind.i64.wrap (owS t) = owS t := IntWalk.i64_in _ (by omega)
    clear P u1 u2 hb e1 c ht
    have T0 := Lib.hid hT
    clear hT
    generalize gpL (owN t) (owS t) = L at *
    generalize ptL (owN t) 4 = l1 at *
    generalize ptL (owS t) 6 = l2 at *
    generalize owN t = k at *
    generalize owS t = v at *
    go_enter Tryd.func7, Tryd.ntmps7
    go_wp2_with fail
    refine HO.out.mono ?_
    rintro e w1 ⟨rfl, rfl⟩
    go_wp2_with fail
    refine (D1.out _ T0.out).mono ?_
    rintro e w2 ⟨rfl, hb⟩
    have B2 := Lib.hid hb
    have T2 := Lib.hid (T0.out.below hb); clear hb
    go_wp2_with fail
    refine (D2.out _ T2.out).mono ?_
    rintro e w3 ⟨rfl, hb⟩
    have B3 := Lib.hid (B2.out.trans (hb.mono B2.out.size)); clear hb
    go_wp2_with fail
    go_ret2
    exact ⟨rfl, B3.out⟩
  · have e1 : gtL t = [] := if_neg c
    rw [e1]
    have d' : (owE t != 0) = true := bne_iff_ne.2 c
    generalize owE t = E at *
    generalize owN t = N at *
    generalize owS t = S at *
    clear c e1 ht hT
    go_enter Tryd.func7, Tryd.ntmps7
    go_wp2_with (go_at_call 6; refine HO.out.mono ?_; rintro e w' ⟨rfl, rfl⟩)
    go_ret2
    exact ⟨rfl, Below.refl _ _⟩
end Go.Proofs.YtjbbnlcghnjlfaaDoor
