/- The fixed fact; FiguresPuts. -/
import Derived.Test.YthlampneheoedaaDoorRefB
namespace Go.Proofs.YthlampneheoedaaDoor
open Go.RowKit
set_option linter.unusedVariables false

set_option maxRecDepth 100000 in
set_option maxHeartbeats 800000 in
theorem alive2 (w : World) (ht : Tab w) : Calls Tryd.prog 8 #[] w fun e w' => e = .returned (.bool true) ∧ Below w.heap.size w w' := by
  have hp := put_any 7 2 w (by decide) (by decide) ht
  rw [show ptL 7 2 = [48, 55] by decide +kernel, show ptE 2 = 0 by decide +kernel] at hp
  have hf := fun w => fraction_any ⟨#[48, 53]⟩ w (by decide)
  rw [show frN (⟨#[48, 53]⟩ : ByteArray).data.toList = 50000000 by decide +kernel, show frE (⟨#[48, 53]⟩ : ByteArray).data.toList = 0 by decide +kernel] at hf
  have HP := Lib.hid hp; have HF := Lib.hid hf
  clear hp hf ht
  go_enter Tryd.func8, Tryd.ntmps8
  go_wp2_with (first
    | (go_at_call 9; refine HP.out.mono ?_; rw [ev_zero]; rintro e w1 ⟨rfl, hb1⟩; have B1 := Lib.hid hb1; clear hb1)
    | (go_at_call 20; refine (HF.out _).mono ?_; rw [ev_zero]; rintro e w' ⟨rfl, rfl⟩))
  go_ret
  exact ⟨rfl, B1.out⟩

theorem wf_u8 {a : Int} (h : (Lit.int .u8 a).wf = true) : 0 ≤ a ∧ a ≤ 255 := by
  simp [Lit.wf, IntKind.min, IntKind.max, IntKind.signed, IntKind.bits] at h; omega
/-- The table's type. -/
theorem tabT : Tryd.prog.underlying 113 = some (.array 20 58) := Tryd.underlying113
theorem tabE : Tryd.prog.underlying 58 = some (.int .u64) := Tryd.underlying58
theorem ptE_lo (width : Int) : 0 ≤ ptE width ∧ ptE width < 100 := by unfold ptE; split <;> decide
set_option maxRecDepth 100000 in
set_option maxHeartbeats 800000 in
theorem puts_walk (n width : Int) (b : Nat) (w : World) (hn : fits n) (hw : fits width) (hb : b < 256) (ht : Tab w) :
    Calls Tryd.prog 3 #[.int .i64 n, .int .i64 width, .int .u8 b] w fun e w' => e = .returned (.bool true) ∧ Below w.heap.size w w' := by
  obtain ⟨c, rfl⟩ : ∃ c : UInt8, b = c.toNat := ⟨UInt8.ofNat b, by simp; omega⟩
  have HA := Lib.hid (alive2 w ht)
  have HP := fun w1 (h : Below w.heap.size w w1) => Lib.hid (put_any n width w1 hn hw (ht.below h))
  have HR := fun w1 => Lib.hid (rput_any n width w1 hn hw)
  have HE := Lib.hid (ptE_lo width)
  generalize ptL n width = L at *
  generalize ptE width = E at *
  clear ht hn hw hb
  go_enter Tryd.func3, Tryd.ntmps3
  go_wp2_with fail
  refine HA.out.mono ?_
  rintro e w1 ⟨rfl, hb1⟩
  have B1 := Lib.hid hb1; clear hb1
  go_wp2_with fail
  refine (HP _ B1.out).out.mono ?_
  rintro e w2 ⟨rfl, hb2⟩
  have B2 := Lib.hid (B1.out.trans (hb2.mono B1.out.size)); clear hb2 B1
  go_wp2_with fail
  refine (HR _).out.mono ?_
  rintro e w3 ⟨rfl, hb3⟩
  have B3 := Lib.hid (B2.out.trans (hb3.mono B2.out.size)); clear hb3 B2
  go_wp2_with (first
    | (go_at_call 11; refine (num_any _ _ HE.out.1 HE.out.2).mono ?_; rintro e w' ⟨rfl, rfl⟩)
    | (go_at_call 12; refine (figis_any _ _).mono ?_; rintro e w' ⟨rfl, rfl⟩)
    | (go_at_call 13; refine (ris_any _ _).mono ?_; rintro e w' ⟨rfl, rfl⟩))
  go_ret
  exact ⟨rfl, B3.out⟩
end Go.Proofs.YthlampneheoedaaDoor
