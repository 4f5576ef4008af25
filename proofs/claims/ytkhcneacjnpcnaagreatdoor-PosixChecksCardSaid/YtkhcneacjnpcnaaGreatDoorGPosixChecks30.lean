/- Merged: ScanH. -/
import Derived.Test.YtkhcneacjnpcnaaGreatDoorGPosixChecks22
namespace Go.Proofs.YtkhcneacjnpcnaaGreatDoor
open Go.RowKit
set_option linter.unusedVariables false

theorem box_cell (w : World) (v : Value) (T : TypeId) : (w.alloc (.cells #[v] T)).cell? ⟨w.heap.size, 0, none⟩ = some v := by
  have h := heap_alloc_new w (.cells #[v] T (0, 0))
  unfold World.cell?
  rw [h]; rfl
set_option maxHeartbeats 800000 in
theorem run_s (g k : Nat) (e : Int) (v : Value) (s of : ByteArray) (w : World) (h : Sk Ts w g v k e) (ht : Txs w g v s) (hk : k ≤ s.size) (hs : s.size ≤ 100000) :
    Calls Tryz.prog 54 #[.pointer (some ⟨g, 0, none⟩), .string of] w fun x w' =>
      x = .returned (.string ⟨((rs s.data.toList k e).take (tw (inB of.data.toList) (rs s.data.toList k e))).toArray⟩) ∧ Mv Ts g v (k + tw (inB of.data.toList) (rs s.data.toList k e)) e w w' := by
  have hlt := h.lt
  have hB : (w.alloc (.cells #[.string of] 9)).cell? ⟨w.heap.size, 0, none⟩ = some (.string of) := box_cell w _ _
  have HW := whileRun_s w.heap.size (.string of) (inB of.data.toList) (fun c w1 h1 => run1_s of w.heap.size c w1 h1) g k e v s _ (h.alloc (.cells #[.string of] 9)) (ht.kept (gb_alloc (gb_refl _ _) _)) hk hs hB (by omega)
  have HWH := Lib.hid HW
  clear HW hB h ht hlt
  go_enter Tryz.func54, Tryz.ntmps54
  go_wp2_with (go_at_call 62; refine HWH.out.mono ?_; rintro x w' ⟨rfl, hm⟩; have HM := Lib.hid hm; clear hm)
  go_ret
  exact ⟨rfl, HM.out.1, (gb_alloc (gb_refl _ _) _).trans HM.out.2⟩
set_option maxHeartbeats 800000 in
theorem until_s (g k : Nat) (e : Int) (v : Value) (s : ByteArray) (c : UInt8) (w : World) (h : Sk Ts w g v k e) (ht : Txs w g v s) (hk : k ≤ s.size) (hs : s.size ≤ 100000) :
    Calls Tryz.prog 52 #[.pointer (some ⟨g, 0, none⟩), .int .u8 (c.toNat : Int)] w fun x w' =>
      x = .returned (.string ⟨((rs s.data.toList k e).take (tw (noB c) (rs s.data.toList k e))).toArray⟩) ∧ Mv Ts g v (k + tw (noB c) (rs s.data.toList k e)) e w w' := by
  have hlt := h.lt
  have hB : (w.alloc (.cells #[.int .u8 (c.toNat : Int)] 5)).cell? ⟨w.heap.size, 0, none⟩ = some (.int .u8 (c.toNat : Int)) := box_cell w _ _
  have HW := whileUntil_s w.heap.size (.int .u8 (c.toNat : Int)) (noB c) (fun b w1 h1 => until1_s c w.heap.size b w1 h1) g k e v s _ (h.alloc (.cells #[.int .u8 (c.toNat : Int)] 5)) (ht.kept (gb_alloc (gb_refl _ _) _)) hk hs hB (by omega)
  have HWH := Lib.hid HW
  clear HW hB h ht hlt
  go_enter Tryz.func52, Tryz.ntmps52
  go_wp2_with (go_at_call 62; refine HWH.out.mono ?_; rintro x w' ⟨rfl, hm⟩; have HM := Lib.hid hm; clear hm)
  go_ret
  exact ⟨rfl, HM.out.1, (gb_alloc (gb_refl _ _) _).trans HM.out.2⟩
end Go.Proofs.YtkhcneacjnpcnaaGreatDoor
