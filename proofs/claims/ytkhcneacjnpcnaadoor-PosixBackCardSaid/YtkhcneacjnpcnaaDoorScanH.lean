/- Scanners: Run, Until, New. (Written by gen2.py.) -/
import Derived.Test.YtkhcneacjnpcnaaDoorScanG
namespace Go.Proofs.YtkhcneacjnpcnaaDoor
open Go.RowKit
set_option linter.unusedVariables false

theorem box_cell (w : World) (v : Value) (T : TypeId) : (w.alloc (.cells #[v] T)).cell? ⟨w.heap.size, 0, none⟩ = some v := by
  have h := heap_alloc_new w (.cells #[v] T (0, 0))
  unfold World.cell?
  rw [h]; rfl
theorem of_string (w : World) (s : ByteArray) (hs : s.size ≤ 100000) : ∃ c w', (convert 9 95 (.string s)).run Tryd.prog w = .ok (.slice (some ⟨w.heap.size, 0, none⟩) s.size c) w' ∧
    Rb w' (some ⟨w.heap.size, 0, none⟩) s.data.toList ∧ s.size ≤ c ∧ c ≤ maxLen ∧ Below w.heap.size w w' ∧ w'.heap.size = w.heap.size + 1 := by
  refine ⟨_, _, run_bytes_of_string w _ _ 5 s Tryd.underlying9 Tryd.underlying95 Tryd.underlying5, ?_, grownCap_ge _ _ _ _, grownCap_le_maxLen _ _ _ _ (by unfold maxLen; omega), (Below.refl _ _).drew.alloc (Nat.le_refl _) _, by simp⟩
  generalize grownCap w s.size 0 5 = c
  refine ⟨fun z hz => ?_, .inr ⟨w.heap.size, 0, rfl, by simp, fun j z hj => ?_⟩⟩
  · obtain ⟨b, _, rfl⟩ := List.mem_map.1 hz
    have := b.toNat_lt
    simp [Lit.wf, IntKind.min, IntKind.max, IntKind.signed, IntKind.bits]
    omega
  · have hw : (w.drew.alloc (.cells (bytesRow s c) 5 ((bytesRow s c).size, (bytesRow s c).size + 1))).heap[w.heap.size]? = some (.cells (bytesRow s c) 5 ((bytesRow s c).size, (bytesRow s c).size + 1)) := heap_alloc_new w.drew _
    unfold World.cell?
    rw [hw]
    simp only [Nat.zero_add]
    unfold nums at hj
    rw [List.getElem?_map] at hj
    have hj' : (s.data[j]?).map (fun b : UInt8 => (b.toNat : Int)) = some z := by rw [← hj]; simp
    unfold bytesRow
    have hlt : j < s.data.size := by
      rcases Nat.lt_or_ge j s.data.size with h | h
      · exact h
      · rw [Array.getElem?_eq_none h] at hj'; cases hj'
    rw [Array.getElem?_append_left (by simpa using hlt), Array.getElem?_map]
    rw [Array.getElem?_eq_getElem hlt] at hj' ⊢
    simp at hj' ⊢
    exact hj'

set_option maxHeartbeats 800000 in
theorem run_s (g k : Nat) (e : Int) (v : Value) (s of : ByteArray) (w : World) (h : Sk Ts w g v k e) (ht : Txs w g v s) (hk : k ≤ s.size) (hs : s.size ≤ 100000) :
    Calls Tryd.prog 37 #[.pointer (some ⟨g, 0, none⟩), .string of] w fun x w' =>
      x = .returned (.string ⟨((rs s.data.toList k e).take (tw (inB of.data.toList) (rs s.data.toList k e))).toArray⟩) ∧ Mv Ts g v (k + tw (inB of.data.toList) (rs s.data.toList k e)) e w w' := by
  have hlt := h.lt
  have hB : (w.alloc (.cells #[.string of] 9)).cell? ⟨w.heap.size, 0, none⟩ = some (.string of) := box_cell w _ _
  have HW := whileRun_s w.heap.size (.string of) (inB of.data.toList) (fun c w1 h1 => run1_s of w.heap.size c w1 h1) g k e v s _ (h.alloc (.cells #[.string of] 9)) (ht.kept (gb_alloc (gb_refl _ _) _)) hk hs hB (by omega)
  have HWH := Lib.hid HW
  clear HW hB h ht hlt
  go_enter Tryd.func37, Tryd.ntmps37
  go_wp2_with (go_at_call 47; refine HWH.out.mono ?_; rintro x w' ⟨rfl, hm⟩; have HM := Lib.hid hm; clear hm)
  go_ret
  exact ⟨rfl, HM.out.1, (gb_alloc (gb_refl _ _) _).trans HM.out.2⟩
set_option maxHeartbeats 800000 in
theorem until_s (g k : Nat) (e : Int) (v : Value) (s : ByteArray) (c : UInt8) (w : World) (h : Sk Ts w g v k e) (ht : Txs w g v s) (hk : k ≤ s.size) (hs : s.size ≤ 100000) :
    Calls Tryd.prog 35 #[.pointer (some ⟨g, 0, none⟩), .int .u8 (c.toNat : Int)] w fun x w' =>
      x = .returned (.string ⟨((rs s.data.toList k e).take (tw (noB c) (rs s.data.toList k e))).toArray⟩) ∧ Mv Ts g v (k + tw (noB c) (rs s.data.toList k e)) e w w' := by
  have hlt := h.lt
  have hB : (w.alloc (.cells #[.int .u8 (c.toNat : Int)] 5)).cell? ⟨w.heap.size, 0, none⟩ = some (.int .u8 (c.toNat : Int)) := box_cell w _ _
  have HW := whileUntil_s w.heap.size (.int .u8 (c.toNat : Int)) (noB c) (fun b w1 h1 => until1_s c w.heap.size b w1 h1) g k e v s _ (h.alloc (.cells #[.int .u8 (c.toNat : Int)] 5)) (ht.kept (gb_alloc (gb_refl _ _) _)) hk hs hB (by omega)
  have HWH := Lib.hid HW
  clear HW hB h ht hlt
  go_enter Tryd.func35, Tryd.ntmps35
  go_wp2_with (go_at_call 47; refine HWH.out.mono ?_; rintro x w' ⟨rfl, hm⟩; have HM := Lib.hid hm; clear hm)
  go_ret
  exact ⟨rfl, HM.out.1, (gb_alloc (gb_refl _ _) _).trans HM.out.2⟩
theorem new_s (s : ByteArray) (w : World) :
    Calls Tryd.prog 15 #[.string s] w fun x w' => x = .returned (.pointer (some ⟨w.heap.size, 0, none⟩)) ∧ w' = w.alloc (.cells #[.string s, .int .i64 0, .nilIface] Ts) := by
  go_enter Tryd.func15, Tryd.ntmps15
  go_wp2
  go_ret
  exact ⟨rfl, rfl⟩
end Go.Proofs.YtkhcneacjnpcnaaDoor
