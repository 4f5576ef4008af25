/- fill and join: words as bytes, and bytes as words. (Written by gen4.py, once for each size.) -/
import Derived.Test.YtbffpallhofonaaOctA
import Derived.LoopTactic
namespace Go.Proofs.Ytbffpallhofonaa
open Go.RowKit Go.WideShapes Go.ChangeShapes
set_option linter.unusedVariables false

theorem byte_nat (r : Nat) : ((UInt8.ofNat (r % 256)).toNat : Int) = (r : Int) % 256 := by simp
theorem pow_step (x j : Nat) : x / 256 ^ (j + 1) = x / 256 ^ j / 256 := by rw [Nat.pow_succ, Nat.div_div_eq_div_mul]
theorem grown_self (w : World) (g : Nat) : w.grownBy w (some g) := ⟨rfl, rfl, rfl, Nat.le_refl _, fun _ _ _ => rfl⟩
theorem grown_set {w wr : World} {g : Nat} (h : w.grownBy wr (some g)) (i : Nat) (v : Value) : w.grownBy (wr.setCell ⟨g, i, none⟩ v) (some g) :=
  ⟨h.os, h.tape, h.output, by simpa [World.setCell] using h.size, fun k hk hne => (Below.heap_setCell wr ⟨g, i, none⟩ v k (fun e => hne (by rw [e]))).trans (h.block k hk hne)⟩
/-- One byte more is laid ahead of those that lie. -/
theorem fill_step {wr : World} {g off j k x r : Nat} {L : List UInt8} (h : Bk wr g (splice L (off + (k + 1)) (be j x))) (hl : off + k + 1 + j ≤ L.length) (hr : r = x / 256 ^ j) :
    Bk (wr.setCell ⟨g, off + k, none⟩ (.int .u8 ((r : Int) % 256))) g (splice L (off + k) (be (j + 1) x)) := by
  have := h.set (off + k) (UInt8.ofNat (r % 256))
  rw [byte_nat, ← Nat.add_assoc, splice_cons _ (by rw [be_len]; omega)] at this
  rw [be, ← hr]; exact this
theorem fill_cell {wr : World} {g off j k x : Nat} {L : List UInt8} (h : Bk wr g (splice L (off + (k + 1)) (be j x))) (hl : off + k + 1 + j ≤ L.length) : ∃ v, wr.cell? ⟨g, off + k, none⟩ = some (.int .u8 v) := by
  have hlen : (splice L (off + (k + 1)) (be j x)).length = L.length := splice_len (by rw [be_len]; omega)
  exact ⟨_, h.cell (by rw [hlen]; omega)⟩
set_option maxHeartbeats 800000 in
theorem fill16_any (g off cap x : Nat) (L : List UInt8) (w : World) (h : Bk w g L) (hl : off + 2 ≤ L.length) (hx : x < 65536) :
    Calls Try.prog 68 #[.slice (some ⟨g, off, none⟩) 2 cap, .int .u16 x] w fun e w' => e = .returned (.tuple #[]) ∧ Bk w' g (splice L off (be 2 x)) ∧ w.grownBy w' (some g) := by
  have h0 : Bk w g (splice L (off + 2) (be 0 x)) := by rw [show be 0 x = [] from rfl, splice_nil]; exact h
  have H0 := Lib.hid h0; have HG := Lib.hid (grown_self w g)
  clear h h0
  go_enter Try.func68, Try.ntmps68
  go_wp2
  go_loopw [4, 10] (fun r i wr => ∃ j k : Nat, j + k = 2 ∧ r = .int .u64 (x / 256 ^ j : Nat) ∧ i = .int .i64 j ∧ Hid (Bk wr g (splice L (off + k) (be j x))) ∧ Hid (w.grownBy wr (some g))) (fun _ i _ => 2 - (intOf i).toNat)
  case atStart => exact ⟨0, 2, by omega, int_eq (by simp), rfl, H0, HG⟩
  case round =>
    obtain ⟨j, k, hjk, rfl, rfl, HB, HW⟩ := hrel
    clear H0 HG
    cases k with
    | zero =>
      obtain rfl : j = 2 := by omega
      go_wp2
      go_end0
      exact ⟨rfl, HB.out, HW.out⟩
    | succ k =>
      obtain ⟨r, hr⟩ : ∃ r, r = x / 256 ^ j := ⟨_, rfl⟩
      have hr1 : r < 18446744073709551616 := by rw [hr]; exact Nat.lt_of_le_of_lt (Nat.div_le_self _ _) (by omega)
      have HB2 := Lib.hid (fill_step HB.out (by omega) hr)
      obtain ⟨v, hv⟩ := fill_cell HB.out (by omega)
      have hf := HB.out.free (off + k)
      have HW2 := Lib.hid (grown_set HW.out (off + k) (.int .u8 ((r : Int) % 256)))
      have HR2 : Hid (x / 256 ^ (j + 1) = r / 256) := by rw [pow_step, ← hr]; exact rfl
      rw [← hr]
      clear hr
      have hk : (1 - (j : Int)).toNat = k := by omega
      have hlt : j < 2 := by omega
      go_wp2
      go_roundw
      case rel => exact ⟨j + 1, k, by omega, int_eq (by rw [HR2.out]; omega), by go_num, HB2, HW2⟩
      case measure => simp [intOf]; omega
set_option maxHeartbeats 800000 in
theorem fill32_any (g off cap x : Nat) (L : List UInt8) (w : World) (h : Bk w g L) (hl : off + 4 ≤ L.length) (hx : x < 4294967296) :
    Calls Try.prog 66 #[.slice (some ⟨g, off, none⟩) 4 cap, .int .u32 x] w fun e w' => e = .returned (.tuple #[]) ∧ Bk w' g (splice L off (be 4 x)) ∧ w.grownBy w' (some g) := by
  have h0 : Bk w g (splice L (off + 4) (be 0 x)) := by rw [show be 0 x = [] from rfl, splice_nil]; exact h
  have H0 := Lib.hid h0; have HG := Lib.hid (grown_self w g)
  clear h h0
  go_enter Try.func66, Try.ntmps66
  go_wp2
  go_loopw [4, 10] (fun r i wr => ∃ j k : Nat, j + k = 4 ∧ r = .int .u64 (x / 256 ^ j : Nat) ∧ i = .int .i64 j ∧ Hid (Bk wr g (splice L (off + k) (be j x))) ∧ Hid (w.grownBy wr (some g))) (fun _ i _ => 4 - (intOf i).toNat)
  case atStart => exact ⟨0, 4, by omega, int_eq (by simp), rfl, H0, HG⟩
  case round =>
    obtain ⟨j, k, hjk, rfl, rfl, HB, HW⟩ := hrel
    clear H0 HG
    cases k with
    | zero =>
      obtain rfl : j = 4 := by omega
      go_wp2
      go_end0
      exact ⟨rfl, HB.out, HW.out⟩
    | succ k =>
      obtain ⟨r, hr⟩ : ∃ r, r = x / 256 ^ j := ⟨_, rfl⟩
      have hr1 : r < 18446744073709551616 := by rw [hr]; exact Nat.lt_of_le_of_lt (Nat.div_le_self _ _) (by omega)
      have HB2 := Lib.hid (fill_step HB.out (by omega) hr)
      obtain ⟨v, hv⟩ := fill_cell HB.out (by omega)
      have hf := HB.out.free (off + k)
      have HW2 := Lib.hid (grown_set HW.out (off + k) (.int .u8 ((r : Int) % 256)))
      have HR2 : Hid (x / 256 ^ (j + 1) = r / 256) := by rw [pow_step, ← hr]; exact rfl
      rw [← hr]
      clear hr
      have hk : (3 - (j : Int)).toNat = k := by omega
      have hlt : j < 4 := by omega
      go_wp2
      go_roundw
      case rel => exact ⟨j + 1, k, by omega, int_eq (by rw [HR2.out]; omega), by go_num, HB2, HW2⟩
      case measure => simp [intOf]; omega
end Go.Proofs.Ytbffpallhofonaa
