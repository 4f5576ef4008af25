/- Merged: OctB, OctD, OctE, ShaR, ShaS. -/
import Derived.Test.YtiamggjebaabkaaGreatDoorGListPuts13
import Derived.LoopTactic
import Derived.Laws.BitsAllLaws
import Derived.Test.YtiamggjebaabkaaGreatDoorGListPuts4
import Derived.Test.YtiamggjebaabkaaGreatDoorGListPuts10
import Derived.Maps.AppendAt
import Derived.StillTailTactics
import Derived.Deep.DeepCutAuto
import Derived.Deep.CutRange
import Derived.Deep.CutBlock
import Derived.Deep.LoopGhost
import Derived.BigQuiet
namespace Go.Proofs.YtiamggjebaabkaaGreatDoor
open Go.RowKit Go.WideShapes Go.ChangeShapes
set_option linter.unusedVariables false

theorem byte_nat (r : Nat) : ((UInt8.ofNat (r % 256)).toNat : Int) = (r : Int) % 256 := by simp
theorem pow_step (x j : Nat) : x / 256 ^ (j + 1) = x / 256 ^ j / 256 := by rw [Nat.pow_succ, Nat.div_div_eq_div_mul]
theorem grown_self (w : World) (g : Nat) : w.grownBy w (some g) := ⟨rfl, rfl, rfl, Nat.le_refl _, fun _ _ _ => rfl⟩
theorem grown_set {w wr : World} {g : Nat} (h : w.grownBy wr (some g)) (i : Nat) (v : Value) : w.grownBy (wr.setCell ⟨g, i, none⟩ v) (some g) :=
  ⟨h.os, h.tape, h.output, by simpa [World.setCell] using h.size, fun k hk hne => (Below.heap_setCell wr ⟨g, i, none⟩ v k (fun e => hne (by rw [e]))).trans (h.block k hk hne)⟩
/-- One byte more is laid ahead of those that lie. -/
theorem fill_step {wr : World} {g off j k x r : Nat} {L : List UInt8} (h : Bk wr g (splice L (off + (k + 1)) (be j x))) (hl : off + k + 1 + j ≤ L.length) (hr : r = x / 256 ^ j) :
    Bk (wr.setCell ⟨g, off + k, none⟩ (.int .u8 ((r : Int) % 256))) g (splice L (off + k) (be (j + 1) x)) := by
  have := h.set (off + k) (UInt8.ofNat (r % 256))
  rw [byte_nat, ← Nat.add_assoc, splice_cons _ (by rw [be_len]; omega)] at this
  rw [be, ← hr]; exact this
theorem fill_cell {wr : World} {g off j k x : Nat} {L : List UInt8} (h : Bk wr g (splice L (off + (k + 1)) (be j x))) (hl : off + k + 1 + j ≤ L.length) : ∃ v, wr.cell? ⟨g, off + k, none⟩ = some (.int .u8 v) := by
  have hlen : (splice L (off + (k + 1)) (be j x)).length = L.length := splice_len (by rw [be_len]; omega)
  exact ⟨_, h.cell (by rw [hlen]; omega)⟩
set_option maxHeartbeats 800000 in
theorem fill32_any (g off cap x : Nat) (L : List UInt8) (w : World) (h : Bk w g L) (hl : off + 4 ≤ L.length) (hx : x < 4294967296) :
    Calls Tryz.prog 163 #[.slice (some ⟨g, off, none⟩) 4 cap, .int .u32 x] w fun e w' => e = .returned (.tuple #[]) ∧ Bk w' g (splice L off (be 4 x)) ∧ w.grownBy w' (some g) := by
  have h0 : Bk w g (splice L (off + 4) (be 0 x)) := by rw [show be 0 x = [] from rfl, splice_nil]; exact h
  have H0 := Lib.hid h0; have HG := Lib.hid (grown_self w g)
  clear h h0
  go_enter Tryz.func163, Tryz.ntmps163
  go_wp2
  go_loopw [4, 10] (fun r i wr => ∃ j k : Nat, j + k = 4 ∧ r = .int .u64 (x / 256 ^ j : Nat) ∧ i = .int .i64 j ∧ Hid (Bk wr g (splice L (off + k) (be j x))) ∧ Hid (w.grownBy wr (some g))) (fun _ i _ => 4 - (intOf i).toNat)
  case atStart => exact ⟨0, 4, by omega, int_eq (by simp), rfl, H0, HG⟩
  case round =>
    obtain ⟨j, k, hjk, rfl, rfl, HB, HW⟩ := hrel
    clear H0 HG
    cases k with
    | zero =>
      obtain rfl : j = 4 := by omega
      go_wp2
      go_end0
      exact ⟨rfl, HB.out, HW.out⟩
    | succ k =>
      obtain ⟨r, hr⟩ : ∃ r, r = x / 256 ^ j := ⟨_, rfl⟩
      have hr1 : r < 18446744073709551616 := by rw [hr]; exact Nat.lt_of_le_of_lt (Nat.div_le_self _ _) (by omega)
      have HB2 := Lib.hid (fill_step HB.out (by omega) hr)
      obtain ⟨v, hv⟩ := fill_cell HB.out (by omega)
      have hf := HB.out.free (off + k)
      have HW2 := Lib.hid (grown_set HW.out (off + k) (.int .u8 ((r : Int) % 256)))
      have HR2 : Hid (x / 256 ^ (j + 1) = r / 256) := by rw [pow_step, ← hr]; exact rfl
      rw [← hr]
      clear hr
      have hk : (3 - (j : Int)).toNat = k := by omega
      have hlt : j < 4 := by omega
      go_wp2
      go_roundw
      case rel => exact ⟨j + 1, k, by omega, int_eq (by rw [HR2.out]; omega), by go_num, HB2, HW2⟩
      case measure => simp [intOf]; omega
set_option maxHeartbeats 800000 in
theorem fill64_any (g off cap x : Nat) (L : List UInt8) (w : World) (h : Bk w g L) (hl : off + 8 ≤ L.length) (hx : x < 18446744073709551616) :
    Calls Tryz.prog 187 #[.slice (some ⟨g, off, none⟩) 8 cap, .int .u64 x] w fun e w' => e = .returned (.tuple #[]) ∧ Bk w' g (splice L off (be 8 x)) ∧ w.grownBy w' (some g) := by
  have h0 : Bk w g (splice L (off + 8) (be 0 x)) := by rw [show be 0 x = [] from rfl, splice_nil]; exact h
  have H0 := Lib.hid h0; have HG := Lib.hid (grown_self w g)
  clear h h0
  go_enter Tryz.func187, Tryz.ntmps187
  go_wp2
  go_loopw [4, 9] (fun r i wr => ∃ j k : Nat, j + k = 8 ∧ r = .int .u64 (x / 256 ^ j : Nat) ∧ i = .int .i64 j ∧ Hid (Bk wr g (splice L (off + k) (be j x))) ∧ Hid (w.grownBy wr (some g))) (fun _ i _ => 8 - (intOf i).toNat)
  case atStart => exact ⟨0, 8, by omega, int_eq (by simp), rfl, H0, HG⟩
  case round =>
    obtain ⟨j, k, hjk, rfl, rfl, HB, HW⟩ := hrel
    clear H0 HG
    cases k with
    | zero =>
      obtain rfl : j = 8 := by omega
      go_wp2
      go_end0
      exact ⟨rfl, HB.out, HW.out⟩
    | succ k =>
      obtain ⟨r, hr⟩ : ∃ r, r = x / 256 ^ j := ⟨_, rfl⟩
      have hr1 : r < 18446744073709551616 := by rw [hr]; exact Nat.lt_of_le_of_lt (Nat.div_le_self _ _) (by omega)
      have HB2 := Lib.hid (fill_step HB.out (by omega) hr)
      obtain ⟨v, hv⟩ := fill_cell HB.out (by omega)
      have hf := HB.out.free (off + k)
      have HW2 := Lib.hid (grown_set HW.out (off + k) (.int .u8 ((r : Int) % 256)))
      have HR2 : Hid (x / 256 ^ (j + 1) = r / 256) := by rw [pow_step, ← hr]; exact rfl
      rw [← hr]
      clear hr
      have hk : (7 - (j : Int)).toNat = k := by omega
      have hlt : j < 8 := by omega
      go_wp2
      go_roundw
      case rel => exact ⟨j + 1, k, by omega, int_eq (by rw [HR2.out]; omega), by go_num, HB2, HW2⟩
      case measure => simp [intOf]; omega
end Go.Proofs.YtiamggjebaabkaaGreatDoor

namespace Go.Proofs.YtiamggjebaabkaaGreatDoor
open Go.RowKit Go.WideShapes Go.ChangeShapes
set_option linter.unusedVariables false

set_option maxRecDepth 100000 in
theorem or8 {n x : Nat} (hx : x < 256) (h : n * 256 + 255 < 18446744073709551616) : bits .or .u64 ((n : Int) * 256) (x : Int) = ((n * 256 + x : Nat) : Int) := by
  rw [show ((n : Int) * 256) = ((n * 256 : Nat) : Int) by simp, u64_or_nat _ _ (by omega) (by omega)]
  congr 1
  rw [show n * 256 = 2 ^ 8 * n by omega, ← Nat.two_pow_add_eq_or_of_lt (by omega : x < 2 ^ 8)]
set_option maxHeartbeats 800000 in
theorem join32_any (A : Option Addr) (l : List UInt8) (c : Nat) (w : World) (h : Rb w A l) (hl : l.length = 4) :
    Calls Tryz.prog 207 #[.slice A 4 c] w fun e w' => e = .returned (.int .u32 (ebv l : Nat)) ∧ w = w' := by
  obtain ⟨b, off, rfl, _, _⟩ := h.cell (i := 0) (by omega)
  have hv := ebv_lt l
  rw [hl] at hv
  have hcell : ∀ k (hk : k < l.length), w.cell? ⟨b, off + k, none⟩ = some (.int .u8 (l[k].toNat : Int)) := fun k hk => by
    obtain ⟨b', off', e, _, h3⟩ := h.cell hk
    injection e with e
    injection e with e1 e2
    subst e1; subst e2; exact h3
  have htk : ∀ k, k < 4 → ebv (l.take k) * 256 + 255 < 256 ^ 8 := fun k hk => Nat.lt_of_lt_of_le (ebv_take_lt (k := 4) hk (by omega)) (Nat.pow_le_pow_right (by decide) (by decide))
  have hall : ebv (l.take 4) = ebv l := by rw [← hl, List.take_length]
  have HV := Lib.hid hv; have HA := Lib.hid hall; have HL := Lib.hid hl
  clear h hv hall
  go_enter Tryz.func207, Tryz.ntmps207
  go_wp2
  go_loop [3, 5, 8] (fun r _ i => ∃ k : Nat, k ≤ 4 ∧ r = .int .u64 (ebv (l.take k) : Nat) ∧ i = .int .i64 k) (fun _ _ i => 4 - (intOf i).toNat)
  case atStart => exact ⟨0, Nat.zero_le _, rfl, rfl⟩
  case round =>
    obtain ⟨k, hk, rfl, rfl⟩ := hrel
    by_cases hlt : k < 4
    · have hc := hcell k (by omega)
      have HE := Lib.hid (ebv_step (l := l) (i := k) (by omega))
      have ht := htk k hlt
      have hb : l[k].toNat < 256 := l[k].toNat_lt
      clear hcell HV HA htk
      generalize l[k].toNat = x at *
      generalize ebv (l.take k) = n at *
      have ho := or8 hb (by omega : n * 256 + 255 < 18446744073709551616)
      have hw : IntKind.u64.wrap (x : Int) = (x : Int) := IntWalk.u64_in _ (by omega)
      go_wp2
      go_round
      case rel => exact ⟨k + 1, by omega, int_eq (by rw [HE.out]; omega), by go_num⟩
      case measure => simp [intOf]; omega
    · obtain rfl : k = 4 := by omega
      have hv2 := HV.out
      have ha2 := HA.out
      clear HV HA htk hcell
      rw [ha2]; clear ha2
      obtain ⟨n, hn⟩ : ∃ n, n = ebv l := ⟨_, rfl⟩
      rw [← hn] at hv2 ⊢
      have HN := Lib.hid hn; clear hn
      go_wp2
      go_ret
      exact ⟨ret1_eq (int_eq (by rw [HN.out])), rfl⟩
theorem ovalue_any (A : Option Addr) (l : List UInt8) (c : Nat) (w : World) (h : Rb w A l) (hl : l.length ≤ 8) :
    Calls Tryz.prog 97 #[.slice A l.length c] w fun e w' => e = .returned (.int .u64 (ebv l : Nat)) ∧ w = w' := by
  have htk : ∀ k, k < l.length → ebv (l.take k) * 256 + 255 < 256 ^ 8 := fun k hk => ebv_take_lt (k := 8) (by omega) (by omega)
  have hcell : ∀ k (hk : k < l.length), ∃ b off, A = some ⟨b, off, none⟩ ∧ b < w.heap.size ∧ w.cell? ⟨b, off + k, none⟩ = some (.int .u8 (l[k].toNat : Int)) := fun k hk => h.cell hk
  clear h
  go_enter Tryz.func97, Tryz.ntmps97
  go_wp2
  go_loop [3, 4] (fun r i => ∃ k : Nat, k ≤ l.length ∧ r = .int .u64 (ebv (l.take k) : Nat) ∧ i = .int .i64 k) (fun _ i => l.length - (intOf i).toNat)
  case atStart => exact ⟨0, Nat.zero_le _, rfl, rfl⟩
  case round =>
    obtain ⟨k, hk, rfl, rfl⟩ := hrel
    by_cases hlt : k < l.length
    · obtain ⟨b, off, rfl, _, hc⟩ := hcell k hlt
      have HE := Lib.hid (ebv_step (l := l) (i := k) hlt)
      have ht := htk k hlt
      have hb : l[k].toNat < 256 := l[k].toNat_lt
      clear hcell htk
      generalize l[k].toNat = x at *
      generalize ebv (l.take k) = n at *
      have hw : IntKind.u64.wrap (x : Int) = (x : Int) := IntWalk.u64_in _ (by omega)
      go_wp2
      go_round
      case rel => exact ⟨k + 1, by omega, int_eq (by rw [HE.out]; omega), by go_num⟩
      case measure => simp [intOf]; omega
    · obtain rfl : k = l.length := by omega
      clear hcell htk
      go_wp2
      go_ret
      exact ⟨ret1_eq (int_eq rfl), rfl⟩

theorem nbytes_any (A B : Option Addr) (l m : List UInt8) (c d : Nat) (w : World) (h : Rb w A l) (hA : A = none → c = 0) (k : Rb w B m) (hB : B = none → d = 0) :
    Calls Tryz.prog 21 #[.slice A l.length c, .slice B m.length d] w fun e w' => e = .returned (.bool (decide (l = m))) ∧ w = w' := by
  have h1 := fun w' (e : w = w') => conv_bytes (P := Tryz.prog) (src := 59) (dst := 9) Tryz.underlying59 Tryz.underlying5 Tryz.underlying9 w' A l c (e ▸ h) hA
  have h2 := fun w' (e : w = w') => conv_bytes (P := Tryz.prog) (src := 59) (dst := 9) Tryz.underlying59 Tryz.underlying5 Tryz.underlying9 w' B m d (e ▸ k) hB
  have r1 := h1 w rfl
  have r2 := h2 w rfl
  clear h h1 h2 k
  have HD := Lib.hid (show (decide ((⟨l.toArray⟩ : ByteArray) = ⟨m.toArray⟩)) = decide (l = m) by
    rw [Bool.eq_iff_iff]; simp)
  go_enter Tryz.func21, Tryz.ntmps21
  go_wp2
  go_ret
  exact ⟨ret1_eq (bool_eq (by rw [Bool.eq_iff_iff]; simp)), rfl⟩

set_option maxHeartbeats 800000 in
theorem number_any (x k : Nat) (w : World) (hk : k ≤ 8) (hx : x < 18446744073709551616) :
    Calls Tryz.prog 49 #[.int .u64 (x : Int), .int .i64 (k : Int)] w fun e w' =>
      e = .returned (.slice (some ⟨w.heap.size, 0, none⟩) (be k x).length (be k x).length) ∧ Bk w' w.heap.size (be k x) ∧ Below w.heap.size w w' := by
  rw [be_len]
  have hmk := make_bytes k (by omega) w
  have hg : Bk (w.alloc (.cells (bc (List.replicate k 0)).toArray 5)) w.heap.size (List.replicate k 0) := heap_alloc_new w _
  have hb : Below w.heap.size w (w.alloc (.cells (bc (List.replicate k 0)).toArray 5)) := (Below.refl _ _).alloc (Nat.le_refl _) _
  generalize (w.alloc (.cells (bc (List.replicate k 0)).toArray 5)) = W1 at *
  have h0 : Bk W1 w.heap.size (splice (List.replicate k 0) k (be 0 x)) := by rw [show be 0 x = [] from rfl, splice_nil]; exact hg
  have HN := Lib.hid (List.length_replicate (n := k) (a := (0 : UInt8)))
  generalize List.replicate k (0 : UInt8) = Z at *
  have H0 := Lib.hid h0; have HB := Lib.hid hb
  generalize w.heap.size = g at *
  clear hg h0 hb
  go_enter Tryz.func49, Tryz.ntmps49
  go_wp2
  go_loopw [0, 6] (fun r i wr => ∃ j m : Nat, j + m = k ∧ r = .int .u64 (x / 256 ^ j : Nat) ∧ i = .int .i64 ((m : Int) - 1) ∧ Hid (Bk wr g (splice Z m (be j x))) ∧ Hid (Below g w wr)) (fun _ i _ => (intOf i + 1).toNat)
  case atStart => exact ⟨0, k, by omega, int_eq (by simp), rfl, H0, HB⟩
  case round =>
    obtain ⟨j, m, hjm, rfl, rfl, HK, HW⟩ := hrel
    clear H0 HB
    cases m with
    | zero =>
      obtain rfl : j = k := by omega
      go_wp2
      go_ret
      exact ⟨rfl, by rw [splice_all (by rw [HN.out, be_len])] at HK; exact HK.out, HW.out⟩
    | succ m =>
      have e1 : (((m + 1 : Nat) : Int) - 1) = (m : Int) := by omega
      rw [e1]; clear e1
      obtain ⟨r, hr⟩ : ∃ r, r = x / 256 ^ j := ⟨_, rfl⟩
      have hr1 : r < 18446744073709551616 := by rw [hr]; exact Nat.lt_of_le_of_lt (Nat.div_le_self _ _) (by omega)
      have hkb := HK.out
      rw [show m + 1 = 0 + (m + 1) by omega] at hkb
      have h2 := fill_step hkb (by rw [HN.out]; omega) hr
      obtain ⟨v, hv⟩ := fill_cell hkb (by rw [HN.out]; omega)
      have hf := hkb.free (0 + m)
      simp only [Nat.zero_add] at h2 hv hf
      have HB2 := Lib.hid h2
      have HW2 := Lib.hid (HW.out.setCell (p := ⟨g, m, none⟩) (Nat.le_refl _) (.int .u8 ((r : Int) % 256)))
      have HR2 : Hid (x / 256 ^ (j + 1) = r / 256) := by rw [pow_step, ← hr]; exact rfl
      rw [← hr]
      clear hr hkb h2
      go_wp2
      go_roundw
      case rel => exact ⟨j + 1, m, by omega, int_eq (by rw [HR2.out]; omega), by go_num, HB2, HW2⟩
      case measure => simp [intOf]
end Go.Proofs.YtiamggjebaabkaaGreatDoor

namespace Go.Proofs.YtiamggjebaabkaaGreatDoor
open Go.RowKit Go.WideShapes Go.ChangeShapes
set_option linter.unusedVariables false

theorem rm_zero {N S : Nat} {at_ many : Int} (h : rm N at_ many S = 0) : 0 ≤ at_ ∧ at_ ≤ N ∧ 0 ≤ many ∧ many ≤ (N - at_) / S := by
  unfold rm at h
  split at h
  · cases h
  · split at h
    · cases h
    · omega
end Go.Proofs.YtiamggjebaabkaaGreatDoor

namespace Go.Proofs.YtiamggjebaabkaaGreatDoor
open Go.RowKit
set_option linter.unusedVariables false

theorem turn1_any (x : BitVec 32) (w : World) : Calls Tryz.prog 98 #[.int .u32 (u x), .int .i64 1] w fun e w' => e = .returned (.int .u32 (u (rot x 1))) ∧ w = w' := by
  have r1 : IntKind.u32.wrap (u x * 2) = u (x <<< 1) := u_shl x 1
  have r2 : u x / (2147483648 : Int) = u (x >>> 31) := u_shr x 31
  have r3 := u_or (x <<< 1) (x >>> 31)
  rw [show x <<< 1 ||| x >>> 31 = rot x 1 from rfl] at r3
  generalize rot x 1 = r at *
  generalize x <<< 1 = y at *
  generalize x >>> 31 = z at *
  go_enter Tryz.func98, Tryz.ntmps98
  go_wp2
  go_ret
  exact ⟨rfl, rfl⟩
theorem turn5_any (x : BitVec 32) (w : World) : Calls Tryz.prog 98 #[.int .u32 (u x), .int .i64 5] w fun e w' => e = .returned (.int .u32 (u (rot x 5))) ∧ w = w' := by
  have r1 : IntKind.u32.wrap (u x * 32) = u (x <<< 5) := u_shl x 5
  have r2 : u x / (134217728 : Int) = u (x >>> 27) := u_shr x 27
  have r3 := u_or (x <<< 5) (x >>> 27)
  rw [show x <<< 5 ||| x >>> 27 = rot x 5 from rfl] at r3
  generalize rot x 5 = r at *
  generalize x <<< 5 = y at *
  generalize x >>> 27 = z at *
  go_enter Tryz.func98, Tryz.ntmps98
  go_wp2
  go_ret
  exact ⟨rfl, rfl⟩
theorem turn30_any (x : BitVec 32) (w : World) : Calls Tryz.prog 98 #[.int .u32 (u x), .int .i64 30] w fun e w' => e = .returned (.int .u32 (u (rot x 30))) ∧ w = w' := by
  have r1 : IntKind.u32.wrap (u x * 1073741824) = u (x <<< 30) := u_shl x 30
  have r2 : u x / (4 : Int) = u (x >>> 2) := u_shr x 2
  have r3 := u_or (x <<< 30) (x >>> 2)
  rw [show x <<< 30 ||| x >>> 2 = rot x 30 from rfl] at r3
  generalize rot x 30 = r at *
  generalize x <<< 30 = y at *
  generalize x >>> 2 = z at *
  go_enter Tryz.func98, Tryz.ntmps98
  go_wp2
  go_ret
  exact ⟨rfl, rfl⟩

end Go.Proofs.YtiamggjebaabkaaGreatDoor

namespace Go.Proofs.YtiamggjebaabkaaGreatDoor
open Go.RowKit Go.WideShapes Go.ChangeShapes
set_option linter.unusedVariables false

theorem info32 : (Tryz.prog.info? 35).map (fun i => (i.zero, i.size, i.bytes)) = some (some (.int .u32 0), 1, 4) := by kernel_rfl
theorem elw : El Tryz.prog 164 35 .u32 := el_mk Tryz.underlying164 info32 (by decide)
theorem u_wf (x : BitVec 32) : (Lit.int .u32 (u x)).wf = true := by
  have := u_lo x; have := u_hi x
  simp [Lit.wf, IntKind.min, IntKind.max, IntKind.signed, IntKind.bits]
  omega
/-- A row of words of the call's own. -/
def Wo (w : World) (base : Nat) (v : Value) (p : List (BitVec 32)) : Prop := Oz w base 35 .u32 v (p.map u)
theorem Wo.reads {w : World} {base : Nat} {v : Value} {p : List (BitVec 32)} (h : Wo w base v p) : ∃ A c, v = .slice A p.length c ∧ Rz .u32 w A (p.map u) ∧ (A = none → c = 0) ∧ p.length ≤ c ∧ c ≤ maxLen := by
  have := Oz.reads h (fun z hz => by obtain ⟨x, _, rfl⟩ := List.mem_map.mp hz; exact u_wf x)
  rwa [List.length_map] at this
/-- append of one word. -/
theorem app_word {ops : Array Oper} {rest : List Oper} {o : Oper} {a : Act} {Q : Exit → Act → World → Prop} {W : World} (s x : Operand) (base : Nat) (v : Value) (p : List (BitVec 32)) (d : Int) (y : BitVec 32)
    (hown : Wo W base v p) (hd : d = u y) (hlen : p.length ≤ 10000) (hbase : base ≤ W.heap.size)
    (hgd : o.guard = none) (ho : o.op = .call { callee := .builtin .append, args := #[s, x], argTypes := #[164, 164] })
    (hs : a.eval s = v) (hx : a.eval x = .slice (some ⟨W.heap.size, 0, none⟩) 1 1)
    (h : ∀ v' w', Wo w' base v' (p ++ [y]) → Below base W w' → wpList Tryz.prog ops Q rest (a.put o.dst v') w') :
    wpList Tryz.prog ops Q (o :: rest) a (W.alloc (.cells #[.int .u32 d] 35)) := by
  subst hd
  have hA : Below base W (W.alloc (.cells #[.int .u32 (u y)] 35)) := (Below.refl _ _).alloc hbase _
  refine app_list hgd s x 164 35 .u32 elw ho base v (p.map u) hs (Oz.below hown ((Below.refl _ _).alloc (Nat.le_refl _) _) (Nat.le_refl _)) (some ⟨W.heap.size, 0, none⟩) [u y] 1 hx
    ⟨fun z hz => by rw [List.mem_singleton.mp hz]; exact u_wf y, .inr ⟨W.heap.size, 0, rfl, by simp, fun j z hj => ?_⟩⟩ (fun e => by cases e) (by rw [List.length_map]; omega) (by simp) (by simp; omega) ?_
  · cases j with
    | zero =>
      obtain rfl : u y = z := by simpa using hj
      exact bk_cell (heap_alloc_new W _) 0
    | succ j => simp at hj
  · intro v' w' h1 h2
    exact h v' w' (by unfold Wo; rw [List.map_append]; exact h1) (hA.trans (h2.mono (Nat.le_refl _)))

/-- A row of words that isn't empty: its block. -/
theorem Wo.open_ {w : World} {base : Nat} {v : Value} {p : List (BitVec 32)} (h : Wo w base v p) (h0 : 0 < p.length) :
    ∃ b c, v = .slice (some ⟨b, 0, none⟩) p.length c ∧ base ≤ b ∧ b < w.heap.size ∧ (∀ i y, p[i]? = some y → w.cell? ⟨b, i, none⟩ = some (.int .u32 (u y))) ∧ p.length ≤ c ∧ c ≤ maxLen := by
  rcases h.2 with ⟨hv, hn⟩ | ⟨g, cap, cur, hv, hb, hh, hc, hm, _, _⟩
  · rw [List.length_map] at hn; omega
  · rw [List.length_map] at hv hc
    refine ⟨g, cap, hv, hb, bk_lt hh, fun i y hy => ?_, hc, hm⟩
    have := World.ownsRow.cells h (g := g) (by rw [hv]; rfl) i (.int .u32 (u y)) (by unfold cz; rw [List.getElem?_map, List.getElem?_map, hy]; rfl)
    rw [← this]
    unfold Addr.add
    by_cases h0 : i = 0
    · subst h0; rfl
    · simp [h0]
set_option maxRecDepth 100000 in
/-- append of one word; what the row held lies on. -/
theorem run_app_kept (w : World) (base : Nat) (ty : TypeId) (b c : Nat) (p : List (BitVec 32)) (hown : Wo w base (.slice (some ⟨b, 0, none⟩) p.length c) p)
    (g cc : Nat) (y : BitVec 32) (hy : w.cell? ⟨g, 0, none⟩ = some (.int .u32 (u y))) (hp : p.length ≤ 10000) (hbase : base ≤ w.heap.size) :
    ∃ v' w', (Builtin.append_ #[164, 164] ty #[.slice (some ⟨b, 0, none⟩) p.length c, .slice (some ⟨g, 0, none⟩) 1 cc]).run Tryz.prog w = .ok v' w' ∧ Wo w' base v' (p ++ [y]) ∧ Below base w w' ∧
      ∀ i z, p[i]? = some z → w'.cell? ⟨b, i, none⟩ = some (.int .u32 (u z)) := by
  obtain ⟨i, ht, hi, hz0, hz1, hz2⟩ := elw
  have hnews : ∀ j v, [Value.int .u32 (u y)][j]? = some v → w.cell? ((⟨g, 0, none⟩ : Addr).add j) = some v := fun j v hv => by
    cases j with
    | zero =>
      obtain rfl : Value.int .u32 (u y) = v := by simpa using hv
      exact hy
    | succ j => simp at hv
  have h1 : ∀ v ∈ [Value.int .u32 (u y)], v.oneCell' = true := fun v hv => by rw [List.mem_singleton.mp hv]; rfl
  have ha : ∀ (v : Nat) (j : Nat), (⟨v, 0, none⟩ : Addr).add j = ⟨v, j, none⟩ := fun v j => by rw [add_plain, Nat.zero_add]
  have hown0 := hown
  unfold Wo Oz at hown0
  rw [List.length_map] at hown0
  obtain ⟨v', w', hr, h2, h3, _, h5⟩ := run_append_own_at (P := Tryz.prog) w base 164 ty 35 i (.int .u32 0) 1 i.bytes ht hi hz0 hz1 rfl rfl (by decide) _ p.length (cz .u32 (p.map u)) hown0 ⟨g, 0, none⟩ 1 cc [.int .u32 (u y)] rfl hnews h1
    (by unfold maxLen; omega) (by have := Nat.mul_le_mul_left (p.length + 1) hz2; omega) hbase
  have hw : Wo w' base v' (p ++ [y]) := by
    unfold Wo Oz
    rw [List.length_map, List.length_append, List.map_append, cz_append]; exact h2
  have hbb : base ≤ b := by
    rcases hown0.2 with ⟨hv, _⟩ | ⟨g', cap, cur, hv, hb, _⟩
    · cases hv
    · injection hv with hv _; injection hv with hv; injection hv with hv; omega
  refine ⟨v', w', hr, hw, (Below.refl _ _).grown h3 hbase (fun g' hg' => (show b = g' by simpa [Value.ownBlock] using hg') ▸ hbb), fun j z hz => ?_⟩
  have hc : (cz .u32 (p.map u))[j]? = some (.int .u32 (u z)) := by unfold cz; rw [List.getElem?_map, List.getElem?_map, hz]; rfl
  rcases h5 with h5 | h5
  · have := World.ownsRow.cells h2 (g := b) (by rw [h5]; rfl) j (.int .u32 (u z)) (by rw [List.getElem?_append_left (List.getElem?_eq_some_iff.1 hc).1]; exact hc)
    rw [ha] at this; exact this
  · have hold := World.ownsRow.cells hown0 (g := b) rfl j _ hc
    rw [ha] at hold
    have hlt : b < w.heap.size := World.block_lt_of_cell? _ _ hold
    rcases hown0.2 with ⟨hv, _⟩ | ⟨g', cap, cur, hv, hb, hg, hnc, hcm, hcs, htake⟩
    · cases hv
    · injection hv with hv _ hv2
      injection hv with hv; injection hv with hv
      subst hv; subst hv2
      by_cases hroom : p.length + 1 ≤ c
      · have hr2 := run_append_room (P := Tryz.prog) w 164 ty 35 i ht hi b p.length c cur hg ⟨g, 0, none⟩ 1 cc [.int .u32 (u y)] (by simp [hz1]) hnews h1 hroom (by simp [hz1, hcs]; omega)
        rw [hr2] at hr
        injection hr with hr _
        rw [← hr] at h5
        simp [Value.ownBlock] at h5
        omega
      · have hr2 := run_append_grow (P := Tryz.prog) w 164 ty 35 i (.int .u32 0) ht hi hz0 ⟨b, 0, none⟩ p.length c (cz .u32 (p.map u)) (by simp [cz, hz1]) (World.ownsRow.cells hown0 rfl) ⟨g, 0, none⟩ 1 cc [.int .u32 (u y)] (by simp [hz1]) hnews (by omega) (by omega)
          (growslice_fits (by omega) (by have := Nat.mul_le_mul_left (p.length + 1) hz2; omega))
        rw [hr2] at hr
        injection hr with _ hr
        rw [← hr]
        have : ∀ o, (w.drew.alloc o).cell? ⟨b, j, none⟩ = w.cell? ⟨b, j, none⟩ := fun o => ((Below.refl w.heap.size w).drew.alloc (Nat.le_refl _) o).cell hlt
        rw [this]; exact hold
/-- The same as a step of a region that draws. -/
theorem app_step_w {ops : Array Oper} {o : Oper} {a : Act} {w : World} {K : Act → World → Prop} {Q : Exit → Act → World → Prop} {X : Prop} (s x : Operand) (base b c : Nat) (p : List (BitVec 32)) (hown : Wo w base (.slice (some ⟨b, 0, none⟩) p.length c) p)
    (g cc : Nat) (y : BitVec 32) (hy : w.cell? ⟨g, 0, none⟩ = some (.int .u32 (u y))) (hp : p.length ≤ 10000) (hbase : base ≤ w.heap.size)
    (hw : Region.wanted o (yielded ops a.tmps) = true) (ho : o.op = .call { callee := .builtin .append, args := #[s, x], argTypes := #[164, 164] }) (hs : a.eval s = .slice (some ⟨b, 0, none⟩) p.length c) (hx : a.eval x = .slice (some ⟨g, 0, none⟩) 1 cc)
    (h : ∀ v' w', Wo w' base v' (p ++ [y]) → Below base w w' → (∀ i z, p[i]? = some z → w'.cell? ⟨b, i, none⟩ = some (.int .u32 (u z))) → K (a.put o.dst v') w') :
    if Region.wanted o (yielded ops a.tmps) = true then Oper.wp Tryz.prog o a w K Q else X := by
  rw [if_pos hw]
  obtain ⟨v', w', hrun, h2, h3, h4⟩ := run_app_kept w base o.type b c p hown g cc y hy hp hbase
  unfold Oper.wp execOp
  simp only [ho, resolve, invoke, builtin, Sem.run_bind, Sem.run_pure, Result.andThen_ok, List.map_toArray, List.map_cons, List.map_nil, hs, hx, hrun]
  exact h v' w' h2 h3 h4

end Go.Proofs.YtiamggjebaabkaaGreatDoor
