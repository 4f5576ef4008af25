/- join: the word of bytes; the document's Value, Number, Bytes. (Written by gen4.py.) -/
import Derived.Test.YtbffpallhofonaaOctB
import Derived.LoopTactic
import Derived.Laws.BitsAllLaws
namespace Go.Proofs.Ytbffpallhofonaa
open Go.RowKit Go.WideShapes Go.ChangeShapes
set_option linter.unusedVariables false

set_option maxRecDepth 100000 in
theorem or8 {n x : Nat} (hx : x < 256) (h : n * 256 + 255 < 18446744073709551616) : bits .or .u64 ((n : Int) * 256) (x : Int) = ((n * 256 + x : Nat) : Int) := by
  rw [show ((n : Int) * 256) = ((n * 256 : Nat) : Int) by simp, u64_or_nat _ _ (by omega) (by omega)]
  congr 1
  rw [show n * 256 = 2 ^ 8 * n by omega, ← Nat.two_pow_add_eq_or_of_lt (by omega : x < 2 ^ 8)]
set_option maxHeartbeats 800000 in
theorem join16_any (A : Option Addr) (l : List UInt8) (c : Nat) (w : World) (h : Rb w A l) (hl : l.length = 2) :
    Calls Try.prog 82 #[.slice A 2 c] w fun e w' => e = .returned (.int .u16 (ebv l : Nat)) ∧ w = w' := by
  obtain ⟨b, off, rfl, _, _⟩ := h.cell (i := 0) (by omega)
  have hv := ebv_lt l
  rw [hl] at hv
  have hcell : ∀ k (hk : k < l.length), w.cell? ⟨b, off + k, none⟩ = some (.int .u8 (l[k].toNat : Int)) := fun k hk => by
    obtain ⟨b', off', e, _, h3⟩ := h.cell hk
    injection e with e
    injection e with e1 e2
    subst e1; subst e2; exact h3
  have htk : ∀ k, k < 2 → ebv (l.take k) * 256 + 255 < 256 ^ 8 := fun k hk => Nat.lt_of_lt_of_le (ebv_take_lt (k := 2) hk (by omega)) (Nat.pow_le_pow_right (by decide) (by decide))
  have hall : ebv (l.take 2) = ebv l := by rw [← hl, List.take_length]
  have HV := Lib.hid hv; have HA := Lib.hid hall; have HL := Lib.hid hl
  clear h hv hall
  go_enter Try.func82, Try.ntmps82
  go_wp2
  go_loop [3, 5, 8] (fun r _ i => ∃ k : Nat, k ≤ 2 ∧ r = .int .u64 (ebv (l.take k) : Nat) ∧ i = .int .i64 k) (fun _ _ i => 2 - (intOf i).toNat)
  case atStart => exact ⟨0, Nat.zero_le _, rfl, rfl⟩
  case round =>
    obtain ⟨k, hk, rfl, rfl⟩ := hrel
    by_cases hlt : k < 2
    · have hc := hcell k (by omega)
      have HE := Lib.hid (ebv_step (l := l) (i := k) (by omega))
      have ht := htk k hlt
      have hb : l[k].toNat < 256 := l[k].toNat_lt
      clear hcell HV HA htk
      generalize l[k].toNat = x at *
      generalize ebv (l.take k) = n at *
      have ho := or8 hb (by omega : n * 256 + 255 < 18446744073709551616)
      have hw : IntKind.u64.wrap (x : Int) = (x : Int) := IntWalk.u64_in _ (by omega)
      go_wp2
      go_round
      case rel => exact ⟨k + 1, by omega, int_eq (by rw [HE.out]; omega), by go_num⟩
      case measure => simp [intOf]; omega
    · obtain rfl : k = 2 := by omega
      have hv2 := HV.out
      have ha2 := HA.out
      clear HV HA htk hcell
      rw [ha2]; clear ha2
      obtain ⟨n, hn⟩ : ∃ n, n = ebv l := ⟨_, rfl⟩
      rw [← hn] at hv2 ⊢
      have HN := Lib.hid hn; clear hn
      go_wp2
      go_ret
      exact ⟨ret1_eq (int_eq (by rw [HN.out])), rfl⟩
set_option maxHeartbeats 800000 in
theorem join32_any (A : Option Addr) (l : List UInt8) (c : Nat) (w : World) (h : Rb w A l) (hl : l.length = 4) :
    Calls Try.prog 81 #[.slice A 4 c] w fun e w' => e = .returned (.int .u32 (ebv l : Nat)) ∧ w = w' := by
  obtain ⟨b, off, rfl, _, _⟩ := h.cell (i := 0) (by omega)
  have hv := ebv_lt l
  rw [hl] at hv
  have hcell : ∀ k (hk : k < l.length), w.cell? ⟨b, off + k, none⟩ = some (.int .u8 (l[k].toNat : Int)) := fun k hk => by
    obtain ⟨b', off', e, _, h3⟩ := h.cell hk
    injection e with e
    injection e with e1 e2
    subst e1; subst e2; exact h3
  have htk : ∀ k, k < 4 → ebv (l.take k) * 256 + 255 < 256 ^ 8 := fun k hk => Nat.lt_of_lt_of_le (ebv_take_lt (k := 4) hk (by omega)) (Nat.pow_le_pow_right (by decide) (by decide))
  have hall : ebv (l.take 4) = ebv l := by rw [← hl, List.take_length]
  have HV := Lib.hid hv; have HA := Lib.hid hall; have HL := Lib.hid hl
  clear h hv hall
  go_enter Try.func81, Try.ntmps81
  go_wp2
  go_loop [3, 5, 8] (fun r _ i => ∃ k : Nat, k ≤ 4 ∧ r = .int .u64 (ebv (l.take k) : Nat) ∧ i = .int .i64 k) (fun _ _ i => 4 - (intOf i).toNat)
  case atStart => exact ⟨0, Nat.zero_le _, rfl, rfl⟩
  case round =>
    obtain ⟨k, hk, rfl, rfl⟩ := hrel
    by_cases hlt : k < 4
    · have hc := hcell k (by omega)
      have HE := Lib.hid (ebv_step (l := l) (i := k) (by omega))
      have ht := htk k hlt
      have hb : l[k].toNat < 256 := l[k].toNat_lt
      clear hcell HV HA htk
      generalize l[k].toNat = x at *
      generalize ebv (l.take k) = n at *
      have ho := or8 hb (by omega : n * 256 + 255 < 18446744073709551616)
      have hw : IntKind.u64.wrap (x : Int) = (x : Int) := IntWalk.u64_in _ (by omega)
      go_wp2
      go_round
      case rel => exact ⟨k + 1, by omega, int_eq (by rw [HE.out]; omega), by go_num⟩
      case measure => simp [intOf]; omega
    · obtain rfl : k = 4 := by omega
      have hv2 := HV.out
      have ha2 := HA.out
      clear HV HA htk hcell
      rw [ha2]; clear ha2
      obtain ⟨n, hn⟩ : ∃ n, n = ebv l := ⟨_, rfl⟩
      rw [← hn] at hv2 ⊢
      have HN := Lib.hid hn; clear hn
      go_wp2
      go_ret
      exact ⟨ret1_eq (int_eq (by rw [HN.out])), rfl⟩
theorem ovalue_any (A : Option Addr) (l : List UInt8) (c : Nat) (w : World) (h : Rb w A l) (hl : l.length ≤ 8) :
    Calls Try.prog 34 #[.slice A l.length c] w fun e w' => e = .returned (.int .u64 (ebv l : Nat)) ∧ w = w' := by
  have htk : ∀ k, k < l.length → ebv (l.take k) * 256 + 255 < 256 ^ 8 := fun k hk => ebv_take_lt (k := 8) (by omega) (by omega)
  have hcell : ∀ k (hk : k < l.length), ∃ b off, A = some ⟨b, off, none⟩ ∧ b < w.heap.size ∧ w.cell? ⟨b, off + k, none⟩ = some (.int .u8 (l[k].toNat : Int)) := fun k hk => h.cell hk
  clear h
  go_enter Try.func34, Try.ntmps34
  go_wp2
  go_loop [3, 4] (fun r i => ∃ k : Nat, k ≤ l.length ∧ r = .int .u64 (ebv (l.take k) : Nat) ∧ i = .int .i64 k) (fun _ i => l.length - (intOf i).toNat)
  case atStart => exact ⟨0, Nat.zero_le _, rfl, rfl⟩
  case round =>
    obtain ⟨k, hk, rfl, rfl⟩ := hrel
    by_cases hlt : k < l.length
    · obtain ⟨b, off, rfl, _, hc⟩ := hcell k hlt
      have HE := Lib.hid (ebv_step (l := l) (i := k) hlt)
      have ht := htk k hlt
      have hb : l[k].toNat < 256 := l[k].toNat_lt
      clear hcell htk
      generalize l[k].toNat = x at *
      generalize ebv (l.take k) = n at *
      have hw : IntKind.u64.wrap (x : Int) = (x : Int) := IntWalk.u64_in _ (by omega)
      go_wp2
      go_round
      case rel => exact ⟨k + 1, by omega, int_eq (by rw [HE.out]; omega), by go_num⟩
      case measure => simp [intOf]; omega
    · obtain rfl : k = l.length := by omega
      clear hcell htk
      go_wp2
      go_ret
      exact ⟨ret1_eq (int_eq rfl), rfl⟩

theorem nbytes_any (A B : Option Addr) (l m : List UInt8) (c d : Nat) (w : World) (h : Rb w A l) (hA : A = none → c = 0) (k : Rb w B m) (hB : B = none → d = 0) :
    Calls Try.prog 26 #[.slice A l.length c, .slice B m.length d] w fun e w' => e = .returned (.bool (decide (l = m))) ∧ w = w' := by
  have h1 := fun w' (e : w = w') => conv_bytes (P := Try.prog) (src := 56) (dst := 9) Try.underlying56 Try.underlying5 Try.underlying9 w' A l c (e ▸ h) hA
  have h2 := fun w' (e : w = w') => conv_bytes (P := Try.prog) (src := 56) (dst := 9) Try.underlying56 Try.underlying5 Try.underlying9 w' B m d (e ▸ k) hB
  have r1 := h1 w rfl
  have r2 := h2 w rfl
  clear h h1 h2 k
  have HD := Lib.hid (show (decide ((⟨l.toArray⟩ : ByteArray) = ⟨m.toArray⟩)) = decide (l = m) by
    rw [Bool.eq_iff_iff]; simp)
  go_enter Try.func26, Try.ntmps26
  go_wp2
  go_ret
  exact ⟨ret1_eq (bool_eq (by rw [Bool.eq_iff_iff]; simp)), rfl⟩

set_option maxHeartbeats 800000 in
theorem number_any (x k : Nat) (w : World) (hk : k ≤ 8) (hx : x < 18446744073709551616) :
    Calls Try.prog 28 #[.int .u64 (x : Int), .int .i64 (k : Int)] w fun e w' =>
      e = .returned (.slice (some ⟨w.heap.size, 0, none⟩) (be k x).length (be k x).length) ∧ Bk w' w.heap.size (be k x) ∧ Below w.heap.size w w' := by
  rw [be_len]
  have hmk := make_bytes k (by omega) w
  have hg : Bk (w.alloc (.cells (bc (List.replicate k 0)).toArray 5)) w.heap.size (List.replicate k 0) := heap_alloc_new w _
  have hb : Below w.heap.size w (w.alloc (.cells (bc (List.replicate k 0)).toArray 5)) := (Below.refl _ _).alloc (Nat.le_refl _) _
  generalize (w.alloc (.cells (bc (List.replicate k 0)).toArray 5)) = W1 at *
  have h0 : Bk W1 w.heap.size (splice (List.replicate k 0) k (be 0 x)) := by rw [show be 0 x = [] from rfl, splice_nil]; exact hg
  have HN := Lib.hid (List.length_replicate (n := k) (a := (0 : UInt8)))
  generalize List.replicate k (0 : UInt8) = Z at *
  have H0 := Lib.hid h0; have HB := Lib.hid hb
  generalize w.heap.size = g at *
  clear hg h0 hb
  go_enter Try.func28, Try.ntmps28
  go_wp2
  go_loopw [0, 6] (fun r i wr => ∃ j m : Nat, j + m = k ∧ r = .int .u64 (x / 256 ^ j : Nat) ∧ i = .int .i64 ((m : Int) - 1) ∧ Hid (Bk wr g (splice Z m (be j x))) ∧ Hid (Below g w wr)) (fun _ i _ => (intOf i + 1).toNat)
  case atStart => exact ⟨0, k, by omega, int_eq (by simp), rfl, H0, HB⟩
  case round =>
    obtain ⟨j, m, hjm, rfl, rfl, HK, HW⟩ := hrel
    clear H0 HB
    cases m with
    | zero =>
      obtain rfl : j = k := by omega
      go_wp2
      go_ret
      exact ⟨rfl, by rw [splice_all (by rw [HN.out, be_len])] at HK; exact HK.out, HW.out⟩
    | succ m =>
      have e1 : (((m + 1 : Nat) : Int) - 1) = (m : Int) := by omega
      rw [e1]; clear e1
      obtain ⟨r, hr⟩ : ∃ r, r = x / 256 ^ j := ⟨_, rfl⟩
      have hr1 : r < 18446744073709551616 := by rw [hr]; exact Nat.lt_of_le_of_lt (Nat.div_le_self _ _) (by omega)
      have hkb := HK.out
      rw [show m + 1 = 0 + (m + 1) by omega] at hkb
      have h2 := fill_step hkb (by rw [HN.out]; omega) hr
      obtain ⟨v, hv⟩ := fill_cell hkb (by rw [HN.out]; omega)
      have hf := hkb.free (0 + m)
      simp only [Nat.zero_add] at h2 hv hf
      have HB2 := Lib.hid h2
      have HW2 := Lib.hid (HW.out.setCell (p := ⟨g, m, none⟩) (Nat.le_refl _) (.int .u8 ((r : Int) % 256)))
      have HR2 : Hid (x / 256 ^ (j + 1) = r / 256) := by rw [pow_step, ← hr]; exact rfl
      rw [← hr]
      clear hr hkb h2
      go_wp2
      go_roundw
      case rel => exact ⟨j + 1, m, by omega, int_eq (by rw [HR2.out]; omega), by go_num, HB2, HW2⟩
      case measure => simp [intOf]
end Go.Proofs.Ytbffpallhofonaa
