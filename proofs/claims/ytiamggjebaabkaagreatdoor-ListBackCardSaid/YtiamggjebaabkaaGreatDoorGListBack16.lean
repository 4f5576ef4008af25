/- Merged: OctB, OctD, OctE, ShaS, ShaT, ShaV. -/
import Derived.Test.YtiamggjebaabkaaGreatDoorGListBack15
import Derived.LoopTactic
import Derived.Laws.BitsAllLaws
import Derived.Test.YtiamggjebaabkaaGreatDoorGListBack5
import Derived.Test.YtiamggjebaabkaaGreatDoorGListBack12
import Derived.Maps.AppendAt
import Derived.StillTailTactics
import Derived.Deep.DeepCutAuto
import Derived.Deep.CutRange
import Derived.Deep.CutBlock
import Derived.Deep.LoopGhost
import Derived.BigQuiet
namespace Go.Proofs.YtiamggjebaabkaaGreatDoor
open Go.RowKit Go.WideShapes Go.ChangeShapes
set_option linter.unusedVariables false

theorem byte_nat (r : Nat) : ((UInt8.ofNat (r % 256)).toNat : Int) = (r : Int) % 256 := by simp
theorem pow_step (x j : Nat) : x / 256 ^ (j + 1) = x / 256 ^ j / 256 := by rw [Nat.pow_succ, Nat.div_div_eq_div_mul]
theorem grown_self (w : World) (g : Nat) : w.grownBy w (some g) := ⟨rfl, rfl, rfl, Nat.le_refl _, fun _ _ _ => rfl⟩
theorem grown_set {w wr : World} {g : Nat} (h : w.grownBy wr (some g)) (i : Nat) (v : Value) : w.grownBy (wr.setCell ⟨g, i, none⟩ v) (some g) :=
  ⟨h.os, h.tape, h.output, by simpa [World.setCell] using h.size, fun k hk hne => (Below.heap_setCell wr ⟨g, i, none⟩ v k (fun e => hne (by rw [e]))).trans (h.block k hk hne)⟩
/-- One byte more is laid ahead of those that lie. -/
theorem fill_step {wr : World} {g off j k x r : Nat} {L : List UInt8} (h : Bk wr g (splice L (off + (k + 1)) (be j x))) (hl : off + k + 1 + j ≤ L.length) (hr : r = x / 256 ^ j) :
    Bk (wr.setCell ⟨g, off + k, none⟩ (.int .u8 ((r : Int) % 256))) g (splice L (off + k) (be (j + 1) x)) := by
  have := h.set (off + k) (UInt8.ofNat (r % 256))
  rw [byte_nat, ← Nat.add_assoc, splice_cons _ (by rw [be_len]; omega)] at this
  rw [be, ← hr]; exact this
theorem fill_cell {wr : World} {g off j k x : Nat} {L : List UInt8} (h : Bk wr g (splice L (off + (k + 1)) (be j x))) (hl : off + k + 1 + j ≤ L.length) : ∃ v, wr.cell? ⟨g, off + k, none⟩ = some (.int .u8 v) := by
  have hlen : (splice L (off + (k + 1)) (be j x)).length = L.length := splice_len (by rw [be_len]; omega)
  exact ⟨_, h.cell (by rw [hlen]; omega)⟩
set_option maxHeartbeats 800000 in
theorem fill32_any (g off cap x : Nat) (L : List UInt8) (w : World) (h : Bk w g L) (hl : off + 4 ≤ L.length) (hx : x < 4294967296) :
    Calls Tryz.prog 163 #[.slice (some ⟨g, off, none⟩) 4 cap, .int .u32 x] w fun e w' => e = .returned (.tuple #[]) ∧ Bk w' g (splice L off (be 4 x)) ∧ w.grownBy w' (some g) := by
  have h0 : Bk w g (splice L (off + 4) (be 0 x)) := by rw [show be 0 x = [] from rfl, splice_nil]; exact h
  have H0 := Lib.hid h0; have HG := Lib.hid (grown_self w g)
  clear h h0
  go_enter Tryz.func163, Tryz.ntmps163
  go_wp2
  go_loopw [4, 10] (fun r i wr => ∃ j k : Nat, j + k = 4 ∧ r = .int .u64 (x / 256 ^ j : Nat) ∧ i = .int .i64 j ∧ Hid (Bk wr g (splice L (off + k) (be j x))) ∧ Hid (w.grownBy wr (some g))) (fun _ i _ => 4 - (intOf i).toNat)
  case atStart => exact ⟨0, 4, by omega, int_eq (by simp), rfl, H0, HG⟩
  case round =>
    obtain ⟨j, k, hjk, rfl, rfl, HB, HW⟩ := hrel
    clear H0 HG
    cases k with
    | zero =>
      obtain rfl : j = 4 := by omega
      go_wp2
      go_end0
      exact ⟨rfl, HB.out, HW.out⟩
    | succ k =>
      obtain ⟨r, hr⟩ : ∃ r, r = x / 256 ^ j := ⟨_, rfl⟩
      have hr1 : r < 18446744073709551616 := by rw [hr]; exact Nat.lt_of_le_of_lt (Nat.div_le_self _ _) (by omega)
      have HB2 := Lib.hid (fill_step HB.out (by omega) hr)
      obtain ⟨v, hv⟩ := fill_cell HB.out (by omega)
      have hf := HB.out.free (off + k)
      have HW2 := Lib.hid (grown_set HW.out (off + k) (.int .u8 ((r : Int) % 256)))
      have HR2 : Hid (x / 256 ^ (j + 1) = r / 256) := by rw [pow_step, ← hr]; exact rfl
      rw [← hr]
      clear hr
      have hk : (3 - (j : Int)).toNat = k := by omega
      have hlt : j < 4 := by omega
      go_wp2
      go_roundw
      case rel => exact ⟨j + 1, k, by omega, int_eq (by rw [HR2.out]; omega), by go_num, HB2, HW2⟩
      case measure => simp [intOf]; omega
set_option maxHeartbeats 800000 in
theorem fill64_any (g off cap x : Nat) (L : List UInt8) (w : World) (h : Bk w g L) (hl : off + 8 ≤ L.length) (hx : x < 18446744073709551616) :
    Calls Tryz.prog 187 #[.slice (some ⟨g, off, none⟩) 8 cap, .int .u64 x] w fun e w' => e = .returned (.tuple #[]) ∧ Bk w' g (splice L off (be 8 x)) ∧ w.grownBy w' (some g) := by
  have h0 : Bk w g (splice L (off + 8) (be 0 x)) := by rw [show be 0 x = [] from rfl, splice_nil]; exact h
  have H0 := Lib.hid h0; have HG := Lib.hid (grown_self w g)
  clear h h0
  go_enter Tryz.func187, Tryz.ntmps187
  go_wp2
  go_loopw [4, 9] (fun r i wr => ∃ j k : Nat, j + k = 8 ∧ r = .int .u64 (x / 256 ^ j : Nat) ∧ i = .int .i64 j ∧ Hid (Bk wr g (splice L (off + k) (be j x))) ∧ Hid (w.grownBy wr (some g))) (fun _ i _ => 8 - (intOf i).toNat)
  case atStart => exact ⟨0, 8, by omega, int_eq (by simp), rfl, H0, HG⟩
  case round =>
    obtain ⟨j, k, hjk, rfl, rfl, HB, HW⟩ := hrel
    clear H0 HG
    cases k with
    | zero =>
      obtain rfl : j = 8 := by omega
      go_wp2
      go_end0
      exact ⟨rfl, HB.out, HW.out⟩
    | succ k =>
      obtain ⟨r, hr⟩ : ∃ r, r = x / 256 ^ j := ⟨_, rfl⟩
      have hr1 : r < 18446744073709551616 := by rw [hr]; exact Nat.lt_of_le_of_lt (Nat.div_le_self _ _) (by omega)
      have HB2 := Lib.hid (fill_step HB.out (by omega) hr)
      obtain ⟨v, hv⟩ := fill_cell HB.out (by omega)
      have hf := HB.out.free (off + k)
      have HW2 := Lib.hid (grown_set HW.out (off + k) (.int .u8 ((r : Int) % 256)))
      have HR2 : Hid (x / 256 ^ (j + 1) = r / 256) := by rw [pow_step, ← hr]; exact rfl
      rw [← hr]
      clear hr
      have hk : (7 - (j : Int)).toNat = k := by omega
      have hlt : j < 8 := by omega
      go_wp2
      go_roundw
      case rel => exact ⟨j + 1, k, by omega, int_eq (by rw [HR2.out]; omega), by go_num, HB2, HW2⟩
      case measure => simp [intOf]; omega
end Go.Proofs.YtiamggjebaabkaaGreatDoor

namespace Go.Proofs.YtiamggjebaabkaaGreatDoor
open Go.RowKit Go.WideShapes Go.ChangeShapes
set_option linter.unusedVariables false

set_option maxRecDepth 100000 in
theorem or8 {n x : Nat} (hx : x < 256) (h : n * 256 + 255 < 18446744073709551616) : bits .or .u64 ((n : Int) * 256) (x : Int) = ((n * 256 + x : Nat) : Int) := by
  rw [show ((n : Int) * 256) = ((n * 256 : Nat) : Int) by simp, u64_or_nat _ _ (by omega) (by omega)]
  congr 1
  rw [show n * 256 = 2 ^ 8 * n by omega, ← Nat.two_pow_add_eq_or_of_lt (by omega : x < 2 ^ 8)]
set_option maxHeartbeats 800000 in
theorem join32_any (A : Option Addr) (l : List UInt8) (c : Nat) (w : World) (h : Rb w A l) (hl : l.length = 4) :
    Calls Tryz.prog 207 #[.slice A 4 c] w fun e w' => e = .returned (.int .u32 (ebv l : Nat)) ∧ w = w' := by
  obtain ⟨b, off, rfl, _, _⟩ := h.cell (i := 0) (by omega)
  have hv := ebv_lt l
  rw [hl] at hv
  have hcell : ∀ k (hk : k < l.length), w.cell? ⟨b, off + k, none⟩ = some (.int .u8 (l[k].toNat : Int)) := fun k hk => by
    obtain ⟨b', off', e, _, h3⟩ := h.cell hk
    injection e with e
    injection e with e1 e2
    subst e1; subst e2; exact h3
  have htk : ∀ k, k < 4 → ebv (l.take k) * 256 + 255 < 256 ^ 8 := fun k hk => Nat.lt_of_lt_of_le (ebv_take_lt (k := 4) hk (by omega)) (Nat.pow_le_pow_right (by decide) (by decide))
  have hall : ebv (l.take 4) = ebv l := by rw [← hl, List.take_length]
  have HV := Lib.hid hv; have HA := Lib.hid hall; have HL := Lib.hid hl
  clear h hv hall
  go_enter Tryz.func207, Tryz.ntmps207
  go_wp2
  go_loop [3, 5, 8] (fun r _ i => ∃ k : Nat, k ≤ 4 ∧ r = .int .u64 (ebv (l.take k) : Nat) ∧ i = .int .i64 k) (fun _ _ i => 4 - (intOf i).toNat)
  case atStart => exact ⟨0, Nat.zero_le _, rfl, rfl⟩
  case round =>
    obtain ⟨k, hk, rfl, rfl⟩ := hrel
    by_cases hlt : k < 4
    · have hc := hcell k (by omega)
      have HE := Lib.hid (ebv_step (l := l) (i := k) (by omega))
      have ht := htk k hlt
      have hb : l[k].toNat < 256 := l[k].toNat_lt
      clear hcell HV HA htk
      generalize l[k].toNat = x at *
      generalize ebv (l.take k) = n at *
      have ho := or8 hb (by omega : n * 256 + 255 < 18446744073709551616)
      have hw : IntKind.u64.wrap (x : Int) = (x : Int) := IntWalk.u64_in _ (by omega)
      go_wp2
      go_round
      case rel => exact ⟨k + 1, by omega, int_eq (by rw [HE.out]; omega), by go_num⟩
      case measure => simp [intOf]; omega
    · obtain rfl : k = 4 := by omega
      have hv2 := HV.out
      have ha2 := HA.out
      clear HV HA htk hcell
      rw [ha2]; clear ha2
      obtain ⟨n, hn⟩ : ∃ n, n = ebv l := ⟨_, rfl⟩
      rw [← hn] at hv2 ⊢
      have HN := Lib.hid hn; clear hn
      go_wp2
      go_ret
      exact ⟨ret1_eq (int_eq (by rw [HN.out])), rfl⟩
end Go.Proofs.YtiamggjebaabkaaGreatDoor

namespace Go.Proofs.YtiamggjebaabkaaGreatDoor
open Go.RowKit Go.WideShapes Go.ChangeShapes
set_option linter.unusedVariables false

theorem rm_zero {N S : Nat} {at_ many : Int} (h : rm N at_ many S = 0) : 0 ≤ at_ ∧ at_ ≤ N ∧ 0 ≤ many ∧ many ≤ (N - at_) / S := by
  unfold rm at h
  split at h
  · cases h
  · split at h
    · cases h
    · omega
end Go.Proofs.YtiamggjebaabkaaGreatDoor

namespace Go.Proofs.YtiamggjebaabkaaGreatDoor
open Go.RowKit Go.WideShapes Go.ChangeShapes
set_option linter.unusedVariables false

theorem u_wf (x : BitVec 32) : (Lit.int .u32 (u x)).wf = true := by
  have := u_lo x; have := u_hi x
  simp [Lit.wf, IntKind.min, IntKind.max, IntKind.signed, IntKind.bits]
  omega
/-- A row of words of the call's own. -/
def Wo (w : World) (base : Nat) (v : Value) (p : List (BitVec 32)) : Prop := Oz w base 35 .u32 v (p.map u)
theorem Wo.reads {w : World} {base : Nat} {v : Value} {p : List (BitVec 32)} (h : Wo w base v p) : ∃ A c, v = .slice A p.length c ∧ Rz .u32 w A (p.map u) ∧ (A = none → c = 0) ∧ p.length ≤ c ∧ c ≤ maxLen := by
  have := Oz.reads h (fun z hz => by obtain ⟨x, _, rfl⟩ := List.mem_map.mp hz; exact u_wf x)
  rwa [List.length_map] at this
/-- A row of words that isn't empty: its block. -/
theorem Wo.open_ {w : World} {base : Nat} {v : Value} {p : List (BitVec 32)} (h : Wo w base v p) (h0 : 0 < p.length) :
    ∃ b c, v = .slice (some ⟨b, 0, none⟩) p.length c ∧ base ≤ b ∧ b < w.heap.size ∧ (∀ i y, p[i]? = some y → w.cell? ⟨b, i, none⟩ = some (.int .u32 (u y))) ∧ p.length ≤ c ∧ c ≤ maxLen := by
  rcases h.2 with ⟨hv, hn⟩ | ⟨g, cap, cur, hv, hb, hh, hc, hm, _, _⟩
  · rw [List.length_map] at hn; omega
  · rw [List.length_map] at hv hc
    refine ⟨g, cap, hv, hb, bk_lt hh, fun i y hy => ?_, hc, hm⟩
    have := World.ownsRow.cells h (g := g) (by rw [hv]; rfl) i (.int .u32 (u y)) (by unfold cz; rw [List.getElem?_map, List.getElem?_map, hy]; rfl)
    rw [← this]
    unfold Addr.add
    by_cases h0 : i = 0
    · subst h0; rfl
    · simp [h0]
end Go.Proofs.YtiamggjebaabkaaGreatDoor

namespace Go.Proofs.YtiamggjebaabkaaGreatDoor
open Go.RowKit
set_option linter.unusedVariables false

/-- A state's block. -/
def stv (s : St) : Array Value := #[.int .u32 (u s.a), .int .u32 (u s.b), .int .u32 (u s.c), .int .u32 (u s.d), .int .u32 (u s.e)]
def Sb (w : World) (p : Nat) (s : St) : Prop := w.heap[p]? = some (.cells (stv s) 36 (0, 0))
theorem Sb.lt {w : World} {p : Nat} {s : St} (h : Sb w p s) : p < w.heap.size := bk_lt h
theorem Sb.keep {w w' : World} {p : Nat} {s : St} (h : Sb w p s) (hb : Below w.heap.size w w') : Sb w' p s := (hb.block p h.lt).trans h
theorem Sb.all {w : World} {p : Nat} {s : St} (h : Sb w p s) : w.cell? ⟨p, 0, none⟩ = some (.int .u32 (u s.a)) ∧ w.cell? ⟨p, 1, none⟩ = some (.int .u32 (u s.b)) ∧ w.cell? ⟨p, 2, none⟩ = some (.int .u32 (u s.c)) ∧ w.cell? ⟨p, 3, none⟩ = some (.int .u32 (u s.d)) ∧ w.cell? ⟨p, 4, none⟩ = some (.int .u32 (u s.e)) :=
  ⟨bk_cell h 0, bk_cell h 1, bk_cell h 2, bk_cell h 3, bk_cell h 4⟩
theorem Sb.frees {w : World} {p : Nat} {s : St} (h : Sb w p s) : w.frozen? ⟨p, 0, none⟩ = false ∧ w.frozen? ⟨p, 1, none⟩ = false ∧ w.frozen? ⟨p, 2, none⟩ = false ∧ w.frozen? ⟨p, 3, none⟩ = false ∧ w.frozen? ⟨p, 4, none⟩ = false :=
  ⟨bk_free h 0, bk_free h 1, bk_free h 2, bk_free h 3, bk_free h 4⟩
theorem Sb.s0 {w : World} {p : Nat} {s : St} (h : Sb w p s) (v : BitVec 32) : Sb (w.setCell ⟨p, 0, none⟩ (.int .u32 (u v))) p ⟨v, s.b, s.c, s.d, s.e⟩ := by
  have e := bk_set h 0 (.int .u32 (u v))
  unfold Sb
  rw [e]; rfl
theorem Sb.s1 {w : World} {p : Nat} {s : St} (h : Sb w p s) (v : BitVec 32) : Sb (w.setCell ⟨p, 1, none⟩ (.int .u32 (u v))) p ⟨s.a, v, s.c, s.d, s.e⟩ := by
  have e := bk_set h 1 (.int .u32 (u v))
  unfold Sb
  rw [e]; rfl
theorem Sb.s2 {w : World} {p : Nat} {s : St} (h : Sb w p s) (v : BitVec 32) : Sb (w.setCell ⟨p, 2, none⟩ (.int .u32 (u v))) p ⟨s.a, s.b, v, s.d, s.e⟩ := by
  have e := bk_set h 2 (.int .u32 (u v))
  unfold Sb
  rw [e]; rfl
theorem Sb.s3 {w : World} {p : Nat} {s : St} (h : Sb w p s) (v : BitVec 32) : Sb (w.setCell ⟨p, 3, none⟩ (.int .u32 (u v))) p ⟨s.a, s.b, s.c, v, s.e⟩ := by
  have e := bk_set h 3 (.int .u32 (u v))
  unfold Sb
  rw [e]; rfl
theorem Sb.s4 {w : World} {p : Nat} {s : St} (h : Sb w p s) (v : BitVec 32) : Sb (w.setCell ⟨p, 4, none⟩ (.int .u32 (u v))) p ⟨s.a, s.b, s.c, s.d, v⟩ := by
  have e := bk_set h 4 (.int .u32 (u v))
  unfold Sb
  rw [e]; rfl
/-- A state stored. -/
abbrev put5 (W : World) (q : Nat) (s : St) : World := ((((W.setCell ⟨q, 0, none⟩ (.int .u32 (u s.a))).setCell ⟨q, 1, none⟩ (.int .u32 (u s.b))).setCell ⟨q, 2, none⟩ (.int .u32 (u s.c))).setCell ⟨q, 3, none⟩ (.int .u32 (u s.d))).setCell ⟨q, 4, none⟩ (.int .u32 (u s.e))
theorem put5_sb {W : World} {q : Nat} {l : St} (g : Sb W q l) (s : St) : Sb (put5 W q s) q s := ((((g.s0 s.a).s1 s.b).s2 s.c).s3 s.d).s4 s.e
theorem put5_below {B : Nat} {w W : World} {q : Nat} (b : Below B w W) (hq : B ≤ q) (s : St) : Below B w (put5 W q s) := ((((b.setCell hq _).setCell hq _).setCell hq _).setCell hq _).setCell hq _
def zs5 : St := ⟨0, 0, 0, 0, 0⟩
end Go.Proofs.YtiamggjebaabkaaGreatDoor

namespace Go.Proofs.YtiamggjebaabkaaGreatDoor
open Go.RowKit
set_option linter.unusedVariables false

theorem rotl1_any (x : BitVec 32) (w : World) : Calls Tryz.prog 128 #[.int .u32 (u x), .int .i64 1] w fun e w' => e = .returned (.int .u32 (u (rot x 1))) ∧ w = w' := by
  have r1 : IntKind.u32.wrap (u x * 2) = u (x <<< 1) := u_shl x 1
  have r2 : u x / (2147483648 : Int) = u (x >>> 31) := u_shr x 31
  have r3 := u_or (x <<< 1) (x >>> 31)
  have r0 : bits .and .u64 1 31 = 1 := by decide +kernel
  rw [show x <<< 1 ||| x >>> 31 = rot x 1 from rfl] at r3
  generalize rot x 1 = r at *
  generalize x <<< 1 = y at *
  generalize x >>> 31 = z at *
  go_enter Tryz.func128, Tryz.ntmps128
  go_wp2
  go_ret
  exact ⟨rfl, rfl⟩
theorem rotl5_any (x : BitVec 32) (w : World) : Calls Tryz.prog 128 #[.int .u32 (u x), .int .i64 5] w fun e w' => e = .returned (.int .u32 (u (rot x 5))) ∧ w = w' := by
  have r1 : IntKind.u32.wrap (u x * 32) = u (x <<< 5) := u_shl x 5
  have r2 : u x / (134217728 : Int) = u (x >>> 27) := u_shr x 27
  have r3 := u_or (x <<< 5) (x >>> 27)
  have r0 : bits .and .u64 5 31 = 5 := by decide +kernel
  rw [show x <<< 5 ||| x >>> 27 = rot x 5 from rfl] at r3
  generalize rot x 5 = r at *
  generalize x <<< 5 = y at *
  generalize x >>> 27 = z at *
  go_enter Tryz.func128, Tryz.ntmps128
  go_wp2
  go_ret
  exact ⟨rfl, rfl⟩
theorem rotl30_any (x : BitVec 32) (w : World) : Calls Tryz.prog 128 #[.int .u32 (u x), .int .i64 30] w fun e w' => e = .returned (.int .u32 (u (rot x 30))) ∧ w = w' := by
  have r1 : IntKind.u32.wrap (u x * 1073741824) = u (x <<< 30) := u_shl x 30
  have r2 : u x / (4 : Int) = u (x >>> 2) := u_shr x 2
  have r3 := u_or (x <<< 30) (x >>> 2)
  have r0 : bits .and .u64 30 31 = 30 := by decide +kernel
  rw [show x <<< 30 ||| x >>> 2 = rot x 30 from rfl] at r3
  generalize rot x 30 = r at *
  generalize x <<< 30 = y at *
  generalize x >>> 2 = z at *
  go_enter Tryz.func128, Tryz.ntmps128
  go_wp2
  go_ret
  exact ⟨rfl, rfl⟩

theorem ff0 {t : Nat} (h : t ≤ 19) (b c d : BitVec 32) : ff t b c d = (b &&& c) ||| (~~~b &&& d) ∧ kk t = 0x5a827999#32 := by unfold ff kk; rw [if_pos h, if_pos h]; exact ⟨rfl, rfl⟩
theorem ff1 {t : Nat} (h0 : ¬ t ≤ 19) (h : t ≤ 39) (b c d : BitVec 32) : ff t b c d = b ^^^ c ^^^ d ∧ kk t = 0x6ed9eba1#32 := by unfold ff kk; rw [if_neg h0, if_neg h0, if_pos h, if_pos h]; exact ⟨rfl, rfl⟩
theorem ff2 {t : Nat} (h0 : ¬ t ≤ 39) (h : t ≤ 59) (b c d : BitVec 32) : ff t b c d = (b &&& c) ||| (b &&& d) ||| (c &&& d) ∧ kk t = 0x8f1bbcdc#32 := by
  have h1 : ¬ t ≤ 19 := by omega
  unfold ff kk; simp only [if_neg h1, if_neg h0, if_pos h]; exact ⟨trivial, trivial⟩
theorem ff3 {t : Nat} (h0 : ¬ t ≤ 59) (b c d : BitVec 32) : ff t b c d = b ^^^ c ^^^ d ∧ kk t = 0xca62c1d6#32 := by
  have h1 : ¬ t ≤ 19 := by omega
  have h2 : ¬ t ≤ 39 := by omega
  unfold ff kk; simp only [if_neg h1, if_neg h2, if_neg h0]; exact ⟨trivial, trivial⟩

set_option maxRecDepth 100000 in
theorem mixed_any (t : Nat) (b c d : BitVec 32) (w : World) (ht : t < 80) :
    Calls Tryz.prog 127 #[.int .i64 (t : Int), .int .u32 (u b), .int .u32 (u c), .int .u32 (u d)] w fun e w' => e = .returned (.tuple #[.int .u32 (u (ff t b c d)), .int .u32 (u (kk t))]) ∧ w = w' := by
  by_cases h0 : t ≤ 19
  · skip
    obtain ⟨e1, e2⟩ := ff0 h0 b c d
    have E1 := Lib.hid (congrArg u e1); have E2 := Lib.hid (congrArg u e2)
    have e : (t : Int) / 20 = 0 := by omega
    clear e1 e2 h0
    have r1 := u_and b c
    have r2 : bits .xor .u32 IntKind.u32.max (u b) = u (~~~b) := u_not b
    have r3 := u_and (~~~b) d
    have r4 := u_or (b &&& c) (~~~b &&& d)
    generalize u (b &&& c ||| ~~~b &&& d) = y at *
    generalize u (b &&& c) = x1 at *
    generalize u (~~~b &&& d) = x2 at *
    generalize u (~~~b) = x3 at *
    go_enter Tryz.func127, Tryz.ntmps127
    go_wp2
    refine bodyPost_ret (results_tmp2 rfl _ _ _) rfl ?_
    rw [E1.out, E2.out]
    exact ⟨rfl, rfl⟩
  · by_cases h1 : t ≤ 39
    · skip
      obtain ⟨e1, e2⟩ := ff1 h0 h1 b c d
      have E1 := Lib.hid (congrArg u e1); have E2 := Lib.hid (congrArg u e2)
      have e : (t : Int) / 20 = 1 := by omega
      clear e1 e2 h0 h1
      have r1 := u_xor b c
      have r2 := u_xor (b ^^^ c) d
      generalize u (b ^^^ c ^^^ d) = y at *
      generalize u (b ^^^ c) = x1 at *
      go_enter Tryz.func127, Tryz.ntmps127
      go_wp2
      refine bodyPost_ret (results_tmp2 rfl _ _ _) rfl ?_
      rw [E1.out, E2.out]
      exact ⟨rfl, rfl⟩
    · by_cases h2 : t ≤ 59
      · skip
        obtain ⟨e1, e2⟩ := ff2 h1 h2 b c d
        have E1 := Lib.hid (congrArg u e1); have E2 := Lib.hid (congrArg u e2)
        have e : (t : Int) / 20 = 2 := by omega
        clear e1 e2 h0 h1 h2
        have r1 := u_and b c
        have r2 := u_and b d
        have r3 := u_or (b &&& c) (b &&& d)
        have r4 := u_and c d
        have r5 := u_or (b &&& c ||| b &&& d) (c &&& d)
        generalize u (b &&& c ||| b &&& d ||| c &&& d) = y at *
        generalize u (b &&& c ||| b &&& d) = x1 at *
        generalize u (b &&& c) = x2 at *
        generalize u (b &&& d) = x3 at *
        generalize u (c &&& d) = x4 at *
        go_enter Tryz.func127, Tryz.ntmps127
        go_wp2
        refine bodyPost_ret (results_tmp2 rfl _ _ _) rfl ?_
        rw [E1.out, E2.out]
        exact ⟨rfl, rfl⟩
      · skip
        obtain ⟨e1, e2⟩ := ff3 h2 b c d
        have E1 := Lib.hid (congrArg u e1); have E2 := Lib.hid (congrArg u e2)
        have e : (t : Int) / 20 = 3 := by omega
        clear e1 e2 h0 h1 h2
        have r1 := u_xor b c
        have r2 := u_xor (b ^^^ c) d
        generalize u (b ^^^ c ^^^ d) = y at *
        generalize u (b ^^^ c) = x1 at *
        go_enter Tryz.func127, Tryz.ntmps127
        go_wp2
        refine bodyPost_ret (results_tmp2 rfl _ _ _) rfl ?_
        rw [E1.out, E2.out]
        exact ⟨rfl, rfl⟩

/-- How many blocks, of any number. -/
def pbI (n : Int) : Int := if n < 0 then 0 else (n / 64) + (if 55 < n % 64 then 2 else 1)
theorem pbI_nat (n : Nat) : pbI n = ((pb n : Nat) : Int) := by
  unfold pbI pb
  rw [if_neg (by omega)]
  split <;> omega
theorem blocks_any (n : Int) (w : World) (hn : fits n) : Calls Tryz.prog 157 #[.int .i64 n] w fun e w' => e = .returned (.int .i64 (pbI n)) ∧ w = w' := by
  unfold fits at hn
  by_cases h0 : n < 0
  · have E := Lib.hid (show pbI n = 0 by unfold pbI; rw [if_pos h0])
    go_enter Tryz.func157, Tryz.ntmps157
    go_wp2
    go_ret
    rw [E.out]
    exact ⟨rfl, rfl⟩
  · by_cases h1 : 55 < n % 64
    · have E := Lib.hid (show pbI n = n / 64 + 2 by unfold pbI; rw [if_neg h0, if_pos h1])
      go_enter Tryz.func157, Tryz.ntmps157
      go_wp2
      go_ret
      rw [E.out]
      exact ⟨rfl, rfl⟩
    · have E := Lib.hid (show pbI n = n / 64 + 1 by unfold pbI; rw [if_neg h0, if_neg h1])
      go_enter Tryz.func157, Tryz.ntmps157
      go_wp2
      go_ret
      rw [E.out]
      exact ⟨rfl, rfl⟩

end Go.Proofs.YtiamggjebaabkaaGreatDoor
