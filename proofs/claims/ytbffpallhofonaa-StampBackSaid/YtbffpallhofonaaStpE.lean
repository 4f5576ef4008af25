/- Package stamp: whole, Sub, Zero, Bytes, ShortBytes, Parse, ParseShort; the document's Value of any many bytes. -/
import Derived.Test.YtbffpallhofonaaStpA
import Derived.Test.YtbffpallhofonaaOctI
import Derived.Deep.QuietTactic
import Derived.Deep.DeepCutAuto
import Derived.Deep.RegionHeld3
namespace Go.Proofs.Ytbffpallhofonaa
open Go.RowKit Go.WideShapes Go.ChangeShapes
set_option linter.unusedVariables false
set_option linter.unusedSimpArgs false

/-! plain: bytes of two words -/
theorem be_two (m x : Nat) : ∀ k, be (k + m) x = be k (x / 256 ^ m) ++ be m x
  | 0 => by simp [be]
  | k + 1 => by
    rw [show k + 1 + m = (k + m) + 1 by omega]
    show UInt8.ofNat (x / 256 ^ (k + m) % 256) :: be (k + m) x = (UInt8.ofNat (x / 256 ^ m / 256 ^ k % 256) :: be k (x / 256 ^ m)) ++ be m x
    rw [be_two m x k, Nat.div_div_eq_div_mul, ← Nat.pow_add, Nat.add_comm m k]
    rfl
theorem be_low (M x : Nat) : ∀ j, j ≤ M → be j (x % 256 ^ M) = be j x
  | 0, _ => rfl
  | j + 1, h => by
    show UInt8.ofNat (x % 256 ^ M / 256 ^ j % 256) :: be j (x % 256 ^ M) = UInt8.ofNat (x / 256 ^ j % 256) :: be j x
    rw [be_low M x j (by omega)]
    congr 2
    have e : 256 ^ M = 256 ^ j * 256 ^ (M - j) := by rw [← Nat.pow_add]; congr 1; omega
    rw [e, Nat.mod_mul_right_div_self]
    refine Nat.mod_mod_of_dvd _ ?_
    rw [show M - j = (M - j - 1) + 1 by omega, Nat.pow_succ]
    exact Nat.dvd_mul_left _ _
theorem be_eight (x : Nat) : wb 4 [((x / 4294967296 : Nat) : Int), ((x % 4294967296 : Nat) : Int)] = be 8 x := by
  show be 4 (x / 4294967296) ++ (be 4 (x % 4294967296) ++ []) = be 8 x
  have := be_two 4 x 4
  have h2 := be_low 4 x 4 (by omega)
  rw [show (256 : Nat) ^ 4 = 4294967296 by decide] at this h2
  rw [List.append_nil, h2, ← this]
theorem be_four (x : Nat) : wb 2 [((x / 65536 : Nat) : Int), ((x % 65536 : Nat) : Int)] = be 4 x := by
  show be 2 (x / 65536) ++ (be 2 (x % 65536) ++ []) = be 4 x
  have := be_two 2 x 2
  have h2 := be_low 2 x 2 (by omega)
  rw [show (256 : Nat) ^ 2 = 65536 by decide] at this h2
  rw [List.append_nil, h2, ← this]
theorem ebv_app (a b : List UInt8) : ebv (a ++ b) = ebv a * 256 ^ b.length + ebv b := by
  show (a ++ b).foldl (fun n b => n * 256 + b.toNat) 0 = _
  rw [List.foldl_append, fold_cons]; rfl
theorem ebv_halves {l : List UInt8} {S : Nat} (h : l.length = S + S) : wl (l.drop 0) S 2 = [((ebv l / 256 ^ S : Nat) : Int), ((ebv l % 256 ^ S : Nat) : Int)] := by
  have e : ebv l = ebv (l.take S) * 256 ^ S + ebv (l.drop S) := by
    conv => lhs; rw [← List.take_append_drop S l]
    rw [ebv_app, List.length_drop, h, Nat.add_sub_cancel]
  have hb : ebv (l.drop S) < 256 ^ S := by
    have := ebv_lt (l.drop S)
    rw [List.length_drop, h, Nat.add_sub_cancel] at this; exact this
  have e1 : ebv l / 256 ^ S = ebv (l.take S) := by
    rw [e, Nat.mul_comm, Nat.mul_add_div (Nat.pow_pos (by decide)), Nat.div_eq_of_lt hb, Nat.add_zero]
  have e2 : ebv l % 256 ^ S = ebv (l.drop S) := by
    rw [e, Nat.mul_comm, Nat.mul_add_mod, Nat.mod_eq_of_lt hb]
  have e3 : (l.drop S).take S = l.drop S := List.take_of_length_le (by rw [List.length_drop, h]; omega)
  rw [e1, e2]
  show [((ebv (((l.drop 0).drop (0 * S)).take S) : Nat) : Int), ((ebv (((l.drop 0).drop (1 * S)).take S) : Nat) : Int)] = _
  rw [List.drop_zero, Nat.zero_mul, List.drop_zero, Nat.one_mul, e3]
set_option maxRecDepth 100000 in
theorem or32 {n x : Nat} (hn : n < 4294967296) (hx : x < 4294967296) : bits .or .u64 ((n : Int) * 4294967296) (x : Int) = ((n * 4294967296 + x : Nat) : Int) := by
  rw [show ((n : Int) * 4294967296) = ((n * 4294967296 : Nat) : Int) by simp, u64_or_nat _ _ (by omega) (by omega)]
  congr 1
  rw [show n * 4294967296 = 2 ^ 32 * n by omega, ← Nat.two_pow_add_eq_or_of_lt (by omega : x < 2 ^ 32)]
/-- All that W0 has lies in W as it lay. -/
structure Kq15 (W0 W : World) : Prop where
  bel : Below W0.heap.size W0 W
theorem Kq15.step {W0 W W' : World} (h : Kq15 W0 W) (hb : Below W.heap.size W W') : Kq15 W0 W' := ⟨h.bel.trans (hb.mono h.bel.size)⟩

theorem swhole_any (x : Int) (w : World) (h0 : 0 ≤ x) (h1 : x < 18446744073709551616) :
    Calls Try.prog 52 #[.agg #[.int .u32 (x / 4294967296), .int .u32 (x % 4294967296)]] w fun e w' => e = .returned (.int .u64 x) ∧ Below w.heap.size w w' := by
  obtain ⟨S, hS⟩ : ∃ S : Nat, x / 4294967296 = (S : Int) := ⟨(x / 4294967296).toNat, by omega⟩
  obtain ⟨F, hF⟩ : ∃ F : Nat, x % 4294967296 = (F : Int) := ⟨(x % 4294967296).toNat, by omega⟩
  have e : x = ((S * 4294967296 + F : Nat) : Int) := by omega
  have bS : S < 4294967296 := by omega
  have bF : F < 4294967296 := by omega
  have ho := or32 bS bF
  rw [hS, hF]
  have r1 : IntKind.u64.wrap (S : Int) = (S : Int) := IntWalk.u64_in _ (by omega)
  have r2 : IntKind.u64.wrap (F : Int) = (F : Int) := IntWalk.u64_in _ (by omega)
  have r3 : IntKind.u64.wrap ((S : Int) * 4294967296) = (S : Int) * 4294967296 := IntWalk.u64_in _ (by omega)
  rw [← e] at ho
  clear e hS hF h0 h1 bS bF
  go_enter Try.func52, Try.ntmps52
  go_wp2
  go_ret
  exact ⟨rfl, (Below.refl _ _).alloc (Nat.le_refl _) _⟩

theorem szero_any (x : Int) (w : World) (h0 : 0 ≤ x) (h1 : x < 18446744073709551616) :
    Calls Try.prog 31 #[.agg #[.int .u32 (x / 4294967296), .int .u32 (x % 4294967296)]] w fun e w' => e = .returned (.bool (x == 0)) ∧ Below w.heap.size w w' := by
  by_cases h : x = 0
  · subst h
    rw [show (0 : Int) / 4294967296 = 0 by decide, show (0 : Int) % 4294967296 = 0 by decide, show ((0 : Int) == 0) = true from rfl]
    clear h0 h1
    go_enter Try.func31, Try.ntmps31
    go_wp2
    go_ret
    exact ⟨rfl, (Below.refl _ _).alloc (Nat.le_refl _) _⟩
  · rw [show (x == 0) = false from beq_eq_false_iff_ne.2 h]
    by_cases g : x / 4294967296 = 0
    · have d : (x % 4294967296 == 0) = false := beq_eq_false_iff_ne.2 (by omega)
      rw [g]
      generalize x % 4294967296 = F at *
      clear h0 h1 g h
      go_enter Try.func31, Try.ntmps31
      go_wp2
      go_ret
      exact ⟨rfl, (Below.refl _ _).alloc (Nat.le_refl _) _⟩
    · have d : (x / 4294967296 == 0) = false := beq_eq_false_iff_ne.2 g
      generalize x / 4294967296 = S at *
      generalize x % 4294967296 = F at *
      clear h0 h1 g h
      go_enter Try.func31, Try.ntmps31
      go_wp2
      go_ret
      exact ⟨rfl, (Below.refl _ _).alloc (Nat.le_refl _) _⟩

set_option maxHeartbeats 1600000 in
theorem ssub_any (x y : Int) (w : World) (h0 : 0 ≤ x) (h1 : x < 18446744073709551616) (g0 : 0 ≤ y) (g1 : y < 18446744073709551616) :
    Calls Try.prog 30 #[.agg #[.int .u32 (x / 4294967296), .int .u32 (x % 4294967296)], .agg #[.int .u32 (y / 4294967296), .int .u32 (y % 4294967296)]] w fun e w' =>
      e = .returned (.int .i64 (IntKind.i64.wrap (IntKind.u64.wrap (x - y)))) ∧ Below w.heap.size w w' := by
  have HX := Lib.hid (fun w => swhole_any x w h0 h1)
  have HY := Lib.hid (fun w => swhole_any y w g0 g1)
  generalize x / 4294967296 = S at *
  generalize x % 4294967296 = F at *
  generalize y / 4294967296 = T at *
  generalize y % 4294967296 = G at *
  have HE := Lib.hid (rfl : IntKind.i64.wrap (IntKind.u64.wrap (x - y)) = IntKind.i64.wrap (IntKind.u64.wrap (x - y)))
  obtain ⟨r, hr⟩ : ∃ r, IntKind.i64.wrap (IntKind.u64.wrap (x - y)) = r := ⟨_, rfl⟩
  obtain ⟨q, hq⟩ : ∃ q, IntKind.u64.wrap (x - y) = q := ⟨_, rfl⟩
  rw [hr]
  rw [hq] at hr
  obtain ⟨W0, hW0⟩ : ∃ W0, W0 = (w.alloc (.cells #[.int .u32 S, .int .u32 F] 43)).alloc (.cells #[.int .u32 T, .int .u32 G] 43) := ⟨_, rfl⟩
  have B : Hid (Below w.heap.size w W0) := Lib.hid (by rw [hW0]; exact ((Below.refl _ _).alloc (Nat.le_refl _) _).alloc (by simp) _)
  have l1 : (w.alloc (.cells #[.int .u32 S, .int .u32 F] 43)).heap[w.heap.size]? = some (.cells #[.int .u32 S, .int .u32 F] 43 (0, 0)) := heap_alloc_new _ _
  have l2 : W0.heap[w.heap.size + 1]? = some (.cells #[.int .u32 T, .int .u32 G] 43 (0, 0)) := by
    rw [hW0]; have := heap_alloc_new (w.alloc (.cells #[.int .u32 S, .int .u32 F] 43)) (.cells #[.int .u32 T, .int .u32 G] 43); simpa using this
  have l3 : W0.heap[w.heap.size]? = some (.cells #[.int .u32 S, .int .u32 F] 43 (0, 0)) := by
    have hb := (Below.refl (w.alloc (.cells #[.int .u32 S, .int .u32 F] 43)).heap.size (w.alloc (.cells #[.int .u32 S, .int .u32 F] 43))).alloc (Nat.le_refl _) (.cells #[.int .u32 T, .int .u32 G] 43)
    rw [hW0]; exact (hb.block _ (by simp)).trans l1
  have HC : Hid (∀ W, Kq15 W0 W → (W.cell? ⟨w.heap.size, 0, none⟩ = some (.int .u32 S) ∧ W.cell? ⟨w.heap.size, 1, none⟩ = some (.int .u32 F) ∧ W.cell? ⟨w.heap.size + 1, 0, none⟩ = some (.int .u32 T) ∧ W.cell? ⟨w.heap.size + 1, 1, none⟩ = some (.int .u32 G)) ∧ Kq15 W0 W) := Lib.hid fun W hk => by
    have a1 := (hk.bel.block _ (bk_lt l3)).trans l3
    have a2 := (hk.bel.block _ (bk_lt l2)).trans l2
    exact ⟨⟨bk_cell a1 0, bk_cell a1 1, bk_cell a2 0, bk_cell a2 1⟩, hk⟩
  have hKD : Kq15 W0 W0.drew := ⟨(Below.refl _ W0).drew⟩
  clear l1 l2 l3 h0 h1 g0 g1
  go_enter Try.func30, Try.ntmps30
  go_upto_region 1 with fail
  rw [← hW0]; clear hW0
  go_region_held3 (fun W => (W.cell? ⟨w.heap.size, 0, none⟩ = some (.int .u32 S) ∧ W.cell? ⟨w.heap.size, 1, none⟩ = some (.int .u32 F) ∧ W.cell? ⟨w.heap.size + 1, 0, none⟩ = some (.int .u32 T) ∧ W.cell? ⟨w.heap.size + 1, 1, none⟩ = some (.int .u32 G)) ∧ Kq15 W0 W)
    (exact HC.out _ (by assumption))
    (first
      | (go_at_call 52; go_split_ands; (with_reducible refine (HX.out _).mono ?_); rintro er wr9 ⟨rfl, hq⟩; have hkr : Kq15 W0 wr9 := Kq15.step (by assumption) hq; clear hq)
      | (go_at_call 52; go_split_ands; (with_reducible refine (HY.out _).mono ?_); rintro er wr9 ⟨rfl, hq⟩; have hkr : Kq15 W0 wr9 := Kq15.step (by assumption) hq; clear hq))
  have Q1 : Hid (Below W0.heap.size W0 _) := Lib.hid (Kq15.bel (W0 := W0) (by assumption))
  go_wp2_with fail
  go_ret
  exact ⟨rfl, B.out.trans (Q1.out.mono B.out.size)⟩
end Go.Proofs.Ytbffpallhofonaa
