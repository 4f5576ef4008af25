/- bits.Div64. -/
import Derived.Test.YteanpnmgdfflcaaShelf
import Derived.Test.YteanpnmgdfflcaaDivM
import Derived.Test.YteanpnmgdfflcaaNumC
import Derived.Deep.DeepCutAuto
import Derived.Deep.CutRange
import Derived.Deep.CutBlock
import Derived.BigQuiet
import Derived.Deep.QuietTactic
import Derived.Outline
import Derived.Laws.BitsAllLaws
namespace Go.Proofs.Yteanpnmgdfflcaa
open Go.RowKit

set_option maxHeartbeats 1600000 in
theorem div64_low (lo y : Nat) (w : World) (hlo : lo < 18446744073709551616) (hy : y < 18446744073709551616) (h0 : 0 < y) :
    Calls Try.prog 35 #[.int .u64 0, .int .u64 lo, .int .u64 y] w fun e w' => ∃ r : Value, e = .returned (.tuple #[.int .u64 ((lo / y : Nat) : Int), r]) ∧ Below w.heap.size w w' := by
  have h1 : ((y : Int) == 0) = false := by simp; omega
  have h2 : ¬ (y : Int) ≤ 0 := by omega
  have h3 : (1 : Int) ≤ (y : Int) := by omega
  obtain ⟨q, hq⟩ : ∃ q, q = lo / y := ⟨_, rfl⟩
  have hq2 : q ≤ lo := by rw [hq]; exact Nat.div_le_self _ _
  have HQ : IntKind.u64.wrap ((lo : Int) / (y : Int)) = (q : Int) := by
    have e : (lo : Int) / (y : Int) = (q : Int) := by rw [hq]; exact (Int.natCast_ediv lo y).symm
    rw [e]
    exact IntWalk.u64_in _ (by omega)
  rw [← hq]
  clear hq
  go_enter Try.func35, Try.ntmps35
  go_wp2_with fail
  go_quiet (fail)
  go_wp2_with fail
  go_ret2
  exact ⟨_, ret2_eq (int_eq rfl) rfl, ⟨rfl, rfl, rfl, Nat.le_refl _, fun _ _ => rfl⟩⟩

theorem wrapM (a : Nat) : IntKind.u64.wrap (a : Int) = ((a % 18446744073709551616 : Nat) : Int) := by rw [IntKind.wrap_u64]; omega
theorem wrapN {a : Nat} (h : a < 18446744073709551616) : IntKind.u64.wrap (a : Int) = (a : Int) := IntWalk.u64_in _ (by omega)
theorem mask32 (a : Nat) (h : a < 18446744073709551616) : bits .and .u64 (a : Int) 4294967295 = ((a % 4294967296 : Nat) : Int) := by
  have e := u64_and_nat a 4294967295 h (by omega)
  rw [show ((4294967295 : Nat) : Int) = 4294967295 from rfl] at e
  rw [e]
  congr 1
  exact Nat.and_two_pow_sub_one_eq_mod a 32
theorem or_low {a t s : Nat} (ht : t < 2 ^ s) (h : a * 2 ^ s + t < 18446744073709551616) : bits .or .u64 ((a * 2 ^ s : Nat) : Int) (t : Int) = ((a * 2 ^ s + t : Nat) : Int) := by
  rw [u64_or_nat _ _ (by omega) (by omega)]
  congr 1
  rw [Nat.mul_comm, ← Nat.two_pow_add_eq_or_of_lt ht]
theorem cast_shl (a s : Nat) : (a : Int) * 2 ^ s = ((a * 2 ^ s : Nat) : Int) := by push_cast; rfl

/-- What a round of either loop keeps. -/
def Est (u y1 Q q rh : Nat) : Prop := q * y1 + rh = u ∧ Q ≤ q ∧ rh < 4294967296
theorem Est.down {u d y y1 y0 Q q rh : Nat} (h : Est u y1 Q q rh) (hQ : Q = (u * 4294967296 + d) / y) (hy : y = y1 * 4294967296 + y0) (hy0 : 0 < y) (hu : u < y) (hd : d < 4294967296)
    (hc : 4294967296 ≤ q ∨ 4294967296 * rh + d < q * y0) : ∃ p, q = p + 1 ∧ p * y1 + (rh + y1) = u ∧ Q ≤ p := by
  obtain ⟨h1, h2, h3⟩ := h
  have hlt : Q < q := by
    rcases hc with hc | hc
    · have := quo_lt hu hd; omega
    · rw [est_iff hy h1] at hc
      rw [hQ]; exact quo_below hy0 hc
  obtain ⟨p, rfl⟩ : ∃ p, q = p + 1 := ⟨q - 1, by omega⟩
  rw [Nat.add_mul, Nat.one_mul] at h1
  exact ⟨p, rfl, by omega, by omega⟩

set_option maxRecDepth 100000 in
set_option maxHeartbeats 3200000 in
theorem div64_any (hi lo y : Nat) (w : World) (hlo : lo < 18446744073709551616) (hy : y < 18446744073709551616) (hh0 : 0 < hi) (hh : hi < y) :
    Calls Try.prog 35 #[.int .u64 hi, .int .u64 lo, .int .u64 y] w fun e w' => ∃ r : Value, e = .returned (.tuple #[.int .u64 (((hi * 18446744073709551616 + lo) / y : Nat) : Int), r]) ∧ Below w.heap.size w w' := by
  obtain ⟨s, k, hs, hbl, hk, hk0, hn1, hn2⟩ := shift_facts (y := y) (by omega) hy
  have hbl' := Lib.hid hbl
  have HK := Lib.hid hk
  have h1 : ((y : Int) == 0) = false := by simp; omega
  have h2 : ¬ (y : Int) ≤ (hi : Int) := by omega
  have h3 : ((hi : Int) == 0) = false := by simp; omega
  have HL : Calls Try.prog 38 #[.int .u64 (y : Int)] w fun e w' => e = .returned (.int .i64 (s : Int)) ∧ w = w' :=
    (Try.bits_LeadingZeros64 (y : Int) w (by omega) (by omega)).mono fun e w' ⟨he, hw⟩ => ⟨by rw [he, show ((y : Int)).toNat = y from rfl, hbl]; exact ret1_eq (int_eq (by omega)), hw.symm⟩
  have HL2 := Lib.hid HL
  clear hbl HL
  obtain ⟨hU1, hU2, hU3⟩ := shift_num (hi := hi) hs hk hlo hh
  obtain ⟨Y, hY⟩ : ∃ Y, Y = y * k := ⟨_, rfl⟩
  obtain ⟨t, ht⟩ : ∃ t, t = lo / 2 ^ (64 - s) := ⟨_, rfl⟩
  obtain ⟨U, hU⟩ : ∃ U, U = hi * k + t := ⟨_, rfl⟩
  obtain ⟨L, hL⟩ : ∃ L, L = lo * k % 18446744073709551616 := ⟨_, rfl⟩
  rw [← ht, ← hU, ← hL] at hU2
  rw [← ht, ← hU, ← hY] at hU1
  rw [← ht] at hU3
  rw [← hY] at hn1 hn2
  obtain ⟨y1, hy1⟩ : ∃ n, n = Y / 4294967296 := ⟨_, rfl⟩
  obtain ⟨y0, hy0⟩ : ∃ n, n = Y % 4294967296 := ⟨_, rfl⟩
  obtain ⟨a1, ha1⟩ : ∃ n, n = L / 4294967296 := ⟨_, rfl⟩
  obtain ⟨a0, ha0⟩ : ∃ n, n = L % 4294967296 := ⟨_, rfl⟩
  have hLM : L < 18446744073709551616 := by rw [hL]; exact Nat.mod_lt _ (by omega)
  have e2 : IntKind.u64.wrap ((y : Int) * 2 ^ s) = (Y : Int) := by rw [cast_shl, ← hk, ← hY]; exact wrapN hn2
  have e9 : (Y : Int) / 4294967296 = (y1 : Int) := by omega
  have e10 : bits .and .u64 (Y : Int) 4294967295 = (y0 : Int) := by rw [hy0]; exact mask32 Y hn2
  obtain ⟨h5, hh5⟩ : ∃ n, n = hi * 2 ^ s := ⟨_, rfl⟩
  have e46 : IntKind.u64.wrap ((hi : Int) * 2 ^ s) = (h5 : Int) := by rw [cast_shl, hh5]; exact wrapN (by rw [← hk]; omega)
  have e50 : (lo : Int) / 2 ^ (64 - s) = (t : Int) := by rw [ht, Int.natCast_ediv]; push_cast; rfl
  have e51 : bits .or .u64 (h5 : Int) (t : Int) = (U : Int) := by rw [hU, hk, hh5]; exact or_low (by rw [← hk]; exact hU3) (by rw [← hk]; omega)
  have e54 : IntKind.u64.wrap ((lo : Int) * 2 ^ s) = (L : Int) := by rw [cast_shl, ← hk, hL]; exact wrapM _
  have e56 : (L : Int) / 4294967296 = (a1 : Int) := by omega
  have e58 : bits .and .u64 (L : Int) 4294967295 = (a0 : Int) := by rw [ha0]; exact mask32 L hLM
  have hYY : Y = y1 * 4294967296 + y0 := by omega
  have hb1 : 2147483648 ≤ y1 ∧ y1 < 4294967296 ∧ y0 < 4294967296 ∧ a1 < 4294967296 ∧ a0 < 4294967296 := by omega
  have HN := Lib.hid hU2; have HY := Lib.hid hY; have HYY := Lib.hid hYY; have HLL : Hid (L = a1 * 4294967296 + a0) := by show L = _; omega
  clear hh5 hU2 hY hYY hy1 hy0 ha1 ha0 hL hU ht hk
  go_enter Try.func35, Try.ntmps35
  go_wp2_with fail
  refine HL2.out.mono ?_
  rintro e w' ⟨rfl, rfl⟩
  obtain ⟨q0, hq0⟩ : ∃ n, n = U / y1 := ⟨_, rfl⟩
  obtain ⟨p0, hp0⟩ : ∃ n, n = q0 * y1 := ⟨_, rfl⟩
  obtain ⟨r0, hr0⟩ : ∃ n, n = U % y1 := ⟨_, rfl⟩
  have hdm := Nat.div_add_mod U y1
  rw [← hq0, ← hr0, Nat.mul_comm, ← hp0] at hdm
  have hr0l : r0 < y1 := by rw [hr0]; exact Nat.mod_lt _ (by omega)
  have hq0l : q0 ≤ U := by rw [hq0]; exact Nat.div_le_self _ _
  have e61 : IntKind.u64.wrap ((U : Int) / (y1 : Int)) = (q0 : Int) := by
    have e : (U : Int) / (y1 : Int) = (q0 : Int) := by rw [hq0]; exact (Int.natCast_ediv U y1).symm
    rw [e]; exact wrapN (by omega)
  have e65 : IntKind.u64.wrap ((q0 : Int) * (y1 : Int)) = (p0 : Int) := by
    have e : (q0 : Int) * (y1 : Int) = (p0 : Int) := by rw [hp0]; exact (Int.natCast_mul q0 y1).symm
    rw [e]; exact wrapN (by omega)
  have e66 : (U : Int) - (p0 : Int) = (r0 : Int) := by omega
  have HQ0 : Hid (q0 * y1 + r0 = U ∧ (U * 4294967296 + a1) / Y ≤ q0 ∧ r0 < 4294967296) := ⟨by rw [← hp0]; exact hdm, by rw [hq0]; exact est_start HYY.out (by omega) (by omega), by omega⟩
  have hy1' : (1 : Int) ≤ (y1 : Int) := by omega
  clear hq0 hp0 hr0 hdm
  obtain ⟨Q1, hQ1⟩ : ∃ n, n = (U * 4294967296 + a1) / Y := ⟨_, rfl⟩
  have HQQ1 := Lib.hid hQ1
  have HAU : Hid (U < Y) := hU1
  have HA : Hid (Est U y1 Q1 q0 r0) := ⟨HQ0.out.1, by rw [hQ1]; exact HQ0.out.2.1, HQ0.out.2.2⟩
  clear hQ1
  go_upto_block 0 with fail
  go_cut [15] (fun sq wx => sq = .int .u64 (Q1 : Int) ∧ wx = w)
  case first =>
    go_wp2_with fail
    go_loop [15, 16] (fun sq sr => ∃ q rh : Nat, sq = .int .u64 (q : Int) ∧ sr = .int .u64 (rh : Int) ∧ Hid (Est U y1 Q1 q rh)) (fun sq _ => (intOf sq).toNat)
    case atStart => exact ⟨_, _, rfl, rfl, HA⟩
    case round =>
      obtain ⟨q, rh, rfl, rfl, HE⟩ := hrel
      have hrh : rh < 4294967296 := HE.out.2.2
      have hqU : q ≤ 18446744073709551615 := by
        have h1 := HE.out.1
        have : q * 1 ≤ q * y1 := Nat.mul_le_mul_left _ (by omega)
        omega
      by_cases hq : 4294967296 ≤ q
      · obtain ⟨p, hp, h2, h3⟩ := HE.out.down HQQ1.out HYY.out (by omega) HAU.out (by omega) (.inl hq)
        subst hp
        have hqz : (4294967296 : Int) ≤ (p : Int) + 1 := by omega
        have hqu : (p : Int) + 1 ≤ 18446744073709551615 := by omega
        have hrz : (rh : Int) < 4294967296 := by omega
        have H2 := Lib.hid h2; have H3 := Lib.hid h3; clear h2 h3 hq hqU
        by_cases hr : 4294967296 ≤ rh + y1
        · have hr' : decide ((4294967296 : Int) ≤ (rh : Int) + (y1 : Int)) = true := decide_eq_true (by omega)
          have HRR := Lib.hid hr; clear hr hrh
          go_wp2_with fail
          go_meet
          exact ⟨int_eq (by have := est_break HYY.out (by omega) HAU.out H2.out HRR.out (by rw [← HQQ1.out]; exact H3.out); rw [← HQQ1.out] at this; omega), rfl⟩
        · have hr' : decide ((4294967296 : Int) ≤ (rh : Int) + (y1 : Int)) = false := decide_eq_false (by omega)
          have HRR := Lib.hid hr; clear hr hrh
          go_wp2_with fail
          go_round
          case rel => exact ⟨p, rh + y1, by go_num, by go_num, H2.out, H3.out, by have := HRR.out; omega⟩
          case measure => simp [intOf]
      · obtain ⟨m, hm⟩ : ∃ m, m = q * y0 := ⟨_, rfl⟩
        have hml : m ≤ 4294967295 * 4294967295 := by rw [hm]; exact Nat.mul_le_mul (by omega) (by omega)
        have e72 : IntKind.u64.wrap ((q : Int) * (y0 : Int)) = (m : Int) := by
          have e : (q : Int) * (y0 : Int) = (m : Int) := by rw [hm]; exact (Int.natCast_mul q y0).symm
          rw [e]; exact wrapN (by omega)
        have hqz : decide ((4294967296 : Int) ≤ (q : Int)) = false := decide_eq_false (by omega)
        obtain ⟨n1, hn1⟩ : ∃ n, n = 4294967296 * rh := ⟨_, rfl⟩
        obtain ⟨n2, hn2⟩ : ∃ n, n = n1 + a1 := ⟨_, rfl⟩
        obtain ⟨r2, hr2⟩ : ∃ n, n = rh + y1 := ⟨_, rfl⟩
        have e74 : IntKind.u64.wrap (4294967296 * (rh : Int)) = (n1 : Int) := by
          have e : 4294967296 * (rh : Int) = (n1 : Int) := by omega
          rw [e]; exact wrapN (by omega)
        have e76 : IntKind.u64.wrap ((n1 : Int) + (a1 : Int)) = (n2 : Int) := by
          have e : (n1 : Int) + (a1 : Int) = (n2 : Int) := by omega
          rw [e]; exact wrapN (by omega)
        have e83 : IntKind.u64.wrap ((rh : Int) + (y1 : Int)) = (r2 : Int) := by
          have e : (rh : Int) + (y1 : Int) = (r2 : Int) := by omega
          rw [e]; exact wrapN (by omega)
        by_cases hc : 4294967296 * rh + a1 < m
        · obtain ⟨p, hp, h2, h3⟩ := HE.out.down HQQ1.out HYY.out (by omega) HAU.out (by omega) (.inr (by rw [← hm]; exact hc))
          have hcz : decide (n2 < m) = true := decide_eq_true (by omega)
          have HP := Lib.hid hp
          have hq1 : (1 : Int) ≤ (q : Int) := by omega
          rw [← hr2] at h2
          have H2 := Lib.hid h2; have H3 := Lib.hid h3
          by_cases hr : 4294967296 ≤ r2
          · have hr' : decide ((4294967296 : Int) ≤ (r2 : Int)) = true := decide_eq_true (by omega)
            have HRR := Lib.hid hr; have HQU := Lib.hid hqU; clear hr hrh hm hml hn1 hn2 hr2 hp h2 h3 hq hqU hc
            go_wp2_with fail
            go_meet
            exact ⟨int_eq (by have := est_break HYY.out (by omega) HAU.out H2.out HRR.out (by rw [← HQQ1.out]; exact H3.out); rw [← HQQ1.out] at this; have := HP.out; have := HQU.out; rw [IntWalk.u64_in _ (by omega)]; omega), rfl⟩
          · have hr' : decide ((4294967296 : Int) ≤ (r2 : Int)) = false := decide_eq_false (by omega)
            have HRR := Lib.hid hr; have HQU := Lib.hid hqU; clear hr hrh hm hml hn1 hn2 hr2 hp h2 h3 hq hqU hc
            go_wp2_with fail
            go_round
            case rel => exact ⟨p, r2, int_eq (by have := HP.out; have := HQU.out; rw [IntWalk.u64_in _ (by omega)]; omega), rfl, H2.out, H3.out, by have := HRR.out; omega⟩
            case measure => have := HP.out; have := HQU.out; simp only [intOf]; rw [IntWalk.u64_in _ (by omega)]; omega
        · have hx : q = Q1 := by
            have := est_exit (d := a1) HYY.out (by omega) HE.out.1 (by rw [← hm]; exact hc) (by rw [← HQQ1.out]; exact HE.out.2.1)
            rw [← HQQ1.out] at this; omega
          have hcz : decide (n2 < m) = false := decide_eq_false (by omega)
          have HX := Lib.hid hx; clear hx hm hml hn1 hn2 hr2 hq hqU hc hrh
          go_wp2_with fail
          go_meet
          exact ⟨int_eq (by rw [HX.out]), rfl⟩
  case rest =>
    obtain ⟨rfl, rfl⟩ := hcut
    obtain ⟨V, hV⟩ : ∃ n, n = (U * 4294967296 + a1) % Y := ⟨_, rfl⟩
    have hVm : Y * Q1 + V = U * 4294967296 + a1 := by rw [hV, HQQ1.out]; exact Nat.div_add_mod _ _
    have hVl : V < Y := by rw [hV]; exact Nat.mod_lt _ (by omega)
    obtain ⟨P, hP⟩ : ∃ n, n = Q1 * Y := ⟨_, rfl⟩
    rw [Nat.mul_comm, ← hP] at hVm
    obtain ⟨z1, hz1⟩ : ∃ n, n = U * 4294967296 % 18446744073709551616 := ⟨_, rfl⟩
    obtain ⟨z2, hz2⟩ : ∃ n, n = (z1 + a1) % 18446744073709551616 := ⟨_, rfl⟩
    obtain ⟨z3, hz3⟩ : ∃ n, n = P % 18446744073709551616 := ⟨_, rfl⟩
    have e87 : IntKind.u64.wrap ((U : Int) * 4294967296) = (z1 : Int) := by rw [IntKind.wrap_u64]; omega
    have e89 : IntKind.u64.wrap ((z1 : Int) + (a1 : Int)) = (z2 : Int) := by rw [IntKind.wrap_u64]; omega
    have e92 : IntKind.u64.wrap ((Q1 : Int) * (Y : Int)) = (z3 : Int) := by
      have e : (Q1 : Int) * (Y : Int) = (P : Int) := by rw [hP]; exact (Int.natCast_mul Q1 Y).symm
      rw [e, IntKind.wrap_u64]; omega
    have e93 : IntKind.u64.wrap ((z2 : Int) - (z3 : Int)) = (V : Int) := by rw [IntKind.wrap_u64]; omega
    obtain ⟨g0, hg0⟩ : ∃ n, n = V / y1 := ⟨_, rfl⟩
    obtain ⟨p1, hp1⟩ : ∃ n, n = g0 * y1 := ⟨_, rfl⟩
    obtain ⟨s0, hs0⟩ : ∃ n, n = V % y1 := ⟨_, rfl⟩
    have hdm2 := Nat.div_add_mod V y1
    rw [← hg0, ← hs0, Nat.mul_comm, ← hp1] at hdm2
    have hs0l : s0 < y1 := by rw [hs0]; exact Nat.mod_lt _ (by omega)
    have hg0l : g0 ≤ V := by rw [hg0]; exact Nat.div_le_self _ _
    have e96 : IntKind.u64.wrap ((V : Int) / (y1 : Int)) = (g0 : Int) := by
      have e : (V : Int) / (y1 : Int) = (g0 : Int) := by rw [hg0]; exact (Int.natCast_ediv V y1).symm
      rw [e]; exact wrapN (by omega)
    have e100 : IntKind.u64.wrap ((g0 : Int) * (y1 : Int)) = (p1 : Int) := by
      have e : (g0 : Int) * (y1 : Int) = (p1 : Int) := by rw [hp1]; exact (Int.natCast_mul g0 y1).symm
      rw [e]; exact wrapN (by omega)
    have e101 : (V : Int) - (p1 : Int) = (s0 : Int) := by omega
    obtain ⟨Q2, hQ2⟩ : ∃ n, n = (V * 4294967296 + a0) / Y := ⟨_, rfl⟩
    have HQQ2 := Lib.hid hQ2
    have HBU : Hid (V < Y) := hVl
    have HB : Hid (Est V y1 Q2 g0 s0) := ⟨by rw [← hp1]; exact hdm2, by rw [hQ2, hg0]; exact est_start HYY.out (by omega) (by omega), by omega⟩
    have hVM : V < 18446744073709551616 := by omega
    have hQ1l : Q1 < 4294967296 := by rw [HQQ1.out]; exact quo_lt HAU.out (by omega)
    have hQ2l : Q2 < 4294967296 := by rw [hQ2]; exact quo_lt hVl (by omega)
    obtain ⟨f1, hf1⟩ : ∃ n, n = Q1 * 4294967296 := ⟨_, rfl⟩
    obtain ⟨f2, hf2⟩ : ∃ n, n = f1 + Q2 := ⟨_, rfl⟩
    have e122 : IntKind.u64.wrap ((Q1 : Int) * 4294967296) = (f1 : Int) := by rw [IntKind.wrap_u64]; omega
    have e124 : IntKind.u64.wrap ((f1 : Int) + (Q2 : Int)) = (f2 : Int) := by rw [IntKind.wrap_u64]; omega
    have hF : f2 = (hi * 18446744073709551616 + lo) / y := by
      have h := two_steps (u := U) (a := a1) (b := a0) (y := Y) (by omega)
      rw [← HQQ1.out, ← hV, ← hQ2] at h
      rw [hf2, hf1, h, ← HLL.out, HN.out, HY.out]
      exact Nat.mul_div_mul_right _ _ hk0
    have HF := Lib.hid hF
    clear hF hV hVm hP hz1 hz2 hz3 hg0 hp1 hs0 hdm2 hQ2 hVl hf1 hf2
    go_upto_region 23 with fail
    go_upto_block 2 with fail
    go_cut [18] (fun sq wx => sq = .int .u64 (Q2 : Int) ∧ wx = wc)
    case first =>
      go_wp2_with fail
      go_loop [18, 16] (fun sq sr => ∃ q rh : Nat, sq = .int .u64 (q : Int) ∧ sr = .int .u64 (rh : Int) ∧ Hid (Est V y1 Q2 q rh)) (fun sq _ => (intOf sq).toNat)
      case atStart => exact ⟨_, _, rfl, rfl, HB⟩
      case round =>
        obtain ⟨q, rh, rfl, rfl, HE⟩ := hrel
        have hrh : rh < 4294967296 := HE.out.2.2
        have hqU : q ≤ 18446744073709551615 := by
          have h1 := HE.out.1
          have : q * 1 ≤ q * y1 := Nat.mul_le_mul_left _ (by omega)
          omega
        by_cases hq : 4294967296 ≤ q
        · obtain ⟨p, hp, h2, h3⟩ := HE.out.down HQQ2.out HYY.out (by omega) HBU.out (by omega) (.inl hq)
          subst hp
          have hqz : (4294967296 : Int) ≤ (p : Int) + 1 := by omega
          have hqu : (p : Int) + 1 ≤ 18446744073709551615 := by omega
          have hrz : (rh : Int) < 4294967296 := by omega
          have H2 := Lib.hid h2; have H3 := Lib.hid h3; clear h2 h3 hq hqU
          by_cases hr : 4294967296 ≤ rh + y1
          · have hr' : decide ((4294967296 : Int) ≤ (rh : Int) + (y1 : Int)) = true := decide_eq_true (by omega)
            have HRR := Lib.hid hr; clear hr hrh
            go_wp2_with fail
            go_meet
            exact ⟨int_eq (by have := est_break HYY.out (by omega) HBU.out H2.out HRR.out (by rw [← HQQ2.out]; exact H3.out); rw [← HQQ2.out] at this; omega), rfl⟩
          · have hr' : decide ((4294967296 : Int) ≤ (rh : Int) + (y1 : Int)) = false := decide_eq_false (by omega)
            have HRR := Lib.hid hr; clear hr hrh
            go_wp2_with fail
            go_round
            case rel => exact ⟨p, rh + y1, by go_num, by go_num, H2.out, H3.out, by have := HRR.out; omega⟩
            case measure => simp [intOf]
        · obtain ⟨m, hm⟩ : ∃ m, m = q * y0 := ⟨_, rfl⟩
          have hml : m ≤ 4294967295 * 4294967295 := by rw [hm]; exact Nat.mul_le_mul (by omega) (by omega)
          have e72 : IntKind.u64.wrap ((q : Int) * (y0 : Int)) = (m : Int) := by
            have e : (q : Int) * (y0 : Int) = (m : Int) := by rw [hm]; exact (Int.natCast_mul q y0).symm
            rw [e]; exact wrapN (by omega)
          have hqz : decide ((4294967296 : Int) ≤ (q : Int)) = false := decide_eq_false (by omega)
          obtain ⟨n1, hn1⟩ : ∃ n, n = 4294967296 * rh := ⟨_, rfl⟩
          obtain ⟨n2, hn2⟩ : ∃ n, n = n1 + a0 := ⟨_, rfl⟩
          obtain ⟨r2, hr2⟩ : ∃ n, n = rh + y1 := ⟨_, rfl⟩
          have e74 : IntKind.u64.wrap (4294967296 * (rh : Int)) = (n1 : Int) := by
            have e : 4294967296 * (rh : Int) = (n1 : Int) := by omega
            rw [e]; exact wrapN (by omega)
          have e76 : IntKind.u64.wrap ((n1 : Int) + (a0 : Int)) = (n2 : Int) := by
            have e : (n1 : Int) + (a0 : Int) = (n2 : Int) := by omega
            rw [e]; exact wrapN (by omega)
          have e83 : IntKind.u64.wrap ((rh : Int) + (y1 : Int)) = (r2 : Int) := by
            have e : (rh : Int) + (y1 : Int) = (r2 : Int) := by omega
            rw [e]; exact wrapN (by omega)
          by_cases hc : 4294967296 * rh + a0 < m
          · obtain ⟨p, hp, h2, h3⟩ := HE.out.down HQQ2.out HYY.out (by omega) HBU.out (by omega) (.inr (by rw [← hm]; exact hc))
            have hcz : decide (n2 < m) = true := decide_eq_true (by omega)
            have HP := Lib.hid hp
            have hq1 : (1 : Int) ≤ (q : Int) := by omega
            rw [← hr2] at h2
            have H2 := Lib.hid h2; have H3 := Lib.hid h3
            by_cases hr : 4294967296 ≤ r2
            · have hr' : decide ((4294967296 : Int) ≤ (r2 : Int)) = true := decide_eq_true (by omega)
              have HRR := Lib.hid hr; have HQU := Lib.hid hqU; clear hr hrh hm hml hn1 hn2 hr2 hp h2 h3 hq hqU hc
              go_wp2_with fail
              go_meet
              exact ⟨int_eq (by have := est_break HYY.out (by omega) HBU.out H2.out HRR.out (by rw [← HQQ2.out]; exact H3.out); rw [← HQQ2.out] at this; have := HP.out; have := HQU.out; rw [IntWalk.u64_in _ (by omega)]; omega), rfl⟩
            · have hr' : decide ((4294967296 : Int) ≤ (r2 : Int)) = false := decide_eq_false (by omega)
              have HRR := Lib.hid hr; have HQU := Lib.hid hqU; clear hr hrh hm hml hn1 hn2 hr2 hp h2 h3 hq hqU hc
              go_wp2_with fail
              go_round
              case rel => exact ⟨p, r2, int_eq (by have := HP.out; have := HQU.out; rw [IntWalk.u64_in _ (by omega)]; omega), rfl, H2.out, H3.out, by have := HRR.out; omega⟩
              case measure => have := HP.out; have := HQU.out; simp only [intOf]; rw [IntWalk.u64_in _ (by omega)]; omega
          · have hx : q = Q2 := by
              have := est_exit (d := a0) HYY.out (by omega) HE.out.1 (by rw [← hm]; exact hc) (by rw [← HQQ2.out]; exact HE.out.2.1)
              rw [← HQQ2.out] at this; omega
            have hcz : decide (n2 < m) = false := decide_eq_false (by omega)
            have HX := Lib.hid hx; clear hx hm hml hn1 hn2 hr2 hq hqU hc hrh
            go_wp2_with fail
            go_meet
            exact ⟨int_eq (by rw [HX.out]), rfl⟩
    case rest =>
      obtain ⟨rfl, rfl⟩ := hcut
      go_wp2_with fail
      go_ret2
      exact ⟨_, ret2_eq (int_eq (congrArg Int.ofNat HF.out)) rfl, Below.refl _ _⟩
end Go.Proofs.Yteanpnmgdfflcaa
