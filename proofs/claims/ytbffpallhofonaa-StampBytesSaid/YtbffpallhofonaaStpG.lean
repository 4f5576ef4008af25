/- StampBytes. (Written by gen_stp.py.) -/
import Derived.Test.YtbffpallhofonaaStpF
import Derived.Test.YtbffpallhofonaaOctD
import Derived.Deep.DeepCutAuto
namespace Go.Proofs.Ytbffpallhofonaa
open Go.RowKit Go.WideShapes Go.ChangeShapes
set_option linter.unusedVariables false
set_option linter.unusedSimpArgs false

theorem box3_15 (w : World) (c1 c2 c3 : Array Value) (T1 T2 T3 : TypeId) :
    Below w.heap.size w (((w.alloc (.cells c1 T1)).alloc (.cells c2 T2)).alloc (.cells c3 T3)) ∧
    (((w.alloc (.cells c1 T1)).alloc (.cells c2 T2)).alloc (.cells c3 T3)).heap[w.heap.size]? = some (.cells c1 T1 (0, 0)) ∧
    (((w.alloc (.cells c1 T1)).alloc (.cells c2 T2)).alloc (.cells c3 T3)).heap[w.heap.size + 1]? = some (.cells c2 T2 (0, 0)) ∧
    (((w.alloc (.cells c1 T1)).alloc (.cells c2 T2)).alloc (.cells c3 T3)).heap[w.heap.size + 1 + 1]? = some (.cells c3 T3 (0, 0)) := by
  have s1 : (w.alloc (.cells c1 T1)).heap.size = w.heap.size + 1 := by simp
  have s2 : ((w.alloc (.cells c1 T1)).alloc (.cells c2 T2)).heap.size = w.heap.size + 1 + 1 := by simp
  have l1 : (w.alloc (.cells c1 T1)).heap[w.heap.size]? = some (.cells c1 T1 (0, 0)) := heap_alloc_new _ _
  have l2 : ((w.alloc (.cells c1 T1)).alloc (.cells c2 T2)).heap[w.heap.size + 1]? = some (.cells c2 T2 (0, 0)) := by
    have := heap_alloc_new (w.alloc (.cells c1 T1)) (.cells c2 T2); rw [s1] at this; exact this
  have l3 : (((w.alloc (.cells c1 T1)).alloc (.cells c2 T2)).alloc (.cells c3 T3)).heap[w.heap.size + 1 + 1]? = some (.cells c3 T3 (0, 0)) := by
    have := heap_alloc_new ((w.alloc (.cells c1 T1)).alloc (.cells c2 T2)) (.cells c3 T3); rw [s2] at this; exact this
  have b1 := (Below.refl (w.alloc (.cells c1 T1)).heap.size (w.alloc (.cells c1 T1))).alloc (Nat.le_refl _) (.cells c2 T2)
  have b2 := (Below.refl ((w.alloc (.cells c1 T1)).alloc (.cells c2 T2)).heap.size ((w.alloc (.cells c1 T1)).alloc (.cells c2 T2))).alloc (Nat.le_refl _) (.cells c3 T3)
  refine ⟨(((Below.refl _ w).alloc (Nat.le_refl _) _).alloc (by simp) _).alloc (by simp; omega) _, ?_, ?_, l3⟩
  · exact (b2.block _ (by rw [s2]; omega)).trans ((b1.block _ (by rw [s1]; omega)).trans l1)
  · exact (b2.block _ (by rw [s2]; omega)).trans l2
theorem rb_al {w : World} {A : Option Addr} {l : List UInt8} {o : Obj} (h : Rb w A l) : Rb (w.alloc o) A l := h.below ((Below.refl _ _).alloc (Nat.le_refl _) _)
set_option maxRecDepth 100000 in
set_option maxHeartbeats 4000000 in
theorem bytes_far (x y : Int) (A : Option Addr) (l : List UInt8) (c : Nat) (w : World) (hx : 0 ≤ x ∧ x < 18446744073709551616) (hy : 0 ≤ y ∧ y < 18446744073709551616) (h : Rb w A l) (hA : A = none → c = 0) (hc : l.length ≤ c) (hl : 100 < l.length) :
    Calls Try.prog 5 #[.int .u64 x, .int .u64 y, .slice A l.length c] w fun e w' => e = .returned (.bool true) ∧ Below w.heap.size w w' := by
  have q0 := fun op t W x k => guard_ev op t W x k
  have q1 := fun W k => eql_ev W k
  have q2 := fun W k => neq_ev W k
  have d1 : decide (100 < (l.length : Int)) = true := decide_eq_true (by omega)
  generalize l.length = N at *
  clear hx hy h hA hc hl
  go_enter Try.func5, Try.ntmps5
  go_wp2_with (go_at_call 8; refine (alive15_any _).mono ?_; rintro e w' ⟨rfl, rfl⟩)
  go_ret
  exact ⟨rfl, Below.refl _ _⟩
set_option maxRecDepth 100000 in
set_option maxHeartbeats 4000000 in
theorem bytes_eight (x y : Int) (A : Option Addr) (l : List UInt8) (c : Nat) (w : World) (hx : 0 ≤ x ∧ x < 18446744073709551616) (hy : 0 ≤ y ∧ y < 18446744073709551616) (h : Rb w A l) (hA : A = none → c = 0) (hc : l.length ≤ c) (hn : l.length ≤ 100) (hl : l.length = 8) :
    Calls Try.prog 5 #[.int .u64 x, .int .u64 y, .slice A l.length c] w fun e w' => e = .returned (.bool true) ∧ Below w.heap.size w w' := by
  have q0 := fun op t W x k => guard_ev op t W x k
  have q1 := fun W k => eql_ev W k
  have q2 := fun W k => neq_ev W k
  have d1 : decide (100 < (l.length : Int)) = false := decide_eq_false (by omega)
  have d2 : ((l.length : Int) == 8) = true := beq_iff_eq.2 (by omega)
  have d3 : ((l.length : Int) != 8) = false := bne_eq_false_iff_eq.2 (by omega)
  have d4 : ((l.length : Int) == 4) = false := beq_eq_false_iff_ne.2 (by omega)
  have d5 : ((l.length : Int) != 4) = true := bne_iff_ne.2 (by omega)
  obtain ⟨n, rfl⟩ : ∃ n : Nat, x = (n : Int) := ⟨x.toNat, by omega⟩
  have hnx : n < 18446744073709551616 := by omega
  have HB8 := Lib.hid (fun w => sbytes32_any n w hnx)
  have HB4 := Lib.hid (fun w => sbytes16_any (n % 4294967296) w (by omega))
  have hn8 := fun w => number_any n 8 w (by decide) hnx
  have hn4 := fun w => number_any (n % 4294967296) 4 w (by decide) (by omega)
  rw [show ((8 : Nat) : Int) = 8 from rfl] at hn8
  rw [show ((4 : Nat) : Int) = 4 from rfl] at hn4
  have HN8 := Lib.hid hn8; have HN4 := Lib.hid hn4
  clear hn8 hn4
  rw [show ((n / 4294967296 : Nat) : Int) = (n : Int) / 4294967296 by omega, show ((n % 4294967296 : Nat) : Int) = (n : Int) % 4294967296 by omega] at HB8
  rw [show ((n % 4294967296 / 65536 : Nat) : Int) = (n : Int) / 65536 % 65536 by omega, show ((n % 4294967296 % 65536 : Nat) : Int) = (n : Int) % 65536 by omega] at HB4
  rw [show ((n % 4294967296 : Nat) : Int) = (n : Int) % 4294967296 by omega] at HN4
  have HSu := Lib.hid (fun w => ssub_any (n : Int) y w hx.1 hx.2 hy.1 hy.2)
  have HZ := Lib.hid (fun w => szero_any (n : Int) w hx.1 hx.2)
  generalize be 8 n = L8 at *
  generalize be 4 (n % 4294967296) = L4 at *
  generalize (n : Int) = x at *
  obtain ⟨hx1, hx2⟩ := hx
  obtain ⟨hy1, hy2⟩ := hy
  have r1 : IntKind.u32.wrap (x / 4294967296) = x / 4294967296 := by rw [IntKind.wrap_u32]; omega
  have r2 : IntKind.u32.wrap x = x % 4294967296 := IntKind.wrap_u32 x
  have r3 : IntKind.u32.wrap (y / 4294967296) = y / 4294967296 := by rw [IntKind.wrap_u32]; omega
  have r4 : IntKind.u32.wrap y = y % 4294967296 := IntKind.wrap_u32 y
  have r5 : IntKind.u16.wrap (x / 65536) = x / 65536 % 65536 := IntKind.wrap_u16 _
  have r6 : IntKind.u16.wrap x = x % 65536 := IntKind.wrap_u16 x
  have r7 : x.tmod 4294967296 = x % 4294967296 := Int.tmod_eq_emod_of_nonneg hx1
  have HV := Lib.hid (fun (A1 : Option Addr) (c1 : Nat) W (h : Rb W A1 l) => ovalue_wide A1 l c1 W h (by omega))
  have hlt := ebv_lt l
  rw [hl, show (256 : Nat) ^ 8 = 18446744073709551616 by decide] at hlt
  rw [Nat.mod_eq_of_lt hlt] at HV
  have HP := Lib.hid (fun (A1 : Option Addr) (c1 : Nat) W (h : Rb W A1 l) (hA : A1 = none → c1 = 0) (hc : l.length ≤ c1) => sparse32_yes A1 l c1 W h hA hc hl)
  have HQ := Lib.hid (fun (A1 : Option Addr) (c1 : Nat) W => sparse16_no A1 l c1 W (by omega))
  rw [show ((ebv l / 4294967296 : Nat) : Int) = (ebv l : Int) / 4294967296 by omega, show ((ebv l % 4294967296 : Nat) : Int) = (ebv l : Int) % 4294967296 by omega] at HP
  generalize hv : (ebv l : Int) = v at *
  have v0 : 0 ≤ v ∧ v < 18446744073709551616 := by omega
  have t1 : IntKind.u32.wrap (v / 4294967296) = v / 4294967296 := by rw [IntKind.wrap_u32]; omega
  have t2 : IntKind.u32.wrap v = v % 4294967296 := IntKind.wrap_u32 v
  have HH := Lib.hid h; have HA := Lib.hid hA; have HLN := Lib.hid hn; have HLC := Lib.hid hc
  obtain ⟨W0, hW0⟩ : ∃ W0, W0 = ((w.alloc (.cells #[.int .u32 (x / 4294967296), .int .u32 (x % 4294967296)] 43)).alloc (.cells #[.int .u32 (y / 4294967296), .int .u32 (y % 4294967296)] 43)).alloc (.cells #[.int .u16 (x / 65536 % 65536), .int .u16 (x % 65536)] 32) := ⟨_, rfl⟩
  obtain ⟨hb0, l1, l2, l3⟩ := box3_15 w #[.int .u32 (x / 4294967296), .int .u32 (x % 4294967296)] #[.int .u32 (y / 4294967296), .int .u32 (y % 4294967296)] #[.int .u16 (x / 65536 % 65536), .int .u16 (x % 65536)] 43 43 32
  rw [← hW0] at hb0 l1 l2 l3
  have HC : Hid (∀ W, Below W0.heap.size W0 W → W.cell? ⟨w.heap.size, 0, none⟩ = some (.int .u32 (x / 4294967296)) ∧ W.cell? ⟨w.heap.size, 1, none⟩ = some (.int .u32 (x % 4294967296)) ∧ W.cell? ⟨w.heap.size + 1, 0, none⟩ = some (.int .u32 (y / 4294967296)) ∧ W.cell? ⟨w.heap.size + 1, 1, none⟩ = some (.int .u32 (y % 4294967296)) ∧ W.cell? ⟨w.heap.size + 1 + 1, 0, none⟩ = some (.int .u16 (x / 65536 % 65536)) ∧ W.cell? ⟨w.heap.size + 1 + 1, 1, none⟩ = some (.int .u16 (x % 65536))) := Lib.hid fun W hk => by
    have a1 := (hk.block _ (bk_lt l1)).trans l1
    have a2 := (hk.block _ (bk_lt l2)).trans l2
    have a3 := (hk.block _ (bk_lt l3)).trans l3
    exact ⟨bk_cell a1 0, bk_cell a1 1, bk_cell a2 0, bk_cell a2 1, bk_cell a3 0, bk_cell a3 1⟩
  have B := Lib.hid hb0
  have Q : Hid (Below W0.heap.size W0 W0) := Lib.hid (Below.refl _ _)
  obtain ⟨c0, c1, c2, c3, c4, c5⟩ := HC.out _ Q.out
  clear l1 l2 l3 hb0 h hA hc hn hl hnx hx1 hx2 hy1 hy2 hlt hv v0
  go_enter Try.func5, Try.ntmps5
  go_upto_region 7 with (go_at_call 8; refine (alive15_any _).mono ?_; rintro e w' ⟨rfl, rfl⟩)
  rw [← hW0]; clear hW0
  go_upto_region 9 with first
    | (go_at_call 27; refine (HB8.out _).mono ?_; rintro e w2 ⟨g1, hg1, rfl, hk, hb⟩; have K1 := Lib.hid hk; have Q := Lib.hid (Q.out.trans (hb.mono Q.out.size)); obtain ⟨c0, c1, c2, c3, c4, c5⟩ := HC.out _ Q.out; clear hb)
    | (go_at_call_of 28 (Value.int IntKind.u64 x); refine (HN8.out _).mono ?_; rintro e w3 ⟨rfl, hk, hb⟩; have K2 := Lib.hid hk; have K1 := Lib.hid (K1.out.below hb K1.out.lt); have Q := Lib.hid (Q.out.trans (hb.mono Q.out.size)); obtain ⟨c0, c1, c2, c3, c4, c5⟩ := HC.out _ Q.out; clear hb)
    | (go_at_call_of 26 (Value.slice (some ⟨g1, 0, none⟩) L8.length L8.length); refine (nsame_any (some ⟨g1, 0, none⟩) (some ⟨w2.heap.size, 0, none⟩) L8 _ _ _ K1.out.whole (fun h => by cases h) K2.out.whole (fun h => by cases h)).mono ?_; rintro e w' ⟨rfl, rfl⟩)
    | (go_at_call 29; refine (HB4.out _).mono ?_; rintro e w4 ⟨g2, hg2, rfl, hk, hb⟩; have K3 := Lib.hid hk; have Q := Lib.hid (Q.out.trans (hb.mono Q.out.size)); obtain ⟨c0, c1, c2, c3, c4, c5⟩ := HC.out _ Q.out; clear hb)
    | (go_at_call 28; refine (HN4.out _).mono ?_; rintro e w5 ⟨rfl, hk, hb⟩; have K4 := Lib.hid hk; have K3 := Lib.hid (K3.out.below hb K3.out.lt); have Q := Lib.hid (Q.out.trans (hb.mono Q.out.size)); obtain ⟨c0, c1, c2, c3, c4, c5⟩ := HC.out _ Q.out; clear hb)
    | (go_at_call 26; refine (nsame_any (some ⟨g2, 0, none⟩) (some ⟨w4.heap.size, 0, none⟩) L4 _ _ _ K3.out.whole (fun h => by cases h) K4.out.whole (fun h => by cases h)).mono ?_; rintro e w' ⟨rfl, rfl⟩)
    | (go_at_call 30; refine (HSu.out _).mono ?_; rintro e w6 ⟨rfl, hb⟩; have Q := Lib.hid (Q.out.trans (hb.mono Q.out.size)); obtain ⟨c0, c1, c2, c3, c4, c5⟩ := HC.out _ Q.out; clear hb)
    | (go_at_call 31; refine (HZ.out _).mono ?_; rintro e w9 ⟨rfl, hb⟩; have Q := Lib.hid (Q.out.trans (hb.mono Q.out.size)); clear hb)
  replace B := Lib.hid (B.out.trans (Q.out.mono B.out.size))
  clear HC Q HB8 HB4 HN8 HN4 HSu HZ r1 r2 r3 r4 r5 r6 r7
  go_upto_region 11 with first
    | (refine app_bytes (.tmp 71) (.tmp 72) w9.heap.size _ [] (own_nil _) A l c (HH.out.below (B.out.alloc B.out.size _)) HA.out (by decide) (by have := HLN.out; omega) (by simp) rfl rfl rfl rfl ?_; intro A1 c1 w10 hown R1' N1' L1' hb; have R := Lib.hid R1'; have N1 := Lib.hid N1'; have L1 := Lib.hid L1'; have B := Lib.hid (B.out.trans ((((Below.refl _ w9).alloc (Nat.le_refl _) _).trans hb).mono B.out.size)); clear hown R1' N1' L1' hb)
    | (go_at_call 32; refine (HP.out A1 c1 _ R.out N1.out L1.out).mono ?_; rintro e w11 ⟨rfl, hb⟩; have B := Lib.hid (B.out.trans (hb.mono B.out.size)); have R := Lib.hid (R.out.below hb); clear hb)
  obtain ⟨W1, hW1⟩ : ∃ W1, W1 = w11.alloc (.cells #[.int .u32 (v / 4294967296), .int .u32 (v % 4294967296)] 43) := ⟨_, rfl⟩
  have KW1 : Hid (W1.heap[w11.heap.size]? = some (.cells #[.int .u32 (v / 4294967296), .int .u32 (v % 4294967296)] 43 (0, 0))) := Lib.hid (by rw [hW1]; exact heap_alloc_new _ _)
  replace B : Hid (Below w.heap.size w W1) := Lib.hid (by rw [hW1]; exact B.out.alloc B.out.size _)
  replace R : Hid (Rb W1 A1 l) := Lib.hid (by rw [hW1]; exact rb_al R.out)
  rw [← hW1]
  clear hW1
  generalize w11.heap.size = gp at *
  go_upto_region 12 with (go_at_call 33; refine (HQ.out A1 c1 _ ).mono ?_; rintro e w12 ⟨rfl, hb⟩; have B := Lib.hid (B.out.trans (hb.mono B.out.size)); have R := Lib.hid (R.out.below hb); have KW1 := Lib.hid ((hb.block _ (bk_lt KW1.out)).trans KW1.out); clear hb)
  obtain ⟨W2, hW2⟩ : ∃ W2, W2 = w12.alloc (.cells #[.int .u16 0, .int .u16 0] 32) := ⟨_, rfl⟩
  have KW2 : Hid (W2.heap[w12.heap.size]? = some (.cells #[.int .u16 0, .int .u16 0] 32 (0, 0))) := Lib.hid (by rw [hW2]; exact heap_alloc_new _ _)
  replace B : Hid (Below w.heap.size w W2) := Lib.hid (by rw [hW2]; exact B.out.alloc B.out.size _)
  replace R : Hid (Rb W2 A1 l) := Lib.hid (by rw [hW2]; exact rb_al R.out)
  rw [← hW2]
  replace KW1 : Hid (W2.heap[gp]? = some (.cells #[.int .u32 (v / 4294967296), .int .u32 (v % 4294967296)] 43 (0, 0))) := Lib.hid (by rw [hW2]; exact (((Below.refl _ w12).alloc (Nat.le_refl _) _).block _ (bk_lt KW1.out)).trans KW1.out)
  clear hW2
  generalize w12.heap.size = gq at *
  have p0 := bk_cell KW1.out 0; have p1 := bk_cell KW1.out 1; have p2 := bk_cell KW2.out 0; have p3 := bk_cell KW2.out 1
  go_wp2_with first
    | (go_at_call 26; refine (nsame_any A1 A l c1 c _ R.out N1.out (HH.out.below B.out) HA.out).mono ?_; rintro e w' ⟨rfl, rfl⟩)
    | (go_at_call 34; refine (HV.out A c _ (HH.out.below B.out)).mono ?_; rintro e w' ⟨rfl, rfl⟩)
    | (go_at_call 14; refine (is_any 2 2 _ (by decide) (by decide)).mono ?_; rintro e w' ⟨rfl, rfl⟩)
  go_ret
  exact ⟨by simp, B.out⟩

set_option maxRecDepth 100000 in
set_option maxHeartbeats 4000000 in
theorem bytes_four (x y : Int) (A : Option Addr) (l : List UInt8) (c : Nat) (w : World) (hx : 0 ≤ x ∧ x < 18446744073709551616) (hy : 0 ≤ y ∧ y < 18446744073709551616) (h : Rb w A l) (hA : A = none → c = 0) (hc : l.length ≤ c) (hn : l.length ≤ 100) (hl : l.length = 4) :
    Calls Try.prog 5 #[.int .u64 x, .int .u64 y, .slice A l.length c] w fun e w' => e = .returned (.bool true) ∧ Below w.heap.size w w' := by
  have q0 := fun op t W x k => guard_ev op t W x k
  have q1 := fun W k => eql_ev W k
  have q2 := fun W k => neq_ev W k
  have d1 : decide (100 < (l.length : Int)) = false := decide_eq_false (by omega)
  have d2 : ((l.length : Int) == 8) = false := beq_eq_false_iff_ne.2 (by omega)
  have d3 : ((l.length : Int) != 8) = true := bne_iff_ne.2 (by omega)
  have d4 : ((l.length : Int) == 4) = true := beq_iff_eq.2 (by omega)
  have d5 : ((l.length : Int) != 4) = false := bne_eq_false_iff_eq.2 (by omega)
  obtain ⟨n, rfl⟩ : ∃ n : Nat, x = (n : Int) := ⟨x.toNat, by omega⟩
  have hnx : n < 18446744073709551616 := by omega
  have HB8 := Lib.hid (fun w => sbytes32_any n w hnx)
  have HB4 := Lib.hid (fun w => sbytes16_any (n % 4294967296) w (by omega))
  have hn8 := fun w => number_any n 8 w (by decide) hnx
  have hn4 := fun w => number_any (n % 4294967296) 4 w (by decide) (by omega)
  rw [show ((8 : Nat) : Int) = 8 from rfl] at hn8
  rw [show ((4 : Nat) : Int) = 4 from rfl] at hn4
  have HN8 := Lib.hid hn8; have HN4 := Lib.hid hn4
  clear hn8 hn4
  rw [show ((n / 4294967296 : Nat) : Int) = (n : Int) / 4294967296 by omega, show ((n % 4294967296 : Nat) : Int) = (n : Int) % 4294967296 by omega] at HB8
  rw [show ((n % 4294967296 / 65536 : Nat) : Int) = (n : Int) / 65536 % 65536 by omega, show ((n % 4294967296 % 65536 : Nat) : Int) = (n : Int) % 65536 by omega] at HB4
  rw [show ((n % 4294967296 : Nat) : Int) = (n : Int) % 4294967296 by omega] at HN4
  have HSu := Lib.hid (fun w => ssub_any (n : Int) y w hx.1 hx.2 hy.1 hy.2)
  have HZ := Lib.hid (fun w => szero_any (n : Int) w hx.1 hx.2)
  generalize be 8 n = L8 at *
  generalize be 4 (n % 4294967296) = L4 at *
  generalize (n : Int) = x at *
  obtain ⟨hx1, hx2⟩ := hx
  obtain ⟨hy1, hy2⟩ := hy
  have r1 : IntKind.u32.wrap (x / 4294967296) = x / 4294967296 := by rw [IntKind.wrap_u32]; omega
  have r2 : IntKind.u32.wrap x = x % 4294967296 := IntKind.wrap_u32 x
  have r3 : IntKind.u32.wrap (y / 4294967296) = y / 4294967296 := by rw [IntKind.wrap_u32]; omega
  have r4 : IntKind.u32.wrap y = y % 4294967296 := IntKind.wrap_u32 y
  have r5 : IntKind.u16.wrap (x / 65536) = x / 65536 % 65536 := IntKind.wrap_u16 _
  have r6 : IntKind.u16.wrap x = x % 65536 := IntKind.wrap_u16 x
  have r7 : x.tmod 4294967296 = x % 4294967296 := Int.tmod_eq_emod_of_nonneg hx1
  have HV := Lib.hid (fun (A1 : Option Addr) (c1 : Nat) W (h : Rb W A1 l) => ovalue_wide A1 l c1 W h (by omega))
  have hlt := ebv_lt l
  rw [hl, show (256 : Nat) ^ 4 = 4294967296 by decide] at hlt
  rw [Nat.mod_eq_of_lt (by omega)] at HV
  have HQ := Lib.hid (fun (A1 : Option Addr) (c1 : Nat) W (h : Rb W A1 l) (hA : A1 = none → c1 = 0) (hc : l.length ≤ c1) => sparse16_yes A1 l c1 W h hA hc hl)
  have HP := Lib.hid (fun (A1 : Option Addr) (c1 : Nat) W => sparse32_no A1 l c1 W (by omega))
  rw [show ((ebv l / 65536 : Nat) : Int) = (ebv l : Int) / 65536 by omega, show ((ebv l % 65536 : Nat) : Int) = (ebv l : Int) % 65536 by omega] at HQ
  generalize hv : (ebv l : Int) = v at *
  have v0 : 0 ≤ v ∧ v < 4294967296 := by omega
  have t1 : IntKind.u16.wrap (v / 65536) = v / 65536 := by rw [IntKind.wrap_u16]; omega
  have t2 : IntKind.u16.wrap v = v % 65536 := IntKind.wrap_u16 v
  have HH := Lib.hid h; have HA := Lib.hid hA; have HLN := Lib.hid hn; have HLC := Lib.hid hc
  obtain ⟨W0, hW0⟩ : ∃ W0, W0 = ((w.alloc (.cells #[.int .u32 (x / 4294967296), .int .u32 (x % 4294967296)] 43)).alloc (.cells #[.int .u32 (y / 4294967296), .int .u32 (y % 4294967296)] 43)).alloc (.cells #[.int .u16 (x / 65536 % 65536), .int .u16 (x % 65536)] 32) := ⟨_, rfl⟩
  obtain ⟨hb0, l1, l2, l3⟩ := box3_15 w #[.int .u32 (x / 4294967296), .int .u32 (x % 4294967296)] #[.int .u32 (y / 4294967296), .int .u32 (y % 4294967296)] #[.int .u16 (x / 65536 % 65536), .int .u16 (x % 65536)] 43 43 32
  rw [← hW0] at hb0 l1 l2 l3
  have HC : Hid (∀ W, Below W0.heap.size W0 W → W.cell? ⟨w.heap.size, 0, none⟩ = some (.int .u32 (x / 4294967296)) ∧ W.cell? ⟨w.heap.size, 1, none⟩ = some (.int .u32 (x % 4294967296)) ∧ W.cell? ⟨w.heap.size + 1, 0, none⟩ = some (.int .u32 (y / 4294967296)) ∧ W.cell? ⟨w.heap.size + 1, 1, none⟩ = some (.int .u32 (y % 4294967296)) ∧ W.cell? ⟨w.heap.size + 1 + 1, 0, none⟩ = some (.int .u16 (x / 65536 % 65536)) ∧ W.cell? ⟨w.heap.size + 1 + 1, 1, none⟩ = some (.int .u16 (x % 65536))) := Lib.hid fun W hk => by
    have a1 := (hk.block _ (bk_lt l1)).trans l1
    have a2 := (hk.block _ (bk_lt l2)).trans l2
    have a3 := (hk.block _ (bk_lt l3)).trans l3
    exact ⟨bk_cell a1 0, bk_cell a1 1, bk_cell a2 0, bk_cell a2 1, bk_cell a3 0, bk_cell a3 1⟩
  have B := Lib.hid hb0
  have Q : Hid (Below W0.heap.size W0 W0) := Lib.hid (Below.refl _ _)
  obtain ⟨c0, c1, c2, c3, c4, c5⟩ := HC.out _ Q.out
  clear l1 l2 l3 hb0 h hA hc hn hl hnx hx1 hx2 hy1 hy2 hlt hv v0
  go_enter Try.func5, Try.ntmps5
  go_upto_region 7 with (go_at_call 8; refine (alive15_any _).mono ?_; rintro e w' ⟨rfl, rfl⟩)
  rw [← hW0]; clear hW0
  go_upto_region 9 with first
    | (go_at_call 27; refine (HB8.out _).mono ?_; rintro e w2 ⟨g1, hg1, rfl, hk, hb⟩; have K1 := Lib.hid hk; have Q := Lib.hid (Q.out.trans (hb.mono Q.out.size)); obtain ⟨c0, c1, c2, c3, c4, c5⟩ := HC.out _ Q.out; clear hb)
    | (go_at_call_of 28 (Value.int IntKind.u64 x); refine (HN8.out _).mono ?_; rintro e w3 ⟨rfl, hk, hb⟩; have K2 := Lib.hid hk; have K1 := Lib.hid (K1.out.below hb K1.out.lt); have Q := Lib.hid (Q.out.trans (hb.mono Q.out.size)); obtain ⟨c0, c1, c2, c3, c4, c5⟩ := HC.out _ Q.out; clear hb)
    | (go_at_call_of 26 (Value.slice (some ⟨g1, 0, none⟩) L8.length L8.length); refine (nsame_any (some ⟨g1, 0, none⟩) (some ⟨w2.heap.size, 0, none⟩) L8 _ _ _ K1.out.whole (fun h => by cases h) K2.out.whole (fun h => by cases h)).mono ?_; rintro e w' ⟨rfl, rfl⟩)
    | (go_at_call 29; refine (HB4.out _).mono ?_; rintro e w4 ⟨g2, hg2, rfl, hk, hb⟩; have K3 := Lib.hid hk; have Q := Lib.hid (Q.out.trans (hb.mono Q.out.size)); obtain ⟨c0, c1, c2, c3, c4, c5⟩ := HC.out _ Q.out; clear hb)
    | (go_at_call 28; refine (HN4.out _).mono ?_; rintro e w5 ⟨rfl, hk, hb⟩; have K4 := Lib.hid hk; have K3 := Lib.hid (K3.out.below hb K3.out.lt); have Q := Lib.hid (Q.out.trans (hb.mono Q.out.size)); obtain ⟨c0, c1, c2, c3, c4, c5⟩ := HC.out _ Q.out; clear hb)
    | (go_at_call 26; refine (nsame_any (some ⟨g2, 0, none⟩) (some ⟨w4.heap.size, 0, none⟩) L4 _ _ _ K3.out.whole (fun h => by cases h) K4.out.whole (fun h => by cases h)).mono ?_; rintro e w' ⟨rfl, rfl⟩)
    | (go_at_call 30; refine (HSu.out _).mono ?_; rintro e w6 ⟨rfl, hb⟩; have Q := Lib.hid (Q.out.trans (hb.mono Q.out.size)); obtain ⟨c0, c1, c2, c3, c4, c5⟩ := HC.out _ Q.out; clear hb)
    | (go_at_call 31; refine (HZ.out _).mono ?_; rintro e w9 ⟨rfl, hb⟩; have Q := Lib.hid (Q.out.trans (hb.mono Q.out.size)); clear hb)
  replace B := Lib.hid (B.out.trans (Q.out.mono B.out.size))
  clear HC Q HB8 HB4 HN8 HN4 HSu HZ r1 r2 r3 r4 r5 r6 r7
  go_upto_region 11 with first
    | (refine app_bytes (.tmp 71) (.tmp 72) w9.heap.size _ [] (own_nil _) A l c (HH.out.below (B.out.alloc B.out.size _)) HA.out (by decide) (by have := HLN.out; omega) (by simp) rfl rfl rfl rfl ?_; intro A1 c1 w10 hown R1' N1' L1' hb; have R := Lib.hid R1'; have N1 := Lib.hid N1'; have L1 := Lib.hid L1'; have B := Lib.hid (B.out.trans ((((Below.refl _ w9).alloc (Nat.le_refl _) _).trans hb).mono B.out.size)); clear hown R1' N1' L1' hb)
    | (go_at_call 32; refine (HP.out A1 c1 _ ).mono ?_; rintro e w11 ⟨rfl, hb⟩; have B := Lib.hid (B.out.trans (hb.mono B.out.size)); have R := Lib.hid (R.out.below hb); clear hb)
  obtain ⟨W1, hW1⟩ : ∃ W1, W1 = w11.alloc (.cells #[.int .u32 0, .int .u32 0] 43) := ⟨_, rfl⟩
  have KW1 : Hid (W1.heap[w11.heap.size]? = some (.cells #[.int .u32 0, .int .u32 0] 43 (0, 0))) := Lib.hid (by rw [hW1]; exact heap_alloc_new _ _)
  replace B : Hid (Below w.heap.size w W1) := Lib.hid (by rw [hW1]; exact B.out.alloc B.out.size _)
  replace R : Hid (Rb W1 A1 l) := Lib.hid (by rw [hW1]; exact rb_al R.out)
  rw [← hW1]
  clear hW1
  generalize w11.heap.size = gp at *
  go_upto_region 12 with (go_at_call 33; refine (HQ.out A1 c1 _ R.out N1.out L1.out).mono ?_; rintro e w12 ⟨rfl, hb⟩; have B := Lib.hid (B.out.trans (hb.mono B.out.size)); have R := Lib.hid (R.out.below hb); have KW1 := Lib.hid ((hb.block _ (bk_lt KW1.out)).trans KW1.out); clear hb)
  obtain ⟨W2, hW2⟩ : ∃ W2, W2 = w12.alloc (.cells #[.int .u16 (v / 65536), .int .u16 (v % 65536)] 32) := ⟨_, rfl⟩
  have KW2 : Hid (W2.heap[w12.heap.size]? = some (.cells #[.int .u16 (v / 65536), .int .u16 (v % 65536)] 32 (0, 0))) := Lib.hid (by rw [hW2]; exact heap_alloc_new _ _)
  replace B : Hid (Below w.heap.size w W2) := Lib.hid (by rw [hW2]; exact B.out.alloc B.out.size _)
  replace R : Hid (Rb W2 A1 l) := Lib.hid (by rw [hW2]; exact rb_al R.out)
  rw [← hW2]
  replace KW1 : Hid (W2.heap[gp]? = some (.cells #[.int .u32 0, .int .u32 0] 43 (0, 0))) := Lib.hid (by rw [hW2]; exact (((Below.refl _ w12).alloc (Nat.le_refl _) _).block _ (bk_lt KW1.out)).trans KW1.out)
  clear hW2
  generalize w12.heap.size = gq at *
  have p0 := bk_cell KW1.out 0; have p1 := bk_cell KW1.out 1; have p2 := bk_cell KW2.out 0; have p3 := bk_cell KW2.out 1
  go_wp2_with first
    | (go_at_call 26; refine (nsame_any A1 A l c1 c _ R.out N1.out (HH.out.below B.out) HA.out).mono ?_; rintro e w' ⟨rfl, rfl⟩)
    | (go_at_call 34; refine (HV.out A c _ (HH.out.below B.out)).mono ?_; rintro e w' ⟨rfl, rfl⟩)
    | (go_at_call 14; refine (is_any 2 2 _ (by decide) (by decide)).mono ?_; rintro e w' ⟨rfl, rfl⟩)
  go_ret
  exact ⟨by simp, B.out⟩

set_option maxRecDepth 100000 in
set_option maxHeartbeats 4000000 in
theorem bytes_other (x y : Int) (A : Option Addr) (l : List UInt8) (c : Nat) (w : World) (hx : 0 ≤ x ∧ x < 18446744073709551616) (hy : 0 ≤ y ∧ y < 18446744073709551616) (h : Rb w A l) (hA : A = none → c = 0) (hc : l.length ≤ c) (hn : l.length ≤ 100) (hl : l.length ≠ 8) (hl4 : l.length ≠ 4) :
    Calls Try.prog 5 #[.int .u64 x, .int .u64 y, .slice A l.length c] w fun e w' => e = .returned (.bool true) ∧ Below w.heap.size w w' := by
  have q0 := fun op t W x k => guard_ev op t W x k
  have q1 := fun W k => eql_ev W k
  have q2 := fun W k => neq_ev W k
  have d1 : decide (100 < (l.length : Int)) = false := decide_eq_false (by omega)
  have d2 : ((l.length : Int) == 8) = false := beq_eq_false_iff_ne.2 (by omega)
  have d3 : ((l.length : Int) != 8) = true := bne_iff_ne.2 (by omega)
  have d4 : ((l.length : Int) == 4) = false := beq_eq_false_iff_ne.2 (by omega)
  have d5 : ((l.length : Int) != 4) = true := bne_iff_ne.2 (by omega)
  obtain ⟨n, rfl⟩ : ∃ n : Nat, x = (n : Int) := ⟨x.toNat, by omega⟩
  have hnx : n < 18446744073709551616 := by omega
  have HB8 := Lib.hid (fun w => sbytes32_any n w hnx)
  have HB4 := Lib.hid (fun w => sbytes16_any (n % 4294967296) w (by omega))
  have hn8 := fun w => number_any n 8 w (by decide) hnx
  have hn4 := fun w => number_any (n % 4294967296) 4 w (by decide) (by omega)
  rw [show ((8 : Nat) : Int) = 8 from rfl] at hn8
  rw [show ((4 : Nat) : Int) = 4 from rfl] at hn4
  have HN8 := Lib.hid hn8; have HN4 := Lib.hid hn4
  clear hn8 hn4
  rw [show ((n / 4294967296 : Nat) : Int) = (n : Int) / 4294967296 by omega, show ((n % 4294967296 : Nat) : Int) = (n : Int) % 4294967296 by omega] at HB8
  rw [show ((n % 4294967296 / 65536 : Nat) : Int) = (n : Int) / 65536 % 65536 by omega, show ((n % 4294967296 % 65536 : Nat) : Int) = (n : Int) % 65536 by omega] at HB4
  rw [show ((n % 4294967296 : Nat) : Int) = (n : Int) % 4294967296 by omega] at HN4
  have HSu := Lib.hid (fun w => ssub_any (n : Int) y w hx.1 hx.2 hy.1 hy.2)
  have HZ := Lib.hid (fun w => szero_any (n : Int) w hx.1 hx.2)
  generalize be 8 n = L8 at *
  generalize be 4 (n % 4294967296) = L4 at *
  generalize (n : Int) = x at *
  obtain ⟨hx1, hx2⟩ := hx
  obtain ⟨hy1, hy2⟩ := hy
  have r1 : IntKind.u32.wrap (x / 4294967296) = x / 4294967296 := by rw [IntKind.wrap_u32]; omega
  have r2 : IntKind.u32.wrap x = x % 4294967296 := IntKind.wrap_u32 x
  have r3 : IntKind.u32.wrap (y / 4294967296) = y / 4294967296 := by rw [IntKind.wrap_u32]; omega
  have r4 : IntKind.u32.wrap y = y % 4294967296 := IntKind.wrap_u32 y
  have r5 : IntKind.u16.wrap (x / 65536) = x / 65536 % 65536 := IntKind.wrap_u16 _
  have r6 : IntKind.u16.wrap x = x % 65536 := IntKind.wrap_u16 x
  have r7 : x.tmod 4294967296 = x % 4294967296 := Int.tmod_eq_emod_of_nonneg hx1
  have HV := Lib.hid (fun (A1 : Option Addr) (c1 : Nat) W (h : Rb W A1 l) => ovalue_wide A1 l c1 W h (by omega))
  have HP := Lib.hid (fun (A1 : Option Addr) (c1 : Nat) W => sparse32_no A1 l c1 W hl)
  have HQ := Lib.hid (fun (A1 : Option Addr) (c1 : Nat) W => sparse16_no A1 l c1 W hl4)
  have HH := Lib.hid h; have HA := Lib.hid hA; have HLN := Lib.hid hn; have HLC := Lib.hid hc
  obtain ⟨W0, hW0⟩ : ∃ W0, W0 = ((w.alloc (.cells #[.int .u32 (x / 4294967296), .int .u32 (x % 4294967296)] 43)).alloc (.cells #[.int .u32 (y / 4294967296), .int .u32 (y % 4294967296)] 43)).alloc (.cells #[.int .u16 (x / 65536 % 65536), .int .u16 (x % 65536)] 32) := ⟨_, rfl⟩
  obtain ⟨hb0, l1, l2, l3⟩ := box3_15 w #[.int .u32 (x / 4294967296), .int .u32 (x % 4294967296)] #[.int .u32 (y / 4294967296), .int .u32 (y % 4294967296)] #[.int .u16 (x / 65536 % 65536), .int .u16 (x % 65536)] 43 43 32
  rw [← hW0] at hb0 l1 l2 l3
  have HC : Hid (∀ W, Below W0.heap.size W0 W → W.cell? ⟨w.heap.size, 0, none⟩ = some (.int .u32 (x / 4294967296)) ∧ W.cell? ⟨w.heap.size, 1, none⟩ = some (.int .u32 (x % 4294967296)) ∧ W.cell? ⟨w.heap.size + 1, 0, none⟩ = some (.int .u32 (y / 4294967296)) ∧ W.cell? ⟨w.heap.size + 1, 1, none⟩ = some (.int .u32 (y % 4294967296)) ∧ W.cell? ⟨w.heap.size + 1 + 1, 0, none⟩ = some (.int .u16 (x / 65536 % 65536)) ∧ W.cell? ⟨w.heap.size + 1 + 1, 1, none⟩ = some (.int .u16 (x % 65536))) := Lib.hid fun W hk => by
    have a1 := (hk.block _ (bk_lt l1)).trans l1
    have a2 := (hk.block _ (bk_lt l2)).trans l2
    have a3 := (hk.block _ (bk_lt l3)).trans l3
    exact ⟨bk_cell a1 0, bk_cell a1 1, bk_cell a2 0, bk_cell a2 1, bk_cell a3 0, bk_cell a3 1⟩
  have B := Lib.hid hb0
  have Q : Hid (Below W0.heap.size W0 W0) := Lib.hid (Below.refl _ _)
  obtain ⟨c0, c1, c2, c3, c4, c5⟩ := HC.out _ Q.out
  clear l1 l2 l3 hb0 h hA hc hn hl hnx hx1 hx2 hy1 hy2 hl4
  go_enter Try.func5, Try.ntmps5
  go_upto_region 7 with (go_at_call 8; refine (alive15_any _).mono ?_; rintro e w' ⟨rfl, rfl⟩)
  rw [← hW0]; clear hW0
  go_upto_region 9 with first
    | (go_at_call 27; refine (HB8.out _).mono ?_; rintro e w2 ⟨g1, hg1, rfl, hk, hb⟩; have K1 := Lib.hid hk; have Q := Lib.hid (Q.out.trans (hb.mono Q.out.size)); obtain ⟨c0, c1, c2, c3, c4, c5⟩ := HC.out _ Q.out; clear hb)
    | (go_at_call_of 28 (Value.int IntKind.u64 x); refine (HN8.out _).mono ?_; rintro e w3 ⟨rfl, hk, hb⟩; have K2 := Lib.hid hk; have K1 := Lib.hid (K1.out.below hb K1.out.lt); have Q := Lib.hid (Q.out.trans (hb.mono Q.out.size)); obtain ⟨c0, c1, c2, c3, c4, c5⟩ := HC.out _ Q.out; clear hb)
    | (go_at_call_of 26 (Value.slice (some ⟨g1, 0, none⟩) L8.length L8.length); refine (nsame_any (some ⟨g1, 0, none⟩) (some ⟨w2.heap.size, 0, none⟩) L8 _ _ _ K1.out.whole (fun h => by cases h) K2.out.whole (fun h => by cases h)).mono ?_; rintro e w' ⟨rfl, rfl⟩)
    | (go_at_call 29; refine (HB4.out _).mono ?_; rintro e w4 ⟨g2, hg2, rfl, hk, hb⟩; have K3 := Lib.hid hk; have Q := Lib.hid (Q.out.trans (hb.mono Q.out.size)); obtain ⟨c0, c1, c2, c3, c4, c5⟩ := HC.out _ Q.out; clear hb)
    | (go_at_call 28; refine (HN4.out _).mono ?_; rintro e w5 ⟨rfl, hk, hb⟩; have K4 := Lib.hid hk; have K3 := Lib.hid (K3.out.below hb K3.out.lt); have Q := Lib.hid (Q.out.trans (hb.mono Q.out.size)); obtain ⟨c0, c1, c2, c3, c4, c5⟩ := HC.out _ Q.out; clear hb)
    | (go_at_call 26; refine (nsame_any (some ⟨g2, 0, none⟩) (some ⟨w4.heap.size, 0, none⟩) L4 _ _ _ K3.out.whole (fun h => by cases h) K4.out.whole (fun h => by cases h)).mono ?_; rintro e w' ⟨rfl, rfl⟩)
    | (go_at_call 30; refine (HSu.out _).mono ?_; rintro e w6 ⟨rfl, hb⟩; have Q := Lib.hid (Q.out.trans (hb.mono Q.out.size)); obtain ⟨c0, c1, c2, c3, c4, c5⟩ := HC.out _ Q.out; clear hb)
    | (go_at_call 31; refine (HZ.out _).mono ?_; rintro e w9 ⟨rfl, hb⟩; have Q := Lib.hid (Q.out.trans (hb.mono Q.out.size)); clear hb)
  replace B := Lib.hid (B.out.trans (Q.out.mono B.out.size))
  clear HC Q HB8 HB4 HN8 HN4 HSu HZ r1 r2 r3 r4 r5 r6 r7
  go_upto_region 11 with first
    | (refine app_bytes (.tmp 71) (.tmp 72) w9.heap.size _ [] (own_nil _) A l c (HH.out.below (B.out.alloc B.out.size _)) HA.out (by decide) (by have := HLN.out; omega) (by simp) rfl rfl rfl rfl ?_; intro A1 c1 w10 hown R1' N1' L1' hb; have R := Lib.hid R1'; have N1 := Lib.hid N1'; have L1 := Lib.hid L1'; have B := Lib.hid (B.out.trans ((((Below.refl _ w9).alloc (Nat.le_refl _) _).trans hb).mono B.out.size)); clear hown R1' N1' L1' hb)
    | (go_at_call 32; refine (HP.out A1 c1 _ ).mono ?_; rintro e w11 ⟨rfl, hb⟩; have B := Lib.hid (B.out.trans (hb.mono B.out.size)); have R := Lib.hid (R.out.below hb); clear hb)
  obtain ⟨W1, hW1⟩ : ∃ W1, W1 = w11.alloc (.cells #[.int .u32 0, .int .u32 0] 43) := ⟨_, rfl⟩
  have KW1 : Hid (W1.heap[w11.heap.size]? = some (.cells #[.int .u32 0, .int .u32 0] 43 (0, 0))) := Lib.hid (by rw [hW1]; exact heap_alloc_new _ _)
  replace B : Hid (Below w.heap.size w W1) := Lib.hid (by rw [hW1]; exact B.out.alloc B.out.size _)
  replace R : Hid (Rb W1 A1 l) := Lib.hid (by rw [hW1]; exact rb_al R.out)
  rw [← hW1]
  clear hW1
  generalize w11.heap.size = gp at *
  go_upto_region 12 with (go_at_call 33; refine (HQ.out A1 c1 _ ).mono ?_; rintro e w12 ⟨rfl, hb⟩; have B := Lib.hid (B.out.trans (hb.mono B.out.size)); have R := Lib.hid (R.out.below hb); have KW1 := Lib.hid ((hb.block _ (bk_lt KW1.out)).trans KW1.out); clear hb)
  obtain ⟨W2, hW2⟩ : ∃ W2, W2 = w12.alloc (.cells #[.int .u16 0, .int .u16 0] 32) := ⟨_, rfl⟩
  have KW2 : Hid (W2.heap[w12.heap.size]? = some (.cells #[.int .u16 0, .int .u16 0] 32 (0, 0))) := Lib.hid (by rw [hW2]; exact heap_alloc_new _ _)
  replace B : Hid (Below w.heap.size w W2) := Lib.hid (by rw [hW2]; exact B.out.alloc B.out.size _)
  replace R : Hid (Rb W2 A1 l) := Lib.hid (by rw [hW2]; exact rb_al R.out)
  rw [← hW2]
  replace KW1 : Hid (W2.heap[gp]? = some (.cells #[.int .u32 0, .int .u32 0] 43 (0, 0))) := Lib.hid (by rw [hW2]; exact (((Below.refl _ w12).alloc (Nat.le_refl _) _).block _ (bk_lt KW1.out)).trans KW1.out)
  clear hW2
  generalize w12.heap.size = gq at *
  have p0 := bk_cell KW1.out 0; have p1 := bk_cell KW1.out 1; have p2 := bk_cell KW2.out 0; have p3 := bk_cell KW2.out 1
  go_wp2_with first
    | (go_at_call 26; refine (nsame_any A1 A l c1 c _ R.out N1.out (HH.out.below B.out) HA.out).mono ?_; rintro e w' ⟨rfl, rfl⟩)
    | (go_at_call 34; refine (HV.out A c _ (HH.out.below B.out)).mono ?_; rintro e w' ⟨rfl, rfl⟩)
    | (go_at_call 14; refine (is_any 2 2 _ (by decide) (by decide)).mono ?_; rintro e w' ⟨rfl, rfl⟩)
  go_ret
  exact ⟨by simp, B.out⟩

theorem bytes_walk (x y : Int) (A : Option Addr) (l : List UInt8) (c : Nat) (w : World) (hx : 0 ≤ x ∧ x < 18446744073709551616) (hy : 0 ≤ y ∧ y < 18446744073709551616) (h : Rb w A l) (hA : A = none → c = 0) (hc : l.length ≤ c) :
    Calls Try.prog 5 #[.int .u64 x, .int .u64 y, .slice A l.length c] w fun e w' => e = .returned (.bool true) ∧ Below w.heap.size w w' := by
  by_cases a : 100 < l.length
  · exact bytes_far x y A l c w hx hy h hA hc a
  by_cases b : l.length = 8
  · exact bytes_eight x y A l c w hx hy h hA hc (by omega) b
  by_cases d : l.length = 4
  · exact bytes_four x y A l c w hx hy h hA hc (by omega) d
  exact bytes_other x y A l c w hx hy h hA hc (by omega) b d
end Go.Proofs.Ytbffpallhofonaa
