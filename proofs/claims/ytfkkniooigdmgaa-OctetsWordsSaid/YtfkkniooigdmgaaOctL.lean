/- The walk of OctetsWords. -/
import Derived.Test.YtfkkniooigdmgaaOctOne8
import Derived.Test.YtfkkniooigdmgaaOctOne16
import Derived.Test.YtfkkniooigdmgaaOctOne32
import Derived.Test.YtfkkniooigdmgaaOctOne64
import Derived.Deep.QuietTactic
namespace Go.Proofs.Ytfkkniooigdmgaa
open Go.RowKit Go.WideShapes Go.ChangeShapes
set_option linter.unusedVariables false

set_option maxHeartbeats 1600000 in
set_option maxRecDepth 100000 in
theorem words_walk (A : Option Addr) (l : List UInt8) (c : Nat) (p q x : Int) (w : World) (h : Rb w A l) (hA : A = none → c = 0) (hc : l.length ≤ c) (hp : fits p) (hq : fits q) (hx : (Lit.int .u64 x).wf = true) :
    Calls Try.prog 3 #[.slice A l.length c, .agg #[.int .i64 p, .int .i64 q], .int .u64 x] w fun e w' => e = .returned (.bool true) ∧ Below w.heap.size w w' := by
  obtain ⟨n, rfl, hn⟩ : ∃ n : Nat, x = (n : Int) ∧ n < 18446744073709551616 := by
    simp [Lit.wf, IntKind.min, IntKind.max, IntKind.signed, IntKind.bits] at hx
    exact ⟨x.toNat, by omega, by omega⟩
  have HH := Lib.hid h; have HA := Lib.hid hA; have HC := Lib.hid hc
  clear h hA hc hx
  by_cases hl : 300 < l.length
  · go_enter Try.func3, Try.ntmps3
    go_wp2_with (go_at_call 6; refine (alive_any _).mono ?_; rintro e w1 ⟨rfl, hb1⟩; have HB1 := Lib.hid (((Below.refl _ w).alloc (Nat.le_refl _) _).trans (hb1.mono (by simp))); clear hb1)
    go_ret
    exact ⟨rfl, HB1.out⟩
  · have h8 : IntKind.u8.wrap (n : Int) = ((n % 256 : Nat) : Int) := by simp [IntKind.wrap, IntKind.signed, IntKind.bits]
    have h16 : IntKind.u16.wrap (n : Int) = ((n % 65536 : Nat) : Int) := by simp [IntKind.wrap, IntKind.signed, IntKind.bits]
    have h32 : IntKind.u32.wrap (n : Int) = ((n % 4294967296 : Nat) : Int) := by simp [IntKind.wrap, IntKind.signed, IntKind.bits]
    have o8 := fun W (hb : Below w.heap.size w W) => one8_any A l c p q (n % 256) W (HH.out.below hb) HA.out HC.out (by omega) hp hq (by omega)
    have o16 := fun W (hb : Below w.heap.size w W) => one16_any A l c p q (n % 65536) W (HH.out.below hb) HA.out HC.out (by omega) hp hq (by omega)
    have o32 := fun W (hb : Below w.heap.size w W) => one32_any A l c p q (n % 4294967296) W (HH.out.below hb) HA.out HC.out (by omega) hp hq (by omega)
    have o64 := fun W (hb : Below w.heap.size w W) => one64_any A l c p q n W (HH.out.below hb) HA.out HC.out (by omega) hp hq hn
    generalize n % 256 = n8 at *
    generalize n % 65536 = n16 at *
    generalize n % 4294967296 = n32 at *
    have O8 := Lib.hid o8; have O16 := Lib.hid o16; have O32 := Lib.hid o32; have O64 := Lib.hid o64
    clear o8 o16 o32 o64 hp hq
    go_enter Try.func3, Try.ntmps3
    go_upto_region 5 with (go_at_call 6; refine (alive_any _).mono ?_; rintro e w1 ⟨rfl, hb1⟩; have HB1 := Lib.hid (((Below.refl _ w).alloc (Nat.le_refl _) _).trans (hb1.mono (by simp))); have hc0 : w1.cell? ⟨w.heap.size, 0, none⟩ = some (.int .i64 p) := (hb1.cell (by simp)).trans (by simp); have hc1 : w1.cell? ⟨w.heap.size, 1, none⟩ = some (.int .i64 q) := (hb1.cell (by simp)).trans (by simp); clear hb1)
    go_quiet (fail)
    have HB2 := Lib.hid (HB1.out.trans ⟨rfl, rfl, rfl, Nat.le_refl _, fun _ _ => rfl⟩ : Below w.heap.size w (w1.drewN nq))
    generalize w1.drewN nq = w2 at *
    clear hc0 hc1
    go_wp2_with (first
      | (go_at_call 7; refine (O8.out _ HB2.out).mono ?_; rintro e w3 ⟨rfl, hb⟩; have HB3 := Lib.hid (HB2.out.trans (hb.mono HB2.out.size)); clear hb)
      | (go_at_call 8; refine (O16.out _ HB3.out).mono ?_; rintro e w4 ⟨rfl, hb⟩; have HB4 := Lib.hid (HB3.out.trans (hb.mono HB3.out.size)); clear hb)
      | (go_at_call 9; refine (O32.out _ HB4.out).mono ?_; rintro e w5 ⟨rfl, hb⟩; have HB5 := Lib.hid (HB4.out.trans (hb.mono HB4.out.size)); clear hb)
      | (go_at_call 10; refine (O64.out _ HB5.out).mono ?_; rintro e w6 ⟨rfl, hb⟩; have HB6 := Lib.hid (HB5.out.trans (hb.mono HB5.out.size)); clear hb))
    go_ret
    exact ⟨rfl, HB6.out⟩
end Go.Proofs.Ytfkkniooigdmgaa
