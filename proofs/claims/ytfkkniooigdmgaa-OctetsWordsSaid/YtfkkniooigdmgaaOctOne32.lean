/- one[uint32]: what words of that size are at a place of bytes. (Written by gen4.py.) -/
import Derived.Test.YtfkkniooigdmgaaOctK
import Derived.Deep.RegionHeld3
import Derived.Deep.QuietTactic
namespace Go.Proofs.Ytfkkniooigdmgaa
open Go.RowKit Go.WideShapes Go.ChangeShapes
set_option linter.unusedVariables false

set_option maxHeartbeats 3200000 in
set_option maxRecDepth 100000 in
theorem one32_any (A : Option Addr) (l : List UInt8) (c : Nat) (at_ many : Int) (x : Nat) (w : World) (h : Rb w A l) (hA : A = none → c = 0) (hc : l.length ≤ c) (hl : l.length ≤ 300) (ha : fits at_) (hm : fits many) (hx : x < 4294967296) :
    Calls Try.prog 9 #[.slice A l.length c, .int .i64 at_, .int .i64 many, .int .u32 (x : Int), .int .i64 4] w fun e w' => e = .returned (.bool true) ∧ Below w.heap.size w w' := by
  obtain ⟨G, hG⟩ : ∃ G, G = gv l at_ 4 := ⟨_, rfl⟩
  obtain ⟨E, hE⟩ : ∃ E, E = rm l.length at_ 1 4 := ⟨_, rfl⟩
  obtain ⟨bx, hbx⟩ : ∃ bx, bx = be 4 x := ⟨_, rfl⟩
  obtain ⟨bg, hbg⟩ : ∃ bg, bg = be 4 G := ⟨_, rfl⟩
  obtain ⟨P, hP⟩ : ∃ P, P = ([] ++ l ++ bx) ++ bg := ⟨_, rfl⟩
  have hGl : G < 4294967296 := by rw [hG]; unfold gv; exact Nat.lt_of_lt_of_le (ebv_lt _) (Nat.pow_le_pow_right (by decide) pm_len)
  have hE2 := rm_lo l.length at_ 1 4
  rw [← hE] at hE2
  have hgeto : ∀ A1 c1 W, Rb W A1 l → (A1 = none → c1 = 0) → l.length ≤ c1 → Calls Try.prog 33 #[.slice A1 l.length c1, .int .i64 at_] W fun e w' => e = .returned (.tuple #[.int .u32 (G : Int), ev E]) ∧ W = w' := by
    intro A1 c1 W h1 h2 h3
    have := get32_any A1 l c1 at_ W h1 h2 h3 (by omega) ha
    rw [← hG, ← hE] at this; exact this
  have hgetr : ∀ W, Below w.heap.size w W → Calls Try.prog 24 #[.slice A l.length c, .int .i64 at_, .int .i64 4] W fun e w' => e = .returned (.tuple #[.int .u64 (G : Int), .int .i64 E]) ∧ W = w' := by
    intro W hB
    have := rget_any A l c at_ 4 W (h.below hB) hA hc (by omega) ha (by omega)
    rw [← hG, ← hE] at this; exact this
  have hlists : ∀ A1 c1 W, Rb W A1 l → (A1 = none → c1 = 0) → l.length ≤ c1 → Calls Try.prog 35 #[.slice A1 l.length c1, .int .i64 at_, .int .i64 many, .int .i64 4] W fun e w' => e = .returned (.bool true) ∧ Below W.heap.size W w' :=
    fun A1 c1 W h1 h2 h3 => lists32_any A1 l c1 at_ many W h1 h2 h3 hl ha hm
  have hnum1 : ∀ W, Calls Try.prog 26 #[.int .u64 (x : Int), .int .i64 4] W fun e w' => e = .returned (.slice (some ⟨W.heap.size, 0, none⟩) bx.length bx.length) ∧ Bk w' W.heap.size bx ∧ Below W.heap.size W w' := by
    intro W; rw [hbx]; exact number_any x 4 W (by omega) (by omega)
  have hnum2 : ∀ W, Calls Try.prog 26 #[.int .u64 (G : Int), .int .i64 4] W fun e w' => e = .returned (.slice (some ⟨W.heap.size, 0, none⟩) bg.length bg.length) ∧ Bk w' W.heap.size bg ∧ Below W.heap.size W w' := by
    intro W; rw [hbg]; exact number_any G 4 W (by omega) (by omega)
  have hput : ∀ A1 c1 W, Rb W A1 l → (A1 = none → c1 = 0) → Calls Try.prog 15 #[.slice A1 l.length c1, .slice (some ⟨W.heap.size, 0, none⟩) 2 2] (W.alloc (.cells #[.int .u32 (x : Int), .int .u32 (G : Int)] 30)) fun e w' =>
      ∃ g, W.heap.size ≤ g ∧ e = .returned (.slice (some ⟨g, 0, none⟩) P.length P.length) ∧ Bk w' g P ∧ Below W.heap.size W w' := by
    intro A1 c1 W h1 h2
    have hb0 : Below W.heap.size W (W.alloc (.cells #[.int .u32 (x : Int), .int .u32 (G : Int)] 30)) := (Below.refl _ W).alloc (Nat.le_refl _) _
    have hr : Rz .u32 (W.alloc (.cells #[.int .u32 (x : Int), .int .u32 (G : Int)] 30)) (some ⟨W.heap.size, 0, none⟩) [(x : Int), (G : Int)] :=
      (wk_new (k := .u32) (e := 30) W [(x : Int), (G : Int)]).reads (by simp [Lit.wf, IntKind.min, IntKind.max, IntKind.signed, IntKind.bits]; omega)
    have := put32_any A1 (some ⟨W.heap.size, 0, none⟩) l [(x : Int), (G : Int)] c1 2 _ (h1.below hb0) h2 hr (by omega) (by simp)
    have e1 : l ++ wb 4 [(x : Int), (G : Int)] = P := by rw [hP, hbx, hbg]; simp [wb]
    rw [e1] at this
    refine this.mono ?_
    rintro e w' ⟨g, h1, h2, h3, h4⟩
    exact ⟨g, by simp at h1; omega, h2, h3, hb0.trans (h4.mono (by simp))⟩
  have hwx : IntKind.u64.wrap (x : Int) = (x : Int) := IntWalk.u64_in _ (by omega)
  have hwg : IntKind.u64.wrap (G : Int) = (G : Int) := IntWalk.u64_in _ (by omega)
  have hbl : bx.length = 4 ∧ bg.length = 4 := by rw [hbx, hbg, be_len, be_len]; exact ⟨rfl, rfl⟩
  have HGO := Lib.hid hgeto; have HGR := Lib.hid hgetr; have HLS := Lib.hid hlists; have HN1 := Lib.hid hnum1; have HN2 := Lib.hid hnum2; have HPT := Lib.hid hput
  have HE := Lib.hid hE2; have HH := Lib.hid h; have HA := Lib.hid hA; have HC := Lib.hid hc; have HL := Lib.hid hl; have HBL := Lib.hid hbl; have HPP := Lib.hid hP
  clear hgeto hgetr hlists hnum1 hnum2 hput hE2 hbl hP
  by_cases hz : E = 0
  · subst hz
    obtain ⟨a, rfl, h2⟩ := rm_one (by omega) hE.symm
    obtain ⟨R, hR⟩ : ∃ R, R = splice l a bx := ⟨_, rfl⟩
    have hset : ∀ A1 c1 W, Rb W A1 l → (A1 = none → c1 = 0) → Calls Try.prog 34 #[.slice A1 l.length c1, .int .i64 (a : Int), .int .u32 (x : Int)] W fun e w' =>
        e = .returned (.tuple #[.slice (some ⟨W.heap.size, 0, none⟩) R.length R.length, .nilIface]) ∧ Bk w' W.heap.size R ∧ Below W.heap.size W w' := by
      intro A1 c1 W h1 h2
      have := set32_yes A1 l c1 a x W h1 h2 (by omega) ha hx hE.symm
      rw [Int.toNat_natCast, ← hbx, ← hR] at this; exact this
    obtain ⟨Ap, cp, lp, hlp, rp, RP, NP, LP, _⟩ := part_hi h hA hc (by omega : a ≤ l.length)
    obtain ⟨Aq, cq, lq, hlq, rq, RQ, NQ, LQ, _, _⟩ := part_lo (lo := a + 4) h hA hc h2
    rw [show ((a + 4 : Nat) : Int) = (a : Int) + 4 by omega] at rq
    have hRe : R = (([] ++ lp) ++ bx) ++ lq := by rw [hR, hlp, hlq]; unfold splice; rw [hbx, be_len]; simp
    have hlpq : lp.length ≤ 300 ∧ lq.length ≤ 300 := by rw [hlp, hlq]; simp; omega
    have HST := Lib.hid hset; have HRP := Lib.hid RP; have HNP := Lib.hid NP; have HRQ := Lib.hid RQ; have HNQ := Lib.hid NQ; have HRE := Lib.hid hRe; have HLPQ := Lib.hid hlpq
    have hal : a + 4 ≤ 300 := by omega
    clear hset RP NP LP RQ NQ LQ hRe hlpq hR hlp hlq hG hE hbx hbg h hA hc h2 hm ha
    rw [ev_zero] at HGO
    have hsw : IntKind.i64.wrap ((a : Int) + 4) = (a : Int) + 4 := by simp [IntKind.wrap, IntKind.signed, IntKind.bits]; omega
    go_enter Try.func9, Try.ntmps9
    go_upto_region 11 with (first
      | (refine app_bytes (.tmp 18) (.tmp 19) w.heap.size _ [] (own_nil _) A l c (HH.out.below ((Below.refl _ w).alloc (Nat.le_refl _) _)) HA.out (by decide) (by omega) (by simp) rfl rfl rfl rfl ?_; intro A1 c1 w1 hown R1' N1' L1' hb1; have R1 := Lib.hid R1'; have N1 := Lib.hid N1'; have L1 := Lib.hid L1'; have HB1 := Lib.hid (((Below.refl _ w).alloc (Nat.le_refl _) _).trans hb1); clear hown R1' N1' L1' hb1)
      | (go_at_call 32; refine (size32_any _).mono ?_; rintro e w' ⟨rfl, rfl⟩)
      | (go_at_call 33; refine (HGO.out A1 c1 _ R1.out N1.out L1.out).mono ?_; rintro e w' ⟨rfl, rfl⟩)
      | (go_at_call 24; refine (HGR.out _ HB1.out).mono ?_; rintro e w' ⟨rfl, rfl⟩)
      | (go_at_call 13; refine (num_nil _).mono ?_; rintro e w' ⟨rfl, rfl⟩)
      | (go_at_call 34; refine (HST.out A1 c1 _ R1.out N1.out).mono ?_; rintro e w2 ⟨rfl, hk', hb'⟩; have HK2 := Lib.hid hk'; have HB2 := Lib.hid hb'; have R2 := Lib.hid (R1.out.below hb'); have HW2 := Lib.hid (HB1.out.trans (hb'.mono HB1.out.size)); clear hk' hb'))
    go_region_held3 (fun w' => Below w2.heap.size w2 w')
      (first | exact (Below.refl _ _).drew | assumption | exact Below.alloc (by assumption) (Below.size (by assumption)) _)
      (first
        | (refine app_step_b (.tmp 71) (.tmp 74) w2.heap.size _ [] (own_nil _) Ap lp cp (HRP.out.below (HW2.out.trans (Below.mono (by assumption) HW2.out.size))) HNP.out (by decide) (by have := HLPQ.out; omega) (Below.size (by assumption)) rfl rfl rfl rfl ?_; intro A3 c3 w3 m3 hm3 hown _ _ _ hb3; have HM3 := Lib.hid hm3; have HO3 := Lib.hid hown; have hB3 : Below w2.heap.size w2 w3 := (((Below.refl w2.heap.size w2).drew).alloc (Nat.le_refl _) _).trans hb3; clear hown hb3 hm3)
        | (refine app_step_b (.tmp 75) (.tmp 79) w2.heap.size _ m3 HO4.out _ bx _ HK4.out.whole (fun h => by cases h) (by have := HLPQ.out; rw [HM3.out]; simp; omega) (by have := HBL.out; omega) hB4.size rfl rfl rfl rfl ?_; intro A5 c5 w5 m5 hm5 hown _ _ _ hb5; have HM5 := Lib.hid hm5; have HO5 := Lib.hid hown; have hB5 : Below w2.heap.size w2 w5 := hB4.trans hb5; clear hown hb5 hm5)
        | (refine app_step_b (.tmp 80) (.tmp 85) w2.heap.size _ m5 HO5.out Aq lq cq (HRQ.out.below (HW2.out.trans (hB5.mono HW2.out.size))) HNQ.out (by have := HLPQ.out; have := HBL.out; rw [HM5.out, HM3.out]; simp; omega) (by have := HLPQ.out; omega) hB5.size rfl rfl rfl rfl ?_; intro A6 c6 w6 m6 hm6 hown R6' N6' _ hb6; have HM6 := Lib.hid hm6; have R6 := Lib.hid R6'; have N6 := Lib.hid N6'; have hB6 : Below w2.heap.size w2 w6 := hB5.trans hb6; clear hown R6' N6' hb6 hm6)
        | (go_at_call 26; refine (HN1.out _).mono ?_; rintro e w4 ⟨rfl, hk', hb'⟩; have HK4 := Lib.hid hk'; have HO4 := Lib.hid (HO3.out.below hb' (Nat.le_refl _)); have hB4 : Below w2.heap.size w2 w4 := hB3.trans (hb'.mono hB3.size); clear hk' hb')
        | (go_at_call 14; refine (nequal_any _ A6 R m6 _ c6 _ (HK2.out.whole.below hB6) (fun h => by cases h) R6.out N6.out (by rw [HM6.out, HM5.out, HM3.out]; exact HRE.out)).mono ?_; rintro e w' ⟨rfl, rfl⟩))
    have HWZ := Lib.hid (HW2.out.trans (hB6.mono HW2.out.size))
    have RZ := Lib.hid (R2.out.below hB6)
    clear hB3 hB4 hB5 hB6 HO3 HO4 HO5 HK2 HK4 HM3 HM5 HM6 R6 N6 HRE HST
    generalize w6 = wz at *
    go_wp2_with (first
      | (go_at_call 15; refine (HPT.out A1 c1 wz RZ.out N1.out).mono ?_; rintro e w7 ⟨g7, _, rfl, hk', hb'⟩; have HK7 := Lib.hid hk'; have HW7 := Lib.hid (HWZ.out.trans (hb'.mono HWZ.out.size)); have R7 := Lib.hid (RZ.out.below hb'); clear hk' hb')
      | (refine app_named (.tmp 96) (.tmp 97) w7.heap.size _ [] (own_nil _) A l c (HH.out.below (HW7.out.alloc HW7.out.size _)) HA.out (by decide) (by have := HL.out; omega) (by simp) rfl rfl rfl rfl ?_; intro A8 c8 w8 m8 hm8 hown _ _ _ hb8; have HM8 := Lib.hid hm8; have HO8 := Lib.hid hown; have HB8 := Lib.hid (((Below.refl _ w7).alloc (Nat.le_refl _) _).trans hb8); clear hm8 hown hb8)
      | (go_at_call_of 26 (Value.int .u64 (x : Int)); refine (HN1.out _).mono ?_; rintro e w9 ⟨rfl, hk', hb'⟩; have HK9 := Lib.hid hk'; have HO9 := Lib.hid (HO8.out.below hb' (Nat.le_refl _)); have HB9 := Lib.hid (HB8.out.trans (hb'.mono HB8.out.size)); clear hk' hb')
      | (refine app_named (.tmp 98) (.tmp 102) w7.heap.size _ m8 HO9.out _ bx _ HK9.out.whole (fun h => by cases h) (by have := HL.out; rw [HM8.out]; simp; omega) (by have := HBL.out; omega) HB9.out.size rfl rfl rfl rfl ?_; intro A10 c10 w10 m10 hm10 hown _ _ _ hb10; have HM10 := Lib.hid hm10; have HO10 := Lib.hid hown; have HB10 := Lib.hid (HB9.out.trans hb10); clear hm10 hown hb10)
      | (go_at_call_of 26 (Value.int .u64 (G : Int)); refine (HN2.out _).mono ?_; rintro e w11 ⟨rfl, hk', hb'⟩; have HK11 := Lib.hid hk'; have HO11 := Lib.hid (HO10.out.below hb' (Nat.le_refl _)); have HB11 := Lib.hid (HB10.out.trans (hb'.mono HB10.out.size)); clear hk' hb')
      | (refine app_named (.tmp 103) (.tmp 106) w7.heap.size _ m10 HO11.out _ bg _ HK11.out.whole (fun h => by cases h) (by have := HL.out; have := HBL.out; rw [HM10.out, HM8.out]; simp; omega) (by have := HBL.out; omega) HB11.out.size rfl rfl rfl rfl ?_; intro A12 c12 w12 m12 hm12 hown R12' N12' _ hb12; have HM12 := Lib.hid hm12; have R12 := Lib.hid R12'; have N12 := Lib.hid N12'; have HB12 := Lib.hid (HB11.out.trans hb12); have HW12 := Lib.hid (HW7.out.trans ((HB11.out.trans hb12).mono HW7.out.size)); have RO12 := Lib.hid (R7.out.below (HB11.out.trans hb12)); clear hm12 hown R12' N12' hb12)
      | (go_at_call_of 14 (Value.slice (some ⟨g7, 0, none⟩) P.length P.length); refine (nequal_any _ A12 P m12 _ c12 _ (HK7.out.whole.below HB12.out) (fun h => by cases h) R12.out N12.out (by rw [HM12.out, HM10.out, HM8.out]; exact HPP.out)).mono ?_; rintro e w' ⟨rfl, rfl⟩)
      | (go_at_call 35; refine (HLS.out A1 c1 w12 RO12.out N1.out L1.out).mono ?_; rintro e w13 ⟨rfl, hb'⟩; have R13 := Lib.hid (RO12.out.below hb'); have HW13 := Lib.hid (HW12.out.trans (hb'.mono HW12.out.size)); clear hb')
      | (go_at_call_of 14 (Value.slice A1 l.length c1); refine (nsame_any A1 A l c1 c _ R13.out N1.out (HH.out.below HW13.out) HA.out).mono ?_; rintro e w' ⟨rfl, rfl⟩))
    go_ret
    exact ⟨rfl, HW13.out⟩
  · have hset : ∀ A1 c1 W, Rb W A1 l → (A1 = none → c1 = 0) → Calls Try.prog 34 #[.slice A1 l.length c1, .int .i64 at_, .int .u32 (x : Int)] W fun e w' =>
        e = .returned (.tuple #[.slice none 0 0, ev E]) ∧ W = w' := by
      intro A1 c1 W h1 h2
      have := set32_no A1 l c1 at_ x W h1 h2 (by omega) ha hx (by rw [← hE]; exact hz)
      rw [← hE] at this; exact this
    have HST := Lib.hid hset
    have hb : (E != 0) = true := bne_iff_ne.mpr hz
    clear hset hG hE hbx hbg h hA hc hm ha
    go_enter Try.func9, Try.ntmps9
    go_upto_region 11 with (first
      | (refine app_bytes (.tmp 18) (.tmp 19) w.heap.size _ [] (own_nil _) A l c (HH.out.below ((Below.refl _ w).alloc (Nat.le_refl _) _)) HA.out (by decide) (by omega) (by simp) rfl rfl rfl rfl ?_; intro A1 c1 w1 hown R1' N1' L1' hb1; have R1 := Lib.hid R1'; have N1 := Lib.hid N1'; have L1 := Lib.hid L1'; have HB1 := Lib.hid (((Below.refl _ w).alloc (Nat.le_refl _) _).trans hb1); clear hown R1' N1' L1' hb1)
      | (go_at_call 32; refine (size32_any _).mono ?_; rintro e w' ⟨rfl, rfl⟩)
      | (go_at_call 33; refine (HGO.out A1 c1 _ R1.out N1.out L1.out).mono ?_; rintro e w' ⟨rfl, rfl⟩)
      | (go_at_call 24; refine (HGR.out _ HB1.out).mono ?_; rintro e w' ⟨rfl, rfl⟩)
      | (go_at_call 13; refine (num_any _ _ HE.out.1 HE.out.2).mono ?_; rintro e w' ⟨rfl, rfl⟩)
      | (go_at_call 34; refine (HST.out A1 c1 _ R1.out N1.out).mono ?_; rintro e w' ⟨rfl, rfl⟩))
    go_quiet (fail)
    have HWZ := Lib.hid (HB1.out.trans ⟨rfl, rfl, rfl, Nat.le_refl _, fun _ _ => rfl⟩ : Below w.heap.size w (w1.drewN nq))
    have RZ := Lib.hid (R1.out.drewN nq)
    generalize w1.drewN nq = wz at *
    go_wp2_with (first
      | (go_at_call 15; refine (HPT.out A1 c1 wz RZ.out N1.out).mono ?_; rintro e w7 ⟨g7, _, rfl, hk', hb'⟩; have HK7 := Lib.hid hk'; have HW7 := Lib.hid (HWZ.out.trans (hb'.mono HWZ.out.size)); have R7 := Lib.hid (RZ.out.below hb'); clear hk' hb')
      | (refine app_named (.tmp 96) (.tmp 97) w7.heap.size _ [] (own_nil _) A l c (HH.out.below (HW7.out.alloc HW7.out.size _)) HA.out (by decide) (by have := HL.out; omega) (by simp) rfl rfl rfl rfl ?_; intro A8 c8 w8 m8 hm8 hown _ _ _ hb8; have HM8 := Lib.hid hm8; have HO8 := Lib.hid hown; have HB8 := Lib.hid (((Below.refl _ w7).alloc (Nat.le_refl _) _).trans hb8); clear hm8 hown hb8)
      | (go_at_call_of 26 (Value.int .u64 (x : Int)); refine (HN1.out _).mono ?_; rintro e w9 ⟨rfl, hk', hb'⟩; have HK9 := Lib.hid hk'; have HO9 := Lib.hid (HO8.out.below hb' (Nat.le_refl _)); have HB9 := Lib.hid (HB8.out.trans (hb'.mono HB8.out.size)); clear hk' hb')
      | (refine app_named (.tmp 98) (.tmp 102) w7.heap.size _ m8 HO9.out _ bx _ HK9.out.whole (fun h => by cases h) (by have := HL.out; rw [HM8.out]; simp; omega) (by have := HBL.out; omega) HB9.out.size rfl rfl rfl rfl ?_; intro A10 c10 w10 m10 hm10 hown _ _ _ hb10; have HM10 := Lib.hid hm10; have HO10 := Lib.hid hown; have HB10 := Lib.hid (HB9.out.trans hb10); clear hm10 hown hb10)
      | (go_at_call_of 26 (Value.int .u64 (G : Int)); refine (HN2.out _).mono ?_; rintro e w11 ⟨rfl, hk', hb'⟩; have HK11 := Lib.hid hk'; have HO11 := Lib.hid (HO10.out.below hb' (Nat.le_refl _)); have HB11 := Lib.hid (HB10.out.trans (hb'.mono HB10.out.size)); clear hk' hb')
      | (refine app_named (.tmp 103) (.tmp 106) w7.heap.size _ m10 HO11.out _ bg _ HK11.out.whole (fun h => by cases h) (by have := HL.out; have := HBL.out; rw [HM10.out, HM8.out]; simp; omega) (by have := HBL.out; omega) HB11.out.size rfl rfl rfl rfl ?_; intro A12 c12 w12 m12 hm12 hown R12' N12' _ hb12; have HM12 := Lib.hid hm12; have R12 := Lib.hid R12'; have N12 := Lib.hid N12'; have HB12 := Lib.hid (HB11.out.trans hb12); have HW12 := Lib.hid (HW7.out.trans ((HB11.out.trans hb12).mono HW7.out.size)); have RO12 := Lib.hid (R7.out.below (HB11.out.trans hb12)); clear hm12 hown R12' N12' hb12)
      | (go_at_call_of 14 (Value.slice (some ⟨g7, 0, none⟩) P.length P.length); refine (nequal_any _ A12 P m12 _ c12 _ (HK7.out.whole.below HB12.out) (fun h => by cases h) R12.out N12.out (by rw [HM12.out, HM10.out, HM8.out]; exact HPP.out)).mono ?_; rintro e w' ⟨rfl, rfl⟩)
      | (go_at_call 35; refine (HLS.out A1 c1 w12 RO12.out N1.out L1.out).mono ?_; rintro e w13 ⟨rfl, hb'⟩; have R13 := Lib.hid (RO12.out.below hb'); have HW13 := Lib.hid (HW12.out.trans (hb'.mono HW12.out.size)); clear hb')
      | (go_at_call_of 14 (Value.slice A1 l.length c1); refine (nsame_any A1 A l c1 c _ R13.out N1.out (HH.out.below HW13.out) HA.out).mono ?_; rintro e w' ⟨rfl, rfl⟩))
    go_ret
    exact ⟨rfl, HW13.out⟩
end Go.Proofs.Ytfkkniooigdmgaa
