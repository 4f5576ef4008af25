/- The walk of OctetsBack. -/
import Derived.Test.YtfkkniooigdmgaaOctH
namespace Go.Proofs.Ytfkkniooigdmgaa
open Go.RowKit Go.WideShapes Go.ChangeShapes
set_option linter.unusedVariables false

theorem wb_one (S x : Nat) : wb S [(x : Int)] = be S x := by simp [wb]
theorem wb_cons (S : Nat) (z : Int) (zs : List Int) : wb S (z :: zs) = be S z.toNat ++ wb S zs := rfl
theorem wb_part (S : Nat) (zs : List Int) : ∀ (i : Nat) (h : i < zs.length), ((wb S zs).drop (i * S)).take S = be S zs[i].toNat := by
  induction zs with
  | nil => intro i h; simp at h
  | cons z zs ih =>
    intro i h
    rw [wb_cons]
    cases i with
    | zero => rw [Nat.zero_mul, List.drop_zero, List.take_append_of_le_length (by rw [be_len]; exact Nat.le_refl _), List.take_of_length_le (by rw [be_len]; exact Nat.le_refl _)]; rfl
    | succ i =>
      have e : (be S z.toNat ++ wb S zs).drop ((i + 1) * S) = (wb S zs).drop (i * S) := by
        rw [List.drop_append, List.drop_eq_nil_of_le (by rw [be_len, Nat.succ_mul]; omega), List.nil_append, be_len, Nat.succ_mul, Nat.add_sub_cancel]
      rw [e, ih i (by simpa using h)]
      rfl
theorem wl_wb (S : Nat) (zs : List Int) (hz : ∀ z ∈ zs, 0 ≤ z ∧ z.toNat < 256 ^ S) : wl (wb S zs) S zs.length = zs := by
  refine List.ext_getElem (wl_len _ _ _) fun i h1 h2 => ?_
  rw [wl_at _ _ _ _ h2, wb_part S zs i h2]
  have h := hz zs[i] (List.getElem_mem h2)
  rw [ebv_be_fit h.2]; omega
theorem rm_fits {N S a k : Nat} (hS : S = 1 ∨ S = 2 ∨ S = 4 ∨ S = 8) (h : a + k * S ≤ N) : rm N a k S = 0 := by
  unfold rm
  rw [if_neg (show ¬ ((a : Int) < 0 ∨ (N : Int) < a ∨ (k : Int) < 0) by omega)]
  have : ¬ ((N : Int) - a) / (S : Nat) < k := by rcases hS with rfl | rfl | rfl | rfl <;> simp only [Int.cast_ofNat_Int] <;> omega
  rw [if_neg this]
theorem pm_at (u m v : List UInt8) : pm (u ++ (m ++ v)) (u.length : Int) (m.length : Int) = m := by
  rw [pm_zero (rm_fits (S := 1) (.inl rfl) (by simp))]
  simp

set_option maxHeartbeats 1600000 in
set_option maxRecDepth 100000 in
theorem back_walk (A Aw : Option Addr) (l : List UInt8) (c cw : Nat) (x : Int) (zs : List Int) (w : World) (h : Rb w A l) (hA : A = none → c = 0) (hc : l.length ≤ c) (hx : (Lit.int .u64 x).wf = true) (hw : Rz .u32 w Aw zs) :
    Calls Try.prog 5 #[.slice A l.length c, .int .u64 x, .slice Aw zs.length cw] w fun e w' => e = .returned (.bool true) ∧ Below w.heap.size w w' := by
  obtain ⟨n, rfl, hn⟩ : ∃ n : Nat, x = (n : Int) ∧ n < 18446744073709551616 := by
    simp [Lit.wf, IntKind.min, IntKind.max, IntKind.signed, IntKind.bits] at hx
    exact ⟨x.toNat, by omega, by omega⟩
  have HH := Lib.hid h; have HA := Lib.hid hA; have HC := Lib.hid hc; have HW := Lib.hid hw
  clear h hA hc hx hw
  by_cases hl : 300 < l.length ∨ 60 < zs.length
  · clear HC
    by_cases hl1 : 300 < l.length
    · clear hl
      go_enter Try.func5, Try.ntmps5
      go_wp2_with (go_at_call 6; refine (alive_any _).mono ?_; rintro e w1 ⟨rfl, hb1⟩; have HB1 := Lib.hid hb1; clear hb1)
      go_ret
      exact ⟨rfl, HB1.out⟩
    · have hl2 : 60 < zs.length := by omega
      clear hl
      go_enter Try.func5, Try.ntmps5
      go_wp2_with (go_at_call 6; refine (alive_any _).mono ?_; rintro e w1 ⟨rfl, hb1⟩; have HB1 := Lib.hid hb1; clear hb1)
      go_ret
      exact ⟨rfl, HB1.out⟩
  · have hzr : ∀ z ∈ zs, 0 ≤ z ∧ z.toNat < 256 ^ 4 := fun z hz => by
      have hwf := HW.out.1 z hz
      simp [Lit.wf, IntKind.min, IntKind.max, IntKind.signed, IntKind.bits] at hwf
      omega
    obtain ⟨P1, hP1⟩ : ∃ P1, P1 = l ++ be 8 n := ⟨_, rfl⟩
    obtain ⟨P2, hP2⟩ : ∃ P2, P2 = P1 ++ be 2 (n % 65536) := ⟨_, rfl⟩
    obtain ⟨P, hP⟩ : ∃ P, P = P2 ++ wb 4 zs := ⟨_, rfl⟩
    have hl1 : P1.length = l.length + 8 := by rw [hP1, List.length_append, be_len]
    have hl2 : P2.length = l.length + 10 := by rw [hP2, List.length_append, be_len, hl1]
    have hl3 : P.length = l.length + 10 + 4 * zs.length := by rw [hP, List.length_append, wb_len, hl2]; omega
    have hp1 : ∀ W, Below w.heap.size w W → Calls Try.prog 17 #[.slice A l.length c, .slice (some ⟨W.heap.size, 0, none⟩) 1 1] (W.alloc (.cells #[.int .u64 (n : Int)] 24)) fun e w' =>
        ∃ g, W.heap.size ≤ g ∧ e = .returned (.slice (some ⟨g, 0, none⟩) P1.length P1.length) ∧ Bk w' g P1 ∧ Below W.heap.size W w' := by
      intro W hB
      have hb0 : Below W.heap.size W (W.alloc (.cells #[.int .u64 (n : Int)] 24)) := (Below.refl _ W).alloc (Nat.le_refl _) _
      have hr : Rz .u64 (W.alloc (.cells #[.int .u64 (n : Int)] 24)) (some ⟨W.heap.size, 0, none⟩) [(n : Int)] := (wk_new (k := .u64) (e := 24) W [(n : Int)]).reads (by simp [Lit.wf, IntKind.min, IntKind.max, IntKind.signed, IntKind.bits]; omega)
      have := put64_any A (some ⟨W.heap.size, 0, none⟩) l [(n : Int)] c 1 _ ((HH.out.below hB).below hb0) HA.out hr (by omega) (by simp)
      rw [wb_one, ← hP1] at this
      refine this.mono ?_
      rintro e w' ⟨g, h1, h2, h3, h4⟩
      exact ⟨g, by simp at h1; omega, h2, h3, hb0.trans (h4.mono (by simp))⟩
    have hp2 : ∀ g W, Bk W g P1 → Calls Try.prog 16 #[.slice (some ⟨g, 0, none⟩) P1.length P1.length, .slice (some ⟨W.heap.size, 0, none⟩) 1 1] (W.alloc (.cells #[.int .u16 ((n % 65536 : Nat) : Int)] 28)) fun e w' =>
        ∃ g, W.heap.size ≤ g ∧ e = .returned (.slice (some ⟨g, 0, none⟩) P2.length P2.length) ∧ Bk w' g P2 ∧ Below W.heap.size W w' := by
      intro g W hk
      have hb0 : Below W.heap.size W (W.alloc (.cells #[.int .u16 ((n % 65536 : Nat) : Int)] 28)) := (Below.refl _ W).alloc (Nat.le_refl _) _
      have hr : Rz .u16 (W.alloc (.cells #[.int .u16 ((n % 65536 : Nat) : Int)] 28)) (some ⟨W.heap.size, 0, none⟩) [((n % 65536 : Nat) : Int)] := (wk_new (k := .u16) (e := 28) W [((n % 65536 : Nat) : Int)]).reads (by simp [Lit.wf, IntKind.min, IntKind.max, IntKind.signed, IntKind.bits]; omega)
      have := put16_any (some ⟨g, 0, none⟩) (some ⟨W.heap.size, 0, none⟩) P1 [((n % 65536 : Nat) : Int)] P1.length 1 _ (hk.whole.below hb0) (fun h => by cases h) hr (by omega) (by simp)
      rw [wb_one, ← hP2] at this
      refine this.mono ?_
      rintro e w' ⟨g, h1, h2, h3, h4⟩
      exact ⟨g, by simp at h1; omega, h2, h3, hb0.trans (h4.mono (by simp))⟩
    have hp3 : ∀ g W, Bk W g P2 → Below w.heap.size w W → Calls Try.prog 15 #[.slice (some ⟨g, 0, none⟩) P2.length P2.length, .slice Aw zs.length cw] W fun e w' =>
        ∃ g, W.heap.size ≤ g ∧ e = .returned (.slice (some ⟨g, 0, none⟩) P.length P.length) ∧ Bk w' g P ∧ Below W.heap.size W w' := by
      intro g W hk hB
      rw [hP]
      exact put32_any (some ⟨g, 0, none⟩) Aw P2 zs P2.length cw W hk.whole (fun h => by cases h) (HW.out.below hB) (by omega) (by omega)
    have hPe : P = l ++ (be 8 n ++ (be 2 (n % 65536) ++ wb 4 zs)) := by rw [hP, hP2, hP1]; simp
    have hPe2 : P = P1 ++ (be 2 (n % 65536) ++ wb 4 zs) := by rw [hP, hP2]; simp
    have hg1 : ∀ g W, Bk W g P → Calls Try.prog 18 #[.slice (some ⟨g, 0, none⟩) P.length P.length, .int .i64 (l.length : Int)] W fun e w' => e = .returned (.tuple #[.int .u64 (n : Int), .nilIface]) ∧ W = w' := by
      intro g W hk
      have := get64_any (some ⟨g, 0, none⟩) P P.length (l.length : Int) W hk.whole (fun h => by cases h) (Nat.le_refl _) (by omega) (by unfold fits; omega)
      have e1 : rm P.length (l.length : Int) 1 8 = 0 := rm_fits (k := 1) (by omega) (by omega)
      have e2 : gv P (l.length : Int) 8 = n := by
        unfold gv
        have := pm_at l (be 8 n) (be 2 (n % 65536) ++ wb 4 zs)
        rw [be_len] at this
        rw [hPe, this, ebv_be_fit (by omega)]
      rw [e1, e2] at this
      exact this
    have hg2 : ∀ g W, Bk W g P → Calls Try.prog 19 #[.slice (some ⟨g, 0, none⟩) P.length P.length, .int .i64 ((l.length : Int) + 8)] W fun e w' => e = .returned (.tuple #[.int .u16 ((n % 65536 : Nat) : Int), .nilIface]) ∧ W = w' := by
      intro g W hk
      have := get16_any (some ⟨g, 0, none⟩) P P.length (P1.length : Int) W hk.whole (fun h => by cases h) (Nat.le_refl _) (by omega) (by unfold fits; omega)
      have e1 : rm P.length (P1.length : Int) 1 2 = 0 := rm_fits (k := 1) (by omega) (by omega)
      have e2 : gv P (P1.length : Int) 2 = n % 65536 := by
        unfold gv
        have := pm_at P1 (be 2 (n % 65536)) (wb 4 zs)
        rw [be_len] at this
        rw [hPe2, this, ebv_be_fit (by omega)]
      rw [e1, e2, hl1] at this
      exact this
    have hg3 : ∀ g W, Bk W g P → Calls Try.prog 20 #[.slice (some ⟨g, 0, none⟩) P.length P.length, .int .i64 ((l.length : Int) + 10), .int .i64 (zs.length : Int)] W fun e w' =>
        ∃ g', W.heap.size ≤ g' ∧ e = .returned (.tuple #[.slice (some ⟨g', 0, none⟩) zs.length zs.length, .nilIface]) ∧ Wk .u32 30 w' g' zs ∧ Below W.heap.size W w' := by
      intro g W hk
      have := list32_yes (some ⟨g, 0, none⟩) P P.length (P2.length : Int) (zs.length : Int) W hk.whole (fun h => by cases h) (Nat.le_refl _) (by omega) (by unfold fits; omega) (by unfold fits; omega) (rm_fits (by omega) (by omega))
      have e1 : wl (P.drop ((P2.length : Int)).toNat) 4 ((zs.length : Int)).toNat = zs := by
        rw [Int.toNat_natCast, Int.toNat_natCast, hP, List.drop_append_of_le_length (Nat.le_refl _), List.drop_length, List.nil_append]
        exact wl_wb 4 zs hzr
      rw [e1, Int.toNat_natCast, hl2] at this
      exact this
    have hg4 : ∀ g W, Bk W g P → Calls Try.prog 11 #[.slice (some ⟨g, 0, none⟩) P.length P.length, .int .i64 0, .int .i64 (l.length : Int)] W fun e w' =>
        e = .returned (.tuple #[.slice (some ⟨W.heap.size, 0, none⟩) l.length l.length, .nilIface]) ∧ Bk w' W.heap.size l ∧ Below W.heap.size W w' := by
      intro g W hk
      have hz : rm P.length (0 : Nat) (l.length : Int) 1 = 0 := rm_fits (.inl rfl) (by omega)
      have := cut_yes (some ⟨g, 0, none⟩) P P.length (0 : Nat) (l.length : Int) W hk.whole (fun h => by cases h) (Nat.le_refl _) (by omega) (by unfold fits; omega) (by unfold fits; omega) hz
      have e1 : pm P (0 : Nat) (l.length : Int) = l := by rw [pm_zero hz, hPe]; simp
      rw [e1] at this
      exact this
    have hw16 : IntKind.u16.wrap (n : Int) = ((n % 65536 : Nat) : Int) := by simp [IntKind.wrap, IntKind.signed, IntKind.bits]
    have hy : n % 65536 < 65536 := Nat.mod_lt _ (by omega)
    have HP1 := Lib.hid hp1; have HP2 := Lib.hid hp2; have HP3 := Lib.hid hp3; have HG1 := Lib.hid hg1; have HG2 := Lib.hid hg2; have HG3 := Lib.hid hg3; have HG4 := Lib.hid hg4; have HL3 := Lib.hid hl3
    clear hp1 hp2 hp3 hg1 hg2 hg3 hg4 hPe hPe2 hl1 hl2 hl3 hP hP2 hP1 hzr
    generalize n % 65536 = y at *
    have hll : l.length ≤ 300 ∧ zs.length ≤ 60 := by omega
    obtain ⟨hll1, hll2⟩ := hll
    have HPL := Lib.hid (show P.length ≤ 1000 by have := HL3.out; omega)
    clear hl
    go_enter Try.func5, Try.ntmps5
    go_wp2_with (first | (go_at_call 6; refine (alive_any _).mono ?_; rintro e w1 ⟨rfl, hb1⟩; have HB1 := Lib.hid hb1; clear hb1) | (go_at_call 17; refine (HP1.out w1 HB1.out).mono ?_; rintro e w2 ⟨g1, _, rfl, hk, hb⟩; have HK2 := Lib.hid hk; have HB2 := Lib.hid (HB1.out.trans (hb.mono HB1.out.size)); clear hk hb) | (go_at_call 16; refine (HP2.out g1 w2 HK2.out).mono ?_; rintro e w3 ⟨g2, _, rfl, hk, hb⟩; have HK3 := Lib.hid hk; have HB3 := Lib.hid (HB2.out.trans (hb.mono HB2.out.size)); clear hk hb) | (go_at_call 15; refine (HP3.out g2 w3 HK3.out HB3.out).mono ?_; rintro e w4 ⟨g3, _, rfl, hk, hb⟩; have HK4 := Lib.hid hk; have HB4 := Lib.hid (HB3.out.trans (hb.mono HB3.out.size)); clear hk hb) | (go_at_call 18; refine (HG1.out g3 w4 HK4.out).mono ?_; rintro e w' ⟨rfl, rfl⟩) | (go_at_call 19; refine (HG2.out g3 w4 HK4.out).mono ?_; rintro e w' ⟨rfl, rfl⟩) | (go_at_call 20; refine (HG3.out g3 w4 HK4.out).mono ?_; rintro e w5 ⟨g4, _, rfl, hk, hb⟩; have HK5 := Lib.hid hk; have HP5 := Lib.hid (HK4.out.below hb HK4.out.lt); have HB5 := Lib.hid (HB4.out.trans (hb.mono HB4.out.size)); clear hk hb) | (go_at_call 11; refine (HG4.out g3 w5 HP5.out).mono ?_; rintro e w6 ⟨rfl, hk, hb⟩; have HK6 := Lib.hid hk; have HW6 := Lib.hid (HK5.out.below hb HK5.out.lt); have HB6 := Lib.hid (HB5.out.trans (hb.mono HB5.out.size)); clear hk hb) | (go_at_call 14; refine (nsame_any _ A l _ c w6 HK6.out.whole (fun h => by cases h) (HH.out.below HB6.out) HA.out).mono ?_; rintro e w' ⟨rfl, rfl⟩))
    go_loop [110] (fun i => ∃ k : Nat, k ≤ zs.length ∧ i = .int .i64 k) (fun i => zs.length - (intOf i).toNat)
    case atStart => exact ⟨0, Nat.zero_le _, rfl⟩
    case round =>
      obtain ⟨k, hk, rfl⟩ := hrel
      by_cases hlt : k < zs.length
      · obtain ⟨b, off, rfl, _, hc⟩ := (HW.out.below HB6.out).cell hlt
        have hc2 := HW6.out.cell hlt
        go_wp2
        go_round
        case rel => exact ⟨k + 1, by omega, by go_num⟩
        case measure => simp [intOf]; omega
      · obtain rfl : k = zs.length := by omega
        have hl3 := HL3.out
        have hpl := HPL.out
        go_wp2
        go_ret
        exact ⟨rfl, HB6.out⟩
end Go.Proofs.Ytfkkniooigdmgaa
