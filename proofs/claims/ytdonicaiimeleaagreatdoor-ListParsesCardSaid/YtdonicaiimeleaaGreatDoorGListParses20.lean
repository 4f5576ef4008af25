/- Merged: LeapI, LeapK. -/
import Derived.Test.YtdonicaiimeleaaGreatDoorGListParses19
import Derived.Test.YtdonicaiimeleaaGreatDoorGListParses15
import Derived.StillTailTactics
namespace Go.Proofs.YtdonicaiimeleaaGreatDoor
open Go.RowKit
set_option linter.unusedVariables false
set_option linter.unusedSimpArgs false

/-- What is known of a table that is neither empty nor too long. -/
def Mid (L : List Rw) : Prop := L.length ≠ 0 ∧ ¬ 256 < L.length
def No1 (L : List Rw) : Prop := ∀ j, j < L.length → w1 L j = false
def No2 (L : List Rw) : Prop := ∀ j, j < L.length → w2 L j = false
theorem lk_13 {L : List Rw} {u e : Int} (m : Mid L) {j : Nat} (hj : j < L.length) (h : w1 L j = true) : lkE L u e = 13 := by
  unfold lkE
  rw [if_neg m.1, if_neg m.2, if_pos ⟨j, hj, h⟩]
theorem no1 {L : List Rw} (h : No1 L) : ¬ ∃ j, j < L.length ∧ w1 L j = true := by
  rintro ⟨j, hj, hw⟩
  rw [h j hj] at hw
  cases hw
theorem no2 {L : List Rw} (h : No2 L) : ¬ ∃ j, j < L.length ∧ w2 L j = true := by
  rintro ⟨j, hj, hw⟩
  rw [h j hj] at hw
  cases hw
theorem lk_1t {L : List Rw} {u e : Int} (m : Mid L) (h1 : No1 L) (h : wt u = true ∨ wt e = true) : lkE L u e = 1 := by
  unfold lkE
  rw [if_neg m.1, if_neg m.2, if_neg (no1 h1)]
  split
  · rfl
  · first | rfl | rw [if_pos h]
theorem lk_1r {L : List Rw} {u e : Int} (m : Mid L) (h1 : No1 L) {j : Nat} (hj : j < L.length) (h : w2 L j = true) : lkE L u e = 1 := by
  unfold lkE
  rw [if_neg m.1, if_neg m.2, if_neg (no1 h1), if_pos ⟨j, hj, h⟩]
theorem lk_6 {L : List Rw} {u e : Int} (m : Mid L) (h1 : No1 L) (h2 : No2 L) (hu : wt u = false) (he : wt e = false) {j : Nat} (hj : j + 1 < L.length) (h : w3 L j = true) : lkE L u e = 6 := by
  unfold lkE
  rw [if_neg m.1, if_neg m.2, if_neg (no1 h1), if_neg (no2 h2), if_neg (by rw [hu, he]; simp), if_pos ⟨j, by omega, h⟩]
theorem lk_0 {L : List Rw} {u e : Int} (m : Mid L) (h1 : No1 L) (h2 : No2 L) (hu : wt u = false) (he : wt e = false) (h3 : ∀ j, j + 1 < L.length → w3 L j = false) : lkE L u e = 0 := by
  unfold lkE
  rw [if_neg m.1, if_neg m.2, if_neg (no1 h1), if_neg (no2 h2), if_neg (by rw [hu, he]; simp), if_neg]
  rintro ⟨j, hj, hw⟩
  rw [h3 j (by omega)] at hw
  cases hw
theorem w1_yes {L : List Rw} {k : Nat} (h : rd L k < -25567 ∨ 2932896 < rd L k) : w1 L k = true := by
  unfold w1 dtd
  rcases h with h | h
  · rw [decide_eq_false (by omega)]; rfl
  · rw [decide_eq_false (p := rd L k ≤ 2932896) (by omega), Bool.and_false]; rfl
theorem w1_no {L : List Rw} {k : Nat} (h : -25567 ≤ rd L k) (h' : rd L k ≤ 2932896) : w1 L k = false := by
  unfold w1 dtd
  rw [decide_eq_true h, decide_eq_true h']; rfl
theorem w2_day {L : List Rw} {k : Nat} {y m d : Int} (h : Dt (rd L k) y m d) (hd : d ≠ 1) : w2 L k = true := by
  unfold w2
  rw [d1_is h, decide_eq_false hd]; rfl
theorem w2_off {L : List Rw} {k : Nat} (h : ro L k < 0 ∨ 1000 < ro L k) : w2 L k = true := by
  unfold w2
  rcases h with h | h
  · rw [decide_eq_true h]; simp
  · rw [decide_eq_true (p := 1000 < ro L k) h]; simp
theorem w2_no {L : List Rw} {k : Nat} {y m : Int} (h : Dt (rd L k) y m 1) (h1 : ¬ ro L k < 0) (h2 : ¬ 1000 < ro L k) : w2 L k = false := by
  unfold w2
  rw [d1_is h, decide_eq_true (p := (1 : Int) = 1) rfl, decide_eq_false h1, decide_eq_false h2]; rfl
theorem wt_yes {z : Int} (h : z < 0 ∨ 1099511627776 < z) : wt z = true := by
  unfold wt
  rcases h with h | h
  · rw [decide_eq_true h]; rfl
  · rw [decide_eq_true (p := 1099511627776 < z) h, Bool.or_true]
theorem wt_no {z : Int} (h : ¬ z < 0) (h' : ¬ 1099511627776 < z) : wt z = false := by
  unfold wt
  rw [decide_eq_false h, decide_eq_false h']; rfl
theorem w3_day {L : List Rw} {k : Nat} (h : rd L (k + 1) ≤ rd L k) : w3 L k = true := by
  unfold w3 pr
  rw [decide_eq_true h]; rfl
theorem w3_off {L : List Rw} {k : Nat} (h : ro L (k + 1) ≠ ro L k + 1) (h' : ro L (k + 1) ≠ ro L k - 1) : w3 L k = true := by
  unfold w3 pr
  rw [decide_eq_true (p := ro L (k + 1) - ro L k ≠ 1) (by omega), decide_eq_true (p := ro L (k + 1) - ro L k ≠ -1) (by omega)]; simp
theorem w3_no {L : List Rw} {k : Nat} (h : ¬ rd L (k + 1) ≤ rd L k) (h' : ro L (k + 1) = ro L k + 1 ∨ ro L (k + 1) = ro L k - 1) : w3 L k = false := by
  unfold w3 pr
  rw [decide_eq_false h]
  rcases h' with e | e
  · rw [decide_eq_false (p := ro L (k + 1) - ro L k ≠ 1) (by omega)]; rfl
  · rw [decide_eq_false (p := ro L (k + 1) - ro L k ≠ -1) (by omega)]; simp

set_option maxRecDepth 100000 in
set_option maxHeartbeats 8000000 in
theorem rcheck10_any (A : Option Addr) (c : Nat) (L : List Rw) (u e : Int) (w : World) (hr : Rp w.heap.size w A L) (hL : L.length ≤ 100000) :
    Calls Tryz.prog 14 #[.agg #[.slice A L.length c, .int .i64 u, .int .i64 e]] w fun x w' => x = .returned (.int .i64 (lkE L u e)) ∧ Below w.heap.size w w' := by
  obtain ⟨W0, hW0, hb, hs, c0, c1, c2⟩ := dbox w A L.length c u e
  have HR := Lib.hid (hr.keep hb); have HB := Lib.hid hb; have HS := Lib.hid hs
  by_cases h0 : L.length = 0
  · rw [show lkE L u e = 8 by unfold lkE; rw [if_pos h0]]
    rw [h0] at c0 hW0 ⊢
    clear hr hb hs c1 c2 h0
    go_enter Tryz.func14, Tryz.ntmps14
    go_upto_region 1 with fail
    rw [← hW0]
    clear hW0
    go_wp2
    go_ret
    exact ⟨rfl, HB.out⟩
  by_cases h1 : 256 < L.length
  · rw [show lkE L u e = 3 by unfold lkE; rw [if_neg h0, if_pos h1]]
    obtain ⟨N, hN⟩ : ∃ N, L.length = N := ⟨_, rfl⟩
    rw [hN] at c0 hL hW0 h0 h1 ⊢
    have z0 : ¬ (N : Int) = 0 := by omega
    have z1 : (N : Int) > 256 := by omega
    clear hr hb hs c1 c2 hN
    go_enter Tryz.func14, Tryz.ntmps14
    go_upto_region 1 with fail
    rw [← hW0]
    clear hW0
    go_wp2
    go_ret
    exact ⟨rfl, HB.out⟩
  have HM : Hid (Mid L) := Lib.hid ⟨h0, h1⟩
  obtain ⟨N, hN⟩ : ∃ N, L.length = N := ⟨_, rfl⟩
  rw [hN] at c0 hL hW0 h0 h1 ⊢
  have HN := Lib.hid hN
  have z0 : ¬ (N : Int) = 0 := by omega
  have z1 : ¬ (N : Int) > 256 := by omega
  have zN : (N : Int) ≤ 256 := by omega
  have C0 : Hid (∀ W, Below W0.heap.size W0 W → W.cell? ⟨w.heap.size, 0, none⟩ = some (.slice A N c)) := Lib.hid fun W h => (h.cell (p := ⟨w.heap.size, 0, none⟩) (show w.heap.size < W0.heap.size by omega)).trans c0
  have hSt := fun w => rstart_any 1900 w (by decide) (by decide)
  rw [show st 1900 = -25567 by decide] at hSt
  have HSt := Lib.hid hSt
  have HLa := Lib.hid (fun w => rlast_any w)
  clear hr hb hs hN h0 h1 hSt
  go_enter Tryz.func14, Tryz.ntmps14
  go_upto_region 1 with fail
  rw [← hW0]
  clear hW0
  go_wp2
  go_loopg [3] N (fun gg s5 wr => ∃ k : Nat, k ≤ N ∧ N - k ≤ gg ∧ s5 = .int .i64 k ∧ W0 = wr ∧ Hid (∀ j, j < k → w1 L j = false))
  case atStart => exact ⟨0, Nat.zero_le _, by omega, rfl, rfl, Lib.hid fun j hj => absurd hj (Nat.not_lt_zero _)⟩
  case round =>
    obtain ⟨k, hk, hg, rfl, rfl, F⟩ := hrel
    by_cases hlt : k < N
    · have hltz : (k : Int) < (N : Int) := by omega
      obtain ⟨b, off, rfl, -, -, hc⟩ := HR.out.pos (by have := HN.out; omega)
      obtain ⟨d1, d2⟩ := hc k (by have := HN.out; omega)
      have HK := Lib.hid hlt
      clear hc HR
      by_cases h : rd L k < -25567
      · have E := Lib.hid (lk_13 (u := u) (e := e) HM.out (j := k) (by have := HN.out; have := HK.out; omega) (w1_yes (.inl h)))
        go_wp2_with (first
          | (go_at_call 28; refine (HSt.out _).mono ?_; rintro e w' ⟨rfl, rfl⟩)
          | (go_at_call 29; refine (HLa.out _).mono ?_; rintro e w' ⟨rfl, rfl⟩))
        go_ret
        exact ⟨ret1_eq (int_eq E.out.symm), HB.out⟩
      by_cases h' : rd L k > 2932896
      · have E := Lib.hid (lk_13 (u := u) (e := e) HM.out (j := k) (by have := HN.out; have := HK.out; omega) (w1_yes (.inr h')))
        go_wp2_with (first
          | (go_at_call 28; refine (HSt.out _).mono ?_; rintro e w' ⟨rfl, rfl⟩)
          | (go_at_call 29; refine (HLa.out _).mono ?_; rintro e w' ⟨rfl, rfl⟩))
        go_ret
        exact ⟨ret1_eq (int_eq E.out.symm), HB.out⟩
      · have E := Lib.hid (w1_no (L := L) (k := k) (by omega) (by omega))
        go_wp2_with (first
          | (go_at_call 28; refine (HSt.out _).mono ?_; rintro e w' ⟨rfl, rfl⟩)
          | (go_at_call 29; refine (HLa.out _).mono ?_; rintro e w' ⟨rfl, rfl⟩))
        go_roundg (N - (k + 1))
        case measure => omega
        case rel =>
          refine ⟨k + 1, by omega, by omega, by go_num, rfl, Lib.hid fun j hj => ?_⟩
          by_cases e : j = k
          · subst e; exact E.out
          · exact F.out j (by omega)
    · have hltz : ¬ (k : Int) < (N : Int) := by omega
      obtain rfl : N = k := by omega
      have H1 : Hid (No1 L) := Lib.hid fun j hj => F.out j (by rw [← HN.out]; exact hj)
      clear HSt HLa F
      rcases (by omega : (u < 0 ∨ 1099511627776 < u ∨ e < 0 ∨ 1099511627776 < e) ∨ (¬ u < 0 ∧ ¬ u > 1099511627776 ∧ ¬ e < 0 ∧ ¬ e > 1099511627776)) with hbad | ⟨g1, g2, g3, g4⟩
      · have E := Lib.hid (lk_1t (u := u) (e := e) HM.out H1.out (by
          rcases hbad with h | h | h | h
          · exact .inl (wt_yes (.inl h))
          · exact .inl (wt_yes (.inr h))
          · exact .inr (wt_yes (.inl h))
          · exact .inr (wt_yes (.inr h))))
        by_cases g1 : u < 0
        · clear hbad
          go_wp2
          go_ret
          exact ⟨ret1_eq (int_eq E.out.symm), HB.out⟩
        by_cases g2 : u > 1099511627776
        · clear hbad
          go_wp2
          go_ret
          exact ⟨ret1_eq (int_eq E.out.symm), HB.out⟩
        by_cases g3 : e < 0
        · clear hbad
          go_wp2
          go_ret
          exact ⟨ret1_eq (int_eq E.out.symm), HB.out⟩
        · have g4 : e > 1099511627776 := by omega
          clear hbad
          go_wp2
          go_ret
          exact ⟨ret1_eq (int_eq E.out.symm), HB.out⟩
      have HU : Hid (wt u = false) := Lib.hid (wt_no g1 g2)
      have HE : Hid (wt e = false) := Lib.hid (wt_no g3 g4)
      go_wp2
      clear c1 c2 g1 g2 g3 g4 c0 hltz hlt hg hk z0 z1
      go_loopg [5] N (fun gg s5 wr => ∃ k : Nat, k ≤ N ∧ N - k ≤ gg ∧ s5 = .int .i64 k ∧ Hid (Below W0.heap.size W0 wr) ∧ Hid (∀ j, j < k → w2 L j = false))
      case atStart => exact ⟨0, Nat.zero_le _, by omega, rfl, Lib.hid (Below.refl _ _), Lib.hid fun j hj => absurd hj (Nat.not_lt_zero _)⟩
      case round =>
        obtain ⟨k, hk, hg, rfl, BW, F⟩ := hrel
        have c0 := C0.out wr BW.out
        by_cases hlt : k < N
        · have hltz : (k : Int) < (N : Int) := by omega
          have R1 := HR.out.below (BW.out.mono (by have := HS.out; omega))
          obtain ⟨b, off, rfl, -, -, hc⟩ := R1.pos (by have := HN.out; omega)
          obtain ⟨d1, d2⟩ := hc k (by have := HN.out; omega)
          have HK := Lib.hid hlt
          have hday : -25567 ≤ rd L k ∧ rd L k ≤ 2932896 := by
            have := H1.out k (by have := HN.out; omega)
            unfold w1 dtd at this
            simpa using this
          obtain ⟨y, m, d, hd⟩ := dt_some (n := rd L k) (by omega) (by omega)
          have HD := Lib.hid (rdate_some (rd L k) y m d wr hd)
          have HDt := Lib.hid hd
          have HC2 : Hid (∀ W, Below wr.heap.size wr W → W.cell? ⟨b, off + k * 2 + 1, none⟩ = some (.int .i64 (ro L k))) := Lib.hid fun W h => (h.cell (p := ⟨b, off + k * 2 + 1, none⟩) (World.block_lt_of_cell? _ _ d2)).trans d2
          clear hc R1 d2 hday hd
          by_cases h1 : d = 1
          rotate_left
          · have E := Lib.hid (lk_1r (u := u) (e := e) HM.out H1.out (j := k) (by have := HN.out; have := HK.out; omega) (w2_day HDt.out h1))
            go_wp2_with (go_at_call 30; refine HD.out.mono ?_; rintro e w2 ⟨rfl, hb⟩; have B2 : Hid (Hid (Below W0.heap.size W0 w2)) := Lib.hid (Lib.hid (BW.out.trans (hb.mono BW.out.size))); have BD := Lib.hid (HB.out.trans (B2.out.out.mono HB.out.size)); have c0 := C0.out w2 B2.out.out; have d2 := HC2.out w2 hb; clear hb HD HC2)
            go_ret
            exact ⟨ret1_eq (int_eq E.out.symm), BD.out⟩
          subst h1
          by_cases h2 : ro L k < 0
          · have E := Lib.hid (lk_1r (u := u) (e := e) HM.out H1.out (j := k) (by have := HN.out; have := HK.out; omega) (w2_off (.inl h2)))
            go_wp2_with (go_at_call 30; refine HD.out.mono ?_; rintro e w2 ⟨rfl, hb⟩; have B2 : Hid (Hid (Below W0.heap.size W0 w2)) := Lib.hid (Lib.hid (BW.out.trans (hb.mono BW.out.size))); have BD := Lib.hid (HB.out.trans (B2.out.out.mono HB.out.size)); have c0 := C0.out w2 B2.out.out; have d2 := HC2.out w2 hb; clear hb HD HC2)
            go_ret
            exact ⟨ret1_eq (int_eq E.out.symm), BD.out⟩
          by_cases h3 : ro L k > 1000
          · have E := Lib.hid (lk_1r (u := u) (e := e) HM.out H1.out (j := k) (by have := HN.out; have := HK.out; omega) (w2_off (.inr h3)))
            go_wp2_with (go_at_call 30; refine HD.out.mono ?_; rintro e w2 ⟨rfl, hb⟩; have B2 : Hid (Hid (Below W0.heap.size W0 w2)) := Lib.hid (Lib.hid (BW.out.trans (hb.mono BW.out.size))); have BD := Lib.hid (HB.out.trans (B2.out.out.mono HB.out.size)); have c0 := C0.out w2 B2.out.out; have d2 := HC2.out w2 hb; clear hb HD HC2)
            go_ret
            exact ⟨ret1_eq (int_eq E.out.symm), BD.out⟩
          · have E := Lib.hid (w2_no HDt.out h2 h3)
            go_wp2_with (go_at_call 30; refine HD.out.mono ?_; rintro e w2 ⟨rfl, hb⟩; have B2 : Hid (Hid (Below W0.heap.size W0 w2)) := Lib.hid (Lib.hid (BW.out.trans (hb.mono BW.out.size))); have BD := Lib.hid (HB.out.trans (B2.out.out.mono HB.out.size)); have c0 := C0.out w2 B2.out.out; have d2 := HC2.out w2 hb; clear hb HD HC2)
            go_roundg (N - (k + 1))
            case measure => omega
            case rel =>
              refine ⟨k + 1, by omega, by omega, by go_num, B2.out, Lib.hid fun j hj => ?_⟩
              by_cases e : j = k
              · subst e; exact E.out
              · exact F.out j (by omega)
        · have hltz : ¬ (k : Int) < (N : Int) := by omega
          obtain rfl : N = k := by omega
          have H2 : Hid (No2 L) := Lib.hid fun j hj => F.out j (by rw [← HN.out]; exact hj)
          clear F
          go_wp2
          clear c0 hltz hlt hg hk
          go_loopg [9] N (fun gg s5 wr => ∃ k : Nat, N - k ≤ gg ∧ s5 = .int .i64 ((k : Int) + 1) ∧ Hid (Below W0.heap.size W0 wr) ∧ Hid (∀ j, j < k → w3 L j = false))
          case atStart => exact ⟨0, by omega, rfl, BW, Lib.hid fun j hj => absurd hj (Nat.not_lt_zero _)⟩
          case round =>
            clear BW
            obtain ⟨k, hg, rfl, BW, F⟩ := hrel
            have c0 := C0.out wr BW.out
            by_cases hlt : k + 1 < N
            · have hltz : (k : Int) + 1 < (N : Int) := by omega
              have hltz0 : (k : Int) < (N : Int) := by omega
              have hkz : (0 : Int) ≤ (k : Int) := by omega
              have hkb : (k : Int) ≤ 256 := by omega
              have e1 : ((k : Int) + 1).toNat = k + 1 := by omega
              have hk1 : (0 : Int) ≤ (k : Int) + 1 := by omega
              have i0 : IntKind.i64.wrap (k : Int) = (k : Int) := IntWalk.i64_in _ (by omega)
              have R1 := HR.out.below (BW.out.mono (by have := HS.out; omega))
              obtain ⟨b, off, rfl, -, -, hc⟩ := R1.pos (by have := HN.out; omega)
              obtain ⟨d1, d2⟩ := hc k (by have := HN.out; omega)
              obtain ⟨d3, d4⟩ := hc (k + 1) (by have := HN.out; omega)
              have HK := Lib.hid hlt
              clear hc R1
              go_wp2
              have B4 : Hid (∀ o1 o2, Below W0.heap.size W0 ((wr.alloc o1).alloc o2).drew) := Lib.hid fun o1 o2 => BW.out.trans ((((Below.refl _ wr).alloc (Nat.le_refl _) o1).alloc (by simp) o2).drew.mono BW.out.size)
              have o0 := H2.out k (by have := HN.out; have := HK.out; omega)
              have o1 := H2.out (k + 1) (by have := HN.out; have := HK.out; omega)
              have r0 : 0 ≤ ro L k ∧ ro L k ≤ 1000 := by unfold w2 at o0; simp at o0; omega
              have r1 : 0 ≤ ro L (k + 1) ∧ ro L (k + 1) ≤ 1000 := by unfold w2 at o1; simp at o1; omega
              have i1 : IntKind.i64.wrap (ro L k + 1) = ro L k + 1 := IntWalk.i64_in _ (by omega)
              have i2 : IntKind.i64.wrap (ro L k - 1) = ro L k - 1 := IntWalk.i64_in _ (by omega)
              clear o0 o1 r0 r1
              have i9 : IntKind.i64.wrap ((k : Int) + 1 - 1) = (k : Int) := by rw [show (k : Int) + 1 - 1 = k by omega]; exact IntWalk.i64_in _ (by omega)
              have l0 : w.heap.size < wr.heap.size := World.block_lt_of_cell? _ _ c0
              have l1 : b < wr.heap.size := World.block_lt_of_cell? _ _ d1
              have l2 : w.heap.size < wr.heap.size + 1 := by omega
              have l3 : b < wr.heap.size + 1 := by omega
              have l4 : w.heap.size ≠ wr.heap.size := by omega
              have l5 : b ≠ wr.heap.size := by omega
              have l6 : w.heap.size ≠ wr.heap.size + 1 := by omega
              have l7 : b ≠ wr.heap.size + 1 := by omega
              go_region
              all_goals clear c0 d1 d2 d3 d4
              all_goals
                by_cases g1 : rd L (k + 1) ≤ rd L k
                · have E := Lib.hid (lk_6 HM.out H1.out H2.out HU.out HE.out (j := k) (by have := HN.out; have := HK.out; omega) (w3_day g1))
                  go_wp2
                  all_goals go_ret
                  all_goals exact ⟨ret1_eq (int_eq E.out.symm), HB.out.trans ((B4.out _ _).mono HB.out.size)⟩
                by_cases g2 : ro L (k + 1) = ro L k + 1
                · have E := Lib.hid (w3_no g1 (.inl g2))
                  have t2 : (ro L (k + 1) != ro L k + 1) = false := by simp [g2]
                  clear g2
                  go_wp2
                  go_roundg (N - (k + 1))
                  case measure => omega
                  case rel =>
                    refine ⟨k + 1, by omega, by go_num, Lib.hid (B4.out _ _), Lib.hid fun j hj => ?_⟩
                    by_cases e : j = k
                    · subst e; exact E.out
                    · exact F.out j (by omega)
                have t2 : (ro L (k + 1) != ro L k + 1) = true := by simp [g2]
                by_cases g3 : ro L (k + 1) = ro L k - 1
                · have E := Lib.hid (w3_no g1 (.inr g3))
                  have t3 : (ro L (k + 1) != ro L k - 1) = false := by simp [g3]
                  clear g2 g3
                  go_wp2
                  go_roundg (N - (k + 1))
                  case measure => omega
                  case rel =>
                    refine ⟨k + 1, by omega, by go_num, Lib.hid (B4.out _ _), Lib.hid fun j hj => ?_⟩
                    by_cases e : j = k
                    · subst e; exact E.out
                    · exact F.out j (by omega)
                · have E := Lib.hid (lk_6 HM.out H1.out H2.out HU.out HE.out (j := k) (by have := HN.out; have := HK.out; omega) (w3_off g2 g3))
                  have t3 : (ro L (k + 1) != ro L k - 1) = true := by simp [g3]
                  clear g2 g3
                  go_wp2
                  all_goals go_ret
                  all_goals exact ⟨ret1_eq (int_eq E.out.symm), HB.out.trans ((B4.out _ _).mono HB.out.size)⟩
            · have hltz : ¬ (k : Int) + 1 < (N : Int) := by omega
              have HK := Lib.hid hlt
              have E := Lib.hid (lk_0 HM.out H1.out H2.out HU.out HE.out fun j hj => F.out j (by have := HN.out; have := HK.out; omega))
              go_wp2
              go_ret
              exact ⟨ret1_eq (int_eq E.out.symm), HB.out.trans (BW.out.mono HB.out.size)⟩

end Go.Proofs.YtdonicaiimeleaaGreatDoor

namespace Go.Proofs.YtdonicaiimeleaaGreatDoor
open Go.RowKit
set_option linter.unusedVariables false
set_option linter.unusedSimpArgs false

theorem Rp.set {B : Nat} {w : World} {A : Option Addr} {L : List Rw} (h : Rp B w A L) (k i : Nat) (v : Value) (hk : ∀ b off, A = some ⟨b, off, none⟩ → k ≠ b) : Rp B (w.setCell ⟨k, i, none⟩ v) A L := by
  rcases h with h | ⟨b, off, h1, h2, h4, h3⟩
  · exact .inl h
  · have hne := hk b off h1
    refine .inr ⟨b, off, h1, h2, by simpa using h4, fun j hj => ?_⟩
    rw [World.cell?_setCell_far _ _ _ _ hne, World.cell?_setCell_far _ _ _ _ hne]
    exact h3 j hj
theorem Tb.set {lo : Nat} {w : World} {g : Nat} {L : List Rw} {u e : Int} (h : Tb lo w g L u e) (k i : Nat) (v : Value) (hk : k < lo) : Tb lo (w.setCell ⟨k, i, none⟩ v) g L u e := by
  obtain ⟨h0, A, c, h1, h2, h3, h4⟩ := h
  refine ⟨h0, A, c, ?_, ?_, h3, h4⟩
  · have hne : k ≠ g := by omega
    simp [World.setCell, Array.getElem?_modify, hne, h1]
  · have := h2.set k i v (fun b off hb => by have := h4 b off hb; omega)
    simpa using this
theorem Tb.mono {lo lo' : Nat} {w : World} {g : Nat} {L : List Rw} {u e : Int} (h : Tb lo w g L u e) (hl : lo' ≤ lo) : Tb lo' w g L u e := by
  obtain ⟨h0, A, c, h1, h2, h3, h4⟩ := h
  exact ⟨Nat.le_trans hl h0, A, c, h1, h2, h3, fun b off hb => Nat.le_trans hl (h4 b off hb)⟩

theorem dt730 : Dt 730 1972 1 1 := ⟨by unfold isy; omega, by decide, by decide, by decide, by decide, by decide⟩
end Go.Proofs.YtdonicaiimeleaaGreatDoor
