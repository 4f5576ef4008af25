/- Does a scanner stand as the document's? (Written by gen2.py.) -/
import Derived.Test.YtelogbkhplegaaaDocC
import Derived.Test.YtelogbkhplegaaaHeld
import Derived.Deep.RegionHeld3
namespace Go.Proofs.Ytelogbkhplegaaa
open Go.RowKit
set_option linter.unusedVariables false

/-- An answer that is true where both stand alike. -/
def SomeB (P : Bool → Prop) (w : World) (x : Ending) (w' : World) : Prop := ∃ b, x = .returned (.bool b) ∧ P b ∧ Below w.heap.size w w'
theorem belowdraws {B : Nat} {a w : World} (h : Below B a w) (n : Nat) : Below B a (w.drewN n) := ⟨h.os, h.tape, h.output, h.size, h.block⟩
theorem draws_below {w W : World} {n : Nat} (h : W = w.drewN n) : Below w.heap.size w W := by subst h; exact belowdraws (Below.refl _ _) n
theorem num_as (k : Int) (hk : 0 ≤ k) (hk' : k < 100) (w : World) : Calls Try.prog 30 #[ev k] w fun e w' => e = .returned (.int .i64 k) ∧ w = w' := num_any k w hk hk'
theorem en_lo (l : List UInt8) (k : Nat) {e : Int} (h : 0 ≤ e) (h2 : e < 100) : 0 ≤ enE l k e ∧ enE l k e < 100 := by unfold enE; split <;> omega
theorem heldd3 {W0 w' : World} {p1 p2 p3 : Addr} {x1 x2 x3 : Value} (h : Below W0.heap.size W0 w') (k1 : W0.cell? p1 = some x1) (k2 : W0.cell? p2 = some x2) (k3 : W0.cell? p3 = some x3) :
    w'.cell? p1 = some x1 ∧ w'.cell? p2 = some x2 ∧ w'.cell? p3 = some x3 ∧ Below W0.heap.size W0 w' :=
  ⟨(h.cell (World.block_lt_of_cell? _ _ k1)).trans k1, (h.cell (World.block_lt_of_cell? _ _ k2)).trans k2, (h.cell (World.block_lt_of_cell? _ _ k3)).trans k3, h⟩
/-- The block that a call makes of its argument. -/
theorem one (w : World) (s : ByteArray) (k : Nat) (e : Int) : Dk (w.alloc (.cells #[.string s, .int .i64 (k : Int), .int .i64 e] Td)) w.heap.size s k e := heap_alloc_new w _

theorem Txs.bel {w w' : World} {g : Nat} {v : Value} {s : ByteArray} (h : Txs w g v s) (hb : Below w.heap.size w w') : Txs w' g v s := h.kept ⟨hb.os, hb.tape, hb.output, hb.size, fun k hk _ => hb.block k hk⟩
set_option maxHeartbeats 1600000 in
theorem same_s (g k mk : Nat) (e me : Int) (v : Value) (s : ByteArray) (w : World) (h : Sk Ts w g v k e) (ht : Txs w g v s) (hk : k ≤ s.size) (hmk : mk ≤ s.size) (hs : s.size ≤ 1000) (he : 0 ≤ e) (he' : e < 100) :
    Calls Try.prog 10 #[.pointer (some ⟨g, 0, none⟩), dm s mk me] w (SomeB (fun b => mk = k → me = e → b = true) w) := by
  have HC := fun W => rest_any s mk me W hmk hs
  have HS := Lib.hid h
  have HX := Lib.hid ht
  have hsy : mk = k → me = e → rs s.data.toList mk me = rs s.data.toList k e := by rintro rfl rfl; rfl
  have hRs := rsS_size s mk me
  have hRl := rsS_list s mk me
  have hrl := rs_le s.data.toList mk me
  have hsl : s.data.toList.length = s.size := by simp
  obtain ⟨r, hr⟩ : ∃ r, r = rs s.data.toList k e := ⟨_, rfl⟩
  obtain ⟨rm, hrm⟩ : ∃ rm, rm = rs s.data.toList mk me := ⟨_, rfl⟩
  rw [← hrm] at hRs hRl hrl
  rw [← hr, ← hrm] at hsy
  obtain ⟨B, hB⟩ : ∃ B, B = pkB r := ⟨_, rfl⟩
  obtain ⟨T, hT⟩ : ∃ T, T = pkT r := ⟨_, rfl⟩
  have HPB : RowKit.Hid (pkB (rs s.data.toList k e) = B) := by rw [← hr]; exact hB.symm
  have HPT : RowKit.Hid (pkT (rs s.data.toList k e) = T) := by rw [← hr]; exact hT.symm
  have HR := Lib.hid hr; have HRM := Lib.hid hrm; have HSY := Lib.hid hsy
  generalize rsS s mk me = R at *
  have HRL := Lib.hid hRl
  have HCH := Lib.hid HC
  have hR1 : R.size ≤ 1000 := by omega
  have HRS := Lib.hid hRs
  clear HC h ht hsy hr hrm hRl hrl hsl hRs
  cases hcr : r with
  | nil =>
    rw [hcr] at hB hT
    have hB0 : B = 0 := hB
    have hT0 : T = false := hT
    subst hB0; subst hT0
    cases hcm : rm with
    | nil =>
      have hR0 : ¬ (0 < R.size) := by have := HRS.out; rw [hcm] at this; simp at this; simp [this]
      have hR00 : decide (0 < R.size) = false := by simpa using hR0
      clear hcr hcm hB hT
      have hEb := en_lo s.data.toList k he he'
      obtain ⟨E, hE⟩ : ∃ E, E = enE s.data.toList k e := ⟨_, rfl⟩
      obtain ⟨M, hM⟩ : ∃ M, M = enE s.data.toList mk me := ⟨_, rfl⟩
      rw [← hE] at hEb
      obtain ⟨hE1, hE2⟩ := hEb
      have HEN := Lib.hid hE; have HEM := Lib.hid hM
      clear hE hM
      go_enter Try.func10, Try.ntmps10
      go_wp2_with fail
      have hp0 := one w s mk me
      have hb0 := (Below.refl w.heap.size w).alloc (Nat.le_refl _) (.cells #[.string s, .int .i64 (mk : Int), .int .i64 me] Td)
      generalize hW0 : World.alloc w _ = W0 at hp0 hb0 ⊢
      clear hW0
      obtain ⟨p, hp⟩ : ∃ p, p = w.heap.size := ⟨_, rfl⟩
      rw [← hp] at hp0 ⊢
      have P0 := Lib.hid hp0; have B0 := Lib.hid hb0
      clear hp0 hb0 hp
      refine (HCH.out W0).mono ?_
      rintro x W1 ⟨rfl, hb⟩
      have P1 := Lib.hid (P0.out.below hb P0.out.lt)
      have B1 := Lib.hid (B0.out.trans (hb.mono B0.out.size))
      have S1 := Lib.hid (HS.out.below B1.out HS.out.lt)
      have X1 := Lib.hid (HX.out.bel B1.out)
      clear hb P0 B0
      go_wp2_with fail
      refine (peek_s g k e v s W1 S1.out X1.out hk hs).mono ?_
      rw [HPB.out, HPT.out]
      rintro x W2 ⟨rfl, n2, hw2⟩
      have P2 : RowKit.Hid (Dk W2 p s mk me) := by rw [hw2]; exact P1.out
      have B2 : RowKit.Hid (Below w.heap.size w W2) := B1.out.trans ((draws_below hw2).mono B1.out.size)
      have S2 : RowKit.Hid (Sk Ts W2 g v k e) := by rw [hw2]; exact S1.out
      have X2 : RowKit.Hid (Txs W2 g v s) := by rw [hw2]; exact X1.out
      clear hw2 P1 B1 S1 X1
      have k1 := P2.out.c0; have k2 := P2.out.c1; have k3 := P2.out.c2
      have hAT := fun n => (at_s g k e v (W2.drewN n) S2.out).mono fun _ _ ⟨h1, h2⟩ => (⟨h1, h2.symm⟩ : _ ∧ _)
      have hLF := fun n => left_s g k e v s (W2.drewN n) S2.out X2.out hk hs
      have hER := fun n => (err_s g k e v (W2.drewN n) S2.out).mono fun _ _ ⟨h1, h2⟩ => (⟨h1, h2.symm⟩ : _ ∧ _)
      have hNM := fun n => (num_as e he he' (W2.drewN n)).mono fun _ _ ⟨h1, h2⟩ => (⟨h1, h2.symm⟩ : _ ∧ _)
      rw [← HR.out] at hLF
      have HAT := Lib.hid hAT; have HLF := Lib.hid hLF; have HER := Lib.hid hER; have HNM := Lib.hid hNM
      clear hAT hLF hER hNM
      go_upto_region 5 with fail
      by_cases h1 : k = mk
      · have x1 : ((k : Int) == (mk : Int)) = true := by rw [h1]; simp
        have x2 : (k == mk) = true := by rw [h1]; simp
        by_cases h2 : r.length = R.size
        · have y1 : ((r.length : Int) == (R.size : Int)) = true := by rw [h2]; simp
          have y2 : (r.length == R.size) = true := by rw [h2]; simp
          by_cases h3 : e = me
          · have z1 : (e == me) = true := by rw [h3]; simp
            have H1 := Lib.hid h1; have H2 := Lib.hid h2; have H3 := Lib.hid h3
            have hEq : M = E := by rw [HEM.out, HEN.out, h1, h3]
            rw [hEq] at HEM
            have u1 : (E == E) = true := by simp
            clear h1 h2 h3 hEq HAT HLF HER HNM
            go_region_held3 (fun w' => w'.cell? ⟨p, 0, none⟩ = some (.string s) ∧ w'.cell? ⟨p, 1, none⟩ = some (.int .i64 (mk : Int)) ∧ w'.cell? ⟨p, 2, none⟩ = some (.int .i64 me) ∧ Below W2.heap.size W2 w')
              (first | exact heldd3 (Below.refl _ _).drew k1 k2 k3 | exact heldd3 (by assumption) k1 k2 k3)
              (first
                | (go_at_call 14; go_split_ands; refine (at_s g k e v _ (S2.out.below (by assumption) S2.out.lt)).mono ?_; rintro x w' ⟨rfl, rfl⟩)
                | (go_at_call 18; go_split_ands; refine (left_s g k e v s _ (S2.out.below (by assumption) S2.out.lt) (X2.out.bel (by assumption)) hk hs).mono ?_; rw [← HR.out]; rintro x w3 ⟨rfl, n3, hw3⟩; have hB3 : Below W2.heap.size W2 w3 := Below.trans (by assumption) ((draws_below hw3).mono (Below.size (w := W2) (B := W2.heap.size) (by assumption))); clear hw3)
                | (go_at_call 15; go_split_ands; refine (err_s g k e v _ (S2.out.below (by assumption) S2.out.lt)).mono ?_; rintro x w' ⟨rfl, rfl⟩)
                | (go_at_call 28; go_split_ands; refine (end_s g k e v s _ (S2.out.below (by assumption) S2.out.lt) (X2.out.bel (by assumption)) hk hs).mono ?_; rw [← HEN.out]; rintro x w4 ⟨rfl, n4, hw4⟩; have hB4 : Below W2.heap.size W2 w4 := Below.trans (by assumption) ((draws_below hw4).mono (Below.size (w := W2) (B := W2.heap.size) (by assumption))); clear hw4)
                | (go_at_call_of 30 (ev e); refine (num_as e he he' _).mono ?_; rintro x w' ⟨rfl, rfl⟩)
                | (go_at_call_of 30 (ev E); refine (num_as E hE1 hE2 _).mono ?_; rintro x w' ⟨rfl, rfl⟩)
                | (go_at_call 31; go_split_ands; refine (end_d s mk me _ hs).mono ?_; rw [← HEM.out]; rintro x w5 ⟨rfl, hb5⟩; have hB5 : Below W2.heap.size W2 w5 := Below.trans (by assumption) (hb5.mono (Below.size (w := W2) (B := W2.heap.size) (by assumption))); clear hb5))
            all_goals
              go_wp2
              go_ret
              exact ⟨true, rfl, fun _ _ => rfl, B2.out.trans (hB5.mono B2.out.size)⟩
          · have z1 : (e == me) = false := beq_eq_false_iff_ne.2 h3
            have H3 := Lib.hid h3; have H1 := Lib.hid h1; have H2 := Lib.hid h2
            clear h1 h2 h3
            go_quiet ((first
              | (go_at_call 14; exact Calls.quiet_of_same (HAT.out _))
              | (go_at_call 18; exact Calls.quiet_of (HLF.out _))
              | (go_at_call 15; exact Calls.quiet_of_same (HER.out _))
              | (go_at_call 30; exact Calls.quiet_of_same (HNM.out _))))
            go_wp2
            go_ret
            exact ⟨false, rfl, fun _ h => (H3.out h.symm).elim, belowdraws B2.out _⟩
        · have y1 : ((r.length : Int) == (R.size : Int)) = false := beq_eq_false_iff_ne.2 (by omega)
          have y2 : (r.length == R.size) = false := beq_eq_false_iff_ne.2 h2
          have HNO : RowKit.Hid (mk = k → me = e → False) := fun g1 g2 => h2 (by rw [HRS.out, HSY.out g1 g2])
          have H1 := Lib.hid h1
          clear h1 h2
          go_quiet ((first
            | (go_at_call 14; exact Calls.quiet_of_same (HAT.out _))
            | (go_at_call 18; exact Calls.quiet_of (HLF.out _))))
          go_wp2
          go_ret
          exact ⟨false, rfl, fun g1 g2 => (HNO.out g1 g2).elim, belowdraws B2.out _⟩
      · have x1 : ((k : Int) == (mk : Int)) = false := beq_eq_false_iff_ne.2 (by omega)
        have x2 : (k == mk) = false := beq_eq_false_iff_ne.2 h1
        have H1 := Lib.hid h1
        clear h1
        go_quiet ((go_at_call 14; exact Calls.quiet_of_same (HAT.out _)))
        go_wp2
        go_ret
        exact ⟨false, rfl, fun h _ => (H1.out h.symm).elim, belowdraws B2.out _⟩
    | cons c m =>
      have h0 : 0 < R.size := by have := HRS.out; rw [hcm] at this; simp at this; omega
      have hpos : ((R.size : Int) > 0) := by omega
      have HN : RowKit.Hid (mk = k → me = e → False) := fun h1 h2 => by have := HSY.out h1 h2; rw [hcr, hcm] at this; cases this
      clear hcr hcm hB hT
      go_enter Try.func10, Try.ntmps10
      go_wp2_with fail
      have hp0 := one w s mk me
      have hb0 := (Below.refl w.heap.size w).alloc (Nat.le_refl _) (.cells #[.string s, .int .i64 (mk : Int), .int .i64 me] Td)
      generalize hW0 : World.alloc w _ = W0 at hp0 hb0 ⊢
      clear hW0
      obtain ⟨p, hp⟩ : ∃ p, p = w.heap.size := ⟨_, rfl⟩
      rw [← hp] at hp0 ⊢
      have P0 := Lib.hid hp0; have B0 := Lib.hid hb0
      clear hp0 hb0 hp
      refine (HCH.out W0).mono ?_
      rintro x W1 ⟨rfl, hb⟩
      have P1 := Lib.hid (P0.out.below hb P0.out.lt)
      have B1 := Lib.hid (B0.out.trans (hb.mono B0.out.size))
      have S1 := Lib.hid (HS.out.below B1.out HS.out.lt)
      have X1 := Lib.hid (HX.out.bel B1.out)
      clear hb P0 B0
      go_wp2_with fail
      refine (peek_s g k e v s W1 S1.out X1.out hk hs).mono ?_
      rw [HPB.out, HPT.out]
      rintro x W2 ⟨rfl, n2, hw2⟩
      have P2 : RowKit.Hid (Dk W2 p s mk me) := by rw [hw2]; exact P1.out
      have B2 : RowKit.Hid (Below w.heap.size w W2) := B1.out.trans ((draws_below hw2).mono B1.out.size)
      have S2 : RowKit.Hid (Sk Ts W2 g v k e) := by rw [hw2]; exact S1.out
      have X2 : RowKit.Hid (Txs W2 g v s) := by rw [hw2]; exact X1.out
      clear hw2 P1 B1 S1 X1
      go_wp2
      go_ret
      exact ⟨false, rfl, fun h1 h2 => (HN.out h1 h2).elim, B2.out⟩
  | cons b l =>
    rw [hcr] at hB hT
    have hB0 : B = (b.toNat : Int) := hB
    have hT0 : T = true := hT
    subst hB0; subst hT0
    cases hcm : rm with
    | nil =>
      have hR0 : R = ⟨#[]⟩ := by
        have := HRL.out
        rw [hcm] at this
        apply ByteArray.ext
        simpa using this
      subst hR0
      have HN : RowKit.Hid (mk = k → me = e → False) := fun h1 h2 => by have := HSY.out h1 h2; rw [hcr, hcm] at this; cases this
      clear hcr hcm hB hT
      go_enter Try.func10, Try.ntmps10
      go_wp2_with fail
      have hp0 := one w s mk me
      have hb0 := (Below.refl w.heap.size w).alloc (Nat.le_refl _) (.cells #[.string s, .int .i64 (mk : Int), .int .i64 me] Td)
      generalize hW0 : World.alloc w _ = W0 at hp0 hb0 ⊢
      clear hW0
      obtain ⟨p, hp⟩ : ∃ p, p = w.heap.size := ⟨_, rfl⟩
      rw [← hp] at hp0 ⊢
      have P0 := Lib.hid hp0; have B0 := Lib.hid hb0
      clear hp0 hb0 hp
      refine (HCH.out W0).mono ?_
      rintro x W1 ⟨rfl, hb⟩
      have P1 := Lib.hid (P0.out.below hb P0.out.lt)
      have B1 := Lib.hid (B0.out.trans (hb.mono B0.out.size))
      have S1 := Lib.hid (HS.out.below B1.out HS.out.lt)
      have X1 := Lib.hid (HX.out.bel B1.out)
      clear hb P0 B0
      go_wp2_with fail
      refine (peek_s g k e v s W1 S1.out X1.out hk hs).mono ?_
      rw [HPB.out, HPT.out]
      rintro x W2 ⟨rfl, n2, hw2⟩
      have P2 : RowKit.Hid (Dk W2 p s mk me) := by rw [hw2]; exact P1.out
      have B2 : RowKit.Hid (Below w.heap.size w W2) := B1.out.trans ((draws_below hw2).mono B1.out.size)
      have S2 : RowKit.Hid (Sk Ts W2 g v k e) := by rw [hw2]; exact S1.out
      have X2 : RowKit.Hid (Txs W2 g v s) := by rw [hw2]; exact X1.out
      clear hw2 P1 B1 S1 X1
      go_wp2
      go_ret
      exact ⟨false, rfl, fun h1 h2 => (HN.out h1 h2).elim, B2.out⟩
    | cons c m =>
      have h0 : 0 < R.size := by have := HRS.out; rw [hcm] at this; simp at this; omega
      have hpos : ((R.size : Int) > 0) := by omega
      have hRc : R[0] = c := by
        have h1 := HRL.out
        rw [hcm] at h1
        have : R.data.toList[0]'(by simp; exact h0) = c := by simp only [h1, List.getElem_cons_zero]
        exact this
      have HRC := Lib.hid hRc
      by_cases hbc : b = c
      · have hx : ((b.toNat : Int) != (R[0].toNat : Int)) = false := by rw [HRC.out, hbc]; simp
        clear hcr hcm hB hT hRc hbc
        have hEb := en_lo s.data.toList k he he'
        obtain ⟨E, hE⟩ : ∃ E, E = enE s.data.toList k e := ⟨_, rfl⟩
        obtain ⟨M, hM⟩ : ∃ M, M = enE s.data.toList mk me := ⟨_, rfl⟩
        rw [← hE] at hEb
        obtain ⟨hE1, hE2⟩ := hEb
        have HEN := Lib.hid hE; have HEM := Lib.hid hM
        clear hE hM
        go_enter Try.func10, Try.ntmps10
        go_wp2_with fail
        have hp0 := one w s mk me
        have hb0 := (Below.refl w.heap.size w).alloc (Nat.le_refl _) (.cells #[.string s, .int .i64 (mk : Int), .int .i64 me] Td)
        generalize hW0 : World.alloc w _ = W0 at hp0 hb0 ⊢
        clear hW0
        obtain ⟨p, hp⟩ : ∃ p, p = w.heap.size := ⟨_, rfl⟩
        rw [← hp] at hp0 ⊢
        have P0 := Lib.hid hp0; have B0 := Lib.hid hb0
        clear hp0 hb0 hp
        refine (HCH.out W0).mono ?_
        rintro x W1 ⟨rfl, hb⟩
        have P1 := Lib.hid (P0.out.below hb P0.out.lt)
        have B1 := Lib.hid (B0.out.trans (hb.mono B0.out.size))
        have S1 := Lib.hid (HS.out.below B1.out HS.out.lt)
        have X1 := Lib.hid (HX.out.bel B1.out)
        clear hb P0 B0
        go_wp2_with fail
        refine (peek_s g k e v s W1 S1.out X1.out hk hs).mono ?_
        rw [HPB.out, HPT.out]
        rintro x W2 ⟨rfl, n2, hw2⟩
        have P2 : RowKit.Hid (Dk W2 p s mk me) := by rw [hw2]; exact P1.out
        have B2 : RowKit.Hid (Below w.heap.size w W2) := B1.out.trans ((draws_below hw2).mono B1.out.size)
        have S2 : RowKit.Hid (Sk Ts W2 g v k e) := by rw [hw2]; exact S1.out
        have X2 : RowKit.Hid (Txs W2 g v s) := by rw [hw2]; exact X1.out
        clear hw2 P1 B1 S1 X1
        have k1 := P2.out.c0; have k2 := P2.out.c1; have k3 := P2.out.c2
        have hAT := fun n => (at_s g k e v (W2.drewN n) S2.out).mono fun _ _ ⟨h1, h2⟩ => (⟨h1, h2.symm⟩ : _ ∧ _)
        have hLF := fun n => left_s g k e v s (W2.drewN n) S2.out X2.out hk hs
        have hER := fun n => (err_s g k e v (W2.drewN n) S2.out).mono fun _ _ ⟨h1, h2⟩ => (⟨h1, h2.symm⟩ : _ ∧ _)
        have hNM := fun n => (num_as e he he' (W2.drewN n)).mono fun _ _ ⟨h1, h2⟩ => (⟨h1, h2.symm⟩ : _ ∧ _)
        rw [← HR.out] at hLF
        have HAT := Lib.hid hAT; have HLF := Lib.hid hLF; have HER := Lib.hid hER; have HNM := Lib.hid hNM
        clear hAT hLF hER hNM
        go_upto_region 5 with fail
        by_cases h1 : k = mk
        · have x1 : ((k : Int) == (mk : Int)) = true := by rw [h1]; simp
          have x2 : (k == mk) = true := by rw [h1]; simp
          by_cases h2 : r.length = R.size
          · have y1 : ((r.length : Int) == (R.size : Int)) = true := by rw [h2]; simp
            have y2 : (r.length == R.size) = true := by rw [h2]; simp
            by_cases h3 : e = me
            · have z1 : (e == me) = true := by rw [h3]; simp
              have H1 := Lib.hid h1; have H2 := Lib.hid h2; have H3 := Lib.hid h3
              have hEq : M = E := by rw [HEM.out, HEN.out, h1, h3]
              rw [hEq] at HEM
              have u1 : (E == E) = true := by simp
              clear h1 h2 h3 hEq HAT HLF HER HNM
              go_region_held3 (fun w' => w'.cell? ⟨p, 0, none⟩ = some (.string s) ∧ w'.cell? ⟨p, 1, none⟩ = some (.int .i64 (mk : Int)) ∧ w'.cell? ⟨p, 2, none⟩ = some (.int .i64 me) ∧ Below W2.heap.size W2 w')
                (first | exact heldd3 (Below.refl _ _).drew k1 k2 k3 | exact heldd3 (by assumption) k1 k2 k3)
                (first
                  | (go_at_call 14; go_split_ands; refine (at_s g k e v _ (S2.out.below (by assumption) S2.out.lt)).mono ?_; rintro x w' ⟨rfl, rfl⟩)
                  | (go_at_call 18; go_split_ands; refine (left_s g k e v s _ (S2.out.below (by assumption) S2.out.lt) (X2.out.bel (by assumption)) hk hs).mono ?_; rw [← HR.out]; rintro x w3 ⟨rfl, n3, hw3⟩; have hB3 : Below W2.heap.size W2 w3 := Below.trans (by assumption) ((draws_below hw3).mono (Below.size (w := W2) (B := W2.heap.size) (by assumption))); clear hw3)
                  | (go_at_call 15; go_split_ands; refine (err_s g k e v _ (S2.out.below (by assumption) S2.out.lt)).mono ?_; rintro x w' ⟨rfl, rfl⟩)
                  | (go_at_call 28; go_split_ands; refine (end_s g k e v s _ (S2.out.below (by assumption) S2.out.lt) (X2.out.bel (by assumption)) hk hs).mono ?_; rw [← HEN.out]; rintro x w4 ⟨rfl, n4, hw4⟩; have hB4 : Below W2.heap.size W2 w4 := Below.trans (by assumption) ((draws_below hw4).mono (Below.size (w := W2) (B := W2.heap.size) (by assumption))); clear hw4)
                  | (go_at_call_of 30 (ev e); refine (num_as e he he' _).mono ?_; rintro x w' ⟨rfl, rfl⟩)
                  | (go_at_call_of 30 (ev E); refine (num_as E hE1 hE2 _).mono ?_; rintro x w' ⟨rfl, rfl⟩)
                  | (go_at_call 31; go_split_ands; refine (end_d s mk me _ hs).mono ?_; rw [← HEM.out]; rintro x w5 ⟨rfl, hb5⟩; have hB5 : Below W2.heap.size W2 w5 := Below.trans (by assumption) (hb5.mono (Below.size (w := W2) (B := W2.heap.size) (by assumption))); clear hb5))
              all_goals
                go_wp2
                go_ret
                exact ⟨true, rfl, fun _ _ => rfl, B2.out.trans (hB5.mono B2.out.size)⟩
            · have z1 : (e == me) = false := beq_eq_false_iff_ne.2 h3
              have H3 := Lib.hid h3; have H1 := Lib.hid h1; have H2 := Lib.hid h2
              clear h1 h2 h3
              go_quiet ((first
                | (go_at_call 14; exact Calls.quiet_of_same (HAT.out _))
                | (go_at_call 18; exact Calls.quiet_of (HLF.out _))
                | (go_at_call 15; exact Calls.quiet_of_same (HER.out _))
                | (go_at_call 30; exact Calls.quiet_of_same (HNM.out _))))
              go_wp2
              go_ret
              exact ⟨false, rfl, fun _ h => (H3.out h.symm).elim, belowdraws B2.out _⟩
          · have y1 : ((r.length : Int) == (R.size : Int)) = false := beq_eq_false_iff_ne.2 (by omega)
            have y2 : (r.length == R.size) = false := beq_eq_false_iff_ne.2 h2
            have HNO : RowKit.Hid (mk = k → me = e → False) := fun g1 g2 => h2 (by rw [HRS.out, HSY.out g1 g2])
            have H1 := Lib.hid h1
            clear h1 h2
            go_quiet ((first
              | (go_at_call 14; exact Calls.quiet_of_same (HAT.out _))
              | (go_at_call 18; exact Calls.quiet_of (HLF.out _))))
            go_wp2
            go_ret
            exact ⟨false, rfl, fun g1 g2 => (HNO.out g1 g2).elim, belowdraws B2.out _⟩
        · have x1 : ((k : Int) == (mk : Int)) = false := beq_eq_false_iff_ne.2 (by omega)
          have x2 : (k == mk) = false := beq_eq_false_iff_ne.2 h1
          have H1 := Lib.hid h1
          clear h1
          go_quiet ((go_at_call 14; exact Calls.quiet_of_same (HAT.out _)))
          go_wp2
          go_ret
          exact ⟨false, rfl, fun h _ => (H1.out h.symm).elim, belowdraws B2.out _⟩
      · have hx : ((b.toNat : Int) != (R[0].toNat : Int)) = true := by
          rw [HRC.out, bne_iff_ne]
          intro h3
          exact hbc (UInt8.toNat_inj.1 (by omega))
        have HN : RowKit.Hid (mk = k → me = e → False) := fun h1 h2 => by have := HSY.out h1 h2; rw [hcr, hcm] at this; injection this with h3 _; exact hbc h3.symm
        clear hcr hcm hB hT hRc hbc
        go_enter Try.func10, Try.ntmps10
        go_wp2_with fail
        have hp0 := one w s mk me
        have hb0 := (Below.refl w.heap.size w).alloc (Nat.le_refl _) (.cells #[.string s, .int .i64 (mk : Int), .int .i64 me] Td)
        generalize hW0 : World.alloc w _ = W0 at hp0 hb0 ⊢
        clear hW0
        obtain ⟨p, hp⟩ : ∃ p, p = w.heap.size := ⟨_, rfl⟩
        rw [← hp] at hp0 ⊢
        have P0 := Lib.hid hp0; have B0 := Lib.hid hb0
        clear hp0 hb0 hp
        refine (HCH.out W0).mono ?_
        rintro x W1 ⟨rfl, hb⟩
        have P1 := Lib.hid (P0.out.below hb P0.out.lt)
        have B1 := Lib.hid (B0.out.trans (hb.mono B0.out.size))
        have S1 := Lib.hid (HS.out.below B1.out HS.out.lt)
        have X1 := Lib.hid (HX.out.bel B1.out)
        clear hb P0 B0
        go_wp2_with fail
        refine (peek_s g k e v s W1 S1.out X1.out hk hs).mono ?_
        rw [HPB.out, HPT.out]
        rintro x W2 ⟨rfl, n2, hw2⟩
        have P2 : RowKit.Hid (Dk W2 p s mk me) := by rw [hw2]; exact P1.out
        have B2 : RowKit.Hid (Below w.heap.size w W2) := B1.out.trans ((draws_below hw2).mono B1.out.size)
        have S2 : RowKit.Hid (Sk Ts W2 g v k e) := by rw [hw2]; exact S1.out
        have X2 : RowKit.Hid (Txs W2 g v s) := by rw [hw2]; exact X1.out
        clear hw2 P1 B1 S1 X1
        go_wp2
        go_ret
        exact ⟨false, rfl, fun h1 h2 => (HN.out h1 h2).elim, B2.out⟩
theorem Txb.bel {w w' : World} {g : Nat} {v : Value} {s : ByteArray} (h : Txb w g v s) (hb : Below w.heap.size w w') : Txb w' g v s := h.kept ⟨hb.os, hb.tape, hb.output, hb.size, fun k hk _ => hb.block k hk⟩
set_option maxHeartbeats 1600000 in
theorem same_b (g k mk : Nat) (e me : Int) (v : Value) (s : ByteArray) (w : World) (h : Sk Tb w g v k e) (ht : Txb w g v s) (hk : k ≤ s.size) (hmk : mk ≤ s.size) (hs : s.size ≤ 1000) (he : 0 ≤ e) (he' : e < 100) :
    Calls Try.prog 49 #[.pointer (some ⟨g, 0, none⟩), dm s mk me] w (SomeB (fun b => mk = k → me = e → b = true) w) := by
  have HC := fun W => rest_any s mk me W hmk hs
  have HS := Lib.hid h
  have HX := Lib.hid ht
  have hsy : mk = k → me = e → rs s.data.toList mk me = rs s.data.toList k e := by rintro rfl rfl; rfl
  have hRs := rsS_size s mk me
  have hRl := rsS_list s mk me
  have hrl := rs_le s.data.toList mk me
  have hsl : s.data.toList.length = s.size := by simp
  obtain ⟨r, hr⟩ : ∃ r, r = rs s.data.toList k e := ⟨_, rfl⟩
  obtain ⟨rm, hrm⟩ : ∃ rm, rm = rs s.data.toList mk me := ⟨_, rfl⟩
  rw [← hrm] at hRs hRl hrl
  rw [← hr, ← hrm] at hsy
  obtain ⟨B, hB⟩ : ∃ B, B = pkB r := ⟨_, rfl⟩
  obtain ⟨T, hT⟩ : ∃ T, T = pkT r := ⟨_, rfl⟩
  have HPB : RowKit.Hid (pkB (rs s.data.toList k e) = B) := by rw [← hr]; exact hB.symm
  have HPT : RowKit.Hid (pkT (rs s.data.toList k e) = T) := by rw [← hr]; exact hT.symm
  have HR := Lib.hid hr; have HRM := Lib.hid hrm; have HSY := Lib.hid hsy
  generalize rsS s mk me = R at *
  have HRL := Lib.hid hRl
  have HCH := Lib.hid HC
  have hR1 : R.size ≤ 1000 := by omega
  have HRS := Lib.hid hRs
  clear HC h ht hsy hr hrm hRl hrl hsl hRs
  cases hcr : r with
  | nil =>
    rw [hcr] at hB hT
    have hB0 : B = 0 := hB
    have hT0 : T = false := hT
    subst hB0; subst hT0
    cases hcm : rm with
    | nil =>
      have hR0 : ¬ (0 < R.size) := by have := HRS.out; rw [hcm] at this; simp at this; simp [this]
      have hR00 : decide (0 < R.size) = false := by simpa using hR0
      clear hcr hcm hB hT
      have hEb := en_lo s.data.toList k he he'
      obtain ⟨E, hE⟩ : ∃ E, E = enE s.data.toList k e := ⟨_, rfl⟩
      obtain ⟨M, hM⟩ : ∃ M, M = enE s.data.toList mk me := ⟨_, rfl⟩
      rw [← hE] at hEb
      obtain ⟨hE1, hE2⟩ := hEb
      have HEN := Lib.hid hE; have HEM := Lib.hid hM
      clear hE hM
      go_enter Try.func49, Try.ntmps49
      go_wp2_with fail
      have hp0 := one w s mk me
      have hb0 := (Below.refl w.heap.size w).alloc (Nat.le_refl _) (.cells #[.string s, .int .i64 (mk : Int), .int .i64 me] Td)
      generalize hW0 : World.alloc w _ = W0 at hp0 hb0 ⊢
      clear hW0
      obtain ⟨p, hp⟩ : ∃ p, p = w.heap.size := ⟨_, rfl⟩
      rw [← hp] at hp0 ⊢
      have P0 := Lib.hid hp0; have B0 := Lib.hid hb0
      clear hp0 hb0 hp
      refine (HCH.out W0).mono ?_
      rintro x W1 ⟨rfl, hb⟩
      have P1 := Lib.hid (P0.out.below hb P0.out.lt)
      have B1 := Lib.hid (B0.out.trans (hb.mono B0.out.size))
      have S1 := Lib.hid (HS.out.below B1.out HS.out.lt)
      have X1 := Lib.hid (HX.out.bel B1.out)
      clear hb P0 B0
      go_wp2_with fail
      refine (peek_b g k e v s W1 S1.out X1.out hk hs).mono ?_
      rw [HPB.out, HPT.out]
      rintro x W2 ⟨rfl, n2, hw2⟩
      have P2 : RowKit.Hid (Dk W2 p s mk me) := by rw [hw2]; exact P1.out
      have B2 : RowKit.Hid (Below w.heap.size w W2) := B1.out.trans ((draws_below hw2).mono B1.out.size)
      have S2 : RowKit.Hid (Sk Tb W2 g v k e) := by rw [hw2]; exact S1.out
      have X2 : RowKit.Hid (Txb W2 g v s) := by rw [hw2]; exact X1.out
      clear hw2 P1 B1 S1 X1
      have k1 := P2.out.c0; have k2 := P2.out.c1; have k3 := P2.out.c2
      have hAT := fun n => (at_b g k e v (W2.drewN n) S2.out).mono fun _ _ ⟨h1, h2⟩ => (⟨h1, h2.symm⟩ : _ ∧ _)
      have hLF := fun n => left_b g k e v s (W2.drewN n) S2.out X2.out hk hs
      have hER := fun n => (err_b g k e v (W2.drewN n) S2.out).mono fun _ _ ⟨h1, h2⟩ => (⟨h1, h2.symm⟩ : _ ∧ _)
      have hNM := fun n => (num_as e he he' (W2.drewN n)).mono fun _ _ ⟨h1, h2⟩ => (⟨h1, h2.symm⟩ : _ ∧ _)
      rw [← HR.out] at hLF
      have HAT := Lib.hid hAT; have HLF := Lib.hid hLF; have HER := Lib.hid hER; have HNM := Lib.hid hNM
      clear hAT hLF hER hNM
      go_upto_region 5 with fail
      by_cases h1 : k = mk
      · have x1 : ((k : Int) == (mk : Int)) = true := by rw [h1]; simp
        have x2 : (k == mk) = true := by rw [h1]; simp
        by_cases h2 : r.length = R.size
        · have y1 : ((r.length : Int) == (R.size : Int)) = true := by rw [h2]; simp
          have y2 : (r.length == R.size) = true := by rw [h2]; simp
          by_cases h3 : e = me
          · have z1 : (e == me) = true := by rw [h3]; simp
            have H1 := Lib.hid h1; have H2 := Lib.hid h2; have H3 := Lib.hid h3
            have hEq : M = E := by rw [HEM.out, HEN.out, h1, h3]
            rw [hEq] at HEM
            have u1 : (E == E) = true := by simp
            clear h1 h2 h3 hEq HAT HLF HER HNM
            go_region_held3 (fun w' => w'.cell? ⟨p, 0, none⟩ = some (.string s) ∧ w'.cell? ⟨p, 1, none⟩ = some (.int .i64 (mk : Int)) ∧ w'.cell? ⟨p, 2, none⟩ = some (.int .i64 me) ∧ Below W2.heap.size W2 w')
              (first | exact heldd3 (Below.refl _ _).drew k1 k2 k3 | exact heldd3 (by assumption) k1 k2 k3)
              (first
                | (go_at_call 65; go_split_ands; refine (at_b g k e v _ (S2.out.below (by assumption) S2.out.lt)).mono ?_; rintro x w' ⟨rfl, rfl⟩)
                | (go_at_call 61; go_split_ands; refine (left_b g k e v s _ (S2.out.below (by assumption) S2.out.lt) (X2.out.bel (by assumption)) hk hs).mono ?_; rw [← HR.out]; rintro x w3 ⟨rfl, n3, hw3⟩; have hB3 : Below W2.heap.size W2 w3 := Below.trans (by assumption) ((draws_below hw3).mono (Below.size (w := W2) (B := W2.heap.size) (by assumption))); clear hw3)
                | (go_at_call 66; go_split_ands; refine (err_b g k e v _ (S2.out.below (by assumption) S2.out.lt)).mono ?_; rintro x w' ⟨rfl, rfl⟩)
                | (go_at_call 67; go_split_ands; refine (end_b g k e v s _ (S2.out.below (by assumption) S2.out.lt) (X2.out.bel (by assumption)) hk hs).mono ?_; rw [← HEN.out]; rintro x w4 ⟨rfl, n4, hw4⟩; have hB4 : Below W2.heap.size W2 w4 := Below.trans (by assumption) ((draws_below hw4).mono (Below.size (w := W2) (B := W2.heap.size) (by assumption))); clear hw4)
                | (go_at_call_of 30 (ev e); refine (num_as e he he' _).mono ?_; rintro x w' ⟨rfl, rfl⟩)
                | (go_at_call_of 30 (ev E); refine (num_as E hE1 hE2 _).mono ?_; rintro x w' ⟨rfl, rfl⟩)
                | (go_at_call 31; go_split_ands; refine (end_d s mk me _ hs).mono ?_; rw [← HEM.out]; rintro x w5 ⟨rfl, hb5⟩; have hB5 : Below W2.heap.size W2 w5 := Below.trans (by assumption) (hb5.mono (Below.size (w := W2) (B := W2.heap.size) (by assumption))); clear hb5))
            all_goals
              go_wp2
              go_ret
              exact ⟨true, rfl, fun _ _ => rfl, B2.out.trans (hB5.mono B2.out.size)⟩
          · have z1 : (e == me) = false := beq_eq_false_iff_ne.2 h3
            have H3 := Lib.hid h3; have H1 := Lib.hid h1; have H2 := Lib.hid h2
            clear h1 h2 h3
            go_quiet ((first
              | (go_at_call 65; exact Calls.quiet_of_same (HAT.out _))
              | (go_at_call 61; exact Calls.quiet_of (HLF.out _))
              | (go_at_call 66; exact Calls.quiet_of_same (HER.out _))
              | (go_at_call 30; exact Calls.quiet_of_same (HNM.out _))))
            go_wp2
            go_ret
            exact ⟨false, rfl, fun _ h => (H3.out h.symm).elim, belowdraws B2.out _⟩
        · have y1 : ((r.length : Int) == (R.size : Int)) = false := beq_eq_false_iff_ne.2 (by omega)
          have y2 : (r.length == R.size) = false := beq_eq_false_iff_ne.2 h2
          have HNO : RowKit.Hid (mk = k → me = e → False) := fun g1 g2 => h2 (by rw [HRS.out, HSY.out g1 g2])
          have H1 := Lib.hid h1
          clear h1 h2
          go_quiet ((first
            | (go_at_call 65; exact Calls.quiet_of_same (HAT.out _))
            | (go_at_call 61; exact Calls.quiet_of (HLF.out _))))
          go_wp2
          go_ret
          exact ⟨false, rfl, fun g1 g2 => (HNO.out g1 g2).elim, belowdraws B2.out _⟩
      · have x1 : ((k : Int) == (mk : Int)) = false := beq_eq_false_iff_ne.2 (by omega)
        have x2 : (k == mk) = false := beq_eq_false_iff_ne.2 h1
        have H1 := Lib.hid h1
        clear h1
        go_quiet ((go_at_call 65; exact Calls.quiet_of_same (HAT.out _)))
        go_wp2
        go_ret
        exact ⟨false, rfl, fun h _ => (H1.out h.symm).elim, belowdraws B2.out _⟩
    | cons c m =>
      have h0 : 0 < R.size := by have := HRS.out; rw [hcm] at this; simp at this; omega
      have hpos : ((R.size : Int) > 0) := by omega
      have HN : RowKit.Hid (mk = k → me = e → False) := fun h1 h2 => by have := HSY.out h1 h2; rw [hcr, hcm] at this; cases this
      clear hcr hcm hB hT
      go_enter Try.func49, Try.ntmps49
      go_wp2_with fail
      have hp0 := one w s mk me
      have hb0 := (Below.refl w.heap.size w).alloc (Nat.le_refl _) (.cells #[.string s, .int .i64 (mk : Int), .int .i64 me] Td)
      generalize hW0 : World.alloc w _ = W0 at hp0 hb0 ⊢
      clear hW0
      obtain ⟨p, hp⟩ : ∃ p, p = w.heap.size := ⟨_, rfl⟩
      rw [← hp] at hp0 ⊢
      have P0 := Lib.hid hp0; have B0 := Lib.hid hb0
      clear hp0 hb0 hp
      refine (HCH.out W0).mono ?_
      rintro x W1 ⟨rfl, hb⟩
      have P1 := Lib.hid (P0.out.below hb P0.out.lt)
      have B1 := Lib.hid (B0.out.trans (hb.mono B0.out.size))
      have S1 := Lib.hid (HS.out.below B1.out HS.out.lt)
      have X1 := Lib.hid (HX.out.bel B1.out)
      clear hb P0 B0
      go_wp2_with fail
      refine (peek_b g k e v s W1 S1.out X1.out hk hs).mono ?_
      rw [HPB.out, HPT.out]
      rintro x W2 ⟨rfl, n2, hw2⟩
      have P2 : RowKit.Hid (Dk W2 p s mk me) := by rw [hw2]; exact P1.out
      have B2 : RowKit.Hid (Below w.heap.size w W2) := B1.out.trans ((draws_below hw2).mono B1.out.size)
      have S2 : RowKit.Hid (Sk Tb W2 g v k e) := by rw [hw2]; exact S1.out
      have X2 : RowKit.Hid (Txb W2 g v s) := by rw [hw2]; exact X1.out
      clear hw2 P1 B1 S1 X1
      go_wp2
      go_ret
      exact ⟨false, rfl, fun h1 h2 => (HN.out h1 h2).elim, B2.out⟩
  | cons b l =>
    rw [hcr] at hB hT
    have hB0 : B = (b.toNat : Int) := hB
    have hT0 : T = true := hT
    subst hB0; subst hT0
    cases hcm : rm with
    | nil =>
      have hR0 : R = ⟨#[]⟩ := by
        have := HRL.out
        rw [hcm] at this
        apply ByteArray.ext
        simpa using this
      subst hR0
      have HN : RowKit.Hid (mk = k → me = e → False) := fun h1 h2 => by have := HSY.out h1 h2; rw [hcr, hcm] at this; cases this
      clear hcr hcm hB hT
      go_enter Try.func49, Try.ntmps49
      go_wp2_with fail
      have hp0 := one w s mk me
      have hb0 := (Below.refl w.heap.size w).alloc (Nat.le_refl _) (.cells #[.string s, .int .i64 (mk : Int), .int .i64 me] Td)
      generalize hW0 : World.alloc w _ = W0 at hp0 hb0 ⊢
      clear hW0
      obtain ⟨p, hp⟩ : ∃ p, p = w.heap.size := ⟨_, rfl⟩
      rw [← hp] at hp0 ⊢
      have P0 := Lib.hid hp0; have B0 := Lib.hid hb0
      clear hp0 hb0 hp
      refine (HCH.out W0).mono ?_
      rintro x W1 ⟨rfl, hb⟩
      have P1 := Lib.hid (P0.out.below hb P0.out.lt)
      have B1 := Lib.hid (B0.out.trans (hb.mono B0.out.size))
      have S1 := Lib.hid (HS.out.below B1.out HS.out.lt)
      have X1 := Lib.hid (HX.out.bel B1.out)
      clear hb P0 B0
      go_wp2_with fail
      refine (peek_b g k e v s W1 S1.out X1.out hk hs).mono ?_
      rw [HPB.out, HPT.out]
      rintro x W2 ⟨rfl, n2, hw2⟩
      have P2 : RowKit.Hid (Dk W2 p s mk me) := by rw [hw2]; exact P1.out
      have B2 : RowKit.Hid (Below w.heap.size w W2) := B1.out.trans ((draws_below hw2).mono B1.out.size)
      have S2 : RowKit.Hid (Sk Tb W2 g v k e) := by rw [hw2]; exact S1.out
      have X2 : RowKit.Hid (Txb W2 g v s) := by rw [hw2]; exact X1.out
      clear hw2 P1 B1 S1 X1
      go_wp2
      go_ret
      exact ⟨false, rfl, fun h1 h2 => (HN.out h1 h2).elim, B2.out⟩
    | cons c m =>
      have h0 : 0 < R.size := by have := HRS.out; rw [hcm] at this; simp at this; omega
      have hpos : ((R.size : Int) > 0) := by omega
      have hRc : R[0] = c := by
        have h1 := HRL.out
        rw [hcm] at h1
        have : R.data.toList[0]'(by simp; exact h0) = c := by simp only [h1, List.getElem_cons_zero]
        exact this
      have HRC := Lib.hid hRc
      by_cases hbc : b = c
      · have hx : ((b.toNat : Int) != (R[0].toNat : Int)) = false := by rw [HRC.out, hbc]; simp
        clear hcr hcm hB hT hRc hbc
        have hEb := en_lo s.data.toList k he he'
        obtain ⟨E, hE⟩ : ∃ E, E = enE s.data.toList k e := ⟨_, rfl⟩
        obtain ⟨M, hM⟩ : ∃ M, M = enE s.data.toList mk me := ⟨_, rfl⟩
        rw [← hE] at hEb
        obtain ⟨hE1, hE2⟩ := hEb
        have HEN := Lib.hid hE; have HEM := Lib.hid hM
        clear hE hM
        go_enter Try.func49, Try.ntmps49
        go_wp2_with fail
        have hp0 := one w s mk me
        have hb0 := (Below.refl w.heap.size w).alloc (Nat.le_refl _) (.cells #[.string s, .int .i64 (mk : Int), .int .i64 me] Td)
        generalize hW0 : World.alloc w _ = W0 at hp0 hb0 ⊢
        clear hW0
        obtain ⟨p, hp⟩ : ∃ p, p = w.heap.size := ⟨_, rfl⟩
        rw [← hp] at hp0 ⊢
        have P0 := Lib.hid hp0; have B0 := Lib.hid hb0
        clear hp0 hb0 hp
        refine (HCH.out W0).mono ?_
        rintro x W1 ⟨rfl, hb⟩
        have P1 := Lib.hid (P0.out.below hb P0.out.lt)
        have B1 := Lib.hid (B0.out.trans (hb.mono B0.out.size))
        have S1 := Lib.hid (HS.out.below B1.out HS.out.lt)
        have X1 := Lib.hid (HX.out.bel B1.out)
        clear hb P0 B0
        go_wp2_with fail
        refine (peek_b g k e v s W1 S1.out X1.out hk hs).mono ?_
        rw [HPB.out, HPT.out]
        rintro x W2 ⟨rfl, n2, hw2⟩
        have P2 : RowKit.Hid (Dk W2 p s mk me) := by rw [hw2]; exact P1.out
        have B2 : RowKit.Hid (Below w.heap.size w W2) := B1.out.trans ((draws_below hw2).mono B1.out.size)
        have S2 : RowKit.Hid (Sk Tb W2 g v k e) := by rw [hw2]; exact S1.out
        have X2 : RowKit.Hid (Txb W2 g v s) := by rw [hw2]; exact X1.out
        clear hw2 P1 B1 S1 X1
        have k1 := P2.out.c0; have k2 := P2.out.c1; have k3 := P2.out.c2
        have hAT := fun n => (at_b g k e v (W2.drewN n) S2.out).mono fun _ _ ⟨h1, h2⟩ => (⟨h1, h2.symm⟩ : _ ∧ _)
        have hLF := fun n => left_b g k e v s (W2.drewN n) S2.out X2.out hk hs
        have hER := fun n => (err_b g k e v (W2.drewN n) S2.out).mono fun _ _ ⟨h1, h2⟩ => (⟨h1, h2.symm⟩ : _ ∧ _)
        have hNM := fun n => (num_as e he he' (W2.drewN n)).mono fun _ _ ⟨h1, h2⟩ => (⟨h1, h2.symm⟩ : _ ∧ _)
        rw [← HR.out] at hLF
        have HAT := Lib.hid hAT; have HLF := Lib.hid hLF; have HER := Lib.hid hER; have HNM := Lib.hid hNM
        clear hAT hLF hER hNM
        go_upto_region 5 with fail
        by_cases h1 : k = mk
        · have x1 : ((k : Int) == (mk : Int)) = true := by rw [h1]; simp
          have x2 : (k == mk) = true := by rw [h1]; simp
          by_cases h2 : r.length = R.size
          · have y1 : ((r.length : Int) == (R.size : Int)) = true := by rw [h2]; simp
            have y2 : (r.length == R.size) = true := by rw [h2]; simp
            by_cases h3 : e = me
            · have z1 : (e == me) = true := by rw [h3]; simp
              have H1 := Lib.hid h1; have H2 := Lib.hid h2; have H3 := Lib.hid h3
              have hEq : M = E := by rw [HEM.out, HEN.out, h1, h3]
              rw [hEq] at HEM
              have u1 : (E == E) = true := by simp
              clear h1 h2 h3 hEq HAT HLF HER HNM
              go_region_held3 (fun w' => w'.cell? ⟨p, 0, none⟩ = some (.string s) ∧ w'.cell? ⟨p, 1, none⟩ = some (.int .i64 (mk : Int)) ∧ w'.cell? ⟨p, 2, none⟩ = some (.int .i64 me) ∧ Below W2.heap.size W2 w')
                (first | exact heldd3 (Below.refl _ _).drew k1 k2 k3 | exact heldd3 (by assumption) k1 k2 k3)
                (first
                  | (go_at_call 65; go_split_ands; refine (at_b g k e v _ (S2.out.below (by assumption) S2.out.lt)).mono ?_; rintro x w' ⟨rfl, rfl⟩)
                  | (go_at_call 61; go_split_ands; refine (left_b g k e v s _ (S2.out.below (by assumption) S2.out.lt) (X2.out.bel (by assumption)) hk hs).mono ?_; rw [← HR.out]; rintro x w3 ⟨rfl, n3, hw3⟩; have hB3 : Below W2.heap.size W2 w3 := Below.trans (by assumption) ((draws_below hw3).mono (Below.size (w := W2) (B := W2.heap.size) (by assumption))); clear hw3)
                  | (go_at_call 66; go_split_ands; refine (err_b g k e v _ (S2.out.below (by assumption) S2.out.lt)).mono ?_; rintro x w' ⟨rfl, rfl⟩)
                  | (go_at_call 67; go_split_ands; refine (end_b g k e v s _ (S2.out.below (by assumption) S2.out.lt) (X2.out.bel (by assumption)) hk hs).mono ?_; rw [← HEN.out]; rintro x w4 ⟨rfl, n4, hw4⟩; have hB4 : Below W2.heap.size W2 w4 := Below.trans (by assumption) ((draws_below hw4).mono (Below.size (w := W2) (B := W2.heap.size) (by assumption))); clear hw4)
                  | (go_at_call_of 30 (ev e); refine (num_as e he he' _).mono ?_; rintro x w' ⟨rfl, rfl⟩)
                  | (go_at_call_of 30 (ev E); refine (num_as E hE1 hE2 _).mono ?_; rintro x w' ⟨rfl, rfl⟩)
                  | (go_at_call 31; go_split_ands; refine (end_d s mk me _ hs).mono ?_; rw [← HEM.out]; rintro x w5 ⟨rfl, hb5⟩; have hB5 : Below W2.heap.size W2 w5 := Below.trans (by assumption) (hb5.mono (Below.size (w := W2) (B := W2.heap.size) (by assumption))); clear hb5))
              all_goals
                go_wp2
                go_ret
                exact ⟨true, rfl, fun _ _ => rfl, B2.out.trans (hB5.mono B2.out.size)⟩
            · have z1 : (e == me) = false := beq_eq_false_iff_ne.2 h3
              have H3 := Lib.hid h3; have H1 := Lib.hid h1; have H2 := Lib.hid h2
              clear h1 h2 h3
              go_quiet ((first
                | (go_at_call 65; exact Calls.quiet_of_same (HAT.out _))
                | (go_at_call 61; exact Calls.quiet_of (HLF.out _))
                | (go_at_call 66; exact Calls.quiet_of_same (HER.out _))
                | (go_at_call 30; exact Calls.quiet_of_same (HNM.out _))))
              go_wp2
              go_ret
              exact ⟨false, rfl, fun _ h => (H3.out h.symm).elim, belowdraws B2.out _⟩
          · have y1 : ((r.length : Int) == (R.size : Int)) = false := beq_eq_false_iff_ne.2 (by omega)
            have y2 : (r.length == R.size) = false := beq_eq_false_iff_ne.2 h2
            have HNO : RowKit.Hid (mk = k → me = e → False) := fun g1 g2 => h2 (by rw [HRS.out, HSY.out g1 g2])
            have H1 := Lib.hid h1
            clear h1 h2
            go_quiet ((first
              | (go_at_call 65; exact Calls.quiet_of_same (HAT.out _))
              | (go_at_call 61; exact Calls.quiet_of (HLF.out _))))
            go_wp2
            go_ret
            exact ⟨false, rfl, fun g1 g2 => (HNO.out g1 g2).elim, belowdraws B2.out _⟩
        · have x1 : ((k : Int) == (mk : Int)) = false := beq_eq_false_iff_ne.2 (by omega)
          have x2 : (k == mk) = false := beq_eq_false_iff_ne.2 h1
          have H1 := Lib.hid h1
          clear h1
          go_quiet ((go_at_call 65; exact Calls.quiet_of_same (HAT.out _)))
          go_wp2
          go_ret
          exact ⟨false, rfl, fun h _ => (H1.out h.symm).elim, belowdraws B2.out _⟩
      · have hx : ((b.toNat : Int) != (R[0].toNat : Int)) = true := by
          rw [HRC.out, bne_iff_ne]
          intro h3
          exact hbc (UInt8.toNat_inj.1 (by omega))
        have HN : RowKit.Hid (mk = k → me = e → False) := fun h1 h2 => by have := HSY.out h1 h2; rw [hcr, hcm] at this; injection this with h3 _; exact hbc h3.symm
        clear hcr hcm hB hT hRc hbc
        go_enter Try.func49, Try.ntmps49
        go_wp2_with fail
        have hp0 := one w s mk me
        have hb0 := (Below.refl w.heap.size w).alloc (Nat.le_refl _) (.cells #[.string s, .int .i64 (mk : Int), .int .i64 me] Td)
        generalize hW0 : World.alloc w _ = W0 at hp0 hb0 ⊢
        clear hW0
        obtain ⟨p, hp⟩ : ∃ p, p = w.heap.size := ⟨_, rfl⟩
        rw [← hp] at hp0 ⊢
        have P0 := Lib.hid hp0; have B0 := Lib.hid hb0
        clear hp0 hb0 hp
        refine (HCH.out W0).mono ?_
        rintro x W1 ⟨rfl, hb⟩
        have P1 := Lib.hid (P0.out.below hb P0.out.lt)
        have B1 := Lib.hid (B0.out.trans (hb.mono B0.out.size))
        have S1 := Lib.hid (HS.out.below B1.out HS.out.lt)
        have X1 := Lib.hid (HX.out.bel B1.out)
        clear hb P0 B0
        go_wp2_with fail
        refine (peek_b g k e v s W1 S1.out X1.out hk hs).mono ?_
        rw [HPB.out, HPT.out]
        rintro x W2 ⟨rfl, n2, hw2⟩
        have P2 : RowKit.Hid (Dk W2 p s mk me) := by rw [hw2]; exact P1.out
        have B2 : RowKit.Hid (Below w.heap.size w W2) := B1.out.trans ((draws_below hw2).mono B1.out.size)
        have S2 : RowKit.Hid (Sk Tb W2 g v k e) := by rw [hw2]; exact S1.out
        have X2 : RowKit.Hid (Txb W2 g v s) := by rw [hw2]; exact X1.out
        clear hw2 P1 B1 S1 X1
        go_wp2
        go_ret
        exact ⟨false, rfl, fun h1 h2 => (HN.out h1 h2).elim, B2.out⟩
end Go.Proofs.Ytelogbkhplegaaa
