/- The document's answers for the scales: Place, Label. Written by gen_sca.py. -/
import Derived.Test.YtiamggjebaabkaaDoorScaD
import Derived.Deep.RegionHeld3
namespace Go.Proofs.YtiamggjebaabkaaDoor
open Go.RowKit
set_option linter.unusedVariables false
set_option linter.unusedSimpArgs false

/-- All that W0 has lies in W as it lay. -/
structure Kq (W0 W : World) : Prop where
  bel : Below W0.heap.size W0 W
theorem Kq.step {W0 W W' : World} (h : Kq W0 W) (hb : Below W.heap.size W W') : Kq W0 W' := ⟨h.bel.trans (hb.mono h.bel.size)⟩
/-- Is this day the one? -/
theorem pl_test {L : List Rw} (V : Vr L) {t d s n : Int} (h : Plc L t d s) : (ofB L n && (decide (0 ≤ t - n * 86400 - ofN L n) && decide (t - n * 86400 - ofN L n < 86400 + lpN L n))) = decide (n = d) := by
  by_cases e : n = d
  · subst e
    obtain ⟨h1, h2, h3, h4⟩ := h
    rw [h1, decide_eq_true (show 0 ≤ t - n * 86400 - ofN L n by omega), decide_eq_true (show t - n * 86400 - ofN L n < 86400 + lpN L n by omega), decide_eq_true rfl]
    rfl
  · rw [decide_eq_false e]
    cases hb : ofB L n with
    | false => rfl
    | true =>
      by_cases c : 0 ≤ t - n * 86400 - ofN L n ∧ t - n * 86400 - ofN L n < 86400 + lpN L n
      · exact absurd (pl_one V ⟨hb, c.1, c.2, by omega⟩ h).1 e
      · by_cases c1 : 0 ≤ t - n * 86400 - ofN L n
        · rw [decide_eq_false (fun q => c ⟨c1, q⟩)]; simp
        · rw [decide_eq_false c1]; simp
theorem first_of {L : List Rw} (V : Vr L) : ofE12 L (rd L 0) 0 = 0 ∧ ofV12 L (rd L 0) 0 = bgn L 0 := by
  have a : af L (rd L 0) = 1 := V.af_is' (rd L 0) 1 V.pos (fun _ => Int.le_refl _) (fun h => (V.ord 0 h).1)
  have lb := V.lpN_bd (rd L 0)
  have e1 : ofE12 L (rd L 0) 0 = 0 := by
    unfold ofE12 hsB
    rw [if_pos (ofB_pos.2 (by omega)), decide_eq_true (by omega), decide_eq_true (by omega)]; rfl
  refine ⟨e1, ?_⟩
  unfold ofV12
  rw [e1, if_pos rfl, ofN_at (by omega), a]
  unfold bgn
  rw [Int.mul_comm]; simp
theorem first_iff {L : List Rw} (V : Vr L) (t : Int) : t < bgn L 0 ↔ abg L t = 0 := by
  constructor
  · intro h
    rcases Nat.eq_zero_or_pos (abg L t) with c | c
    · exact c
    · have := V.abg_lo t c; omega
  · intro h
    exact abg_hi L t (by omega) V.pos
theorem far_tp {L : List Rw} (V : Vr L) {t : Int} (h0 : abg L t ≠ 0) (h : 1125899906842624 < t) : tpE L t = 13 := by
  obtain ⟨b1, b2, b3, b4, b5⟩ := tp_bd V h0
  unfold tpE
  rw [if_neg h0, if_pos (by omega)]
theorem Rp.first {w : World} {A : Option Addr} {L : List Rw} (h : Rp w.heap.size w A L) (hl : 0 < L.length) : ∃ b off, A = some ⟨b, off, none⟩ ∧ b < w.heap.size ∧ w.cell? ⟨b, off, none⟩ = some (.int .i64 (rd L 0)) := by
  obtain ⟨b, off, e, -, hb, hc⟩ := h.pos hl
  have := (hc 0 hl).1
  rw [Nat.zero_mul, Nat.add_zero] at this
  exact ⟨b, off, e, hb, this⟩

set_option maxRecDepth 100000 in
set_option maxHeartbeats 2000000 in
theorem rplace_none (A : Option Addr) (c : Nat) (L : List Rw) (u e : Int) (t : Int) (w : World) (hr : Rp w.heap.size w A L) (V : Vr L) (ht : fits t) (h0 : abg L t = 0) :
    Calls Tryd.prog 23 #[.agg #[.slice A L.length c, .int .i64 u, .int .i64 e], .int .i64 t] w fun x w' => x = .returned (.tuple #[.int .i64 0, .int .i64 0, .int .i64 8]) ∧ Below w.heap.size w w' := by
  have few := V.few
  obtain ⟨W0, hW0, hb, hs, c0, c1, c2⟩ := dbox w A L.length c u e
  have HK : Hid (∀ W, Below W0.heap.size W0 W → Rp W.heap.size W A L ∧ (W.cell? ⟨w.heap.size, 0, none⟩ = some (.slice A L.length c) ∧ W.cell? ⟨w.heap.size, 1, none⟩ = some (.int .i64 u) ∧ W.cell? ⟨w.heap.size, 2, none⟩ = some (.int .i64 e))) := Lib.hid fun W hq =>
    ⟨((hr.keep (hb.trans (hq.mono hb.size))).mono (Nat.le_trans hb.size hq.size)), (hq.cell (p := ⟨w.heap.size, 0, none⟩) (show w.heap.size < W0.heap.size by omega)).trans c0, (hq.cell (p := ⟨w.heap.size, 1, none⟩) (show w.heap.size < W0.heap.size by omega)).trans c1, (hq.cell (p := ⟨w.heap.size, 2, none⟩) (show w.heap.size < W0.heap.size by omega)).trans c2⟩
  have HB := Lib.hid hb
  obtain ⟨bA, oA, rfl, hbA, hcA⟩ := hr.first V.pos
  have d0 := V.day 0 V.pos
  have HOf := Lib.hid (fun (W : World) (hb : Rp W.heap.size W (some ⟨bA, oA, none⟩) L) => rof12_any (some ⟨bA, oA, none⟩) c L u e (rd L 0) 0 W hb V (by omega) (by omega) (by omega) (by omega))
  obtain ⟨f1, f2⟩ := first_of V
  rw [f1, f2] at HOf
  have hfi := first_iff V t
  have HbA : Hid (bA < W0.heap.size) := Lib.hid (by omega)
  have cA : W0.cell? ⟨bA, oA, none⟩ = some (.int .i64 (rd L 0)) := (hb.cell (p := ⟨bA, oA, none⟩) hbA).trans hcA
  have hz : (0 : Int) < (L.length : Int) := by have := V.pos; omega
  have hz2 : ¬ ((L.length : Int) = 0) := by omega
  have hz3 : 0 < L.length := V.pos
  have hz4 : ¬ L.length = 0 := by omega
  have hlt : decide (t < bgn L 0) = true := decide_eq_true (hfi.2 h0)
  clear hr V hb hs few f1 f2 hfi h0 hbA hcA d0 ht
  generalize bgn L 0 = z at *
  generalize rd L 0 = r0 at *
  generalize L.length = N at *
  go_enter Tryd.func23, Tryd.ntmps23
  go_upto_region 1 with fail
  rw [← hW0]; clear hW0
  go_upto_region 2 with fail
  have HS2 : Hid (∀ W, Kq W0 W → (W.cell? ⟨w.heap.size, 0, none⟩ = some (.slice (some ⟨bA, oA, none⟩) N c) ∧ W.cell? ⟨w.heap.size, 1, none⟩ = some (.int .i64 u) ∧ W.cell? ⟨w.heap.size, 2, none⟩ = some (.int .i64 e) ∧ W.cell? ⟨bA, oA, none⟩ = some (.int .i64 r0)) ∧ Kq W0 W) := Lib.hid fun W hk => ⟨⟨(HK.out _ hk.bel).2.1, (HK.out _ hk.bel).2.2.1, (HK.out _ hk.bel).2.2.2, (hk.bel.cell (p := ⟨bA, oA, none⟩) HbA.out).trans cA⟩, hk⟩
  have hKD : Kq W0 W0.drew := ⟨(Below.refl _ W0).drew⟩
  go_region_held3 (fun W => (W.cell? ⟨w.heap.size, 0, none⟩ = some (.slice (some ⟨bA, oA, none⟩) N c) ∧ W.cell? ⟨w.heap.size, 1, none⟩ = some (.int .i64 u) ∧ W.cell? ⟨w.heap.size, 2, none⟩ = some (.int .i64 e) ∧ W.cell? ⟨bA, oA, none⟩ = some (.int .i64 r0)) ∧ Kq W0 W)
    (exact HS2.out _ (by assumption))
    (first
      | (go_at_call 45; go_split_ands; refine (HOf.out _ (HK.out _ (Kq.bel (by assumption))).1).mono ?_; rintro e w1 ⟨rfl, hq⟩; have hk2 : Kq W0 w1 := Kq.step (by assumption) hq; clear hq))
  have Q1 : Hid (Below W0.heap.size W0 _) := Lib.hid (Kq.bel (W0 := W0) (by assumption))
  all_goals go_wp2_with fail
  all_goals go_ret3
  all_goals exact ⟨rfl, HB.out.trans (Q1.out.mono HB.out.size)⟩

set_option maxRecDepth 100000 in
set_option maxHeartbeats 2000000 in
theorem rplace_far (A : Option Addr) (c : Nat) (L : List Rw) (u e : Int) (t : Int) (w : World) (hr : Rp w.heap.size w A L) (V : Vr L) (ht : fits t) (h0 : abg L t ≠ 0) (hf : 1125899906842624 < t) :
    Calls Tryd.prog 23 #[.agg #[.slice A L.length c, .int .i64 u, .int .i64 e], .int .i64 t] w fun x w' => x = .returned (.tuple #[.int .i64 0, .int .i64 0, .int .i64 13]) ∧ Below w.heap.size w w' := by
  have few := V.few
  obtain ⟨W0, hW0, hb, hs, c0, c1, c2⟩ := dbox w A L.length c u e
  have HK : Hid (∀ W, Below W0.heap.size W0 W → Rp W.heap.size W A L ∧ (W.cell? ⟨w.heap.size, 0, none⟩ = some (.slice A L.length c) ∧ W.cell? ⟨w.heap.size, 1, none⟩ = some (.int .i64 u) ∧ W.cell? ⟨w.heap.size, 2, none⟩ = some (.int .i64 e))) := Lib.hid fun W hq =>
    ⟨((hr.keep (hb.trans (hq.mono hb.size))).mono (Nat.le_trans hb.size hq.size)), (hq.cell (p := ⟨w.heap.size, 0, none⟩) (show w.heap.size < W0.heap.size by omega)).trans c0, (hq.cell (p := ⟨w.heap.size, 1, none⟩) (show w.heap.size < W0.heap.size by omega)).trans c1, (hq.cell (p := ⟨w.heap.size, 2, none⟩) (show w.heap.size < W0.heap.size by omega)).trans c2⟩
  have HB := Lib.hid hb
  obtain ⟨bA, oA, rfl, hbA, hcA⟩ := hr.first V.pos
  have d0 := V.day 0 V.pos
  have HOf := Lib.hid (fun (W : World) (hb : Rp W.heap.size W (some ⟨bA, oA, none⟩) L) => rof12_any (some ⟨bA, oA, none⟩) c L u e (rd L 0) 0 W hb V (by omega) (by omega) (by omega) (by omega))
  obtain ⟨f1, f2⟩ := first_of V
  rw [f1, f2] at HOf
  have hfi := first_iff V t
  have HbA : Hid (bA < W0.heap.size) := Lib.hid (by omega)
  have cA : W0.cell? ⟨bA, oA, none⟩ = some (.int .i64 (rd L 0)) := (hb.cell (p := ⟨bA, oA, none⟩) hbA).trans hcA
  have hz : (0 : Int) < (L.length : Int) := by have := V.pos; omega
  have hz2 : ¬ ((L.length : Int) = 0) := by omega
  have hz3 : 0 < L.length := V.pos
  have hz4 : ¬ L.length = 0 := by omega
  have hlt : decide (t < bgn L 0) = false := decide_eq_false (fun h => h0 (hfi.1 h))
  have hff : decide (1125899906842624 < t) = true := decide_eq_true hf
  clear hr V hb hs few f1 f2 hfi h0 hbA hcA d0 ht hf
  generalize bgn L 0 = z at *
  generalize rd L 0 = r0 at *
  generalize L.length = N at *
  go_enter Tryd.func23, Tryd.ntmps23
  go_upto_region 1 with fail
  rw [← hW0]; clear hW0
  go_upto_region 2 with fail
  have HS2 : Hid (∀ W, Kq W0 W → (W.cell? ⟨w.heap.size, 0, none⟩ = some (.slice (some ⟨bA, oA, none⟩) N c) ∧ W.cell? ⟨w.heap.size, 1, none⟩ = some (.int .i64 u) ∧ W.cell? ⟨w.heap.size, 2, none⟩ = some (.int .i64 e) ∧ W.cell? ⟨bA, oA, none⟩ = some (.int .i64 r0)) ∧ Kq W0 W) := Lib.hid fun W hk => ⟨⟨(HK.out _ hk.bel).2.1, (HK.out _ hk.bel).2.2.1, (HK.out _ hk.bel).2.2.2, (hk.bel.cell (p := ⟨bA, oA, none⟩) HbA.out).trans cA⟩, hk⟩
  have hKD : Kq W0 W0.drew := ⟨(Below.refl _ W0).drew⟩
  go_region_held3 (fun W => (W.cell? ⟨w.heap.size, 0, none⟩ = some (.slice (some ⟨bA, oA, none⟩) N c) ∧ W.cell? ⟨w.heap.size, 1, none⟩ = some (.int .i64 u) ∧ W.cell? ⟨w.heap.size, 2, none⟩ = some (.int .i64 e) ∧ W.cell? ⟨bA, oA, none⟩ = some (.int .i64 r0)) ∧ Kq W0 W)
    (exact HS2.out _ (by assumption))
    (first
      | (go_at_call 45; go_split_ands; refine (HOf.out _ (HK.out _ (Kq.bel (by assumption))).1).mono ?_; rintro e w1 ⟨rfl, hq⟩; have hk2 : Kq W0 w1 := Kq.step (by assumption) hq; clear hq))
  have Q1 : Hid (Below W0.heap.size W0 _) := Lib.hid (Kq.bel (W0 := W0) (by assumption))
  all_goals go_wp2_with fail
  all_goals go_ret3
  all_goals exact ⟨rfl, HB.out.trans (Q1.out.mono HB.out.size)⟩

set_option maxRecDepth 100000 in
set_option maxHeartbeats 2000000 in
theorem rplace_near_far (A : Option Addr) (c : Nat) (L : List Rw) (u e : Int) (t : Int) (w : World) (hr : Rp w.heap.size w A L) (V : Vr L) (ht : fits t) (h0 : abg L t ≠ 0) (hf : ¬ 1125899906842624 < t) (hy : 2932896 < tpN L t) :
    Calls Tryd.prog 23 #[.agg #[.slice A L.length c, .int .i64 u, .int .i64 e], .int .i64 t] w fun x w' => x = .returned (.tuple #[.int .i64 0, .int .i64 0, .int .i64 13]) ∧ Below w.heap.size w w' := by
  have few := V.few
  obtain ⟨W0, hW0, hb, hs, c0, c1, c2⟩ := dbox w A L.length c u e
  have HK : Hid (∀ W, Below W0.heap.size W0 W → Rp W.heap.size W A L ∧ (W.cell? ⟨w.heap.size, 0, none⟩ = some (.slice A L.length c) ∧ W.cell? ⟨w.heap.size, 1, none⟩ = some (.int .i64 u) ∧ W.cell? ⟨w.heap.size, 2, none⟩ = some (.int .i64 e))) := Lib.hid fun W hq =>
    ⟨((hr.keep (hb.trans (hq.mono hb.size))).mono (Nat.le_trans hb.size hq.size)), (hq.cell (p := ⟨w.heap.size, 0, none⟩) (show w.heap.size < W0.heap.size by omega)).trans c0, (hq.cell (p := ⟨w.heap.size, 1, none⟩) (show w.heap.size < W0.heap.size by omega)).trans c1, (hq.cell (p := ⟨w.heap.size, 2, none⟩) (show w.heap.size < W0.heap.size by omega)).trans c2⟩
  have HB := Lib.hid hb
  obtain ⟨bA, oA, rfl, hbA, hcA⟩ := hr.first V.pos
  have d0 := V.day 0 V.pos
  have HOf := Lib.hid (fun (W : World) (hb : Rp W.heap.size W (some ⟨bA, oA, none⟩) L) => rof12_any (some ⟨bA, oA, none⟩) c L u e (rd L 0) 0 W hb V (by omega) (by omega) (by omega) (by omega))
  obtain ⟨f1, f2⟩ := first_of V
  rw [f1, f2] at HOf
  have hfi := first_iff V t
  have HbA : Hid (bA < W0.heap.size) := Lib.hid (by omega)
  have cA : W0.cell? ⟨bA, oA, none⟩ = some (.int .i64 (rd L 0)) := (hb.cell (p := ⟨bA, oA, none⟩) hbA).trans hcA
  have hz : (0 : Int) < (L.length : Int) := by have := V.pos; omega
  have hz2 : ¬ ((L.length : Int) = 0) := by omega
  have hz3 : 0 < L.length := V.pos
  have hz4 : ¬ L.length = 0 := by omega
  have hlt : decide (t < bgn L 0) = false := decide_eq_false (fun h => h0 (hfi.1 h))
  have hff : decide (1125899906842624 < t) = false := decide_eq_false hf
  have hpl := pl_tp V h0
  have hnr := tp_near V h0
  obtain ⟨b1, b2, b3, b4, b5⟩ := tp_bd V h0
  have hT : ∀ n, (ofB L n && (decide (0 ≤ t - n * 86400 - ofN L n) && decide (t - n * 86400 - ofN L n < 86400 + lpN L n))) = decide (n = tpN L t) := fun n => pl_test V hpl
  have HO := Lib.hid (fun (n : Int) (W : World) (hb : Rp W.heap.size W (some ⟨bA, oA, none⟩) L) => roffset_any (some ⟨bA, oA, none⟩) c L u e n W hb (by omega))
  have HL := Lib.hid (fun (n : Int) (W : World) (hb : Rp W.heap.size W (some ⟨bA, oA, none⟩) L) => rleap10_any (some ⟨bA, oA, none⟩) c L u e n W hb V (by omega))
  have hla := Lib.hid (fun w => rlast_any w)
  have hob := Lib.hid (fun n => V.ofN_bd n)
  have hlb := Lib.hid (fun n => V.lpN_bd n)
  have HT := Lib.hid hT
  have hS : t - tpN L t * 86400 - ofN L (tpN L t) = tpS L t := by omega
  have HS := Lib.hid hS
  obtain ⟨q, hq⟩ : ∃ q, t.tdiv 86400 = q := ⟨_, rfl⟩
  have hqt : (-25569 ≤ q ∧ q ≤ 13031249999) ∧ (-86400 < t - 86400 * q ∧ t - 86400 * q < 86400) := by
    have e2 := Int.tmod_def t 86400
    have e3 : -86400 < t.tmod 86400 ∧ t.tmod 86400 < 86400 := by
      have h1 := Int.tmod_lt_of_pos t (show (0 : Int) < 86400 by decide)
      have h2 := Int.lt_tmod_of_pos t (show (0 : Int) < 86400 by decide)
      omega
    rw [hq] at e2
    omega
  rw [hq] at hnr
  have wq : wrap64 q = q := wrap64_fit (by unfold fits; omega)
  have HNR := Lib.hid hnr; have HSS := Lib.hid (⟨b2, b4⟩ : (0 ≤ tpS L t ∧ tpS L t ≤ 86400) ∧ t = 86400 * tpN L t + tpS L t + ofN L (tpN L t)); have HQT := Lib.hid hqt
  have htb : -3000000000 ≤ t ∧ t ≤ 1125899906842624 := by omega
  clear hr V hb hs few f1 f2 hfi h0 hbA hcA d0 ht hf hpl hT hS b1 b2 b3 b4 b5 hnr hqt
  generalize tpS L t = S at *
  generalize hd : tpN L t = d at *
  have HD := Lib.hid hd
  clear hd
  generalize bgn L 0 = z at *
  generalize rd L 0 = r0 at *
  generalize L.length = N at *
  go_enter Tryd.func23, Tryd.ntmps23
  go_upto_region 1 with fail
  rw [← hW0]; clear hW0
  go_upto_region 2 with fail
  have HS2 : Hid (∀ W, Kq W0 W → (W.cell? ⟨w.heap.size, 0, none⟩ = some (.slice (some ⟨bA, oA, none⟩) N c) ∧ W.cell? ⟨w.heap.size, 1, none⟩ = some (.int .i64 u) ∧ W.cell? ⟨w.heap.size, 2, none⟩ = some (.int .i64 e) ∧ W.cell? ⟨bA, oA, none⟩ = some (.int .i64 r0)) ∧ Kq W0 W) := Lib.hid fun W hk => ⟨⟨(HK.out _ hk.bel).2.1, (HK.out _ hk.bel).2.2.1, (HK.out _ hk.bel).2.2.2, (hk.bel.cell (p := ⟨bA, oA, none⟩) HbA.out).trans cA⟩, hk⟩
  have hKD : Kq W0 W0.drew := ⟨(Below.refl _ W0).drew⟩
  go_region_held3 (fun W => (W.cell? ⟨w.heap.size, 0, none⟩ = some (.slice (some ⟨bA, oA, none⟩) N c) ∧ W.cell? ⟨w.heap.size, 1, none⟩ = some (.int .i64 u) ∧ W.cell? ⟨w.heap.size, 2, none⟩ = some (.int .i64 e) ∧ W.cell? ⟨bA, oA, none⟩ = some (.int .i64 r0)) ∧ Kq W0 W)
    (exact HS2.out _ (by assumption))
    (first
      | (go_at_call 45; go_split_ands; refine (HOf.out _ (HK.out _ (Kq.bel (by assumption))).1).mono ?_; rintro e w1 ⟨rfl, hq⟩; have hk2 : Kq W0 w1 := Kq.step (by assumption) hq; clear hq))
  have Q1 : Hid (Below W0.heap.size W0 _) := Lib.hid (Kq.bel (W0 := W0) (by assumption))
  all_goals go_wp2_with fail
  have hq1 : -25569 ≤ q := HQT.out.1.1
  have hq2 : q ≤ 13031249999 := HQT.out.1.2
  rw [wq]
  go_loopg [9] 2 (fun gg s9 wr => ∃ j : Nat, j ≤ 2 ∧ 2 - j ≤ gg ∧ s9 = .int .i64 (q - (j : Int)) ∧ Hid (Below W0.heap.size W0 wr) ∧ Hid (∀ i : Nat, i < j → q - (i : Int) ≠ d ∧ q - (i : Int) - 1 ≠ d))
  case atStart => exact ⟨0, by omega, by omega, by simp, Q1, Lib.hid (fun i hi => absurd hi (Nat.not_lt_zero _))⟩
  case round =>
    obtain ⟨j, hj, hgg, rfl, Q3, M3⟩ := hrel
    by_cases hj2 : j < 2
    · have hjz : q - 1 ≤ q - (j : Int) := by omega
      go_wp2
      go_loopg [10] 2 (fun gg2 s10 wr2 => ∃ b : Nat, b ≤ 2 ∧ 2 - b ≤ gg2 ∧ s10 = .int .i64 (b : Int) ∧ Hid (Below W0.heap.size W0 wr2) ∧ Hid (∀ i : Nat, i < b → q - (j : Int) - (i : Int) ≠ d))
      case atStart => exact ⟨0, by omega, by omega, by simp, Q3, Lib.hid (fun i hi => absurd hi (Nat.not_lt_zero _))⟩
      case round =>
        obtain ⟨b, hb, hgg2, rfl, Q4, M4⟩ := hrel
        by_cases hb2 : b < 2
        · have hbz : (b : Int) ≤ 1 := by omega
          obtain ⟨x, hx⟩ : ∃ x, q - (j : Int) - (b : Int) = x := ⟨_, rfl⟩
          have hxb : (-30000 ≤ x ∧ x ≤ 13031250000) ∧ (-86400 < t - x * 86400 ∧ t - x * 86400 < 400000) := by have := HQT.out; omega
          obtain ⟨hx1, hx2⟩ := hxb
          have T := HT.out x
          have ob2 := hob.out x
          have lb2 := hlb.out x
          have HOx := Lib.hid (fun W hb => HO.out x W hb)
          have HLx := Lib.hid (fun W hb => HL.out x W hb)
          obtain ⟨-, k0, k1, k2⟩ := HK.out _ Q4.out
          have hxd : x = d → t - x * 86400 - ofN L x = S := by intro e; rw [e]; have := HSS.out; rw [← HD.out] at *; omega
          generalize ofN L x = oo at *
          generalize ofB L x = ob at *
          generalize lpN L x = lp at *
          have HX := Lib.hid hx
          by_cases hxe : x = d
          ·
            rw [decide_eq_true hxe] at T
            simp only [Bool.and_eq_true, decide_eq_true_eq] at T
            obtain ⟨T0, T1, T2⟩ := T
            have hS := hxd hxe
            clear hxd
            subst T0
            rw [hS] at T1 T2
            subst hxe
            go_wp2_with (first
              | (go_at_call 26; refine (HOx.out _ (HK.out _ Q4.out).1).mono ?_; rintro e w5 ⟨rfl, hq5⟩; obtain ⟨-, k0, k1, k2⟩ := HK.out _ (Q4.out.trans (hq5.mono Q4.out.size)); have Q5 := Lib.hid (Q4.out.trans (hq5.mono Q4.out.size)); clear hq5 HOx)
              | (go_at_call 42; refine (HLx.out _ (HK.out _ Q5.out).1).mono ?_; rintro e w6 ⟨rfl, hq6⟩; have Q6 := Lib.hid (Q5.out.trans (hq6.mono Q5.out.size)); clear hq6 HLx)
              | (go_at_call 38; refine (hla.out _).mono ?_; rintro e w' ⟨rfl, rfl⟩))
            go_ret3
            exact ⟨rfl, HB.out.trans (Q6.out.mono HB.out.size)⟩
          ·
            rw [decide_eq_false hxe] at T
            have HXD := Lib.hid hxe
            clear hxd hxe
            by_cases T0 : ob = true
            · subst T0
              by_cases T1 : 0 ≤ t - x * 86400 - oo
              · have T2 : ¬ t - x * 86400 - oo < 86400 + lp := by
                  intro T2
                  rw [decide_eq_true T1, decide_eq_true T2] at T
                  cases T
                clear T
                go_wp2_with (first
                  | (go_at_call 26; refine (HOx.out _ (HK.out _ Q4.out).1).mono ?_; rintro e w5 ⟨rfl, hq5⟩; obtain ⟨-, k0, k1, k2⟩ := HK.out _ (Q4.out.trans (hq5.mono Q4.out.size)); have Q5 := Lib.hid (Q4.out.trans (hq5.mono Q4.out.size)); clear hq5 HOx)
                  | (go_at_call 42; refine (HLx.out _ (HK.out _ Q5.out).1).mono ?_; rintro e w6 ⟨rfl, hq6⟩; have Q6 := Lib.hid (Q5.out.trans (hq6.mono Q5.out.size)); clear hq6 HLx))
                go_roundg (2 - b - 1)
                case measure => omega
                case rel => exact ⟨b + 1, by omega, by omega, by simp, Q6, Lib.hid (fun i hi => if c : i = b then (by subst c; rw [HX.out]; exact HXD.out) else M4.out i (by omega))⟩
              · clear T
                go_wp2_with (first
                  | (go_at_call 26; refine (HOx.out _ (HK.out _ Q4.out).1).mono ?_; rintro e w5 ⟨rfl, hq5⟩; obtain ⟨-, k0, k1, k2⟩ := HK.out _ (Q4.out.trans (hq5.mono Q4.out.size)); have Q5 := Lib.hid (Q4.out.trans (hq5.mono Q4.out.size)); clear hq5 HOx))
                go_roundg (2 - b - 1)
                case measure => omega
                case rel => exact ⟨b + 1, by omega, by omega, by simp, Q5, Lib.hid (fun i hi => if c : i = b then (by subst c; rw [HX.out]; exact HXD.out) else M4.out i (by omega))⟩
            · have T0 : ob = false := by simpa using T0
              subst T0
              clear T
              go_wp2_with (first
                | (go_at_call 26; refine (HOx.out _ (HK.out _ Q4.out).1).mono ?_; rintro e w5 ⟨rfl, hq5⟩; obtain ⟨-, k0, k1, k2⟩ := HK.out _ (Q4.out.trans (hq5.mono Q4.out.size)); have Q5 := Lib.hid (Q4.out.trans (hq5.mono Q4.out.size)); clear hq5 HOx))
              go_roundg (2 - b - 1)
              case measure => omega
              case rel => exact ⟨b + 1, by omega, by omega, by simp, Q5, Lib.hid (fun i hi => if c : i = b then (by subst c; rw [HX.out]; exact HXD.out) else M4.out i (by omega))⟩
        · have hbz : ¬ (b : Int) ≤ 1 := by omega
          go_wp2
          go_roundg (2 - j - 1)
          case measure => omega
          case rel => exact ⟨j + 1, by omega, by omega, congrArg (Value.int .i64) (by omega), Q4, Lib.hid (fun i hi => if c : i = j then (by subst c; have m0 := M4.out 0 (by omega); have m1 := M4.out 1 (by omega); exact ⟨by omega, by omega⟩) else M3.out i (by omega))⟩
    · have hjz : ¬ q - 1 ≤ q - (j : Int) := by omega
      exfalso
      have m0 := M3.out 0 (by omega)
      have m1 := M3.out 1 (by omega)
      have m := HNR.out
      omega

set_option maxRecDepth 100000 in
set_option maxHeartbeats 2000000 in
theorem rplace_near_ok (A : Option Addr) (c : Nat) (L : List Rw) (u e : Int) (t : Int) (w : World) (hr : Rp w.heap.size w A L) (V : Vr L) (ht : fits t) (h0 : abg L t ≠ 0) (hf : ¬ 1125899906842624 < t) (hy : ¬ 2932896 < tpN L t) :
    Calls Tryd.prog 23 #[.agg #[.slice A L.length c, .int .i64 u, .int .i64 e], .int .i64 t] w fun x w' => x = .returned (.tuple #[.int .i64 (tpN L t), .int .i64 (tpS L t), .int .i64 0]) ∧ Below w.heap.size w w' := by
  have few := V.few
  obtain ⟨W0, hW0, hb, hs, c0, c1, c2⟩ := dbox w A L.length c u e
  have HK : Hid (∀ W, Below W0.heap.size W0 W → Rp W.heap.size W A L ∧ (W.cell? ⟨w.heap.size, 0, none⟩ = some (.slice A L.length c) ∧ W.cell? ⟨w.heap.size, 1, none⟩ = some (.int .i64 u) ∧ W.cell? ⟨w.heap.size, 2, none⟩ = some (.int .i64 e))) := Lib.hid fun W hq =>
    ⟨((hr.keep (hb.trans (hq.mono hb.size))).mono (Nat.le_trans hb.size hq.size)), (hq.cell (p := ⟨w.heap.size, 0, none⟩) (show w.heap.size < W0.heap.size by omega)).trans c0, (hq.cell (p := ⟨w.heap.size, 1, none⟩) (show w.heap.size < W0.heap.size by omega)).trans c1, (hq.cell (p := ⟨w.heap.size, 2, none⟩) (show w.heap.size < W0.heap.size by omega)).trans c2⟩
  have HB := Lib.hid hb
  obtain ⟨bA, oA, rfl, hbA, hcA⟩ := hr.first V.pos
  have d0 := V.day 0 V.pos
  have HOf := Lib.hid (fun (W : World) (hb : Rp W.heap.size W (some ⟨bA, oA, none⟩) L) => rof12_any (some ⟨bA, oA, none⟩) c L u e (rd L 0) 0 W hb V (by omega) (by omega) (by omega) (by omega))
  obtain ⟨f1, f2⟩ := first_of V
  rw [f1, f2] at HOf
  have hfi := first_iff V t
  have HbA : Hid (bA < W0.heap.size) := Lib.hid (by omega)
  have cA : W0.cell? ⟨bA, oA, none⟩ = some (.int .i64 (rd L 0)) := (hb.cell (p := ⟨bA, oA, none⟩) hbA).trans hcA
  have hz : (0 : Int) < (L.length : Int) := by have := V.pos; omega
  have hz2 : ¬ ((L.length : Int) = 0) := by omega
  have hz3 : 0 < L.length := V.pos
  have hz4 : ¬ L.length = 0 := by omega
  have hlt : decide (t < bgn L 0) = false := decide_eq_false (fun h => h0 (hfi.1 h))
  have hff : decide (1125899906842624 < t) = false := decide_eq_false hf
  have hpl := pl_tp V h0
  have hnr := tp_near V h0
  obtain ⟨b1, b2, b3, b4, b5⟩ := tp_bd V h0
  have hT : ∀ n, (ofB L n && (decide (0 ≤ t - n * 86400 - ofN L n) && decide (t - n * 86400 - ofN L n < 86400 + lpN L n))) = decide (n = tpN L t) := fun n => pl_test V hpl
  have HO := Lib.hid (fun (n : Int) (W : World) (hb : Rp W.heap.size W (some ⟨bA, oA, none⟩) L) => roffset_any (some ⟨bA, oA, none⟩) c L u e n W hb (by omega))
  have HL := Lib.hid (fun (n : Int) (W : World) (hb : Rp W.heap.size W (some ⟨bA, oA, none⟩) L) => rleap10_any (some ⟨bA, oA, none⟩) c L u e n W hb V (by omega))
  have hla := Lib.hid (fun w => rlast_any w)
  have hob := Lib.hid (fun n => V.ofN_bd n)
  have hlb := Lib.hid (fun n => V.lpN_bd n)
  have HT := Lib.hid hT
  have hS : t - tpN L t * 86400 - ofN L (tpN L t) = tpS L t := by omega
  have HS := Lib.hid hS
  obtain ⟨q, hq⟩ : ∃ q, t.tdiv 86400 = q := ⟨_, rfl⟩
  have hqt : (-25569 ≤ q ∧ q ≤ 13031249999) ∧ (-86400 < t - 86400 * q ∧ t - 86400 * q < 86400) := by
    have e2 := Int.tmod_def t 86400
    have e3 : -86400 < t.tmod 86400 ∧ t.tmod 86400 < 86400 := by
      have h1 := Int.tmod_lt_of_pos t (show (0 : Int) < 86400 by decide)
      have h2 := Int.lt_tmod_of_pos t (show (0 : Int) < 86400 by decide)
      omega
    rw [hq] at e2
    omega
  rw [hq] at hnr
  have wq : wrap64 q = q := wrap64_fit (by unfold fits; omega)
  have HNR := Lib.hid hnr; have HSS := Lib.hid (⟨b2, b4⟩ : (0 ≤ tpS L t ∧ tpS L t ≤ 86400) ∧ t = 86400 * tpN L t + tpS L t + ofN L (tpN L t)); have HQT := Lib.hid hqt
  have htb : -3000000000 ≤ t ∧ t ≤ 1125899906842624 := by omega
  clear hr V hb hs few f1 f2 hfi h0 hbA hcA d0 ht hf hpl hT hS b1 b2 b3 b4 b5 hnr hqt
  generalize tpS L t = S at *
  generalize hd : tpN L t = d at *
  have HD := Lib.hid hd
  clear hd
  generalize bgn L 0 = z at *
  generalize rd L 0 = r0 at *
  generalize L.length = N at *
  go_enter Tryd.func23, Tryd.ntmps23
  go_upto_region 1 with fail
  rw [← hW0]; clear hW0
  go_upto_region 2 with fail
  have HS2 : Hid (∀ W, Kq W0 W → (W.cell? ⟨w.heap.size, 0, none⟩ = some (.slice (some ⟨bA, oA, none⟩) N c) ∧ W.cell? ⟨w.heap.size, 1, none⟩ = some (.int .i64 u) ∧ W.cell? ⟨w.heap.size, 2, none⟩ = some (.int .i64 e) ∧ W.cell? ⟨bA, oA, none⟩ = some (.int .i64 r0)) ∧ Kq W0 W) := Lib.hid fun W hk => ⟨⟨(HK.out _ hk.bel).2.1, (HK.out _ hk.bel).2.2.1, (HK.out _ hk.bel).2.2.2, (hk.bel.cell (p := ⟨bA, oA, none⟩) HbA.out).trans cA⟩, hk⟩
  have hKD : Kq W0 W0.drew := ⟨(Below.refl _ W0).drew⟩
  go_region_held3 (fun W => (W.cell? ⟨w.heap.size, 0, none⟩ = some (.slice (some ⟨bA, oA, none⟩) N c) ∧ W.cell? ⟨w.heap.size, 1, none⟩ = some (.int .i64 u) ∧ W.cell? ⟨w.heap.size, 2, none⟩ = some (.int .i64 e) ∧ W.cell? ⟨bA, oA, none⟩ = some (.int .i64 r0)) ∧ Kq W0 W)
    (exact HS2.out _ (by assumption))
    (first
      | (go_at_call 45; go_split_ands; refine (HOf.out _ (HK.out _ (Kq.bel (by assumption))).1).mono ?_; rintro e w1 ⟨rfl, hq⟩; have hk2 : Kq W0 w1 := Kq.step (by assumption) hq; clear hq))
  have Q1 : Hid (Below W0.heap.size W0 _) := Lib.hid (Kq.bel (W0 := W0) (by assumption))
  all_goals go_wp2_with fail
  have hq1 : -25569 ≤ q := HQT.out.1.1
  have hq2 : q ≤ 13031249999 := HQT.out.1.2
  rw [wq]
  go_loopg [9] 2 (fun gg s9 wr => ∃ j : Nat, j ≤ 2 ∧ 2 - j ≤ gg ∧ s9 = .int .i64 (q - (j : Int)) ∧ Hid (Below W0.heap.size W0 wr) ∧ Hid (∀ i : Nat, i < j → q - (i : Int) ≠ d ∧ q - (i : Int) - 1 ≠ d))
  case atStart => exact ⟨0, by omega, by omega, by simp, Q1, Lib.hid (fun i hi => absurd hi (Nat.not_lt_zero _))⟩
  case round =>
    obtain ⟨j, hj, hgg, rfl, Q3, M3⟩ := hrel
    by_cases hj2 : j < 2
    · have hjz : q - 1 ≤ q - (j : Int) := by omega
      go_wp2
      go_loopg [10] 2 (fun gg2 s10 wr2 => ∃ b : Nat, b ≤ 2 ∧ 2 - b ≤ gg2 ∧ s10 = .int .i64 (b : Int) ∧ Hid (Below W0.heap.size W0 wr2) ∧ Hid (∀ i : Nat, i < b → q - (j : Int) - (i : Int) ≠ d))
      case atStart => exact ⟨0, by omega, by omega, by simp, Q3, Lib.hid (fun i hi => absurd hi (Nat.not_lt_zero _))⟩
      case round =>
        obtain ⟨b, hb, hgg2, rfl, Q4, M4⟩ := hrel
        by_cases hb2 : b < 2
        · have hbz : (b : Int) ≤ 1 := by omega
          obtain ⟨x, hx⟩ : ∃ x, q - (j : Int) - (b : Int) = x := ⟨_, rfl⟩
          have hxb : (-30000 ≤ x ∧ x ≤ 13031250000) ∧ (-86400 < t - x * 86400 ∧ t - x * 86400 < 400000) := by have := HQT.out; omega
          obtain ⟨hx1, hx2⟩ := hxb
          have T := HT.out x
          have ob2 := hob.out x
          have lb2 := hlb.out x
          have HOx := Lib.hid (fun W hb => HO.out x W hb)
          have HLx := Lib.hid (fun W hb => HL.out x W hb)
          obtain ⟨-, k0, k1, k2⟩ := HK.out _ Q4.out
          have hxd : x = d → t - x * 86400 - ofN L x = S := by intro e; rw [e]; have := HSS.out; rw [← HD.out] at *; omega
          generalize ofN L x = oo at *
          generalize ofB L x = ob at *
          generalize lpN L x = lp at *
          have HX := Lib.hid hx
          by_cases hxe : x = d
          ·
            rw [decide_eq_true hxe] at T
            simp only [Bool.and_eq_true, decide_eq_true_eq] at T
            obtain ⟨T0, T1, T2⟩ := T
            have hS := hxd hxe
            clear hxd
            subst T0
            rw [hS] at T1 T2
            subst hxe
            go_wp2_with (first
              | (go_at_call 26; refine (HOx.out _ (HK.out _ Q4.out).1).mono ?_; rintro e w5 ⟨rfl, hq5⟩; obtain ⟨-, k0, k1, k2⟩ := HK.out _ (Q4.out.trans (hq5.mono Q4.out.size)); have Q5 := Lib.hid (Q4.out.trans (hq5.mono Q4.out.size)); clear hq5 HOx)
              | (go_at_call 42; refine (HLx.out _ (HK.out _ Q5.out).1).mono ?_; rintro e w6 ⟨rfl, hq6⟩; have Q6 := Lib.hid (Q5.out.trans (hq6.mono Q5.out.size)); clear hq6 HLx)
              | (go_at_call 38; refine (hla.out _).mono ?_; rintro e w' ⟨rfl, rfl⟩))
            go_ret3
            exact ⟨rfl, HB.out.trans (Q6.out.mono HB.out.size)⟩
          ·
            rw [decide_eq_false hxe] at T
            have HXD := Lib.hid hxe
            clear hxd hxe
            by_cases T0 : ob = true
            · subst T0
              by_cases T1 : 0 ≤ t - x * 86400 - oo
              · have T2 : ¬ t - x * 86400 - oo < 86400 + lp := by
                  intro T2
                  rw [decide_eq_true T1, decide_eq_true T2] at T
                  cases T
                clear T
                go_wp2_with (first
                  | (go_at_call 26; refine (HOx.out _ (HK.out _ Q4.out).1).mono ?_; rintro e w5 ⟨rfl, hq5⟩; obtain ⟨-, k0, k1, k2⟩ := HK.out _ (Q4.out.trans (hq5.mono Q4.out.size)); have Q5 := Lib.hid (Q4.out.trans (hq5.mono Q4.out.size)); clear hq5 HOx)
                  | (go_at_call 42; refine (HLx.out _ (HK.out _ Q5.out).1).mono ?_; rintro e w6 ⟨rfl, hq6⟩; have Q6 := Lib.hid (Q5.out.trans (hq6.mono Q5.out.size)); clear hq6 HLx))
                go_roundg (2 - b - 1)
                case measure => omega
                case rel => exact ⟨b + 1, by omega, by omega, by simp, Q6, Lib.hid (fun i hi => if c : i = b then (by subst c; rw [HX.out]; exact HXD.out) else M4.out i (by omega))⟩
              · clear T
                go_wp2_with (first
                  | (go_at_call 26; refine (HOx.out _ (HK.out _ Q4.out).1).mono ?_; rintro e w5 ⟨rfl, hq5⟩; obtain ⟨-, k0, k1, k2⟩ := HK.out _ (Q4.out.trans (hq5.mono Q4.out.size)); have Q5 := Lib.hid (Q4.out.trans (hq5.mono Q4.out.size)); clear hq5 HOx))
                go_roundg (2 - b - 1)
                case measure => omega
                case rel => exact ⟨b + 1, by omega, by omega, by simp, Q5, Lib.hid (fun i hi => if c : i = b then (by subst c; rw [HX.out]; exact HXD.out) else M4.out i (by omega))⟩
            · have T0 : ob = false := by simpa using T0
              subst T0
              clear T
              go_wp2_with (first
                | (go_at_call 26; refine (HOx.out _ (HK.out _ Q4.out).1).mono ?_; rintro e w5 ⟨rfl, hq5⟩; obtain ⟨-, k0, k1, k2⟩ := HK.out _ (Q4.out.trans (hq5.mono Q4.out.size)); have Q5 := Lib.hid (Q4.out.trans (hq5.mono Q4.out.size)); clear hq5 HOx))
              go_roundg (2 - b - 1)
              case measure => omega
              case rel => exact ⟨b + 1, by omega, by omega, by simp, Q5, Lib.hid (fun i hi => if c : i = b then (by subst c; rw [HX.out]; exact HXD.out) else M4.out i (by omega))⟩
        · have hbz : ¬ (b : Int) ≤ 1 := by omega
          go_wp2
          go_roundg (2 - j - 1)
          case measure => omega
          case rel => exact ⟨j + 1, by omega, by omega, congrArg (Value.int .i64) (by omega), Q4, Lib.hid (fun i hi => if c : i = j then (by subst c; have m0 := M4.out 0 (by omega); have m1 := M4.out 1 (by omega); exact ⟨by omega, by omega⟩) else M3.out i (by omega))⟩
    · have hjz : ¬ q - 1 ≤ q - (j : Int) := by omega
      exfalso
      have m0 := M3.out 0 (by omega)
      have m1 := M3.out 1 (by omega)
      have m := HNR.out
      omega

theorem rplace12_any (A : Option Addr) (c : Nat) (L : List Rw) (u e : Int) (t : Int) (w : World) (hr : Rp w.heap.size w A L) (V : Vr L) (ht : fits t) :
    Calls Tryd.prog 23 #[.agg #[.slice A L.length c, .int .i64 u, .int .i64 e], .int .i64 t] w fun x w' => x = .returned (.tuple #[.int .i64 (tvN L t), .int .i64 (tvS L t), .int .i64 (tpE L t)]) ∧ Below w.heap.size w w' := by
  unfold tvN tvS
  by_cases h0 : abg L t = 0
  · have hE : tpE L t = 8 := if_pos h0
    rw [hE, if_neg (by decide), if_neg (by decide)]
    exact rplace_none A c L u e t w hr V ht h0
  by_cases hf : 1125899906842624 < t
  · have hE := far_tp V h0 hf
    rw [hE, if_neg (by decide), if_neg (by decide)]
    exact rplace_far A c L u e t w hr V ht h0 hf
  by_cases hy : 2932896 < tpN L t
  · have hE : tpE L t = 13 := by unfold tpE; rw [if_neg h0, if_pos hy]
    rw [hE, if_neg (by decide), if_neg (by decide)]
    exact rplace_near_far A c L u e t w hr V ht h0 hf hy
  · have hE : tpE L t = 0 := by unfold tpE; rw [if_neg h0, if_neg hy]
    rw [hE, if_pos rfl, if_pos rfl]
    exact rplace_near_ok A c L u e t w hr V ht h0 hf hy

/-- The boxes of a table and a label that will be the result. -/
theorem tz_box (w : World) (A : Option Addr) (n c : Nat) (u e : Int) : ∃ W1, W1 = (w.alloc (.cells #[.slice A n c, .int .i64 u, .int .i64 e] 41)).alloc (.cells #[.int .i64 0, .int .i64 0, .int .i64 0, .int .i64 0, .int .i64 0, .int .i64 0, .int .i64 0, .int .i64 0] 35) ∧ Below w.heap.size w W1 ∧
    Lk 35 W1 (w.heap.size + 1) lb0 ∧ ∀ W, Below W1.heap.size W1 W → W.cell? ⟨w.heap.size, 0, none⟩ = some (.slice A n c) ∧ W.cell? ⟨w.heap.size, 1, none⟩ = some (.int .i64 u) ∧ W.cell? ⟨w.heap.size, 2, none⟩ = some (.int .i64 e) := tl_box w A n c u e lb0
set_option maxHeartbeats 8000000 in
theorem rlabel12_any (A : Option Addr) (c : Nat) (L : List Rw) (u e : Int) (t nn o : Int) (w : World) (hr : Rp w.heap.size w A L) (V : Vr L) (ht : fits t) {K : Lb} (hK : Ml L t nn o K) :
    Calls Tryd.prog 22 #[.agg #[.slice A L.length c, .int .i64 u, .int .i64 e], .int .i64 t, .int .i64 nn, .int .i64 o] w fun x w' => x = .returned (.tuple #[.agg K.cells, .int .i64 (mlE L t nn o)]) ∧ Below w.heap.size w w' := by
  obtain ⟨W1, hW1, b1, l1, hC⟩ := tz_box w A L.length c u e
  have HB := Lib.hid b1; have Z0 := Lib.hid l1
  obtain ⟨c0, c1, c2⟩ := hC W1 (Below.refl _ _)
  have HP := Lib.hid (rplace12_any A c L u e t W1 ((hr.keep b1).low) V ht)
  rcases hK with ⟨h0, hK⟩ | ⟨h0, rfl⟩
  · have HO := Lib.hid (fun W => lrof_any (tpN L t) (tpS L t) nn o W hK)
    have e1 : tvN L t = tpN L t := if_pos h0
    have e2 : tvS L t = tpS L t := if_pos h0
    rw [e1, e2, h0] at HP
    rw [show mlE L t nn o = mkE (tpN L t) (tpS L t) nn o from if_pos h0]
    clear hK h0 e1 e2 V hr ht b1 l1 hC
    obtain ⟨y, m, d, h, i, s, n, oo⟩ := K
    change Hid (∀ W, Calls _ _ _ _ fun e w' => e = .returned (.tuple #[.agg #[.int .i64 y, .int .i64 m, .int .i64 d, .int .i64 h, .int .i64 i, .int .i64 s, .int .i64 n, .int .i64 oo], _]) ∧ _) at HO
    show Calls _ _ _ _ fun e w' => e = .returned (.tuple #[.agg #[.int .i64 y, .int .i64 m, .int .i64 d, .int .i64 h, .int .i64 i, .int .i64 s, .int .i64 n, .int .i64 oo], _]) ∧ _
    generalize mkE (tpN L t) (tpS L t) nn o = E at *
    generalize tpN L t = a at *
    generalize tpS L t = b at *
    generalize L.length = N at *
    go_enter Tryd.func22, Tryd.ntmps22
    go_upto_region 1 with fail
    rw [← hW1]
    clear hW1
    go_wp2_with fail
    refine HP.out.mono ?_
    rintro e1 w1 ⟨rfl, hb⟩
    have Z1 := Lib.hid (Z0.out.keep hb)
    have B1 := Lib.hid (HB.out.trans (hb.mono HB.out.size))
    clear hb c0 c1 c2
    go_wp2_with fail
    refine (HO.out _).mono ?_
    rintro e1 w2 ⟨rfl, hb⟩
    have Z2 := Lib.hid (Z1.out.keep hb)
    have B2 := Lib.hid (B1.out.trans (hb.mono B1.out.size))
    clear hb
    obtain ⟨f0, f1, f2, f3, f4, f5, f6, f7⟩ := Z2.out.frees
    obtain ⟨c0, c1, c2, c3, c4, c5, c6, c7⟩ := Z2.out.all
    go_wp2_with fail
    have hP := put8_lk Z2.out y m d h i s n oo
    have hB := put8_below B2.out (Nat.le_succ _) y m d h i s n oo
    obtain ⟨W9, hW9⟩ : ∃ W9, W9 = put8 w2 (w.heap.size + 1) y m d h i s n oo := ⟨_, rfl⟩
    rw [← hW9] at hP hB
    show bodyPost _ _ _ _ _ (put8 w2 (w.heap.size + 1) y m d h i s n oo)
    rw [← hW9]
    clear hW9
    obtain ⟨r0, r1, r2, r3, r4, r5, r6, r7⟩ := hP.all
    clear hP
    refine bodyPost_ret (v := .tuple #[.agg #[.int .i64 y, .int .i64 m, .int .i64 d, .int .i64 h, .int .i64 i, .int .i64 s, .int .i64 n, .int .i64 oo], .int .i64 E]) (by simp [results, Tryd.results22, go_sem, r0, r1, r2, r3, r4, r5, r6, r7]) rfl ⟨rfl, hB⟩
  · rw [show mlE L t nn o = tpE L t from if_neg h0]
    have hkb : (tpE L t != 0) = true := bne_iff_ne.mpr h0
    have e1 : tvN L t = 0 := if_neg h0
    have e2 : tvS L t = 0 := if_neg h0
    rw [e1, e2] at HP
    clear h0 e1 e2 V hr ht b1 l1 hC
    show Calls _ _ _ _ fun e w' => e = .returned (.tuple #[.agg #[.int .i64 0, .int .i64 0, .int .i64 0, .int .i64 0, .int .i64 0, .int .i64 0, .int .i64 0, .int .i64 0], _]) ∧ _
    generalize tpE L t = E at *
    generalize L.length = N at *
    go_enter Tryd.func22, Tryd.ntmps22
    go_upto_region 1 with fail
    rw [← hW1]
    clear hW1
    go_wp2_with fail
    refine HP.out.mono ?_
    rintro e1 w2 ⟨rfl, hb⟩
    have Z2 := Lib.hid (Z0.out.keep hb)
    have B2 := Lib.hid (HB.out.trans (hb.mono HB.out.size))
    clear hb c0 c1 c2
    obtain ⟨f0, f1, f2, f3, f4, f5, f6, f7⟩ := Z2.out.frees
    obtain ⟨c0, c1, c2, c3, c4, c5, c6, c7⟩ := Z2.out.all
    go_wp2_with fail
    have hP := put8_lk Z2.out 0 0 0 0 0 0 0 0
    have hB := put8_below B2.out (Nat.le_succ _) 0 0 0 0 0 0 0 0
    obtain ⟨W9, hW9⟩ : ∃ W9, W9 = put8 w2 (w.heap.size + 1) 0 0 0 0 0 0 0 0 := ⟨_, rfl⟩
    rw [← hW9] at hP hB
    show bodyPost _ _ _ _ _ (put8 w2 (w.heap.size + 1) 0 0 0 0 0 0 0 0)
    rw [← hW9]
    clear hW9
    obtain ⟨r0, r1, r2, r3, r4, r5, r6, r7⟩ := hP.all
    clear hP
    refine bodyPost_ret (v := .tuple #[.agg #[.int .i64 0, .int .i64 0, .int .i64 0, .int .i64 0, .int .i64 0, .int .i64 0, .int .i64 0, .int .i64 0], .int .i64 E]) (by simp [results, Tryd.results22, go_sem, r0, r1, r2, r3, r4, r5, r6, r7]) rfl ⟨rfl, hB⟩

end Go.Proofs.YtiamggjebaabkaaDoor
