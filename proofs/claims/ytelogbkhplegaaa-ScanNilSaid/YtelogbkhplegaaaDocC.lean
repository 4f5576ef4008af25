/- The document's scanner: Skip, Figures. -/
import Derived.Test.YtelogbkhplegaaaDocB
namespace Go.Proofs.Ytelogbkhplegaaa
open Go.RowKit
set_option linter.unusedVariables false

set_option maxHeartbeats 1600000 in
theorem skip_d (s : ByteArray) (k : Nat) (e many : Int) (w : World) (hk : k ≤ s.size) (hs : s.size ≤ 1000) (hm : fits many) :
    Calls Try.prog 39 #[dm s k e, .int .i64 many] w fun x w' =>
      x = .returned (dm s (skK k (rs s.data.toList k e).length e many) (skE (rs s.data.toList k e).length e many)) ∧ Below w.heap.size w w' := by
  unfold fits at hm
  by_cases h0 : e = 0
  · have hz : (e != 0) = false := by rw [h0]; rfl
    have hle := rs_le s.data.toList k e
    have hsl : s.data.toList.length = s.size := by simp
    have HC := fun W => rest_any s k e W hk hs
    have hrl := rsS_size s k e
    generalize (rs s.data.toList k e).length = n at *
    generalize rsS s k e = R at *
    subst hrl
    have HCH := Lib.hid HC
    have HF := fun b W => fail_d s k e b W
    have hfl : ∀ b, flE e b = b := fun b => by rw [h0]; rfl
    simp only [hfl] at HF
    have HFH := Lib.hid HF
    have HE := Lib.hid h0
    clear HC HF hfl h0
    by_cases hneg : many < 0
    · have e1 : skE R.size e many = 1 := by unfold skE; rw [if_neg (by rw [HE.out]; simp), if_pos hneg]
      have e2 : skK k R.size e many = k := by unfold skK; rw [if_neg (by omega)]
      rw [e1, e2]
      clear e1 e2 hle hsl
      go_enter Try.func39, Try.ntmps39
      go_wp2_with fail
      obtain ⟨hp0, hq0⟩ := two w s k e
      have hb0 := below_two w (.cells #[.string s, .int .i64 (k : Int), .int .i64 e] Td) (.cells #[.string ⟨#[]⟩, .int .i64 0, .int .i64 0] Td)
      generalize hW0 : World.alloc (World.alloc w _) _ = W0 at hp0 hq0 hb0 ⊢
      clear hW0
      obtain ⟨q, hq⟩ : ∃ q, q = w.heap.size + 1 := ⟨_, rfl⟩
      obtain ⟨p, hp⟩ : ∃ p, p = w.heap.size := ⟨_, rfl⟩
      rw [← hq] at hq0 ⊢
      rw [← hp] at hp0 ⊢
      have HPW : RowKit.Hid (w.heap.size ≤ p) := by rw [hp]; exact Nat.le_refl _
      have HQW : RowKit.Hid (w.heap.size ≤ q) := by rw [hq]; exact Nat.le_succ _
      have hpq : p ≠ q := by omega
      have HPQ := Lib.hid hpq
      have P0 := Lib.hid hp0; have Q0 := Lib.hid hq0; have B0 := Lib.hid hb0
      clear hp0 hq0 hb0 hq hp hpq
      refine (HFH.out 1 W0).mono ?_
      rintro x W1 ⟨rfl, hb⟩
      have P1 := Lib.hid (P0.out.below hb P0.out.lt)
      have Q1 := Lib.hid (Q0.out.below hb Q0.out.lt)
      have B1 := Lib.hid (B0.out.trans (hb.mono B0.out.size))
      clear hb P0 Q0 B0
      have p0 := P1.out.c0; have p1 := P1.out.c1; have p2 := P1.out.c2
      have q0 := Q1.out.c0; have q1 := Q1.out.c1; have q2 := Q1.out.c2
      have f0 := Q1.out.free 0; have f1 := Q1.out.free 1; have f2 := Q1.out.free 2
      have fp1 := P1.out.free 1; have fp2 := P1.out.free 2
      go_wp2
      refine bodyPost_ret (v := dm s k 1) (by simp [results, Try.results39, go_sem, q0, q1, q2]) rfl ⟨rfl, below_put B1.out HQW.out _ _ _⟩
    · by_cases hgt : (R.size : Int) < many
      · have e1 : skE R.size e many = 4 := by unfold skE; rw [if_neg (by rw [HE.out]; simp), if_neg hneg, if_pos hgt]
        have e2 : skK k R.size e many = k := by unfold skK; rw [if_neg (by omega)]
        rw [e1, e2]
        have hgt' : many > (R.size : Int) := hgt
        clear e1 e2 hle hsl
        go_enter Try.func39, Try.ntmps39
        go_wp2_with fail
        obtain ⟨hp0, hq0⟩ := two w s k e
        have hb0 := below_two w (.cells #[.string s, .int .i64 (k : Int), .int .i64 e] Td) (.cells #[.string ⟨#[]⟩, .int .i64 0, .int .i64 0] Td)
        generalize hW0 : World.alloc (World.alloc w _) _ = W0 at hp0 hq0 hb0 ⊢
        clear hW0
        obtain ⟨q, hq⟩ : ∃ q, q = w.heap.size + 1 := ⟨_, rfl⟩
        obtain ⟨p, hp⟩ : ∃ p, p = w.heap.size := ⟨_, rfl⟩
        rw [← hq] at hq0 ⊢
        rw [← hp] at hp0 ⊢
        have HPW : RowKit.Hid (w.heap.size ≤ p) := by rw [hp]; exact Nat.le_refl _
        have HQW : RowKit.Hid (w.heap.size ≤ q) := by rw [hq]; exact Nat.le_succ _
        have hpq : p ≠ q := by omega
        have HPQ := Lib.hid hpq
        have P0 := Lib.hid hp0; have Q0 := Lib.hid hq0; have B0 := Lib.hid hb0
        clear hp0 hq0 hb0 hq hp hpq
        refine (HCH.out W0).mono ?_
        rintro x W1 ⟨rfl, hb⟩
        have P1 := Lib.hid (P0.out.below hb P0.out.lt)
        have Q1 := Lib.hid (Q0.out.below hb Q0.out.lt)
        have B1 := Lib.hid (B0.out.trans (hb.mono B0.out.size))
        clear hb P0 Q0 B0
        have p0 := P1.out.c0; have p1 := P1.out.c1; have p2 := P1.out.c2
        have q0 := Q1.out.c0; have q1 := Q1.out.c1; have q2 := Q1.out.c2
        have f0 := Q1.out.free 0; have f1 := Q1.out.free 1; have f2 := Q1.out.free 2
        have fp1 := P1.out.free 1; have fp2 := P1.out.free 2
        go_wp2_with fail
        clear p0 p1 p2 q0 q1 q2 f0 f1 f2 fp1 fp2
        refine (HFH.out 4 W1).mono ?_
        rintro x W2 ⟨rfl, hb⟩
        have P2 := Lib.hid (P1.out.below hb P1.out.lt)
        have Q2 := Lib.hid (Q1.out.below hb Q1.out.lt)
        have B2 := Lib.hid (B1.out.trans (hb.mono B1.out.size))
        clear hb P1 Q1 B1
        have p0 := P2.out.c0; have p1 := P2.out.c1; have p2 := P2.out.c2
        have q0 := Q2.out.c0; have q1 := Q2.out.c1; have q2 := Q2.out.c2
        have f0 := Q2.out.free 0; have f1 := Q2.out.free 1; have f2 := Q2.out.free 2
        have fp1 := P2.out.free 1; have fp2 := P2.out.free 2
        go_wp2
        refine bodyPost_ret (v := dm s k 4) (by simp [results, Try.results39, go_sem, q0, q1, q2]) rfl ⟨rfl, below_put B2.out HQW.out _ _ _⟩
      · have e1 : skE R.size e many = 0 := by unfold skE; rw [if_neg (by rw [HE.out]; simp), if_neg hneg, if_neg hgt]
        have e2 : skK k R.size e many = k + many.toNat := by unfold skK; rw [if_pos (by have := HE.out; omega)]
        rw [e1, e2]
        have hgt' : ¬ many > (R.size : Int) := hgt
        obtain ⟨M, hM⟩ : ∃ M : Nat, M = many.toNat := ⟨_, rfl⟩
        have hmM : many = (M : Int) := by omega
        subst hmM
        simp only [Int.toNat_natCast] at *
        have hMn : k + M ≤ s.size := by omega
        clear e1 e2 hle hsl hM
        go_enter Try.func39, Try.ntmps39
        go_wp2_with fail
        obtain ⟨hp0, hq0⟩ := two w s k e
        have hb0 := below_two w (.cells #[.string s, .int .i64 (k : Int), .int .i64 e] Td) (.cells #[.string ⟨#[]⟩, .int .i64 0, .int .i64 0] Td)
        generalize hW0 : World.alloc (World.alloc w _) _ = W0 at hp0 hq0 hb0 ⊢
        clear hW0
        obtain ⟨q, hq⟩ : ∃ q, q = w.heap.size + 1 := ⟨_, rfl⟩
        obtain ⟨p, hp⟩ : ∃ p, p = w.heap.size := ⟨_, rfl⟩
        rw [← hq] at hq0 ⊢
        rw [← hp] at hp0 ⊢
        have HPW : RowKit.Hid (w.heap.size ≤ p) := by rw [hp]; exact Nat.le_refl _
        have HQW : RowKit.Hid (w.heap.size ≤ q) := by rw [hq]; exact Nat.le_succ _
        have hpq : p ≠ q := by omega
        have HPQ := Lib.hid hpq
        have P0 := Lib.hid hp0; have Q0 := Lib.hid hq0; have B0 := Lib.hid hb0
        clear hp0 hq0 hb0 hq hp hpq
        refine (HCH.out W0).mono ?_
        rintro x W1 ⟨rfl, hb⟩
        have P1 := Lib.hid (P0.out.below hb P0.out.lt)
        have Q1 := Lib.hid (Q0.out.below hb Q0.out.lt)
        have B1 := Lib.hid (B0.out.trans (hb.mono B0.out.size))
        clear hb P0 Q0 B0
        have p0 := P1.out.c0; have p1 := P1.out.c1; have p2 := P1.out.c2
        have q0 := Q1.out.c0; have q1 := Q1.out.c1; have q2 := Q1.out.c2
        have f0 := Q1.out.free 0; have f1 := Q1.out.free 1; have f2 := Q1.out.free 2
        have fp1 := P1.out.free 1; have fp2 := P1.out.free 2
        go_upto_region 8 with fail
        have hp2 := P1.out.set1 (k + M) (z := (k : Int) + (M : Int)) (by omega)
        have hq2 := Q1.out.far HPQ.out 1 (.int .i64 ((k : Int) + (M : Int)))
        have hb2 := below_set1 B1.out HPW.out 1 (.int .i64 ((k : Int) + (M : Int)))
        generalize hW2 : World.setCell W1 _ _ = W2 at hp2 hq2 hb2 ⊢
        have P2 := Lib.hid hp2; have Q2 := Lib.hid hq2; have B2 := Lib.hid hb2
        clear hW2 hp2 hq2 hb2
        clear p0 p1 p2 q0 q1 q2 f0 f1 f2 fp1 fp2
        have p0 := P2.out.c0; have p1 := P2.out.c1; have p2 := P2.out.c2
        have q0 := Q2.out.c0; have q1 := Q2.out.c1; have q2 := Q2.out.c2
        have f0 := Q2.out.free 0; have f1 := Q2.out.free 1; have f2 := Q2.out.free 2
        have fp1 := P2.out.free 1; have fp2 := P2.out.free 2
        go_wp2
        have HE' := HE.out
        subst HE'
        refine bodyPost_ret (v := dm s (k + M) 0) (by simp [results, Try.results39, go_sem, q0, q1, q2]) rfl ⟨rfl, below_put B2.out HQW.out _ _ _⟩
  · generalize (rs s.data.toList k e).length = n at *
    have e1 : skE n e many = e := by unfold skE; rw [if_pos h0]
    have e2 : skK k n e many = k := by unfold skK; rw [if_neg (fun h => h0 h.1)]
    rw [e1, e2]
    have hz : (e != 0) = true := bne_iff_ne.mpr h0
    clear e1 e2 h0
    go_enter Try.func39, Try.ntmps39
    go_wp2
    refine bodyPost_ret (v := dm s k e) (by simp [results, Try.results39, go_sem]) rfl ⟨rfl, below_two _ _ _⟩

set_option maxHeartbeats 1600000 in
theorem figures_d (s : ByteArray) (k : Nat) (e a b : Int) (w : World) (hk : k ≤ s.size) (hs : s.size ≤ 1000) (ha : fits a) (hb : fits b) :
    Calls Try.prog 36 #[dm s k e, .int .i64 a, .int .i64 b] w fun x w' =>
      x = .returned (.tuple #[.int .i64 (fgN (rs s.data.toList k e) e a b), dm s (fgK k (rs s.data.toList k e) e a b) (fgE (rs s.data.toList k e) e a b)]) ∧ Below w.heap.size w w' := by
  by_cases h0 : e = 0
  · have hz : (e != 0) = false := by rw [h0]; rfl
    have hN : fgN (rs s.data.toList k e) e a b = ((tkN (rs s.data.toList k e) a b mx : Nat) : Int) := by unfold fgN; rw [if_pos h0]
    have hK : fgK k (rs s.data.toList k e) e a b = k + tkK (rs s.data.toList k e) a b mx := by unfold fgK; rw [if_pos h0]
    have hE : fgE (rs s.data.toList k e) e a b = tkE (rs s.data.toList k e) a b mx := by unfold fgE; rw [if_pos h0]
    rw [hN, hK, hE]
    have hle := rs_le s.data.toList k e
    have hkle := tkK_le (rs s.data.toList k e) a b mx
    have hNle := tkN_le (rs s.data.toList k e) a b mx
    have hsl : s.data.toList.length = s.size := by simp
    have HC := fun W => rest_any s k e W hk hs
    have HT := fun W => rtake_any (rsS s k e) a b W (by rw [rsS_size]; unfold maxLen; omega) ha hb
    rw [show (rsS s k e).data.toList = rs s.data.toList k e from rsS_list s k e] at HT
    have hNle' : ((tkN (rs s.data.toList k e) a b mx : Nat) : Int) ≤ 9223372036854775807 := by have := mx_is; omega
    have hKle : k + tkK (rs s.data.toList k e) a b mx ≤ s.size := by omega
    generalize tkN (rs s.data.toList k e) a b mx = N at *
    generalize tkK (rs s.data.toList k e) a b mx = K at *
    generalize tkE (rs s.data.toList k e) a b mx = E at *
    generalize rsS s k e = R at *
    have HCH := Lib.hid HC; have HTH := Lib.hid HT
    clear hN hK hE hle hkle hNle hsl HC HT h0 ha hb
    go_enter Try.func36, Try.ntmps36
    go_wp2_with fail
    obtain ⟨hp0, hq0⟩ := two w s k e
    have hb0 := below_two w (.cells #[.string s, .int .i64 (k : Int), .int .i64 e] Td) (.cells #[.string ⟨#[]⟩, .int .i64 0, .int .i64 0] Td)
    generalize hW0 : World.alloc (World.alloc w _) _ = W0 at hp0 hq0 hb0 ⊢
    clear hW0
    obtain ⟨q, hq⟩ : ∃ q, q = w.heap.size + 1 := ⟨_, rfl⟩
    obtain ⟨p, hp⟩ : ∃ p, p = w.heap.size := ⟨_, rfl⟩
    rw [← hq] at hq0 ⊢
    rw [← hp] at hp0 ⊢
    have HPW : RowKit.Hid (w.heap.size ≤ p) := by rw [hp]; exact Nat.le_refl _
    have HQW : RowKit.Hid (w.heap.size ≤ q) := by rw [hq]; exact Nat.le_succ _
    have hpq : p ≠ q := by omega
    have HPQ := Lib.hid hpq
    have P0 := Lib.hid hp0; have Q0 := Lib.hid hq0; have B0 := Lib.hid hb0
    clear hp0 hq0 hb0 hq hp hpq
    refine (HCH.out W0).mono ?_
    rintro x W1 ⟨rfl, hb⟩
    have P1 := Lib.hid (P0.out.below hb P0.out.lt)
    have Q1 := Lib.hid (Q0.out.below hb Q0.out.lt)
    have B1 := Lib.hid (B0.out.trans (hb.mono B0.out.size))
    clear hb P0 Q0 B0
    have p0 := P1.out.c0; have p1 := P1.out.c1; have p2 := P1.out.c2
    have q0 := Q1.out.c0; have q1 := Q1.out.c1; have q2 := Q1.out.c2
    have f0 := Q1.out.free 0; have f1 := Q1.out.free 1; have f2 := Q1.out.free 2
    have fp1 := P1.out.free 1; have fp2 := P1.out.free 2
    go_wp2_with fail
    clear p0 p1 p2 q0 q1 q2 f0 f1 f2 fp1 fp2
    refine (HTH.out W1).mono ?_
    rintro x W2 ⟨rfl, hb⟩
    have P2 := Lib.hid (P1.out.below hb P1.out.lt)
    have Q2 := Lib.hid (Q1.out.below hb Q1.out.lt)
    have B2 := Lib.hid (B1.out.trans (hb.mono B1.out.size))
    clear hb P1 Q1 B1
    have p0 := P2.out.c0; have p1 := P2.out.c1; have p2 := P2.out.c2
    have q0 := Q2.out.c0; have q1 := Q2.out.c1; have q2 := Q2.out.c2
    have f0 := Q2.out.free 0; have f1 := Q2.out.free 1; have f2 := Q2.out.free 2
    have fp1 := P2.out.free 1; have fp2 := P2.out.free 2
    go_upto_region 5 with fail
    have hp3 := P2.out.set1 (k + K) (z := (k : Int) + (K : Int)) (by omega)
    have hq3 := Q2.out.far HPQ.out 1 (.int .i64 ((k : Int) + (K : Int)))
    have hb3 := below_set1 B2.out HPW.out 1 (.int .i64 ((k : Int) + (K : Int)))
    generalize hW3 : World.setCell W2 _ _ = W3 at hp3 hq3 hb3 ⊢
    have P3 := Lib.hid hp3; have Q3 := Lib.hid hq3; have B3 := Lib.hid hb3
    clear hW3 hp3 hq3 hb3
    clear p0 p1 p2 q0 q1 q2 f0 f1 f2 fp1 fp2
    have p0 := P3.out.c0; have p1 := P3.out.c1; have p2 := P3.out.c2
    have q0 := Q3.out.c0; have q1 := Q3.out.c1; have q2 := Q3.out.c2
    have f0 := Q3.out.free 0; have f1 := Q3.out.free 1; have f2 := Q3.out.free 2
    have fp1 := P3.out.free 1; have fp2 := P3.out.free 2
    go_upto_region 6 with fail
    have hp4 := P3.out.set2 E
    have hq4 := Q3.out.far HPQ.out 2 (.int .i64 E)
    have hb4 := below_set1 B3.out HPW.out 2 (.int .i64 E)
    generalize hW4 : World.setCell W3 _ _ = W4 at hp4 hq4 hb4 ⊢
    have P4 := Lib.hid hp4; have Q4 := Lib.hid hq4; have B4 := Lib.hid hb4
    clear hW4 hp4 hq4 hb4
    clear p0 p1 p2 q0 q1 q2 f0 f1 f2 fp1 fp2
    have p0 := P4.out.c0; have p1 := P4.out.c1; have p2 := P4.out.c2
    have q0 := Q4.out.c0; have q1 := Q4.out.c1; have q2 := Q4.out.c2
    have f0 := Q4.out.free 0; have f1 := Q4.out.free 1; have f2 := Q4.out.free 2
    have fp1 := P4.out.free 1; have fp2 := P4.out.free 2
    go_wp2
    go_region
    go_wp2
    refine bodyPost_ret (v := .tuple #[.int .i64 (N : Int), dm s (k + K) E]) (by simp [results, Try.results36, go_sem, q0, q1, q2]) rfl ⟨rfl, (below_put B4.out HQW.out _ _ _).drew⟩
  · have hN : fgN (rs s.data.toList k e) e a b = 0 := by unfold fgN; rw [if_neg h0]
    have hK : fgK k (rs s.data.toList k e) e a b = k := by unfold fgK; rw [if_neg h0]
    have hE : fgE (rs s.data.toList k e) e a b = e := by unfold fgE; rw [if_neg h0]
    rw [hN, hK, hE]
    have hz : (e != 0) = true := bne_iff_ne.mpr h0
    clear h0 hN hK hE
    go_enter Try.func36, Try.ntmps36
    go_upto_region 2 with fail
    obtain ⟨hp0, hq0⟩ := two w s k e
    have hb0 := below_two w (.cells #[.string s, .int .i64 (k : Int), .int .i64 e] Td) (.cells #[.string ⟨#[]⟩, .int .i64 0, .int .i64 0] Td)
    generalize hW0 : World.alloc (World.alloc w _) _ = W0 at hp0 hq0 hb0 ⊢
    clear hW0
    obtain ⟨q, hq⟩ : ∃ q, q = w.heap.size + 1 := ⟨_, rfl⟩
    obtain ⟨p, hp⟩ : ∃ p, p = w.heap.size := ⟨_, rfl⟩
    rw [← hq] at hq0 ⊢
    rw [← hp] at hp0 ⊢
    have HPW : RowKit.Hid (w.heap.size ≤ p) := by rw [hp]; exact Nat.le_refl _
    have HQW : RowKit.Hid (w.heap.size ≤ q) := by rw [hq]; exact Nat.le_succ _
    have hpq : p ≠ q := by omega
    have HPQ := Lib.hid hpq
    have P0 := Lib.hid hp0; have Q0 := Lib.hid hq0; have B0 := Lib.hid hb0
    clear hp0 hq0 hb0 hq hp hpq
    have p0 := P0.out.c0; have p1 := P0.out.c1; have p2 := P0.out.c2
    have q0 := Q0.out.c0; have q1 := Q0.out.c1; have q2 := Q0.out.c2
    have f0 := Q0.out.free 0; have f1 := Q0.out.free 1; have f2 := Q0.out.free 2
    have fp1 := P0.out.free 1; have fp2 := P0.out.free 2
    go_wp2
    go_region
    go_wp2
    refine bodyPost_ret (v := .tuple #[.int .i64 0, dm s k e]) (by simp [results, Try.results36, go_sem, q0, q1, q2]) rfl ⟨rfl, (below_put B0.out HQW.out _ _ _).drew⟩
end Go.Proofs.Ytelogbkhplegaaa
