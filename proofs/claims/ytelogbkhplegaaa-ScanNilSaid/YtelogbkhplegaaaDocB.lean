/- The document's scanner: Fold, Skip, Figures. -/
import Derived.Test.YtelogbkhplegaaaDocA
import Derived.Test.YtelogbkhplegaaaScanE
import Derived.Test.YtelogbkhplegaaaRefD
import Derived.Deep.LoopGhost
namespace Go.Proofs.Ytelogbkhplegaaa
open Go.RowKit
set_option linter.unusedVariables false

theorem Dk.drewN {w : World} {p : Nat} {s : ByteArray} {k : Nat} {e : Int} (h : Dk w p s k e) (n : Nat) : Dk (w.drewN n) p s k e := h
theorem Below.drewN {B : Nat} {a w : World} (h : Below B a w) (n : Nat) : Below B a (w.drewN n) := ⟨h.os, h.tape, h.output, h.size, h.block⟩
theorem alike_as (a b : UInt8) (t : Bool) (ht : al a b = t) (w : World) :
    Calls Try.prog 57 #[.int .u8 (a.toNat : Int), .int .u8 (b.toNat : Int)] w fun x w' => x = .returned (.bool t) ∧ w' = w := by
  subst ht; exact (alike_any a b w).mono fun _ _ ⟨h1, h2⟩ => ⟨h1, h2.symm⟩

set_option maxHeartbeats 1600000 in
theorem fold_d (s : ByteArray) (k : Nat) (e : Int) (word : ByteArray) (w : World) (hk : k ≤ s.size) (hs : s.size ≤ 1000) (hw : word.size ≤ 1000) :
    Calls Try.prog 33 #[dm s k e, .string word] w fun x w' =>
      x = .returned (.tuple #[.bool (fdT (rs s.data.toList k e) e word.data.toList), dm s (fdK k (rs s.data.toList k e) e word.data.toList) e]) ∧ Below w.heap.size w w' := by
  by_cases h0 : e = 0
  · subst h0
    have HC := fun W => rest_any s k 0 W hk hs
    have hr := rsS_list s k 0
    have hrl : (rs s.data.toList k 0).length = (rsS s k 0).size := (rsS_size s k 0).symm
    have hle := rs_le s.data.toList k 0
    have hwl : word.data.toList.length = word.size := by simp
    have hsl : s.data.toList.length = s.size := by simp
    generalize rsS s k 0 = R at *
    generalize rs s.data.toList k 0 = r at *
    have hRs : k + R.size ≤ s.size := by omega
    obtain ⟨t, hT⟩ : ∃ t, t = fdT r 0 word.data.toList := ⟨_, rfl⟩
    obtain ⟨K, hK⟩ : ∃ K, K = fdK k r 0 word.data.toList := ⟨_, rfl⟩
    rw [← hT, ← hK]
    have HTT := Lib.hid hT; have HKK := Lib.hid hK; have HR := Lib.hid hr; have HRL := Lib.hid hrl; have HWL := Lib.hid hwl
    have HCH := Lib.hid HC
    obtain ⟨e, he⟩ : ∃ e : Int, e = 0 := ⟨_, rfl⟩
    have hz : (e != 0) = false := by rw [he]; rfl
    rw [← he] at HCH ⊢
    have HE := Lib.hid he
    clear hT hK hr hrl hwl hle hsl HC he
    go_enter Try.func33, Try.ntmps33
    go_wp2_with fail
    obtain ⟨hp0, hq0⟩ := two w s k e
    have hb0 := below_two w (.cells #[.string s, .int .i64 (k : Int), .int .i64 e] Td) (.cells #[.string ⟨#[]⟩, .int .i64 0, .int .i64 0] Td)
    generalize hW0 : World.alloc (World.alloc w _) _ = W0 at hp0 hq0 hb0 ⊢
    clear hW0
    obtain ⟨q, hq⟩ : ∃ q, q = w.heap.size + 1 := ⟨_, rfl⟩
    obtain ⟨p, hp⟩ : ∃ p, p = w.heap.size := ⟨_, rfl⟩
    rw [← hq] at hq0 ⊢
    rw [← hp] at hp0 ⊢
    have HPW : RowKit.Hid (w.heap.size ≤ p) := by rw [hp]; exact Nat.le_refl _
    have HQW : RowKit.Hid (w.heap.size ≤ q) := by rw [hq]; exact Nat.le_succ _
    have hpq : p ≠ q := by omega
    have HPQ := Lib.hid hpq
    have P0 := Lib.hid hp0; have Q0 := Lib.hid hq0; have B0 := Lib.hid hb0
    clear hp0 hq0 hb0 hq hp hpq
    refine (HCH.out W0).mono ?_
    rintro x W1 ⟨rfl, hb⟩
    have P1 := Lib.hid (P0.out.below hb P0.out.lt)
    have Q1 := Lib.hid (Q0.out.below hb Q0.out.lt)
    have B1 := Lib.hid (B0.out.trans (hb.mono B0.out.size))
    clear hb P0 Q0 B0
    go_wp2
    go_loopw [7] (fun i wr => ∃ (j n : Nat), i = .int .i64 j ∧ j ≤ word.size ∧ Hid (wr = W1.drewN n) ∧ Hid (fmB r word.data.toList = fmB (r.drop j) (word.data.toList.drop j))) (fun i _ => word.size - (intOf i).toNat)
    case atStart => exact ⟨0, 0, rfl, Nat.zero_le _, rfl, by simp [Hid]⟩
    case round =>
      obtain ⟨j, n', rfl, hj, HW, HF⟩ := hrel
      have hp2 := P1.out; have hq2 := Q1.out; have hb2 := B1.out
      have hp3 : Dk wr p s k e := by rw [HW.out]; exact hp2
      have hq3 : Dk wr q ⟨#[]⟩ 0 0 := by rw [HW.out]; exact hq2
      have hb3 : Below w.heap.size w wr := by rw [HW.out]; exact ⟨hb2.os, hb2.tape, hb2.output, hb2.size, hb2.block⟩
      have P2 := Lib.hid hp3; have Q2 := Lib.hid hq3; have B2 := Lib.hid hb3
      clear hp2 hq2 hb2 hp3 hq3 hb3
      by_cases hlt : j < word.size
      · by_cases hge : R.size ≤ j
        · have hf : fmB r word.data.toList = false := by rw [HF.out, fmB_short (by rw [HRL.out]; exact hge) (by rw [HWL.out]; exact hlt)]
          have hf' : fdT r 0 word.data.toList = false := by unfold fdT; rw [hf]; rfl
          obtain rfl : t = false := by rw [HTT.out, hf']
          obtain rfl : K = k := by rw [HKK.out, fd_no hf']
          have g1 : decide ((R.size : Int) ≤ (j : Int)) = true := by simpa using hge
          have g2 : decide (R.size ≤ j) = true := by simpa using hge
          clear hf hf'
          have p0 := P2.out.c0; have p1 := P2.out.c1; have p2 := P2.out.c2
          have q0 := Q2.out.c0; have q1 := Q2.out.c1; have q2 := Q2.out.c2
          have f0 := Q2.out.free 0; have f1 := Q2.out.free 1; have f2 := Q2.out.free 2
          have fp1 := P2.out.free 1; have fp2 := P2.out.free 2
          go_wp2
          go_quiet (fail)
          clear p0 p1 p2 q0 q1 q2 f0 f1 f2 fp1 fp2
          have hp3 := P2.out.drewN nq; have hq3 := Q2.out.drewN nq; have hb3 := Below.drewN B2.out nq
          generalize World.drewN wr nq = W3 at hp3 hq3 hb3 ⊢
          have P3 := Lib.hid hp3; have Q3 := Lib.hid hq3; have B3 := Lib.hid hb3
          clear hp3 hq3 hb3
          have p0 := P3.out.c0; have p1 := P3.out.c1; have p2 := P3.out.c2
          have q0 := Q3.out.c0; have q1 := Q3.out.c1; have q2 := Q3.out.c2
          have f0 := Q3.out.free 0; have f1 := Q3.out.free 1; have f2 := Q3.out.free 2
          have fp1 := P3.out.free 1; have fp2 := P3.out.free 2
          go_wp2
          go_region
          go_wp2
          refine bodyPost_ret (v := .tuple #[.bool false, dm s K e]) (by simp [results, Try.results33, go_sem, q0, q1, q2]) rfl ⟨rfl, (below_put B3.out HQW.out _ _ _).drew⟩
        · have hjr : j < R.size := by omega
          have hst := fmB_step (r := r) (w := word.data.toList) (j := j) (by rw [HRL.out]; exact hjr) (by rw [HWL.out]; exact hlt)
          have e1 : r[j]'(by rw [HRL.out]; exact hjr) = R[j] := by
            have := HR.out
            subst this
            rfl
          have e2 : word.data.toList[j]'(by rw [HWL.out]; exact hlt) = word[j] := rfl
          rw [e1, e2] at hst
          have HST := Lib.hid hst
          have g1 : decide ((R.size : Int) ≤ (j : Int)) = false := by simpa using hge
          have g2 : decide (R.size ≤ j) = false := by simpa using hge
          clear hst e1 e2 hge
          cases ha : al R[j] word[j]
          · have hf : fmB r word.data.toList = false := by rw [HF.out, HST.out, ha]; rfl
            have hf' : fdT r 0 word.data.toList = false := by unfold fdT; rw [hf]; rfl
            obtain rfl : t = false := by rw [HTT.out, hf']
            obtain rfl : K = k := by rw [HKK.out, fd_no hf']
            have HA := Lib.hid ha
            clear hf hf' ha
            have p0 := P2.out.c0; have p1 := P2.out.c1; have p2 := P2.out.c2
            have q0 := Q2.out.c0; have q1 := Q2.out.c1; have q2 := Q2.out.c2
            have f0 := Q2.out.free 0; have f1 := Q2.out.free 1; have f2 := Q2.out.free 2
            have fp1 := P2.out.free 1; have fp2 := P2.out.free 2
            go_wp2
            go_quiet ((go_at_call 57; exact Calls.quiet_of_same (alike_as _ _ _ HA.out _)))
            clear p0 p1 p2 q0 q1 q2 f0 f1 f2 fp1 fp2
            have hp3 := P2.out.drewN nq; have hq3 := Q2.out.drewN nq; have hb3 := Below.drewN B2.out nq
            generalize World.drewN wr nq = W3 at hp3 hq3 hb3 ⊢
            have P3 := Lib.hid hp3; have Q3 := Lib.hid hq3; have B3 := Lib.hid hb3
            clear hp3 hq3 hb3
            have p0 := P3.out.c0; have p1 := P3.out.c1; have p2 := P3.out.c2
            have q0 := Q3.out.c0; have q1 := Q3.out.c1; have q2 := Q3.out.c2
            have f0 := Q3.out.free 0; have f1 := Q3.out.free 1; have f2 := Q3.out.free 2
            have fp1 := P3.out.free 1; have fp2 := P3.out.free 2
            go_wp2
            go_region
            go_wp2
            refine bodyPost_ret (v := .tuple #[.bool false, dm s K e]) (by simp [results, Try.results33, go_sem, q0, q1, q2]) rfl ⟨rfl, (below_put B3.out HQW.out _ _ _).drew⟩
          · have HA := Lib.hid ha
            have HF2 : RowKit.Hid (fmB r word.data.toList = fmB (r.drop (j + 1)) (word.data.toList.drop (j + 1))) := by rw [HF.out, HST.out, ha]; exact rfl
            clear ha
            have p0 := P2.out.c0; have p1 := P2.out.c1; have p2 := P2.out.c2
            have q0 := Q2.out.c0; have q1 := Q2.out.c1; have q2 := Q2.out.c2
            have f0 := Q2.out.free 0; have f1 := Q2.out.free 1; have f2 := Q2.out.free 2
            have fp1 := P2.out.free 1; have fp2 := P2.out.free 2
            go_wp2
            go_quiet ((go_at_call 57; exact Calls.quiet_of_same (alike_as _ _ _ HA.out _)))
            go_wp2
            go_roundw
            case rel => exact ⟨j + 1, n' + nq, by go_num, by omega, by rw [HW.out, World.drewN_drewN]; exact rfl, HF2⟩
            case measure => simp [intOf]; omega
      · obtain rfl : j = word.size := by omega
        have hf' : fdT r 0 word.data.toList = true := by unfold fdT; rw [HF.out, fmB_end (by rw [HWL.out]; exact Nat.le_refl _)]; rfl
        have hfit := fmB_le (r := r) (w := word.data.toList) (by unfold fdT at hf'; simpa using hf')
        rw [HRL.out, HWL.out] at hfit
        obtain rfl : t = true := by rw [HTT.out, hf']
        obtain rfl : K = k + word.size := by rw [HKK.out, fd_yes hf', HWL.out]
        clear hf'
        have p0 := P2.out.c0; have p1 := P2.out.c1; have p2 := P2.out.c2
        have q0 := Q2.out.c0; have q1 := Q2.out.c1; have q2 := Q2.out.c2
        have f0 := Q2.out.free 0; have f1 := Q2.out.free 1; have f2 := Q2.out.free 2
        have fp1 := P2.out.free 1; have fp2 := P2.out.free 2
        go_upto_region 10 with fail
        have hp3 := P2.out.set1 (k + word.size) (z := (k : Int) + (word.size : Int)) (by omega)
        have hq3 := Q2.out.far HPQ.out 1 (.int .i64 ((k : Int) + (word.size : Int)))
        have hb3 := below_set1 B2.out HPW.out 1 (.int .i64 ((k : Int) + (word.size : Int)))
        generalize hW3 : World.setCell wr _ _ = W3 at hp3 hq3 hb3 ⊢
        have P3 := Lib.hid hp3; have Q3 := Lib.hid hq3; have B3 := Lib.hid hb3
        clear hW3 hp3 hq3 hb3
        clear p0 p1 p2 q0 q1 q2 f0 f1 f2 fp1 fp2
        have p0 := P3.out.c0; have p1 := P3.out.c1; have p2 := P3.out.c2
        have q0 := Q3.out.c0; have q1 := Q3.out.c1; have q2 := Q3.out.c2
        have f0 := Q3.out.free 0; have f1 := Q3.out.free 1; have f2 := Q3.out.free 2
        have fp1 := P3.out.free 1; have fp2 := P3.out.free 2
        go_wp2
        go_region
        go_wp2
        refine bodyPost_ret (v := .tuple #[.bool true, dm s (k + word.size) e]) (by simp [results, Try.results33, go_sem, q0, q1, q2]) rfl ⟨rfl, (below_put B3.out HQW.out _ _ _).drew⟩
  · have hf : fdT (rs s.data.toList k e) e word.data.toList = false := by unfold fdT; rw [beq_eq_false_iff_ne.2 h0]; rfl
    rw [hf, fd_no hf]
    have hz : (e != 0) = true := bne_iff_ne.mpr h0
    clear h0 hf
    go_enter Try.func33, Try.ntmps33
    go_upto_region 2 with fail
    obtain ⟨hp0, hq0⟩ := two w s k e
    have hb0 := below_two w (.cells #[.string s, .int .i64 (k : Int), .int .i64 e] Td) (.cells #[.string ⟨#[]⟩, .int .i64 0, .int .i64 0] Td)
    generalize hW0 : World.alloc (World.alloc w _) _ = W0 at hp0 hq0 hb0 ⊢
    clear hW0
    obtain ⟨q, hq⟩ : ∃ q, q = w.heap.size + 1 := ⟨_, rfl⟩
    obtain ⟨p, hp⟩ : ∃ p, p = w.heap.size := ⟨_, rfl⟩
    rw [← hq] at hq0 ⊢
    rw [← hp] at hp0 ⊢
    have HPW : RowKit.Hid (w.heap.size ≤ p) := by rw [hp]; exact Nat.le_refl _
    have HQW : RowKit.Hid (w.heap.size ≤ q) := by rw [hq]; exact Nat.le_succ _
    have hpq : p ≠ q := by omega
    have HPQ := Lib.hid hpq
    have P0 := Lib.hid hp0; have Q0 := Lib.hid hq0; have B0 := Lib.hid hb0
    clear hp0 hq0 hb0 hq hp hpq
    have p0 := P0.out.c0; have p1 := P0.out.c1; have p2 := P0.out.c2
    have q0 := Q0.out.c0; have q1 := Q0.out.c1; have q2 := Q0.out.c2
    have f0 := Q0.out.free 0; have f1 := Q0.out.free 1; have f2 := Q0.out.free 2
    have fp1 := P0.out.free 1; have fp2 := P0.out.free 2
    go_wp2
    go_region
    go_wp2
    refine bodyPost_ret (v := .tuple #[.bool false, dm s k e]) (by simp [results, Try.results33, go_sem, q0, q1, q2]) rfl ⟨rfl, (below_put B0.out HQW.out _ _ _).drew⟩
end Go.Proofs.Ytelogbkhplegaaa
