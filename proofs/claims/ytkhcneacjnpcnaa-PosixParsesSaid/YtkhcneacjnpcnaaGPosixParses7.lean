/- Merged: ScanC. -/
import Derived.Test.YtkhcneacjnpcnaaGPosixParses6
import Derived.IntWalk
namespace Go.Proofs.Ytkhcneacjnpcnaa
open Go.RowKit
set_option linter.unusedVariables false

theorem lower_any (c : UInt8) (w : World) :
    Calls Try.prog 64 #[.int .u8 (c.toNat : Int)] w fun x w' => x = .returned (.int .u8 (lw c)) ∧ w = w' := by
  have hc := c.toNat_lt
  by_cases h1 : 65 ≤ (c.toNat : Int)
  · by_cases h2 : (c.toNat : Int) ≤ 90
    · have e : lw c = (c.toNat : Int) + 32 := by unfold lw; rw [if_pos ⟨h1, h2⟩]
      rw [e]; clear e
      go_enter Try.func64, Try.ntmps64
      go_wp2
      go_ret
      exact ⟨rfl, rfl⟩
    · have e : lw c = (c.toNat : Int) := by unfold lw; rw [if_neg (fun h => h2 h.2)]
      rw [e]; clear e
      go_enter Try.func64, Try.ntmps64
      go_wp2
      go_ret
      exact ⟨rfl, rfl⟩
  · have e : lw c = (c.toNat : Int) := by unfold lw; rw [if_neg (fun h => h1 h.1)]
    rw [e]; clear e
    go_enter Try.func64, Try.ntmps64
    go_wp2
    go_ret
    exact ⟨rfl, rfl⟩
theorem match_any (a b : UInt8) (w : World) :
    Calls Try.prog 60 #[.int .u8 (a.toNat : Int), .int .u8 (b.toNat : Int)] w fun x w' => x = .returned (.bool (al a b)) ∧ w = w' := by
  unfold al
  go_enter Try.func60, Try.ntmps60
  go_wp2_with (go_at_call 64; refine (lower_any _ _).mono ?_; rintro x w' ⟨rfl, rfl⟩)
  go_ret
  exact ⟨rfl, rfl⟩
theorem match_as (a b : UInt8) (t : Bool) (ht : al a b = t) (w : World) :
    Calls Try.prog 60 #[.int .u8 (a.toNat : Int), .int .u8 (b.toNat : Int)] w fun x w' => x = .returned (.bool t) ∧ w' = w := by
  subst ht; exact (match_any a b w).mono fun _ _ ⟨h1, h2⟩ => ⟨h1, h2.symm⟩

/-- Is the word taken? Where it stands then. -/
def fdT (r : List UInt8) (e : Int) (w : List UInt8) : Bool := (e == 0) && fmB r w
def fdK (k : Nat) (r : List UInt8) (e : Int) (w : List UInt8) : Nat := if fdT r e w = true then k + w.length else k
theorem fd_no {k : Nat} {r : List UInt8} {e : Int} {w : List UInt8} (h : fdT r e w = false) : fdK k r e w = k := by unfold fdK; rw [h]; rfl
theorem fd_yes {k : Nat} {r : List UInt8} {e : Int} {w : List UInt8} (h : fdT r e w = true) : fdK k r e w = k + w.length := by unfold fdK; rw [if_pos h]

set_option maxHeartbeats 1600000 in
theorem fold_s (g k : Nat) (e : Int) (v : Value) (s word : ByteArray) (w : World) (h : Sk Ts w g v k e) (ht : Txs w g v s) (hk : k ≤ s.size) (hs : s.size ≤ 100000) (hw : word.size ≤ 1000) :
    Calls Try.prog 51 #[.pointer (some ⟨g, 0, none⟩), .string word] w fun x w' =>
      x = .returned (.bool (fdT (rs s.data.toList k e) e word.data.toList)) ∧ Mv Ts g v (fdK k (rs s.data.toList k e) e word.data.toList) e w w' := by
  have HT := Lib.hid (stopped_s g k e v w h)
  have HL := Lib.hid (left_s g k e v s w h ht hk hs)
  have hl := rs_len s.data.toList k e
  rw [show s.data.toList.length = s.size by simp] at hl
  have hwl : word.data.toList.length = word.size := by simp
  have hsl : s.data.toList.length = s.size := by simp
  have HS := Lib.hid h
  by_cases h0 : e = 0
  · subst h0
    rw [if_pos rfl] at hl
    rw [rs_zero] at HL hl ⊢
    by_cases hgt : s.size - k < word.size
    · have hf : fdT (s.data.toList.drop k) 0 word.data.toList = false := by
        cases hq : fdT (s.data.toList.drop k) 0 word.data.toList
        · rfl
        · have := fmB_le (r := s.data.toList.drop k) (w := word.data.toList) (by unfold fdT at hq; simpa using hq)
          omega
      rw [hf, fd_no hf]
      obtain ⟨m, hm⟩ : ∃ m, m = (s.data.toList.drop k).length := ⟨_, rfl⟩
      rw [← hm] at HL hl
      have hgt' : ((word.size : Int) > (m : Int)) := by omega
      have hz : ((0 : Int) != 0) = false := rfl
      clear hf hm hl hwl h ht hgt hsl
      go_enter Try.func51, Try.ntmps51
      go_wp2_with (first
        | (go_at_call 41; refine HT.out.mono ?_; rintro x w' ⟨rfl, rfl⟩)
        | (go_at_call 20; refine HL.out.mono ?_; rintro x w' ⟨rfl, n, rfl⟩))
      go_ret
      exact ⟨rfl, Mv.refl HS.out n⟩
    · obtain ⟨m, hm⟩ : ∃ m, m = (s.data.toList.drop k).length := ⟨_, rfl⟩
      rw [← hm] at HL hl
      have hgt' : ¬ ((word.size : Int) > (m : Int)) := by omega
      have hroom : k + word.size ≤ s.size := by omega
      have hz : ((0 : Int) != 0) = false := rfl
      have c0 := h.c0
      have c1 := h.c1
      have f1 := h.free 1
      obtain rfl := ht
      have HM := Lib.hid hm; have HWL := Lib.hid hwl; have HSL := Lib.hid hsl
      obtain ⟨t, hT⟩ : ∃ t, t = fdT (s.data.toList.drop k) 0 word.data.toList := ⟨_, rfl⟩
      obtain ⟨K, hK⟩ : ∃ K, K = fdK k (s.data.toList.drop k) 0 word.data.toList := ⟨_, rfl⟩
      rw [← hT, ← hK]
      have HTT := Lib.hid hT; have HKK := Lib.hid hK
      clear hT hK
      clear hl hm hwl hsl h hgt 
      go_enter Try.func51, Try.ntmps51
      go_wp2_with (first
        | (go_at_call 41; refine HT.out.mono ?_; rintro x w' ⟨rfl, rfl⟩)
        | (go_at_call 20; refine HL.out.mono ?_; rintro x w' ⟨rfl, n, rfl⟩))
      go_loopw [5, 17] (fun _ i wr => ∃ (j n : Nat), i = .int .i64 j ∧ j ≤ word.size ∧ Hid (wr = w.drewN n) ∧ Hid (fmB (s.data.toList.drop k) word.data.toList = fmB ((s.data.toList.drop k).drop j) (word.data.toList.drop j))) (fun _ i _ => word.size - (intOf i).toNat)
      case atStart => exact ⟨0, n, rfl, Nat.zero_le _, rfl, by simp [Hid]⟩
      case round =>
        obtain ⟨j, n', rfl, hj, HW, HF⟩ := hrel
        clear n
        have d0 : wr.cell? ⟨g, 0, none⟩ = w.cell? ⟨g, 0, none⟩ := by rw [HW.out]; rfl
        have d1 : wr.cell? ⟨g, 1, none⟩ = w.cell? ⟨g, 1, none⟩ := by rw [HW.out]; rfl
        have d2 : wr.frozen? ⟨g, 1, none⟩ = w.frozen? ⟨g, 1, none⟩ := by rw [HW.out]; rfl
        by_cases hlt : j < word.size
        · obtain ⟨q, hq⟩ : ∃ q, q = k + j := ⟨_, rfl⟩
          have hqs : q < s.size := by omega
          have hqi : (k : Int) + (j : Int) = (q : Int) := by omega
          have hqw : IntKind.i64.wrap ((k : Int) + (j : Int)) = (q : Int) := by rw [hqi]; simp [IntKind.wrap, IntKind.signed, IntKind.bits]; omega
          have hst := fmB_step (r := s.data.toList.drop k) (w := word.data.toList) (j := j) (by rw [← HM.out]; omega) (by rw [HWL.out]; exact hlt)
          have e1 : (s.data.toList.drop k)[j]'(by rw [← HM.out]; omega) = s[q] := by
            simp only [List.getElem_drop]; subst hq; rfl
          have e2 : word.data.toList[j]'(by rw [HWL.out]; exact hlt) = word[j] := rfl
          rw [e1, e2] at hst
          have HST := Lib.hid hst
          
          clear hst e1 e2 hq
          cases ha : al s[q] word[j]
          · have hf : fmB (s.data.toList.drop k) word.data.toList = false := by rw [HF.out, HST.out, ha]; rfl
            have hf' : fdT (s.data.toList.drop k) 0 word.data.toList = false := by unfold fdT; rw [hf]; rfl
            obtain rfl : t = false := by rw [HTT.out, hf']
            obtain rfl : K = k := by rw [HKK.out, fd_no hf']
            have HA := Lib.hid ha
            clear hf hf' ha
            go_wp2
            go_quiet ((go_at_call 60; exact Calls.quiet_of_same (match_as _ _ _ HA.out _)))
            go_wp2
            go_ret
            refine ⟨rfl, ?_⟩
            rw [HW.out, World.drewN_drewN]
            exact Mv.refl HS.out _
          · have HA := Lib.hid ha
            have HF2 : RowKit.Hid (fmB (s.data.toList.drop k) word.data.toList = fmB ((s.data.toList.drop k).drop (j + 1)) (word.data.toList.drop (j + 1))) := by rw [HF.out, HST.out, ha]; exact rfl
            clear ha
            go_wp2
            go_quiet ((go_at_call 60; exact Calls.quiet_of_same (match_as _ _ _ HA.out _)))
            go_wp2
            go_roundw
            case rel => exact ⟨j + 1, n' + nq, by go_num, by omega, by rw [HW.out, World.drewN_drewN]; exact rfl, HF2⟩
            case measure => simp [intOf]; omega
        · obtain rfl : j = word.size := by omega
          have hf' : fdT (s.data.toList.drop k) 0 word.data.toList = true := by unfold fdT; rw [HF.out, fmB_end (by rw [HWL.out]; exact Nat.le_refl _)]; rfl
          obtain rfl : t = true := by rw [HTT.out, hf']
          obtain rfl : K = k + word.size := by rw [HKK.out, fd_yes hf', HWL.out]
          clear hf'
          have HD : RowKit.Hid (Sk Ts wr g (.string s) k 0) := by have := HS.out.drewN n'; rw [← HW.out] at this; exact this
          have HG : RowKit.Hid (w.grownBy wr (some g)) := by rw [HW.out]; exact gb_draw (gb_refl _ _) _
          go_wp2
          go_ret
          exact ⟨rfl, HD.out.set1 (k + word.size) (by omega), gb_set HG.out 1 _⟩
  · rw [rs_bad _ _ h0]
    have hf : fdT [] e word.data.toList = false := by unfold fdT; rw [beq_eq_false_iff_ne.2 h0]; rfl
    rw [hf, fd_no hf]
    have hz : (e != 0) = true := bne_iff_ne.mpr h0
    clear hl h ht h0 HL hf hwl hsl
    go_enter Try.func51, Try.ntmps51
    go_wp2_with (go_at_call 41; refine HT.out.mono ?_; rintro x w' ⟨rfl, rfl⟩)
    go_ret
    exact ⟨rfl, Mv.refl HS.out 0⟩
end Go.Proofs.Ytkhcneacjnpcnaa
