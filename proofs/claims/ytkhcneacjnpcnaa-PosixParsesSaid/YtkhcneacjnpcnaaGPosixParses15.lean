/- Merged: ScanG. -/
import Derived.Test.YtkhcneacjnpcnaaGPosixParses9
import Derived.Test.YtkhcneacjnpcnaaGPosixParses4
import Derived.Deep.LoopGhost
import Derived.Deep.DeepCutAuto
import Derived.Deep.CutRange
import Derived.Deep.CutBlock
namespace Go.Proofs.Ytkhcneacjnpcnaa
open Go.RowKit
set_option linter.unusedVariables false

/-- Does a byte occur in others? Is it another one than the stop? -/
def inB (of : List UInt8) (c : UInt8) : Bool := decide (0 ≤ Lib.indexByte of c)
def noB (stop c : UInt8) : Bool := (c.toNat : Int) != (stop.toNat : Int)

theorem run1_s (of : ByteArray) (B : Nat) (c : UInt8) (w : World) (h : w.cell? ⟨B, 0, none⟩ = some (.string of)) :
    Calls Try.prog 52 #[.int .u8 (c.toNat : Int), .pointer (some ⟨B, 0, none⟩)] w fun x w' => x = .returned (.bool (inB of.data.toList c)) ∧ w' = w := by
  have hc : ((c.toNat : Int).toNat.toUInt8) = c := by simp
  have HI := Try.strings_IndexByte of (c.toNat : Int) w
  rw [hc] at HI
  have HI' := Lib.hid HI
  clear hc HI
  have hd : inB of.data.toList c = decide (Lib.indexByte of.data.toList c ≥ 0) := rfl
  generalize Lib.indexByte of.data.toList c = y at *
  generalize inB of.data.toList c = t at *
  have HD := Lib.hid hd; clear hd
  go_enter Try.func52, Try.ntmps52
  go_wp2_with (go_at_call 53; refine HI'.out.mono ?_; rintro x w' ⟨rfl, rfl⟩)
  go_ret
  exact ⟨ret1_eq (bool_eq (by rw [HD.out]; first | done | simp)), rfl⟩
theorem until1_s (stop : UInt8) (B : Nat) (c : UInt8) (w : World) (h : w.cell? ⟨B, 0, none⟩ = some (.int .u8 (stop.toNat : Int))) :
    Calls Try.prog 50 #[.int .u8 (c.toNat : Int), .pointer (some ⟨B, 0, none⟩)] w fun x w' => x = .returned (.bool (noB stop c)) ∧ w' = w := by
  unfold noB
  go_enter Try.func50, Try.ntmps50
  go_wp2
  go_ret
  exact ⟨rfl, rfl⟩

set_option maxHeartbeats 1600000 in
theorem whileRun_s (B : Nat) (u : Value) (p : UInt8 → Bool) (HW : ∀ (c : UInt8) (w1 : World), w1.cell? ⟨B, 0, none⟩ = some u → Calls Try.prog 52 #[.int .u8 (c.toNat : Int), .pointer (some ⟨B, 0, none⟩)] w1 fun x w' => x = .returned (.bool (p c)) ∧ w' = w1)
    (g k : Nat) (e : Int) (v : Value) (s : ByteArray) (w : World) (h : Sk Ts w g v k e) (ht : Txs w g v s) (hk : k ≤ s.size) (hs : s.size ≤ 100000) (hB : w.cell? ⟨B, 0, none⟩ = some u) (hBg : B ≠ g) :
    Calls Try.prog 49 #[.pointer (some ⟨g, 0, none⟩), .func (.func 52) #[] #[.pointer (some ⟨B, 0, none⟩)]] w fun x w' =>
      x = .returned (.string ⟨((rs s.data.toList k e).take (tw p (rs s.data.toList k e))).toArray⟩) ∧ Mv Ts g v (k + tw p (rs s.data.toList k e)) e w w' := by
  have HT := Lib.hid (stopped_s g k e v w h)
  have HS := Lib.hid h
  have HX := Lib.hid ht
  have HWH := Lib.hid HW
  have HBH := Lib.hid hB
  clear HW hB
  by_cases h0 : e = 0
  · subst h0
    rw [rs_zero]
    have hz : ((0 : Int) != 0) = false := rfl
    have hsl : s.data.toList.length = s.size := by simp
    have HSL := Lib.hid hsl
    have c1 := h.c1
    obtain ⟨N, hN⟩ : ∃ N, N = tw p (s.data.toList.drop k) := ⟨_, rfl⟩
    rw [← hN]
    have HN := Lib.hid hN
    obtain ⟨R, hR⟩ : ∃ R : ByteArray, R = ⟨((s.data.toList.drop k).take N).toArray⟩ := ⟨_, rfl⟩
    rw [← hR]
    have HR := Lib.hid hR
    clear h ht hsl hN hR
    go_enter Try.func49, Try.ntmps49
    go_wp2_with (go_at_call 41; refine HT.out.mono ?_; rintro x w' ⟨rfl, rfl⟩)
    clear c1
    go_loopg [] (s.size - k) (fun G wr => ∃ j : Nat, j ≤ s.size ∧ k ≤ j ∧ G = s.size - j ∧ Hid (Mv Ts g v j 0 w wr) ∧ Hid (N = (j - k) + tw p (s.data.toList.drop j)))
    case atStart => exact ⟨k, hk, Nat.le_refl _, rfl, ⟨HS.out, gb_refl _ _⟩, by rw [Nat.sub_self, Nat.zero_add]; exact HN⟩
    case round =>
      obtain ⟨j, hj, hkj, rfl, HM, HN1⟩ := hrel
      have hS := HM.out.1
      have d0 := hS.c0
      have d1 := hS.c1
      have f1 := hS.free 1
      have hBc : wr.cell? ⟨B, 0, none⟩ = some u := HM.out.2.cell HBH.out (by intro e; injection e with e; exact hBg e)
      have HBC := Lib.hid hBc
      clear hS hBc
      obtain rfl := HX.out
      by_cases hlt : j < s.size
      · have hst := tw_step (p := p) (l := s.data.toList) (i := j) (by rw [HSL.out]; exact hlt)
        have hst2 : tw p (s.data.toList.drop j) = if p s[j] = true then tw p (s.data.toList.drop (j + 1)) + 1 else 0 := hst
        
        cases hp : p s[j]
        · rw [hp] at hst2
          have hN : N = j - k := by have := HN1.out; simp at hst2; omega
          have hWF := fun w1 h1 => HWH.out s[j] w1 h1
          rw [hp] at hWF
          have HWF := Lib.hid hWF; clear hWF
          clear hst hst2 hp
          have HNj := Lib.hid hN; clear hN
          go_wp2
          go_quiet ((go_at_call 52; exact Calls.quiet_of_same (HWF.out _ HBC.out)))
          go_wp2
          obtain ⟨W1, hW1⟩ : ∃ W1, W1 = wr.drewN nq := ⟨_, rfl⟩
          have hs1 := HM.out.1.drewN nq
          rw [← hW1] at hs1
          have HS1 := Lib.hid hs1; clear hs1
          have HG1 : RowKit.Hid (w.grownBy W1 (some g)) := by rw [hW1]; exact gb_draw HM.out.2 _
          have e0 := HS1.out.c0
          have e1 := HS1.out.c1
          have HXq : RowKit.Hid (s.extract k j = R) := by
            have : (s.extract k j).data.toList = (s.data.toList.drop k).take N := by
              rw [Lib.extract_data, HNj.out]
            show s.extract k j = R
            rw [HR.out, ← this]
          have hNK : k + N = j := by have := HNj.out; omega
          have HNK := Lib.hid hNK
          rw [← hW1]
          clear hW1 d0 d1 f1 hNK
          go_quiet (fail)
          go_wp2
          go_ret
          exact ⟨by first | rfl | (rw [HXq.out]; first | done | rfl), by rw [HNK.out]; exact ⟨HS1.out.drewN _, gb_draw HG1.out _⟩⟩
        · rw [hp] at hst2
          have hN : N = (j + 1 - k) + tw p (s.data.toList.drop (j + 1)) := by have := HN1.out; simp at hst2; omega
          have hWF := fun w1 h1 => HWH.out s[j] w1 h1
          rw [hp] at hWF
          have HWF := Lib.hid hWF; clear hWF
          have HN2 := Lib.hid hN
          clear hst hst2 hp hN
          go_wp2
          go_quiet ((go_at_call 52; exact Calls.quiet_of_same (HWF.out _ HBC.out)))
          go_wp2
          go_roundg (s.size - (j + 1))
          case rel => exact ⟨j + 1, by omega, by omega, rfl, ⟨(HM.out.1.drewN _).set1 (j + 1) (by omega), gb_set (gb_draw HM.out.2 _) 1 _⟩, HN2⟩
          case measure => omega
      · have hjs : j = s.size := by omega
        have hN : N = j - k := by have := HN1.out; rw [tw_end (by rw [HSL.out]; omega)] at this; omega
        have HNj := Lib.hid hN
        have hge : ¬ ((j : Int) < (s.size : Int)) := by omega
        have hge' : decide ((j : Int) < (s.size : Int)) = false := by simpa using hge
        have hge2 : decide (j < s.size) = false := by simpa using hlt
        clear hN hjs
        go_wp2
        go_quiet (fail)
        go_wp2
        obtain ⟨W1, hW1⟩ : ∃ W1, W1 = wr.drewN nq := ⟨_, rfl⟩
        have hs1 := HM.out.1.drewN nq
        rw [← hW1] at hs1
        have HS1 := Lib.hid hs1; clear hs1
        have HG1 : RowKit.Hid (w.grownBy W1 (some g)) := by rw [hW1]; exact gb_draw HM.out.2 _
        have e0 := HS1.out.c0
        have e1 := HS1.out.c1
        have HXq : RowKit.Hid (s.extract k j = R) := by
          have : (s.extract k j).data.toList = (s.data.toList.drop k).take N := by
            rw [Lib.extract_data, HNj.out]
          show s.extract k j = R
          rw [HR.out, ← this]
        have hNK : k + N = j := by have := HNj.out; omega
        have HNK := Lib.hid hNK
        rw [← hW1]
        clear hW1 d0 d1 f1 hNK
        go_quiet (fail)
        go_wp2
        go_ret
        exact ⟨by first | rfl | (rw [HXq.out]; first | done | rfl), by rw [HNK.out]; exact ⟨HS1.out.drewN _, gb_draw HG1.out _⟩⟩
  · rw [rs_bad _ _ h0]
    have hz : (e != 0) = true := bne_iff_ne.mpr h0
    clear h ht h0
    go_enter Try.func49, Try.ntmps49
    go_wp2_with (go_at_call 41; refine HT.out.mono ?_; rintro x w' ⟨rfl, rfl⟩)
    go_ret
    exact ⟨rfl, HS.out, gb_refl _ _⟩
set_option maxHeartbeats 1600000 in
theorem whileUntil_s (B : Nat) (u : Value) (p : UInt8 → Bool) (HW : ∀ (c : UInt8) (w1 : World), w1.cell? ⟨B, 0, none⟩ = some u → Calls Try.prog 50 #[.int .u8 (c.toNat : Int), .pointer (some ⟨B, 0, none⟩)] w1 fun x w' => x = .returned (.bool (p c)) ∧ w' = w1)
    (g k : Nat) (e : Int) (v : Value) (s : ByteArray) (w : World) (h : Sk Ts w g v k e) (ht : Txs w g v s) (hk : k ≤ s.size) (hs : s.size ≤ 100000) (hB : w.cell? ⟨B, 0, none⟩ = some u) (hBg : B ≠ g) :
    Calls Try.prog 49 #[.pointer (some ⟨g, 0, none⟩), .func (.func 50) #[] #[.pointer (some ⟨B, 0, none⟩)]] w fun x w' =>
      x = .returned (.string ⟨((rs s.data.toList k e).take (tw p (rs s.data.toList k e))).toArray⟩) ∧ Mv Ts g v (k + tw p (rs s.data.toList k e)) e w w' := by
  have HT := Lib.hid (stopped_s g k e v w h)
  have HS := Lib.hid h
  have HX := Lib.hid ht
  have HWH := Lib.hid HW
  have HBH := Lib.hid hB
  clear HW hB
  by_cases h0 : e = 0
  · subst h0
    rw [rs_zero]
    have hz : ((0 : Int) != 0) = false := rfl
    have hsl : s.data.toList.length = s.size := by simp
    have HSL := Lib.hid hsl
    have c1 := h.c1
    obtain ⟨N, hN⟩ : ∃ N, N = tw p (s.data.toList.drop k) := ⟨_, rfl⟩
    rw [← hN]
    have HN := Lib.hid hN
    obtain ⟨R, hR⟩ : ∃ R : ByteArray, R = ⟨((s.data.toList.drop k).take N).toArray⟩ := ⟨_, rfl⟩
    rw [← hR]
    have HR := Lib.hid hR
    clear h ht hsl hN hR
    go_enter Try.func49, Try.ntmps49
    go_wp2_with (go_at_call 41; refine HT.out.mono ?_; rintro x w' ⟨rfl, rfl⟩)
    clear c1
    go_loopg [] (s.size - k) (fun G wr => ∃ j : Nat, j ≤ s.size ∧ k ≤ j ∧ G = s.size - j ∧ Hid (Mv Ts g v j 0 w wr) ∧ Hid (N = (j - k) + tw p (s.data.toList.drop j)))
    case atStart => exact ⟨k, hk, Nat.le_refl _, rfl, ⟨HS.out, gb_refl _ _⟩, by rw [Nat.sub_self, Nat.zero_add]; exact HN⟩
    case round =>
      obtain ⟨j, hj, hkj, rfl, HM, HN1⟩ := hrel
      have hS := HM.out.1
      have d0 := hS.c0
      have d1 := hS.c1
      have f1 := hS.free 1
      have hBc : wr.cell? ⟨B, 0, none⟩ = some u := HM.out.2.cell HBH.out (by intro e; injection e with e; exact hBg e)
      have HBC := Lib.hid hBc
      clear hS hBc
      obtain rfl := HX.out
      by_cases hlt : j < s.size
      · have hst := tw_step (p := p) (l := s.data.toList) (i := j) (by rw [HSL.out]; exact hlt)
        have hst2 : tw p (s.data.toList.drop j) = if p s[j] = true then tw p (s.data.toList.drop (j + 1)) + 1 else 0 := hst
        
        cases hp : p s[j]
        · rw [hp] at hst2
          have hN : N = j - k := by have := HN1.out; simp at hst2; omega
          have hWF := fun w1 h1 => HWH.out s[j] w1 h1
          rw [hp] at hWF
          have HWF := Lib.hid hWF; clear hWF
          clear hst hst2 hp
          have HNj := Lib.hid hN; clear hN
          go_wp2
          go_quiet ((go_at_call 50; exact Calls.quiet_of_same (HWF.out _ HBC.out)))
          go_wp2
          obtain ⟨W1, hW1⟩ : ∃ W1, W1 = wr.drewN nq := ⟨_, rfl⟩
          have hs1 := HM.out.1.drewN nq
          rw [← hW1] at hs1
          have HS1 := Lib.hid hs1; clear hs1
          have HG1 : RowKit.Hid (w.grownBy W1 (some g)) := by rw [hW1]; exact gb_draw HM.out.2 _
          have e0 := HS1.out.c0
          have e1 := HS1.out.c1
          have HXq : RowKit.Hid (s.extract k j = R) := by
            have : (s.extract k j).data.toList = (s.data.toList.drop k).take N := by
              rw [Lib.extract_data, HNj.out]
            show s.extract k j = R
            rw [HR.out, ← this]
          have hNK : k + N = j := by have := HNj.out; omega
          have HNK := Lib.hid hNK
          rw [← hW1]
          clear hW1 d0 d1 f1 hNK
          go_quiet (fail)
          go_wp2
          go_ret
          exact ⟨by first | rfl | (rw [HXq.out]; first | done | rfl), by rw [HNK.out]; exact ⟨HS1.out.drewN _, gb_draw HG1.out _⟩⟩
        · rw [hp] at hst2
          have hN : N = (j + 1 - k) + tw p (s.data.toList.drop (j + 1)) := by have := HN1.out; simp at hst2; omega
          have hWF := fun w1 h1 => HWH.out s[j] w1 h1
          rw [hp] at hWF
          have HWF := Lib.hid hWF; clear hWF
          have HN2 := Lib.hid hN
          clear hst hst2 hp hN
          go_wp2
          go_quiet ((go_at_call 50; exact Calls.quiet_of_same (HWF.out _ HBC.out)))
          go_wp2
          go_roundg (s.size - (j + 1))
          case rel => exact ⟨j + 1, by omega, by omega, rfl, ⟨(HM.out.1.drewN _).set1 (j + 1) (by omega), gb_set (gb_draw HM.out.2 _) 1 _⟩, HN2⟩
          case measure => omega
      · have hjs : j = s.size := by omega
        have hN : N = j - k := by have := HN1.out; rw [tw_end (by rw [HSL.out]; omega)] at this; omega
        have HNj := Lib.hid hN
        have hge : ¬ ((j : Int) < (s.size : Int)) := by omega
        have hge' : decide ((j : Int) < (s.size : Int)) = false := by simpa using hge
        have hge2 : decide (j < s.size) = false := by simpa using hlt
        clear hN hjs
        go_wp2
        go_quiet (fail)
        go_wp2
        obtain ⟨W1, hW1⟩ : ∃ W1, W1 = wr.drewN nq := ⟨_, rfl⟩
        have hs1 := HM.out.1.drewN nq
        rw [← hW1] at hs1
        have HS1 := Lib.hid hs1; clear hs1
        have HG1 : RowKit.Hid (w.grownBy W1 (some g)) := by rw [hW1]; exact gb_draw HM.out.2 _
        have e0 := HS1.out.c0
        have e1 := HS1.out.c1
        have HXq : RowKit.Hid (s.extract k j = R) := by
          have : (s.extract k j).data.toList = (s.data.toList.drop k).take N := by
            rw [Lib.extract_data, HNj.out]
          show s.extract k j = R
          rw [HR.out, ← this]
        have hNK : k + N = j := by have := HNj.out; omega
        have HNK := Lib.hid hNK
        rw [← hW1]
        clear hW1 d0 d1 f1 hNK
        go_quiet (fail)
        go_wp2
        go_ret
        exact ⟨by first | rfl | (rw [HXq.out]; first | done | rfl), by rw [HNK.out]; exact ⟨HS1.out.drewN _, gb_draw HG1.out _⟩⟩
  · rw [rs_bad _ _ h0]
    have hz : (e != 0) = true := bne_iff_ne.mpr h0
    clear h ht h0
    go_enter Try.func49, Try.ntmps49
    go_wp2_with (go_at_call 41; refine HT.out.mono ?_; rintro x w' ⟨rfl, rfl⟩)
    go_ret
    exact ⟨rfl, HS.out, gb_refl _ _⟩
end Go.Proofs.Ytkhcneacjnpcnaa
