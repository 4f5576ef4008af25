/- MjdFives. Written by gen_mjd.py. -/
import Derived.Test.YtmfjfbofkkbmiaaDoorMjdE
namespace Go.Proofs.YtmfjfbofkkbmiaaDoor
open Go.RowKit
set_option linter.unusedVariables false

theorem fives_long (n : Int) (s : ByteArray) (w : World) (he : Eps w) (g : (s.size : Int) > 100) (hs : s.size ≤ 9223372036854775807) :
    Calls Tryd.prog 5 #[.int .i64 n, .string s] w fun e w' => e = .returned (.bool true) ∧ Below w.heap.size w w' := by
  have HA := Lib.hid (malive_any w he)
  clear he
  go_enter Tryd.func5, Tryd.ntmps5
  go_wp2_with fail
  refine (HA.out).mono ?_
  rintro e w1 ⟨rfl, hb⟩
  have B1 := Lib.hid (hb)
  clear hb
  go_wp2_with fail
  go_ret
  exact ⟨rfl, B1.out⟩

set_option maxRecDepth 100000 in
set_option maxHeartbeats 4000000 in
theorem fives_ax (n : Int) (s : ByteArray) (w : World) (he : Eps w) (ht : Tab w) (hs : s.size ≤ 100) (ha : ctE 1 n ≠ 0) (hx : s.size ≠ 5) :
    Calls Tryd.prog 5 #[.int .i64 n, .string s] w fun e w' => e = .returned (.bool true) ∧ Below w.heap.size w w' := by
  have HA := Lib.hid (malive_any w he)
  have E0 := Lib.hid he; have T0 := Lib.hid ht
  have hm : s.size ≤ maxLen := by unfold maxLen; omega
  have q0 := fun op t W x k => guard_ev op t W x k
  have q1 := fun W k => eql_ev W k
  have HF := Lib.hid (fun w he ht => five7_any n w he ht)
  have HC := Lib.hid (fun w => rcount_any 1 n w)
  have HP := Lib.hid (fun w he => parsefive_any s w he hm)
  have HW := Lib.hid (fun w => rwhole_any s 5 5 w hm (by decide) (by decide))
  have HM := Lib.hid (fun w => many_any s w hm)
  have hsz : ¬ (s.size : Int) > 100 := by omega
  have hl : s.data.toList.length = s.size := by simp
  have hle := lead_le s.data.toList
  rw [hl] at hle
  have HL := Lib.hid hl
  clear he ht hm hl
  have e0 : fvE n = ctE 1 n := by unfold fvE; rw [if_neg ha]
  have e1 : fvL n = [] := if_neg (by rw [e0]; exact ha)
  rw [e1, e0] at HF
  have eb := ctE_lo 1 n
  have a1 : (ctE 1 n == 0) = false := beq_eq_false_iff_ne.2 ha
  clear ha e0 e1
  generalize ctE 1 n = E at *
  generalize ctN 1 n = N at *
  have hn : ¬ is5 s.data.toList := fun h => hx (by have := h.1; rw [HL.out] at this; exact this)
  rw [show p5E s.data.toList = 2 from if_neg hn, show p5N s.data.toList = 0 from if_neg hn] at HP
  have b1 : ((s.size : Int) != 5) = true := bne_iff_ne.2 (by omega)
  clear hn hx HW HM
  clear HL
  go_enter Tryd.func5, Tryd.ntmps5
  go_wp2_with fail
  refine (HA.out).mono ?_
  rintro e w1 ⟨rfl, hb⟩
  have B1 := Lib.hid (hb)
  have E1 := Lib.hid (E0.out.below hb)
  have T1 := Lib.hid (T0.out.below hb)
  clear hb
  go_wp2_with fail
  refine (HF.out _ E1.out T1.out).mono ?_
  rintro e w2 ⟨rfl, hb⟩
  have B2 := Lib.hid (B1.out.trans (hb.mono B1.out.size))
  have E2 := Lib.hid (E1.out.below hb)
  clear hb
  go_wp2_with fail
  refine (HC.out _).mono ?_
  rintro e w3 ⟨rfl, hb⟩
  have B3 := Lib.hid (B2.out.trans (hb.mono B2.out.size))
  have E3 := Lib.hid (E2.out.below hb)
  clear hb
  go_wp2_with (first
    | (go_at_call 12; refine (num_any _ _ eb.1 eb.2).mono ?_; rintro e w' ⟨rfl, rfl⟩)
    | fail)
  refine (HP.out _ E3.out).mono ?_
  rintro e w4 ⟨rfl, hb⟩
  have B4 := Lib.hid (B3.out.trans (hb.mono B3.out.size))
  clear hb
  go_wp2_with (go_at_call 22; refine (is_any _ _ _ (by decide) (by decide)).mono ?_; rintro e w' ⟨rfl, rfl⟩)
  go_ret
  exact ⟨rfl, B4.out⟩

set_option maxRecDepth 100000 in
set_option maxHeartbeats 4000000 in
theorem fives_ay (n : Int) (s : ByteArray) (w : World) (he : Eps w) (ht : Tab w) (hs : s.size ≤ 100) (ha : ctE 1 n ≠ 0) (hx : s.size = 5) (hy : lead s.data.toList ≠ 5) :
    Calls Tryd.prog 5 #[.int .i64 n, .string s] w fun e w' => e = .returned (.bool true) ∧ Below w.heap.size w w' := by
  have HA := Lib.hid (malive_any w he)
  have E0 := Lib.hid he; have T0 := Lib.hid ht
  have hm : s.size ≤ maxLen := by unfold maxLen; omega
  have q0 := fun op t W x k => guard_ev op t W x k
  have q1 := fun W k => eql_ev W k
  have HF := Lib.hid (fun w he ht => five7_any n w he ht)
  have HC := Lib.hid (fun w => rcount_any 1 n w)
  have HP := Lib.hid (fun w he => parsefive_any s w he hm)
  have HW := Lib.hid (fun w => rwhole_any s 5 5 w hm (by decide) (by decide))
  have HM := Lib.hid (fun w => many_any s w hm)
  have hsz : ¬ (s.size : Int) > 100 := by omega
  have hl : s.data.toList.length = s.size := by simp
  have hle := lead_le s.data.toList
  rw [hl] at hle
  have HL := Lib.hid hl
  clear he ht hm hl
  have e0 : fvE n = ctE 1 n := by unfold fvE; rw [if_neg ha]
  have e1 : fvL n = [] := if_neg (by rw [e0]; exact ha)
  rw [e1, e0] at HF
  have eb := ctE_lo 1 n
  have a1 : (ctE 1 n == 0) = false := beq_eq_false_iff_ne.2 ha
  clear ha e0 e1
  generalize ctE 1 n = E at *
  generalize ctN 1 n = N at *
  have hn : ¬ is5 s.data.toList := fun h => hy h.2
  rw [show p5E s.data.toList = 2 from if_neg hn, show p5N s.data.toList = 0 from if_neg hn] at HP
  have b1 : ((s.size : Int) != 5) = false := bne_eq_false_iff_eq.2 (by omega)
  have b2 : ((lead s.data.toList : Int) != 5) = true := bne_iff_ne.2 (by omega)
  clear hn hx HW hy
  generalize lead s.data.toList = L at *
  clear HL
  go_enter Tryd.func5, Tryd.ntmps5
  go_wp2_with fail
  refine (HA.out).mono ?_
  rintro e w1 ⟨rfl, hb⟩
  have B1 := Lib.hid (hb)
  have E1 := Lib.hid (E0.out.below hb)
  have T1 := Lib.hid (T0.out.below hb)
  clear hb
  go_wp2_with fail
  refine (HF.out _ E1.out T1.out).mono ?_
  rintro e w2 ⟨rfl, hb⟩
  have B2 := Lib.hid (B1.out.trans (hb.mono B1.out.size))
  have E2 := Lib.hid (E1.out.below hb)
  clear hb
  go_wp2_with fail
  refine (HC.out _).mono ?_
  rintro e w3 ⟨rfl, hb⟩
  have B3 := Lib.hid (B2.out.trans (hb.mono B2.out.size))
  have E3 := Lib.hid (E2.out.below hb)
  clear hb
  go_wp2_with (first
    | (go_at_call 12; refine (num_any _ _ eb.1 eb.2).mono ?_; rintro e w' ⟨rfl, rfl⟩)
    | fail)
  refine (HP.out _ E3.out).mono ?_
  rintro e w4 ⟨rfl, hb⟩
  have B4 := Lib.hid (B3.out.trans (hb.mono B3.out.size))
  clear hb
  go_wp2_with (first
    | (go_at_call 21; refine (HM.out _).mono ?_; rintro e w' ⟨rfl, rfl⟩)
    | (go_at_call 22; refine (is_any _ _ _ (by decide) (by decide)).mono ?_; rintro e w' ⟨rfl, rfl⟩))
  go_ret
  exact ⟨rfl, B4.out⟩

set_option maxRecDepth 100000 in
set_option maxHeartbeats 4000000 in
theorem fives_az (n : Int) (s : ByteArray) (w : World) (he : Eps w) (ht : Tab w) (hs : s.size ≤ 100) (ha : ctE 1 n ≠ 0) (hx : s.size = 5) (hy : lead s.data.toList = 5) :
    Calls Tryd.prog 5 #[.int .i64 n, .string s] w fun e w' => e = .returned (.bool true) ∧ Below w.heap.size w w' := by
  have HA := Lib.hid (malive_any w he)
  have E0 := Lib.hid he; have T0 := Lib.hid ht
  have hm : s.size ≤ maxLen := by unfold maxLen; omega
  have q0 := fun op t W x k => guard_ev op t W x k
  have q1 := fun W k => eql_ev W k
  have HF := Lib.hid (fun w he ht => five7_any n w he ht)
  have HC := Lib.hid (fun w => rcount_any 1 n w)
  have HP := Lib.hid (fun w he => parsefive_any s w he hm)
  have HW := Lib.hid (fun w => rwhole_any s 5 5 w hm (by decide) (by decide))
  have HM := Lib.hid (fun w => many_any s w hm)
  have hsz : ¬ (s.size : Int) > 100 := by omega
  have hl : s.data.toList.length = s.size := by simp
  have hle := lead_le s.data.toList
  rw [hl] at hle
  have HL := Lib.hid hl
  clear he ht hm hl
  have e0 : fvE n = ctE 1 n := by unfold fvE; rw [if_neg ha]
  have e1 : fvL n = [] := if_neg (by rw [e0]; exact ha)
  rw [e1, e0] at HF
  have eb := ctE_lo 1 n
  have a1 : (ctE 1 n == 0) = false := beq_eq_false_iff_ne.2 ha
  clear ha e0 e1
  generalize ctE 1 n = E at *
  generalize ctN 1 n = N at *
  have hn : is5 s.data.toList := ⟨HL.out.trans hx, hy⟩
  obtain ⟨f1, f2, f3⟩ := five_yes hn
  rw [show p5E s.data.toList = 0 from if_pos hn, show p5N s.data.toList = (dv s.data.toList : Int) - 40587 from if_pos hn] at HP
  rw [f1, f2] at HW
  have b1 : ((s.size : Int) != 5) = false := bne_eq_false_iff_eq.2 (by omega)
  have b2 : ((lead s.data.toList : Int) != 5) = false := bne_eq_false_iff_eq.2 (by omega)
  clear hn hx hy f1 f2
  generalize lead s.data.toList = L at *
  generalize dv s.data.toList = V at *
  clear HL
  go_enter Tryd.func5, Tryd.ntmps5
  go_wp2_with fail
  refine (HA.out).mono ?_
  rintro e w1 ⟨rfl, hb⟩
  have B1 := Lib.hid (hb)
  have E1 := Lib.hid (E0.out.below hb)
  have T1 := Lib.hid (T0.out.below hb)
  clear hb
  go_wp2_with fail
  refine (HF.out _ E1.out T1.out).mono ?_
  rintro e w2 ⟨rfl, hb⟩
  have B2 := Lib.hid (B1.out.trans (hb.mono B1.out.size))
  have E2 := Lib.hid (E1.out.below hb)
  clear hb
  go_wp2_with fail
  refine (HC.out _).mono ?_
  rintro e w3 ⟨rfl, hb⟩
  have B3 := Lib.hid (B2.out.trans (hb.mono B2.out.size))
  have E3 := Lib.hid (E2.out.below hb)
  clear hb
  go_wp2_with (first
    | (go_at_call 12; refine (num_any _ _ eb.1 eb.2).mono ?_; rintro e w' ⟨rfl, rfl⟩)
    | fail)
  refine (HP.out _ E3.out).mono ?_
  rintro e w4 ⟨rfl, hb⟩
  have B4 := Lib.hid (B3.out.trans (hb.mono B3.out.size))
  clear hb
  go_wp2_with (go_at_call 21; refine (HM.out _).mono ?_; rintro e w' ⟨rfl, rfl⟩)
  refine (HW.out _).mono ?_
  rintro e w5 ⟨rfl, hb⟩
  have B5 := Lib.hid (B4.out.trans (hb.mono B4.out.size))
  clear hb
  go_wp2_with fail
  go_ret
  exact ⟨rfl, B5.out⟩

set_option maxRecDepth 100000 in
set_option maxHeartbeats 4000000 in
theorem fives_bx (n : Int) (s : ByteArray) (w : World) (he : Eps w) (ht : Tab w) (hs : s.size ≤ 100) (ha : ctE 1 n = 0) (hr : ctN 1 n < 0) (hx : s.size ≠ 5) :
    Calls Tryd.prog 5 #[.int .i64 n, .string s] w fun e w' => e = .returned (.bool true) ∧ Below w.heap.size w w' := by
  have HA := Lib.hid (malive_any w he)
  have E0 := Lib.hid he; have T0 := Lib.hid ht
  have hm : s.size ≤ maxLen := by unfold maxLen; omega
  have q0 := fun op t W x k => guard_ev op t W x k
  have q1 := fun W k => eql_ev W k
  have HF := Lib.hid (fun w he ht => five7_any n w he ht)
  have HC := Lib.hid (fun w => rcount_any 1 n w)
  have HP := Lib.hid (fun w he => parsefive_any s w he hm)
  have HW := Lib.hid (fun w => rwhole_any s 5 5 w hm (by decide) (by decide))
  have HM := Lib.hid (fun w => many_any s w hm)
  have hsz : ¬ (s.size : Int) > 100 := by omega
  have hl : s.data.toList.length = s.size := by simp
  have hle := lead_le s.data.toList
  rw [hl] at hle
  have HL := Lib.hid hl
  clear he ht hm hl
  have e0 : fvE n = 1 := by unfold fvE; rw [if_pos ha, if_pos (Or.inl hr)]
  have e1 : fvL n = [] := if_neg (by rw [e0]; decide)
  rw [e1, e0] at HF
  rw [ha] at HC
  have eb : (0 : Int) ≤ 1 ∧ (1 : Int) < 100 := by decide
  clear ha e0 e1
  generalize ctN 1 n = N at *
  have hn : ¬ is5 s.data.toList := fun h => hx (by have := h.1; rw [HL.out] at this; exact this)
  rw [show p5E s.data.toList = 2 from if_neg hn, show p5N s.data.toList = 0 from if_neg hn] at HP
  have b1 : ((s.size : Int) != 5) = true := bne_iff_ne.2 (by omega)
  clear hn hx HW HM
  clear HL
  go_enter Tryd.func5, Tryd.ntmps5
  go_wp2_with fail
  refine (HA.out).mono ?_
  rintro e w1 ⟨rfl, hb⟩
  have B1 := Lib.hid (hb)
  have E1 := Lib.hid (E0.out.below hb)
  have T1 := Lib.hid (T0.out.below hb)
  clear hb
  go_wp2_with fail
  refine (HF.out _ E1.out T1.out).mono ?_
  rintro e w2 ⟨rfl, hb⟩
  have B2 := Lib.hid (B1.out.trans (hb.mono B1.out.size))
  have E2 := Lib.hid (E1.out.below hb)
  clear hb
  go_wp2_with fail
  refine (HC.out _).mono ?_
  rintro e w3 ⟨rfl, hb⟩
  have B3 := Lib.hid (B2.out.trans (hb.mono B2.out.size))
  have E3 := Lib.hid (E2.out.below hb)
  clear hb
  go_wp2_with (first
    | (go_at_call 12; refine (num_any _ _ eb.1 eb.2).mono ?_; rintro e w' ⟨rfl, rfl⟩)
    | fail)
  refine (HP.out _ E3.out).mono ?_
  rintro e w4 ⟨rfl, hb⟩
  have B4 := Lib.hid (B3.out.trans (hb.mono B3.out.size))
  clear hb
  go_wp2_with (go_at_call 22; refine (is_any _ _ _ (by decide) (by decide)).mono ?_; rintro e w' ⟨rfl, rfl⟩)
  go_ret
  exact ⟨rfl, B4.out⟩

set_option maxRecDepth 100000 in
set_option maxHeartbeats 4000000 in
theorem fives_by (n : Int) (s : ByteArray) (w : World) (he : Eps w) (ht : Tab w) (hs : s.size ≤ 100) (ha : ctE 1 n = 0) (hr : ctN 1 n < 0) (hx : s.size = 5) (hy : lead s.data.toList ≠ 5) :
    Calls Tryd.prog 5 #[.int .i64 n, .string s] w fun e w' => e = .returned (.bool true) ∧ Below w.heap.size w w' := by
  have HA := Lib.hid (malive_any w he)
  have E0 := Lib.hid he; have T0 := Lib.hid ht
  have hm : s.size ≤ maxLen := by unfold maxLen; omega
  have q0 := fun op t W x k => guard_ev op t W x k
  have q1 := fun W k => eql_ev W k
  have HF := Lib.hid (fun w he ht => five7_any n w he ht)
  have HC := Lib.hid (fun w => rcount_any 1 n w)
  have HP := Lib.hid (fun w he => parsefive_any s w he hm)
  have HW := Lib.hid (fun w => rwhole_any s 5 5 w hm (by decide) (by decide))
  have HM := Lib.hid (fun w => many_any s w hm)
  have hsz : ¬ (s.size : Int) > 100 := by omega
  have hl : s.data.toList.length = s.size := by simp
  have hle := lead_le s.data.toList
  rw [hl] at hle
  have HL := Lib.hid hl
  clear he ht hm hl
  have e0 : fvE n = 1 := by unfold fvE; rw [if_pos ha, if_pos (Or.inl hr)]
  have e1 : fvL n = [] := if_neg (by rw [e0]; decide)
  rw [e1, e0] at HF
  rw [ha] at HC
  have eb : (0 : Int) ≤ 1 ∧ (1 : Int) < 100 := by decide
  clear ha e0 e1
  generalize ctN 1 n = N at *
  have hn : ¬ is5 s.data.toList := fun h => hy h.2
  rw [show p5E s.data.toList = 2 from if_neg hn, show p5N s.data.toList = 0 from if_neg hn] at HP
  have b1 : ((s.size : Int) != 5) = false := bne_eq_false_iff_eq.2 (by omega)
  have b2 : ((lead s.data.toList : Int) != 5) = true := bne_iff_ne.2 (by omega)
  clear hn hx HW hy
  generalize lead s.data.toList = L at *
  clear HL
  go_enter Tryd.func5, Tryd.ntmps5
  go_wp2_with fail
  refine (HA.out).mono ?_
  rintro e w1 ⟨rfl, hb⟩
  have B1 := Lib.hid (hb)
  have E1 := Lib.hid (E0.out.below hb)
  have T1 := Lib.hid (T0.out.below hb)
  clear hb
  go_wp2_with fail
  refine (HF.out _ E1.out T1.out).mono ?_
  rintro e w2 ⟨rfl, hb⟩
  have B2 := Lib.hid (B1.out.trans (hb.mono B1.out.size))
  have E2 := Lib.hid (E1.out.below hb)
  clear hb
  go_wp2_with fail
  refine (HC.out _).mono ?_
  rintro e w3 ⟨rfl, hb⟩
  have B3 := Lib.hid (B2.out.trans (hb.mono B2.out.size))
  have E3 := Lib.hid (E2.out.below hb)
  clear hb
  go_wp2_with (first
    | (go_at_call 12; refine (num_any _ _ eb.1 eb.2).mono ?_; rintro e w' ⟨rfl, rfl⟩)
    | fail)
  refine (HP.out _ E3.out).mono ?_
  rintro e w4 ⟨rfl, hb⟩
  have B4 := Lib.hid (B3.out.trans (hb.mono B3.out.size))
  clear hb
  go_wp2_with (first
    | (go_at_call 21; refine (HM.out _).mono ?_; rintro e w' ⟨rfl, rfl⟩)
    | (go_at_call 22; refine (is_any _ _ _ (by decide) (by decide)).mono ?_; rintro e w' ⟨rfl, rfl⟩))
  go_ret
  exact ⟨rfl, B4.out⟩

set_option maxRecDepth 100000 in
set_option maxHeartbeats 4000000 in
theorem fives_bz (n : Int) (s : ByteArray) (w : World) (he : Eps w) (ht : Tab w) (hs : s.size ≤ 100) (ha : ctE 1 n = 0) (hr : ctN 1 n < 0) (hx : s.size = 5) (hy : lead s.data.toList = 5) :
    Calls Tryd.prog 5 #[.int .i64 n, .string s] w fun e w' => e = .returned (.bool true) ∧ Below w.heap.size w w' := by
  have HA := Lib.hid (malive_any w he)
  have E0 := Lib.hid he; have T0 := Lib.hid ht
  have hm : s.size ≤ maxLen := by unfold maxLen; omega
  have q0 := fun op t W x k => guard_ev op t W x k
  have q1 := fun W k => eql_ev W k
  have HF := Lib.hid (fun w he ht => five7_any n w he ht)
  have HC := Lib.hid (fun w => rcount_any 1 n w)
  have HP := Lib.hid (fun w he => parsefive_any s w he hm)
  have HW := Lib.hid (fun w => rwhole_any s 5 5 w hm (by decide) (by decide))
  have HM := Lib.hid (fun w => many_any s w hm)
  have hsz : ¬ (s.size : Int) > 100 := by omega
  have hl : s.data.toList.length = s.size := by simp
  have hle := lead_le s.data.toList
  rw [hl] at hle
  have HL := Lib.hid hl
  clear he ht hm hl
  have e0 : fvE n = 1 := by unfold fvE; rw [if_pos ha, if_pos (Or.inl hr)]
  have e1 : fvL n = [] := if_neg (by rw [e0]; decide)
  rw [e1, e0] at HF
  rw [ha] at HC
  have eb : (0 : Int) ≤ 1 ∧ (1 : Int) < 100 := by decide
  clear ha e0 e1
  generalize ctN 1 n = N at *
  have hn : is5 s.data.toList := ⟨HL.out.trans hx, hy⟩
  obtain ⟨f1, f2, f3⟩ := five_yes hn
  rw [show p5E s.data.toList = 0 from if_pos hn, show p5N s.data.toList = (dv s.data.toList : Int) - 40587 from if_pos hn] at HP
  rw [f1, f2] at HW
  have b1 : ((s.size : Int) != 5) = false := bne_eq_false_iff_eq.2 (by omega)
  have b2 : ((lead s.data.toList : Int) != 5) = false := bne_eq_false_iff_eq.2 (by omega)
  clear hn hx hy f1 f2
  generalize lead s.data.toList = L at *
  generalize dv s.data.toList = V at *
  clear HL
  go_enter Tryd.func5, Tryd.ntmps5
  go_wp2_with fail
  refine (HA.out).mono ?_
  rintro e w1 ⟨rfl, hb⟩
  have B1 := Lib.hid (hb)
  have E1 := Lib.hid (E0.out.below hb)
  have T1 := Lib.hid (T0.out.below hb)
  clear hb
  go_wp2_with fail
  refine (HF.out _ E1.out T1.out).mono ?_
  rintro e w2 ⟨rfl, hb⟩
  have B2 := Lib.hid (B1.out.trans (hb.mono B1.out.size))
  have E2 := Lib.hid (E1.out.below hb)
  clear hb
  go_wp2_with fail
  refine (HC.out _).mono ?_
  rintro e w3 ⟨rfl, hb⟩
  have B3 := Lib.hid (B2.out.trans (hb.mono B2.out.size))
  have E3 := Lib.hid (E2.out.below hb)
  clear hb
  go_wp2_with (first
    | (go_at_call 12; refine (num_any _ _ eb.1 eb.2).mono ?_; rintro e w' ⟨rfl, rfl⟩)
    | fail)
  refine (HP.out _ E3.out).mono ?_
  rintro e w4 ⟨rfl, hb⟩
  have B4 := Lib.hid (B3.out.trans (hb.mono B3.out.size))
  clear hb
  go_wp2_with (go_at_call 21; refine (HM.out _).mono ?_; rintro e w' ⟨rfl, rfl⟩)
  refine (HW.out _).mono ?_
  rintro e w5 ⟨rfl, hb⟩
  have B5 := Lib.hid (B4.out.trans (hb.mono B4.out.size))
  clear hb
  go_wp2_with fail
  go_ret
  exact ⟨rfl, B5.out⟩

set_option maxRecDepth 100000 in
set_option maxHeartbeats 4000000 in
theorem fives_cx (n : Int) (s : ByteArray) (w : World) (he : Eps w) (ht : Tab w) (hs : s.size ≤ 100) (ha : ctE 1 n = 0) (hr : ¬ ctN 1 n < 0) (hr2 : ctN 1 n > 99999) (hx : s.size ≠ 5) :
    Calls Tryd.prog 5 #[.int .i64 n, .string s] w fun e w' => e = .returned (.bool true) ∧ Below w.heap.size w w' := by
  have HA := Lib.hid (malive_any w he)
  have E0 := Lib.hid he; have T0 := Lib.hid ht
  have hm : s.size ≤ maxLen := by unfold maxLen; omega
  have q0 := fun op t W x k => guard_ev op t W x k
  have q1 := fun W k => eql_ev W k
  have HF := Lib.hid (fun w he ht => five7_any n w he ht)
  have HC := Lib.hid (fun w => rcount_any 1 n w)
  have HP := Lib.hid (fun w he => parsefive_any s w he hm)
  have HW := Lib.hid (fun w => rwhole_any s 5 5 w hm (by decide) (by decide))
  have HM := Lib.hid (fun w => many_any s w hm)
  have hsz : ¬ (s.size : Int) > 100 := by omega
  have hl : s.data.toList.length = s.size := by simp
  have hle := lead_le s.data.toList
  rw [hl] at hle
  have HL := Lib.hid hl
  clear he ht hm hl
  have e0 : fvE n = 1 := by unfold fvE; rw [if_pos ha, if_pos (Or.inr hr2)]
  have e1 : fvL n = [] := if_neg (by rw [e0]; decide)
  rw [e1, e0] at HF
  rw [ha] at HC
  have eb : (0 : Int) ≤ 1 ∧ (1 : Int) < 100 := by decide
  clear ha e0 e1
  generalize ctN 1 n = N at *
  have hn : ¬ is5 s.data.toList := fun h => hx (by have := h.1; rw [HL.out] at this; exact this)
  rw [show p5E s.data.toList = 2 from if_neg hn, show p5N s.data.toList = 0 from if_neg hn] at HP
  have b1 : ((s.size : Int) != 5) = true := bne_iff_ne.2 (by omega)
  clear hn hx HW HM
  clear HL
  go_enter Tryd.func5, Tryd.ntmps5
  go_wp2_with fail
  refine (HA.out).mono ?_
  rintro e w1 ⟨rfl, hb⟩
  have B1 := Lib.hid (hb)
  have E1 := Lib.hid (E0.out.below hb)
  have T1 := Lib.hid (T0.out.below hb)
  clear hb
  go_wp2_with fail
  refine (HF.out _ E1.out T1.out).mono ?_
  rintro e w2 ⟨rfl, hb⟩
  have B2 := Lib.hid (B1.out.trans (hb.mono B1.out.size))
  have E2 := Lib.hid (E1.out.below hb)
  clear hb
  go_wp2_with fail
  refine (HC.out _).mono ?_
  rintro e w3 ⟨rfl, hb⟩
  have B3 := Lib.hid (B2.out.trans (hb.mono B2.out.size))
  have E3 := Lib.hid (E2.out.below hb)
  clear hb
  go_wp2_with (first
    | (go_at_call 12; refine (num_any _ _ eb.1 eb.2).mono ?_; rintro e w' ⟨rfl, rfl⟩)
    | fail)
  refine (HP.out _ E3.out).mono ?_
  rintro e w4 ⟨rfl, hb⟩
  have B4 := Lib.hid (B3.out.trans (hb.mono B3.out.size))
  clear hb
  go_wp2_with (go_at_call 22; refine (is_any _ _ _ (by decide) (by decide)).mono ?_; rintro e w' ⟨rfl, rfl⟩)
  go_ret
  exact ⟨rfl, B4.out⟩

set_option maxRecDepth 100000 in
set_option maxHeartbeats 4000000 in
theorem fives_cy (n : Int) (s : ByteArray) (w : World) (he : Eps w) (ht : Tab w) (hs : s.size ≤ 100) (ha : ctE 1 n = 0) (hr : ¬ ctN 1 n < 0) (hr2 : ctN 1 n > 99999) (hx : s.size = 5) (hy : lead s.data.toList ≠ 5) :
    Calls Tryd.prog 5 #[.int .i64 n, .string s] w fun e w' => e = .returned (.bool true) ∧ Below w.heap.size w w' := by
  have HA := Lib.hid (malive_any w he)
  have E0 := Lib.hid he; have T0 := Lib.hid ht
  have hm : s.size ≤ maxLen := by unfold maxLen; omega
  have q0 := fun op t W x k => guard_ev op t W x k
  have q1 := fun W k => eql_ev W k
  have HF := Lib.hid (fun w he ht => five7_any n w he ht)
  have HC := Lib.hid (fun w => rcount_any 1 n w)
  have HP := Lib.hid (fun w he => parsefive_any s w he hm)
  have HW := Lib.hid (fun w => rwhole_any s 5 5 w hm (by decide) (by decide))
  have HM := Lib.hid (fun w => many_any s w hm)
  have hsz : ¬ (s.size : Int) > 100 := by omega
  have hl : s.data.toList.length = s.size := by simp
  have hle := lead_le s.data.toList
  rw [hl] at hle
  have HL := Lib.hid hl
  clear he ht hm hl
  have e0 : fvE n = 1 := by unfold fvE; rw [if_pos ha, if_pos (Or.inr hr2)]
  have e1 : fvL n = [] := if_neg (by rw [e0]; decide)
  rw [e1, e0] at HF
  rw [ha] at HC
  have eb : (0 : Int) ≤ 1 ∧ (1 : Int) < 100 := by decide
  clear ha e0 e1
  generalize ctN 1 n = N at *
  have hn : ¬ is5 s.data.toList := fun h => hy h.2
  rw [show p5E s.data.toList = 2 from if_neg hn, show p5N s.data.toList = 0 from if_neg hn] at HP
  have b1 : ((s.size : Int) != 5) = false := bne_eq_false_iff_eq.2 (by omega)
  have b2 : ((lead s.data.toList : Int) != 5) = true := bne_iff_ne.2 (by omega)
  clear hn hx HW hy
  generalize lead s.data.toList = L at *
  clear HL
  go_enter Tryd.func5, Tryd.ntmps5
  go_wp2_with fail
  refine (HA.out).mono ?_
  rintro e w1 ⟨rfl, hb⟩
  have B1 := Lib.hid (hb)
  have E1 := Lib.hid (E0.out.below hb)
  have T1 := Lib.hid (T0.out.below hb)
  clear hb
  go_wp2_with fail
  refine (HF.out _ E1.out T1.out).mono ?_
  rintro e w2 ⟨rfl, hb⟩
  have B2 := Lib.hid (B1.out.trans (hb.mono B1.out.size))
  have E2 := Lib.hid (E1.out.below hb)
  clear hb
  go_wp2_with fail
  refine (HC.out _).mono ?_
  rintro e w3 ⟨rfl, hb⟩
  have B3 := Lib.hid (B2.out.trans (hb.mono B2.out.size))
  have E3 := Lib.hid (E2.out.below hb)
  clear hb
  go_wp2_with (first
    | (go_at_call 12; refine (num_any _ _ eb.1 eb.2).mono ?_; rintro e w' ⟨rfl, rfl⟩)
    | fail)
  refine (HP.out _ E3.out).mono ?_
  rintro e w4 ⟨rfl, hb⟩
  have B4 := Lib.hid (B3.out.trans (hb.mono B3.out.size))
  clear hb
  go_wp2_with (first
    | (go_at_call 21; refine (HM.out _).mono ?_; rintro e w' ⟨rfl, rfl⟩)
    | (go_at_call 22; refine (is_any _ _ _ (by decide) (by decide)).mono ?_; rintro e w' ⟨rfl, rfl⟩))
  go_ret
  exact ⟨rfl, B4.out⟩

set_option maxRecDepth 100000 in
set_option maxHeartbeats 4000000 in
theorem fives_cz (n : Int) (s : ByteArray) (w : World) (he : Eps w) (ht : Tab w) (hs : s.size ≤ 100) (ha : ctE 1 n = 0) (hr : ¬ ctN 1 n < 0) (hr2 : ctN 1 n > 99999) (hx : s.size = 5) (hy : lead s.data.toList = 5) :
    Calls Tryd.prog 5 #[.int .i64 n, .string s] w fun e w' => e = .returned (.bool true) ∧ Below w.heap.size w w' := by
  have HA := Lib.hid (malive_any w he)
  have E0 := Lib.hid he; have T0 := Lib.hid ht
  have hm : s.size ≤ maxLen := by unfold maxLen; omega
  have q0 := fun op t W x k => guard_ev op t W x k
  have q1 := fun W k => eql_ev W k
  have HF := Lib.hid (fun w he ht => five7_any n w he ht)
  have HC := Lib.hid (fun w => rcount_any 1 n w)
  have HP := Lib.hid (fun w he => parsefive_any s w he hm)
  have HW := Lib.hid (fun w => rwhole_any s 5 5 w hm (by decide) (by decide))
  have HM := Lib.hid (fun w => many_any s w hm)
  have hsz : ¬ (s.size : Int) > 100 := by omega
  have hl : s.data.toList.length = s.size := by simp
  have hle := lead_le s.data.toList
  rw [hl] at hle
  have HL := Lib.hid hl
  clear he ht hm hl
  have e0 : fvE n = 1 := by unfold fvE; rw [if_pos ha, if_pos (Or.inr hr2)]
  have e1 : fvL n = [] := if_neg (by rw [e0]; decide)
  rw [e1, e0] at HF
  rw [ha] at HC
  have eb : (0 : Int) ≤ 1 ∧ (1 : Int) < 100 := by decide
  clear ha e0 e1
  generalize ctN 1 n = N at *
  have hn : is5 s.data.toList := ⟨HL.out.trans hx, hy⟩
  obtain ⟨f1, f2, f3⟩ := five_yes hn
  rw [show p5E s.data.toList = 0 from if_pos hn, show p5N s.data.toList = (dv s.data.toList : Int) - 40587 from if_pos hn] at HP
  rw [f1, f2] at HW
  have b1 : ((s.size : Int) != 5) = false := bne_eq_false_iff_eq.2 (by omega)
  have b2 : ((lead s.data.toList : Int) != 5) = false := bne_eq_false_iff_eq.2 (by omega)
  clear hn hx hy f1 f2
  generalize lead s.data.toList = L at *
  generalize dv s.data.toList = V at *
  clear HL
  go_enter Tryd.func5, Tryd.ntmps5
  go_wp2_with fail
  refine (HA.out).mono ?_
  rintro e w1 ⟨rfl, hb⟩
  have B1 := Lib.hid (hb)
  have E1 := Lib.hid (E0.out.below hb)
  have T1 := Lib.hid (T0.out.below hb)
  clear hb
  go_wp2_with fail
  refine (HF.out _ E1.out T1.out).mono ?_
  rintro e w2 ⟨rfl, hb⟩
  have B2 := Lib.hid (B1.out.trans (hb.mono B1.out.size))
  have E2 := Lib.hid (E1.out.below hb)
  clear hb
  go_wp2_with fail
  refine (HC.out _).mono ?_
  rintro e w3 ⟨rfl, hb⟩
  have B3 := Lib.hid (B2.out.trans (hb.mono B2.out.size))
  have E3 := Lib.hid (E2.out.below hb)
  clear hb
  go_wp2_with (first
    | (go_at_call 12; refine (num_any _ _ eb.1 eb.2).mono ?_; rintro e w' ⟨rfl, rfl⟩)
    | fail)
  refine (HP.out _ E3.out).mono ?_
  rintro e w4 ⟨rfl, hb⟩
  have B4 := Lib.hid (B3.out.trans (hb.mono B3.out.size))
  clear hb
  go_wp2_with (go_at_call 21; refine (HM.out _).mono ?_; rintro e w' ⟨rfl, rfl⟩)
  refine (HW.out _).mono ?_
  rintro e w5 ⟨rfl, hb⟩
  have B5 := Lib.hid (B4.out.trans (hb.mono B4.out.size))
  clear hb
  go_wp2_with fail
  go_ret
  exact ⟨rfl, B5.out⟩

set_option maxRecDepth 100000 in
set_option maxHeartbeats 4000000 in
theorem fives_dx (n : Int) (s : ByteArray) (w : World) (he : Eps w) (ht : Tab w) (hs : s.size ≤ 100) (ha : ctE 1 n = 0) (hr : ¬ ctN 1 n < 0) (hr2 : ¬ ctN 1 n > 99999) (hx : s.size ≠ 5) :
    Calls Tryd.prog 5 #[.int .i64 n, .string s] w fun e w' => e = .returned (.bool true) ∧ Below w.heap.size w w' := by
  have HA := Lib.hid (malive_any w he)
  have E0 := Lib.hid he; have T0 := Lib.hid ht
  have hm : s.size ≤ maxLen := by unfold maxLen; omega
  have q0 := fun op t W x k => guard_ev op t W x k
  have q1 := fun W k => eql_ev W k
  have HF := Lib.hid (fun w he ht => five7_any n w he ht)
  have HC := Lib.hid (fun w => rcount_any 1 n w)
  have HP := Lib.hid (fun w he => parsefive_any s w he hm)
  have HW := Lib.hid (fun w => rwhole_any s 5 5 w hm (by decide) (by decide))
  have HM := Lib.hid (fun w => many_any s w hm)
  have hsz : ¬ (s.size : Int) > 100 := by omega
  have hl : s.data.toList.length = s.size := by simp
  have hle := lead_le s.data.toList
  rw [hl] at hle
  have HL := Lib.hid hl
  clear he ht hm hl
  have e0 : fvE n = 0 := by unfold fvE; rw [if_pos ha, if_neg (by omega)]
  have e1 : fvL n = ptL (ctN 1 n) 5 := if_pos e0
  obtain ⟨e2, -⟩ := five_put (c := ctN 1 n) (by omega) (by omega)
  rw [e1, e2, e0] at HF
  rw [ha] at HC
  have eb : (0 : Int) ≤ 0 ∧ (0 : Int) < 100 := by decide
  obtain ⟨v, hv⟩ := Int.eq_ofNat_of_zero_le (show 0 ≤ ctN 1 n by omega)
  rw [hv] at HC HF hr hr2
  rw [show ((v : Int)).natAbs = v from rfl] at HF
  have HR := Lib.hid (fun w => raw_any v 5 w (by omega) (by omega))
  clear ha e0 e1 e2 hv
  generalize (⟨(pad 5 (Lib.decDigits v)).toArray⟩ : ByteArray) = S at *
  have hn : ¬ is5 s.data.toList := fun h => hx (by have := h.1; rw [HL.out] at this; exact this)
  rw [show p5E s.data.toList = 2 from if_neg hn, show p5N s.data.toList = 0 from if_neg hn] at HP
  have b1 : ((s.size : Int) != 5) = true := bne_iff_ne.2 (by omega)
  clear hn hx HW HM
  clear HL
  go_enter Tryd.func5, Tryd.ntmps5
  go_wp2_with fail
  refine (HA.out).mono ?_
  rintro e w1 ⟨rfl, hb⟩
  have B1 := Lib.hid (hb)
  have E1 := Lib.hid (E0.out.below hb)
  have T1 := Lib.hid (T0.out.below hb)
  clear hb
  go_wp2_with fail
  refine (HF.out _ E1.out T1.out).mono ?_
  rintro e w2 ⟨rfl, hb⟩
  have B2 := Lib.hid (B1.out.trans (hb.mono B1.out.size))
  have E2 := Lib.hid (E1.out.below hb)
  clear hb
  go_wp2_with fail
  refine (HC.out _).mono ?_
  rintro e w3 ⟨rfl, hb⟩
  have B3 := Lib.hid (B2.out.trans (hb.mono B2.out.size))
  have E3 := Lib.hid (E2.out.below hb)
  clear hb
  go_wp2_with (first
    | (go_at_call 12; refine (num_any _ _ eb.1 eb.2).mono ?_; rintro e w' ⟨rfl, rfl⟩)
    | fail)
  refine (HR.out _).mono ?_
  rintro e w4 ⟨rfl, hb⟩
  have B4 := Lib.hid (B3.out.trans (hb.mono B3.out.size))
  have E4 := Lib.hid (E3.out.below hb)
  clear hb
  go_wp2_with (go_at_call 12; refine (num_any _ _ eb.1 eb.2).mono ?_; rintro e w' ⟨rfl, rfl⟩)
  refine (HP.out _ E4.out).mono ?_
  rintro e w5 ⟨rfl, hb⟩
  have B5 := Lib.hid (B4.out.trans (hb.mono B4.out.size))
  clear hb
  go_wp2_with (go_at_call 22; refine (is_any _ _ _ (by decide) (by decide)).mono ?_; rintro e w' ⟨rfl, rfl⟩)
  go_ret
  exact ⟨rfl, B5.out⟩

set_option maxRecDepth 100000 in
set_option maxHeartbeats 4000000 in
theorem fives_dy (n : Int) (s : ByteArray) (w : World) (he : Eps w) (ht : Tab w) (hs : s.size ≤ 100) (ha : ctE 1 n = 0) (hr : ¬ ctN 1 n < 0) (hr2 : ¬ ctN 1 n > 99999) (hx : s.size = 5) (hy : lead s.data.toList ≠ 5) :
    Calls Tryd.prog 5 #[.int .i64 n, .string s] w fun e w' => e = .returned (.bool true) ∧ Below w.heap.size w w' := by
  have HA := Lib.hid (malive_any w he)
  have E0 := Lib.hid he; have T0 := Lib.hid ht
  have hm : s.size ≤ maxLen := by unfold maxLen; omega
  have q0 := fun op t W x k => guard_ev op t W x k
  have q1 := fun W k => eql_ev W k
  have HF := Lib.hid (fun w he ht => five7_any n w he ht)
  have HC := Lib.hid (fun w => rcount_any 1 n w)
  have HP := Lib.hid (fun w he => parsefive_any s w he hm)
  have HW := Lib.hid (fun w => rwhole_any s 5 5 w hm (by decide) (by decide))
  have HM := Lib.hid (fun w => many_any s w hm)
  have hsz : ¬ (s.size : Int) > 100 := by omega
  have hl : s.data.toList.length = s.size := by simp
  have hle := lead_le s.data.toList
  rw [hl] at hle
  have HL := Lib.hid hl
  clear he ht hm hl
  have e0 : fvE n = 0 := by unfold fvE; rw [if_pos ha, if_neg (by omega)]
  have e1 : fvL n = ptL (ctN 1 n) 5 := if_pos e0
  obtain ⟨e2, -⟩ := five_put (c := ctN 1 n) (by omega) (by omega)
  rw [e1, e2, e0] at HF
  rw [ha] at HC
  have eb : (0 : Int) ≤ 0 ∧ (0 : Int) < 100 := by decide
  obtain ⟨v, hv⟩ := Int.eq_ofNat_of_zero_le (show 0 ≤ ctN 1 n by omega)
  rw [hv] at HC HF hr hr2
  rw [show ((v : Int)).natAbs = v from rfl] at HF
  have HR := Lib.hid (fun w => raw_any v 5 w (by omega) (by omega))
  clear ha e0 e1 e2 hv
  generalize (⟨(pad 5 (Lib.decDigits v)).toArray⟩ : ByteArray) = S at *
  have hn : ¬ is5 s.data.toList := fun h => hy h.2
  rw [show p5E s.data.toList = 2 from if_neg hn, show p5N s.data.toList = 0 from if_neg hn] at HP
  have b1 : ((s.size : Int) != 5) = false := bne_eq_false_iff_eq.2 (by omega)
  have b2 : ((lead s.data.toList : Int) != 5) = true := bne_iff_ne.2 (by omega)
  clear hn hx HW hy
  generalize lead s.data.toList = L at *
  clear HL
  go_enter Tryd.func5, Tryd.ntmps5
  go_wp2_with fail
  refine (HA.out).mono ?_
  rintro e w1 ⟨rfl, hb⟩
  have B1 := Lib.hid (hb)
  have E1 := Lib.hid (E0.out.below hb)
  have T1 := Lib.hid (T0.out.below hb)
  clear hb
  go_wp2_with fail
  refine (HF.out _ E1.out T1.out).mono ?_
  rintro e w2 ⟨rfl, hb⟩
  have B2 := Lib.hid (B1.out.trans (hb.mono B1.out.size))
  have E2 := Lib.hid (E1.out.below hb)
  clear hb
  go_wp2_with fail
  refine (HC.out _).mono ?_
  rintro e w3 ⟨rfl, hb⟩
  have B3 := Lib.hid (B2.out.trans (hb.mono B2.out.size))
  have E3 := Lib.hid (E2.out.below hb)
  clear hb
  go_wp2_with (first
    | (go_at_call 12; refine (num_any _ _ eb.1 eb.2).mono ?_; rintro e w' ⟨rfl, rfl⟩)
    | fail)
  refine (HR.out _).mono ?_
  rintro e w4 ⟨rfl, hb⟩
  have B4 := Lib.hid (B3.out.trans (hb.mono B3.out.size))
  have E4 := Lib.hid (E3.out.below hb)
  clear hb
  go_wp2_with (go_at_call 12; refine (num_any _ _ eb.1 eb.2).mono ?_; rintro e w' ⟨rfl, rfl⟩)
  refine (HP.out _ E4.out).mono ?_
  rintro e w5 ⟨rfl, hb⟩
  have B5 := Lib.hid (B4.out.trans (hb.mono B4.out.size))
  clear hb
  go_wp2_with (first
    | (go_at_call 21; refine (HM.out _).mono ?_; rintro e w' ⟨rfl, rfl⟩)
    | (go_at_call 22; refine (is_any _ _ _ (by decide) (by decide)).mono ?_; rintro e w' ⟨rfl, rfl⟩))
  go_ret
  exact ⟨rfl, B5.out⟩

set_option maxRecDepth 100000 in
set_option maxHeartbeats 4000000 in
theorem fives_dz (n : Int) (s : ByteArray) (w : World) (he : Eps w) (ht : Tab w) (hs : s.size ≤ 100) (ha : ctE 1 n = 0) (hr : ¬ ctN 1 n < 0) (hr2 : ¬ ctN 1 n > 99999) (hx : s.size = 5) (hy : lead s.data.toList = 5) :
    Calls Tryd.prog 5 #[.int .i64 n, .string s] w fun e w' => e = .returned (.bool true) ∧ Below w.heap.size w w' := by
  have HA := Lib.hid (malive_any w he)
  have E0 := Lib.hid he; have T0 := Lib.hid ht
  have hm : s.size ≤ maxLen := by unfold maxLen; omega
  have q0 := fun op t W x k => guard_ev op t W x k
  have q1 := fun W k => eql_ev W k
  have HF := Lib.hid (fun w he ht => five7_any n w he ht)
  have HC := Lib.hid (fun w => rcount_any 1 n w)
  have HP := Lib.hid (fun w he => parsefive_any s w he hm)
  have HW := Lib.hid (fun w => rwhole_any s 5 5 w hm (by decide) (by decide))
  have HM := Lib.hid (fun w => many_any s w hm)
  have hsz : ¬ (s.size : Int) > 100 := by omega
  have hl : s.data.toList.length = s.size := by simp
  have hle := lead_le s.data.toList
  rw [hl] at hle
  have HL := Lib.hid hl
  clear he ht hm hl
  have e0 : fvE n = 0 := by unfold fvE; rw [if_pos ha, if_neg (by omega)]
  have e1 : fvL n = ptL (ctN 1 n) 5 := if_pos e0
  obtain ⟨e2, -⟩ := five_put (c := ctN 1 n) (by omega) (by omega)
  rw [e1, e2, e0] at HF
  rw [ha] at HC
  have eb : (0 : Int) ≤ 0 ∧ (0 : Int) < 100 := by decide
  obtain ⟨v, hv⟩ := Int.eq_ofNat_of_zero_le (show 0 ≤ ctN 1 n by omega)
  rw [hv] at HC HF hr hr2
  rw [show ((v : Int)).natAbs = v from rfl] at HF
  have HR := Lib.hid (fun w => raw_any v 5 w (by omega) (by omega))
  clear ha e0 e1 e2 hv
  generalize (⟨(pad 5 (Lib.decDigits v)).toArray⟩ : ByteArray) = S at *
  have hn : is5 s.data.toList := ⟨HL.out.trans hx, hy⟩
  obtain ⟨f1, f2, f3⟩ := five_yes hn
  rw [show p5E s.data.toList = 0 from if_pos hn, show p5N s.data.toList = (dv s.data.toList : Int) - 40587 from if_pos hn] at HP
  rw [f1, f2] at HW
  have b1 : ((s.size : Int) != 5) = false := bne_eq_false_iff_eq.2 (by omega)
  have b2 : ((lead s.data.toList : Int) != 5) = false := bne_eq_false_iff_eq.2 (by omega)
  clear hn hx hy f1 f2
  generalize lead s.data.toList = L at *
  generalize dv s.data.toList = V at *
  clear HL
  go_enter Tryd.func5, Tryd.ntmps5
  go_wp2_with fail
  refine (HA.out).mono ?_
  rintro e w1 ⟨rfl, hb⟩
  have B1 := Lib.hid (hb)
  have E1 := Lib.hid (E0.out.below hb)
  have T1 := Lib.hid (T0.out.below hb)
  clear hb
  go_wp2_with fail
  refine (HF.out _ E1.out T1.out).mono ?_
  rintro e w2 ⟨rfl, hb⟩
  have B2 := Lib.hid (B1.out.trans (hb.mono B1.out.size))
  have E2 := Lib.hid (E1.out.below hb)
  clear hb
  go_wp2_with fail
  refine (HC.out _).mono ?_
  rintro e w3 ⟨rfl, hb⟩
  have B3 := Lib.hid (B2.out.trans (hb.mono B2.out.size))
  have E3 := Lib.hid (E2.out.below hb)
  clear hb
  go_wp2_with (first
    | (go_at_call 12; refine (num_any _ _ eb.1 eb.2).mono ?_; rintro e w' ⟨rfl, rfl⟩)
    | fail)
  refine (HR.out _).mono ?_
  rintro e w4 ⟨rfl, hb⟩
  have B4 := Lib.hid (B3.out.trans (hb.mono B3.out.size))
  have E4 := Lib.hid (E3.out.below hb)
  clear hb
  go_wp2_with (go_at_call 12; refine (num_any _ _ eb.1 eb.2).mono ?_; rintro e w' ⟨rfl, rfl⟩)
  refine (HP.out _ E4.out).mono ?_
  rintro e w5 ⟨rfl, hb⟩
  have B5 := Lib.hid (B4.out.trans (hb.mono B4.out.size))
  clear hb
  go_wp2_with (go_at_call 21; refine (HM.out _).mono ?_; rintro e w' ⟨rfl, rfl⟩)
  refine (HW.out _).mono ?_
  rintro e w6 ⟨rfl, hb⟩
  have B6 := Lib.hid (B5.out.trans (hb.mono B5.out.size))
  clear hb
  go_wp2_with fail
  go_ret
  exact ⟨rfl, B6.out⟩

theorem fives_walk (n : Int) (s : ByteArray) (w : World) (he : Eps w) (ht : Tab w) (hs : s.size ≤ maxLen) :
    Calls Tryd.prog 5 #[.int .i64 n, .string s] w fun e w' => e = .returned (.bool true) ∧ Below w.heap.size w w' := by
  by_cases g : (s.size : Int) > 100
  · exact fives_long n s w he g hs
  · have g : s.size ≤ 100 := by omega
    by_cases ha : ctE 1 n = 0
    · by_cases hr : ctN 1 n < 0
      · by_cases hx : s.size = 5
        · by_cases hy : lead s.data.toList = 5
          · exact fives_bz n s w he ht g ha hr hx hy
          · exact fives_by n s w he ht g ha hr hx hy
        · exact fives_bx n s w he ht g ha hr hx
      · by_cases hr2 : ctN 1 n > 99999
        · by_cases hx : s.size = 5
          · by_cases hy : lead s.data.toList = 5
            · exact fives_cz n s w he ht g ha hr hr2 hx hy
            · exact fives_cy n s w he ht g ha hr hr2 hx hy
          · exact fives_cx n s w he ht g ha hr hr2 hx
        · by_cases hx : s.size = 5
          · by_cases hy : lead s.data.toList = 5
            · exact fives_dz n s w he ht g ha hr hr2 hx hy
            · exact fives_dy n s w he ht g ha hr hr2 hx hy
          · exact fives_dx n s w he ht g ha hr hr2 hx
    · by_cases hx : s.size = 5
      · by_cases hy : lead s.data.toList = 5
        · exact fives_az n s w he ht g ha hx hy
        · exact fives_ay n s w he ht g ha hx hy
      · exact fives_ax n s w he ht g ha hx

end Go.Proofs.YtmfjfbofkkbmiaaDoor
