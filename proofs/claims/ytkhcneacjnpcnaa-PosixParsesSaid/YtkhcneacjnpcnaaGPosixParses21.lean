/- Merged: PosK, ScanH, RulC, RulD. -/
import Derived.Test.YtkhcneacjnpcnaaGPosixParses19
import Derived.Test.YtkhcneacjnpcnaaGPosixParses20
import Derived.Test.YtkhcneacjnpcnaaGPosixParses15
import Derived.Test.YtkhcneacjnpcnaaGPosixParses17
import Derived.Deep.RegionHeld3
import Derived.Deep.QuietTactic
import Derived.Deep.DeepCutAuto
namespace Go.Proofs.Ytkhcneacjnpcnaa
open Go.RowKit
set_option linter.unusedVariables false
set_option linter.unusedSimpArgs false

theorem dletter_any (b : UInt8) (w : World) : Calls Try.prog 30 #[.int .u8 (b.toNat : Int)] w fun x w' => x = .returned (.bool (ltB b)) ∧ w = w' := by
  unfold ltB
  cases h1 : decide (65 ≤ (b.toNat : Int)) <;> cases h2 : decide ((b.toNat : Int) ≤ 90) <;> cases h3 : decide (97 ≤ (b.toNat : Int))
  all_goals
    go_enter Try.func30, Try.ntmps30
    go_wp2
    go_ret
    first | exact ⟨rfl, rfl⟩ | exact ⟨ret1_eq (bool_eq (by simp)), rfl⟩
theorem dfigure_any (b : UInt8) (w : World) : Calls Try.prog 31 #[.int .u8 (b.toNat : Int)] w fun x w' => x = .returned (.bool (isd b)) ∧ w = w' := by
  have e : isd b = (decide (48 ≤ (b.toNat : Int)) && decide ((b.toNat : Int) ≤ 57)) := by
    unfold isd
    rw [Bool.eq_iff_iff]; simp only [Bool.and_eq_true, decide_eq_true_eq]; omega
  rw [e]; clear e
  cases h1 : decide (48 ≤ (b.toNat : Int)) <;> cases h2 : decide ((b.toNat : Int) ≤ 57)
  all_goals
    go_enter Try.func31, Try.ntmps31
    go_wp2
    go_ret
    first | exact ⟨rfl, rfl⟩ | exact ⟨ret1_eq (bool_eq (by simp)), rfl⟩
/-- A byte's tests. -/
theorem byte_eq (b c : UInt8) : ((b.toNat : Int) == (c.toNat : Int)) = (b == c) ∧ ((b.toNat : Int) != (c.toNat : Int)) = !(b == c) := by
  have : ((b.toNat : Int) = (c.toNat : Int)) ↔ b = c := ⟨fun h => UInt8.toNat_inj.1 (by omega), fun h => by rw [h]⟩
  constructor
  · rw [Bool.eq_iff_iff]; simp [this]
  · rw [Bool.eq_iff_iff]; simp [this]
set_option maxHeartbeats 4000000 in
theorem dname_any (s : ByteArray) (w : World) (hs : s.size ≤ 100000) :
    Calls Try.prog 29 #[.string s] w fun x w' => x = .returned (.bool (nmP s.data.toList)) ∧ w = w' := by
  have hsz : s.data.toList.length = s.size := by simp
  have hq : nmP s.data.toList = (decide (3 ≤ s.size) && (decide (s.size ≤ 16) && s.data.toList.all nmB)) := by unfold nmP; rw [hsz]
  obtain ⟨R, hR⟩ : ∃ R, R = nmP s.data.toList := ⟨_, rfl⟩
  rw [← hR]
  rw [hq] at hR
  have HL := Lib.hid (fun b w => dletter_any b w)
  have HG := Lib.hid (fun b w => dfigure_any b w)
  have HZ := Lib.hid hsz; have HR := Lib.hid hR
  clear hsz hq hR
  go_enter Try.func29, Try.ntmps29
  go_wp2
  go_loop [3] (fun i => ∃ j : Nat, i = .int .i64 j ∧ j ≤ s.size ∧ Hid (s.data.toList.all nmB = (s.data.toList.drop j).all nmB)) (fun i => s.size - (intOf i).toNat)
  case atStart => exact ⟨0, rfl, Nat.zero_le _, by show _ = _; rw [List.drop_zero]⟩
  case round =>
    obtain ⟨j, rfl, hj, HJ⟩ := hrel
    by_cases hlt : j < s.size
    · have hst := all_step (p := nmB) (l := s.data.toList) (i := j) (by rw [HZ.out]; exact hlt)
      have hst2 : (s.data.toList.drop j).all nmB = (nmB s[j] && (s.data.toList.drop (j + 1)).all nmB) := hst
      have HLL := Lib.hid (fun w => dletter_any s[j] w)
      have HGG := Lib.hid (fun w => dfigure_any s[j] w)
      have b1 := (byte_eq s[j] 43).2
      have b2 := (byte_eq s[j] 45).2
      rw [show ((43 : UInt8).toNat : Int) = 43 from rfl] at b1
      rw [show ((45 : UInt8).toNat : Int) = 45 from rfl] at b2
      have hn : nmB s[j] = (ltB s[j] || (isd s[j] || (s[j] == 43 || s[j] == 45))) := rfl
      have HST := Lib.hid hst2
      have HN := Lib.hid hn
      generalize ltB s[j] = x1 at *
      generalize isd s[j] = x2 at *
      generalize (s[j] == 43) = x3 at *
      generalize (s[j] == 45) = x4 at *
      clear hst hst2 hn
      cases x1 with
      | true =>
        have hr : s.data.toList.all nmB = (s.data.toList.drop (j + 1)).all nmB := by rw [HJ.out, HST.out, HN.out]; simp
        have HR2 := Lib.hid hr
        clear hr b1 b2
        go_wp2_with (go_at_call 30; refine (HLL.out _).mono ?_; rintro x w' ⟨rfl, rfl⟩)
        go_round
        case rel => exact ⟨j + 1, by go_num, by omega, HR2⟩
        case measure => simp [intOf]; omega
      | false =>
        cases x2 with
        | true =>
          have hr : s.data.toList.all nmB = (s.data.toList.drop (j + 1)).all nmB := by rw [HJ.out, HST.out, HN.out]; simp
          have HR2 := Lib.hid hr
          clear hr b1 b2
          go_wp2_with (first
            | (go_at_call 30; refine (HLL.out _).mono ?_; rintro x w' ⟨rfl, rfl⟩)
            | (go_at_call 31; refine (HGG.out _).mono ?_; rintro x w' ⟨rfl, rfl⟩))
          go_round
          case rel => exact ⟨j + 1, by go_num, by omega, HR2⟩
          case measure => simp [intOf]; omega
        | false =>
          cases x3 with
          | true =>
            have hr : s.data.toList.all nmB = (s.data.toList.drop (j + 1)).all nmB := by rw [HJ.out, HST.out, HN.out]; simp
            have HR2 := Lib.hid hr
            have b1' : ((s[j].toNat : Int) != 43) = false := b1
            clear hr b1 b2
            go_wp2_with (first
              | (go_at_call 30; refine (HLL.out _).mono ?_; rintro x w' ⟨rfl, rfl⟩)
              | (go_at_call 31; refine (HGG.out _).mono ?_; rintro x w' ⟨rfl, rfl⟩))
            go_round
            case rel => exact ⟨j + 1, by go_num, by omega, HR2⟩
            case measure => simp [intOf]; omega
          | false =>
            have b1' : ((s[j].toNat : Int) != 43) = true := b1
            cases x4 with
            | true =>
              have hr : s.data.toList.all nmB = (s.data.toList.drop (j + 1)).all nmB := by rw [HJ.out, HST.out, HN.out]; simp
              have HR2 := Lib.hid hr
              have b2' : ((s[j].toNat : Int) != 45) = false := b2
              clear hr b1 b2
              go_wp2_with (first
                | (go_at_call 30; refine (HLL.out _).mono ?_; rintro x w' ⟨rfl, rfl⟩)
                | (go_at_call 31; refine (HGG.out _).mono ?_; rintro x w' ⟨rfl, rfl⟩))
              go_round
              case rel => exact ⟨j + 1, by go_num, by omega, HR2⟩
              case measure => simp [intOf]; omega
            | false =>
              have hr : R = false := by rw [HR.out, HJ.out, HST.out, HN.out]; simp
              subst hr
              have b2' : ((s[j].toNat : Int) != 45) = true := b2
              clear b1 b2
              go_wp2_with (first
                | (go_at_call 30; refine (HLL.out _).mono ?_; rintro x w' ⟨rfl, rfl⟩)
                | (go_at_call 31; refine (HGG.out _).mono ?_; rintro x w' ⟨rfl, rfl⟩))
              go_ret
              exact ⟨rfl, rfl⟩
    · have hr : s.data.toList.all nmB = true := by rw [HJ.out]; exact all_end (by rw [HZ.out]; omega)
      have hR2 : R = (decide (3 ≤ s.size) && decide (s.size ≤ 16)) := by rw [HR.out, hr, Bool.and_true]
      have e1 : decide (3 ≤ s.size) = decide ((3 : Int) ≤ (s.size : Int)) := by rw [decide_eq_decide]; omega
      have e2 : decide (s.size ≤ 16) = decide ((s.size : Int) ≤ 16) := by rw [decide_eq_decide]; omega
      rw [e1, e2] at hR2
      clear e1 e2 hr
      cases h3 : decide ((3 : Int) ≤ (s.size : Int)) <;> cases h4 : decide ((s.size : Int) ≤ 16)
      all_goals
        rw [h3, h4] at hR2
        first | rw [Bool.true_and] at hR2 | rw [Bool.false_and] at hR2
        subst hR2
        go_wp2
        go_ret
        exact ⟨rfl, rfl⟩
end Go.Proofs.Ytkhcneacjnpcnaa

namespace Go.Proofs.Ytkhcneacjnpcnaa
open Go.RowKit
set_option linter.unusedVariables false

theorem box_cell (w : World) (v : Value) (T : TypeId) : (w.alloc (.cells #[v] T)).cell? ⟨w.heap.size, 0, none⟩ = some v := by
  have h := heap_alloc_new w (.cells #[v] T (0, 0))
  unfold World.cell?
  rw [h]; rfl
set_option maxHeartbeats 800000 in
theorem run_s (g k : Nat) (e : Int) (v : Value) (s of : ByteArray) (w : World) (h : Sk Ts w g v k e) (ht : Txs w g v s) (hk : k ≤ s.size) (hs : s.size ≤ 100000) :
    Calls Try.prog 38 #[.pointer (some ⟨g, 0, none⟩), .string of] w fun x w' =>
      x = .returned (.string ⟨((rs s.data.toList k e).take (tw (inB of.data.toList) (rs s.data.toList k e))).toArray⟩) ∧ Mv Ts g v (k + tw (inB of.data.toList) (rs s.data.toList k e)) e w w' := by
  have hlt := h.lt
  have hB : (w.alloc (.cells #[.string of] 9)).cell? ⟨w.heap.size, 0, none⟩ = some (.string of) := box_cell w _ _
  have HW := whileRun_s w.heap.size (.string of) (inB of.data.toList) (fun c w1 h1 => run1_s of w.heap.size c w1 h1) g k e v s _ (h.alloc (.cells #[.string of] 9)) (ht.kept (gb_alloc (gb_refl _ _) _)) hk hs hB (by omega)
  have HWH := Lib.hid HW
  clear HW hB h ht hlt
  go_enter Try.func38, Try.ntmps38
  go_wp2_with (go_at_call 49; refine HWH.out.mono ?_; rintro x w' ⟨rfl, hm⟩; have HM := Lib.hid hm; clear hm)
  go_ret
  exact ⟨rfl, HM.out.1, (gb_alloc (gb_refl _ _) _).trans HM.out.2⟩
set_option maxHeartbeats 800000 in
theorem until_s (g k : Nat) (e : Int) (v : Value) (s : ByteArray) (c : UInt8) (w : World) (h : Sk Ts w g v k e) (ht : Txs w g v s) (hk : k ≤ s.size) (hs : s.size ≤ 100000) :
    Calls Try.prog 36 #[.pointer (some ⟨g, 0, none⟩), .int .u8 (c.toNat : Int)] w fun x w' =>
      x = .returned (.string ⟨((rs s.data.toList k e).take (tw (noB c) (rs s.data.toList k e))).toArray⟩) ∧ Mv Ts g v (k + tw (noB c) (rs s.data.toList k e)) e w w' := by
  have hlt := h.lt
  have hB : (w.alloc (.cells #[.int .u8 (c.toNat : Int)] 5)).cell? ⟨w.heap.size, 0, none⟩ = some (.int .u8 (c.toNat : Int)) := box_cell w _ _
  have HW := whileUntil_s w.heap.size (.int .u8 (c.toNat : Int)) (noB c) (fun b w1 h1 => until1_s c w.heap.size b w1 h1) g k e v s _ (h.alloc (.cells #[.int .u8 (c.toNat : Int)] 5)) (ht.kept (gb_alloc (gb_refl _ _) _)) hk hs hB (by omega)
  have HWH := Lib.hid HW
  clear HW hB h ht hlt
  go_enter Try.func36, Try.ntmps36
  go_wp2_with (go_at_call 49; refine HWH.out.mono ?_; rintro x w' ⟨rfl, hm⟩; have HM := Lib.hid hm; clear hm)
  go_ret
  exact ⟨rfl, HM.out.1, (gb_alloc (gb_refl _ _) _).trans HM.out.2⟩
end Go.Proofs.Ytkhcneacjnpcnaa

namespace Go.Proofs.Ytkhcneacjnpcnaa
open Go.RowKit
set_option linter.unusedVariables false
set_option linter.unusedSimpArgs false

/-- A clock's block. -/
def Ck (w : World) (p : Nat) (n : Bool) (h m s : Int) : Prop := w.heap[p]? = some (.cells (clC n h m s) 88 (0, 0))
theorem Ck.lt {w : World} {p : Nat} {n : Bool} {h m s : Int} (k : Ck w p n h m s) : p < w.heap.size := bk_lt k
theorem Ck.keep {w w' : World} {p : Nat} {n : Bool} {h m s : Int} (k : Ck w p n h m s) (hb : Below w.heap.size w w') : Ck w' p n h m s := (hb.block p k.lt).trans k
theorem Ck.all {w : World} {p : Nat} {n : Bool} {h m s : Int} (k : Ck w p n h m s) : w.cell? ⟨p, 0, none⟩ = some (.bool n) ∧ w.cell? ⟨p, 1, none⟩ = some (.int .i64 h) ∧ w.cell? ⟨p, 2, none⟩ = some (.int .i64 m) ∧ w.cell? ⟨p, 3, none⟩ = some (.int .i64 s) :=
  ⟨bk_cell k 0, bk_cell k 1, bk_cell k 2, bk_cell k 3⟩
theorem pt2 {n : Int} (h : 0 ≤ n) : ptL n 2 = pad 2 (Lib.decDigits n.natAbs) := pt_is (k := 2) h (by omega)
theorem ba_size {S : ByteArray} {l : List UInt8} (h : S = ⟨l.toArray⟩) : S.size = l.length ∧ S.data.toList = l := by subst h; rw [Lib.size_mk]; exact ⟨rfl, by simp⟩

end Go.Proofs.Ytkhcneacjnpcnaa

namespace Go.Proofs.Ytkhcneacjnpcnaa
open Go.RowKit
set_option linter.unusedVariables false
set_option linter.unusedSimpArgs false

/-- What a drawn region keeps: all that was there. -/
structure Kq16 (W0 W : World) : Prop where
  bel : Below W0.heap.size W0 W
theorem Kq16.step {W0 W W' : World} (h : Kq16 W0 W) (hb : Below W.heap.size W W') : Kq16 W0 W' := ⟨h.bel.trans (hb.mono h.bel.size)⟩
/-! a rule's day -/
/-! clock times -/
end Go.Proofs.Ytkhcneacjnpcnaa
