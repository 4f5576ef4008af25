/- Merged: GpsD. -/
import Derived.Test.YtjbbnlcghnjlfaaDoorGGpsWeeks26
import Derived.Test.YtjbbnlcghnjlfaaDoorGGpsWeeks27
import Derived.Test.YtjbbnlcghnjlfaaDoorGGpsWeeks42
import Derived.Test.YtjbbnlcghnjlfaaDoorGGpsWeeks43
import Derived.Test.YtjbbnlcghnjlfaaDoorGGpsWeeks44
namespace Go.Proofs.YtjbbnlcghnjlfaaDoor
open Go.RowKit
set_option linter.unusedVariables false
set_option linter.unusedSimpArgs false

theorem rgput_any (k s : Int) (w : World) (hk : fits k) (hs : 0 ≤ s) (h9 : s ≤ 999999) :
    Calls Tryd.prog 9 #[.int .i64 k, .int .i64 s] w fun e w' => e = .returned (.string ⟨(gpL k s).toArray⟩) ∧ Below w.heap.size w w' := by
  obtain ⟨n, rfl⟩ : ∃ n : Nat, s = (n : Int) := ⟨s.toNat, by omega⟩
  have D1 := Lib.hid (fun w => rput_any k 4 w hk (by decide))
  have D2 := Lib.hid (fun w => raw_any n 6 w (by omega) (by decide))
  have hfs : fits (n : Int) := by unfold fits; omega
  have es : ptL (n : Int) 6 = pad 6 (Lib.decDigits n) := by unfold ptL; rw [if_neg (by omega), if_neg (by omega)]; rfl
  have P : gpL k n = ptL k 4 ++ [58] ++ ptL n 6 := rfl
  have u1 := ptL14_len 4 hk; have u2 := ptL14_len 6 hfs
  rw [es] at P u2
  obtain ⟨X1, A1, A2⟩ := sums14 (ptL k 4) (pad 6 (Lib.decDigits n)) (by omega) (by omega)
  rw [← P] at A2
  have r1 : IntKind.i64.wrap (n : Int) = (n : Int) := IntWalk.i64_in _ (by omega)
  clear P u1 u2 hk hs h9 hfs es
  generalize gpL k n = L at *
  generalize ptL k 4 = l1 at *
  generalize pad 6 (Lib.decDigits n) = l2 at *
  go_enter Tryd.func9, Tryd.ntmps9
  go_wp2_with fail
  refine (D1.out _).mono ?_
  rintro e w2 ⟨rfl, hb⟩
  have B2 := Lib.hid hb; clear hb
  go_wp2_with fail
  refine (D2.out _).mono ?_
  rintro e w3 ⟨rfl, hb⟩
  have B3 := Lib.hid (B2.out.trans (hb.mono B2.out.size)); clear hb
  go_wp2_with fail
  go_ret
  exact ⟨rfl, B3.out⟩

set_option maxHeartbeats 3200000 in
theorem weeks_walk14 (t k s : Int) (w : World) (ht : fits t) (hk : fits k) (hs : fits s) (hT : Tab w) :
    Calls Tryd.prog 3 #[.int .i64 t, .int .i64 k, .int .i64 s] w fun e w' => e = .returned (.bool true) ∧ Below w.heap.size w w' := by
  have q0 := fun op t W x k => guard_ev op t W x k
  have q1 := fun W k => eql_ev W k
  have q2 := fun W k => neq_ev W k
  have HA := Lib.hid (fun w => alive14_any w)
  have H1 := Lib.hid (fun w => gof_any t w ht)
  have H2 := Lib.hid (fun w T => gput_any t w ht T)
  have H3 := Lib.hid (fun w => rgof_any t w ht)
  have ob := ow_bd t
  have H4 := Lib.hid (fun w => rgput_any (owN t) (owS t) w (owN_fits t) (by omega) (by omega))
  have H5 := Lib.hid (fun w => gtai_any k s w hk hs)
  have H6 := Lib.hid (fun w => rgtai_any k s w hk hs)
  have H7 := Lib.hid (fun w => gshort_any k w hk)
  have H8 := Lib.hid (fun w => rfold_any k 10 w hk (by decide))
  have HE := Lib.hid (taE_lo k s)
  have hf := fo_bd k 10
  rw [pw_10] at hf
  have r1 : IntKind.i64.wrap (fo k 10) = fo k 10 := IntWalk.i64_in _ (by omega)
  have HT := Lib.hid hT
  rcases owE_or t with c | c
  · have e1 : gtL t = gpL (owN t) (owS t) := if_pos c
    rw [e1] at H2
    rw [c] at H1 H2 H3
    clear c e1 ob hf hT ht hk hs
    generalize (⟨(gpL (owN t) (owS t)).toArray⟩ : ByteArray) = X at *
    generalize owN t = N at *
    generalize owS t = S at *
    generalize taE k s = E at *
    generalize taN k s = V at *
    generalize fo k 10 = F at *
    go_enter Tryd.func3, Tryd.ntmps3
    go_upto_region 11 with first
      | (go_at_call 5; refine (HA.out _).mono ?_; rintro e w' ⟨rfl, rfl⟩)
      | (go_at_call 6; refine (H1.out _).mono ?_; rintro e w' ⟨rfl, rfl⟩)
      | (go_at_call 7; refine (H2.out _ HT.out).mono ?_; rintro e w1 ⟨rfl, hb⟩; have B := Lib.hid hb; clear hb)
      | (go_at_call 8; refine (H3.out _).mono ?_; rintro e w2 ⟨rfl, hb⟩; have B := Lib.hid (B.out.trans (hb.mono B.out.size)); clear hb)
      | (go_at_call 9; refine (H4.out _).mono ?_; rintro e w3 ⟨rfl, hb⟩; have B := Lib.hid (B.out.trans (hb.mono B.out.size)); clear hb)
      | (go_at_call 10; refine (num_any 0 _ (by decide) (by decide)).mono ?_; rintro e w' ⟨rfl, rfl⟩)
    go_wp2_with first
      | (go_at_call 11; refine (H5.out _).mono ?_; rintro e w4 ⟨rfl, hb⟩; have B := Lib.hid (B.out.trans (hb.mono B.out.size)); clear hb)
      | (go_at_call 12; refine (H6.out _).mono ?_; rintro e w5 ⟨rfl, hb⟩; have B := Lib.hid (B.out.trans (hb.mono B.out.size)); clear hb)
      | (go_at_call 10; refine (num_any E _ HE.out.1 HE.out.2).mono ?_; rintro e w' ⟨rfl, rfl⟩)
      | (go_at_call 13; refine (H7.out _).mono ?_; rintro e w' ⟨rfl, rfl⟩)
      | (go_at_call 14; refine (H8.out _).mono ?_; rintro e w' ⟨rfl, rfl⟩)
    go_ret
    exact ⟨by simp, B.out⟩
  · have e1 : gtL t = [] := if_neg (by omega)
    rw [e1] at H2
    have e2 : (⟨([] : List UInt8).toArray⟩ : ByteArray) = ⟨#[]⟩ := rfl
    rw [e2] at H2
    rw [c] at H1 H2 H3
    clear c e1 e2 ob hf hT ht hk hs H4
    generalize owN t = N at *
    generalize owS t = S at *
    generalize taE k s = E at *
    generalize taN k s = V at *
    generalize fo k 10 = F at *
    go_enter Tryd.func3, Tryd.ntmps3
    go_upto_region 11 with first
      | (go_at_call 5; refine (HA.out _).mono ?_; rintro e w' ⟨rfl, rfl⟩)
      | (go_at_call 6; refine (H1.out _).mono ?_; rintro e w' ⟨rfl, rfl⟩)
      | (go_at_call 7; refine (H2.out _ HT.out).mono ?_; rintro e w1 ⟨rfl, hb⟩; have B := Lib.hid hb; clear hb)
      | (go_at_call 8; refine (H3.out _).mono ?_; rintro e w2 ⟨rfl, hb⟩; have B := Lib.hid (B.out.trans (hb.mono B.out.size)); clear hb)
      | (go_at_call 10; refine (num_any 5 _ (by decide) (by decide)).mono ?_; rintro e w' ⟨rfl, rfl⟩)
    go_wp2_with first
      | (go_at_call 11; refine (H5.out _).mono ?_; rintro e w4 ⟨rfl, hb⟩; have B := Lib.hid (B.out.trans (hb.mono B.out.size)); clear hb)
      | (go_at_call 12; refine (H6.out _).mono ?_; rintro e w5 ⟨rfl, hb⟩; have B := Lib.hid (B.out.trans (hb.mono B.out.size)); clear hb)
      | (go_at_call 10; refine (num_any E _ HE.out.1 HE.out.2).mono ?_; rintro e w' ⟨rfl, rfl⟩)
      | (go_at_call 13; refine (H7.out _).mono ?_; rintro e w' ⟨rfl, rfl⟩)
      | (go_at_call 14; refine (H8.out _).mono ?_; rintro e w' ⟨rfl, rfl⟩)
    go_ret
    exact ⟨by simp, B.out⟩
end Go.Proofs.YtjbbnlcghnjlfaaDoor
