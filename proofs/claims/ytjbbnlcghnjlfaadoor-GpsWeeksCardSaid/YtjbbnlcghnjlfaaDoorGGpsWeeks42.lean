/- Merged: GpsC. -/
import Derived.Test.YtjbbnlcghnjlfaaDoorGGpsWeeks10
import Derived.Test.YtjbbnlcghnjlfaaDoorGGpsWeeks39
import Derived.Test.YtjbbnlcghnjlfaaDoorGGpsWeeks41
import Derived.Deep.RegionHeld3
import Derived.Deep.RegionWith
namespace Go.Proofs.YtjbbnlcghnjlfaaDoor
open Go.RowKit
set_option linter.unusedVariables false
set_option linter.unusedSimpArgs false

theorem Bx.at {w w' : World} {p : Nat} {z : Int} {k : Nat} {b : Bool} {A : Option Addr} {n c : Nat} (h : Bx w p z k) (hb : Below w.heap.size w w') (c0 : w.cell? ⟨p, 0, none⟩ = some (.bool b)) (c1 : w.cell? ⟨p, 1, none⟩ = some (.slice A n c)) :
    w'.cell? ⟨p, 0, none⟩ = some (.bool b) ∧ w'.cell? ⟨p, 1, none⟩ = some (.slice A n c) ∧ w'.frozen? ⟨p, 0, none⟩ = false ∧ w'.frozen? ⟨p, 1, none⟩ = false := by
  obtain ⟨b', A', n', c', h1, h2⟩ := h
  have h3 := (hb.block _ (whole_lt h1)).trans h1
  exact ⟨(hb.cell (p := ⟨p, 0, none⟩) (whole_lt h1)).trans c0, (hb.cell (p := ⟨p, 1, none⟩) (whole_lt h1)).trans c1, whole_free h3 0, whole_free h3 1⟩
theorem Bx.kept14 {w : World} {p : Nat} {z : Int} {k : Nat} (h : Bx w p z k) : ∃ (b : Bool) (A : Option Addr) (n c : Nat), BV w (.agg #[.bool b, .slice A n c]) z k ∧ ∀ w', Below w.heap.size w w' → w'.cell? ⟨p, 0, none⟩ = some (.bool b) ∧ w'.cell? ⟨p, 1, none⟩ = some (.slice A n c) := by
  obtain ⟨b, A, n, c, h1, h2⟩ := h
  exact ⟨b, A, n, c, h2, fun w' hb => ⟨whole_cell ((hb.block _ (whole_lt h1)).trans h1) 0, whole_cell ((hb.block _ (whole_lt h1)).trans h1) 1⟩⟩
theorem rbegin_any (w : World) : Calls Tryd.prog 24 #[] w fun e w' => e = .returned (.int .i64 315964819) ∧ Below w.heap.size w w' := by
  have HO := Lib.hid (fun w => rof_any 1980 1 6 w (by decide) (by decide) (by decide) (by decide) (by decide))
  rw [show st 1980 + em 1980 (1 - 1) + 6 - 1 = 3657 by decide] at HO
  go_enter Tryd.func24, Tryd.ntmps24
  go_wp2_with (go_at_call 46; refine (HO.out _).mono ?_; rintro e w1 ⟨rfl, hb⟩; have B := Lib.hid hb; clear hb)
  go_ret
  exact ⟨rfl, B.out⟩

set_option maxHeartbeats 2000000 in
theorem rgof_any (t : Int) (w : World) (ht : fits t) :
    Calls Tryd.prog 8 #[.int .i64 t] w fun e w' => e = .returned (.tuple #[.int .i64 (owN t), .int .i64 (owS t), .int .i64 (owE t)]) ∧ Below w.heap.size w w' := by
  have H1 := Lib.hid (fun w => of_any t w ht)
  have HB := Lib.hid (fun w => rbegin_any w)
  have H2 := Lib.hid (fun w => of_any 315964819 w (by decide))
  have H3 := Lib.hid (fun v w h => minus_big v 315964819 4 w h (by decide))
  have H4 := Lib.hid (fun v u w h h' => plus_big v u t (-315964819) 4 4 w h h' (by decide) (by decide))
  have H5 := Lib.hid (fun v w h => small_any v (t + -315964819) 5 w h (by decide))
  rw [show t + -315964819 = t - 315964819 by omega] at H4 H5
  have arms : True := trivial
  by_cases h : fits (t - 315964819)
  · obtain ⟨e0, e1, e2⟩ := ow_yes h
    rw [e0, e1, e2]
    rw [sm_fit h, bad_fit h] at H5
    have tr := @ow_trunc (t - 315964819)
    have hq := tdm (t - 315964819) 604800
    have hr := tmod_sgn (t - 315964819) 604800 (by decide)
    unfold fits at h
    have b1 : -604800 < (t - 315964819).tmod 604800 := by have := hr.2.2.1 (by decide); omega
    have b2 : (t - 315964819).tmod 604800 < 604800 := by have := hr.2.2.1 (by decide); omega
    clear e0 e1 e2 hr
    generalize (t - 315964819) / 604800 = Q at *
    generalize (t - 315964819) % 604800 = R at *
    generalize hqd : (t - 315964819).tdiv 604800 = q at *
    generalize hrd : (t - 315964819).tmod 604800 = r at *
    generalize t - 315964819 = S at *
    have r1 : wrap64 q = q := wrap64_fit (by unfold fits; omega)
    have R1 := Lib.hid r1
    have r2 : IntKind.i64.wrap (r + 604800) = r + 604800 := IntWalk.i64_in _ (by omega)
    have r3 : IntKind.i64.wrap (q - 1) = q - 1 := IntWalk.i64_in _ (by omega)
    have r4 : IntKind.i64.wrap (r + 604800) = r + 604800 := r2
    have r5 : IntKind.i64.wrap r = r := IntWalk.i64_in _ (by omega)
    clear h hq ht arms
    rcases tr with ⟨c, hQ, hR⟩ | ⟨c, hQ, hR⟩ <;> rw [hQ, hR] <;> clear hQ hR Q R
    · have d1 : decide (r < 0) = true := decide_eq_true c
      clear c b1 b2
      go_enter Tryd.func8, Tryd.ntmps8
      go_wp2_with first
        | (go_at_call_of 22 (Value.int IntKind.i64 315964819); refine (H2.out _).mono ?_; rintro e w3 ⟨v3, rfl, b3, hb⟩; have V3 := Lib.hid b3; have V1 := Lib.hid (V1.out.below hb); have B := Lib.hid (B.out.trans (hb.mono B.out.size)); clear b3 hb)
        | (go_at_call 22; refine (H1.out _).mono ?_; rintro e w1 ⟨v1, rfl, b1, hb⟩; have V1 := Lib.hid b1; have B := Lib.hid hb; clear b1 hb)
        | (go_at_call 24; refine (HB.out _).mono ?_; rintro e w2 ⟨rfl, hb⟩; have V1 := Lib.hid (V1.out.below hb); have B := Lib.hid (B.out.trans (hb.mono B.out.size)); clear hb)
        | (go_at_call 23; refine (H3.out _ _ V3.out).mono ?_; rintro e w4 ⟨v4, rfl, b4, hb⟩; have V4 := Lib.hid b4; have V1 := Lib.hid (V1.out.below hb); have B := Lib.hid (B.out.trans (hb.mono B.out.size)); clear b4 hb)
        | (go_at_call 21; refine (H4.out _ _ _ V1.out V4.out).mono ?_; rintro e w5 ⟨v5, rfl, b5, hb⟩; have V5 := Lib.hid b5; have B := Lib.hid (B.out.trans (hb.mono B.out.size)); clear b5 hb)
        | (go_at_call 20; refine (H5.out _ _ V5.out).mono ?_; rintro e w6 ⟨rfl, hb⟩; have B := Lib.hid (B.out.trans (hb.mono B.out.size)); clear hb)
      go_ret3
      exact ⟨rfl, B.out⟩
    · have d1 : decide (r < 0) = false := decide_eq_false c
      clear c b1 b2
      go_enter Tryd.func8, Tryd.ntmps8
      go_wp2_with first
        | (go_at_call_of 22 (Value.int IntKind.i64 315964819); refine (H2.out _).mono ?_; rintro e w3 ⟨v3, rfl, b3, hb⟩; have V3 := Lib.hid b3; have V1 := Lib.hid (V1.out.below hb); have B := Lib.hid (B.out.trans (hb.mono B.out.size)); clear b3 hb)
        | (go_at_call 22; refine (H1.out _).mono ?_; rintro e w1 ⟨v1, rfl, b1, hb⟩; have V1 := Lib.hid b1; have B := Lib.hid hb; clear b1 hb)
        | (go_at_call 24; refine (HB.out _).mono ?_; rintro e w2 ⟨rfl, hb⟩; have V1 := Lib.hid (V1.out.below hb); have B := Lib.hid (B.out.trans (hb.mono B.out.size)); clear hb)
        | (go_at_call 23; refine (H3.out _ _ V3.out).mono ?_; rintro e w4 ⟨v4, rfl, b4, hb⟩; have V4 := Lib.hid b4; have V1 := Lib.hid (V1.out.below hb); have B := Lib.hid (B.out.trans (hb.mono B.out.size)); clear b4 hb)
        | (go_at_call 21; refine (H4.out _ _ _ V1.out V4.out).mono ?_; rintro e w5 ⟨v5, rfl, b5, hb⟩; have V5 := Lib.hid b5; have B := Lib.hid (B.out.trans (hb.mono B.out.size)); clear b5 hb)
        | (go_at_call 20; refine (H5.out _ _ V5.out).mono ?_; rintro e w6 ⟨rfl, hb⟩; have B := Lib.hid (B.out.trans (hb.mono B.out.size)); clear hb)
      go_ret3
      exact ⟨ret3_eq (int_eq R1.out) rfl rfl, B.out⟩
  · obtain ⟨e0, e1, e2⟩ := ow_no h
    rw [e0, e1, e2]
    rw [sm_no h, bad_no h] at H5
    clear h e0 e1 e2 ht
    go_enter Tryd.func8, Tryd.ntmps8
    go_wp2_with first
      | (go_at_call_of 22 (Value.int IntKind.i64 315964819); refine (H2.out _).mono ?_; rintro e w3 ⟨v3, rfl, b3, hb⟩; have V3 := Lib.hid b3; have V1 := Lib.hid (V1.out.below hb); have B := Lib.hid (B.out.trans (hb.mono B.out.size)); clear b3 hb)
      | (go_at_call 22; refine (H1.out _).mono ?_; rintro e w1 ⟨v1, rfl, b1, hb⟩; have V1 := Lib.hid b1; have B := Lib.hid hb; clear b1 hb)
      | (go_at_call 24; refine (HB.out _).mono ?_; rintro e w2 ⟨rfl, hb⟩; have V1 := Lib.hid (V1.out.below hb); have B := Lib.hid (B.out.trans (hb.mono B.out.size)); clear hb)
      | (go_at_call 23; refine (H3.out _ _ V3.out).mono ?_; rintro e w4 ⟨v4, rfl, b4, hb⟩; have V4 := Lib.hid b4; have V1 := Lib.hid (V1.out.below hb); have B := Lib.hid (B.out.trans (hb.mono B.out.size)); clear b4 hb)
      | (go_at_call 21; refine (H4.out _ _ _ V1.out V4.out).mono ?_; rintro e w5 ⟨v5, rfl, b5, hb⟩; have V5 := Lib.hid b5; have B := Lib.hid (B.out.trans (hb.mono B.out.size)); clear b5 hb)
      | (go_at_call 20; refine (H5.out _ _ V5.out).mono ?_; rintro e w6 ⟨rfl, hb⟩; have B := Lib.hid (B.out.trans (hb.mono B.out.size)); clear hb)
    go_ret3
    exact ⟨rfl, B.out⟩

set_option maxHeartbeats 2000000 in
theorem rgtai_range (k s : Int) (w : World) (h : s < 0 ∨ 604799 < s) :
    Calls Tryd.prog 12 #[.int .i64 k, .int .i64 s] w fun e w' => e = .returned (.tuple #[.int .i64 (taN k s), .int .i64 (taE k s)]) ∧ Below w.heap.size w w' := by
  obtain ⟨e1, e2⟩ := ta_range (w := k) h
  rw [e1, e2]
  rcases h with h | h
  · have d1 : decide (s < 0) = true := decide_eq_true h
    clear h e1 e2
    go_enter Tryd.func12, Tryd.ntmps12
    go_wp2
    go_ret2
    exact ⟨rfl, Below.refl _ _⟩
  · have d1 : decide (s < 0) = false := decide_eq_false (by omega)
    have d2 : decide (604799 < s) = true := decide_eq_true h
    clear h e1 e2
    go_enter Tryd.func12, Tryd.ntmps12
    go_wp2
    go_ret2
    exact ⟨rfl, Below.refl _ _⟩

set_option maxRecDepth 100000 in
set_option maxHeartbeats 4000000 in
theorem rgtai_no1 (k s : Int) (w : World) (hk : fits k) (hs : fits s) (h : ¬ (s < 0 ∨ 604799 < s)) (h1 : ¬ fits (k * 604800)) :
    Calls Tryd.prog 12 #[.int .i64 k, .int .i64 s] w fun e w' => e = .returned (.tuple #[.int .i64 0, .int .i64 5]) ∧ Below w.heap.size w w' := by
  have d1 : decide (s < 0) = false := decide_eq_false (by omega)
  have d2 : decide (604799 < s) = false := decide_eq_false (by omega)
  have HK := Lib.hid (fun w => of_any k w hk)
  have HL := Lib.hid (fun w => of_any 604800 w (by decide))
  have HM := Lib.hid (fun v u w h h' => times_big v u k 604800 4 4 w h h' (by decide) (by decide))
  have HS := Lib.hid (fun v w h => small_any v (k * 604800) 9 w h (by decide))
  rw [sm_no h1, bad_no h1] at HS
  clear h h1 hk hs
  generalize k * 604800 = M at *
  go_enter Tryd.func12, Tryd.ntmps12
  go_upto_region 4 with first
    | (go_at_call_of 22 (Value.int IntKind.i64 604800); refine (HL.out _).mono ?_; rintro e w2 ⟨v2, rfl, b2, hb⟩; have V2 := Lib.hid b2; have V1 := Lib.hid (V1.out.below hb); have B := Lib.hid (B.out.trans (hb.mono B.out.size)); clear b2 hb)
    | (go_at_call 22; refine (HK.out _).mono ?_; rintro e w1 ⟨v1, rfl, b1, hb⟩; have V1 := Lib.hid b1; have B := Lib.hid hb; clear b1 hb)
    | (go_at_call 29; refine (HM.out _ _ _ V1.out V2.out).mono ?_; rintro e w3 ⟨v3, rfl, b3, hb⟩; obtain ⟨s3, A3, n3, c3, rfl⟩ := b3.open_; have V3 := Lib.hid b3; have B := Lib.hid (B.out.trans (hb.mono B.out.size)); clear b3 hb)
  have X := Bx.new V3.out
  have hb := bel_al w3 #[.bool s3, .slice A3 n3 c3] 49
  have hg := Lib.hid B.out.size
  replace B := Lib.hid (B.out.trans (hb.mono B.out.size))
  clear hb V3
  generalize World.alloc w3 _ = W4 at *
  replace X := Lib.hid X
  obtain ⟨g, hgd⟩ : ∃ g, g = w3.heap.size := ⟨_, rfl⟩
  rw [← hgd] at hg X ⊢
  clear hgd w3
  obtain ⟨y0, Y0, n0, m0, c0, c1, f0, f1, VN⟩ := X.out.cells
  replace VN := Lib.hid VN
  go_wp2_with (go_at_call 20; refine (HS.out _ _ VN.out).mono ?_; rintro e w5 ⟨rfl, hb⟩; have B := Lib.hid (B.out.trans (hb.mono B.out.size)); clear hb)
  go_ret2
  exact ⟨rfl, B.out⟩
set_option maxRecDepth 100000 in
set_option maxHeartbeats 4000000 in
theorem rgtai_no2 (k s : Int) (w : World) (hk : fits k) (hs : fits s) (h : ¬ (s < 0 ∨ 604799 < s)) (h1 : fits (k * 604800)) (h2 : ¬ fits (k * 604800 + s)) :
    Calls Tryd.prog 12 #[.int .i64 k, .int .i64 s] w fun e w' => e = .returned (.tuple #[.int .i64 0, .int .i64 5]) ∧ Below w.heap.size w w' := by
  have d1 : decide (s < 0) = false := decide_eq_false (by omega)
  have d2 : decide (604799 < s) = false := decide_eq_false (by omega)
  have HK := Lib.hid (fun w => of_any k w hk)
  have HL := Lib.hid (fun w => of_any 604800 w (by decide))
  have HM := Lib.hid (fun v u w h h' => times_big v u k 604800 4 4 w h h' (by decide) (by decide))
  have HS := Lib.hid (fun v w h => small_any v (k * 604800) 9 w h (by decide))
  rw [sm_fit h1, bad_fit h1] at HS
  have HP := Lib.hid (fun v u w h h' => plus_big v u (k * 604800) s 9 4 w h h' (by decide) (by decide))
  have HS2 := Lib.hid (fun v w h => small_any v (k * 604800 + s) 10 w h (by decide))
  have HF := Lib.hid hs
  rw [sm_no h2, bad_no h2] at HS2
  clear h h1 h2 hk hs
  generalize k * 604800 = M at *
  go_enter Tryd.func12, Tryd.ntmps12
  go_upto_region 4 with first
    | (go_at_call_of 22 (Value.int IntKind.i64 604800); refine (HL.out _).mono ?_; rintro e w2 ⟨v2, rfl, b2, hb⟩; have V2 := Lib.hid b2; have V1 := Lib.hid (V1.out.below hb); have B := Lib.hid (B.out.trans (hb.mono B.out.size)); clear b2 hb)
    | (go_at_call 22; refine (HK.out _).mono ?_; rintro e w1 ⟨v1, rfl, b1, hb⟩; have V1 := Lib.hid b1; have B := Lib.hid hb; clear b1 hb)
    | (go_at_call 29; refine (HM.out _ _ _ V1.out V2.out).mono ?_; rintro e w3 ⟨v3, rfl, b3, hb⟩; obtain ⟨s3, A3, n3, c3, rfl⟩ := b3.open_; have V3 := Lib.hid b3; have B := Lib.hid (B.out.trans (hb.mono B.out.size)); clear b3 hb)
  have X := Bx.new V3.out
  have hb := bel_al w3 #[.bool s3, .slice A3 n3 c3] 49
  have hg := Lib.hid B.out.size
  replace B := Lib.hid (B.out.trans (hb.mono B.out.size))
  clear hb V3
  generalize World.alloc w3 _ = W4 at *
  replace X := Lib.hid X
  obtain ⟨g, hgd⟩ : ∃ g, g = w3.heap.size := ⟨_, rfl⟩
  rw [← hgd] at hg X ⊢
  clear hgd w3
  obtain ⟨y0, Y0, n0, m0, c0, c1, f0, f1, VN⟩ := X.out.cells
  replace VN := Lib.hid VN
  go_upto_region 7 with (go_at_call 20; refine (HS.out _ _ VN.out).mono ?_; rintro e w5 ⟨rfl, hb⟩; have B := Lib.hid (B.out.trans (hb.mono B.out.size)); have X := Lib.hid (X.out.below hb); clear hb)
  clear c0 c1 f0 f1 VN
  obtain ⟨y1, Y1, n1, m1, c0, c1, f0, f1, VN⟩ := X.out.cells
  replace VN := Lib.hid VN
  have r0 : w5.drew.cell? ⟨g, 0, none⟩ = some (.bool y1) := c0
  have r1 : w5.drew.cell? ⟨g, 1, none⟩ = some (.slice Y1 n1 m1) := c1
  go_region_with (first
    | (go_at_call 22; refine (of_any s _ HF.out).mono ?_; rintro e w6 ⟨v6, rfl, b6, hb⟩; have hb6 : Below w5.heap.size w5 w6 := ⟨hb.os, hb.tape, hb.output, hb.size, hb.block⟩; have V6 := Lib.hid b6; obtain ⟨k0, k1, -, -⟩ := X.out.at hb6 c0 c1; have B6 := Lib.hid hb6; clear b6 hb hb6)
    | (go_at_call 21; refine (HP.out _ _ _ (VN.out.below B6.out) V6.out).mono ?_; rintro e w7 ⟨v7, rfl, b7, hb⟩; obtain ⟨s7, A7, n7, c7, rfl⟩ := b7.open_; have V7 := Lib.hid b7; have hb7 : Below w5.heap.size w5 w7 := B6.out.trans (hb.mono B6.out.size); obtain ⟨l0, l1, g0, g1⟩ := X.out.at hb7 c0 c1; have X7 := Lib.hid (X.out.below hb7); have B7 := Lib.hid (B.out.trans (hb7.mono B.out.size)); clear b7 hb hb7))
  all_goals
    have X8 := Lib.hid (X7.out.put V7.out)
    have B8 : Hid (Below w.heap.size w ((w7.setCell ⟨g, 0, none⟩ (.bool s7)).setCell ⟨g, 1, none⟩ (.slice A7 n7 c7))) := Lib.hid ((B7.out.setCell hg.out _).setCell hg.out _)
    generalize (w7.setCell ⟨g, 0, none⟩ (.bool s7)).setCell ⟨g, 1, none⟩ (.slice A7 n7 c7) = W8 at *
    clear X7 B7 V7 l0 l1 g0 g1 c0 c1 f0 f1 r0 r1 VN X B w7
    obtain ⟨y2, Y2, n2, m2, c0, c1, f0, f1, VN⟩ := X8.out.cells
    replace VN := Lib.hid VN
    go_wp2_with (go_at_call 20; refine (HS2.out _ _ VN.out).mono ?_; rintro e w9 ⟨rfl, hb⟩; have B9 := Lib.hid (B8.out.trans (hb.mono B8.out.size)); clear hb)
    go_ret2
    exact ⟨rfl, B9.out⟩
set_option maxRecDepth 100000 in
set_option maxHeartbeats 4000000 in
theorem rgtai_yes (k s : Int) (w : World) (hk : fits k) (hs : fits s) (h : ¬ (s < 0 ∨ 604799 < s)) (h1 : fits (k * 604800)) (h2 : fits (k * 604800 + s)) :
    Calls Tryd.prog 12 #[.int .i64 k, .int .i64 s] w fun e w' => e = .returned (.tuple #[.int .i64 (sm (k * 604800 + s + 315964819)), .int .i64 (bad (k * 604800 + s + 315964819))]) ∧ Below w.heap.size w w' := by
  have d1 : decide (s < 0) = false := decide_eq_false (by omega)
  have d2 : decide (604799 < s) = false := decide_eq_false (by omega)
  have HK := Lib.hid (fun w => of_any k w hk)
  have HL := Lib.hid (fun w => of_any 604800 w (by decide))
  have HM := Lib.hid (fun v u w h h' => times_big v u k 604800 4 4 w h h' (by decide) (by decide))
  have HS := Lib.hid (fun v w h => small_any v (k * 604800) 9 w h (by decide))
  rw [sm_fit h1, bad_fit h1] at HS
  have HP := Lib.hid (fun v u w h h' => plus_big v u (k * 604800) s 9 4 w h h' (by decide) (by decide))
  have HS2 := Lib.hid (fun v w h => small_any v (k * 604800 + s) 10 w h (by decide))
  have HF := Lib.hid hs
  rw [sm_fit h2, bad_fit h2] at HS2
  have HQ := Lib.hid (fun v u w h h' => plus_big v u (k * 604800 + s) 315964819 10 4 w h h' (by decide) (by decide))
  have HS3 := Lib.hid (fun v w h => small_any v (k * 604800 + s + 315964819) 11 w h (by decide))
  clear h h1 h2 hk hs
  generalize k * 604800 = M at *
  go_enter Tryd.func12, Tryd.ntmps12
  go_upto_region 4 with first
    | (go_at_call_of 22 (Value.int IntKind.i64 604800); refine (HL.out _).mono ?_; rintro e w2 ⟨v2, rfl, b2, hb⟩; have V2 := Lib.hid b2; have V1 := Lib.hid (V1.out.below hb); have B := Lib.hid (B.out.trans (hb.mono B.out.size)); clear b2 hb)
    | (go_at_call 22; refine (HK.out _).mono ?_; rintro e w1 ⟨v1, rfl, b1, hb⟩; have V1 := Lib.hid b1; have B := Lib.hid hb; clear b1 hb)
    | (go_at_call 29; refine (HM.out _ _ _ V1.out V2.out).mono ?_; rintro e w3 ⟨v3, rfl, b3, hb⟩; obtain ⟨s3, A3, n3, c3, rfl⟩ := b3.open_; have V3 := Lib.hid b3; have B := Lib.hid (B.out.trans (hb.mono B.out.size)); clear b3 hb)
  have X := Bx.new V3.out
  have hb := bel_al w3 #[.bool s3, .slice A3 n3 c3] 49
  have hg := Lib.hid B.out.size
  replace B := Lib.hid (B.out.trans (hb.mono B.out.size))
  clear hb V3
  generalize World.alloc w3 _ = W4 at *
  replace X := Lib.hid X
  obtain ⟨g, hgd⟩ : ∃ g, g = w3.heap.size := ⟨_, rfl⟩
  rw [← hgd] at hg X ⊢
  clear hgd w3
  obtain ⟨y0, Y0, n0, m0, c0, c1, f0, f1, VN⟩ := X.out.cells
  replace VN := Lib.hid VN
  go_upto_region 7 with (go_at_call 20; refine (HS.out _ _ VN.out).mono ?_; rintro e w5 ⟨rfl, hb⟩; have B := Lib.hid (B.out.trans (hb.mono B.out.size)); have X := Lib.hid (X.out.below hb); clear hb)
  clear c0 c1 f0 f1 VN
  obtain ⟨y1, Y1, n1, m1, c0, c1, f0, f1, VN⟩ := X.out.cells
  replace VN := Lib.hid VN
  have r0 : w5.drew.cell? ⟨g, 0, none⟩ = some (.bool y1) := c0
  have r1 : w5.drew.cell? ⟨g, 1, none⟩ = some (.slice Y1 n1 m1) := c1
  go_region_with (first
    | (go_at_call 22; refine (of_any s _ HF.out).mono ?_; rintro e w6 ⟨v6, rfl, b6, hb⟩; have hb6 : Below w5.heap.size w5 w6 := ⟨hb.os, hb.tape, hb.output, hb.size, hb.block⟩; have V6 := Lib.hid b6; obtain ⟨k0, k1, -, -⟩ := X.out.at hb6 c0 c1; have B6 := Lib.hid hb6; clear b6 hb hb6)
    | (go_at_call 21; refine (HP.out _ _ _ (VN.out.below B6.out) V6.out).mono ?_; rintro e w7 ⟨v7, rfl, b7, hb⟩; obtain ⟨s7, A7, n7, c7, rfl⟩ := b7.open_; have V7 := Lib.hid b7; have hb7 : Below w5.heap.size w5 w7 := B6.out.trans (hb.mono B6.out.size); obtain ⟨l0, l1, g0, g1⟩ := X.out.at hb7 c0 c1; have X7 := Lib.hid (X.out.below hb7); have B7 := Lib.hid (B.out.trans (hb7.mono B.out.size)); clear b7 hb hb7))
  all_goals
    have X8 := Lib.hid (X7.out.put V7.out)
    have B8 : Hid (Below w.heap.size w ((w7.setCell ⟨g, 0, none⟩ (.bool s7)).setCell ⟨g, 1, none⟩ (.slice A7 n7 c7))) := Lib.hid ((B7.out.setCell hg.out _).setCell hg.out _)
    generalize (w7.setCell ⟨g, 0, none⟩ (.bool s7)).setCell ⟨g, 1, none⟩ (.slice A7 n7 c7) = W8 at *
    clear X7 B7 V7 l0 l1 g0 g1 c0 c1 f0 f1 r0 r1 VN X B w7
    obtain ⟨y2, Y2, n2, m2, c0, c1, f0, f1, VN⟩ := X8.out.cells
    replace VN := Lib.hid VN
    go_upto_region 11 with (go_at_call 20; refine (HS2.out _ _ VN.out).mono ?_; rintro e w9 ⟨rfl, hb⟩; have B9 := Lib.hid (B8.out.trans (hb.mono B8.out.size)); have X9 := Lib.hid (X8.out.below hb); clear hb)
    clear c0 c1 f0 f1 VN B8 X8
    obtain ⟨y3, Y3, n3, m3, VN, KN⟩ := X9.out.kept14
    replace VN := Lib.hid VN
    have KA : Hid (∀ w', Below w9.heap.size w9 w' → w'.cell? ⟨g, 0, none⟩ = some (.bool y3) ∧ w'.cell? ⟨g, 1, none⟩ = some (.slice Y3 n3 m3) ∧ Below w9.heap.size w9 w') := Lib.hid fun w' hb => ⟨(KN w' hb).1, (KN w' hb).2, hb⟩
    clear KN X9
    go_region_held3 (fun w' => w'.cell? ⟨g, 0, none⟩ = some (.bool y3) ∧ w'.cell? ⟨g, 1, none⟩ = some (.slice Y3 n3 m3) ∧ Below w9.heap.size w9 w')
      (first | exact KA.out _ (Below.refl _ _).drew | exact KA.out _ (by assumption))
      (first
        | (go_at_call 24; go_split_ands; refine (rbegin_any _).mono ?_; rintro e w10 ⟨rfl, hb⟩; have hB10 : Below w9.heap.size w9 w10 := (Below.trans (by assumption) (hb.mono (Below.size (w := w9) (B := w9.heap.size) (by assumption)))); clear hb)
        | (go_at_call 22; go_split_ands; refine (of_any 315964819 _ (by decide)).mono ?_; rintro e w11 ⟨v11, rfl, b11, hb⟩; have hB11 : Below w9.heap.size w9 w11 := (Below.trans (by assumption) (hb.mono (Below.size (w := w9) (B := w9.heap.size) (by assumption)))); have V11 := Lib.hid b11; clear b11 hb)
        | (go_at_call 21; go_split_ands; refine (HQ.out _ _ _ (VN.out.below ?_) V11.out).mono ?_; assumption; rintro e w12 ⟨v12, rfl, b12, hb⟩; have hB12 : Below w9.heap.size w9 w12 := (Below.trans (by assumption) (hb.mono (Below.size (w := w9) (B := w9.heap.size) (by assumption)))); have V12 := Lib.hid b12; clear b12 hb)
        | (go_at_call 20; go_split_ands; refine (HS3.out _ _ V12.out).mono ?_; rintro e w13 ⟨rfl, hb⟩; have hB13 : Below w9.heap.size w9 w13 := (Below.trans (by assumption) (hb.mono (Below.size (w := w9) (B := w9.heap.size) (by assumption)))); clear hb))
    have hq : Hid (Below w9.heap.size w9 _) := Lib.hid (by assumption)
    go_wp2_with fail
    go_ret2
    exact ⟨rfl, B9.out.trans (Below.mono hq.out B9.out.size)⟩
theorem rgtai_any (k s : Int) (w : World) (hk : fits k) (hs : fits s) :
    Calls Tryd.prog 12 #[.int .i64 k, .int .i64 s] w fun e w' => e = .returned (.tuple #[.int .i64 (taN k s), .int .i64 (taE k s)]) ∧ Below w.heap.size w w' := by
  by_cases h : s < 0 ∨ 604799 < s
  · exact rgtai_range k s w h
  · by_cases h1 : fits (k * 604800)
    · by_cases h2 : fits (k * 604800 + s)
      · have R := rgtai_yes k s w hk hs h h1 h2
        by_cases h3 : fits (k * 604800 + s + 315964819)
        · obtain ⟨e1, e2⟩ := ta_yes h h1 h2 h3
          rw [sm_fit h3, bad_fit h3] at R
          rw [e1, e2]; exact R
        · obtain ⟨e1, e2⟩ := ta_over h (fun c => h3 c.2.2)
          rw [sm_no h3, bad_no h3] at R
          rw [e1, e2]; exact R
      · obtain ⟨e1, e2⟩ := ta_over h (fun c => h2 c.2.1)
        rw [e1, e2]; exact rgtai_no2 k s w hk hs h h1 h2
    · obtain ⟨e1, e2⟩ := ta_over h (fun c => h1 c.1)
      rw [e1, e2]; exact rgtai_no1 k s w hk hs h h1
end Go.Proofs.YtjbbnlcghnjlfaaDoor
