/- The document's answer: Bits. -/
import Derived.Test.YtbffpallhofonaaEraD
namespace Go.Proofs.Ytbffpallhofonaa
open Go.RowKit
set_option linter.unusedVariables false
set_option linter.unusedSimpArgs false

theorem Bx.zero (w : World) : Bx (w.alloc (.cells #[.bool false, .slice none 0 0] 76)) w.heap.size 0 0 := Bx.new (BV.nil w)
theorem okb_no {b : Int} (h : okb b = false) : decide (b < 1) = true ∨ (decide (b < 1) = false ∧ decide (62 < b) = true) := by
  unfold okb at h; simp at h ⊢; omega
theorem u64_pw {n : Nat} (h : n ≤ 62) : IntKind.u64.wrap ((2 : Int) ^ n) = pw n := by
  have hp := pw_pos n; have hl := pw_62 h
  have e : (2 : Int) ^ n = pw n := by unfold pw; push_cast; rfl
  rw [e]; exact IntWalk.u64_in _ (by omega)

theorem rbits_no (x b p : Int) (w : World) (h : okb b = false) :
    Calls Try.prog 20 #[.int .u64 x, .int .i64 b, .int .i64 p] w fun e w' => e = .returned (.tuple #[.int .i64 0, .int .i64 1]) ∧ Below w.heap.size w w' := by
  rcases okb_no h with h1 | ⟨h1, h2⟩
  · clear h
    go_enter Try.func20, Try.ntmps20
    go_wp2_with fail
    go_ret2
    exact ⟨rfl, Below.refl _ _⟩
  · clear h
    go_enter Try.func20, Try.ntmps20
    go_wp2_with fail
    go_ret2
    exact ⟨rfl, Below.refl _ _⟩
theorem rbits_big (x p : Int) (n : Nat) (w : World) (h1 : 1 ≤ n) (h2 : n ≤ 62) (hx : pw n ≤ x) :
    Calls Try.prog 20 #[.int .u64 x, .int .i64 n, .int .i64 p] w fun e w' => e = .returned (.tuple #[.int .i64 0, .int .i64 1]) ∧ Below w.heap.size w w' := by
  have e1 := u64_pw h2
  have e2 : IntKind.u64.wrap (n : Int) = (n : Int) := IntWalk.u64_in _ (by omega)
  have d1 : decide ((n : Int) < 1) = false := decide_eq_false (by omega)
  have d2 : decide (62 < (n : Int)) = false := decide_eq_false (by omega)
  have d3 : decide (pw n ≤ x) = true := decide_eq_true hx
  go_enter Try.func20, Try.ntmps20
  go_wp2_with fail
  go_ret2
  exact ⟨rfl, Below.refl _ _⟩

/-- The numbers that are tried, one behind the other. -/
def cd (x p : Int) (n : Nat) (k : Nat) : Int := p + - fo p n + x + (if k = 1 then pw n else if k = 2 then - pw n else 0)
theorem cd_un {x p : Int} {n k : Nat} (h1 : 1 ≤ n) (h : nr (cd x p n k) p n = true) : un x p n = cd x p n k := by
  unfold nr at h; simp at h
  have e := Int.mul_ediv_add_emod p (pw n)
  have hc : cd x p n k = p + - fo p n + x + (if k = 1 then pw n else if k = 2 then - pw n else 0) := rfl
  unfold fo at hc
  by_cases k1 : k = 1
  · rw [if_pos k1] at hc
    refine un_one (k := p / pw n + 1) h1 h.1 h.2 ?_
    rw [Int.mul_add]; omega
  · rw [if_neg k1] at hc
    by_cases k2 : k = 2
    · rw [if_pos k2] at hc
      refine un_one (k := p / pw n - 1) h1 h.1 h.2 ?_
      rw [Int.mul_sub]; omega
    · rw [if_neg k2] at hc
      exact un_one (k := p / pw n) h1 h.1 h.2 (by omega)
theorem cd_some {x p : Int} {n : Nat} (h1 : 1 ≤ n) (h0 : 0 ≤ x) (hx : x < pw n) (hn : ∀ j, j < 3 → nr (cd x p n j) p n = false) : False := by
  have a0 := hn 0 (by omega); have a1 := hn 1 (by omega); have a2 := hn 2 (by omega)
  have hb := fo_bd p n
  have ht := hf_two h1
  have e0 : cd x p n 0 = p + - fo p n + x + 0 := rfl
  have e1 : cd x p n 1 = p + - fo p n + x + pw n := rfl
  have e2 : cd x p n 2 = p + - fo p n + x + - pw n := rfl
  unfold nr at a0 a1 a2
  simp only [Bool.and_eq_false_iff, decide_eq_false_iff_not] at a0 a1 a2
  rw [e0] at a0; rw [e1] at a1; rw [e2] at a2
  omega

set_option maxRecDepth 100000 in
set_option maxHeartbeats 3200000 in
theorem rbits_yes (x p : Int) (n : Nat) (w : World) (h1 : 1 ≤ n) (h2 : n ≤ 62) (hx0 : 0 ≤ x) (hx : x < pw n) (hp : fits p) :
    Calls Try.prog 20 #[.int .u64 x, .int .i64 n, .int .i64 p] w fun e w' => e = .returned (.tuple #[.int .i64 (sm (un x p n)), .int .i64 (bad (un x p n))]) ∧ Below w.heap.size w w' := by
  have e1 := u64_pw h2
  have e2 : IntKind.u64.wrap (n : Int) = (n : Int) := IntWalk.u64_in _ (by omega)
  have d1 : decide ((n : Int) < 1) = false := decide_eq_false (by omega)
  have d2 : decide (62 < (n : Int)) = false := decide_eq_false (by omega)
  have d3 : decide (pw n ≤ x) = false := decide_eq_false (by omega)
  have h62 := pw_62 h2
  have e3 : IntKind.i64.wrap x = x := IntWalk.i64_in _ (by omega)
  have HX := Lib.hid hx; have HX0 := Lib.hid hx0
  have HF := Lib.hid (fun w => rfold_any p n w hp h2)
  have HO := Lib.hid (fun w => of_any p w hp)
  have fb := fo_bd p n
  have HO2 := Lib.hid (fun w => of_any (fo p n) w (by unfold fits; omega))
  have HO3 := Lib.hid (fun w => of_any x w (by unfold fits; omega))
  have HPw := Lib.hid (fun w => power_any n w (by omega))
  clear hx hx0 hp fb h62
  go_enter Try.func20, Try.ntmps20
  go_upto_region 4 with (go_at_call 41; refine (HO.out _).mono ?_; rintro e w3 ⟨v3, rfl, b3, hb3⟩; obtain ⟨s3, A3, n3, c3, rfl⟩ := b3.open_; have V3 := Lib.hid b3; have B3 := Lib.hid hb3; clear b3 hb3)
  have R4 := Bx.new V3.out
  have hb := bel_al w3 #[.bool s3, .slice A3 n3 c3] 76
  have B4 := Lib.hid (B3.out.trans (hb.mono B3.out.size))
  generalize World.alloc w3 _ = W4 at *
  have R4 := Lib.hid R4
  clear B3 V3 hb HO
  generalize w3.heap.size = g3 at *
  clear w3
  obtain ⟨x3, X3, xn3, xc3, VH, KH⟩ := R4.out.cell0
  have KA : Hid (∀ w', Below W4.heap.size W4 w' → w'.cell? ⟨g3, 0, none⟩ = some (.bool x3) ∧ w'.cell? ⟨g3, 1, none⟩ = some (.slice X3 xn3 xc3) ∧ Below W4.heap.size W4 w') := Lib.hid (fun w' hb => ⟨(KH w' hb).1, (KH w' hb).2, hb⟩)
  have hVH := Lib.hid VH
  clear VH KH
  have VH := hVH
  clear hVH
  go_cut [9] (fun s9 wx => ∃ g : Nat, s9 = .pointer (some ⟨g, 0, none⟩) ∧ Hid (Bx wx g (p + - fo p n + x) 6) ∧ Hid (W4.heap.size ≤ g) ∧ Hid (Below W4.heap.size W4 wx))
  case first =>
    --{R4
    refine wp_region_held_drew (S := fun w' => w'.cell? ⟨g3, 0, none⟩ = some (.bool x3) ∧ w'.cell? ⟨g3, 1, none⟩ = some (.slice X3 xn3 xc3) ∧ Below W4.heap.size W4 w') (by kernel_rfl) (KA.out _ (Below.refl _ _).drew) (fun hHeld => ?_)
    have BC : Below W4.heap.size W4 W4.drew := (Below.refl _ _).drew
    refine wpAnyH_take (i := 0) (v := .agg #[.bool x3, .slice X3 xn3 xc3]) rfl (by kernel_rfl) (by kernel_rfl) (by kernel_rfl) (fun _ _ _ h => h) (Or.inl ⟨by rfl, fun w hSw => by obtain ⟨q1, q2, -⟩ := hSw; go_simp⟩) hHeld ?_
    try simp only [Act.put, List.setIfInBounds_toArray, List.set_cons_zero, List.set_cons_succ, List.getElem_toArray, List.getElem_cons_succ, List.getElem_cons_zero]
    refine wpAnyH_take (i := 1) (v := .int .i64 p) rfl (by kernel_rfl) (by kernel_rfl) (by kernel_rfl) (fun _ _ _ h => h) (Or.inl ⟨by rfl, fun w hSw => by go_simp⟩) hHeld ?_
    try simp only [Act.put, List.setIfInBounds_toArray, List.set_cons_zero, List.set_cons_succ, List.getElem_toArray, List.getElem_cons_succ, List.getElem_cons_zero]
    refine wpAnyH_take (i := 2) (v := .int .i64 n) rfl (by kernel_rfl) (by kernel_rfl) (by kernel_rfl) (fun _ _ _ h => h) (Or.inl ⟨by rfl, fun w hSw => by go_simp⟩) hHeld ?_
    try simp only [Act.put, List.setIfInBounds_toArray, List.set_cons_zero, List.set_cons_succ, List.getElem_toArray, List.getElem_cons_succ, List.getElem_cons_zero]
    refine wpAnyH_take (i := 7) (v := .int .u64 x) rfl (by kernel_rfl) (by kernel_rfl) (by kernel_rfl) (fun _ _ _ h => h) (Or.inl ⟨by rfl, fun w hSw => by go_simp⟩) hHeld ?_
    try simp only [Act.put, List.setIfInBounds_toArray, List.set_cons_zero, List.set_cons_succ, List.getElem_toArray, List.getElem_cons_succ, List.getElem_cons_zero]
    refine wpAnyH_take (i := 8) (v := .int .i64 x) rfl (by kernel_rfl) (by kernel_rfl) (by kernel_rfl) (fun _ _ _ h => h) (Or.inl ⟨by rfl, fun w hSw => by go_simp⟩) hHeld ?_
    try simp only [Act.put, List.setIfInBounds_toArray, List.set_cons_zero, List.set_cons_succ, List.getElem_toArray, List.getElem_cons_succ, List.getElem_cons_zero]
    refine wpAnyH_ready (rs := [3, 11]) (by kernel_rfl) (by simp) ?_
    refine AllReadyH.cons rfl (fun K hK => ?_) (AllReadyH.cons rfl (fun K hK => ?_) AllReadyH.nil)
    · have HK := Lib.hid hK; clear hK
      go_simp
      (go_at_call 18; refine (HF.out _).mono ?_; rintro e w3 ⟨rfl, rfl⟩)
      refine HK.out _ _ (KA.out _ BC) (fun hHeld => ?_)
      clear HK K
      try simp only [Act.put, List.setIfInBounds_toArray, List.set_cons_zero, List.set_cons_succ, List.getElem_toArray, List.getElem_cons_succ, List.getElem_cons_zero]
      refine wpAnyH_ready (rs := [4, 11]) (by kernel_rfl) (by simp) ?_
      refine AllReadyH.cons rfl (fun K hK => ?_) (AllReadyH.cons rfl (fun K hK => ?_) AllReadyH.nil)
      · have HK := Lib.hid hK; clear hK
        go_simp
        (go_at_call 41; refine (HO2.out _).mono ?_; rintro e w4 ⟨v4, rfl, bv, hb⟩; have V4 := Lib.hid bv; have BC : Below W4.heap.size W4 w4 := BC.trans (hb.mono BC.size); clear bv hb)
        refine HK.out _ _ (KA.out _ BC) (fun hHeld => ?_)
        clear HK K
        try simp only [Act.put, List.setIfInBounds_toArray, List.set_cons_zero, List.set_cons_succ, List.getElem_toArray, List.getElem_cons_succ, List.getElem_cons_zero]
        refine wpAnyH_ready (rs := [5, 11]) (by kernel_rfl) (by simp) ?_
        refine AllReadyH.cons rfl (fun K hK => ?_) (AllReadyH.cons rfl (fun K hK => ?_) AllReadyH.nil)
        · have HK := Lib.hid hK; clear hK
          go_simp
          (go_at_call 43; refine (minus_big _ (fo p n) 4 _ V4.out (by omega)).mono ?_; rintro e w5 ⟨v5, rfl, bv, hb⟩; have V5 := Lib.hid bv; have BC : Below W4.heap.size W4 w5 := BC.trans (hb.mono BC.size); clear bv hb)
          refine HK.out _ _ (KA.out _ BC) (fun hHeld => ?_)
          clear HK K
          try simp only [Act.put, List.setIfInBounds_toArray, List.set_cons_zero, List.set_cons_succ, List.getElem_toArray, List.getElem_cons_succ, List.getElem_cons_zero]
          refine wpAnyH_ready (rs := [6, 11]) (by kernel_rfl) (by simp) ?_
          refine AllReadyH.cons rfl (fun K hK => ?_) (AllReadyH.cons rfl (fun K hK => ?_) AllReadyH.nil)
          · have HK := Lib.hid hK; clear hK
            go_simp
            (go_at_call 42; refine (plus_big _ _ p (- fo p n) 4 4 _ (VH.out.below BC) V5.out (by omega) (by omega)).mono ?_; rintro e w6 ⟨v6, rfl, bv, hb⟩; have V6 := Lib.hid bv; have BC : Below W4.heap.size W4 w6 := BC.trans (hb.mono BC.size); clear bv hb)
            refine HK.out _ _ (KA.out _ BC) (fun hHeld => ?_)
            clear HK K
            try simp only [Act.put, List.setIfInBounds_toArray, List.set_cons_zero, List.set_cons_succ, List.getElem_toArray, List.getElem_cons_succ, List.getElem_cons_zero]
            refine wpAnyH_ready (rs := [9, 11]) (by kernel_rfl) (by simp) ?_
            refine AllReadyH.cons rfl (fun K hK => ?_) (AllReadyH.cons rfl (fun K hK => ?_) AllReadyH.nil)
            · have HK := Lib.hid hK; clear hK
              go_simp
              (go_at_call 41; refine (HO3.out _).mono ?_; rintro e w9 ⟨v9, rfl, bv, hb⟩; have V6 := Lib.hid (V6.out.below hb); have V9 := Lib.hid bv; have BC : Below W4.heap.size W4 w9 := BC.trans (hb.mono BC.size); clear bv hb)
              refine HK.out _ _ (KA.out _ BC) (fun hHeld => ?_)
              clear HK K
              try simp only [Act.put, List.setIfInBounds_toArray, List.set_cons_zero, List.set_cons_succ, List.getElem_toArray, List.getElem_cons_succ, List.getElem_cons_zero]
              refine wpAnyH_ready (rs := [10, 11]) (by kernel_rfl) (by simp) ?_
              refine AllReadyH.cons rfl (fun K hK => ?_) (AllReadyH.cons rfl (fun K hK => ?_) AllReadyH.nil)
              · have HK := Lib.hid hK; clear hK
                go_simp
                (go_at_call 42; refine (plus_big _ _ (p + - fo p n) x 5 4 _ V6.out V9.out (by omega) (by omega)).mono ?_; rintro e w10 ⟨v10, rfl, bv, hb⟩; obtain ⟨bb, Ab, nb, cb, rfl⟩ := bv.open_; have V10 := Lib.hid bv; have BC : Below W4.heap.size W4 w10 := BC.trans (hb.mono BC.size); clear bv hb)
                refine HK.out _ _ (KA.out _ BC) (fun hHeld => ?_)
                clear HK K
                try simp only [Act.put, List.setIfInBounds_toArray, List.set_cons_zero, List.set_cons_succ, List.getElem_toArray, List.getElem_cons_succ, List.getElem_cons_zero]
                refine wpAnyH_ready (rs := [11]) (by kernel_rfl) (by simp) ?_
                refine AllReadyH.cons rfl (fun K hK => ?_) AllReadyH.nil
                have HK := Lib.hid hK; clear hK
                go_simp
                obtain ⟨Wz, hWz⟩ : ∃ Wz, Wz = World.alloc w10 (.cells #[.bool false, .slice none 0 0] 76) := ⟨_, rfl⟩
                rw [← hWz]
                have hb : Below (w10).heap.size (w10) Wz := by rw [hWz]; exact bel_al _ _ _
                have Z : Hid (Bx Wz (w10).heap.size 0 0) := Lib.hid (by rw [hWz]; exact Bx.zero _)
                have LZ : Hid (W4.heap.size ≤ (w10).heap.size) := Lib.hid BC.size
                have V10 := Lib.hid (V10.out.below hb)
                have BC : Below W4.heap.size W4 Wz := BC.trans (hb.mono BC.size)
                clear hb hWz
                generalize w10.heap.size = gz at *
                refine HK.out _ _ (KA.out _ BC) (fun hHeld => ?_)
                clear HK K
                try simp only [Act.put, List.setIfInBounds_toArray, List.set_cons_zero, List.set_cons_succ, List.getElem_toArray, List.getElem_cons_succ, List.getElem_cons_zero]
                refine wpAnyH_ready (rs := [12]) (by kernel_rfl) (by simp) ?_
                refine AllReadyH.cons rfl (fun K hK => ?_) AllReadyH.nil
                have HK := Lib.hid hK; clear hK
                obtain ⟨zb, zA, zn, zc, z0, z1, f0, f1, -⟩ := Z.out.cells
                go_simp
                have BC := (BC.setCell (p := ⟨gz, 0, none⟩) LZ.out (.bool bb)).setCell (p := ⟨gz, 1, none⟩) LZ.out (.slice Ab nb cb)
                refine HK.out _ _ (KA.out _ BC) (fun hHeld => ?_)
                clear HK K
                try simp only [Act.put, List.setIfInBounds_toArray, List.set_cons_zero, List.set_cons_succ, List.getElem_toArray, List.getElem_cons_succ, List.getElem_cons_zero]
                refine wpAnyH_done (by kernel_rfl) ?_ _
                have ZF := Lib.hid (Z.out.put V10.out)
                have BF := Lib.hid BC
                clear BC z0 z1 f0 f1
                go_wp2_with fail
                go_meet
                exact ⟨gz, rfl, ZF, LZ, BF⟩
              · have HK := Lib.hid hK; clear hK
                go_simp
                obtain ⟨Wz, hWz⟩ : ∃ Wz, Wz = World.alloc w9 (.cells #[.bool false, .slice none 0 0] 76) := ⟨_, rfl⟩
                rw [← hWz]
                have hb : Below (w9).heap.size (w9) Wz := by rw [hWz]; exact bel_al _ _ _
                have Z : Hid (Bx Wz (w9).heap.size 0 0) := Lib.hid (by rw [hWz]; exact Bx.zero _)
                have LZ : Hid (W4.heap.size ≤ (w9).heap.size) := Lib.hid BC.size
                have V6 := Lib.hid (V6.out.below hb)
                have V9 := Lib.hid (V9.out.below hb)
                have BC : Below W4.heap.size W4 Wz := BC.trans (hb.mono BC.size)
                clear hb hWz
                generalize w9.heap.size = gz at *
                refine HK.out _ _ (KA.out _ BC) (fun hHeld => ?_)
                clear HK K
                try simp only [Act.put, List.setIfInBounds_toArray, List.set_cons_zero, List.set_cons_succ, List.getElem_toArray, List.getElem_cons_succ, List.getElem_cons_zero]
                refine wpAnyH_ready (rs := [10]) (by kernel_rfl) (by simp) ?_
                refine AllReadyH.cons rfl (fun K hK => ?_) AllReadyH.nil
                have HK := Lib.hid hK; clear hK
                go_simp
                (go_at_call 42; refine (plus_big _ _ (p + - fo p n) x 5 4 _ V6.out V9.out (by omega) (by omega)).mono ?_; rintro e w10 ⟨v10, rfl, bv, hb⟩; obtain ⟨bb, Ab, nb, cb, rfl⟩ := bv.open_; have Z := Lib.hid (Z.out.below hb); have V10 := Lib.hid bv; have BC : Below W4.heap.size W4 w10 := BC.trans (hb.mono BC.size); clear bv hb)
                refine HK.out _ _ (KA.out _ BC) (fun hHeld => ?_)
                clear HK K
                try simp only [Act.put, List.setIfInBounds_toArray, List.set_cons_zero, List.set_cons_succ, List.getElem_toArray, List.getElem_cons_succ, List.getElem_cons_zero]
                refine wpAnyH_ready (rs := [12]) (by kernel_rfl) (by simp) ?_
                refine AllReadyH.cons rfl (fun K hK => ?_) AllReadyH.nil
                have HK := Lib.hid hK; clear hK
                obtain ⟨zb, zA, zn, zc, z0, z1, f0, f1, -⟩ := Z.out.cells
                go_simp
                have BC := (BC.setCell (p := ⟨gz, 0, none⟩) LZ.out (.bool bb)).setCell (p := ⟨gz, 1, none⟩) LZ.out (.slice Ab nb cb)
                refine HK.out _ _ (KA.out _ BC) (fun hHeld => ?_)
                clear HK K
                try simp only [Act.put, List.setIfInBounds_toArray, List.set_cons_zero, List.set_cons_succ, List.getElem_toArray, List.getElem_cons_succ, List.getElem_cons_zero]
                refine wpAnyH_done (by kernel_rfl) ?_ _
                have ZF := Lib.hid (Z.out.put V10.out)
                have BF := Lib.hid BC
                clear BC z0 z1 f0 f1
                go_wp2_with fail
                go_meet
                exact ⟨gz, rfl, ZF, LZ, BF⟩
            · have HK := Lib.hid hK; clear hK
              go_simp
              obtain ⟨Wz, hWz⟩ : ∃ Wz, Wz = World.alloc w6 (.cells #[.bool false, .slice none 0 0] 76) := ⟨_, rfl⟩
              rw [← hWz]
              have hb : Below (w6).heap.size (w6) Wz := by rw [hWz]; exact bel_al _ _ _
              have Z : Hid (Bx Wz (w6).heap.size 0 0) := Lib.hid (by rw [hWz]; exact Bx.zero _)
              have LZ : Hid (W4.heap.size ≤ (w6).heap.size) := Lib.hid BC.size
              have V6 := Lib.hid (V6.out.below hb)
              have BC : Below W4.heap.size W4 Wz := BC.trans (hb.mono BC.size)
              clear hb hWz
              generalize w6.heap.size = gz at *
              refine HK.out _ _ (KA.out _ BC) (fun hHeld => ?_)
              clear HK K
              try simp only [Act.put, List.setIfInBounds_toArray, List.set_cons_zero, List.set_cons_succ, List.getElem_toArray, List.getElem_cons_succ, List.getElem_cons_zero]
              refine wpAnyH_ready (rs := [9]) (by kernel_rfl) (by simp) ?_
              refine AllReadyH.cons rfl (fun K hK => ?_) AllReadyH.nil
              have HK := Lib.hid hK; clear hK
              go_simp
              (go_at_call 41; refine (HO3.out _).mono ?_; rintro e w9 ⟨v9, rfl, bv, hb⟩; have V6 := Lib.hid (V6.out.below hb); have Z := Lib.hid (Z.out.below hb); have V9 := Lib.hid bv; have BC : Below W4.heap.size W4 w9 := BC.trans (hb.mono BC.size); clear bv hb)
              refine HK.out _ _ (KA.out _ BC) (fun hHeld => ?_)
              clear HK K
              try simp only [Act.put, List.setIfInBounds_toArray, List.set_cons_zero, List.set_cons_succ, List.getElem_toArray, List.getElem_cons_succ, List.getElem_cons_zero]
              refine wpAnyH_ready (rs := [10]) (by kernel_rfl) (by simp) ?_
              refine AllReadyH.cons rfl (fun K hK => ?_) AllReadyH.nil
              have HK := Lib.hid hK; clear hK
              go_simp
              (go_at_call 42; refine (plus_big _ _ (p + - fo p n) x 5 4 _ V6.out V9.out (by omega) (by omega)).mono ?_; rintro e w10 ⟨v10, rfl, bv, hb⟩; obtain ⟨bb, Ab, nb, cb, rfl⟩ := bv.open_; have Z := Lib.hid (Z.out.below hb); have V10 := Lib.hid bv; have BC : Below W4.heap.size W4 w10 := BC.trans (hb.mono BC.size); clear bv hb)
              refine HK.out _ _ (KA.out _ BC) (fun hHeld => ?_)
              clear HK K
              try simp only [Act.put, List.setIfInBounds_toArray, List.set_cons_zero, List.set_cons_succ, List.getElem_toArray, List.getElem_cons_succ, List.getElem_cons_zero]
              refine wpAnyH_ready (rs := [12]) (by kernel_rfl) (by simp) ?_
              refine AllReadyH.cons rfl (fun K hK => ?_) AllReadyH.nil
              have HK := Lib.hid hK; clear hK
              obtain ⟨zb, zA, zn, zc, z0, z1, f0, f1, -⟩ := Z.out.cells
              go_simp
              have BC := (BC.setCell (p := ⟨gz, 0, none⟩) LZ.out (.bool bb)).setCell (p := ⟨gz, 1, none⟩) LZ.out (.slice Ab nb cb)
              refine HK.out _ _ (KA.out _ BC) (fun hHeld => ?_)
              clear HK K
              try simp only [Act.put, List.setIfInBounds_toArray, List.set_cons_zero, List.set_cons_succ, List.getElem_toArray, List.getElem_cons_succ, List.getElem_cons_zero]
              refine wpAnyH_done (by kernel_rfl) ?_ _
              have ZF := Lib.hid (Z.out.put V10.out)
              have BF := Lib.hid BC
              clear BC z0 z1 f0 f1
              go_wp2_with fail
              go_meet
              exact ⟨gz, rfl, ZF, LZ, BF⟩
          · have HK := Lib.hid hK; clear hK
            go_simp
            obtain ⟨Wz, hWz⟩ : ∃ Wz, Wz = World.alloc w5 (.cells #[.bool false, .slice none 0 0] 76) := ⟨_, rfl⟩
            rw [← hWz]
            have hb : Below (w5).heap.size (w5) Wz := by rw [hWz]; exact bel_al _ _ _
            have Z : Hid (Bx Wz (w5).heap.size 0 0) := Lib.hid (by rw [hWz]; exact Bx.zero _)
            have LZ : Hid (W4.heap.size ≤ (w5).heap.size) := Lib.hid BC.size
            have V5 := Lib.hid (V5.out.below hb)
            have BC : Below W4.heap.size W4 Wz := BC.trans (hb.mono BC.size)
            clear hb hWz
            generalize w5.heap.size = gz at *
            refine HK.out _ _ (KA.out _ BC) (fun hHeld => ?_)
            clear HK K
            try simp only [Act.put, List.setIfInBounds_toArray, List.set_cons_zero, List.set_cons_succ, List.getElem_toArray, List.getElem_cons_succ, List.getElem_cons_zero]
            refine wpAnyH_ready (rs := [6]) (by kernel_rfl) (by simp) ?_
            refine AllReadyH.cons rfl (fun K hK => ?_) AllReadyH.nil
            have HK := Lib.hid hK; clear hK
            go_simp
            (go_at_call 42; refine (plus_big _ _ p (- fo p n) 4 4 _ (VH.out.below BC) V5.out (by omega) (by omega)).mono ?_; rintro e w6 ⟨v6, rfl, bv, hb⟩; have Z := Lib.hid (Z.out.below hb); have V6 := Lib.hid bv; have BC : Below W4.heap.size W4 w6 := BC.trans (hb.mono BC.size); clear bv hb)
            refine HK.out _ _ (KA.out _ BC) (fun hHeld => ?_)
            clear HK K
            try simp only [Act.put, List.setIfInBounds_toArray, List.set_cons_zero, List.set_cons_succ, List.getElem_toArray, List.getElem_cons_succ, List.getElem_cons_zero]
            refine wpAnyH_ready (rs := [9]) (by kernel_rfl) (by simp) ?_
            refine AllReadyH.cons rfl (fun K hK => ?_) AllReadyH.nil
            have HK := Lib.hid hK; clear hK
            go_simp
            (go_at_call 41; refine (HO3.out _).mono ?_; rintro e w9 ⟨v9, rfl, bv, hb⟩; have V6 := Lib.hid (V6.out.below hb); have Z := Lib.hid (Z.out.below hb); have V9 := Lib.hid bv; have BC : Below W4.heap.size W4 w9 := BC.trans (hb.mono BC.size); clear bv hb)
            refine HK.out _ _ (KA.out _ BC) (fun hHeld => ?_)
            clear HK K
            try simp only [Act.put, List.setIfInBounds_toArray, List.set_cons_zero, List.set_cons_succ, List.getElem_toArray, List.getElem_cons_succ, List.getElem_cons_zero]
            refine wpAnyH_ready (rs := [10]) (by kernel_rfl) (by simp) ?_
            refine AllReadyH.cons rfl (fun K hK => ?_) AllReadyH.nil
            have HK := Lib.hid hK; clear hK
            go_simp
            (go_at_call 42; refine (plus_big _ _ (p + - fo p n) x 5 4 _ V6.out V9.out (by omega) (by omega)).mono ?_; rintro e w10 ⟨v10, rfl, bv, hb⟩; obtain ⟨bb, Ab, nb, cb, rfl⟩ := bv.open_; have Z := Lib.hid (Z.out.below hb); have V10 := Lib.hid bv; have BC : Below W4.heap.size W4 w10 := BC.trans (hb.mono BC.size); clear bv hb)
            refine HK.out _ _ (KA.out _ BC) (fun hHeld => ?_)
            clear HK K
            try simp only [Act.put, List.setIfInBounds_toArray, List.set_cons_zero, List.set_cons_succ, List.getElem_toArray, List.getElem_cons_succ, List.getElem_cons_zero]
            refine wpAnyH_ready (rs := [12]) (by kernel_rfl) (by simp) ?_
            refine AllReadyH.cons rfl (fun K hK => ?_) AllReadyH.nil
            have HK := Lib.hid hK; clear hK
            obtain ⟨zb, zA, zn, zc, z0, z1, f0, f1, -⟩ := Z.out.cells
            go_simp
            have BC := (BC.setCell (p := ⟨gz, 0, none⟩) LZ.out (.bool bb)).setCell (p := ⟨gz, 1, none⟩) LZ.out (.slice Ab nb cb)
            refine HK.out _ _ (KA.out _ BC) (fun hHeld => ?_)
            clear HK K
            try simp only [Act.put, List.setIfInBounds_toArray, List.set_cons_zero, List.set_cons_succ, List.getElem_toArray, List.getElem_cons_succ, List.getElem_cons_zero]
            refine wpAnyH_done (by kernel_rfl) ?_ _
            have ZF := Lib.hid (Z.out.put V10.out)
            have BF := Lib.hid BC
            clear BC z0 z1 f0 f1
            go_wp2_with fail
            go_meet
            exact ⟨gz, rfl, ZF, LZ, BF⟩
        · have HK := Lib.hid hK; clear hK
          go_simp
          obtain ⟨Wz, hWz⟩ : ∃ Wz, Wz = World.alloc w4 (.cells #[.bool false, .slice none 0 0] 76) := ⟨_, rfl⟩
          rw [← hWz]
          have hb : Below (w4).heap.size (w4) Wz := by rw [hWz]; exact bel_al _ _ _
          have Z : Hid (Bx Wz (w4).heap.size 0 0) := Lib.hid (by rw [hWz]; exact Bx.zero _)
          have LZ : Hid (W4.heap.size ≤ (w4).heap.size) := Lib.hid BC.size
          have V4 := Lib.hid (V4.out.below hb)
          have BC : Below W4.heap.size W4 Wz := BC.trans (hb.mono BC.size)
          clear hb hWz
          generalize w4.heap.size = gz at *
          refine HK.out _ _ (KA.out _ BC) (fun hHeld => ?_)
          clear HK K
          try simp only [Act.put, List.setIfInBounds_toArray, List.set_cons_zero, List.set_cons_succ, List.getElem_toArray, List.getElem_cons_succ, List.getElem_cons_zero]
          refine wpAnyH_ready (rs := [5]) (by kernel_rfl) (by simp) ?_
          refine AllReadyH.cons rfl (fun K hK => ?_) AllReadyH.nil
          have HK := Lib.hid hK; clear hK
          go_simp
          (go_at_call 43; refine (minus_big _ (fo p n) 4 _ V4.out (by omega)).mono ?_; rintro e w5 ⟨v5, rfl, bv, hb⟩; have Z := Lib.hid (Z.out.below hb); have V5 := Lib.hid bv; have BC : Below W4.heap.size W4 w5 := BC.trans (hb.mono BC.size); clear bv hb)
          refine HK.out _ _ (KA.out _ BC) (fun hHeld => ?_)
          clear HK K
          try simp only [Act.put, List.setIfInBounds_toArray, List.set_cons_zero, List.set_cons_succ, List.getElem_toArray, List.getElem_cons_succ, List.getElem_cons_zero]
          refine wpAnyH_ready (rs := [6]) (by kernel_rfl) (by simp) ?_
          refine AllReadyH.cons rfl (fun K hK => ?_) AllReadyH.nil
          have HK := Lib.hid hK; clear hK
          go_simp
          (go_at_call 42; refine (plus_big _ _ p (- fo p n) 4 4 _ (VH.out.below BC) V5.out (by omega) (by omega)).mono ?_; rintro e w6 ⟨v6, rfl, bv, hb⟩; have Z := Lib.hid (Z.out.below hb); have V6 := Lib.hid bv; have BC : Below W4.heap.size W4 w6 := BC.trans (hb.mono BC.size); clear bv hb)
          refine HK.out _ _ (KA.out _ BC) (fun hHeld => ?_)
          clear HK K
          try simp only [Act.put, List.setIfInBounds_toArray, List.set_cons_zero, List.set_cons_succ, List.getElem_toArray, List.getElem_cons_succ, List.getElem_cons_zero]
          refine wpAnyH_ready (rs := [9]) (by kernel_rfl) (by simp) ?_
          refine AllReadyH.cons rfl (fun K hK => ?_) AllReadyH.nil
          have HK := Lib.hid hK; clear hK
          go_simp
          (go_at_call 41; refine (HO3.out _).mono ?_; rintro e w9 ⟨v9, rfl, bv, hb⟩; have V6 := Lib.hid (V6.out.below hb); have Z := Lib.hid (Z.out.below hb); have V9 := Lib.hid bv; have BC : Below W4.heap.size W4 w9 := BC.trans (hb.mono BC.size); clear bv hb)
          refine HK.out _ _ (KA.out _ BC) (fun hHeld => ?_)
          clear HK K
          try simp only [Act.put, List.setIfInBounds_toArray, List.set_cons_zero, List.set_cons_succ, List.getElem_toArray, List.getElem_cons_succ, List.getElem_cons_zero]
          refine wpAnyH_ready (rs := [10]) (by kernel_rfl) (by simp) ?_
          refine AllReadyH.cons rfl (fun K hK => ?_) AllReadyH.nil
          have HK := Lib.hid hK; clear hK
          go_simp
          (go_at_call 42; refine (plus_big _ _ (p + - fo p n) x 5 4 _ V6.out V9.out (by omega) (by omega)).mono ?_; rintro e w10 ⟨v10, rfl, bv, hb⟩; obtain ⟨bb, Ab, nb, cb, rfl⟩ := bv.open_; have Z := Lib.hid (Z.out.below hb); have V10 := Lib.hid bv; have BC : Below W4.heap.size W4 w10 := BC.trans (hb.mono BC.size); clear bv hb)
          refine HK.out _ _ (KA.out _ BC) (fun hHeld => ?_)
          clear HK K
          try simp only [Act.put, List.setIfInBounds_toArray, List.set_cons_zero, List.set_cons_succ, List.getElem_toArray, List.getElem_cons_succ, List.getElem_cons_zero]
          refine wpAnyH_ready (rs := [12]) (by kernel_rfl) (by simp) ?_
          refine AllReadyH.cons rfl (fun K hK => ?_) AllReadyH.nil
          have HK := Lib.hid hK; clear hK
          obtain ⟨zb, zA, zn, zc, z0, z1, f0, f1, -⟩ := Z.out.cells
          go_simp
          have BC := (BC.setCell (p := ⟨gz, 0, none⟩) LZ.out (.bool bb)).setCell (p := ⟨gz, 1, none⟩) LZ.out (.slice Ab nb cb)
          refine HK.out _ _ (KA.out _ BC) (fun hHeld => ?_)
          clear HK K
          try simp only [Act.put, List.setIfInBounds_toArray, List.set_cons_zero, List.set_cons_succ, List.getElem_toArray, List.getElem_cons_succ, List.getElem_cons_zero]
          refine wpAnyH_done (by kernel_rfl) ?_ _
          have ZF := Lib.hid (Z.out.put V10.out)
          have BF := Lib.hid BC
          clear BC z0 z1 f0 f1
          go_wp2_with fail
          go_meet
          exact ⟨gz, rfl, ZF, LZ, BF⟩
      · have HK := Lib.hid hK; clear hK
        go_simp
        obtain ⟨Wz, hWz⟩ : ∃ Wz, Wz = (World.alloc W4 (.cells #[.bool false, .slice none 0 0] 76)).drew := ⟨_, rfl⟩
        rw [← hWz]
        obtain ⟨gz, hgz⟩ : ∃ gz, gz = W4.heap.size := ⟨_, rfl⟩
        rw [← hgz]
        have Z : Hid (Bx Wz gz 0 0) := Lib.hid (by rw [hWz, hgz]; exact Bx.zero _)
        have LZ : Hid (W4.heap.size ≤ gz) := Lib.hid (by rw [hgz]; exact Nat.le_refl _)
        have BC : Below W4.heap.size W4 Wz := by rw [hWz]; exact (bel_al _ _ _).drew
        clear hgz hWz
        refine HK.out _ _ (KA.out _ BC) (fun hHeld => ?_)
        clear HK K
        try simp only [Act.put, List.setIfInBounds_toArray, List.set_cons_zero, List.set_cons_succ, List.getElem_toArray, List.getElem_cons_succ, List.getElem_cons_zero]
        refine wpAnyH_ready (rs := [4]) (by kernel_rfl) (by simp) ?_
        refine AllReadyH.cons rfl (fun K hK => ?_) AllReadyH.nil
        have HK := Lib.hid hK; clear hK
        go_simp
        (go_at_call 41; refine (HO2.out _).mono ?_; rintro e w4 ⟨v4, rfl, bv, hb⟩; have Z := Lib.hid (Z.out.below hb); have V4 := Lib.hid bv; have BC : Below W4.heap.size W4 w4 := BC.trans (hb.mono BC.size); clear bv hb)
        refine HK.out _ _ (KA.out _ BC) (fun hHeld => ?_)
        clear HK K
        try simp only [Act.put, List.setIfInBounds_toArray, List.set_cons_zero, List.set_cons_succ, List.getElem_toArray, List.getElem_cons_succ, List.getElem_cons_zero]
        refine wpAnyH_ready (rs := [5]) (by kernel_rfl) (by simp) ?_
        refine AllReadyH.cons rfl (fun K hK => ?_) AllReadyH.nil
        have HK := Lib.hid hK; clear hK
        go_simp
        (go_at_call 43; refine (minus_big _ (fo p n) 4 _ V4.out (by omega)).mono ?_; rintro e w5 ⟨v5, rfl, bv, hb⟩; have Z := Lib.hid (Z.out.below hb); have V5 := Lib.hid bv; have BC : Below W4.heap.size W4 w5 := BC.trans (hb.mono BC.size); clear bv hb)
        refine HK.out _ _ (KA.out _ BC) (fun hHeld => ?_)
        clear HK K
        try simp only [Act.put, List.setIfInBounds_toArray, List.set_cons_zero, List.set_cons_succ, List.getElem_toArray, List.getElem_cons_succ, List.getElem_cons_zero]
        refine wpAnyH_ready (rs := [6]) (by kernel_rfl) (by simp) ?_
        refine AllReadyH.cons rfl (fun K hK => ?_) AllReadyH.nil
        have HK := Lib.hid hK; clear hK
        go_simp
        (go_at_call 42; refine (plus_big _ _ p (- fo p n) 4 4 _ (VH.out.below BC) V5.out (by omega) (by omega)).mono ?_; rintro e w6 ⟨v6, rfl, bv, hb⟩; have Z := Lib.hid (Z.out.below hb); have V6 := Lib.hid bv; have BC : Below W4.heap.size W4 w6 := BC.trans (hb.mono BC.size); clear bv hb)
        refine HK.out _ _ (KA.out _ BC) (fun hHeld => ?_)
        clear HK K
        try simp only [Act.put, List.setIfInBounds_toArray, List.set_cons_zero, List.set_cons_succ, List.getElem_toArray, List.getElem_cons_succ, List.getElem_cons_zero]
        refine wpAnyH_ready (rs := [9]) (by kernel_rfl) (by simp) ?_
        refine AllReadyH.cons rfl (fun K hK => ?_) AllReadyH.nil
        have HK := Lib.hid hK; clear hK
        go_simp
        (go_at_call 41; refine (HO3.out _).mono ?_; rintro e w9 ⟨v9, rfl, bv, hb⟩; have V6 := Lib.hid (V6.out.below hb); have Z := Lib.hid (Z.out.below hb); have V9 := Lib.hid bv; have BC : Below W4.heap.size W4 w9 := BC.trans (hb.mono BC.size); clear bv hb)
        refine HK.out _ _ (KA.out _ BC) (fun hHeld => ?_)
        clear HK K
        try simp only [Act.put, List.setIfInBounds_toArray, List.set_cons_zero, List.set_cons_succ, List.getElem_toArray, List.getElem_cons_succ, List.getElem_cons_zero]
        refine wpAnyH_ready (rs := [10]) (by kernel_rfl) (by simp) ?_
        refine AllReadyH.cons rfl (fun K hK => ?_) AllReadyH.nil
        have HK := Lib.hid hK; clear hK
        go_simp
        (go_at_call 42; refine (plus_big _ _ (p + - fo p n) x 5 4 _ V6.out V9.out (by omega) (by omega)).mono ?_; rintro e w10 ⟨v10, rfl, bv, hb⟩; obtain ⟨bb, Ab, nb, cb, rfl⟩ := bv.open_; have Z := Lib.hid (Z.out.below hb); have V10 := Lib.hid bv; have BC : Below W4.heap.size W4 w10 := BC.trans (hb.mono BC.size); clear bv hb)
        refine HK.out _ _ (KA.out _ BC) (fun hHeld => ?_)
        clear HK K
        try simp only [Act.put, List.setIfInBounds_toArray, List.set_cons_zero, List.set_cons_succ, List.getElem_toArray, List.getElem_cons_succ, List.getElem_cons_zero]
        refine wpAnyH_ready (rs := [12]) (by kernel_rfl) (by simp) ?_
        refine AllReadyH.cons rfl (fun K hK => ?_) AllReadyH.nil
        have HK := Lib.hid hK; clear hK
        obtain ⟨zb, zA, zn, zc, z0, z1, f0, f1, -⟩ := Z.out.cells
        go_simp
        have BC := (BC.setCell (p := ⟨gz, 0, none⟩) LZ.out (.bool bb)).setCell (p := ⟨gz, 1, none⟩) LZ.out (.slice Ab nb cb)
        refine HK.out _ _ (KA.out _ BC) (fun hHeld => ?_)
        clear HK K
        try simp only [Act.put, List.setIfInBounds_toArray, List.set_cons_zero, List.set_cons_succ, List.getElem_toArray, List.getElem_cons_succ, List.getElem_cons_zero]
        refine wpAnyH_done (by kernel_rfl) ?_ _
        have ZF := Lib.hid (Z.out.put V10.out)
        have BF := Lib.hid BC
        clear BC z0 z1 f0 f1
        go_wp2_with fail
        go_meet
        exact ⟨gz, rfl, ZF, LZ, BF⟩
    · have HK := Lib.hid hK; clear hK
      go_simp
      obtain ⟨Wz, hWz⟩ : ∃ Wz, Wz = (World.alloc W4 (.cells #[.bool false, .slice none 0 0] 76)).drew := ⟨_, rfl⟩
      rw [← hWz]
      obtain ⟨gz, hgz⟩ : ∃ gz, gz = W4.heap.size := ⟨_, rfl⟩
      rw [← hgz]
      have Z : Hid (Bx Wz gz 0 0) := Lib.hid (by rw [hWz, hgz]; exact Bx.zero _)
      have LZ : Hid (W4.heap.size ≤ gz) := Lib.hid (by rw [hgz]; exact Nat.le_refl _)
      have BC : Below W4.heap.size W4 Wz := by rw [hWz]; exact (bel_al _ _ _).drew
      clear hgz hWz
      refine HK.out _ _ (KA.out _ BC) (fun hHeld => ?_)
      clear HK K
      try simp only [Act.put, List.setIfInBounds_toArray, List.set_cons_zero, List.set_cons_succ, List.getElem_toArray, List.getElem_cons_succ, List.getElem_cons_zero]
      refine wpAnyH_ready (rs := [3]) (by kernel_rfl) (by simp) ?_
      refine AllReadyH.cons rfl (fun K hK => ?_) AllReadyH.nil
      have HK := Lib.hid hK; clear hK
      go_simp
      (go_at_call 18; refine (HF.out _).mono ?_; rintro e w3 ⟨rfl, rfl⟩)
      refine HK.out _ _ (KA.out _ BC) (fun hHeld => ?_)
      clear HK K
      try simp only [Act.put, List.setIfInBounds_toArray, List.set_cons_zero, List.set_cons_succ, List.getElem_toArray, List.getElem_cons_succ, List.getElem_cons_zero]
      refine wpAnyH_ready (rs := [4]) (by kernel_rfl) (by simp) ?_
      refine AllReadyH.cons rfl (fun K hK => ?_) AllReadyH.nil
      have HK := Lib.hid hK; clear hK
      go_simp
      (go_at_call 41; refine (HO2.out _).mono ?_; rintro e w4 ⟨v4, rfl, bv, hb⟩; have Z := Lib.hid (Z.out.below hb); have V4 := Lib.hid bv; have BC : Below W4.heap.size W4 w4 := BC.trans (hb.mono BC.size); clear bv hb)
      refine HK.out _ _ (KA.out _ BC) (fun hHeld => ?_)
      clear HK K
      try simp only [Act.put, List.setIfInBounds_toArray, List.set_cons_zero, List.set_cons_succ, List.getElem_toArray, List.getElem_cons_succ, List.getElem_cons_zero]
      refine wpAnyH_ready (rs := [5]) (by kernel_rfl) (by simp) ?_
      refine AllReadyH.cons rfl (fun K hK => ?_) AllReadyH.nil
      have HK := Lib.hid hK; clear hK
      go_simp
      (go_at_call 43; refine (minus_big _ (fo p n) 4 _ V4.out (by omega)).mono ?_; rintro e w5 ⟨v5, rfl, bv, hb⟩; have Z := Lib.hid (Z.out.below hb); have V5 := Lib.hid bv; have BC : Below W4.heap.size W4 w5 := BC.trans (hb.mono BC.size); clear bv hb)
      refine HK.out _ _ (KA.out _ BC) (fun hHeld => ?_)
      clear HK K
      try simp only [Act.put, List.setIfInBounds_toArray, List.set_cons_zero, List.set_cons_succ, List.getElem_toArray, List.getElem_cons_succ, List.getElem_cons_zero]
      refine wpAnyH_ready (rs := [6]) (by kernel_rfl) (by simp) ?_
      refine AllReadyH.cons rfl (fun K hK => ?_) AllReadyH.nil
      have HK := Lib.hid hK; clear hK
      go_simp
      (go_at_call 42; refine (plus_big _ _ p (- fo p n) 4 4 _ (VH.out.below BC) V5.out (by omega) (by omega)).mono ?_; rintro e w6 ⟨v6, rfl, bv, hb⟩; have Z := Lib.hid (Z.out.below hb); have V6 := Lib.hid bv; have BC : Below W4.heap.size W4 w6 := BC.trans (hb.mono BC.size); clear bv hb)
      refine HK.out _ _ (KA.out _ BC) (fun hHeld => ?_)
      clear HK K
      try simp only [Act.put, List.setIfInBounds_toArray, List.set_cons_zero, List.set_cons_succ, List.getElem_toArray, List.getElem_cons_succ, List.getElem_cons_zero]
      refine wpAnyH_ready (rs := [9]) (by kernel_rfl) (by simp) ?_
      refine AllReadyH.cons rfl (fun K hK => ?_) AllReadyH.nil
      have HK := Lib.hid hK; clear hK
      go_simp
      (go_at_call 41; refine (HO3.out _).mono ?_; rintro e w9 ⟨v9, rfl, bv, hb⟩; have V6 := Lib.hid (V6.out.below hb); have Z := Lib.hid (Z.out.below hb); have V9 := Lib.hid bv; have BC : Below W4.heap.size W4 w9 := BC.trans (hb.mono BC.size); clear bv hb)
      refine HK.out _ _ (KA.out _ BC) (fun hHeld => ?_)
      clear HK K
      try simp only [Act.put, List.setIfInBounds_toArray, List.set_cons_zero, List.set_cons_succ, List.getElem_toArray, List.getElem_cons_succ, List.getElem_cons_zero]
      refine wpAnyH_ready (rs := [10]) (by kernel_rfl) (by simp) ?_
      refine AllReadyH.cons rfl (fun K hK => ?_) AllReadyH.nil
      have HK := Lib.hid hK; clear hK
      go_simp
      (go_at_call 42; refine (plus_big _ _ (p + - fo p n) x 5 4 _ V6.out V9.out (by omega) (by omega)).mono ?_; rintro e w10 ⟨v10, rfl, bv, hb⟩; obtain ⟨bb, Ab, nb, cb, rfl⟩ := bv.open_; have Z := Lib.hid (Z.out.below hb); have V10 := Lib.hid bv; have BC : Below W4.heap.size W4 w10 := BC.trans (hb.mono BC.size); clear bv hb)
      refine HK.out _ _ (KA.out _ BC) (fun hHeld => ?_)
      clear HK K
      try simp only [Act.put, List.setIfInBounds_toArray, List.set_cons_zero, List.set_cons_succ, List.getElem_toArray, List.getElem_cons_succ, List.getElem_cons_zero]
      refine wpAnyH_ready (rs := [12]) (by kernel_rfl) (by simp) ?_
      refine AllReadyH.cons rfl (fun K hK => ?_) AllReadyH.nil
      have HK := Lib.hid hK; clear hK
      obtain ⟨zb, zA, zn, zc, z0, z1, f0, f1, -⟩ := Z.out.cells
      go_simp
      have BC := (BC.setCell (p := ⟨gz, 0, none⟩) LZ.out (.bool bb)).setCell (p := ⟨gz, 1, none⟩) LZ.out (.slice Ab nb cb)
      refine HK.out _ _ (KA.out _ BC) (fun hHeld => ?_)
      clear HK K
      try simp only [Act.put, List.setIfInBounds_toArray, List.set_cons_zero, List.set_cons_succ, List.getElem_toArray, List.getElem_cons_succ, List.getElem_cons_zero]
      refine wpAnyH_done (by kernel_rfl) ?_ _
      have ZF := Lib.hid (Z.out.put V10.out)
      have BF := Lib.hid BC
      clear BC z0 z1 f0 f1
      go_wp2_with fail
      go_meet
      exact ⟨gz, rfl, ZF, LZ, BF⟩
    --}R4
  case rest =>
    obtain ⟨g, rfl, PB, LB, BB⟩ := hcut
    have PP := Lib.hid (R4.out.below BB.out)
    have BW := Lib.hid (B4.out.trans (BB.out.mono B4.out.size))
    clear R4 B4 KA VH LB BB HF HO2 HO3
    go_upto_region 6 with (go_at_call 44; refine (HPw.out _).mono ?_; rintro e w5 ⟨v5, rfl, b5, hb⟩; obtain ⟨s5, A5, n5, c5, rfl⟩ := b5.open_; have V5 := Lib.hid b5; have PB := Lib.hid (PB.out.below hb); have PP := Lib.hid (PP.out.below hb); have BW := Lib.hid (BW.out.trans (hb.mono BW.out.size)); clear b5 hb)
    have PS := Bx.new V5.out
    have hb := bel_al w5 #[.bool s5, .slice A5 n5 c5] 76
    have PB := Lib.hid (PB.out.below hb)
    have PP := Lib.hid (PP.out.below hb)
    have BW := Lib.hid (BW.out.trans (hb.mono BW.out.size))
    generalize World.alloc w5 _ = W6 at *
    have hPS := Lib.hid PS
    clear PS
    have PS := hPS
    clear hPS hb V5 HPw
    generalize w5.heap.size = gs at *
    go_wp2_with fail
    go_loopg [11] 3 (fun gg s11 wr => ∃ K : Nat, s11 = .int .i64 K ∧ K ≤ 3 ∧ gg = 3 - K ∧ Hid (∀ j, j < K → nr (cd x p n j) p n = false) ∧ Hid (Bx wr g3 p 4) ∧ Hid (Bx wr g (p + - fo p n + x) 6) ∧ Hid (Bx wr gs (pw n) (n + 4)) ∧ Hid (Below w.heap.size w wr))
    case atStart => exact ⟨0, rfl, by omega, rfl, Lib.hid (fun j hj => absurd hj (Nat.not_lt_zero _)), PP, PB, PS, BW⟩
    case round =>
      clear PP PB PS BW
      obtain ⟨K, rfl, hK, rfl, HN, PP, PB, PS, BW⟩ := hrel
      by_cases hlt : K < 3
      · obtain ⟨xb, Xb, nb, cb, kb1, kb2, -, -, hvb⟩ := PB.out.cells
        have VB := Lib.hid hvb
        clear hvb
        rcases (by omega : K = 0 ∨ K = 1 ∨ K = 2) with rfl | rfl | rfl
        · have PP0 := PP; have PB0 := PB; have PS0 := PS
          go_upto_region 10 with fail
          have PT := Bx.new VB.out
          have hb := bel_al wr #[.bool xb, .slice Xb nb cb] 76
          have PP := Lib.hid (PP.out.below hb)
          have PB := Lib.hid (PB.out.below hb)
          have PS := Lib.hid (PS.out.below hb)
          have LT : Hid (w.heap.size ≤ wr.heap.size) := Lib.hid BW.out.size
          have LP := Lib.hid (PP.out.lt)
          have NP : Hid (wr.heap.size ≠ g3 ∧ wr.heap.size ≠ g ∧ wr.heap.size ≠ gs) := Lib.hid ⟨Nat.ne_of_gt PP0.out.lt, Nat.ne_of_gt PB0.out.lt, Nat.ne_of_gt PS0.out.lt⟩
          have BW := Lib.hid (BW.out.trans (hb.mono BW.out.size))
          generalize World.alloc wr _ = W9 at *
          have hPT := Lib.hid PT
          clear PT
          have PT := hPT
          clear hPT hb VB kb1 kb2 LP PP0 PB0 PS0
          generalize wr.heap.size = gt at *
          have PT : Hid (Bx W9 gt (cd x p n 0) 6) := Lib.hid (by have := PT.out; rw [show p + - fo p n + x = cd x p n 0 by unfold cd; simp] at this; exact this)
          have HC : Hid (Bx W9 gt (cd x p n 0) 70) := Lib.hid (by obtain ⟨b, A, k, c, h3, h4⟩ := PT.out; exact ⟨b, A, k, c, h3, by have h5 := h4.le (k := 70) (by omega); exact h5⟩)
          clear PT
          obtain ⟨x1, X1, n1, c1, k1, k2, -, -, hv1⟩ := HC.out.cells
          obtain ⟨x2, X2, n2, c2, k3, k4, -, -, hv2⟩ := PP.out.cells
          have V1 := Lib.hid hv1; have V2 := Lib.hid hv2
          clear hv1 hv2
          cases hnr : nr (cd x p n 0) p n with
          | true =>
            have EU := Lib.hid (cd_un h1 hnr)
            go_upto_region 15 with (go_at_call 45; refine (rnear_any _ _ (cd x p n 0) p 70 4 n _ V1.out V2.out (by omega) (by omega) h1 h2).mono ?_; rw [hnr]; rintro e w7 ⟨rfl, hb⟩; have HC := Lib.hid (HC.out.below hb); have BW := Lib.hid (BW.out.trans (hb.mono BW.out.size)); clear hb k1 k2 k3 k4)
            obtain ⟨x3, X3, n3, c3, k1, k2, -, -, hv3⟩ := HC.out.cells
            have V3 := Lib.hid hv3
            clear hv3
            go_wp2_with (go_at_call 46; refine (small_any _ (cd x p n 0) 70 _ V3.out (by omega)).mono ?_; rintro e w8 ⟨rfl, hb⟩; have BW := Lib.hid (BW.out.trans (hb.mono BW.out.size)); clear hb)
            go_ret2
            exact ⟨by rw [EU.out]; rfl, BW.out⟩
          | false =>
            go_wp2_with (go_at_call 45; refine (rnear_any _ _ (cd x p n 0) p 70 4 n _ V1.out V2.out (by omega) (by omega) h1 h2).mono ?_; rw [hnr]; rintro e w7 ⟨rfl, hb⟩; have PP := Lib.hid (PP.out.below hb); have PB := Lib.hid (PB.out.below hb); have PS := Lib.hid (PS.out.below hb); have BW := Lib.hid (BW.out.trans (hb.mono BW.out.size)); clear hb k1 k2 k3 k4)
            go_roundg (3 - 1)
            case measure => omega
            case rel => exact ⟨1, by go_num, by omega, rfl, Lib.hid (fun j hj => by
              by_cases hjj : j < 0
              · exact HN.out j hjj
              · obtain rfl : j = 0 := by omega
                exact hnr), PP, PB, PS, BW⟩
        · have PP0 := PP; have PB0 := PB; have PS0 := PS
          go_upto_region 10 with fail
          have PT := Bx.new VB.out
          have hb := bel_al wr #[.bool xb, .slice Xb nb cb] 76
          have PP := Lib.hid (PP.out.below hb)
          have PB := Lib.hid (PB.out.below hb)
          have PS := Lib.hid (PS.out.below hb)
          have LT : Hid (w.heap.size ≤ wr.heap.size) := Lib.hid BW.out.size
          have LP := Lib.hid (PP.out.lt)
          have NP : Hid (wr.heap.size ≠ g3 ∧ wr.heap.size ≠ g ∧ wr.heap.size ≠ gs) := Lib.hid ⟨Nat.ne_of_gt PP0.out.lt, Nat.ne_of_gt PB0.out.lt, Nat.ne_of_gt PS0.out.lt⟩
          have BW := Lib.hid (BW.out.trans (hb.mono BW.out.size))
          generalize World.alloc wr _ = W9 at *
          have hPT := Lib.hid PT
          clear PT
          have PT := hPT
          clear hPT hb VB kb1 kb2 LP PP0 PB0 PS0
          generalize wr.heap.size = gt at *
          obtain ⟨yb, Yb, ny, cy, m1, m2, -, -, hvy⟩ := PB.out.cells
          obtain ⟨zb, Zb, nz, cz, m3, m4, -, -, hvz⟩ := PS.out.cells
          have VY := Lib.hid hvy; have VZ := Lib.hid hvz
          clear hvy hvz
          go_upto_region 12 with (go_at_call 42; refine (plus_big _ _ (p + - fo p n + x) (pw n) 6 (n + 4) _ VY.out VZ.out (by omega) (by omega)).mono ?_; rintro e w7 ⟨v7, rfl, b7, hb⟩; obtain ⟨s7, A7, n7, c7, rfl⟩ := b7.open_; have V7 := Lib.hid b7; have PT := Lib.hid (PT.out.below hb); have PP := Lib.hid (PP.out.below hb); have PB := Lib.hid (PB.out.below hb); have PS := Lib.hid (PS.out.below hb); have BW := Lib.hid (BW.out.trans (hb.mono BW.out.size)); obtain ⟨b8, A8, n8, c8, o1, o2, f1, f2, -⟩ := PT.out.cells; clear b7 hb m1 m2 m3 m4)
          obtain ⟨W10, hW10⟩ : ∃ W, W = (w7.setCell ⟨gt, 0, none⟩ (.bool s7)).setCell ⟨gt, 1, none⟩ (.slice A7 n7 c7) := ⟨_, rfl⟩
          rw [← hW10]
          have hBT : Bx W10 gt (cd x p n 1) (max 6 (n + 4) + 1) := by rw [hW10, show cd x p n 1 = p + - fo p n + x + pw n by unfold cd; simp]; exact PT.out.put V7.out
          have hPP : Bx W10 g3 p 4 := by rw [hW10]; exact PT.out.off PP.out NP.out.1
          have hPB : Bx W10 g (p + - fo p n + x) 6 := by rw [hW10]; exact PT.out.off PB.out NP.out.2.1
          have hPS : Bx W10 gs (pw n) (n + 4) := by rw [hW10]; exact PT.out.off PS.out NP.out.2.2
          have hBW : Below w.heap.size w W10 := by rw [hW10]; exact (BW.out.setCell (p := ⟨gt, 0, none⟩) LT.out _).setCell (p := ⟨gt, 1, none⟩) LT.out _
          have HBT := Lib.hid hBT; have HPP := Lib.hid hPP; have HPB := Lib.hid hPB; have HPS := Lib.hid hPS; have HBW := Lib.hid hBW
          clear hBT hPP hPB hPS hBW hW10 PT PP PB PS BW o1 o2 f1 f2
          have PT := HBT; have PP := HPP; have PB := HPB; have PS := HPS; have BW := HBW
          clear HBT HPP HPB HPS HBW
          have HC : Hid (Bx W10 gt (cd x p n 1) 70) := Lib.hid (by obtain ⟨b, A, k, c, h3, h4⟩ := PT.out; exact ⟨b, A, k, c, h3, by have h5 := h4.le (k := 70) (by omega); exact h5⟩)
          clear PT
          obtain ⟨x1, X1, n1, c1, k1, k2, -, -, hv1⟩ := HC.out.cells
          obtain ⟨x2, X2, n2, c2, k3, k4, -, -, hv2⟩ := PP.out.cells
          have V1 := Lib.hid hv1; have V2 := Lib.hid hv2
          clear hv1 hv2
          cases hnr : nr (cd x p n 1) p n with
          | true =>
            have EU := Lib.hid (cd_un h1 hnr)
            go_upto_region 15 with (go_at_call 45; refine (rnear_any _ _ (cd x p n 1) p 70 4 n _ V1.out V2.out (by omega) (by omega) h1 h2).mono ?_; rw [hnr]; rintro e w7 ⟨rfl, hb⟩; have HC := Lib.hid (HC.out.below hb); have BW := Lib.hid (BW.out.trans (hb.mono BW.out.size)); clear hb k1 k2 k3 k4)
            obtain ⟨x3, X3, n3, c3, k1, k2, -, -, hv3⟩ := HC.out.cells
            have V3 := Lib.hid hv3
            clear hv3
            go_wp2_with (go_at_call 46; refine (small_any _ (cd x p n 1) 70 _ V3.out (by omega)).mono ?_; rintro e w8 ⟨rfl, hb⟩; have BW := Lib.hid (BW.out.trans (hb.mono BW.out.size)); clear hb)
            go_ret2
            exact ⟨by rw [EU.out]; rfl, BW.out⟩
          | false =>
            go_wp2_with (go_at_call 45; refine (rnear_any _ _ (cd x p n 1) p 70 4 n _ V1.out V2.out (by omega) (by omega) h1 h2).mono ?_; rw [hnr]; rintro e w7 ⟨rfl, hb⟩; have PP := Lib.hid (PP.out.below hb); have PB := Lib.hid (PB.out.below hb); have PS := Lib.hid (PS.out.below hb); have BW := Lib.hid (BW.out.trans (hb.mono BW.out.size)); clear hb k1 k2 k3 k4)
            go_roundg (3 - 2)
            case measure => omega
            case rel => exact ⟨2, by go_num, by omega, rfl, Lib.hid (fun j hj => by
              by_cases hjj : j < 1
              · exact HN.out j hjj
              · obtain rfl : j = 1 := by omega
                exact hnr), PP, PB, PS, BW⟩
        · have PP0 := PP; have PB0 := PB; have PS0 := PS
          go_upto_region 10 with fail
          have PT := Bx.new VB.out
          have hb := bel_al wr #[.bool xb, .slice Xb nb cb] 76
          have PP := Lib.hid (PP.out.below hb)
          have PB := Lib.hid (PB.out.below hb)
          have PS := Lib.hid (PS.out.below hb)
          have LT : Hid (w.heap.size ≤ wr.heap.size) := Lib.hid BW.out.size
          have LP := Lib.hid (PP.out.lt)
          have NP : Hid (wr.heap.size ≠ g3 ∧ wr.heap.size ≠ g ∧ wr.heap.size ≠ gs) := Lib.hid ⟨Nat.ne_of_gt PP0.out.lt, Nat.ne_of_gt PB0.out.lt, Nat.ne_of_gt PS0.out.lt⟩
          have BW := Lib.hid (BW.out.trans (hb.mono BW.out.size))
          generalize World.alloc wr _ = W9 at *
          have hPT := Lib.hid PT
          clear PT
          have PT := hPT
          clear hPT hb VB kb1 kb2 LP PP0 PB0 PS0
          generalize wr.heap.size = gt at *
          obtain ⟨yb, Yb, ny, cy, hy, hvy⟩ := PB.out
          obtain ⟨zb, Zb, nz, cz, hz, hvz⟩ := PS.out
          have VY := Lib.hid hvy; have VZ := Lib.hid hvz
          have HS0 : Hid (∀ w', Below W9.heap.size W9 w' → w'.heap[g]? = some (.cells #[.bool yb, .slice Yb ny cy] 76 (0, 0)) ∧ w'.heap[gs]? = some (.cells #[.bool zb, .slice Zb nz cz] 76 (0, 0))) := Lib.hid (fun w' hb => ⟨(hb.block _ (whole_lt hy)).trans hy, (hb.block _ (whole_lt hz)).trans hz⟩)
          clear hvy hvz hy hz
          go_upto_region 13 with fail
          have HD : Below W9.heap.size W9 W9.drew := (Below.refl _ _).drew
          refine wp_region_held_drew (S := fun w' => w'.heap[g]? = some (.cells #[.bool yb, .slice Yb ny cy] 76 (0, 0)) ∧ w'.heap[gs]? = some (.cells #[.bool zb, .slice Zb nz cz] 76 (0, 0))) (by kernel_rfl) (HS0.out _ HD) (fun hHeld => ?_)
          refine wpAnyH_take (i := 0) (v := .agg #[.bool yb, .slice Yb ny cy]) rfl (by kernel_rfl) (by kernel_rfl) (by kernel_rfl) (fun _ _ _ h => h) (Or.inl ⟨by rfl, fun w hSw => by have q1 := whole_cell hSw.1 0; have q2 := whole_cell hSw.1 1; go_simp⟩) hHeld ?_
          try simp only [Act.put, List.setIfInBounds_toArray, List.set_cons_zero, List.set_cons_succ, List.getElem_toArray, List.getElem_cons_succ, List.getElem_cons_zero]
          refine wpAnyH_take (i := 1) (v := .agg #[.bool zb, .slice Zb nz cz]) rfl (by kernel_rfl) (by kernel_rfl) (by kernel_rfl) (fun _ _ _ h => h) (Or.inl ⟨by rfl, fun w hSw => by have q1 := whole_cell hSw.2 0; have q2 := whole_cell hSw.2 1; go_simp⟩) hHeld ?_
          try simp only [Act.put, List.setIfInBounds_toArray, List.set_cons_zero, List.set_cons_succ, List.getElem_toArray, List.getElem_cons_succ, List.getElem_cons_zero]
          refine wpAnyH_ready (rs := [2]) (by kernel_rfl) (by simp) ?_
          refine AllReadyH.cons rfl (fun K hK => ?_) AllReadyH.nil
          have HK := Lib.hid hK; clear hK
          go_simp
          (go_at_call 43; refine (minus_big _ (pw n) (n + 4) _ (VZ.out.below HD) (by omega)).mono ?_; rintro e w6 ⟨v6, rfl, b6, hb⟩; have V6 := Lib.hid b6; have B6 : Below W9.heap.size W9 w6 := HD.trans (hb.mono HD.size); clear b6 hb)
          refine HK.out _ _ (HS0.out _ B6) (fun hHeld => ?_)
          clear HK K
          try simp only [Act.put, List.setIfInBounds_toArray, List.set_cons_zero, List.set_cons_succ, List.getElem_toArray, List.getElem_cons_succ, List.getElem_cons_zero]
          refine wpAnyH_ready (rs := [3]) (by kernel_rfl) (by simp) ?_
          refine AllReadyH.cons rfl (fun K hK => ?_) AllReadyH.nil
          have HK := Lib.hid hK; clear hK
          go_simp
          (go_at_call 42; refine (plus_big _ _ (p + - fo p n + x) (- pw n) 6 (n + 4) _ (VY.out.below B6) V6.out (by omega) (by omega)).mono ?_; rintro e w7 ⟨v7, rfl, b7, hb⟩; obtain ⟨s7, A7, n7, c7, rfl⟩ := b7.open_; have V7 := Lib.hid b7; have B7 : Below W9.heap.size W9 w7 := B6.trans (hb.mono B6.size); clear b7 hb)
          refine HK.out _ _ (HS0.out _ B7) (fun hHeld => ?_)
          clear HK K
          try simp only [Act.put, List.setIfInBounds_toArray, List.set_cons_zero, List.set_cons_succ, List.getElem_toArray, List.getElem_cons_succ, List.getElem_cons_zero]
          have hb := B7
          have PT := Lib.hid (PT.out.below hb)
          have PP := Lib.hid (PP.out.below hb)
          have PB := Lib.hid (PB.out.below hb)
          have PS := Lib.hid (PS.out.below hb)
          have BW := Lib.hid (BW.out.trans (hb.mono BW.out.size))
          clear hb
          obtain ⟨b8, A8, n8, c8, o1, o2, f1, f2, -⟩ := PT.out.cells
          refine wpAnyH_ready (rs := [4]) (by kernel_rfl) (by simp) ?_
          refine AllReadyH.cons rfl (fun K hK => ?_) AllReadyH.nil
          have HK := Lib.hid hK; clear hK
          go_simp
          skip
          refine HK.out _ _ (⟨(by rw [set_off NP.out.2.1, set_off NP.out.2.1]; exact (HS0.out _ B7).1), (by rw [set_off NP.out.2.2, set_off NP.out.2.2]; exact (HS0.out _ B7).2)⟩) (fun hHeld => ?_)
          clear HK K
          try simp only [Act.put, List.setIfInBounds_toArray, List.set_cons_zero, List.set_cons_succ, List.getElem_toArray, List.getElem_cons_succ, List.getElem_cons_zero]
          refine wpAnyH_done (by kernel_rfl) ?_ _
          obtain ⟨W10, hW10⟩ : ∃ W, W = (w7.setCell ⟨gt, 0, none⟩ (.bool s7)).setCell ⟨gt, 1, none⟩ (.slice A7 n7 c7) := ⟨_, rfl⟩
          rw [← hW10]
          have hBT : Bx W10 gt (cd x p n 2) (max 6 (n + 4) + 1) := by rw [hW10, show cd x p n 2 = p + - fo p n + x + - pw n by unfold cd; simp]; exact PT.out.put V7.out
          have hPP : Bx W10 g3 p 4 := by rw [hW10]; exact PT.out.off PP.out NP.out.1
          have hPB : Bx W10 g (p + - fo p n + x) 6 := by rw [hW10]; exact PT.out.off PB.out NP.out.2.1
          have hPS : Bx W10 gs (pw n) (n + 4) := by rw [hW10]; exact PT.out.off PS.out NP.out.2.2
          have hBW : Below w.heap.size w W10 := by rw [hW10]; exact (BW.out.setCell (p := ⟨gt, 0, none⟩) LT.out _).setCell (p := ⟨gt, 1, none⟩) LT.out _
          have HBT := Lib.hid hBT; have HPP := Lib.hid hPP; have HPB := Lib.hid hPB; have HPS := Lib.hid hPS; have HBW := Lib.hid hBW
          clear hBT hPP hPB hPS hBW hW10 PT PP PB PS BW o1 o2 f1 f2 HS0 B6 B7 HD
          have PT := HBT; have PP := HPP; have PB := HPB; have PS := HPS; have BW := HBW
          clear HBT HPP HPB HPS HBW
          have HC : Hid (Bx W10 gt (cd x p n 2) 70) := Lib.hid (by obtain ⟨b, A, k, c, h3, h4⟩ := PT.out; exact ⟨b, A, k, c, h3, by have h5 := h4.le (k := 70) (by omega); exact h5⟩)
          clear PT
          obtain ⟨x1, X1, n1, c1, k1, k2, -, -, hv1⟩ := HC.out.cells
          obtain ⟨x2, X2, n2, c2, k3, k4, -, -, hv2⟩ := PP.out.cells
          have V1 := Lib.hid hv1; have V2 := Lib.hid hv2
          clear hv1 hv2
          cases hnr : nr (cd x p n 2) p n with
          | true =>
            have EU := Lib.hid (cd_un h1 hnr)
            go_upto_region 15 with (go_at_call 45; refine (rnear_any _ _ (cd x p n 2) p 70 4 n _ V1.out V2.out (by omega) (by omega) h1 h2).mono ?_; rw [hnr]; rintro e w7 ⟨rfl, hb⟩; have HC := Lib.hid (HC.out.below hb); have BW := Lib.hid (BW.out.trans (hb.mono BW.out.size)); clear hb k1 k2 k3 k4)
            obtain ⟨x3, X3, n3, c3, k1, k2, -, -, hv3⟩ := HC.out.cells
            have V3 := Lib.hid hv3
            clear hv3
            go_wp2_with (go_at_call 46; refine (small_any _ (cd x p n 2) 70 _ V3.out (by omega)).mono ?_; rintro e w8 ⟨rfl, hb⟩; have BW := Lib.hid (BW.out.trans (hb.mono BW.out.size)); clear hb)
            go_ret2
            exact ⟨by rw [EU.out]; rfl, BW.out⟩
          | false =>
            go_wp2_with (go_at_call 45; refine (rnear_any _ _ (cd x p n 2) p 70 4 n _ V1.out V2.out (by omega) (by omega) h1 h2).mono ?_; rw [hnr]; rintro e w7 ⟨rfl, hb⟩; have PP := Lib.hid (PP.out.below hb); have PB := Lib.hid (PB.out.below hb); have PS := Lib.hid (PS.out.below hb); have BW := Lib.hid (BW.out.trans (hb.mono BW.out.size)); clear hb k1 k2 k3 k4)
            go_roundg (3 - 3)
            case measure => omega
            case rel => exact ⟨3, by go_num, by omega, rfl, Lib.hid (fun j hj => by
              by_cases hjj : j < 2
              · exact HN.out j hjj
              · obtain rfl : j = 2 := by omega
                exact hnr), PP, PB, PS, BW⟩
      · obtain rfl : K = 3 := by omega
        exact (cd_some h1 HX0.out HX.out HN.out).elim

theorem rbits_any (x b p : Int) (w : World) (hx0 : 0 ≤ x) (hp : fits p) :
    Calls Try.prog 20 #[.int .u64 x, .int .i64 b, .int .i64 p] w fun e w' => e = .returned (.tuple #[.int .i64 (bsV x b p), .int .i64 (bsE x b p)]) ∧ Below w.heap.size w w' := by
  cases h : okb b with
  | false => rw [(bs_no h).1, (bs_no h).2]; exact rbits_no x b p w h
  | true =>
    obtain ⟨n, rfl, h1, h2⟩ := okb_of h
    by_cases hb : x < pw n
    · rw [bsE_n h1 h2 hb, bsV_n h1 h2 hb]; exact rbits_yes x p n w h1 h2 hx0 hb hp
    · rw [(bs_big (by omega)).1, (bs_big (by omega)).2]; exact rbits_big x p n w h1 h2 (by omega)
end Go.Proofs.Ytbffpallhofonaa
