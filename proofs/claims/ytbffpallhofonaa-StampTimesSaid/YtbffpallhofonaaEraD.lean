/- The document's answer: Near. -/
import Derived.Test.YtbffpallhofonaaEraC
namespace Go.Proofs.Ytbffpallhofonaa
open Go.RowKit
set_option linter.unusedVariables false
set_option linter.unusedSimpArgs false

theorem box_two (w : World) (b1 b2 : Bool) (A1 A2 : Option Addr) (n1 c1 n2 c2 : Nat) (t p : Int) (k l : Nat) (h1 : BV w (.agg #[.bool b1, .slice A1 n1 c1]) t k) (h2 : BV w (.agg #[.bool b2, .slice A2 n2 c2]) p l) :
    ∃ W0, W0 = (w.alloc (.cells #[.bool b1, .slice A1 n1 c1] 76)).alloc (.cells #[.bool b2, .slice A2 n2 c2] 76) ∧ Bx W0 w.heap.size t k ∧ Bx W0 (w.heap.size + 1) p l ∧ Below w.heap.size w W0 := by
  have e := bel_al w #[.bool b1, .slice A1 n1 c1] 76
  have f := bel_al (w.alloc (.cells #[.bool b1, .slice A1 n1 c1] 76)) #[.bool b2, .slice A2 n2 c2] 76
  refine ⟨_, rfl, (Bx.new h1).below f, ?_, e.trans (f.mono e.size)⟩
  have := Bx.new (h2.below e)
  rw [World.size_alloc] at this
  exact this
theorem Bx.cell0 {w : World} {p : Nat} {z : Int} {k : Nat} (h : Bx w p z k) : ∃ (b : Bool) (A : Option Addr) (n c : Nat), BV w (.agg #[.bool b, .slice A n c]) z k ∧ ∀ w', Below w.heap.size w w' → w'.cell? ⟨p, 0, none⟩ = some (.bool b) ∧ w'.cell? ⟨p, 1, none⟩ = some (.slice A n c) := by
  obtain ⟨b, A, n, c, h1, h2⟩ := h
  exact ⟨b, A, n, c, h2, fun w' hb => ⟨whole_cell ((hb.block _ (whole_lt h1)).trans h1) 0, whole_cell ((hb.block _ (whole_lt h1)).trans h1) 1⟩⟩

set_option maxRecDepth 100000 in
set_option maxHeartbeats 6400000 in
theorem rnear_yes (v u : Value) (t p : Int) (k l n : Nat) (w : World) (hv : BV w v t k) (hu : BV w u p l) (hk : k ≤ 200) (hl : l ≤ 200) (h1 : 1 ≤ n) (h2 : n ≤ 62) (hc : p - hf n ≤ t) :
    Calls Try.prog 45 #[v, u, .int .i64 n] w fun e w' => e = .returned (.bool (decide (t < p + hf n))) ∧ Below w.heap.size w w' := by
  obtain ⟨b1, A1, n1, c1, rfl⟩ := hv.open_
  obtain ⟨b2, A2, n2, c2, rfl⟩ := hu.open_
  obtain ⟨W0, hW0, P0, Q0, B0⟩ := box_two w b1 b2 A1 A2 n1 c1 n2 c2 t p k l hv hu
  have P := Lib.hid P0; have Q := Lib.hid Q0; have B := Lib.hid B0
  obtain ⟨m, rfl⟩ : ∃ m, n = m + 1 := ⟨n - 1, by omega⟩
  have e1 : IntKind.i64.wrap (((m + 1 : Nat) : Int) - 1) = (m : Int) := by rw [IntWalk.i64_in _ (by omega)]; omega
  have HPw := Lib.hid (fun w => power_any m w (by omega))
  have hm : m ≤ 61 := by omega
  have eh : hf (m + 1) = pw m := rfl
  rw [eh] at hc ⊢
  have HL : Hid (decide (t < p + - pw m) = false) := Lib.hid (decide_eq_false (by omega))
  clear P0 Q0 B0 hv hu hc
  go_enter Try.func45, Try.ntmps45
  go_upto_region 1 with fail
  rw [← hW0]; clear hW0
  go_upto_region 2 with (go_at_call 44; refine (HPw.out _).mono ?_; rintro e w3 ⟨v3, rfl, b3, hb3⟩; obtain ⟨s3, A3, n3, c3, rfl⟩ := b3.open_; have V3 := Lib.hid b3; have P3 := Lib.hid (P.out.below hb3); have Q3 := Lib.hid (Q.out.below hb3); have B3 := Lib.hid (B.out.trans (hb3.mono B.out.size)); clear b3 hb3)
  have R4 := Bx.new V3.out
  have hb := bel_al w3 #[.bool s3, .slice A3 n3 c3] 76
  have P4 := Lib.hid (P3.out.below hb)
  have Q4 := Lib.hid (Q3.out.below hb)
  have B4 := Lib.hid (B3.out.trans (hb.mono B3.out.size))
  generalize World.alloc w3 _ = W4 at *
  have R4 := Lib.hid R4
  clear P3 Q3 B3 V3 hb P Q B HPw
  obtain ⟨x1, X1, xn1, xc1, VT, KT⟩ := P4.out.cell0
  obtain ⟨x2, X2, xn2, xc2, VP, KP⟩ := Q4.out.cell0
  obtain ⟨x3, X3, xn3, xc3, VH, KH⟩ := R4.out.cell0
  have VT := Lib.hid VT; have VP := Lib.hid VP; have VH := Lib.hid VH
  have KA : ∀ w', Below W4.heap.size W4 w' → w'.cell? ⟨w.heap.size, 0, none⟩ = some (.bool x1) ∧ w'.cell? ⟨w.heap.size, 1, none⟩ = some (.slice X1 xn1 xc1) ∧ w'.cell? ⟨w.heap.size + 1, 0, none⟩ = some (.bool x2) ∧ w'.cell? ⟨w.heap.size + 1, 1, none⟩ = some (.slice X2 xn2 xc2) ∧ w'.cell? ⟨w3.heap.size, 0, none⟩ = some (.bool x3) ∧ w'.cell? ⟨w3.heap.size, 1, none⟩ = some (.slice X3 xn3 xc3) ∧ Below W4.heap.size W4 w' := fun w' hb => ⟨(KT w' hb).1, (KT w' hb).2, (KP w' hb).1, (KP w' hb).2, (KH w' hb).1, (KH w' hb).2, hb⟩
  have KA := Lib.hid KA
  clear KT KP KH P4 Q4 R4
  generalize w3.heap.size = g3 at *
  clear w3
  go_region_held3 (fun w' => w'.cell? ⟨w.heap.size, 0, none⟩ = some (.bool x1) ∧ w'.cell? ⟨w.heap.size, 1, none⟩ = some (.slice X1 xn1 xc1) ∧ w'.cell? ⟨w.heap.size + 1, 0, none⟩ = some (.bool x2) ∧ w'.cell? ⟨w.heap.size + 1, 1, none⟩ = some (.slice X2 xn2 xc2) ∧ w'.cell? ⟨g3, 0, none⟩ = some (.bool x3) ∧ w'.cell? ⟨g3, 1, none⟩ = some (.slice X3 xn3 xc3) ∧ Below W4.heap.size W4 w')
    (first | exact KA.out _ (Below.refl _ _).drew | exact KA.out _ (by assumption))
    (first
      | (go_at_call 62; go_split_ands; refine (less_big _ _ t (p + pw m) k (max l (m + 4) + 1) _ (VT.out.below ?_) VQ.out (by omega) (by omega)).mono ?_; assumption; rintro e w5 ⟨rfl, hb⟩; have hB5 : Below W4.heap.size W4 w5 := (Below.trans (by assumption) (hb.mono (Below.size (w := W4) (B := W4.heap.size) (by assumption)))); clear hb)
      | (go_at_call_of 42 (Value.slice X3 xn3 xc3); go_split_ands; refine (plus_big _ _ p (pw m) l (m + 4) _ (VP.out.below ?_) (VH.out.below ?_) (by omega) (by omega)).mono ?_; assumption; assumption; rintro e w6 ⟨v6, rfl, b6, hb⟩; have hB6 : Below W4.heap.size W4 w6 := (Below.trans (by assumption) (hb.mono (Below.size (w := W4) (B := W4.heap.size) (by assumption)))); have VQ := Lib.hid b6; clear b6 hb)
      | (go_at_call_of 43 (Value.slice X3 xn3 xc3); go_split_ands; refine (minus_big _ (pw m) (m + 4) _ (VH.out.below ?_) (by omega)).mono ?_; assumption; rintro e w7 ⟨v7, rfl, b7, hb⟩; have hB7 : Below W4.heap.size W4 w7 := (Below.trans (by assumption) (hb.mono (Below.size (w := W4) (B := W4.heap.size) (by assumption)))); have VM := Lib.hid b7; clear b7 hb)
      | (go_at_call 42; go_split_ands; refine (plus_big _ _ p (- pw m) l (m + 4) _ (VP.out.below ?_) VM.out (by omega) (by omega)).mono ?_; assumption; rintro e w8 ⟨v8, rfl, b8, hb⟩; have hB8 : Below W4.heap.size W4 w8 := (Below.trans (by assumption) (hb.mono (Below.size (w := W4) (B := W4.heap.size) (by assumption)))); have VN := Lib.hid b8; clear b8 hb)
      | (go_at_call 62; go_split_ands; refine (less_big _ _ t (p + - pw m) k (max l (m + 4) + 1) _ (VT.out.below ?_) VN.out (by omega) (by omega)).mono ?_; assumption; rw [HL.out]; rintro e w9 ⟨rfl, hb⟩; have hB9 : Below W4.heap.size W4 w9 := (Below.trans (by assumption) (hb.mono (Below.size (w := W4) (B := W4.heap.size) (by assumption)))); clear hb))
  go_wp2_with fail
  go_ret
  exact ⟨rfl, B4.out.trans (Below.mono (by assumption) B4.out.size)⟩

set_option maxRecDepth 100000 in
set_option maxHeartbeats 6400000 in
theorem rnear_no (v u : Value) (t p : Int) (k l n : Nat) (w : World) (hv : BV w v t k) (hu : BV w u p l) (hk : k ≤ 200) (hl : l ≤ 200) (h1 : 1 ≤ n) (h2 : n ≤ 62) (hc : ¬ p - hf n ≤ t) :
    Calls Try.prog 45 #[v, u, .int .i64 n] w fun e w' => e = .returned (.bool false) ∧ Below w.heap.size w w' := by
  obtain ⟨b1, A1, n1, c1, rfl⟩ := hv.open_
  obtain ⟨b2, A2, n2, c2, rfl⟩ := hu.open_
  obtain ⟨W0, hW0, P0, Q0, B0⟩ := box_two w b1 b2 A1 A2 n1 c1 n2 c2 t p k l hv hu
  have P := Lib.hid P0; have Q := Lib.hid Q0; have B := Lib.hid B0
  obtain ⟨m, rfl⟩ : ∃ m, n = m + 1 := ⟨n - 1, by omega⟩
  have e1 : IntKind.i64.wrap (((m + 1 : Nat) : Int) - 1) = (m : Int) := by rw [IntWalk.i64_in _ (by omega)]; omega
  have HPw := Lib.hid (fun w => power_any m w (by omega))
  have hm : m ≤ 61 := by omega
  have eh : hf (m + 1) = pw m := rfl
  rw [eh] at hc
  have HL : Hid (decide (t < p + - pw m) = true) := Lib.hid (decide_eq_true (by omega))
  clear P0 Q0 B0 hv hu hc
  go_enter Try.func45, Try.ntmps45
  go_upto_region 1 with fail
  rw [← hW0]; clear hW0
  go_upto_region 2 with (go_at_call 44; refine (HPw.out _).mono ?_; rintro e w3 ⟨v3, rfl, b3, hb3⟩; obtain ⟨s3, A3, n3, c3, rfl⟩ := b3.open_; have V3 := Lib.hid b3; have P3 := Lib.hid (P.out.below hb3); have Q3 := Lib.hid (Q.out.below hb3); have B3 := Lib.hid (B.out.trans (hb3.mono B.out.size)); clear b3 hb3)
  have R4 := Bx.new V3.out
  have hb := bel_al w3 #[.bool s3, .slice A3 n3 c3] 76
  have P4 := Lib.hid (P3.out.below hb)
  have Q4 := Lib.hid (Q3.out.below hb)
  have B4 := Lib.hid (B3.out.trans (hb.mono B3.out.size))
  generalize World.alloc w3 _ = W4 at *
  have R4 := Lib.hid R4
  clear P3 Q3 B3 V3 hb P Q B HPw
  obtain ⟨x1, X1, xn1, xc1, VT, KT⟩ := P4.out.cell0
  obtain ⟨x2, X2, xn2, xc2, VP, KP⟩ := Q4.out.cell0
  obtain ⟨x3, X3, xn3, xc3, VH, KH⟩ := R4.out.cell0
  have VT := Lib.hid VT; have VP := Lib.hid VP; have VH := Lib.hid VH
  have KA : ∀ w', Below W4.heap.size W4 w' → w'.cell? ⟨w.heap.size, 0, none⟩ = some (.bool x1) ∧ w'.cell? ⟨w.heap.size, 1, none⟩ = some (.slice X1 xn1 xc1) ∧ w'.cell? ⟨w.heap.size + 1, 0, none⟩ = some (.bool x2) ∧ w'.cell? ⟨w.heap.size + 1, 1, none⟩ = some (.slice X2 xn2 xc2) ∧ w'.cell? ⟨w3.heap.size, 0, none⟩ = some (.bool x3) ∧ w'.cell? ⟨w3.heap.size, 1, none⟩ = some (.slice X3 xn3 xc3) ∧ Below W4.heap.size W4 w' := fun w' hb => ⟨(KT w' hb).1, (KT w' hb).2, (KP w' hb).1, (KP w' hb).2, (KH w' hb).1, (KH w' hb).2, hb⟩
  have KA := Lib.hid KA
  clear KT KP KH P4 Q4 R4
  generalize w3.heap.size = g3 at *
  clear w3
  have HD : Below W4.heap.size W4 W4.drew := (Below.refl _ _).drew
  refine wp_region_held_drew (S := (fun w' => w'.cell? ⟨w.heap.size, 0, none⟩ = some (.bool x1) ∧ w'.cell? ⟨w.heap.size, 1, none⟩ = some (.slice X1 xn1 xc1) ∧ w'.cell? ⟨w.heap.size + 1, 0, none⟩ = some (.bool x2) ∧ w'.cell? ⟨w.heap.size + 1, 1, none⟩ = some (.slice X2 xn2 xc2) ∧ w'.cell? ⟨g3, 0, none⟩ = some (.bool x3) ∧ w'.cell? ⟨g3, 1, none⟩ = some (.slice X3 xn3 xc3) ∧ Below W4.heap.size W4 w')) (by kernel_rfl) (KA.out _ HD) (fun hHeld => ?_)
  refine wpAnyH_take (i := 0) (v := .agg #[.bool x1, .slice X1 xn1 xc1]) rfl (by kernel_rfl) (by kernel_rfl) (by kernel_rfl) (fun _ _ _ h => h) (Or.inl ⟨by rfl, fun w hSw => by obtain ⟨q1, q2, q3, q4, q5, q6, -⟩ := hSw; go_simp⟩) hHeld ?_
  try simp only [Act.put, List.setIfInBounds_toArray, List.set_cons_zero, List.set_cons_succ, List.getElem_toArray, List.getElem_cons_succ, List.getElem_cons_zero]
  refine wpAnyH_take (i := 1) (v := .agg #[.bool x2, .slice X2 xn2 xc2]) rfl (by kernel_rfl) (by kernel_rfl) (by kernel_rfl) (fun _ _ _ h => h) (Or.inl ⟨by rfl, fun w hSw => by obtain ⟨q1, q2, q3, q4, q5, q6, -⟩ := hSw; go_simp⟩) hHeld ?_
  try simp only [Act.put, List.setIfInBounds_toArray, List.set_cons_zero, List.set_cons_succ, List.getElem_toArray, List.getElem_cons_succ, List.getElem_cons_zero]
  refine wpAnyH_take (i := 2) (v := .agg #[.bool x3, .slice X3 xn3 xc3]) rfl (by kernel_rfl) (by kernel_rfl) (by kernel_rfl) (fun _ _ _ h => h) (Or.inl ⟨by rfl, fun w hSw => by obtain ⟨q1, q2, q3, q4, q5, q6, -⟩ := hSw; go_simp⟩) hHeld ?_
  try simp only [Act.put, List.setIfInBounds_toArray, List.set_cons_zero, List.set_cons_succ, List.getElem_toArray, List.getElem_cons_succ, List.getElem_cons_zero]
  refine wpAnyH_ready (rs := [3]) (by kernel_rfl) (by simp) ?_
  refine AllReadyH.cons rfl (fun K hK => ?_) AllReadyH.nil
  have HK := Lib.hid hK; clear hK
  go_simp
  (go_at_call 43; refine (minus_big _ (pw m) (m + 4) _ (VH.out.below ?_) (by omega)).mono ?_; exact HD; rintro e w7 ⟨v7, rfl, b7, hb⟩; have hB7 : Below W4.heap.size W4 w7 := HD.trans (hb.mono HD.size); have VM := Lib.hid b7; clear b7 hb)
  refine HK.out _ _ (KA.out _ hB7) (fun hHeld => ?_)
  clear HK K
  try simp only [Act.put, List.setIfInBounds_toArray, List.set_cons_zero, List.set_cons_succ, List.getElem_toArray, List.getElem_cons_succ, List.getElem_cons_zero]
  refine wpAnyH_ready (rs := [4]) (by kernel_rfl) (by simp) ?_
  refine AllReadyH.cons rfl (fun K hK => ?_) AllReadyH.nil
  have HK := Lib.hid hK; clear hK
  go_simp
  (go_at_call 42; refine (plus_big _ _ p (- pw m) l (m + 4) _ (VP.out.below ?_) VM.out (by omega) (by omega)).mono ?_; exact hB7; rintro e w8 ⟨v8, rfl, b8, hb⟩; have hB8 : Below W4.heap.size W4 w8 := hB7.trans (hb.mono hB7.size); have VN := Lib.hid b8; clear b8 hb)
  refine HK.out _ _ (KA.out _ hB8) (fun hHeld => ?_)
  clear HK K
  try simp only [Act.put, List.setIfInBounds_toArray, List.set_cons_zero, List.set_cons_succ, List.getElem_toArray, List.getElem_cons_succ, List.getElem_cons_zero]
  refine wpAnyH_ready (rs := [5]) (by kernel_rfl) (by simp) ?_
  refine AllReadyH.cons rfl (fun K hK => ?_) AllReadyH.nil
  have HK := Lib.hid hK; clear hK
  go_simp
  (go_at_call 62; refine (less_big _ _ t (p + - pw m) k (max l (m + 4) + 1) _ (VT.out.below ?_) VN.out (by omega) (by omega)).mono ?_; exact hB8; rw [HL.out]; rintro e w9 ⟨rfl, hb⟩; have hB9 : Below W4.heap.size W4 w9 := hB8.trans (hb.mono hB8.size); clear hb)
  refine HK.out _ _ (KA.out _ hB9) (fun hHeld => ?_)
  clear HK K
  try simp only [Act.put, List.setIfInBounds_toArray, List.set_cons_zero, List.set_cons_succ, List.getElem_toArray, List.getElem_cons_succ, List.getElem_cons_zero]
  refine wpAnyH_take (i := 6) (v := .bool false) rfl (by kernel_rfl) (by kernel_rfl) (by kernel_rfl) (fun _ _ _ h => h) (Or.inl ⟨by rfl, fun w hSw => by go_simp⟩) hHeld ?_
  try simp only [Act.put, List.setIfInBounds_toArray, List.set_cons_zero, List.set_cons_succ, List.getElem_toArray, List.getElem_cons_succ, List.getElem_cons_zero]
  refine wpAnyH_take (i := 7) (v := .bool false) rfl (by kernel_rfl) (by kernel_rfl) (by kernel_rfl) (fun _ _ _ h => h) (Or.inl ⟨by rfl, fun w hSw => by go_simp⟩) hHeld ?_
  try simp only [Act.put, List.setIfInBounds_toArray, List.set_cons_zero, List.set_cons_succ, List.getElem_toArray, List.getElem_cons_succ, List.getElem_cons_zero]
  refine wpAnyH_take (i := 8) (v := undef) rfl (by kernel_rfl) (by kernel_rfl) (by kernel_rfl) (fun _ _ _ h => h) (Or.inr ⟨by rfl, rfl⟩) hHeld ?_
  try simp only [Act.put, List.setIfInBounds_toArray, List.set_cons_zero, List.set_cons_succ, List.getElem_toArray, List.getElem_cons_succ, List.getElem_cons_zero]
  refine wpAnyH_take (i := 9) (v := undef) rfl (by kernel_rfl) (by kernel_rfl) (by kernel_rfl) (fun _ _ _ h => h) (Or.inr ⟨by rfl, rfl⟩) hHeld ?_
  try simp only [Act.put, List.setIfInBounds_toArray, List.set_cons_zero, List.set_cons_succ, List.getElem_toArray, List.getElem_cons_succ, List.getElem_cons_zero]
  refine wpAnyH_take (i := 10) (v := undef) rfl (by kernel_rfl) (by kernel_rfl) (by kernel_rfl) (fun _ _ _ h => h) (Or.inr ⟨by rfl, rfl⟩) hHeld ?_
  try simp only [Act.put, List.setIfInBounds_toArray, List.set_cons_zero, List.set_cons_succ, List.getElem_toArray, List.getElem_cons_succ, List.getElem_cons_zero]
  refine wpAnyH_take (i := 11) (v := undef) rfl (by kernel_rfl) (by kernel_rfl) (by kernel_rfl) (fun _ _ _ h => h) (Or.inr ⟨by rfl, rfl⟩) hHeld ?_
  try simp only [Act.put, List.setIfInBounds_toArray, List.set_cons_zero, List.set_cons_succ, List.getElem_toArray, List.getElem_cons_succ, List.getElem_cons_zero]
  refine wpAnyH_take (i := 12) (v := undef) rfl (by kernel_rfl) (by kernel_rfl) (by kernel_rfl) (fun _ _ _ h => h) (Or.inr ⟨by rfl, rfl⟩) hHeld ?_
  try simp only [Act.put, List.setIfInBounds_toArray, List.set_cons_zero, List.set_cons_succ, List.getElem_toArray, List.getElem_cons_succ, List.getElem_cons_zero]
  refine wpAnyH_take (i := 13) (v := .bool false) rfl (by kernel_rfl) (by kernel_rfl) (by kernel_rfl) (fun _ _ _ h => h) (Or.inl ⟨by rfl, fun w hSw => by go_simp⟩) hHeld ?_
  try simp only [Act.put, List.setIfInBounds_toArray, List.set_cons_zero, List.set_cons_succ, List.getElem_toArray, List.getElem_cons_succ, List.getElem_cons_zero]
  refine wpAnyH_take (i := 14) (v := .bool false) rfl (by kernel_rfl) (by kernel_rfl) (by kernel_rfl) (fun _ _ _ h => h) (Or.inl ⟨by rfl, fun w hSw => by go_simp⟩) hHeld ?_
  try simp only [Act.put, List.setIfInBounds_toArray, List.set_cons_zero, List.set_cons_succ, List.getElem_toArray, List.getElem_cons_succ, List.getElem_cons_zero]
  refine wpAnyH_done (by kernel_rfl) ?_ _
  go_wp2_with fail
  go_ret
  exact ⟨rfl, B4.out.trans (Below.mono hB9 B4.out.size)⟩

theorem rnear_any (v u : Value) (t p : Int) (k l n : Nat) (w : World) (hv : BV w v t k) (hu : BV w u p l) (hk : k ≤ 200) (hl : l ≤ 200) (h1 : 1 ≤ n) (h2 : n ≤ 62) :
    Calls Try.prog 45 #[v, u, .int .i64 n] w fun e w' => e = .returned (.bool (nr t p n)) ∧ Below w.heap.size w w' := by
  unfold nr
  by_cases hc : p - hf n ≤ t
  · rw [decide_eq_true hc, Bool.true_and]
    exact rnear_yes v u t p k l n w hv hu hk hl h1 h2 hc
  · rw [decide_eq_false hc, Bool.false_and]
    exact rnear_no v u t p k l n w hv hu hk hl h1 h2 hc
end Go.Proofs.Ytbffpallhofonaa
