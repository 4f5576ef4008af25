/- What the specification works out of any text: the walk. -/
import Derived.Test.YtijopeacgpmicaaDoorShaX
namespace Go.Proofs.YtijopeacgpmicaaDoor
open Go.RowKit Go.WideShapes Go.ChangeShapes
set_option linter.unusedVariables false
set_option linter.unusedSimpArgs false

/-- What the law's great region keeps in sight: the digest's block, the words'. -/
structure Sy (w6 : World) (g d : Nat) (s : St) (V : List UInt8) (w' : World) : Prop where
  st : Sb w' d s
  dg : w'.rangeAt g 0 (bc V)
  be : Below w6.heap.size w6 w'

set_option maxRecDepth 100000 in
set_option maxHeartbeats 2000000 in
theorem sums_walk (A : Option Addr) (l : List UInt8) (c : Nat) (w : World) (hst : Start w) (h : Rb w A l) (hA : A = none → c = 0) (hc : l.length ≤ c) :
    Calls Tryd.prog 3 #[.slice A l.length c] w fun e w' => e = .returned (.bool true) ∧ Below w.heap.size w w' := by
  have HA1 := Lib.hid (alive9_any w hst)
  by_cases h1 : 2000 < l.length
  · have h1' : (2000 : Int) < (l.length : Int) := by omega
    clear h hA hc hst
    go_enter Tryd.func3, Tryd.ntmps3
    go_wp2_with (go_at_call 6; refine HA1.out.mono ?_; rintro e w1 ⟨rfl, hb⟩; have HB1 := Lib.hid hb; clear hb)
    go_ret
    exact ⟨rfl, HB1.out⟩
  · have h1' : ¬ (2000 : Int) < (l.length : Int) := by omega
    have H := Lib.hid h; have HA := Lib.hid hA; have HC := Lib.hid hc; have HST := Lib.hid hst
    have H1 := Lib.hid h1
    obtain ⟨N, hN⟩ : ∃ N, N = l.length := ⟨_, rfl⟩
    rw [← hN] at h1' ⊢
    have HN := Lib.hid hN
    clear h hA hc hst h1 hN
    obtain ⟨s, hs⟩ : ∃ s, s = dig l := ⟨_, rfl⟩
    obtain ⟨V, hV⟩ : ∃ V, V = byt s := ⟨_, rfl⟩
    have HBL := Lib.hid (show V.length = 20 by rw [hV]; exact byt_len _)
    have HV := Lib.hid hV; have HSD := Lib.hid hs
    clear hV hs
    go_enter Tryd.func3, Tryd.ntmps3
    go_upto_region 5 with (go_at_call 6; refine HA1.out.mono ?_; rintro e w1 ⟨rfl, hb⟩; have HB1 := Lib.hid hb; clear hb)
    go_upto_region 6 with
      (refine app_nm (.tmp 11) (.tmp 12) w1.heap.size _ [] (own_nil w1) A l N c HN.out.symm (H.out.below (HB1.out.alloc HB1.out.size _)) HA.out (by decide) (by have := HN.out; have := H1.out; omega) (by simp) rfl rfl rfl rfl ?_
       go_loud (
       intro A1 c1 w2 r hr hown R1' N1' L1' hb2
       rw [List.nil_append] at hr
       rw [hr] at R1' L1' ⊢
       rw [← HN.out]
       have HB2 := Lib.hid (HB1.out.trans ((((Below.refl _ w1).alloc (Nat.le_refl _) (.cells #[] 5)).trans hb2).mono HB1.out.size))
       have hsm := sum_any A1 l c1 w2 (HST.out.below HB2.out) R1' N1' L1' (by have := H1.out; omega)
       rw [← HSD.out, ← HV.out, ← HN.out] at hsm
       have HRo2 := Lib.hid R1'; have HNo := Lib.hid N1'
       have HSM := Lib.hid hsm
       clear hown R1' N1' L1' hb2 hsm hr))
    go_upto_region 7 with (first
      | (go_at_call 7
         go_loud (
         refine HSM.out.mono ?_
         rintro e w3 ⟨rfl, hb⟩
         have b4 := (Below.refl w3.heap.size w3).alloc (Nat.le_refl _) (.cells #[.int .u8 0, .int .u8 0, .int .u8 0, .int .u8 0, .int .u8 0, .int .u8 0, .int .u8 0, .int .u8 0, .int .u8 0, .int .u8 0, .int .u8 0, .int .u8 0, .int .u8 0, .int .u8 0, .int .u8 0, .int .u8 0, .int .u8 0, .int .u8 0, .int .u8 0, .int .u8 0] 25)
         have HRo3 := Lib.hid (HRo2.out.below hb)
         have HB3 := Lib.hid ((HB2.out.trans (hb.mono HB2.out.size)).trans (b4.mono (Nat.le_trans HB2.out.size hb.size)))
         have HD3 : Hid (Bt 25 (w3.alloc (.cells #[.int .u8 0, .int .u8 0, .int .u8 0, .int .u8 0, .int .u8 0, .int .u8 0, .int .u8 0, .int .u8 0, .int .u8 0, .int .u8 0, .int .u8 0, .int .u8 0, .int .u8 0, .int .u8 0, .int .u8 0, .int .u8 0, .int .u8 0, .int .u8 0, .int .u8 0, .int .u8 0] 25)) w3.heap.size (List.replicate 20 0)) := Lib.hid (heap_alloc_new w3 _)
         have HW3 := Lib.hid (show w.heap.size ≤ w3.heap.size from Nat.le_trans HB2.out.size hb.size)
         clear hb b4))
      | (refine wpList_store_row rfl 25 (.tmp 4) (.tmp 15) rfl w3.heap.size (bc V).toArray rfl rfl 25 (bc (List.replicate 20 0)).toArray HD3.out (by rw [dsize, List.size_toArray, bc_len, HBL.out]) (by rw [List.size_toArray, List.size_toArray, bc_len, bc_len, HBL.out]; rfl) (bc_all _) ?_))
    have S4 : Bt 25 ((w3.alloc (.cells #[.int .u8 0, .int .u8 0, .int .u8 0, .int .u8 0, .int .u8 0, .int .u8 0, .int .u8 0, .int .u8 0, .int .u8 0, .int .u8 0, .int .u8 0, .int .u8 0, .int .u8 0, .int .u8 0, .int .u8 0, .int .u8 0, .int .u8 0, .int .u8 0, .int .u8 0, .int .u8 0] 25)).setRow w3.heap.size (bc V).toArray) w3.heap.size V := Bt.set HD3.out V
    have b4 : Below w3.heap.size (w3.alloc (.cells #[.int .u8 0, .int .u8 0, .int .u8 0, .int .u8 0, .int .u8 0, .int .u8 0, .int .u8 0, .int .u8 0, .int .u8 0, .int .u8 0, .int .u8 0, .int .u8 0, .int .u8 0, .int .u8 0, .int .u8 0, .int .u8 0, .int .u8 0, .int .u8 0, .int .u8 0, .int .u8 0] 25)) ((w3.alloc (.cells #[.int .u8 0, .int .u8 0, .int .u8 0, .int .u8 0, .int .u8 0, .int .u8 0, .int .u8 0, .int .u8 0, .int .u8 0, .int .u8 0, .int .u8 0, .int .u8 0, .int .u8 0, .int .u8 0, .int .u8 0, .int .u8 0, .int .u8 0, .int .u8 0, .int .u8 0, .int .u8 0] 25)).setRow w3.heap.size (bc V).toArray) := below_setRow (Below.refl _ _) (Nat.le_refl _) _
    have HB4 := Lib.hid (HB3.out.trans (b4.mono HW3.out))
    have ro4 : Rb ((w3.alloc (.cells #[.int .u8 0, .int .u8 0, .int .u8 0, .int .u8 0, .int .u8 0, .int .u8 0, .int .u8 0, .int .u8 0, .int .u8 0, .int .u8 0, .int .u8 0, .int .u8 0, .int .u8 0, .int .u8 0, .int .u8 0, .int .u8 0, .int .u8 0, .int .u8 0, .int .u8 0, .int .u8 0] 25)).setRow w3.heap.size (bc V).toArray) A1 l := HRo3.out.below (((Below.refl w3.heap.size w3).alloc (Nat.le_refl _) _).trans b4)
    clear b4 HB3 HD3 HB2 HRo2 HRo3 HSM HA1
    generalize (w3.alloc (.cells #[.int .u8 0, .int .u8 0, .int .u8 0, .int .u8 0, .int .u8 0, .int .u8 0, .int .u8 0, .int .u8 0, .int .u8 0, .int .u8 0, .int .u8 0, .int .u8 0, .int .u8 0, .int .u8 0, .int .u8 0, .int .u8 0, .int .u8 0, .int .u8 0, .int .u8 0, .int .u8 0] 25)).setRow w3.heap.size (bc V).toArray = w4 at *
    have HD4 := Lib.hid S4; have HRo4 := Lib.hid ro4
    have hrw := rwords_any A l c w4 (H.out.below HB4.out) HA.out (by have := H1.out; omega)
    rw [← HSD.out, ← HN.out] at hrw
    have HRW : Hid (Calls Tryd.prog 8 #[.slice A N c] w4 fun e w' => e = .returned (.agg #[.int .u32 (u s.a), .int .u32 (u s.b), .int .u32 (u s.c), .int .u32 (u s.d), .int .u32 (u s.e)]) ∧ Below w4.heap.size w4 w') := Lib.hid hrw
    clear S4 ro4 hrw
    go_upto_region 8 with
      (go_at_call 8
       refine HRW.out.mono ?_
       rintro e w5 ⟨rfl, hb⟩
       have b6 := (Below.refl w5.heap.size w5).alloc (Nat.le_refl _) (.cells #[.int .u32 (u s.a), .int .u32 (u s.b), .int .u32 (u s.c), .int .u32 (u s.d), .int .u32 (u s.e)] 28)
       have HD6' := Lib.hid ((HD4.out.below hb HD4.out.lt).below b6 (Nat.lt_of_lt_of_le HD4.out.lt hb.size))
       have HB6 := Lib.hid ((HB4.out.trans (hb.mono HB4.out.size)).trans (b6.mono (Nat.le_trans HB4.out.size hb.size)))
       have HRo6 := Lib.hid ((HRo4.out.below hb).below b6)
       have HS6' : Hid (Sb (w5.alloc (.cells #[.int .u32 (u s.a), .int .u32 (u s.b), .int .u32 (u s.c), .int .u32 (u s.d), .int .u32 (u s.e)] 28)) w5.heap.size s) := Lib.hid (heap_alloc_new w5 _)
       clear hb b6)
    have HD6 := HD6'; have HRo := HRo6; have HP6 := HS6'
    clear HD6' HRo6 HS6' HRW HD4 HRo4 HB4
    generalize w5.alloc (.cells #[.int .u32 (u s.a), .int .u32 (u s.b), .int .u32 (u s.c), .int .u32 (u s.d), .int .u32 (u s.e)] 28) = w6 at *
    have HR6 := Lib.hid (H.out.below HB6.out)
    have HKS := Lib.hid (show ∀ w', Below w6.heap.size w6 w' → Sy w6 w3.heap.size w5.heap.size s V w' from fun w' hb =>
      ⟨HP6.out.keep hb, (HD6.out.below hb HD6.out.lt).range, hb⟩)
    have hs3 := fun W => words_any V HBL.out W
    have hs4 := fun W => rbytes_any s W
    have hs6 := fun W => hex_any V HBL.out W
    have hs7 := fun (A : Option Addr) (c : Nat) (W : World) (h : Rb W A V) => rhex_any A V c W h (by have := HBL.out; omega)
    have hs8 := fun W => blocks_any (N : Int) W (by unfold fits; have := HN.out; have := H1.out; omega)
    have hs9 := fun W (h : Rb W A l) => rpad_any A l c W h HA.out (by have := H1.out; omega)
    have hs10 := fun W (h : Rb W A1 l) (k : Rb W A l) => nsame_any A1 A l c1 c W h HNo.out k HA.out
    rw [HV.out, wst_byt, ← HV.out] at hs3
    rw [← HV.out, HBL.out] at hs4
    rw [HBL.out] at hs7
    rw [pbI_nat, HN.out] at hs8
    rw [pad_len, ← HN.out] at hs9
    rw [← HN.out] at hs8 hs10
    obtain ⟨P, hP⟩ : ∃ P, P = pb N := ⟨_, rfl⟩
    rw [← hP] at hs8 hs9
    obtain ⟨X, hX⟩ : ∃ X, X = (hxL V).toArray := ⟨_, rfl⟩
    rw [← hX] at hs6 hs7
    have hPb : P ≤ 1000 := by rw [hP]; unfold pb; have := HN.out; have := H1.out; omega
    have hwr : IntKind.i64.wrap (P : Int) = (P : Int) := by simp [IntKind.wrap, IntKind.signed, IntKind.bits]; omega
    have hs5 := fun (A : Option Addr) (c : Nat) (W : World) (h : Rb W (some ⟨w3.heap.size, 0, none⟩) V) (k : Rb W A V) (hA : A = none → c = 0) => nsame_any (some ⟨w3.heap.size, 0, none⟩) A V 20 c W h (fun h => by cases h) k hA
    rw [HBL.out] at hs5
    have eq6 : ∀ w, (Op.equalIn 10000 28 (.agg #[.int .u32 (u s.a), .int .u32 (u s.b), .int .u32 (u s.c), .int .u32 (u s.d), .int .u32 (u s.e)]) (.agg #[.int .u32 (u s.a), .int .u32 (u s.b), .int .u32 (u s.c), .int .u32 (u s.d), .int .u32 (u s.e)])).run Tryd.prog w = .ok true w := fun w => eq_five s w
    have HS3 : Hid (∀ W, Calls Tryd.prog 9 #[.agg (bc V).toArray] W fun e w' => e = .returned (.agg #[.int .u32 (u s.a), .int .u32 (u s.b), .int .u32 (u s.c), .int .u32 (u s.d), .int .u32 (u s.e)]) ∧ Below W.heap.size W w') := Lib.hid hs3
    have HS4 : Hid (∀ W, Calls Tryd.prog 11 #[.agg #[.int .u32 (u s.a), .int .u32 (u s.b), .int .u32 (u s.c), .int .u32 (u s.d), .int .u32 (u s.e)]] W fun e w' => ∃ A c, e = .returned (.slice A 20 c) ∧ Rb w' A V ∧ (A = none → c = 0) ∧ Below W.heap.size W w') := Lib.hid hs4
    have HS5 := Lib.hid hs5
    have HS6 := Lib.hid hs6
    have HS7 := Lib.hid hs7
    have HS8 := Lib.hid hs8
    have HS9 : Hid (∀ W, Rb W A l → Calls Tryd.prog 15 #[.slice A N c] W fun e w' => ∃ A' c', e = .returned (.slice A' (64 * P) c') ∧ Below W.heap.size W w') := Lib.hid (fun W h => (hs9 W h).mono (by rintro e w' ⟨A', c', h1, -, -, -, h5⟩; exact ⟨A', c', h1, h5⟩))
    have HS10 := Lib.hid hs10
    clear hs3 hs4 hs5 hs6 hs7 hs8 hs9 hs10 hX hP
    have hi20 : (Tryd.prog.info? 25).map (·.size) = some (bc V).length := by rw [dsize, bc_len, HBL.out]
    have K0 := Lib.hid (Below.refl w6.heap.size w6).drew
    have G0 := Lib.hid (HKS.out _ K0.out)
    refine wp_region_held_drew (S := Sy w6 w3.heap.size w5.heap.size s V) (by kernel_rfl) G0.out (fun hHeld => ?_)
    refine wpAnyH_take (i := 0) (v := .agg (bc V).toArray) rfl (by kernel_rfl) (by kernel_rfl) (by kernel_rfl) (fun _ _ _ h => h) (yieldsIf_load_mid (by rfl) 25 (.tmp 4) rfl w3.heap.size 0 rfl (bc V) _ (fun w hSw => hSw.dg) dund rfl hi20) hHeld ?_
    try simp only [Act.put, List.setIfInBounds_toArray, List.set_cons_zero, List.set_cons_succ]
    refine wpAnyH_take (i := 2) (v := .agg #[.int .u32 (u s.a), .int .u32 (u s.b), .int .u32 (u s.c), .int .u32 (u s.d), .int .u32 (u s.e)]) rfl (by kernel_rfl) (by kernel_rfl) (by kernel_rfl) (fun _ _ _ h => h) (Or.inl ⟨by rfl, fun w hSw => by obtain ⟨c0, c1, c2, c3, c4⟩ := hSw.st.all; go_simp⟩) hHeld ?_
    try simp only [Act.put, List.setIfInBounds_toArray, List.set_cons_zero, List.set_cons_succ]
    refine wpAnyH_ready (rs := [1]) (by kernel_rfl) (by simp) ?_
    refine AllReadyH.cons rfl (fun K hK => ?_) AllReadyH.nil
    go_simp
    (go_at_call 9; refine (HS3.out _).mono ?_; rintro e v1 ⟨rfl, hb⟩; have K1 := Lib.hid (K0.out.trans (hb.mono K0.out.size)); have G1 := Lib.hid (HKS.out _ K1.out); clear hb)
    refine hK.out _ _ G1.out (fun hHeld => ?_)
    clear hK K
    try simp only [Act.put, List.setIfInBounds_toArray, List.set_cons_zero, List.set_cons_succ]
    refine wpAnyH_take (i := 3) (v := .bool true) rfl (by kernel_rfl) (by kernel_rfl) (by kernel_rfl) (fun _ _ _ h => h) (Or.inl ⟨by rfl, fun w hSw => by have e := eq6 w; go_simp⟩) hHeld ?_
    try simp only [Act.put, List.setIfInBounds_toArray, List.set_cons_zero, List.set_cons_succ]
    refine wpAnyH_take (i := 4) (v := .bool true) rfl (by kernel_rfl) (by kernel_rfl) (by kernel_rfl) (fun _ _ _ h => h) (Or.inl ⟨by rfl, fun w hSw => by go_simp⟩) hHeld ?_
    try simp only [Act.put, List.setIfInBounds_toArray, List.set_cons_zero, List.set_cons_succ]
    refine wpAnyH_take (i := 5) (v := .slice (some ⟨w3.heap.size, 0, none⟩) 20 20) rfl (by kernel_rfl) (by kernel_rfl) (by kernel_rfl) (fun _ _ _ h => h) (Or.inl ⟨by rfl, fun w hSw => by go_simp⟩) hHeld ?_
    try simp only [Act.put, List.setIfInBounds_toArray, List.set_cons_zero, List.set_cons_succ]
    refine wpAnyH_take (i := 6) (v := .agg #[.int .u32 (u s.a), .int .u32 (u s.b), .int .u32 (u s.c), .int .u32 (u s.d), .int .u32 (u s.e)]) rfl (by kernel_rfl) (by kernel_rfl) (by kernel_rfl) (fun _ _ _ h => h) (Or.inl ⟨by rfl, fun w hSw => by obtain ⟨c0, c1, c2, c3, c4⟩ := hSw.st.all; go_simp⟩) hHeld ?_
    try simp only [Act.put, List.setIfInBounds_toArray, List.set_cons_zero, List.set_cons_succ]
    refine wpAnyH_ready (rs := [7]) (by kernel_rfl) (by simp) ?_
    refine AllReadyH.cons rfl (fun K hK => ?_) AllReadyH.nil
    go_simp
    (go_at_call 11; refine (HS4.out _).mono ?_; rintro e v2 ⟨Ab, cb, rfl, hr, hA, hb⟩; have K2 := Lib.hid (K1.out.trans (hb.mono K1.out.size)); have G2 := Lib.hid (HKS.out _ K2.out); have HRb := Lib.hid hr; have HAb := Lib.hid hA; clear hr hA; clear hb)
    refine hK.out _ _ G2.out (fun hHeld => ?_)
    clear hK K
    try simp only [Act.put, List.setIfInBounds_toArray, List.set_cons_zero, List.set_cons_succ]
    refine wpAnyH_ready (rs := [8]) (by kernel_rfl) (by simp) ?_
    refine AllReadyH.cons rfl (fun K hK => ?_) AllReadyH.nil
    go_simp
    (go_at_call 10; refine (HS5.out _ _ _ (HD6.out.reads.below K2.out) HRb.out HAb.out).mono ?_; rintro e v3 ⟨rfl, rfl⟩; have K3 := K2; have G3 := G2)
    refine hK.out _ _ G3.out (fun hHeld => ?_)
    clear hK K
    try simp only [Act.put, List.setIfInBounds_toArray, List.set_cons_zero, List.set_cons_succ]
    refine wpAnyH_take (i := 9) (v := .bool true) rfl (by kernel_rfl) (by kernel_rfl) (by kernel_rfl) (fun _ _ _ h => h) (Or.inl ⟨by rfl, fun w hSw => by go_simp⟩) hHeld ?_
    try simp only [Act.put, List.setIfInBounds_toArray, List.set_cons_zero, List.set_cons_succ]
    refine wpAnyH_take (i := 10) (v := .bool true) rfl (by kernel_rfl) (by kernel_rfl) (by kernel_rfl) (fun _ _ _ h => h) (Or.inl ⟨by rfl, fun w hSw => by go_simp⟩) hHeld ?_
    try simp only [Act.put, List.setIfInBounds_toArray, List.set_cons_zero, List.set_cons_succ]
    refine wpAnyH_take (i := 11) (v := .agg (bc V).toArray) rfl (by kernel_rfl) (by kernel_rfl) (by kernel_rfl) (fun _ _ _ h => h) (yieldsIf_load_mid (by rfl) 25 (.tmp 4) rfl w3.heap.size 0 rfl (bc V) _ (fun w hSw => hSw.dg) dund rfl hi20) hHeld ?_
    try simp only [Act.put, List.setIfInBounds_toArray, List.set_cons_zero, List.set_cons_succ]
    refine wpAnyH_take (i := 13) (v := .agg #[.int .u32 (u s.a), .int .u32 (u s.b), .int .u32 (u s.c), .int .u32 (u s.d), .int .u32 (u s.e)]) rfl (by kernel_rfl) (by kernel_rfl) (by kernel_rfl) (fun _ _ _ h => h) (Or.inl ⟨by rfl, fun w hSw => by obtain ⟨c0, c1, c2, c3, c4⟩ := hSw.st.all; go_simp⟩) hHeld ?_
    try simp only [Act.put, List.setIfInBounds_toArray, List.set_cons_zero, List.set_cons_succ]
    refine wpAnyH_ready (rs := [12]) (by kernel_rfl) (by simp) ?_
    refine AllReadyH.cons rfl (fun K hK => ?_) AllReadyH.nil
    go_simp
    (go_at_call 12; refine (HS6.out _).mono ?_; rintro e v4 ⟨rfl, hb⟩; have K4 := Lib.hid (K3.out.trans (hb.mono K3.out.size)); have G4 := Lib.hid (HKS.out _ K4.out); clear hb)
    refine hK.out _ _ G4.out (fun hHeld => ?_)
    clear hK K
    try simp only [Act.put, List.setIfInBounds_toArray, List.set_cons_zero, List.set_cons_succ]
    refine wpAnyH_ready (rs := [14]) (by kernel_rfl) (by simp) ?_
    refine AllReadyH.cons rfl (fun K hK => ?_) AllReadyH.nil
    go_simp
    (go_at_call 11; refine (HS4.out _).mono ?_; rintro e v5 ⟨Ac, cc, rfl, hr, hA, hb⟩; have K5 := Lib.hid (K4.out.trans (hb.mono K4.out.size)); have G5 := Lib.hid (HKS.out _ K5.out); have HRc := Lib.hid hr; clear hr hA; clear hb)
    refine hK.out _ _ G5.out (fun hHeld => ?_)
    clear hK K
    try simp only [Act.put, List.setIfInBounds_toArray, List.set_cons_zero, List.set_cons_succ]
    refine wpAnyH_ready (rs := [15]) (by kernel_rfl) (by simp) ?_
    refine AllReadyH.cons rfl (fun K hK => ?_) AllReadyH.nil
    go_simp
    (go_at_call 13; refine (HS7.out _ _ _ HRc.out).mono ?_; rintro e v6 ⟨rfl, hb⟩; have K6 := Lib.hid (K5.out.trans (hb.mono K5.out.size)); have G6 := Lib.hid (HKS.out _ K6.out); clear hb)
    refine hK.out _ _ G6.out (fun hHeld => ?_)
    clear hK K
    try simp only [Act.put, List.setIfInBounds_toArray, List.set_cons_zero, List.set_cons_succ]
    refine wpAnyH_take (i := 16) (v := .bool true) rfl (by kernel_rfl) (by kernel_rfl) (by kernel_rfl) (fun _ _ _ h => h) (Or.inl ⟨by rfl, fun w hSw => by go_simp⟩) hHeld ?_
    try simp only [Act.put, List.setIfInBounds_toArray, List.set_cons_zero, List.set_cons_succ]
    refine wpAnyH_take (i := 17) (v := .bool true) rfl (by kernel_rfl) (by kernel_rfl) (by kernel_rfl) (fun _ _ _ h => h) (Or.inl ⟨by rfl, fun w hSw => by go_simp⟩) hHeld ?_
    try simp only [Act.put, List.setIfInBounds_toArray, List.set_cons_zero, List.set_cons_succ]
    refine wpAnyH_take (i := 18) (v := .bool true) rfl (by kernel_rfl) (by kernel_rfl) (by kernel_rfl) (fun _ _ _ h => h) (Or.inl ⟨by rfl, fun w hSw => by go_simp⟩) hHeld ?_
    try simp only [Act.put, List.setIfInBounds_toArray, List.set_cons_zero, List.set_cons_succ]
    refine wpAnyH_take (i := 19) (v := .slice A N c) rfl (by kernel_rfl) (by kernel_rfl) (by kernel_rfl) (fun _ _ _ h => h) (Or.inl ⟨by rfl, fun w hSw => by go_simp⟩) hHeld ?_
    try simp only [Act.put, List.setIfInBounds_toArray, List.set_cons_zero, List.set_cons_succ]
    refine wpAnyH_take (i := 20) (v := .int .i64 (N : Int)) rfl (by kernel_rfl) (by kernel_rfl) (by kernel_rfl) (fun _ _ _ h => h) (Or.inl ⟨by rfl, fun w hSw => by go_simp⟩) hHeld ?_
    try simp only [Act.put, List.setIfInBounds_toArray, List.set_cons_zero, List.set_cons_succ]
    refine wpAnyH_take (i := 22) (v := .slice A N c) rfl (by kernel_rfl) (by kernel_rfl) (by kernel_rfl) (fun _ _ _ h => h) (Or.inl ⟨by rfl, fun w hSw => by go_simp⟩) hHeld ?_
    try simp only [Act.put, List.setIfInBounds_toArray, List.set_cons_zero, List.set_cons_succ]
    refine wpAnyH_ready (rs := [21]) (by kernel_rfl) (by simp) ?_
    refine AllReadyH.cons rfl (fun K hK => ?_) AllReadyH.nil
    go_simp
    (go_at_call 14; refine (HS8.out _).mono ?_; rintro e v7 ⟨rfl, rfl⟩; have K7 := K6; have G7 := G6)
    refine hK.out _ _ G7.out (fun hHeld => ?_)
    clear hK K
    try simp only [Act.put, List.setIfInBounds_toArray, List.set_cons_zero, List.set_cons_succ]
    refine wpAnyH_ready (rs := [23]) (by kernel_rfl) (by simp) ?_
    refine AllReadyH.cons rfl (fun K hK => ?_) AllReadyH.nil
    go_simp
    (go_at_call 15; refine (HS9.out _ (HR6.out.below K7.out)).mono ?_; rintro e v8 ⟨Ap, cp, rfl, hb⟩; have K8 := Lib.hid (K7.out.trans (hb.mono K7.out.size)); have G8 := Lib.hid (HKS.out _ K8.out); clear hb)
    refine hK.out _ _ G8.out (fun hHeld => ?_)
    clear hK K
    try simp only [Act.put, List.setIfInBounds_toArray, List.set_cons_zero, List.set_cons_succ]
    refine wpAnyH_take (i := 24) (v := .int .i64 ((64 * P : Nat) : Int)) rfl (by kernel_rfl) (by kernel_rfl) (by kernel_rfl) (fun _ _ _ h => h) (Or.inl ⟨by rfl, fun w hSw => by go_simp⟩) hHeld ?_
    try simp only [Act.put, List.setIfInBounds_toArray, List.set_cons_zero, List.set_cons_succ]
    refine wpAnyH_take (i := 25) (v := .int .i64 (P : Int)) rfl (by kernel_rfl) (by kernel_rfl) (by kernel_rfl) (fun _ _ _ h => h) (Or.inl ⟨by rfl, fun w hSw => by go_simp; try exact hwr⟩) hHeld ?_
    try simp only [Act.put, List.setIfInBounds_toArray, List.set_cons_zero, List.set_cons_succ]
    refine wpAnyH_take (i := 26) (v := .bool true) rfl (by kernel_rfl) (by kernel_rfl) (by kernel_rfl) (fun _ _ _ h => h) (Or.inl ⟨by rfl, fun w hSw => by go_simp⟩) hHeld ?_
    try simp only [Act.put, List.setIfInBounds_toArray, List.set_cons_zero, List.set_cons_succ]
    refine wpAnyH_take (i := 27) (v := .bool true) rfl (by kernel_rfl) (by kernel_rfl) (by kernel_rfl) (fun _ _ _ h => h) (Or.inl ⟨by rfl, fun w hSw => by go_simp⟩) hHeld ?_
    try simp only [Act.put, List.setIfInBounds_toArray, List.set_cons_zero, List.set_cons_succ]
    refine wpAnyH_take (i := 28) (v := .bool true) rfl (by kernel_rfl) (by kernel_rfl) (by kernel_rfl) (fun _ _ _ h => h) (Or.inl ⟨by rfl, fun w hSw => by go_simp⟩) hHeld ?_
    try simp only [Act.put, List.setIfInBounds_toArray, List.set_cons_zero, List.set_cons_succ]
    refine wpAnyH_take (i := 29) (v := .slice A1 N c1) rfl (by kernel_rfl) (by kernel_rfl) (by kernel_rfl) (fun _ _ _ h => h) (Or.inl ⟨by rfl, fun w hSw => by go_simp⟩) hHeld ?_
    try simp only [Act.put, List.setIfInBounds_toArray, List.set_cons_zero, List.set_cons_succ]
    refine wpAnyH_take (i := 30) (v := .slice A N c) rfl (by kernel_rfl) (by kernel_rfl) (by kernel_rfl) (fun _ _ _ h => h) (Or.inl ⟨by rfl, fun w hSw => by go_simp⟩) hHeld ?_
    try simp only [Act.put, List.setIfInBounds_toArray, List.set_cons_zero, List.set_cons_succ]
    refine wpAnyH_ready (rs := [31]) (by kernel_rfl) (by simp) ?_
    refine AllReadyH.cons rfl (fun K hK => ?_) AllReadyH.nil
    go_simp
    (go_at_call 10; refine (HS10.out _ (HRo.out.below K8.out) (HR6.out.below K8.out)).mono ?_; rintro e v9 ⟨rfl, rfl⟩; have K9 := K8; have G9 := G8)
    refine hK.out _ _ G9.out (fun hHeld => ?_)
    clear hK K
    try simp only [Act.put, List.setIfInBounds_toArray, List.set_cons_zero, List.set_cons_succ]
    refine wpAnyH_take (i := 32) (v := .bool true) rfl (by kernel_rfl) (by kernel_rfl) (by kernel_rfl) (fun _ _ _ h => h) (Or.inl ⟨by rfl, fun w hSw => by go_simp⟩) hHeld ?_
    try simp only [Act.put, List.getElem_toArray, List.getElem_cons_succ, List.getElem_cons_zero, List.getElem?_toArray, List.getElem?_cons_succ, List.getElem?_cons_zero, List.setIfInBounds_toArray, List.set_cons_zero, List.set_cons_succ]
    refine wpAnyH_take (i := 33) (v := .bool true) rfl (by kernel_rfl) (by kernel_rfl) (by kernel_rfl) (fun _ _ _ h => h) (Or.inl ⟨by rfl, fun w hSw => by go_simp⟩) hHeld ?_
    try simp only [Act.put, List.getElem_toArray, List.getElem_cons_succ, List.getElem_cons_zero, List.getElem?_toArray, List.getElem?_cons_succ, List.getElem?_cons_zero, List.setIfInBounds_toArray, List.set_cons_zero, List.set_cons_succ]
    refine wpAnyH_done (by kernel_rfl) ?_ _
    have HBE := Lib.hid (HB6.out.trans (K9.out.mono HB6.out.size))
    first
      | (go_ret; exact ⟨rfl, HBE.out⟩)
      | (simp only [Act.put]; go_ret; exact ⟨rfl, HBE.out⟩)
      | (go_wp2; go_ret; exact ⟨rfl, HBE.out⟩)
      | (dsimp only [Act.put]; go_wp2; go_ret; exact ⟨rfl, HBE.out⟩)
      | (trace_state; exact (0 : Nat))

end Go.Proofs.YtijopeacgpmicaaDoor
