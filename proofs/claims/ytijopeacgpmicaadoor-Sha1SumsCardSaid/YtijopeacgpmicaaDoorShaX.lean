/- The state behind any block, and any words as a digest, and back: the walk. -/
import Derived.Test.YtijopeacgpmicaaDoorShaB
import Derived.Test.YtijopeacgpmicaaDoorShaC
import Derived.Test.YtijopeacgpmicaaDoorArr
import Derived.Deep.RegionHeld3
namespace Go.Proofs.YtijopeacgpmicaaDoor
open Go.RowKit Go.WideShapes Go.ChangeShapes
set_option linter.unusedVariables false
set_option linter.unusedSimpArgs false

theorem wst_byt (s : St) : wst (byt s) = s := by
  have h : ∀ (x : BitVec 32) (a b : List UInt8), a.length % 4 = 0 → bw (a ++ (be 4 x.toNat ++ b)) (a.length / 4) = x := fun x a b ha => by
    unfold bw
    rw [show 4 * (a.length / 4) = a.length by omega, List.drop_left, List.take_left' (be_len _ _), word_back]
  obtain ⟨a, b, c, d, e⟩ := s
  have h0 := h a [] (be 4 b.toNat ++ (be 4 c.toNat ++ (be 4 d.toNat ++ be 4 e.toNat))) (by simp)
  have h1 := h b (be 4 a.toNat) (be 4 c.toNat ++ (be 4 d.toNat ++ be 4 e.toNat)) (by simp [be_len])
  have h2 := h c (be 4 a.toNat ++ be 4 b.toNat) (be 4 d.toNat ++ be 4 e.toNat) (by simp [be_len])
  have h3 := h d (be 4 a.toNat ++ (be 4 b.toNat ++ be 4 c.toNat)) (be 4 e.toNat) (by simp [be_len])
  have h4 := h e (be 4 a.toNat ++ (be 4 b.toNat ++ (be 4 c.toNat ++ be 4 d.toNat))) [] (by simp [be_len])
  simp only [List.length_append, List.length_nil, be_len, List.append_assoc, List.nil_append, List.append_nil] at h0 h1 h2 h3 h4
  unfold wst byt
  exact st_eq h0 h1 h2 h3 h4
theorem words_of (zs : List Int) (h : zs.length = 5) (hw : ∀ z ∈ zs, (Lit.int .u32 z).wf = true) : ∃ s : St, (zs.map fun z => Value.int .u32 z).toArray = stv s := by
  have hu : ∀ z ∈ zs, ∃ x : BitVec 32, z = u x := fun z hz => by
    have := hw z hz
    simp [Lit.wf, IntKind.min, IntKind.max, IntKind.signed, IntKind.bits] at this
    exact ⟨_, u_of this.1 (by omega)⟩
  match zs, h with
  | [a, b, c, d, e], _ =>
    obtain ⟨xa, rfl⟩ := hu a (by simp)
    obtain ⟨xb, rfl⟩ := hu b (by simp)
    obtain ⟨xc, rfl⟩ := hu c (by simp)
    obtain ⟨xd, rfl⟩ := hu d (by simp)
    obtain ⟨xe, rfl⟩ := hu e (by simp)
    exact ⟨⟨xa, xb, xc, xd, xe⟩, rfl⟩
theorem bytes_of (zs : List Int) {n : Nat} (h : zs.length = n) (hw : ∀ z ∈ zs, (Lit.int .u8 z).wf = true) : ∃ l : List UInt8, l.length = n ∧ (zs.map fun z => Value.int .u8 z).toArray = (bc l).toArray := by
  refine ⟨zs.map fun z => UInt8.ofNat z.toNat, by simpa using h, ?_⟩
  have e := of_nums hw
  have e2 : bc (zs.map fun z => UInt8.ofNat z.toNat) = (nums (zs.map fun z => UInt8.ofNat z.toNat)).map fun z => Value.int .u8 z := by
    unfold bc nums
    rw [List.map_map, List.map_map, List.map_map]
    rfl
  rw [e2, e]
theorem Bt.range {T : TypeId} {w : World} {g : Nat} {L : List UInt8} (h : Bt T w g L) : w.rangeAt g 0 (bc L) := fun j v hj => by
  rw [Nat.zero_add, bk_cell h]
  simpa using hj

/-- What the law's great region keeps in sight: the state's block, the block's, the digest's. -/
structure Sx (w4 : World) (p q g : Nat) (s : St) (l V : List UInt8) (w' : World) : Prop where
  st : Sb w' p s
  bl : w'.rangeAt q 0 (bc l)
  dg : w'.rangeAt g 0 (bc V)
  be : Below w4.heap.size w4 w'

set_option maxRecDepth 100000 in
set_option maxHeartbeats 2000000 in
theorem steps_walk (s : St) (l : List UInt8) (hl : l.length = 64) (n : Int) (w : World) (hst : Start w) (hn : fits n) :
    Calls Tryd.prog 4 #[.agg (stv s), .agg (bc l).toArray, .int .i64 n] w fun e w' => e = .returned (.bool true) ∧ Below w.heap.size w w' := by
  obtain ⟨W1, hW1⟩ : ∃ W1, W1 = (w.alloc (.cells (stv s) 28)).alloc (.cells (bc l).toArray 38) := ⟨_, rfl⟩
  have b1 : Below w.heap.size w W1 := by rw [hW1]; exact ((Below.refl _ w).alloc (Nat.le_refl _) _).alloc (by simp) _
  have p1 : Sb W1 w.heap.size s := by
    rw [hW1]
    have h1 : Sb (w.alloc (.cells (stv s) 28)) w.heap.size s := heap_alloc_new w _
    exact h1.keep ((Below.refl _ _).alloc (Nat.le_refl _) _)
  have z1 : Bt 38 W1 (w.heap.size + 1) l := by
    rw [hW1]
    have := heap_alloc_new (w.alloc (.cells (stv s) 28)) (.cells (bc l).toArray 38)
    rw [World.size_alloc] at this
    exact this
  have HAL := Lib.hid (alive9_any W1 (hst.below b1))
  have HB1 := Lib.hid b1; have HP1 := Lib.hid p1; have HZ1 := Lib.hid z1; have HL := Lib.hid hl; have HN := Lib.hid hn
  have HBK := Lib.hid (fun W => blocks_any n W hn)
  have HBL := Lib.hid (byt_len s)
  clear b1 p1 z1 hst
  go_enter Tryd.func4, Tryd.ntmps4
  go_upto_region 1 with fail
  rw [← hW1]; clear hW1
  go_upto_region 3 with (go_at_call 6; refine HAL.out.mono ?_; rintro e w2 ⟨rfl, hb⟩; have HP2 := Lib.hid (HP1.out.keep hb); have HZ2 := Lib.hid (HZ1.out.below hb HZ1.out.lt); have HB2 := Lib.hid (HB1.out.trans (hb.mono HB1.out.size)); clear hb)
  obtain ⟨c0, c1, c2, c3, c4⟩ := HP2.out.all
  have HF := Lib.hid (from_any s w2)
  obtain ⟨V, hV⟩ : ∃ V, V = byt s := ⟨_, rfl⟩
  rw [← hV] at HF HBL
  have HV := Lib.hid hV
  clear hV
  go_upto_region 4 with (first
    | (go_at_call 16
       refine HF.out.mono ?_
       rintro e w3 ⟨rfl, hb⟩
       have b4 := (Below.refl w3.heap.size w3).alloc (Nat.le_refl _) (.cells #[.int .u8 0, .int .u8 0, .int .u8 0, .int .u8 0, .int .u8 0, .int .u8 0, .int .u8 0, .int .u8 0, .int .u8 0, .int .u8 0, .int .u8 0, .int .u8 0, .int .u8 0, .int .u8 0, .int .u8 0, .int .u8 0, .int .u8 0, .int .u8 0, .int .u8 0, .int .u8 0] 25)
       have HP3 := Lib.hid ((HP2.out.keep hb).keep b4)
       have HZ3 := Lib.hid ((HZ2.out.below hb HZ2.out.lt).below b4 (Nat.lt_of_lt_of_le HZ2.out.lt hb.size))
       have HB3 := Lib.hid ((HB2.out.trans (hb.mono HB2.out.size)).trans (b4.mono (Nat.le_trans HB2.out.size hb.size)))
       have HD3 : Hid (Bt 25 (w3.alloc (.cells #[.int .u8 0, .int .u8 0, .int .u8 0, .int .u8 0, .int .u8 0, .int .u8 0, .int .u8 0, .int .u8 0, .int .u8 0, .int .u8 0, .int .u8 0, .int .u8 0, .int .u8 0, .int .u8 0, .int .u8 0, .int .u8 0, .int .u8 0, .int .u8 0, .int .u8 0, .int .u8 0] 25)) w3.heap.size (List.replicate 20 0)) := Lib.hid (heap_alloc_new w3 _)
       have HW3 := Lib.hid (show w.heap.size + 1 < w3.heap.size from Nat.lt_of_lt_of_le HZ2.out.lt hb.size)
       clear hb b4 c0 c1 c2 c3 c4)
    | (refine wpList_store_row rfl 25 (.tmp 7) (.tmp 12) rfl w3.heap.size (bc V).toArray rfl rfl 25 (bc (List.replicate 20 0)).toArray HD3.out (by rw [dsize, List.size_toArray, bc_len, HBL.out]) (by rw [List.size_toArray, List.size_toArray, bc_len, bc_len, HBL.out]; rfl) (bc_all _) ?_))
  have S4 : Bt 25 ((w3.alloc (.cells #[.int .u8 0, .int .u8 0, .int .u8 0, .int .u8 0, .int .u8 0, .int .u8 0, .int .u8 0, .int .u8 0, .int .u8 0, .int .u8 0, .int .u8 0, .int .u8 0, .int .u8 0, .int .u8 0, .int .u8 0, .int .u8 0, .int .u8 0, .int .u8 0, .int .u8 0, .int .u8 0] 25)).setRow w3.heap.size (bc V).toArray) w3.heap.size V := Bt.set HD3.out V
  have b4 : Below w3.heap.size (w3.alloc (.cells #[.int .u8 0, .int .u8 0, .int .u8 0, .int .u8 0, .int .u8 0, .int .u8 0, .int .u8 0, .int .u8 0, .int .u8 0, .int .u8 0, .int .u8 0, .int .u8 0, .int .u8 0, .int .u8 0, .int .u8 0, .int .u8 0, .int .u8 0, .int .u8 0, .int .u8 0, .int .u8 0] 25)) ((w3.alloc (.cells #[.int .u8 0, .int .u8 0, .int .u8 0, .int .u8 0, .int .u8 0, .int .u8 0, .int .u8 0, .int .u8 0, .int .u8 0, .int .u8 0, .int .u8 0, .int .u8 0, .int .u8 0, .int .u8 0, .int .u8 0, .int .u8 0, .int .u8 0, .int .u8 0, .int .u8 0, .int .u8 0] 25)).setRow w3.heap.size (bc V).toArray) := below_setRow (Below.refl _ _) (Nat.le_refl _) _
  have p4 : Sb ((w3.alloc (.cells #[.int .u8 0, .int .u8 0, .int .u8 0, .int .u8 0, .int .u8 0, .int .u8 0, .int .u8 0, .int .u8 0, .int .u8 0, .int .u8 0, .int .u8 0, .int .u8 0, .int .u8 0, .int .u8 0, .int .u8 0, .int .u8 0, .int .u8 0, .int .u8 0, .int .u8 0, .int .u8 0] 25)).setRow w3.heap.size (bc V).toArray) w.heap.size s := HP3.out.below b4 (by have := HW3.out; omega)
  have z4 : Bt 38 ((w3.alloc (.cells #[.int .u8 0, .int .u8 0, .int .u8 0, .int .u8 0, .int .u8 0, .int .u8 0, .int .u8 0, .int .u8 0, .int .u8 0, .int .u8 0, .int .u8 0, .int .u8 0, .int .u8 0, .int .u8 0, .int .u8 0, .int .u8 0, .int .u8 0, .int .u8 0, .int .u8 0, .int .u8 0] 25)).setRow w3.heap.size (bc V).toArray) (w.heap.size + 1) l := HZ3.out.below b4 HW3.out
  have HB4 := Lib.hid (HB3.out.trans (b4.mono (by have := HW3.out; omega)))
  clear b4 HP3 HZ3 HB3 HD3 HP2 HZ2 HB2 HP1 HZ1 HB1 HAL HF
  generalize (w3.alloc (.cells #[.int .u8 0, .int .u8 0, .int .u8 0, .int .u8 0, .int .u8 0, .int .u8 0, .int .u8 0, .int .u8 0, .int .u8 0, .int .u8 0, .int .u8 0, .int .u8 0, .int .u8 0, .int .u8 0, .int .u8 0, .int .u8 0, .int .u8 0, .int .u8 0, .int .u8 0, .int .u8 0] 25)).setRow w3.heap.size (bc V).toArray = w4 at *
  have KS : ∀ w', Below w4.heap.size w4 w' → Sx w4 w.heap.size (w.heap.size + 1) w3.heap.size s l V w' := fun w' hb =>
    ⟨p4.keep hb, (z4.below hb z4.lt).range, (S4.below hb S4.lt).range, hb⟩
  have HKS := Lib.hid KS
  have HZ4 := Lib.hid z4; have HD4 := Lib.hid S4
  clear KS z4 S4 p4
  obtain ⟨R, hR⟩ : ∃ R, R = stp s l := ⟨_, rfl⟩
  have hs1 := fun W => step_any s l hl W
  have hs2 := fun W (h : Rb W (some ⟨w.heap.size + 1, 0, none⟩) l) => rstep_any s (some ⟨w.heap.size + 1, 0, none⟩) l 64 W h (fun h => by cases h) (by omega) hl
  have hs3 := fun W => words_any V HBL.out W
  have hs4 := fun W => rbytes_any s W
  rw [hl] at hs2
  rw [← hR] at hs1 hs2
  rw [HV.out, wst_byt, ← HV.out] at hs3
  rw [← HV.out, HBL.out] at hs4
  have hs5 := fun (A : Option Addr) (c : Nat) (W : World) (h : Rb W (some ⟨w3.heap.size, 0, none⟩) V) (k : Rb W A V) (hA : A = none → c = 0) => nsame_any (some ⟨w3.heap.size, 0, none⟩) A V 20 c W h (fun h => by cases h) k hA
  rw [HBL.out] at hs5
  have eq5 := fun w => eq_five R w
  have eq6 : ∀ w, (Op.equalIn 10000 28 (.agg #[.int .u32 (u s.a), .int .u32 (u s.b), .int .u32 (u s.c), .int .u32 (u s.d), .int .u32 (u s.e)]) (.agg #[.int .u32 (u s.a), .int .u32 (u s.b), .int .u32 (u s.c), .int .u32 (u s.d), .int .u32 (u s.e)])).run Tryd.prog w = .ok true w := fun w => eq_five s w
  have HS1 : Hid (∀ W, Calls Tryd.prog 17 #[.agg #[.int .u32 (u s.a), .int .u32 (u s.b), .int .u32 (u s.c), .int .u32 (u s.d), .int .u32 (u s.e)], .agg (bc l).toArray] W fun e w' => e = .returned (.agg (stv R)) ∧ Below W.heap.size W w') := Lib.hid hs1
  have HS2 : Hid (∀ W, Rb W (some ⟨w.heap.size + 1, 0, none⟩) l → Calls Tryd.prog 18 #[.agg #[.int .u32 (u s.a), .int .u32 (u s.b), .int .u32 (u s.c), .int .u32 (u s.d), .int .u32 (u s.e)], .slice (some ⟨w.heap.size + 1, 0, none⟩) 64 64] W fun e w' => e = .returned (.agg (stv R)) ∧ Below W.heap.size W w') := Lib.hid hs2
  have HS3 : Hid (∀ W, Calls Tryd.prog 9 #[.agg (bc V).toArray] W fun e w' => e = .returned (.agg #[.int .u32 (u s.a), .int .u32 (u s.b), .int .u32 (u s.c), .int .u32 (u s.d), .int .u32 (u s.e)]) ∧ Below W.heap.size W w') := Lib.hid hs3
  have HS4 : Hid (∀ W, Calls Tryd.prog 11 #[.agg #[.int .u32 (u s.a), .int .u32 (u s.b), .int .u32 (u s.c), .int .u32 (u s.d), .int .u32 (u s.e)]] W fun e w' => ∃ A c, e = .returned (.slice A 20 c) ∧ Rb w' A V ∧ (A = none → c = 0) ∧ Below W.heap.size W w') := Lib.hid hs4
  have HS5 := Lib.hid hs5
  clear hs1 hs2 hs3 hs4 hs5 hR
  have hu64 := bund9
  have hu20 := dund
  have hi64 : (Tryd.prog.info? 38).map (·.size) = some (bc l).length := by rw [bsize9, bc_len, hl]
  have hi20 : (Tryd.prog.info? 25).map (·.size) = some (bc V).length := by rw [dsize, bc_len, HBL.out]
  have G0 := Lib.hid (HKS.out _ (Below.refl _ w4).drew)
  refine wp_region_held_drew (S := Sx w4 w.heap.size (w.heap.size + 1) w3.heap.size s l V) (by kernel_rfl) G0.out (fun hHeld => ?_)
  refine wpAnyH_take (i := 0) (v := .agg #[.int .u32 (u s.a), .int .u32 (u s.b), .int .u32 (u s.c), .int .u32 (u s.d), .int .u32 (u s.e)]) rfl (by kernel_rfl) (by kernel_rfl) (by kernel_rfl) (fun _ _ _ h => h) (Or.inl ⟨by rfl, fun w hSw => by obtain ⟨c0, c1, c2, c3, c4⟩ := hSw.st.all; go_simp⟩) hHeld ?_
  try simp only [Act.put, List.setIfInBounds_toArray, List.set_cons_zero, List.set_cons_succ]
  refine wpAnyH_take (i := 1) (v := .agg (bc l).toArray) rfl (by kernel_rfl) (by kernel_rfl) (by kernel_rfl) (fun _ _ _ h => h) (yieldsIf_load_mid (by rfl) 38 (.tmp 4) rfl (w.heap.size + 1) 0 rfl (bc l) _ (fun w hSw => hSw.bl) bund9 rfl hi64) hHeld ?_
  try simp only [Act.put, List.setIfInBounds_toArray, List.set_cons_zero, List.set_cons_succ]
  refine wpAnyH_take (i := 3) (v := .agg #[.int .u32 (u s.a), .int .u32 (u s.b), .int .u32 (u s.c), .int .u32 (u s.d), .int .u32 (u s.e)]) rfl (by kernel_rfl) (by kernel_rfl) (by kernel_rfl) (fun _ _ _ h => h) (Or.inl ⟨by rfl, fun w hSw => by obtain ⟨c0, c1, c2, c3, c4⟩ := hSw.st.all; go_simp⟩) hHeld ?_
  try simp only [Act.put, List.setIfInBounds_toArray, List.set_cons_zero, List.set_cons_succ]
  refine wpAnyH_take (i := 4) (v := .slice (some ⟨w.heap.size + 1, 0, none⟩) 64 64) rfl (by kernel_rfl) (by kernel_rfl) (by kernel_rfl) (fun _ _ _ h => h) (Or.inl ⟨by rfl, fun w hSw => by go_simp⟩) hHeld ?_
  try simp only [Act.put, List.setIfInBounds_toArray, List.set_cons_zero, List.set_cons_succ]
  refine wpAnyH_ready (rs := [2]) (by kernel_rfl) (by simp) ?_
  refine AllReadyH.cons rfl (fun K hK => ?_) AllReadyH.nil
  go_simp
  (go_at_call 17; refine (HS1.out _).mono ?_; rintro e w5 ⟨rfl, hb⟩; have K5 := Lib.hid ((Below.refl _ w4).drew.trans (hb.mono (Nat.le_refl _))); have G1 := Lib.hid (HKS.out _ K5.out); clear hb)
  refine hK.out _ _ G1.out (fun hHeld => ?_)
  clear hK K
  try simp only [Act.put, List.setIfInBounds_toArray, List.set_cons_zero, List.set_cons_succ]
  refine wpAnyH_ready (rs := [5]) (by kernel_rfl) (by simp) ?_
  refine AllReadyH.cons rfl (fun K hK => ?_) AllReadyH.nil
  go_simp
  (go_at_call 18; refine (HS2.out _ (HZ4.out.reads.below K5.out)).mono ?_; rintro e w6 ⟨rfl, hb⟩; have K6 := Lib.hid (K5.out.trans (hb.mono K5.out.size)); have G2 := Lib.hid (HKS.out _ K6.out); clear hb)
  refine hK.out _ _ G2.out (fun hHeld => ?_)
  clear hK K
  try simp only [Act.put, List.setIfInBounds_toArray, List.set_cons_zero, List.set_cons_succ]
  refine wpAnyH_take (i := 6) (v := .bool false) rfl (by kernel_rfl) (by kernel_rfl) (by kernel_rfl) (fun _ _ _ h => h) (Or.inl ⟨by rfl, fun w hSw => by have e := eq5 w; go_simp⟩) hHeld ?_
  try simp only [Act.put, List.setIfInBounds_toArray, List.set_cons_zero, List.set_cons_succ]
  refine wpAnyH_take (i := 7) (v := .bool false) rfl (by kernel_rfl) (by kernel_rfl) (by kernel_rfl) (fun _ _ _ h => h) (Or.inl ⟨by rfl, fun w hSw => by go_simp⟩) hHeld ?_
  try simp only [Act.put, List.setIfInBounds_toArray, List.set_cons_zero, List.set_cons_succ]
  refine wpAnyH_take (i := 8) (v := .agg (bc V).toArray) rfl (by kernel_rfl) (by kernel_rfl) (by kernel_rfl) (fun _ _ _ h => h) (yieldsIf_load_mid (by rfl) 25 (.tmp 7) rfl w3.heap.size 0 rfl (bc V) _ (fun w hSw => hSw.dg) dund rfl hi20) hHeld ?_
  try simp only [Act.put, List.setIfInBounds_toArray, List.set_cons_zero, List.set_cons_succ]
  refine wpAnyH_take (i := 10) (v := .agg #[.int .u32 (u s.a), .int .u32 (u s.b), .int .u32 (u s.c), .int .u32 (u s.d), .int .u32 (u s.e)]) rfl (by kernel_rfl) (by kernel_rfl) (by kernel_rfl) (fun _ _ _ h => h) (Or.inl ⟨by rfl, fun w hSw => by obtain ⟨c0, c1, c2, c3, c4⟩ := hSw.st.all; go_simp⟩) hHeld ?_
  try simp only [Act.put, List.setIfInBounds_toArray, List.set_cons_zero, List.set_cons_succ]
  refine wpAnyH_ready (rs := [9]) (by kernel_rfl) (by simp) ?_
  refine AllReadyH.cons rfl (fun K hK => ?_) AllReadyH.nil
  go_simp
  (go_at_call 9; refine (HS3.out _).mono ?_; rintro e w7 ⟨rfl, hb⟩; have K7 := Lib.hid (K6.out.trans (hb.mono K6.out.size)); have G3 := Lib.hid (HKS.out _ K7.out); clear hb)
  refine hK.out _ _ G3.out (fun hHeld => ?_)
  clear hK K
  try simp only [Act.put, List.setIfInBounds_toArray, List.set_cons_zero, List.set_cons_succ]
  refine wpAnyH_take (i := 11) (v := .bool false) rfl (by kernel_rfl) (by kernel_rfl) (by kernel_rfl) (fun _ _ _ h => h) (Or.inl ⟨by rfl, fun w hSw => by have e := eq6 w; go_simp⟩) hHeld ?_
  try simp only [Act.put, List.setIfInBounds_toArray, List.set_cons_zero, List.set_cons_succ]
  refine wpAnyH_take (i := 12) (v := .bool false) rfl (by kernel_rfl) (by kernel_rfl) (by kernel_rfl) (fun _ _ _ h => h) (Or.inl ⟨by rfl, fun w hSw => by go_simp⟩) hHeld ?_
  try simp only [Act.put, List.setIfInBounds_toArray, List.set_cons_zero, List.set_cons_succ]
  refine wpAnyH_take (i := 13) (v := .bool false) rfl (by kernel_rfl) (by kernel_rfl) (by kernel_rfl) (fun _ _ _ h => h) (Or.inl ⟨by rfl, fun w hSw => by go_simp⟩) hHeld ?_
  try simp only [Act.put, List.setIfInBounds_toArray, List.set_cons_zero, List.set_cons_succ]
  refine wpAnyH_take (i := 14) (v := .slice (some ⟨w3.heap.size, 0, none⟩) 20 20) rfl (by kernel_rfl) (by kernel_rfl) (by kernel_rfl) (fun _ _ _ h => h) (Or.inl ⟨by rfl, fun w hSw => by go_simp⟩) hHeld ?_
  try simp only [Act.put, List.setIfInBounds_toArray, List.set_cons_zero, List.set_cons_succ]
  refine wpAnyH_take (i := 15) (v := .agg #[.int .u32 (u s.a), .int .u32 (u s.b), .int .u32 (u s.c), .int .u32 (u s.d), .int .u32 (u s.e)]) rfl (by kernel_rfl) (by kernel_rfl) (by kernel_rfl) (fun _ _ _ h => h) (Or.inl ⟨by rfl, fun w hSw => by obtain ⟨c0, c1, c2, c3, c4⟩ := hSw.st.all; go_simp⟩) hHeld ?_
  try simp only [Act.put, List.setIfInBounds_toArray, List.set_cons_zero, List.set_cons_succ]
  refine wpAnyH_ready (rs := [16]) (by kernel_rfl) (by simp) ?_
  refine AllReadyH.cons rfl (fun K hK => ?_) AllReadyH.nil
  go_simp
  (go_at_call 11; refine (HS4.out _).mono ?_; rintro e w8 ⟨A, c, rfl, hr, hA, hb⟩; have HR8 := Lib.hid hr; have HA8 := Lib.hid hA; have K8 := Lib.hid (K7.out.trans (hb.mono K7.out.size)); have G4 := Lib.hid (HKS.out _ K8.out); clear hb hr hA)
  refine hK.out _ _ G4.out (fun hHeld => ?_)
  clear hK K
  try simp only [Act.put, List.setIfInBounds_toArray, List.set_cons_zero, List.set_cons_succ]
  refine wpAnyH_ready (rs := [17]) (by kernel_rfl) (by simp) ?_
  refine AllReadyH.cons rfl (fun K hK => ?_) AllReadyH.nil
  go_simp
  (go_at_call 10; refine (HS5.out _ _ _ (HD4.out.reads.below K8.out) HR8.out HA8.out).mono ?_; rintro e w9 ⟨rfl, rfl⟩)
  refine hK.out _ _ G4.out (fun hHeld => ?_)
  clear hK K
  try simp only [Act.put, List.setIfInBounds_toArray, List.set_cons_zero, List.set_cons_succ]
  refine wpAnyH_take (i := 18) (v := .bool false) rfl (by kernel_rfl) (by kernel_rfl) (by kernel_rfl) (fun _ _ _ h => h) (Or.inl ⟨by rfl, fun w hSw => by go_simp⟩) hHeld ?_
  try simp only [Act.put, List.setIfInBounds_toArray, List.set_cons_zero, List.set_cons_succ]
  refine wpAnyH_take (i := 19) (v := .bool false) rfl (by kernel_rfl) (by kernel_rfl) (by kernel_rfl) (fun _ _ _ h => h) (Or.inl ⟨by rfl, fun w hSw => by go_simp⟩) hHeld ?_
  try simp only [Act.put, List.setIfInBounds_toArray, List.set_cons_zero, List.set_cons_succ]
  refine wpAnyH_done (by kernel_rfl) ?_ _
  have HBE := Lib.hid (HB4.out.trans (K8.out.mono HB4.out.size))
  have hbk := HBK.out w8
  have hn := HN.out
  unfold fits at hn
  by_cases h0 : n < 0
  · rw [show pbI n = 0 by unfold pbI; rw [if_pos h0]] at hbk
    have HQ := Lib.hid hbk
    clear hbk
    go_upto_region 7 with (go_at_call 14; refine HQ.out.mono ?_; rintro e w9 ⟨rfl, rfl⟩)
    go_wp2
    go_ret
    exact ⟨rfl, HBE.out⟩
  · have hd0 : decide (n < 0) = false := decide_eq_false h0
    by_cases h1 : 55 < n % 64
    · have hd1 : decide (n % 64 ≤ 55) = false := decide_eq_false (by omega)
      have hd2 : decide (n / 64 = n / 64 + 2 - 1) = false := decide_eq_false (by omega)
      have hd3 : decide (n / 64 + 2 - 2 ≤ n / 64) = true := decide_eq_true (by omega)
      rw [show pbI n = n / 64 + 2 by unfold pbI; rw [if_neg h0, if_pos h1]] at hbk
      have HQ := Lib.hid hbk
      clear hbk
      go_upto_region 7 with (go_at_call 14; refine HQ.out.mono ?_; rintro e w9 ⟨rfl, rfl⟩)
      go_wp2
      all_goals go_ret
      all_goals first | exact ⟨rfl, HBE.out⟩ | (refine ⟨?_, HBE.out⟩; simp [hd1, hd2, hd3]; done) | (refine ⟨?_, HBE.out⟩; simp [hd1, hd2, hd3]; omega)
    · have hd1 : decide (n % 64 ≤ 55) = true := decide_eq_true (by omega)
      have hd2 : decide (n / 64 = n / 64 + 1 - 1) = true := decide_eq_true (by omega)
      have hd3 : decide (n / 64 + 1 - 2 ≤ n / 64) = true := decide_eq_true (by omega)
      rw [show pbI n = n / 64 + 1 by unfold pbI; rw [if_neg h0, if_neg h1]] at hbk
      have HQ := Lib.hid hbk
      clear hbk
      go_upto_region 7 with (go_at_call 14; refine HQ.out.mono ?_; rintro e w9 ⟨rfl, rfl⟩)
      go_wp2
      all_goals go_ret
      all_goals first | exact ⟨rfl, HBE.out⟩ | (refine ⟨?_, HBE.out⟩; simp [hd1, hd2, hd3]; done) | (refine ⟨?_, HBE.out⟩; simp [hd1, hd2, hd3]; omega)

end Go.Proofs.YtijopeacgpmicaaDoor
