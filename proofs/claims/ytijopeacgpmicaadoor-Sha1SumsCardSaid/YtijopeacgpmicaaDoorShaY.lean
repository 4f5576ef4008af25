/- The program's digests: Words, From. -/
import Derived.Test.YtijopeacgpmicaaDoorShaW
import Derived.StillTailTactics
import Derived.Deep.RegionHeld3
namespace Go.Proofs.YtijopeacgpmicaaDoor
open Go.RowKit Go.WideShapes Go.ChangeShapes
set_option linter.unusedVariables false

/-- The block g, of the type T, holds just the bytes L. -/
def Bt (T : TypeId) (w : World) (g : Nat) (L : List UInt8) : Prop := w.heap[g]? = some (.cells (bc L).toArray T (0, 0))
theorem Bt.lt {T : TypeId} {w : World} {g : Nat} {L : List UInt8} (h : Bt T w g L) : g < w.heap.size := bk_lt h
theorem Bt.cell {T : TypeId} {w : World} {g : Nat} {L : List UInt8} (h : Bt T w g L) {i : Nat} (hi : i < L.length) : w.cell? ⟨g, i, none⟩ = some (.int .u8 (L[i].toNat : Int)) := by
  rw [bk_cell h]
  have e := bc_at hi
  simpa using e
theorem Bt.below {T : TypeId} {w w' : World} {g B : Nat} {L : List UInt8} (h : Bt T w g L) (hb : Below B w w') (hB : g < B) : Bt T w' g L := (hb.block g hB).trans h
theorem Bt.reads {T : TypeId} {w : World} {g : Nat} {L : List UInt8} (h : Bt T w g L) : Rb w (some ⟨g, 0, none⟩) L := by
  refine ⟨fun z hz => ?_, .inr ⟨g, 0, rfl, h.lt, fun j z hj => ?_⟩⟩
  · obtain ⟨b, _, rfl⟩ := List.mem_map.1 hz
    have := b.toNat_lt
    simp [Lit.wf, IntKind.min, IntKind.max, IntKind.signed, IntKind.bits]
    omega
  · unfold nums at hj
    rw [List.getElem?_map] at hj
    cases hq : L[j]? with
    | none => rw [hq] at hj; cases hj
    | some b =>
      rw [hq] at hj
      obtain ⟨h1, h2⟩ := List.getElem?_eq_some_iff.1 hq
      rw [Nat.zero_add, h.cell h1, h2]
      simpa using hj
/-- A digest's words. -/
def wst (D : List UInt8) : St := ⟨bw D 0, bw D 1, bw D 2, bw D 3, bw D 4⟩
theorem Sb.below {w w' : World} {p B : Nat} {s : St} (h : Sb w p s) (hb : Below B w w') (hB : p < B) : Sb w' p s := (hb.block p hB).trans h
theorem wds5 {T : TypeId} {w : World} {g : Nat} {D : List UInt8} (h : Wb T w g (wds D 5 ++ List.drop 5 [0, 0, 0, 0, 0])) : w.heap[g]? = some (.cells (stv (wst D)) T (0, 0)) := h

set_option maxRecDepth 100000 in
set_option maxHeartbeats 1000000 in
theorem words_any (D : List UInt8) (hD : D.length = 20) (w : World) :
    Calls Tryd.prog 9 #[.agg (bc D).toArray] w fun e w' => e = .returned (.agg (stv (wst D))) ∧ Below w.heap.size w w' := by
  obtain ⟨W0, hW0⟩ : ∃ W0, W0 = ((w.alloc (.cells (bc D).toArray 25)).alloc (.cells #[.int .u32 0, .int .u32 0, .int .u32 0, .int .u32 0, .int .u32 0] 28)).alloc (.cells #[.int .u32 0, .int .u32 0, .int .u32 0, .int .u32 0, .int .u32 0] 28) := ⟨_, rfl⟩
  have b0 : Below w.heap.size w W0 := by rw [hW0]; exact (((Below.refl _ w).alloc (Nat.le_refl _) _).alloc (by simp) _).alloc (by simp; omega) _
  have z2 : Wb 28 W0 (w.heap.size + 1 + 1) [0, 0, 0, 0, 0] := by
    rw [hW0]
    have := heap_alloc_new ((w.alloc (.cells (bc D).toArray 25)).alloc (.cells #[.int .u32 0, .int .u32 0, .int .u32 0, .int .u32 0, .int .u32 0] 28)) (.cells #[.int .u32 0, .int .u32 0, .int .u32 0, .int .u32 0, .int .u32 0] 28)
    rw [World.size_alloc, World.size_alloc] at this
    exact this
  have z1 : Sb W0 (w.heap.size + 1) zs5 := by
    rw [hW0]
    have := heap_alloc_new (w.alloc (.cells (bc D).toArray 25)) (.cells #[.int .u32 0, .int .u32 0, .int .u32 0, .int .u32 0, .int .u32 0] 28)
    rw [World.size_alloc] at this
    have k : Sb ((w.alloc (.cells (bc D).toArray 25)).alloc (.cells #[.int .u32 0, .int .u32 0, .int .u32 0, .int .u32 0, .int .u32 0] 28)) (w.heap.size + 1) zs5 := this
    exact k.keep ((Below.refl _ _).alloc (Nat.le_refl _) _)
  have z0 : Bt 25 W0 w.heap.size D := by
    rw [hW0]
    have k : Bt 25 (w.alloc (.cells (bc D).toArray 25)) w.heap.size D := heap_alloc_new w _
    exact k.below ((((Below.refl _ _).alloc (Nat.le_refl _) _).alloc (by simp) _)) (by simp)
  have HS := Lib.hid (show w.heap.size + 1 + 1 < W0.heap.size from z2.lt)
  have Z1 := Lib.hid z1
  have B0 := Lib.hid b0
  have HR := Lib.hid (fun W (hb : Below W0.heap.size W0 W) => read_any 28 (w.heap.size + 1 + 1) 5 5 [0, 0, 0, 0, 0] (some ⟨w.heap.size, 0, none⟩) D 20 W (z2.below hb z2.lt) (by decide) (z0.reads.below hb) (fun h => by cases h) (by omega) (by omega) (by omega))
  rw [hD] at HR
  clear z0 z1 z2 b0
  go_enter Tryd.func9, Tryd.ntmps9
  go_upto_region 2 with fail
  rw [← hW0]; clear hW0
  refine wp_region_still_tail 2 (by kernel_rfl) (by kernel_rfl) ?_
  simp only [List.take_succ_cons, List.take_zero, List.drop_succ_cons, List.drop_zero]
  show wpStill _ _ W0.drew (fun a' => wpList _ _ _ _ a' W0.drew) _ _
  still_step
  still_step
  refine wpStill_nil ?_
  go_wp2_with (go_at_call 20; refine (HR.out _ (Below.drew (Below.refl _ _))).mono ?_; rintro e w1 ⟨rfl, hk, hb⟩; have K1 := Lib.hid (wds5 hk); have B1 := Lib.hid hb; obtain ⟨c0, c1, c2, c3, c4⟩ := Sb.all (s := wst D) K1.out; have ZB := Lib.hid ((Z1.out.below (Below.drew (Below.refl _ _)) (Nat.lt_trans (Nat.lt_succ_self _) HS.out)).below hb (Nat.lt_succ_self _)); obtain ⟨d0, d1, d2, d3, d4⟩ := ZB.out.all; obtain ⟨f0, f1, f2, f3, f4⟩ := ZB.out.frees; clear hk hb)
  have hP := put5_sb ZB.out (wst D)
  have hB := put5_below (B0.out.trans ((Below.trans (Below.drew (Below.refl w.heap.size W0)) (Below.mono B1.out (by omega))))) (Nat.le_succ w.heap.size) (wst D)
  obtain ⟨W9, hW9⟩ : ∃ W9, W9 = put5 w1 (w.heap.size + 1) (wst D) := ⟨_, rfl⟩
  rw [← hW9] at hP hB
  show bodyPost _ _ _ _ _ (put5 w1 (w.heap.size + 1) (wst D))
  rw [← hW9]
  obtain ⟨r0, r1, r2, r3, r4⟩ := hP.all
  refine bodyPost_ret (v := .agg (stv (wst D))) (by simp [results, Tryd.results9, go_sem, r0, r1, r2, r3, r4, stv]) rfl ⟨rfl, hB⟩

/-- The bytes of words. -/
theorem wb_byt (s : St) : wb 4 [u s.a, u s.b, u s.c, u s.d, u s.e] = byt s := by simp [wb, byt, u]
theorem Sb.reads {w : World} {p : Nat} {s : St} (h : Sb w p s) : Rz .u32 w (some ⟨p, 0, none⟩) [u s.a, u s.b, u s.c, u s.d, u s.e] := by
  refine ⟨fun z hz => ?_, .inr ⟨p, 0, rfl, h.lt, fun j z hj => ?_⟩⟩
  · simp at hz
    rcases hz with rfl | rfl | rfl | rfl | rfl <;> exact u_wf _
  · obtain ⟨c0, c1, c2, c3, c4⟩ := h.all
    rw [Nat.zero_add]
    match j, hj with
    | 0, hj => obtain rfl : u s.a = z := by simpa using hj
               exact c0
    | 1, hj => obtain rfl : u s.b = z := by simpa using hj
               exact c1
    | 2, hj => obtain rfl : u s.c = z := by simpa using hj
               exact c2
    | 3, hj => obtain rfl : u s.d = z := by simpa using hj
               exact c3
    | 4, hj => obtain rfl : u s.e = z := by simpa using hj
               exact c4
    | j + 5, hj => simp at hj
theorem dsize : (Tryd.prog.info? 25).map (·.size) = some 20 := by kernel_rfl
theorem dund : Tryd.prog.underlying 25 = some (.array 20 5) := by kernel_rfl
theorem bc_all (L : List UInt8) : (bc L).toArray.all (·.oneCell') = true := by
  simp only [List.all_toArray, List.all_eq_true]
  exact bc_one
set_option maxRecDepth 100000 in
set_option maxHeartbeats 1000000 in
theorem from_any (s : St) (w : World) :
    Calls Tryd.prog 16 #[.agg (stv s)] w fun e w' => e = .returned (.agg (bc (byt s)).toArray) ∧ Below w.heap.size w w' := by
  obtain ⟨W0, hW0⟩ : ∃ W0, W0 = (w.alloc (.cells (stv s) 28)).alloc (.cells #[.int .u8 0, .int .u8 0, .int .u8 0, .int .u8 0, .int .u8 0, .int .u8 0, .int .u8 0, .int .u8 0, .int .u8 0, .int .u8 0, .int .u8 0, .int .u8 0, .int .u8 0, .int .u8 0, .int .u8 0, .int .u8 0, .int .u8 0, .int .u8 0, .int .u8 0, .int .u8 0] 25) := ⟨_, rfl⟩
  have b0 : Below w.heap.size w W0 := by rw [hW0]; exact ((Below.refl _ w).alloc (Nat.le_refl _) _).alloc (by simp) _
  have p0 : Sb W0 w.heap.size s := by
    rw [hW0]
    have h1 : Sb (w.alloc (.cells (stv s) 28)) w.heap.size s := heap_alloc_new w _
    exact h1.keep ((Below.refl _ _).alloc (Nat.le_refl _) _)
  have z0 : Bt 25 W0 (w.heap.size + 1) (List.replicate 20 0) := by
    rw [hW0]
    have := heap_alloc_new (w.alloc (.cells (stv s) 28)) (.cells #[.int .u8 0, .int .u8 0, .int .u8 0, .int .u8 0, .int .u8 0, .int .u8 0, .int .u8 0, .int .u8 0, .int .u8 0, .int .u8 0, .int .u8 0, .int .u8 0, .int .u8 0, .int .u8 0, .int .u8 0, .int .u8 0, .int .u8 0, .int .u8 0, .int .u8 0, .int .u8 0] 25)
    rw [World.size_alloc] at this
    exact this
  have hput := put32_any none (some ⟨w.heap.size, 0, none⟩) [] [u s.a, u s.b, u s.c, u s.d, u s.e] 0 5 W0 (Rb.nil _) (fun _ => rfl) p0.reads (by decide) (by simp)
  rw [List.nil_append, wb_byt, byt_len] at hput
  have hat : ∀ (g : Nat) (w : World), (Instr.arrayAt 25 (.slice (some ⟨g, 0, none⟩) 20 20)).run Tryd.prog w = .ok (.pointer (some ⟨g, 0, none⟩)) w := fun g w => by kernel_rfl
  have HP := Lib.hid hput; have B0 := Lib.hid b0; have Z0 := Lib.hid z0
  have HL := Lib.hid (byt_len s)
  clear hput b0 z0 p0
  generalize byt s = D at *
  go_enter Tryd.func16, Tryd.ntmps16
  go_upto_region 1 with fail
  rw [← hW0]; clear hW0
  go_wp2_with (first
    | (go_at_call 22; refine HP.out.mono ?_; rintro e w1 ⟨g, hg, rfl, hk, hb⟩; have K1 := Lib.hid hk; have B1 := Lib.hid hb; clear hk hb)
    | (refine wpList_load_row rfl 25 (.tmp 5) rfl g rfl 5 (bc D).toArray (0, 0) _ K1.out dund rfl (by rw [dsize, List.size_toArray, bc_len, HL.out]) ?_)
    | (refine wpList_store_row rfl 25 (.tmp 2) (.tmp 6) rfl (w.heap.size + 1) (bc D).toArray rfl rfl 25 (bc (List.replicate 20 0)).toArray (Z0.out.below B1.out Z0.out.lt) (by rw [dsize, List.size_toArray, bc_len, HL.out]) (by rw [List.size_toArray, List.size_toArray, bc_len, bc_len, HL.out]; rfl) (bc_all _) ?_))
  have hk := Z0.out.below B1.out Z0.out.lt
  refine bodyPost_ret (results_cell_row rfl _ _ (w.heap.size + 1) 25 (bc D).toArray (0, 0) _ rfl (setRow_heap w1 (w.heap.size + 1) _ _ _ _ hk) dund rfl (by rw [dsize, List.size_toArray, bc_len, HL.out])) rfl ⟨rfl, ?_⟩
  exact below_setRow (B0.out.trans (B1.out.mono B0.out.size)) (Nat.le_succ _) _

end Go.Proofs.YtijopeacgpmicaaDoor
