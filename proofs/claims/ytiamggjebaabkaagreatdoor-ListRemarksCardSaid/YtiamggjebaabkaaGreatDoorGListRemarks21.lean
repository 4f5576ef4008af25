/- Merged: ShaW, ShaY. -/
import Derived.Test.YtiamggjebaabkaaGreatDoorGListRemarks17
import Derived.Test.YtiamggjebaabkaaGreatDoorGListRemarks20
import Derived.BigQuiet
import Derived.StillTailTactics
import Derived.Deep.RegionHeld3
namespace Go.Proofs.YtiamggjebaabkaaGreatDoor
open Go.RowKit Go.WideShapes Go.ChangeShapes
set_option linter.unusedVariables false

/-- The words that bytes begin with. -/
def wds (l : List UInt8) (n : Nat) : List (BitVec 32) := (List.range n).map (bw l)
theorem wds_len (l : List UInt8) (n : Nat) : (wds l n).length = n := by simp [wds]
theorem ebv4 (m : List UInt8) : ebv (m.take 4) < 4294967296 := by
  have h := ebv_lt (m.take 4)
  have h2 : (m.take 4).length ≤ 4 := by simp; omega
  have h3 : 256 ^ (m.take 4).length ≤ 256 ^ 4 := Nat.pow_le_pow_right (by decide) h2
  omega
theorem wl_wds (l : List UInt8) (n : Nat) : wl l 4 n = (wds l n).map u := by
  unfold wl wds
  rw [List.map_map]
  refine List.map_congr_left fun i _ => ?_
  show _ = u (bw l i)
  unfold u bw
  rw [BitVec.toNat_ofNat, Nat.mul_comm i 4, Nat.mod_eq_of_lt (by have := ebv4 (l.drop (4 * i)); omega)]
/-- The block g, of the type T, holds just the words p. -/
def Wb (T : TypeId) (w : World) (g : Nat) (p : List (BitVec 32)) : Prop := w.heap[g]? = some (.cells (cz .u32 (p.map u)).toArray T (0, 0))
theorem Wb.lt {T : TypeId} {w : World} {g : Nat} {p : List (BitVec 32)} (h : Wb T w g p) : g < w.heap.size := bk_lt h
theorem Wb.cell {T : TypeId} {w : World} {g : Nat} {p : List (BitVec 32)} (h : Wb T w g p) {i : Nat} {y : BitVec 32} (hi : p[i]? = some y) : w.cell? ⟨g, i, none⟩ = some (.int .u32 (u y)) := by
  rw [bk_cell h]
  simp [cz, hi]
theorem Wb.free {T : TypeId} {w : World} {g : Nat} {p : List (BitVec 32)} (h : Wb T w g p) (i : Nat) : w.frozen? ⟨g, i, none⟩ = false := bk_free h i
theorem Wb.below {T : TypeId} {w w' : World} {g B : Nat} {p : List (BitVec 32)} (h : Wb T w g p) (hb : Below B w w') (hB : g < B) : Wb T w' g p := (hb.block g hB).trans h
theorem Wb.set {T : TypeId} {w : World} {g : Nat} {p : List (BitVec 32)} (h : Wb T w g p) (i : Nat) (y : BitVec 32) : Wb T (w.setCell ⟨g, i, none⟩ (.int .u32 (u y))) g (p.set i y) := by
  have e := bk_set h i (.int .u32 (u y))
  unfold Wb
  rw [e]
  simp [cz, List.map_set]
theorem wsize : (Tryz.prog.info? 35).map (·.size) = some 1 := by kernel_rfl
/-- copy of words to the head of a block. -/
theorem copy_w {ops : Array Oper} {rest : List Oper} {o : Oper} {a : Act} {Q : Exit → Act → World → Prop} {w : World} (d s : Operand) (B : Nat) (w0 : World) (T : TypeId) (g : Nat) (Z p : List (BitVec 32)) (g' n dcap c : Nat)
    (hg : Wb T w g Z) (hr : Wk .u32 35 w g' (p.map u)) (hp : p.length = n) (hz : n ≤ Z.length) (hb : Below B w0 w) (hBg : B ≤ g)
    (hgd : o.guard = none) (ho : o.op = .call { callee := .builtin .copy, args := #[d, s], argTypes := #[164, 164] })
    (hd : a.eval d = .slice (some ⟨g, 0, none⟩) n dcap) (hs : a.eval s = .slice (some ⟨g', 0, none⟩) n c)
    (h : ∀ w', Wb T w' g (p ++ Z.drop n) → Below B w0 w' → wpList Tryz.prog ops Q rest (a.put o.dst (goInt n)) w') : wpList Tryz.prog ops Q (o :: rest) a w := by
  have hcl : (cz .u32 (p.map u)).length = n := by rw [cz_len, List.length_map, hp]
  refine wpList_copy_splice hgd d s 164 164 ho 35 Tryz.underlying164 wsize _ _ _ _ _ _ hd hs g 0 (cz .u32 (Z.map u)) T hg (cz .u32 (p.map u)) (by rw [hcl]; exact (Nat.min_self n).symm) (fun hp => ⟨rfl, _, rfl, fun j v hv => ?_⟩) (by rw [hcl, cz_len, List.length_map]; omega) (fun v hv => ?_) B w0 hb hBg ?_
  · rw [add_plain, Nat.zero_add]
    obtain ⟨z, hz, rfl⟩ := cz_at hv
    obtain ⟨h1, h2⟩ := List.getElem?_eq_some_iff.1 hz
    rw [hr.cell h1, h2]
  · unfold cz at hv
    obtain ⟨z, _, rfl⟩ := List.mem_map.mp hv
    rfl
  · intro w' h1 h2
    rw [hcl]
    refine h w' ?_ h2
    have h3 := h1.out
    unfold Wb
    rw [h3]
    congr 2
    unfold splice
    simp [cz, hp, List.map_drop]

set_option maxRecDepth 100000 in
theorem read_any (T : TypeId) (g n dcap : Nat) (Z : List (BitVec 32)) (A : Option Addr) (l : List UInt8) (c : Nat) (w : World) (hg : Wb T w g Z) (hz : n ≤ Z.length) (h : Rb w A l) (hA : A = none → c = 0) (hc : l.length ≤ c) (hl : 4 * n ≤ l.length) (hl2 : l.length ≤ 1000000) :
    Calls Tryz.prog 159 #[.slice (some ⟨g, 0, none⟩) n dcap, .slice A l.length c] w fun e w' => e = .returned (.tuple #[]) ∧ Wb T w' g (wds l n ++ Z.drop n) ∧ Below g w w' := by
  have hL := list32_yes A l c 0 (n : Int) w h hA hc hl2 (by unfold fits; omega) (by unfold fits; omega) (by unfold rm; rw [if_neg (by omega), if_neg (by omega)])
  simp only [Int.toNat_natCast, Int.toNat_zero, List.drop_zero] at hL
  rw [wl_wds] at hL
  have HL := Lib.hid hL
  have HG := Lib.hid hg; have HZ := Lib.hid hz; have HP := Lib.hid (wds_len l n)
  clear hL h hA hc hl hl2 hg hz
  generalize wds l n = p at *
  go_enter Tryz.func159, Tryz.ntmps159
  go_wp2_with (first
    | (go_at_call 188; refine HL.out.mono ?_; rintro e w1 ⟨g', hg', rfl, hk, hb⟩; have HK := Lib.hid hk; have HB := Lib.hid hb; clear hk hb)
    | (refine copy_w (.tmp 13) (.tmp 14) g w T g Z p g' n dcap n (HG.out.below HB.out HG.out.lt) HK.out HP.out HZ.out (HB.out.mono (Nat.le_of_lt HG.out.lt)) (Nat.le_refl _) rfl rfl rfl rfl ?_; intro w2 h1 h2; have H1 := Lib.hid h1; have H2 := Lib.hid h2; clear h1 h2))
  go_end0
  exact ⟨rfl, H1.out, H2.out⟩

end Go.Proofs.YtiamggjebaabkaaGreatDoor

namespace Go.Proofs.YtiamggjebaabkaaGreatDoor
open Go.RowKit Go.WideShapes Go.ChangeShapes
set_option linter.unusedVariables false

/-- The block g, of the type T, holds just the bytes L. -/
def Bt (T : TypeId) (w : World) (g : Nat) (L : List UInt8) : Prop := w.heap[g]? = some (.cells (bc L).toArray T (0, 0))
theorem Bt.lt {T : TypeId} {w : World} {g : Nat} {L : List UInt8} (h : Bt T w g L) : g < w.heap.size := bk_lt h
theorem Bt.cell {T : TypeId} {w : World} {g : Nat} {L : List UInt8} (h : Bt T w g L) {i : Nat} (hi : i < L.length) : w.cell? ⟨g, i, none⟩ = some (.int .u8 (L[i].toNat : Int)) := by
  rw [bk_cell h]
  have e := bc_at hi
  simpa using e
theorem Bt.below {T : TypeId} {w w' : World} {g B : Nat} {L : List UInt8} (h : Bt T w g L) (hb : Below B w w') (hB : g < B) : Bt T w' g L := (hb.block g hB).trans h
theorem Bt.reads {T : TypeId} {w : World} {g : Nat} {L : List UInt8} (h : Bt T w g L) : Rb w (some ⟨g, 0, none⟩) L := by
  refine ⟨fun z hz => ?_, .inr ⟨g, 0, rfl, h.lt, fun j z hj => ?_⟩⟩
  · obtain ⟨b, _, rfl⟩ := List.mem_map.1 hz
    have := b.toNat_lt
    simp [Lit.wf, IntKind.min, IntKind.max, IntKind.signed, IntKind.bits]
    omega
  · unfold nums at hj
    rw [List.getElem?_map] at hj
    cases hq : L[j]? with
    | none => rw [hq] at hj; cases hj
    | some b =>
      rw [hq] at hj
      obtain ⟨h1, h2⟩ := List.getElem?_eq_some_iff.1 hq
      rw [Nat.zero_add, h.cell h1, h2]
      simpa using hj
theorem Sb.below {w w' : World} {p B : Nat} {s : St} (h : Sb w p s) (hb : Below B w w') (hB : p < B) : Sb w' p s := (hb.block p hB).trans h
/-- The bytes of words. -/
theorem wb_byt (s : St) : wb 4 [u s.a, u s.b, u s.c, u s.d, u s.e] = byt s := by simp [wb, byt, u]
theorem Sb.reads {w : World} {p : Nat} {s : St} (h : Sb w p s) : Rz .u32 w (some ⟨p, 0, none⟩) [u s.a, u s.b, u s.c, u s.d, u s.e] := by
  refine ⟨fun z hz => ?_, .inr ⟨p, 0, rfl, h.lt, fun j z hj => ?_⟩⟩
  · simp at hz
    rcases hz with rfl | rfl | rfl | rfl | rfl <;> exact u_wf _
  · obtain ⟨c0, c1, c2, c3, c4⟩ := h.all
    rw [Nat.zero_add]
    match j, hj with
    | 0, hj => obtain rfl : u s.a = z := by simpa using hj
               exact c0
    | 1, hj => obtain rfl : u s.b = z := by simpa using hj
               exact c1
    | 2, hj => obtain rfl : u s.c = z := by simpa using hj
               exact c2
    | 3, hj => obtain rfl : u s.d = z := by simpa using hj
               exact c3
    | 4, hj => obtain rfl : u s.e = z := by simpa using hj
               exact c4
    | j + 5, hj => simp at hj
theorem dsize : (Tryz.prog.info? 49).map (·.size) = some 20 := by kernel_rfl
theorem dund : Tryz.prog.underlying 49 = some (.array 20 5) := by kernel_rfl
theorem bc_all (L : List UInt8) : (bc L).toArray.all (·.oneCell') = true := by
  simp only [List.all_toArray, List.all_eq_true]
  exact bc_one
set_option maxRecDepth 100000 in
set_option maxHeartbeats 1000000 in
theorem from_any (s : St) (w : World) :
    Calls Tryz.prog 95 #[.agg (stv s)] w fun e w' => e = .returned (.agg (bc (byt s)).toArray) ∧ Below w.heap.size w w' := by
  obtain ⟨W0, hW0⟩ : ∃ W0, W0 = (w.alloc (.cells (stv s) 36)).alloc (.cells #[.int .u8 0, .int .u8 0, .int .u8 0, .int .u8 0, .int .u8 0, .int .u8 0, .int .u8 0, .int .u8 0, .int .u8 0, .int .u8 0, .int .u8 0, .int .u8 0, .int .u8 0, .int .u8 0, .int .u8 0, .int .u8 0, .int .u8 0, .int .u8 0, .int .u8 0, .int .u8 0] 49) := ⟨_, rfl⟩
  have b0 : Below w.heap.size w W0 := by rw [hW0]; exact ((Below.refl _ w).alloc (Nat.le_refl _) _).alloc (by simp) _
  have p0 : Sb W0 w.heap.size s := by
    rw [hW0]
    have h1 : Sb (w.alloc (.cells (stv s) 36)) w.heap.size s := heap_alloc_new w _
    exact h1.keep ((Below.refl _ _).alloc (Nat.le_refl _) _)
  have z0 : Bt 49 W0 (w.heap.size + 1) (List.replicate 20 0) := by
    rw [hW0]
    have := heap_alloc_new (w.alloc (.cells (stv s) 36)) (.cells #[.int .u8 0, .int .u8 0, .int .u8 0, .int .u8 0, .int .u8 0, .int .u8 0, .int .u8 0, .int .u8 0, .int .u8 0, .int .u8 0, .int .u8 0, .int .u8 0, .int .u8 0, .int .u8 0, .int .u8 0, .int .u8 0, .int .u8 0, .int .u8 0, .int .u8 0, .int .u8 0] 49)
    rw [World.size_alloc] at this
    exact this
  have hput := put32_any none (some ⟨w.heap.size, 0, none⟩) [] [u s.a, u s.b, u s.c, u s.d, u s.e] 0 5 W0 (Rb.nil _) (fun _ => rfl) p0.reads (by decide) (by simp)
  rw [List.nil_append, wb_byt, byt_len] at hput
  have hat : ∀ (g : Nat) (w : World), (Instr.arrayAt 49 (.slice (some ⟨g, 0, none⟩) 20 20)).run Tryz.prog w = .ok (.pointer (some ⟨g, 0, none⟩)) w := fun g w => by kernel_rfl
  have HP := Lib.hid hput; have B0 := Lib.hid b0; have Z0 := Lib.hid z0
  have HL := Lib.hid (byt_len s)
  clear hput b0 z0 p0
  generalize byt s = D at *
  go_enter Tryz.func95, Tryz.ntmps95
  go_upto_region 1 with fail
  rw [← hW0]; clear hW0
  go_wp2_with (first
    | (go_at_call 129; refine HP.out.mono ?_; rintro e w1 ⟨g, hg, rfl, hk, hb⟩; have K1 := Lib.hid hk; have B1 := Lib.hid hb; clear hk hb)
    | (refine wpList_load_row rfl 49 (.tmp 5) rfl g rfl 5 (bc D).toArray (0, 0) _ K1.out dund rfl (by rw [dsize, List.size_toArray, bc_len, HL.out]) ?_)
    | (refine wpList_store_row rfl 49 (.tmp 2) (.tmp 6) rfl (w.heap.size + 1) (bc D).toArray rfl rfl 49 (bc (List.replicate 20 0)).toArray (Z0.out.below B1.out Z0.out.lt) (by rw [dsize, List.size_toArray, bc_len, HL.out]) (by rw [List.size_toArray, List.size_toArray, bc_len, bc_len, HL.out]; rfl) (bc_all _) ?_))
  have hk := Z0.out.below B1.out Z0.out.lt
  refine bodyPost_ret (results_cell_row rfl _ _ (w.heap.size + 1) 49 (bc D).toArray (0, 0) _ rfl (setRow_heap w1 (w.heap.size + 1) _ _ _ _ hk) dund rfl (by rw [dsize, List.size_toArray, bc_len, HL.out])) rfl ⟨rfl, ?_⟩
  exact below_setRow (B0.out.trans (B1.out.mono B0.out.size)) (Nat.le_succ _) _

end Go.Proofs.YtiamggjebaabkaaGreatDoor
