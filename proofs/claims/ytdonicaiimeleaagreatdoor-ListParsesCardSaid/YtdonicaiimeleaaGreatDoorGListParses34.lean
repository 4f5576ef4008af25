/- Merged: ShaY, ListV, MjdM, Pairs. -/
import Derived.Test.YtdonicaiimeleaaGreatDoorGListParses33
import Derived.StillTailTactics
import Derived.Deep.RegionHeld3
import Derived.Test.YtdonicaiimeleaaGreatDoorGListParses28
import Derived.Test.YtdonicaiimeleaaGreatDoorGListParses5
import Derived.Test.YtdonicaiimeleaaGreatDoorGListParses1
import Derived.Lib.LaidTab
import Derived.Lib.SmallJoins
import Derived.ChangeSame
import Derived.OpenShut
namespace Go.Proofs.YtdonicaiimeleaaGreatDoor
open Go.RowKit Go.WideShapes Go.ChangeShapes
set_option linter.unusedVariables false

/-- The block g, of the type T, holds just the bytes L. -/
def Bt (T : TypeId) (w : World) (g : Nat) (L : List UInt8) : Prop := w.heap[g]? = some (.cells (bc L).toArray T (0, 0))
theorem Bt.lt {T : TypeId} {w : World} {g : Nat} {L : List UInt8} (h : Bt T w g L) : g < w.heap.size := bk_lt h
theorem Bt.cell {T : TypeId} {w : World} {g : Nat} {L : List UInt8} (h : Bt T w g L) {i : Nat} (hi : i < L.length) : w.cell? ⟨g, i, none⟩ = some (.int .u8 (L[i].toNat : Int)) := by
  rw [bk_cell h]
  have e := bc_at hi
  simpa using e
theorem Bt.below {T : TypeId} {w w' : World} {g B : Nat} {L : List UInt8} (h : Bt T w g L) (hb : Below B w w') (hB : g < B) : Bt T w' g L := (hb.block g hB).trans h
theorem Bt.reads {T : TypeId} {w : World} {g : Nat} {L : List UInt8} (h : Bt T w g L) : Rb w (some ⟨g, 0, none⟩) L := by
  refine ⟨fun z hz => ?_, .inr ⟨g, 0, rfl, h.lt, fun j z hj => ?_⟩⟩
  · obtain ⟨b, _, rfl⟩ := List.mem_map.1 hz
    have := b.toNat_lt
    simp [Lit.wf, IntKind.min, IntKind.max, IntKind.signed, IntKind.bits]
    omega
  · unfold nums at hj
    rw [List.getElem?_map] at hj
    cases hq : L[j]? with
    | none => rw [hq] at hj; cases hj
    | some b =>
      rw [hq] at hj
      obtain ⟨h1, h2⟩ := List.getElem?_eq_some_iff.1 hq
      rw [Nat.zero_add, h.cell h1, h2]
      simpa using hj
theorem Sb.below {w w' : World} {p B : Nat} {s : St} (h : Sb w p s) (hb : Below B w w') (hB : p < B) : Sb w' p s := (hb.block p hB).trans h
/-- The bytes of words. -/
theorem wb_byt (s : St) : wb 4 [u s.a, u s.b, u s.c, u s.d, u s.e] = byt s := by simp [wb, byt, u]
theorem Sb.reads {w : World} {p : Nat} {s : St} (h : Sb w p s) : Rz .u32 w (some ⟨p, 0, none⟩) [u s.a, u s.b, u s.c, u s.d, u s.e] := by
  refine ⟨fun z hz => ?_, .inr ⟨p, 0, rfl, h.lt, fun j z hj => ?_⟩⟩
  · simp at hz
    rcases hz with rfl | rfl | rfl | rfl | rfl <;> exact u_wf _
  · obtain ⟨c0, c1, c2, c3, c4⟩ := h.all
    rw [Nat.zero_add]
    match j, hj with
    | 0, hj => obtain rfl : u s.a = z := by simpa using hj
               exact c0
    | 1, hj => obtain rfl : u s.b = z := by simpa using hj
               exact c1
    | 2, hj => obtain rfl : u s.c = z := by simpa using hj
               exact c2
    | 3, hj => obtain rfl : u s.d = z := by simpa using hj
               exact c3
    | 4, hj => obtain rfl : u s.e = z := by simpa using hj
               exact c4
    | j + 5, hj => simp at hj
theorem dsize : (Tryz.prog.info? 74).map (·.size) = some 20 := by kernel_rfl
theorem dund : Tryz.prog.underlying 74 = some (.array 20 5) := by kernel_rfl
theorem bc_all (L : List UInt8) : (bc L).toArray.all (·.oneCell') = true := by
  simp only [List.all_toArray, List.all_eq_true]
  exact bc_one
set_option maxRecDepth 100000 in
set_option maxHeartbeats 1000000 in
theorem from_any (s : St) (w : World) :
    Calls Tryz.prog 71 #[.agg (stv s)] w fun e w' => e = .returned (.agg (bc (byt s)).toArray) ∧ Below w.heap.size w w' := by
  obtain ⟨W0, hW0⟩ : ∃ W0, W0 = (w.alloc (.cells (stv s) 36)).alloc (.cells #[.int .u8 0, .int .u8 0, .int .u8 0, .int .u8 0, .int .u8 0, .int .u8 0, .int .u8 0, .int .u8 0, .int .u8 0, .int .u8 0, .int .u8 0, .int .u8 0, .int .u8 0, .int .u8 0, .int .u8 0, .int .u8 0, .int .u8 0, .int .u8 0, .int .u8 0, .int .u8 0] 74) := ⟨_, rfl⟩
  have b0 : Below w.heap.size w W0 := by rw [hW0]; exact ((Below.refl _ w).alloc (Nat.le_refl _) _).alloc (by simp) _
  have p0 : Sb W0 w.heap.size s := by
    rw [hW0]
    have h1 : Sb (w.alloc (.cells (stv s) 36)) w.heap.size s := heap_alloc_new w _
    exact h1.keep ((Below.refl _ _).alloc (Nat.le_refl _) _)
  have z0 : Bt 74 W0 (w.heap.size + 1) (List.replicate 20 0) := by
    rw [hW0]
    have := heap_alloc_new (w.alloc (.cells (stv s) 36)) (.cells #[.int .u8 0, .int .u8 0, .int .u8 0, .int .u8 0, .int .u8 0, .int .u8 0, .int .u8 0, .int .u8 0, .int .u8 0, .int .u8 0, .int .u8 0, .int .u8 0, .int .u8 0, .int .u8 0, .int .u8 0, .int .u8 0, .int .u8 0, .int .u8 0, .int .u8 0, .int .u8 0] 74)
    rw [World.size_alloc] at this
    exact this
  have hput := put32_any none (some ⟨w.heap.size, 0, none⟩) [] [u s.a, u s.b, u s.c, u s.d, u s.e] 0 5 W0 (Rb.nil _) (fun _ => rfl) p0.reads (by decide) (by simp)
  rw [List.nil_append, wb_byt, byt_len] at hput
  have hat : ∀ (g : Nat) (w : World), (Instr.arrayAt 74 (.slice (some ⟨g, 0, none⟩) 20 20)).run Tryz.prog w = .ok (.pointer (some ⟨g, 0, none⟩)) w := fun g w => by kernel_rfl
  have HP := Lib.hid hput; have B0 := Lib.hid b0; have Z0 := Lib.hid z0
  have HL := Lib.hid (byt_len s)
  clear hput b0 z0 p0
  generalize byt s = D at *
  go_enter Tryz.func71, Tryz.ntmps71
  go_upto_region 1 with fail
  rw [← hW0]; clear hW0
  go_wp2_with (first
    | (go_at_call 99; refine HP.out.mono ?_; rintro e w1 ⟨g, hg, rfl, hk, hb⟩; have K1 := Lib.hid hk; have B1 := Lib.hid hb; clear hk hb)
    | (refine wpList_load_row rfl 74 (.tmp 5) rfl g rfl 5 (bc D).toArray (0, 0) _ K1.out dund rfl (by rw [dsize, List.size_toArray, bc_len, HL.out]) ?_)
    | (refine wpList_store_row rfl 74 (.tmp 2) (.tmp 6) rfl (w.heap.size + 1) (bc D).toArray rfl rfl 74 (bc (List.replicate 20 0)).toArray (Z0.out.below B1.out Z0.out.lt) (by rw [dsize, List.size_toArray, bc_len, HL.out]) (by rw [List.size_toArray, List.size_toArray, bc_len, bc_len, HL.out]; rfl) (bc_all _) ?_))
  have hk := Z0.out.below B1.out Z0.out.lt
  refine bodyPost_ret (results_cell_row rfl _ _ (w.heap.size + 1) 74 (bc D).toArray (0, 0) _ rfl (setRow_heap w1 (w.heap.size + 1) _ _ _ _ hk) dund rfl (by rw [dsize, List.size_toArray, bc_len, HL.out])) rfl ⟨rfl, ?_⟩
  exact below_setRow (B0.out.trans (B1.out.mono B0.out.size)) (Nat.le_succ _) _

end Go.Proofs.YtdonicaiimeleaaGreatDoor

namespace Go.Proofs.YtdonicaiimeleaaGreatDoor
open Go.RowKit Go.WideShapes Go.ChangeShapes
set_option linter.unusedVariables false
set_option linter.unusedSimpArgs false

/-- Word j of five; a word set. -/
def n5 (s : St) : Nat → Nat
  | 0 => s.a.toNat
  | 1 => s.b.toNat
  | 2 => s.c.toNat
  | 3 => s.d.toNat
  | _ => s.e.toNat
def up5 (s : St) (v : BitVec 32) : Nat → St
  | 0 => ⟨v, s.b, s.c, s.d, s.e⟩
  | 1 => ⟨s.a, v, s.c, s.d, s.e⟩
  | 2 => ⟨s.a, s.b, v, s.d, s.e⟩
  | 3 => ⟨s.a, s.b, s.c, v, s.e⟩
  | _ => ⟨s.a, s.b, s.c, s.d, v⟩
theorem n5_up (s : St) (v : BitVec 32) {K j : Nat} (hK : K < 5) (hj : j < 5) : n5 (up5 s v K) j = if j = K then v.toNat else n5 s j := by
  match K, hK with
  | 0, _ => match j, hj with | 0, _ => rfl | 1, _ => rfl | 2, _ => rfl | 3, _ => rfl | 4, _ => rfl
  | 1, _ => match j, hj with | 0, _ => rfl | 1, _ => rfl | 2, _ => rfl | 3, _ => rfl | 4, _ => rfl
  | 2, _ => match j, hj with | 0, _ => rfl | 1, _ => rfl | 2, _ => rfl | 3, _ => rfl | 4, _ => rfl
  | 3, _ => match j, hj with | 0, _ => rfl | 1, _ => rfl | 2, _ => rfl | 3, _ => rfl | 4, _ => rfl
  | 4, _ => match j, hj with | 0, _ => rfl | 1, _ => rfl | 2, _ => rfl | 3, _ => rfl | 4, _ => rfl
theorem Sb.up {w : World} {p : Nat} {s : St} (h : Sb w p s) (v : BitVec 32) {K : Nat} (hK : K < 5) : Sb (w.setCell ⟨p, K, none⟩ (.int .u32 (u v))) p (up5 s v K) := by
  match K, hK with
  | 0, _ => exact h.s0 v
  | 1, _ => exact h.s1 v
  | 2, _ => exact h.s2 v
  | 3, _ => exact h.s3 v
  | 4, _ => exact h.s4 v
theorem Sb.at5 {w : World} {p : Nat} {s : St} (h : Sb w p s) {K : Nat} (hK : K < 5) : (∃ x, w.cell? ⟨p, K, none⟩ = some x) ∧ w.frozen? ⟨p, K, none⟩ = false := by
  obtain ⟨a0, a1, a2, a3, a4⟩ := h.all
  obtain ⟨f0, f1, f2, f3, f4⟩ := h.frees
  match K, hK with
  | 0, _ => exact ⟨⟨_, a0⟩, f0⟩
  | 1, _ => exact ⟨⟨_, a1⟩, f1⟩
  | 2, _ => exact ⟨⟨_, a2⟩, f2⟩
  | 3, _ => exact ⟨⟨_, a3⟩, f3⟩
  | 4, _ => exact ⟨⟨_, a4⟩, f4⟩
theorem Sb.kept {w w' : World} {p g : Nat} {s : St} (h : Sb w p s) (hg : w.grownBy w' (some g)) (hne : p ≠ g) : Sb w' p s := (hg.block p h.lt (by intro c; injection c with c; exact hne c)).trans h
theorem Bt.kept11 {T : TypeId} {w w' : World} {p g : Nat} {L : List UInt8} (h : Bt T w p L) (hg : w.grownBy w' (some g)) (hne : p ≠ g) : Bt T w' p L := (hg.block p (bk_lt h) (by intro c; injection c with c; exact hne c)).trans h
theorem it_le {l : List UInt8} {k : Nat} (h : k ≤ l.length) : ∀ i, (it11 l k i).1 ≤ l.length
  | 0 => h
  | i + 1 => by
    have ih := it_le h i
    have h1 := gaK_le (it11 l k i).2 ih
    rw [it11]
    show swK l _ _ ≤ _
    unfold swK
    have := tw_le hd (rs l (gaK l (it11 l k i).1 (it11 l k i).2) (gaE l (it11 l k i).1 (it11 l k i).2))
    have := rs_le l (gaK l (it11 l k i).1 (it11 l k i).2) (gaE l (it11 l k i).1 (it11 l k i).2)
    omega
theorem it_zt (l : List UInt8) (k i : Nat) : (it11 l k i).2 = 0 ∨ (it11 l k i).2 = 2 := by
  rcases it_cases (l := l) (k := k) i 0 rfl with h | ⟨h, _⟩
  · rw [Nat.zero_add] at h; exact .inr h
  · rw [Nat.zero_add] at h; exact .inl h
theorem it_back {l : List UInt8} {k i : Nat} (h : (it11 l k (i + 1)).2 = 0) : (it11 l k i).2 = 0 := by
  rcases it_zt l k i with h1 | h1
  · exact h1
  · have := it_two h1 1
    rw [h] at this; cases this

theorem gb_new {w W : World} {g i : Nat} {r : Option Nat} (h : w.grownBy W r) (hg : w.heap.size ≤ g) (v : Value) : w.grownBy (W.setCell ⟨g, i, none⟩ v) r := by
  have b : Below g W (W.setCell ⟨g, i, none⟩ v) := (Below.refl _ W).setCell (p := ⟨g, i, none⟩) (Nat.le_refl _) v
  exact ⟨b.os.trans h.os, b.tape.trans h.tape, b.output.trans h.output, Nat.le_trans h.size b.size, fun k hk hne => (b.block k (by omega)).trans (h.block k hk hne)⟩
theorem results_row_tmp {P : Program} {fn : Func} {p t2 : Tmp} {ty : TypeId} (h : fn.results = #[.cell p ty, .tmp t2]) (tmps : Array Value) (w : World) (g : Nat) (t : TypeId) (cs : Array Value) (fr : Nat × Nat) (d : TypeDesc)
    (hp : tmps.getD p undef = .pointer (some ⟨g, 0, none⟩)) (hg : w.heap[g]? = some (.cells cs t fr))
    (hu : P.underlying ty = some d) (hd : (match d with | .struct _ | .array _ _ => true | _ => false) = true) (hi : (P.info? ty).map (·.size) = some cs.size) :
    (results fn tmps).run P w = .ok (.tuple #[.agg cs, tmps.getD t2 undef]) w := by
  have hp' : tmps[p]?.getD undef = .pointer (some ⟨g, 0, none⟩) := by simpa using hp
  simp [results, h, hp', asAddr, run_loadVar_row w g t ty cs fr d hg hu hd hi]
/-- What is no error has five words behind it. -/
theorem dge_end {l : List UInt8} {k : Nat} (h : dgE l k = 0) : (it11 l k 5).2 = 0 := by
  rcases it_zt l k 5 with h1 | h1
  · exact h1
  · unfold dgE at h; rw [h1, en_two] at h; cases h
theorem dg_zt (l : List UInt8) (k : Nat) : dgE l k = 0 ∨ dgE l k = 2 := by
  rcases dg_is l k with h | h
  · exact .inl h.1
  · exact .inr h.1
theorem gb_row {w W : World} {g : Nat} {r : Option Nat} (h : w.grownBy W r) (hg : w.heap.size ≤ g) (cs : Array Value) : w.grownBy (W.setRow g cs) r := by
  have b := below_setRow (B := g) (Below.refl _ W) (Nat.le_refl _) cs
  exact ⟨b.os.trans h.os, b.tape.trans h.tape, b.output.trans h.output, Nat.le_trans h.size b.size, fun k hk hne => (b.block k (by omega)).trans (h.block k hk hne)⟩
set_option maxRecDepth 100000 in
set_option maxHeartbeats 4000000 in
theorem readdigest_s (g k : Nat) (s : ByteArray) (w : World) (hg : GE w) (n1 : g ≠ 6) (n2 : g ≠ 7) (h : Sk Ts w g (.string s) k 0) (hk : k ≤ s.size) (hs : s.size ≤ 100000) :
    Calls Tryz.prog 47 #[.pointer (some ⟨g, 0, none⟩)] w fun x w' => (∃ D : List UInt8, x = .returned (.tuple #[.agg (bc D).toArray, ev (dgE s.data.toList k)]) ∧ D.length = 20 ∧ (dgE s.data.toList k = 0 → ∃ S : St, D = byt S ∧ ∀ j, j < 5 → n5 S j = hxN (dgW s.data.toList k j))) ∧ w.grownBy w' (some g) := by
  have hglt := h.lt
  obtain ⟨W0, hW0⟩ : ∃ W0, W0 = (w.alloc (.cells #[.int .u8 0, .int .u8 0, .int .u8 0, .int .u8 0, .int .u8 0, .int .u8 0, .int .u8 0, .int .u8 0, .int .u8 0, .int .u8 0, .int .u8 0, .int .u8 0, .int .u8 0, .int .u8 0, .int .u8 0, .int .u8 0, .int .u8 0, .int .u8 0, .int .u8 0, .int .u8 0] 74)).alloc (.cells #[.int .u32 0, .int .u32 0, .int .u32 0, .int .u32 0, .int .u32 0] 36) := ⟨_, rfl⟩
  have b0 : Below w.heap.size w W0 := by rw [hW0]; exact ((Below.refl _ w).alloc (Nat.le_refl _) _).alloc (by simp) _
  have d0 : Bt 74 W0 w.heap.size (List.replicate 20 0) := by
    rw [hW0]
    have h1 : Bt 74 (w.alloc (.cells #[.int .u8 0, .int .u8 0, .int .u8 0, .int .u8 0, .int .u8 0, .int .u8 0, .int .u8 0, .int .u8 0, .int .u8 0, .int .u8 0, .int .u8 0, .int .u8 0, .int .u8 0, .int .u8 0, .int .u8 0, .int .u8 0, .int .u8 0, .int .u8 0, .int .u8 0, .int .u8 0] 74)) w.heap.size (List.replicate 20 0) := heap_alloc_new w _
    exact h1.below ((Below.refl _ _).alloc (Nat.le_refl _) _) (bk_lt h1)
  have p0 : Sb W0 (w.heap.size + 1) zs5 := by
    rw [hW0]
    have := heap_alloc_new (w.alloc (.cells #[.int .u8 0, .int .u8 0, .int .u8 0, .int .u8 0, .int .u8 0, .int .u8 0, .int .u8 0, .int .u8 0, .int .u8 0, .int .u8 0, .int .u8 0, .int .u8 0, .int .u8 0, .int .u8 0, .int .u8 0, .int .u8 0, .int .u8 0, .int .u8 0, .int .u8 0, .int .u8 0] 74)) (.cells #[.int .u32 0, .int .u32 0, .int .u32 0, .int .u32 0, .int .u32 0] 36)
    rw [World.size_alloc] at this
    exact this
  have s0 : Sk Ts W0 g (.string s) k 0 := h.below b0 hglt
  have g0 : GE W0 := hg.below b0
  have HN := Lib.hid (And.intro n1 n2)
  have hsz : s.data.toList.length = s.size := by simp
  have HK := Lib.hid (show ∀ i, (it11 s.data.toList k i).1 ≤ s.size from fun i => by rw [← hsz]; exact it_le (by rw [hsz]; exact hk) i)
  have HK2 := Lib.hid (show ∀ i, gaK s.data.toList (it11 s.data.toList k i).1 (it11 s.data.toList k i).2 ≤ s.size from fun i => by rw [← hsz]; exact gaK_le _ (by rw [hsz]; exact HK.out i))
  have HK3 := Lib.hid (show ruK s.data.toList (it11 s.data.toList k 5).1 (it11 s.data.toList k 5).2 ≤ s.size by rw [← hsz]; exact ruK_le _ (by rw [hsz]; exact HK.out 5))
  have H1 := Lib.hid (fun i w1 h1 => gap_s g (it11 s.data.toList k i).1 (it11 s.data.toList k i).2 s w1 h1 (HK.out i) hs)
  have H2 := Lib.hid (fun i w1 hg1 h1 => readword_s g (gaK s.data.toList (it11 s.data.toList k i).1 (it11 s.data.toList k i).2) (gaE s.data.toList (it11 s.data.toList k i).1 (it11 s.data.toList k i).2) s w1 hg1 n1 n2 h1 (HK2.out i) hs)
  have H3 := Lib.hid (fun w1 h1 => runw_s g (it11 s.data.toList k 5).1 (it11 s.data.toList k 5).2 s w1 h1 (HK.out 5) hs)
  have H4 := Lib.hid (fun w1 h1 => end_s g (ruK s.data.toList (it11 s.data.toList k 5).1 (it11 s.data.toList k 5).2) (it11 s.data.toList k 5).2 (.string s) s w1 h1 rfl HK3.out hs)
  have B0 := Lib.hid b0; have D0 := Lib.hid d0; have P0 := Lib.hid p0; have S0 := Lib.hid s0; have G0 := Lib.hid g0
  have Q0 : Hid (w.grownBy W0 (some g)) := Lib.hid (gb_below (gb_refl _ _) b0)
  have NE : Hid (w.heap.size ≠ g ∧ w.heap.size + 1 ≠ g ∧ g < w.heap.size ∧ w.heap.size + 1 ≠ 6 ∧ w.heap.size + 1 ≠ 7) := Lib.hid (by
    obtain ⟨⟨v1, q1, -⟩, v2, q2, -⟩ := hg
    have l1 : 6 < w.heap.size := World.block_lt_of_cell? _ _ q1
    have l2 : 7 < w.heap.size := World.block_lt_of_cell? _ _ q2
    exact ⟨by omega, by omega, hglt, by omega, by omega⟩)
  have HE := Lib.hid (dg_zt s.data.toList k)
  have e4 : enE s.data.toList (ruK s.data.toList (it11 s.data.toList k 5).1 (it11 s.data.toList k 5).2) (it11 s.data.toList k 5).2 = dgE s.data.toList k := rfl
  rw [e4] at H4
  clear e4
  clear b0 d0 p0 s0 g0 h hg n1 n2 hglt hk hs HK HK2 HK3 hsz
  go_enter Tryz.func47, Tryz.ntmps47
  go_upto_region 2 with fail
  rw [← hW0]
  clear hW0
  go_wp2
  go_loopg [7] 5 (fun gg s7 wr => ∃ (K : Nat) (S : St), K ≤ 5 ∧ 5 - K ≤ gg ∧ s7 = .int .i64 K ∧ Hid (w.grownBy wr (some g)) ∧ Hid (Bt 74 wr w.heap.size (List.replicate 20 0)) ∧ Hid (Sb wr (w.heap.size + 1) S) ∧ Hid (Sk Ts wr g (.string s) (it11 s.data.toList k K).1 (it11 s.data.toList k K).2) ∧ Hid (GE wr) ∧ Hid ((it11 s.data.toList k K).2 = 0 → ∀ j, j < K → n5 S j = hxN (dgW s.data.toList k j)))
  case atStart => exact ⟨0, zs5, by omega, by omega, rfl, Q0, D0, P0, S0, G0, Lib.hid (fun _ j hj => absurd hj (Nat.not_lt_zero _))⟩
  case round =>
    clear Q0 D0 P0 S0 G0 B0
    obtain ⟨K, S, hK, hgg, rfl, Q5, D5, P5, S5, G5, T5⟩ := hrel
    by_cases hlt : K < 5
    · have hltz : (K : Int) < 5 := by omega
      have h0 : (0 : Int) ≤ (K : Int) := by omega
      have HLT := Lib.hid hlt
      have FI : Hid (∀ W, Sb W (w.heap.size + 1) S → (∃ x, W.cell? ⟨w.heap.size + 1, K, none⟩ = some x) ∧ W.frozen? ⟨w.heap.size + 1, K, none⟩ = false) := Lib.hid (fun W hW => hW.at5 hlt)
      go_wp2_with (first
        | (go_at_call 67; refine (H1.out K _ S5.out).mono ?_; rintro x w1 ⟨rfl, hm⟩; have M1 := Lib.hid hm; clear hm)
        | (go_at_call 70; refine (H2.out K _ (G5.out.kept M1.out.2 HN.out.1 HN.out.2) M1.out.1).mono ?_; rintro x w2 ⟨⟨n, rfl, hn, hv⟩, hm⟩; obtain ⟨y, hyn⟩ : ∃ y : BitVec 32, y.toNat = n := ⟨BitVec.ofNat 32 n, by simp; omega⟩; subst hyn; have M2 := Lib.hid hm; have P7 := Lib.hid ((P5.out.kept M1.out.2 NE.out.2.1).kept hm.2 NE.out.2.1); obtain ⟨⟨y0, hy0⟩, hf⟩ := FI.out _ P7.out; have HV := Lib.hid hv; have Q7 := Lib.hid ((Q5.out.trans M1.out.2).trans hm.2); have D7 := Lib.hid ((D5.out.kept11 M1.out.2 NE.out.1).kept11 hm.2 NE.out.1); have G7 := Lib.hid ((G5.out.kept M1.out.2 HN.out.1 HN.out.2).kept hm.2 HN.out.1 HN.out.2); clear hm hv hn))
      go_roundg (5 - (K + 1))
      case measure => omega
      case rel => exact ⟨K + 1, up5 S y K, by omega, by omega, by go_num, Lib.hid (gb_new Q7.out (Nat.le_succ _) _), Lib.hid (D7.out.kept11 (gb_set (gb_refl _ _) K _) (by omega)), Lib.hid (P7.out.up y HLT.out), Lib.hid (M2.out.1.kept (gb_set (gb_refl _ _) K _) (by intro c; injection c with c; exact NE.out.2.1 c.symm)), Lib.hid (G7.out.kept (gb_set (gb_refl _ _) K _) NE.out.2.2.2.1 NE.out.2.2.2.2), Lib.hid (by
        intro he j hj
        rw [n5_up S y HLT.out (by have := HLT.out; omega)]
        by_cases e : j = K
        · subst e
          rw [if_pos rfl]
          exact HV.out he
        · rw [if_neg e]
          exact T5.out (it_back he) j (by omega))⟩
    · obtain rfl : K = 5 := by omega
      rcases HE.out with hE | hE
      · have H4' := H4.out
        rw [hE] at H4'
        have H5 : Hid (∀ w1, Sk Ts w1 g (Value.string s) (ruK s.data.toList (it11 s.data.toList k 5).1 (it11 s.data.toList k 5).2) (it11 s.data.toList k 5).2 → Calls Tryz.prog 69 #[.pointer (some ⟨g, 0, none⟩)] w1 fun x w' => x = .returned .nilIface ∧ ∃ n, w' = w1.drewN n) := Lib.hid H4'
        have T6 : Hid (∃ S' : St, byt S = byt S' ∧ ∀ j, j < 5 → n5 S' j = hxN (dgW s.data.toList k j)) := Lib.hid ⟨S, rfl, T5.out (dge_end hE)⟩
        have HE9 := Lib.hid hE
        have BL := Lib.hid (byt_len S)
        clear H4' H4 hE HE
        have HF := Lib.hid (fun w1 => from_any S w1)
        generalize hBD : byt S = D at *
        clear hBD
        go_wp2_with (first
          | (go_at_call 63; refine (H3.out _ S5.out).mono ?_; rintro x w3 ⟨⟨T, rfl, -⟩, hm⟩; have M3 := Lib.hid hm; clear hm)
          | (go_at_call 69; refine (H5.out _ M3.out.1).mono ?_; rintro x w4 ⟨rfl, nq, rfl⟩; have Q8 := Lib.hid (Q5.out.trans (gb_draw M3.out.2 nq)); have D8 := Lib.hid (D5.out.kept11 (gb_draw M3.out.2 nq) NE.out.1); have P8 := Lib.hid (P5.out.kept (gb_draw M3.out.2 nq) NE.out.2.1); obtain ⟨c0, c1, c2, c3, c4⟩ := P8.out.all)
          | (go_at_call 71; refine (HF.out _).mono ?_; rintro x w5 ⟨rfl, hb⟩; have Q9 := Lib.hid (gb_below Q8.out hb); have D9 := Lib.hid (D8.out.below hb D8.out.lt); clear hb)
          | (refine wpList_store_row rfl 74 (.tmp 2) (.tmp 26) rfl w.heap.size (bc D).toArray rfl rfl 74 (bc (List.replicate 20 0)).toArray D9.out (by rw [dsize, List.size_toArray, bc_len, BL.out]) (by rw [List.size_toArray, List.size_toArray, bc_len, bc_len, BL.out]; rfl) (bc_all _) ?_))
        refine bodyPost_ret (results_row_tmp rfl _ _ w.heap.size 74 (bc D).toArray (0, 0) _ rfl (setRow_heap _ w.heap.size _ _ _ _ D9.out) dund rfl (by rw [dsize, List.size_toArray, bc_len, BL.out])) rfl ⟨⟨D, by rw [HE9.out]; rfl, BL.out, fun _ => T6.out⟩, gb_row Q9.out (Nat.le_refl _) _⟩
      · have H4' := H4.out
        rw [hE] at H4'
        have H5 : Hid (∀ w1, Sk Ts w1 g (Value.string s) (ruK s.data.toList (it11 s.data.toList k 5).1 (it11 s.data.toList k 5).2) (it11 s.data.toList k 5).2 → Calls Tryz.prog 69 #[.pointer (some ⟨g, 0, none⟩)] w1 fun x w' => x = .returned (.iface 56 (.int .i64 2)) ∧ ∃ n, w' = w1.drewN n) := Lib.hid H4'
        have HE9 := Lib.hid hE
        clear H4' H4 hE HE
        go_wp2_with (first
          | (go_at_call 63; refine (H3.out _ S5.out).mono ?_; rintro x w3 ⟨⟨T, rfl, -⟩, hm⟩; have M3 := Lib.hid hm; clear hm)
          | (go_at_call 69; refine (H5.out _ M3.out.1).mono ?_; rintro x w4 ⟨rfl, nq, rfl⟩; have Q8 := Lib.hid (Q5.out.trans (gb_draw M3.out.2 nq)); have D8 := Lib.hid (D5.out.kept11 (gb_draw M3.out.2 nq) NE.out.1))
          | (refine wpList_store_row rfl 74 (.tmp 2) (.tmp 23) rfl w.heap.size (bc (List.replicate 20 0)).toArray rfl rfl 74 (bc (List.replicate 20 0)).toArray D8.out (by rw [dsize]; rfl) rfl (bc_all _) ?_))
        refine bodyPost_ret (results_row_tmp rfl _ _ w.heap.size 74 (bc (List.replicate 20 0)).toArray (0, 0) _ rfl (setRow_heap _ w.heap.size _ _ _ _ D8.out) dund rfl (by rw [dsize]; rfl)) rfl ⟨⟨List.replicate 20 0, by rw [HE9.out]; rfl, rfl, fun h => absurd (HE9.out.symm.trans h) (by decide)⟩, gb_row Q8.out (Nat.le_refl _) _⟩

end Go.Proofs.YtdonicaiimeleaaGreatDoor

namespace Go.Proofs.YtdonicaiimeleaaGreatDoor
open Go.RowKit
set_option linter.unusedVariables false

/-- A kind that there is. -/
def kn (k : Int) : Prop := 1 ≤ k ∧ k ≤ 4
instance (k : Int) : Decidable (kn k) := inferInstanceAs (Decidable (_ ∧ _))
/-- A kind's count of the day 0. -/
def ez (k : Int) : Int := if k = 1 then 40587 else if k = 2 then 2440588 else if k = 3 then 25567 else if k = 4 then -3657 else 0
/-- A kind's word. -/
def ew (k : Int) : List UInt8 := if k = 1 then [109, 111, 100, 105, 102, 105, 101, 100] else if k = 2 then [106, 117, 108, 105, 97, 110] else if k = 3 then [115, 116, 97, 109, 112, 101, 100] else if k = 4 then [115, 97, 116, 101, 108, 108, 105, 116, 101] else []
def kE (k : Int) : Int := if kn k then 0 else 11
/-- The number of no date. -/
def nod (n : Int) : Prop := n < -4371587 ∨ 2932896 < n
instance (n : Int) : Decidable (nod n) := inferInstanceAs (Decidable (_ ∨ _))
/-- Count: the error's number, the count. -/
def ctE (k n : Int) : Int := if kn k then (if nod n then 13 else 0) else 11
def ctN (k n : Int) : Int := if ctE k n = 0 then n + ez k else 0
/-- ParseFive. -/
def is5 (l : List UInt8) : Prop := l.length = 5 ∧ lead l = 5
instance (l : List UInt8) : Decidable (is5 l) := inferInstanceAs (Decidable (_ ∧ _))
theorem ez_bd (k : Int) : -3657 ≤ ez k ∧ ez k ≤ 2440588 := by unfold ez; split <;> (try split) <;> (try split) <;> (try split) <;> omega
theorem kn_no {k : Int} (h : ¬ kn k) : ew k = [] ∧ ez k = 0 ∧ kE k = 11 := by
  have e : kE k = 11 := if_neg h
  unfold kn at h
  refine ⟨?_, ?_, e⟩
  · unfold ew; rw [if_neg (by omega), if_neg (by omega), if_neg (by omega), if_neg (by omega)]
  · unfold ez; rw [if_neg (by omega), if_neg (by omega), if_neg (by omega), if_neg (by omega)]
theorem kn_yes {k : Int} (h : kn k) : kE k = 0 ∧ (k = 1 ∨ k = 2 ∨ k = 3 ∨ k = 4) := ⟨if_pos h, by unfold kn at h; omega⟩
theorem ct_no {k : Int} (n : Int) (h : ¬ kn k) : ctE k n = 11 ∧ ctN k n = 0 := by
  have e : ctE k n = 11 := if_neg h
  exact ⟨e, if_neg (by rw [e]; decide)⟩
theorem ct_far {k n : Int} (h : kn k) (g : nod n) : ctE k n = 13 ∧ ctN k n = 0 := by
  have e : ctE k n = 13 := by unfold ctE; rw [if_pos h, if_pos g]
  exact ⟨e, if_neg (by rw [e]; decide)⟩
theorem ct_yes {k n : Int} (h : kn k) (g : ¬ nod n) : ctE k n = 0 ∧ ctN k n = n + ez k := by
  have e : ctE k n = 0 := by unfold ctE; rw [if_pos h, if_neg g]
  exact ⟨e, if_pos e⟩
/-! five figures -/
/-! there and back -/
end Go.Proofs.YtdonicaiimeleaaGreatDoor

namespace Go.Proofs.YtdonicaiimeleaaGreatDoor
open Go.RowKit
set_option linter.unusedVariables false

/-- The table as a row of the statement lists it. -/
def pairData {H : Type} (rows : List (List UInt8 × Int)) : DataW H := .agg (rows.map fun r => .agg [.lit (.string r.1), .lit (.int .i64 r.2)])
/-- The variable's cells: for each row its string, then its integer. -/
def PairsAre (P : Program) (w : World) (name : String) (rows : List (List UInt8 × Int)) : Prop :=
  ∃ cs, w.var? P name = some cs ∧ ∀ (i : Nat) (r : List UInt8 × Int), rows[i]? = some r → cs[2 * i]? = some (.string ⟨r.1.toArray⟩) ∧ cs[2 * i + 1]? = some (.int .i64 r.2)

theorem pairs_of_head {P : Program} {W : World} {name : String} {rows : List (List UInt8 × Int)} {rest : List (String × DataW Unit)} {g n : Nat} {t e : TypeId} {f0 f1 : Field}
    (hg : P.globalNamed name = some g) (hty : (P.globals[g]?).map (·.type) = some t) (ht : P.underlying t = some (.array n e)) (he : P.underlying e = some (.struct #[f0, f1]))
    (h0 : P.underlying f0.type = some .string) (h1 : P.underlying f1.type = some (.int .i64)) (o0 : f0.offset = 0) (o1 : f1.offset = 1) (hce : P.cellsOf e = 2) (c0 : P.cellsOf f0.type = 1) (c1 : P.cellsOf f1.type = 1)
    (h : laidMet P ((name, pairData rows) :: rest) W) : PairsAre P W name rows := by
  obtain ⟨ps, ⟨g', t', cs, fuel, p, q, hg', ht', hvar, hd, _, _⟩, _⟩ := h
  obtain rfl := Option.some.inj (hg.symm.trans hg')
  obtain rfl := Option.some.inj (hty.symm.trans ht')
  refine ⟨cs, hvar, fun i r hr => ?_⟩
  obtain ⟨xs, m, rfl, hx, hl, hn, hi⟩ := DataW.trod_array ht hd
  have hxs : xs.map (·.1) = rows.map fun r => (DataW.agg [.lit (.string r.1), .lit (.int .i64 r.2)] : DataW Unit) := by
    have := congrArg Prod.fst hx
    simpa [pairData] using this.symm
  have hlen : xs.length = rows.length := by simpa using congrArg List.length hxs
  have hir : i < rows.length := by
    rcases Nat.lt_or_ge i rows.length with h | h
    · exact h
    · rw [List.getElem?_eq_none h] at hr; cases hr
  have hy : (xs.map (·.1))[i]? = some (DataW.agg [.lit (.string r.1), .lit (.int .i64 r.2)]) := by rw [hxs]; simp [hr]
  rw [List.getElem?_map, Option.map_eq_some_iff] at hy
  obtain ⟨y, hy, hy1⟩ := hy
  have hd := hi i (by omega)
  rw [hy, hce] at hd
  obtain ⟨y0, y1, k, rfl, hl2, hd0, hd1⟩ := Go.ChangeShapes.trod_struct2 he hd
  rw [o0, c0] at hd0
  rw [o1, c1] at hd1
  obtain ⟨s, es, rfl, _⟩ := DataW.trod_string h0 hd0
  obtain ⟨z, ez, rfl, _⟩ := DataW.trod_int h1 hd1
  simp only [DataW.agg.injEq, List.cons.injEq, DataW.lit.injEq, Lit.string.injEq, Lit.int.injEq, and_true, true_and] at hy1
  obtain ⟨e0, e1⟩ := hy1
  have a0 := congrArg (·[0]?) es
  have a1 := congrArg (·[0]?) ez
  simp [List.getElem?_drop] at a0 a1
  rw [Nat.mul_comm] at a0 a1
  refine ⟨?_, ?_⟩
  · rw [a0]
    congr 2
    rw [← e0]
  · rw [a1, e1]

theorem PairsAre.cells {P : Program} {w : World} {name : String} {rows : List (List UInt8 × Int)} {g : Nat} (h : PairsAre P w name rows) (hg : P.globalNamed name = some g) {i : Nat} {r : List UInt8 × Int} (hr : rows[i]? = some r) :
    w.cell? ⟨g, 2 * i, none⟩ = some (.string ⟨r.1.toArray⟩) ∧ w.cell? ⟨g, 2 * i + 1, none⟩ = some (.int .i64 r.2) := by
  obtain ⟨cs, hv, hc⟩ := h
  obtain ⟨a, b⟩ := hc i r hr
  exact ⟨(World.var?_cell hg hv _).trans a, (World.var?_cell hg hv _).trans b⟩
theorem PairsAre.below {P : Program} {w w' : World} {name : String} {rows : List (List UInt8 × Int)} {g : Nat} (h : PairsAre P w name rows) (hg : P.globalNamed name = some g) (hb : Below w.heap.size w w') : PairsAre P w' name rows := by
  obtain ⟨cs, hv, hc⟩ := h
  exact ⟨cs, Joins.var_stays hg hv hb (Nat.le_refl _), hc⟩
theorem PairsAre.lt {P : Program} {w : World} {name : String} {rows : List (List UInt8 × Int)} {g : Nat} (h : PairsAre P w name rows) (hg : P.globalNamed name = some g) : g < w.heap.size := by
  obtain ⟨cs, hv, -⟩ := h
  unfold World.var? at hv
  rw [hg] at hv
  simp only [Option.bind_some] at hv
  rcases Nat.lt_or_ge g w.heap.size with h' | h'
  · exact h'
  · rw [Array.getElem?_eq_none h'] at hv; cases hv

end Go.Proofs.YtdonicaiimeleaaGreatDoor
