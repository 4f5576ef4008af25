/- Merged: Build, ShaI, ShaK. -/
import Derived.Test.YtiamggjebaabkaaGreatDoorGListRemarks2
import Derived.Test.YtiamggjebaabkaaGreatDoorGListRemarks12
import Derived.Shelf.Strings.Builder1
import Derived.Lib.Builder
import Derived.Lib.AppendStr
import Derived.Laws.Externs
import Derived.Test.YtiamggjebaabkaaGreatDoorGListRemarks21
import Derived.Deep.DeepCutAuto
import Derived.Deep.CutRange
import Derived.Deep.CutBlock
import Derived.LoopTactic
import Derived.Test.YtiamggjebaabkaaGreatDoorGListRemarks17
import Derived.Test.YtiamggjebaabkaaGreatDoorGListRemarks19
import Derived.Laws.CopyRow
import Derived.Deep.RegionHeld3
namespace Go.Proofs.YtiamggjebaabkaaGreatDoor
open Go.RowKit
set_option linter.unusedVariables false
set_option linter.unusedSimpArgs false

/-- The builder b holds the bytes l. -/
def Bd (w : World) (B b : Nat) (l : List UInt8) : Prop := Lib.IsBuilder 89 5 B b (Lib.byteCells l) w
theorem bd_info : (Tryz.prog.info? 5).map (fun i => (i.zero, i.size, i.bytes)) = some (some (.int .u8 0), 1, 1) := by kernel_rfl
theorem Bd.new (w : World) : Bd (w.alloc (.cells #[.pointer none, .slice none 0 0] 89)) w.heap.size w.heap.size [] :=
  .inl ⟨Nat.le_refl _, .slice none 0 0, heap_alloc_new w _, ⟨rfl, .inl ⟨rfl, rfl⟩⟩, by intro e; cases e⟩
theorem Bd.below {w w' : World} {B b : Nat} {l : List UInt8} (h : Bd w B b l) (hb : Below w.heap.size w w') : Bd w' B b l := by
  have k : ∀ p, Lib.BuilderAt 89 5 B b p (Lib.byteCells l) w → Lib.BuilderAt 89 5 B b p (Lib.byteCells l) w' := fun p ⟨h1, v, h2, h3, h4⟩ =>
    ⟨h1, v, (hb.block _ (bk_lt h2)).trans h2, ⟨h3.1, by
      rcases h3.2 with h0 | ⟨g, cap, cur, k1, k2, k3, k4⟩
      · exact .inl h0
      · exact .inr ⟨g, cap, cur, k1, k2, (hb.block g (bk_lt k3)).trans k3, k4⟩⟩, h4⟩
  rcases h with h | h
  · exact .inl (k _ h)
  · exact .inr (k _ h)
/-- Blocks of another type than bytes, but for the builder's own, stand as they stood. -/
def Keep8 (b : Nat) (w w' : World) : Prop := w.heap.size ≤ w'.heap.size ∧ ∀ k cs T fr, w.heap[k]? = some (.cells cs T fr) → T ≠ 5 → k ≠ b → w'.heap[k]? = some (.cells cs T fr)
theorem Keep8.refl (b : Nat) (w : World) : Keep8 b w w := ⟨Nat.le_refl _, fun _ _ _ _ h _ _ => h⟩
theorem Keep8.trans {b : Nat} {w w1 w2 : World} (h : Keep8 b w w1) (k : Keep8 b w1 w2) : Keep8 b w w2 := ⟨Nat.le_trans h.1 k.1, fun j cs T fr a c d => k.2 j cs T fr (h.2 j cs T fr a c d) c d⟩
theorem Keep8.below {b : Nat} {w w1 : World} (h : Below w.heap.size w w1) : Keep8 b w w1 := ⟨h.size, fun j cs T fr a _ _ => (h.block j (bk_lt a)).trans a⟩
theorem Keep8.set (b i : Nat) (w : World) (v : Value) : Keep8 b w (w.setCell ⟨b, i, none⟩ v) := ⟨by simp [World.setCell], fun j cs T fr a _ d => (Below.heap_setCell w ⟨b, i, none⟩ v j d).trans a⟩

set_option maxRecDepth 100000 in
set_option maxHeartbeats 1000000 in
theorem copycheck_any (B b : Nat) (l : List UInt8) (w : World) (h : Bd w B b l) : Calls Tryz.prog 62 #[.pointer (some ⟨b, 0, none⟩)] w fun e w' => e = .returned (.tuple #[]) ∧ Lib.BuilderAt 89 5 B b (.pointer (some ⟨b, 0, none⟩)) (Lib.byteCells l) w' ∧ Below B w w' ∧ Keep8 b w w' := by
  rcases h with h | h
  · have HK := Lib.hid (And.intro (h.used (.pointer (some ⟨b, 0, none⟩))) (And.intro ((Below.refl B w).setCell (p := ⟨b, 0, none⟩) h.1 (.pointer (some ⟨b, 0, none⟩))) (Keep8.set b 0 w (.pointer (some ⟨b, 0, none⟩)))))
    have c0 := h.cell0
    have f0 := h.frozen0
    have hsh := h.shape
    clear h
    obtain ⟨j, hj, hjs⟩ := Option.map_eq_some_iff.1 (show (Tryz.prog.info? 89).map (·.size) = some 2 by kernel_rfl)
    go_enter Tryz.func62, Tryz.ntmps62
    go_wp2
    rw [Lib.run_to_unsafe w ⟨b, 0, none⟩ Tryz.underlying87 Tryz.underlying146 hj (by rw [hjs]; decide) hsh (Nat.zero_lt_succ 1)]
    simp only [Result.andThen]
    rw [Oper.upon_value]
    go_wp2
    rw [run_callFunc_extern Tryz.func87 (by kernel_rfl) (by kernel_rfl) (by kernel_rfl) (e := Extern.AbiNoEscape.same) (by kernel_rfl)]
    rw [Lib.run_noEscape]
    simp only [Result.andThen]
    rw [Oper.upon_value]
    go_wp2
    rw [Lib.run_from_unsafe w ⟨b, 0, none⟩ Tryz.underlying146 Tryz.underlying87 hj hsh (by kernel_rfl)]
    simp only [Result.andThen]
    rw [Oper.upon_value]
    go_wp2
    go_end0
    exact ⟨rfl, HK.out⟩
  · have HK := Lib.hid h
    have c0 := h.cell0
    clear h
    obtain ⟨j, hj, hjs⟩ := Option.map_eq_some_iff.1 (show (Tryz.prog.info? 89).map (·.size) = some 2 by kernel_rfl)
    go_enter Tryz.func62, Tryz.ntmps62
    go_wp2
    rw [Lib.run_neq_ptr_same w _ Tryz.underlying87 hj]
    go_wp2
    go_end0
    exact ⟨rfl, HK.out, Below.refl B _, Keep8.refl b _⟩
set_option maxRecDepth 100000 in
set_option maxHeartbeats 1000000 in
theorem writestring_any (B b : Nat) (l m : List UInt8) (w : World) (h : Bd w B b l) (hlen : l.length + m.length ≤ 10000000) (hBw : B ≤ w.heap.size) :
    Calls Tryz.prog 37 #[.pointer (some ⟨b, 0, none⟩), .string ⟨m.toArray⟩] w fun e w' => (∃ v, e = .returned v) ∧ Bd w' B b (l ++ m) ∧ Below B w w' ∧ Keep8 b w w' := by
  obtain ⟨i0, hi, hz0, hz1, hz2⟩ := info_parts bd_info
  have HC := Lib.hid (copycheck_any B b l w h)
  obtain ⟨s, hs⟩ : ∃ s : ByteArray, s = ⟨m.toArray⟩ := ⟨_, rfl⟩
  have hsm : Lib.strCells s = Lib.byteCells m := by rw [hs]; simp [Lib.strCells, Lib.byteCells]
  have hsz : s.size = m.length := by rw [hs]; simp [ByteArray.size]
  rw [← hs]
  clear h hs
  go_enter Tryz.func37, Tryz.ntmps37
  go_wp2_with (go_at_call 62; refine HC.out.mono ?_)
  rintro e w1 ⟨rfl, h1, hb1, hk1⟩
  obtain ⟨hB, v, hbk, hown, hne⟩ := h1
  have c0 : w1.cell? ⟨b, 0, none⟩ = some (.pointer (some ⟨b, 0, none⟩)) := bk_cell hbk 0
  have c1 : w1.cell? ⟨b, 1, none⟩ = some v := bk_cell hbk 1
  go_wp2_with (at_builtin; refine Lib.wpList_append_own_string _ rfl _ _ 59 9 rfl B 5 i0 Tryz.underlying59 Tryz.underlying9 hi hz0 hz1 hz2 _ _ _ rfl hown s rfl ?c3 ?c4 ?c5 ?_)
  case c3 => rw [Lib.byteCells_length]; unfold maxLen; omega
  case c4 => rw [Lib.byteCells_length]; omega
  case c5 => have := hb1.size; omega
  intro v' w2 hown' hgrow _
  have hlt : b < w1.heap.size := bk_lt hbk
  have hb2 : w2.heap[b]? = some (.cells #[.pointer (some ⟨b, 0, none⟩), v] 89 (0, 0)) := (hgrow.block b hlt (fun e => hne e.symm)).trans hbk
  have d0 : w2.cell? ⟨b, 0, none⟩ = some (.pointer (some ⟨b, 0, none⟩)) := bk_cell hb2 0
  have d1 : w2.cell? ⟨b, 1, none⟩ = some v := bk_cell hb2 1
  have f1 : w2.frozen? ⟨b, 1, none⟩ = false := bk_free hb2 1
  obtain ⟨ao, n', cap, rfl⟩ : ∃ ao n' cap, v' = .slice ao n' cap := by
    rcases hown'.2 with ⟨hv, _⟩ | ⟨g, cap, cur, hv, _⟩
    · exact ⟨_, _, _, hv⟩
    · exact ⟨_, _, _, hv⟩
  have HK8 := Lib.hid (hk1.trans (Keep8.trans (w1 := w2) ⟨hgrow.size, fun k cs T fr a c d => (hgrow.block k (bk_lt a) (fun e => by
      rcases hown.2 with ⟨hv, _⟩ | ⟨g, cap9, cur, hv, _, k3, _⟩
      · rw [hv] at e; cases e
      · rw [hv] at e
        injection e with e
        subst e
        rw [k3] at a
        injection a with a
        injection a with _ a _
        exact c a.symm)).trans a⟩ (Keep8.set b 1 w2 (.slice ao n' cap))))
  have HP : Hid (Lib.BuilderAt 89 5 B b (.pointer (some ⟨b, 0, none⟩)) (Lib.byteCells (l ++ m)) (w2.setCell ⟨b, 1, none⟩ (.slice ao n' cap)) ∧ Below B w (w2.setCell ⟨b, 1, none⟩ (.slice ao n' cap))) := Lib.hid ⟨Lib.BuilderAt.put (T := 89) (e := 5) hB hb2 (bs' := Lib.byteCells (l ++ m)) (by
      have e9 : Lib.byteCells (l ++ m) = Lib.byteCells l ++ Lib.strCells s := by rw [hsm]; simp [Lib.byteCells]
      rw [e9, List.length_append, Lib.strCells_length, hsm, hsz]; exact hown') (by decide), (hb1.grown hgrow (by have := hb1.size; omega) (fun k hk => (hown.lt k hk).1)).setCell (p := ⟨b, 1, none⟩) hB _⟩
  clear hown hown' hgrow hbk hb2 hb1 hk1 hsm c0 c1 hne
  go_wp2
  go_ret2
  exact ⟨⟨_, rfl⟩, .inr HP.out.1, HP.out.2, HK8.out⟩

end Go.Proofs.YtiamggjebaabkaaGreatDoor

namespace Go.Proofs.YtiamggjebaabkaaGreatDoor
open Go.RowKit Go.WideShapes Go.ChangeShapes
set_option linter.unusedVariables false

/-- A slice's length. -/
def lenOf9 : Value → Nat
  | .slice _ n _ => n
  | _ => 0

end Go.Proofs.YtiamggjebaabkaaGreatDoor

namespace Go.Proofs.YtiamggjebaabkaaGreatDoor
open Go.RowKit Go.WideShapes Go.ChangeShapes
set_option linter.unusedVariables false

theorem Bt.set {T : TypeId} {w : World} {g : Nat} {Z : List UInt8} (h : Bt T w g Z) (cs : List UInt8) : Bt T (w.setRow g (bc cs).toArray) g cs := setRow_heap w g _ _ _ _ h
theorem copy_cells (Z L : List UInt8) (off : Nat) : ((bc Z).toArray.toList.take off ++ bc L ++ (bc Z).toArray.toList.drop (off + (bc L).length)).toArray = (bc (splice Z off L)).toArray := by
  rw [bc_len]
  simp [splice, bc, List.map_take, List.map_drop]
theorem src_cells {w : World} {A : Option Addr} {L : List UInt8} (h : Rb w A L) (h0 : 0 < L.length) : ∃ ad, A = some ad ∧ ∀ j v, (bc L)[j]? = some v → w.cell? (ad.add j) = some v := by
  obtain ⟨b, off, rfl, _, _⟩ := h.cell h0
  refine ⟨_, rfl, fun j v hv => ?_⟩
  obtain ⟨hj, rfl⟩ := bc_get hv
  obtain ⟨b', off', e, _, h3⟩ := h.cell hj
  injection e with e
  injection e with e1 e2
  subst e1; subst e2
  rw [add_plain]; exact h3
/-- copy of bytes to a place of a block, in a region that draws. -/
theorem copy_step {ops : Array Oper} {o : Oper} {a : Act} {w : World} {K : Act → World → Prop} {Q : Exit → Act → World → Prop} {X : Prop} (d s : Operand) (T : TypeId) (g off dn dc sn sc : Nat) (Z : List UInt8) (A : Option Addr) (L : List UInt8)
    (hg : Bt T w g Z) (hr : Rb w A (L)) (h0 : 0 < L.length) (hn : L.length = Nat.min sn dn) (hfit : off + L.length ≤ Z.length)
    (hw : Region.wanted o (yielded ops a.tmps) = true) (ho : o.op = .call { callee := .builtin .copy, args := #[d, s], argTypes := #[59, 59] })
    (hd : a.eval d = .slice (some ⟨g, off, none⟩) dn dc) (hs : a.eval s = .slice A sn sc)
    (h : K (a.put o.dst (goInt L.length)) (w.setRow g (bc (splice Z off L)).toArray)) :
    if Region.wanted o (yielded ops a.tmps) = true then Oper.wp Tryz.prog o a w K Q else X := by
  rw [if_pos hw]
  obtain ⟨ad, rfl, hc⟩ := src_cells hr h0
  have hrun := run_copy_row (P := Tryz.prog) w 59 59 o.type 5 g off dn dc ad sn sc (bc Z).toArray T (bc L) Tryz.underlying59 size8 hg (by rw [bc_len]; exact hn) hc (by rw [bc_len, List.size_toArray, bc_len]; exact hfit) bc_one
  rw [copy_cells, bc_len] at hrun
  unfold Oper.wp
  simp [execOp, ho, resolve, invoke, builtin, hd, hs, hrun, Result.andThen]
  exact h
/-- The same in the plain region of a fenced walk. -/
theorem copy_in {F : Fence} {n : Nat} {ops : Array Oper} {rest : List Oper} {o : Oper} {a : Act} {w : World} {Q : Exit → Act → World → Prop} (d s : Operand) (T : TypeId) (g off dn dc sn sc t : Nat) (Z : List UInt8) (A : Option Addr) (L : List UInt8) (ht : L.length = t)
    (hg : Bt T w g Z) (hr : Rb w A (L)) (h0 : 0 < L.length) (hn : L.length = Nat.min sn dn) (hfit : off + L.length ≤ Z.length)
    (hgd : o.guard = none) (ho : o.op = .call { callee := .builtin .copy, args := #[d, s], argTypes := #[59, 59] })
    (hd : a.eval d = .slice (some ⟨g, off, none⟩) dn dc) (hs : a.eval s = .slice A sn sc)
    (h : wpListIn F n Tryz.prog ops Q rest (a.put o.dst (.int .i64 (t : Int))) (w.setRow g (bc (splice Z off L)).toArray)) :
    wpListIn F n Tryz.prog ops Q (o :: rest) a w := by
  refine wpListIn_plain hgd fun K hK => ?_
  obtain ⟨ad, rfl, hc⟩ := src_cells hr h0
  have hrun := run_copy_row (P := Tryz.prog) w 59 59 o.type 5 g off dn dc ad sn sc (bc Z).toArray T (bc L) Tryz.underlying59 size8 hg (by rw [bc_len]; exact hn) hc (by rw [bc_len, List.size_toArray, bc_len]; exact hfit) bc_one
  rw [copy_cells, bc_len, ht] at hrun
  unfold Oper.wpIn
  refine ⟨?_, ?_⟩
  · simp [Oper.about, ho, resolve, Target.leads, Sem.run_pure]
  · rw [Oper.semAt_plain F _ _ (by rw [ho]; intro c hc'; cases hc')]
    simp [execOp, ho, resolve, invoke, builtin, hd, hs, hrun, Result.andThen]
    exact hK _ _ h

/-- What stands behind a text of so many bytes. -/
def padT (n : Nat) : List UInt8 := 128 :: (List.replicate (pz n) 0 ++ be 8 (8 * n))
theorem padT_len (n : Nat) : (padT n).length = 64 * pb n - n ∧ 9 ≤ (padT n).length ∧ (padT n).length ≤ 72 := by
  unfold padT pb pz
  simp only [List.length_append, List.length_cons, List.length_replicate, be_len]
  omega
theorem padT_is (n : Nat) : splice ((List.replicate (64 * pb n - n) (0 : UInt8)).set 0 128) (64 * pb n - n - 8) (be 8 (8 * n)) = padT n := by
  have h1 : 64 * pb n - n = pz n + 9 := by unfold pb pz; omega
  rw [h1, List.replicate_succ, List.set_cons_zero]
  unfold splice padT
  rw [be_len, show pz n + 9 - 8 = pz n + 1 by omega, List.take_succ_cons, show pz n + 1 + 8 = (pz n + 8) + 1 by omega, List.drop_succ_cons, List.drop_replicate, List.take_replicate]
  simp
theorem padL_is (l : List UInt8) : padL l = l ++ padT l.length := rfl

set_option maxRecDepth 100000 in
set_option maxHeartbeats 2000000 in
theorem padding_any (n : Nat) (w : World) (hn : n ≤ 100000) :
    Calls Tryz.prog 125 #[.int .i64 (n : Int)] w fun e w' => ∃ g, w.heap.size ≤ g ∧ e = .returned (.slice (some ⟨g, 0, none⟩) (padT n).length (padT n).length) ∧ Bk w' g (padT n) ∧ Below w.heap.size w w' := by
  have hb := fun W => blocks_any (n : Int) W (by unfold fits; omega)
  rw [pbI_nat] at hb
  obtain ⟨hl1, hl2, hl3⟩ := padT_len n
  have hpt := padT_is n
  rw [hl1]
  rw [hl1] at hl2 hl3
  have hK : n ≤ 64 * pb n ∧ pb n ≤ 2000 := by unfold pb; omega
  obtain ⟨M, hM⟩ : ∃ M, M = 64 * pb n - n := ⟨_, rfl⟩
  have hMi : (pb n : Int) * 64 - (n : Int) = (M : Int) := by omega
  rw [← hM] at hpt hl2 hl3 ⊢
  generalize pb n = K at *
  have HPT := Lib.hid hpt; have HB := Lib.hid hb; have HL := Lib.hid (And.intro hl2 hl3)
  obtain ⟨P, hP⟩ : ∃ P, P = padT n := ⟨_, rfl⟩
  rw [← hP] at HPT ⊢
  have hL8 : wb 8 [8 * (n : Int)] = be 8 (8 * n) := by simp [wb]; congr 1
  have hput : ∀ (W : World) (A : Option Addr), Rz .u64 W A [8 * (n : Int)] → Calls Tryz.prog 158 #[.slice none 0 0, .slice A 1 1] W fun e w' => ∃ g, W.heap.size ≤ g ∧ e = .returned (.slice (some ⟨g, 0, none⟩) 8 8) ∧ Bk w' g (be 8 (8 * n)) ∧ Below W.heap.size W w' := fun W A hz => by
    have := put64_any none A [] [8 * (n : Int)] 0 1 W (Rb.nil _) (fun _ => rfl) hz (by decide) (by simp)
    rw [List.nil_append, hL8, be_len] at this
    exact this
  have hbl := be_len 8 (8 * n)
  have hsl : ∀ (g : Nat) (w' : World), (Instr.slice 59 (.slice (some ⟨g, 0, none⟩) M M) (some (.int .i64 ((M - 8 : Nat) : Int))) none none).run Tryz.prog w' = .ok (.slice (some ⟨g, M - 8, none⟩) 8 8) w' := fun g w' => by
    obtain ⟨A2, h1, h2⟩ := slice_end g (M - 8) 8 (by omega)
    rw [show M - 8 + 8 = M by omega] at h2
    rw [h2 w', h1 (by decide)]
  have HPUT := Lib.hid hput; have HBL := Lib.hid hbl
  clear hput hbl hL8
  generalize be 8 (8 * n) = L at *
  have q2 : IntKind.i64.wrap ((M : Int) - 8) = ((M - 8 : Nat) : Int) := by rw [IntWalk.i64_in _ (by omega)]; omega
  have HM8 := Lib.hid (show M - 8 + 8 = M by omega)
  generalize M - 8 = o8 at *
  have hmk := fun w => make_bytes M (by omega) w
  clear hl1 hpt hb hM hP
  have q1 : (n : Int) ≤ 100000 := by omega
  go_enter Tryz.func125, Tryz.ntmps125
  go_upto_region 3 with (go_at_call 157; refine (HB.out _).mono ?_; rintro e w' ⟨rfl, rfl⟩)
  have k1 : Bk (w.alloc (.cells (bc (List.replicate M 0)).toArray 5)) w.heap.size (List.replicate M 0) := heap_alloc_new w _
  have B1 := Lib.hid ((Below.refl w.heap.size w).alloc (Nat.le_refl _) (.cells (bc (List.replicate M 0)).toArray 5))
  clear hmk
  generalize w.alloc (.cells (bc (List.replicate M 0)).toArray 5) = w1 at *
  have c0 : w1.cell? ⟨w.heap.size, 0, none⟩ = some (.int .u8 0) := by
    have := k1.cell (i := 0) (by rw [List.length_replicate]; omega)
    rw [List.getElem_replicate] at this; exact this
  have f0 := k1.free 0
  have K2 := Lib.hid (k1.set 0 128)
  have B2 := Lib.hid (B1.out.setCell (p := ⟨w.heap.size, 0, none⟩) (Nat.le_refl _) (.int .u8 128))
  have hm0 : (0 : Int) < (M : Int) := by omega
  clear k1
  go_upto_region 4 with fail
  clear c0 f0 hm0
  have K2' : Hid (Bt 5 (w1.setCell ⟨w.heap.size, 0, none⟩ (.int .u8 128)) w.heap.size ((List.replicate M 0).set 0 128)) := Lib.hid K2.out
  clear K2
  generalize w1.setCell ⟨w.heap.size, 0, none⟩ (.int .u8 128) = w2 at *
  have q3 : IntKind.u64.wrap (8 * (n : Int)) = 8 * (n : Int) := by simp [IntKind.wrap, IntKind.signed, IntKind.bits]; omega
  have q4 : IntKind.u64.wrap (n : Int) = (n : Int) := by simp [IntKind.wrap, IntKind.signed, IntKind.bits]; omega
  have bb := (Below.refl w2.heap.size w2).alloc (Nat.le_refl _) (.cells #[.int .u64 (8 * (n : Int))] 105)
  have NB : Hid (Rz .u64 (w2.alloc (.cells #[.int .u64 (8 * (n : Int))] 105)).drew (some ⟨w2.heap.size, 0, none⟩) [8 * (n : Int)]) := Lib.hid ⟨fun z hz => by
      rw [List.mem_singleton.mp hz]
      simp [Lit.wf, IntKind.min, IntKind.max, IntKind.signed, IntKind.bits]
      omega, .inr ⟨w2.heap.size, 0, rfl, by simp, fun j z hj => by
        cases j with
        | zero =>
          obtain rfl : 8 * (n : Int) = z := by simpa using hj
          exact bk_cell (heap_alloc_new w2 _) 0
        | succ j => simp at hj⟩⟩
  have ES := Lib.hid (Below.drew (Below.refl w2.heap.size w2))
  have FS := Lib.hid (Below.drew bb)
  clear bb
  have SE := Lib.hid (B2.out.trans (ES.out.mono B2.out.size))
  have SF := Lib.hid (B2.out.trans (FS.out.mono B2.out.size))
  go_region_held3 (fun w' => Below w.heap.size w w')
    (with_reducible (first | exact SE.out | exact SF.out | exact SG.out | exact HS'.out | fail "none"))
    (first
      | (go_at_call 158; refine (HPUT.out _ _ NB.out).mono ?_; rintro e w3 ⟨g3, hg3, rfl, hk, hb⟩; have K3 := Lib.hid hk; have GS := Lib.hid (FS.out.trans (hb.mono FS.out.size)); have SG := Lib.hid (B2.out.trans (GS.out.mono B2.out.size)); clear hk hb)
      | (refine copy_step (.tmp 17) (.tmp 22) 5 w.heap.size o8 8 8 8 8 ((List.replicate M 0).set 0 128) (some ⟨g3, 0, none⟩) L (K2'.out.below GS.out K2'.out.lt) K3.out.whole (by have := HBL.out; omega) (by rw [HBL.out]; rfl) (by rw [List.length_set, List.length_replicate]; have := HBL.out; have := HM8.out; omega) rfl rfl rfl rfl ?_
         have K4 := Lib.hid ((K2'.out.below GS.out K2'.out.lt).set (splice ((List.replicate M 0).set 0 128) o8 L))
         have HS' := Lib.hid (below_setRow (B2.out.trans (GS.out.mono B2.out.size)) (Nat.le_refl _) (bc (splice ((List.replicate M 0).set 0 128) o8 L)).toArray)))
  rw [HPT.out] at K4 HS' ⊢
  generalize w3.setRow w.heap.size (bc P).toArray = w5 at *
  go_wp2_with fail
  go_ret
  exact ⟨w.heap.size, Nat.le_refl _, rfl, K4.out, HS'.out⟩

end Go.Proofs.YtiamggjebaabkaaGreatDoor
