/- Merged: ListAY. -/
import Derived.Test.YtiamggjebaabkaaGreatDoorGListPuts46
import Derived.Test.YtiamggjebaabkaaGreatDoorGListPuts48
import Derived.Test.YtiamggjebaabkaaGreatDoorGListPuts40
import Derived.Test.YtiamggjebaabkaaGreatDoorGListPuts17
import Derived.Laws.Tables
import Derived.Deep.WholeRow
namespace Go.Proofs.YtiamggjebaabkaaGreatDoor
open Go.RowKit
set_option linter.unusedVariables false
set_option linter.unusedSimpArgs false

/-- Rows lie elsewhere than bytes. -/
theorem rp_bt {w : World} {A : Option Addr} {L : List Rw} {g : Nat} {Z : List UInt8} (h : Rp w.heap.size w A L) (hl' : L ≠ []) (hz : Bt 49 w g Z) : ∀ b off, A = some ⟨b, off, none⟩ → b ≠ g := by
  have hl : 0 < L.length := List.length_pos_iff.2 hl'
  intro b off e hb
  obtain ⟨b', off', e', -, hlt, hc⟩ := h.pos hl
  rw [e] at e'
  injection e' with e'
  injection e' with e1 e2
  have h1 := (hc 0 hl).1
  rw [← e1, hb, bk_cell hz] at h1
  have hm := Array.mem_of_getElem? h1
  rw [List.mem_toArray] at hm
  obtain ⟨x, -, hx⟩ := List.mem_map.1 hm
  cases hx
theorem rp_row {w : World} {A : Option Addr} {L : List Rw} {g : Nat} (cs : Array Value) (h : Rp w.heap.size w A L) (hg : ∀ b off, A = some ⟨b, off, none⟩ → b ≠ g) : Rp (w.setRow g cs).heap.size (w.setRow g cs) A L := by
  rcases h with h | ⟨b, off, h1, h2, h4, h3⟩
  · exact .inl h
  · have hn := hg b off h1
    exact .inr ⟨b, off, h1, by rw [setRow_size]; exact h2, by rw [setRow_size]; exact h4, fun j hj => ⟨(cell_setRow_other w g cs ⟨b, off + j * 2, none⟩ hn).trans (h3 j hj).1, (cell_setRow_other w g cs ⟨b, off + j * 2 + 1, none⟩ hn).trans (h3 j hj).2⟩⟩

/-- An array's load under a guard that is met. -/
theorem wpList_want_load11 {P : Program} {ops : Array Oper} {rest : List Oper} {o : Oper} {a : Act} {w : World} {Q : Exit → Act → World → Prop} (hw : Region.wanted o (yielded ops a.tmps) = true) (ty : TypeId) (x : Operand) (ho : o.op = .load ty x)
    (g : Nat) (hx : a.eval x = .pointer (some ⟨g, 0, none⟩)) (t : TypeId) (cs : Array Value) (fr : Nat × Nat) (d : TypeDesc) (hg : w.heap[g]? = some (.cells cs t fr))
    (hu : P.underlying ty = some d) (hd : (match d with | .struct _ | .array _ _ => true | _ => false) = true) (hi : (P.info? ty).map (·.size) = some cs.size)
    (h : wpList P ops Q rest (a.put o.dst (.agg cs)) w) : wpList P ops Q (o :: rest) a w := by
  simp only [wpList, hw, if_true]
  exact .inl (wp_load_row ty x ho g hx t cs fr d hg hu hd hi h)

set_option maxRecDepth 100000 in
set_option maxHeartbeats 4000000 in
theorem puts11_long (A : Option Addr) (c : Nat) (L : List Rw) (u e : Int)  (w : World) (hs : S11 w) (hr : Rp w.heap.size w A L) (hA : A = none → c = 0 ∧ L = []) (hc : L.length ≤ c) (hm : c ≤ maxLen) (hl : 296 < L.length) :
    Calls Tryz.prog 4 #[.agg #[.slice A L.length c, .int .i64 u, .int .i64 e]] w fun x w' => x = .returned (.bool true) ∧ Below w.heap.size w w' := by
  obtain ⟨W0, hW0, b0, s0, g0⟩ := raw_new11 w A L.length c u e
  clear s0
  have B := Lib.hid b0
  have S := Lib.hid (hs.below b0)
  have X := Lib.hid g0
  have R := Lib.hid (hr.keep b0).low
  have HLo := Lib.hid (fun W => long11_any A L.length c u e W)
  have HAl := Lib.hid (fun W hs => alive11_any W hs)
  have q0 := fun op t W x k => guard_ev op t W x k
  have q1 := fun W k => eql_ev W k
  have q2 := fun W k => neq_ev W k
  rw [decide_eq_true hl] at HLo
  clear hl
  clear hs b0 g0 hr hA hc hm
  generalize L.length = N at *
  go_enter Tryz.func4, Tryz.ntmps4
  go_upto_region 1 with fail
  rw [← hW0]; clear hW0
  go_wp2_with fail
  refine (HAl.out _ S.out).mono ?_
  rintro e1 w1 ⟨rfl, hb⟩
  have B := Lib.hid (B.out.trans (hb.mono B.out.size))
  have S := Lib.hid (S.out.below hb)
  have X := Lib.hid ((hb.block _ (bk_lt X.out)).trans X.out)
  have R := Lib.hid ((R.out.keep hb).low)
  clear hb
  have cX0 := bk_cell X.out 0
  have cX1 := bk_cell X.out 1
  have cX2 := bk_cell X.out 2
  go_wp2_with fail
  refine (HLo.out _).mono ?_
  rintro e2 w2 ⟨rfl, hb⟩
  clear cX0 cX1 cX2
  have B := Lib.hid (B.out.trans (hb.mono B.out.size))
  have S := Lib.hid (S.out.below hb)
  have X := Lib.hid ((hb.block _ (bk_lt X.out)).trans X.out)
  have R := Lib.hid ((R.out.keep hb).low)
  clear hb
  have cX0 := bk_cell X.out 0
  have cX1 := bk_cell X.out 1
  have cX2 := bk_cell X.out 2
  go_wp2_with fail
  go_ret
  exact ⟨rfl, B.out⟩

set_option maxRecDepth 100000 in
set_option maxHeartbeats 4000000 in
theorem puts11_no (A : Option Addr) (c : Nat) (L : List Rw) (u e : Int)  (w : World) (hs : S11 w) (hr : Rp w.heap.size w A L) (hA : A = none → c = 0 ∧ L = []) (hc : L.length ≤ c) (hm : c ≤ maxLen) (hl : ¬ 296 < L.length) (hk : lkE L u e ≠ 0) :
    Calls Tryz.prog 4 #[.agg #[.slice A L.length c, .int .i64 u, .int .i64 e]] w fun x w' => x = .returned (.bool true) ∧ Below w.heap.size w w' := by
  obtain ⟨W0, hW0, b0, s0, g0⟩ := raw_new11 w A L.length c u e
  clear s0
  have B := Lib.hid b0
  have S := Lib.hid (hs.below b0)
  have X := Lib.hid g0
  have R := Lib.hid (hr.keep b0).low
  have HLo := Lib.hid (fun W => long11_any A L.length c u e W)
  have HAl := Lib.hid (fun W hs => alive11_any W hs)
  have q0 := fun op t W x k => guard_ev op t W x k
  have q1 := fun W k => eql_ev W k
  have q2 := fun W k => neq_ev W k
  rw [decide_eq_false hl] at HLo
  obtain ⟨D0, hD0⟩ : ∃ D0 : List UInt8, D0 = List.replicate 20 0 := ⟨_, rfl⟩
  have BL0 : Hid (D0.length = 20) := Lib.hid (by rw [hD0]; rfl)
  have HDn := Lib.hid (fun W => digest11_nil W)
  rw [← hD0] at HDn
  have qe : ∀ w, (Op.equalIn 10000 49 (.agg (bc D0).toArray) (.agg #[.int .u8 0, .int .u8 0, .int .u8 0, .int .u8 0, .int .u8 0, .int .u8 0, .int .u8 0, .int .u8 0, .int .u8 0, .int .u8 0, .int .u8 0, .int .u8 0, .int .u8 0, .int .u8 0, .int .u8 0, .int .u8 0, .int .u8 0, .int .u8 0, .int .u8 0, .int .u8 0])).run Tryz.prog w = .ok true w := fun w => by
    have h := eq_digs D0 (List.replicate 20 0) (by rw [hD0]; rfl) rfl w
    rw [decide_eq_true hD0] at h
    exact h
  have HD0 := Lib.hid hD0
  clear hD0
  have HM := Lib.hid (fun W (he : S11 W) (hr : Rp W.heap.size W A L) => made_no A c L u e W he.ends (by omega) hr hc hm hk)
  have HCk := Lib.hid (fun (A1 : Option Addr) (c1 : Nat) (W : World) (hr1 : Rp W.heap.size W A1 L) => rcheck10_any A1 c1 L u e W hr1 (by omega))
  have hkb : (lkE L u e != 0) = true := bne_iff_ne.mpr hk
  generalize lkE L u e = kk at *
  clear hl hk
  clear hs b0 g0 hr hA hc hm
  generalize L.length = N at *
  go_enter Tryz.func4, Tryz.ntmps4
  go_upto_region 1 with fail
  rw [← hW0]; clear hW0
  go_wp2_with fail
  refine (HAl.out _ S.out).mono ?_
  rintro e1 w1 ⟨rfl, hb⟩
  have B := Lib.hid (B.out.trans (hb.mono B.out.size))
  have S := Lib.hid (S.out.below hb)
  have X := Lib.hid ((hb.block _ (bk_lt X.out)).trans X.out)
  have R := Lib.hid ((R.out.keep hb).low)
  clear hb
  have cX0 := bk_cell X.out 0
  have cX1 := bk_cell X.out 1
  have cX2 := bk_cell X.out 2
  go_wp2_with fail
  refine (HLo.out _).mono ?_
  rintro e2 w2 ⟨rfl, hb⟩
  clear cX0 cX1 cX2
  have B := Lib.hid (B.out.trans (hb.mono B.out.size))
  have S := Lib.hid (S.out.below hb)
  have X := Lib.hid ((hb.block _ (bk_lt X.out)).trans X.out)
  have R := Lib.hid ((R.out.keep hb).low)
  clear hb
  have cX0 := bk_cell X.out 0
  have cX1 := bk_cell X.out 1
  have cX2 := bk_cell X.out 2
  go_wp2_with fail
  refine (put11_nil _).mono ?_
  rintro e3 w3 ⟨rfl, hb⟩
  clear cX0 cX1 cX2
  have B := Lib.hid (B.out.trans (hb.mono B.out.size))
  have S := Lib.hid (S.out.below hb)
  have X := Lib.hid ((hb.block _ (bk_lt X.out)).trans X.out)
  have R := Lib.hid ((R.out.keep hb).low)
  clear hb
  go_wp2_with fail
  refine (HDn.out _).mono ?_
  rintro e4 w4 ⟨rfl, hb⟩
  have B := Lib.hid (B.out.trans (hb.mono B.out.size))
  have S := Lib.hid (S.out.below hb)
  have X := Lib.hid ((hb.block _ (bk_lt X.out)).trans X.out)
  have R := Lib.hid ((R.out.keep hb).low)
  clear hb
  have Z1 : Hid (Bt 49 (w4.alloc (.cells z20 49)) w4.heap.size (List.replicate 20 0)) := Lib.hid (heap_alloc_new w4 _)
  go_upto_region 7 with (refine wpList_store_row rfl 49 (.tmp 5) (.tmp 20) rfl w4.heap.size (bc D0).toArray rfl rfl 49 (bc (List.replicate 20 0)).toArray Z1.out (by rw [dsize, List.size_toArray, bc_len, BL0.out]) (by rw [List.size_toArray, List.size_toArray, bc_len, bc_len, BL0.out]; rfl) (bc_all _) ?_)
  have hb : Below w4.heap.size w4 ((w4.alloc (.cells z20 49)).setRow w4.heap.size (bc D0).toArray) := below_setRow ((Below.refl _ _).alloc (Nat.le_refl _) (.cells z20 49)) (Nat.le_refl _) (bc D0).toArray
  have Dd := Lib.hid (Z1.out.set D0)
  clear Z1
  obtain ⟨X7, hX⟩ : ∃ X, X = (w4.alloc (.cells z20 49)).setRow w4.heap.size (bc D0).toArray := ⟨_, rfl⟩
  rw [← hX] at hb Dd ⊢
  clear hX
  have GE0 : Hid (w.heap.size ≤ w4.heap.size) := Lib.hid B.out.size
  have B := Lib.hid (B.out.trans (hb.mono B.out.size))
  have S := Lib.hid (S.out.below hb)
  have X := Lib.hid ((hb.block _ (bk_lt X.out)).trans X.out)
  have R := Lib.hid ((R.out.keep hb).low)
  clear hb
  obtain ⟨gd, hg⟩ : ∃ g, g = w4.heap.size := ⟨_, rfl⟩
  rw [← hg] at Dd GE0 ⊢
  clear hg
  have cX0 := bk_cell X.out 0
  have cX1 := bk_cell X.out 1
  have cX2 := bk_cell X.out 2
  go_wp2_with (first
    | (refine wpList_want_load11 (by kernel_rfl) 49 (.tmp 5) rfl gd rfl 49 (bc D0).toArray (0, 0) _ Dd.out dund rfl (by rw [dsize, List.size_toArray, bc_len, BL0.out]) ?_)
    | (go_at_call 17; refine (is_any 8 8 _ (by decide) (by decide)).mono ?_; rintro e w' ⟨rfl, rfl⟩))
  refine (HM.out _ S.out R.out).mono ?_
  rintro e5 w5 ⟨A1, c1, rfl, hr1, hb⟩
  have M := Lib.hid hr1
  clear hr1
  clear cX0 cX1 cX2
  have B := Lib.hid (B.out.trans (hb.mono B.out.size))
  have S := Lib.hid (S.out.below hb)
  have X := Lib.hid ((hb.block _ (bk_lt X.out)).trans X.out)
  have R := Lib.hid ((R.out.keep hb).low)
  have Dd := Lib.hid (Dd.out.below hb Dd.out.lt)
  clear hb
  go_upto_region 10 with fail
  obtain ⟨X9, hX⟩ : ∃ X, X = w5.alloc (.cells #[.slice A1 N c1, .int .i64 u, .int .i64 e] 30) := ⟨_, rfl⟩
  rw [← hX]
  have hb : Below w5.heap.size w5 X9 := by rw [hX]; exact bel_box _ _
  have D : Hid (X9.heap[w5.heap.size]? = some (.cells #[.slice A1 N c1, .int .i64 u, .int .i64 e] 30 (0, 0))) := Lib.hid (by rw [hX]; exact heap_alloc_new _ _)
  have NED : Hid (w5.heap.size ≠ gd) := Lib.hid (by have := Dd.out.lt; omega)
  have B := Lib.hid (B.out.trans (hb.mono B.out.size))
  have S := Lib.hid (S.out.below hb)
  have X := Lib.hid ((hb.block _ (bk_lt X.out)).trans X.out)
  have R := Lib.hid ((R.out.keep hb).low)
  have Dd := Lib.hid (Dd.out.below hb Dd.out.lt)
  have M := Lib.hid ((M.out.keep hb).low)
  clear hb
  clear hX
  obtain ⟨gD, hg⟩ : ∃ g, g = w5.heap.size := ⟨_, rfl⟩
  rw [← hg] at D NED ⊢
  clear hg
  have cD0 := bk_cell D.out 0
  have cD1 := bk_cell D.out 1
  have cD2 := bk_cell D.out 2
  go_wp2_with fail
  refine (HCk.out _ _ _ M.out).mono ?_
  rintro e6 w6 ⟨rfl, hb⟩
  clear cD0 cD1 cD2
  have B := Lib.hid (B.out.trans (hb.mono B.out.size))
  have S := Lib.hid (S.out.below hb)
  have X := Lib.hid ((hb.block _ (bk_lt X.out)).trans X.out)
  have R := Lib.hid ((R.out.keep hb).low)
  have Dd := Lib.hid (Dd.out.below hb Dd.out.lt)
  have M := Lib.hid ((M.out.keep hb).low)
  have D := Lib.hid ((hb.block _ (bk_lt D.out)).trans D.out)
  clear hb
  go_wp2_with fail
  go_ret
  exact ⟨rfl, B.out⟩
theorem Bt.keep {T : TypeId} {w w' : World} {g : Nat} {L : List UInt8} (h : Bt T w g L) (hb : Below w.heap.size w w') : Bt T w' g L := h.below hb h.lt

set_option maxRecDepth 100000 in
set_option maxHeartbeats 4000000 in
theorem puts11_yes (A : Option Addr) (c : Nat) (L : List Rw) (u e : Int)  (w : World) (hs : S11 w) (hr : Rp w.heap.size w A L) (hA : A = none → c = 0 ∧ L = []) (hc : L.length ≤ c) (hm : c ≤ maxLen) (hl : ¬ 296 < L.length) (hk : lkE L u e = 0) :
    Calls Tryz.prog 4 #[.agg #[.slice A L.length c, .int .i64 u, .int .i64 e]] w fun x w' => x = .returned (.bool true) ∧ Below w.heap.size w w' := by
  obtain ⟨W0, hW0, b0, s0, g0⟩ := raw_new11 w A L.length c u e
  clear s0
  have B := Lib.hid b0
  have S := Lib.hid (hs.below b0)
  have X := Lib.hid g0
  have R := Lib.hid (hr.keep b0).low
  have HLo := Lib.hid (fun W => long11_any A L.length c u e W)
  have HAl := Lib.hid (fun W hs => alive11_any W hs)
  have q0 := fun op t W x k => guard_ev op t W x k
  have q1 := fun W k => eql_ev W k
  have q2 := fun W k => neq_ev W k
  rw [decide_eq_false hl] at HLo
  obtain ⟨D0, hD0⟩ : ∃ D0 : List UInt8, D0 = List.replicate 20 0 := ⟨_, rfl⟩
  have BL0 : Hid (D0.length = 20) := Lib.hid (by rw [hD0]; rfl)
  have HDn := Lib.hid (fun W => digest11_nil W)
  rw [← hD0] at HDn
  have qe : ∀ w, (Op.equalIn 10000 49 (.agg (bc D0).toArray) (.agg #[.int .u8 0, .int .u8 0, .int .u8 0, .int .u8 0, .int .u8 0, .int .u8 0, .int .u8 0, .int .u8 0, .int .u8 0, .int .u8 0, .int .u8 0, .int .u8 0, .int .u8 0, .int .u8 0, .int .u8 0, .int .u8 0, .int .u8 0, .int .u8 0, .int .u8 0, .int .u8 0])).run Tryz.prog w = .ok true w := fun w => by
    have h := eq_digs D0 (List.replicate 20 0) (by rw [hD0]; rfl) rfl w
    rw [decide_eq_true hD0] at h
    exact h
  have HD0 := Lib.hid hD0
  clear hD0
  have HM := Lib.hid (fun W (he : S11 W) (hr : Rp W.heap.size W A L) => made_some A c L u e W he.ends (by omega) hr hA hc hm hk)
  have hR := rows11_of hk
  have HPos : Hid (L ≠ []) := Lib.hid (fun q => by have := (lkE_zero hk).1.pos; rw [q] at this; exact absurd this (by decide))
  have HPt := Lib.hid (fun (lo g : Nat) (W : World) (h1 : S11 W) (h2 : Tb lo W g L u e) => put11_any h2 hR h1.tab h1.eps h1.start)
  have HDt := Lib.hid (fun (lo g : Nat) (W : World) (h1 : S11 W) (h2 : Tb lo W g L u e) => digest11_any h2 hR h1.tab h1.eps h1.start)
  have HRp := Lib.hid (fun (A1 : Option Addr) (c1 : Nat) (W : World) (hr1 : Rp W.heap.size W A1 L) => rput11_any A1 c1 L u e W hr1 hk)
  have HRd := Lib.hid (fun (A1 : Option Addr) (c1 : Nat) (W : World) (hr1 : Rp W.heap.size W A1 L) => rdigest11_any A1 c1 L u e W hr1 hk)
  obtain ⟨Dg, hDg⟩ : ∃ Dg, Dg = dig (dgT L u e) := ⟨_, rfl⟩
  rw [← hDg] at HPt HDt HRp HRd
  obtain ⟨V, hV⟩ : ∃ V, V = byt Dg := ⟨_, rfl⟩
  rw [← hV] at HPt HDt HRp
  have BLV : Hid (V.length = 20) := Lib.hid (by rw [hV]; exact byt_len _)
  have HBy := Lib.hid (fun W => rbytes_any Dg W)
  rw [← hV, BLV.out] at HBy
  have HNb := Lib.hid (fun (gd : Nat) (A4 : Option Addr) (c4 : Nat) (W : World) (h : Bt 49 W gd V) (k : Rb W A4 V) (hn : A4 = none → c4 = 0) => nsame_any (some ⟨gd, 0, none⟩) A4 V 20 c4 W h.reads (fun q => by cases q) k hn)
  rw [BLV.out] at HNb
  clear hl hk hR hDg hV
  generalize (ptTk L u e V).toArray = XP at *
  clear hs b0 g0 hr hA hc hm
  generalize L.length = N at *
  go_enter Tryz.func4, Tryz.ntmps4
  go_upto_region 1 with fail
  rw [← hW0]; clear hW0
  go_wp2_with fail
  refine (HAl.out _ S.out).mono ?_
  rintro e1 w1 ⟨rfl, hb⟩
  have B := Lib.hid (B.out.trans (hb.mono B.out.size))
  have S := Lib.hid (S.out.below hb)
  have X := Lib.hid ((hb.block _ (bk_lt X.out)).trans X.out)
  have R := Lib.hid ((R.out.keep hb).low)
  clear hb
  have cX0 := bk_cell X.out 0
  have cX1 := bk_cell X.out 1
  have cX2 := bk_cell X.out 2
  go_wp2_with fail
  refine (HLo.out _).mono ?_
  rintro e2 w2 ⟨rfl, hb⟩
  clear cX0 cX1 cX2
  have B := Lib.hid (B.out.trans (hb.mono B.out.size))
  have S := Lib.hid (S.out.below hb)
  have X := Lib.hid ((hb.block _ (bk_lt X.out)).trans X.out)
  have R := Lib.hid ((R.out.keep hb).low)
  clear hb
  have cX0 := bk_cell X.out 0
  have cX1 := bk_cell X.out 1
  have cX2 := bk_cell X.out 2
  go_wp2_with fail
  refine (put11_nil _).mono ?_
  rintro e3 w3 ⟨rfl, hb⟩
  clear cX0 cX1 cX2
  have B := Lib.hid (B.out.trans (hb.mono B.out.size))
  have S := Lib.hid (S.out.below hb)
  have X := Lib.hid ((hb.block _ (bk_lt X.out)).trans X.out)
  have R := Lib.hid ((R.out.keep hb).low)
  clear hb
  go_wp2_with fail
  refine (HDn.out _).mono ?_
  rintro e4 w4 ⟨rfl, hb⟩
  have B := Lib.hid (B.out.trans (hb.mono B.out.size))
  have S := Lib.hid (S.out.below hb)
  have X := Lib.hid ((hb.block _ (bk_lt X.out)).trans X.out)
  have R := Lib.hid ((R.out.keep hb).low)
  clear hb
  have Z1 : Hid (Bt 49 (w4.alloc (.cells z20 49)) w4.heap.size (List.replicate 20 0)) := Lib.hid (heap_alloc_new w4 _)
  go_upto_region 7 with (refine wpList_store_row rfl 49 (.tmp 5) (.tmp 20) rfl w4.heap.size (bc D0).toArray rfl rfl 49 (bc (List.replicate 20 0)).toArray Z1.out (by rw [dsize, List.size_toArray, bc_len, BL0.out]) (by rw [List.size_toArray, List.size_toArray, bc_len, bc_len, BL0.out]; rfl) (bc_all _) ?_)
  have hb : Below w4.heap.size w4 ((w4.alloc (.cells z20 49)).setRow w4.heap.size (bc D0).toArray) := below_setRow ((Below.refl _ _).alloc (Nat.le_refl _) (.cells z20 49)) (Nat.le_refl _) (bc D0).toArray
  have Dd := Lib.hid (Z1.out.set D0)
  clear Z1
  obtain ⟨X7, hX⟩ : ∃ X, X = (w4.alloc (.cells z20 49)).setRow w4.heap.size (bc D0).toArray := ⟨_, rfl⟩
  rw [← hX] at hb Dd ⊢
  clear hX
  have GE0 : Hid (w.heap.size ≤ w4.heap.size) := Lib.hid B.out.size
  have B := Lib.hid (B.out.trans (hb.mono B.out.size))
  have S := Lib.hid (S.out.below hb)
  have X := Lib.hid ((hb.block _ (bk_lt X.out)).trans X.out)
  have R := Lib.hid ((R.out.keep hb).low)
  clear hb
  obtain ⟨gd, hg⟩ : ∃ g, g = w4.heap.size := ⟨_, rfl⟩
  rw [← hg] at Dd GE0 ⊢
  clear hg
  have cX0 := bk_cell X.out 0
  have cX1 := bk_cell X.out 1
  have cX2 := bk_cell X.out 2
  go_wp2_with (first
    | (refine wpList_want_load11 (by kernel_rfl) 49 (.tmp 5) rfl gd rfl 49 (bc D0).toArray (0, 0) _ Dd.out dund rfl (by rw [dsize, List.size_toArray, bc_len, BL0.out]) ?_)
    | (go_at_call 17; refine (is_any 8 8 _ (by decide) (by decide)).mono ?_; rintro e w' ⟨rfl, rfl⟩))
  refine (HM.out _ S.out R.out).mono ?_
  rintro e5 w5 ⟨g, A1, c1, rfl, ht, hr1, hb⟩
  have M := Lib.hid hr1
  have T := Lib.hid ht
  clear hr1 ht
  clear cX0 cX1 cX2
  have B := Lib.hid (B.out.trans (hb.mono B.out.size))
  have S := Lib.hid (S.out.below hb)
  have X := Lib.hid ((hb.block _ (bk_lt X.out)).trans X.out)
  have R := Lib.hid ((R.out.keep hb).low)
  have Dd := Lib.hid (Dd.out.below hb Dd.out.lt)
  clear hb
  go_upto_region 10 with fail
  obtain ⟨X9, hX⟩ : ∃ X, X = w5.alloc (.cells #[.slice A1 N c1, .int .i64 u, .int .i64 e] 30) := ⟨_, rfl⟩
  rw [← hX]
  have hb : Below w5.heap.size w5 X9 := by rw [hX]; exact bel_box _ _
  have D : Hid (X9.heap[w5.heap.size]? = some (.cells #[.slice A1 N c1, .int .i64 u, .int .i64 e] 30 (0, 0))) := Lib.hid (by rw [hX]; exact heap_alloc_new _ _)
  have NED : Hid (w5.heap.size ≠ gd) := Lib.hid (by have := Dd.out.lt; omega)
  have B := Lib.hid (B.out.trans (hb.mono B.out.size))
  have S := Lib.hid (S.out.below hb)
  have X := Lib.hid ((hb.block _ (bk_lt X.out)).trans X.out)
  have R := Lib.hid ((R.out.keep hb).low)
  have Dd := Lib.hid (Dd.out.below hb Dd.out.lt)
  have M := Lib.hid ((M.out.keep hb).low)
  have T := Lib.hid (T.out.below hb)
  clear hb
  clear hX
  obtain ⟨gD, hg⟩ : ∃ g, g = w5.heap.size := ⟨_, rfl⟩
  rw [← hg] at D NED ⊢
  clear hg
  go_wp2_with fail
  refine (HPt.out _ _ _ S.out T.out).mono ?_
  rintro e6 w6 ⟨rfl, hb⟩
  have B := Lib.hid (B.out.trans (hb.mono B.out.size))
  have S := Lib.hid (S.out.below hb)
  have X := Lib.hid ((hb.block _ (bk_lt X.out)).trans X.out)
  have R := Lib.hid ((R.out.keep hb).low)
  have Dd := Lib.hid (Dd.out.below hb Dd.out.lt)
  have M := Lib.hid ((M.out.keep hb).low)
  have T := Lib.hid (T.out.below hb)
  have D := Lib.hid ((hb.block _ (bk_lt D.out)).trans D.out)
  clear hb
  go_wp2_with fail
  refine (HDt.out _ _ _ S.out T.out).mono ?_
  rintro e7 w7 ⟨rfl, hb⟩
  have B := Lib.hid (B.out.trans (hb.mono B.out.size))
  have S := Lib.hid (S.out.below hb)
  have X := Lib.hid ((hb.block _ (bk_lt X.out)).trans X.out)
  have R := Lib.hid ((R.out.keep hb).low)
  have Dd := Lib.hid (Dd.out.below hb Dd.out.lt)
  have M := Lib.hid ((M.out.keep hb).low)
  have T := Lib.hid (T.out.below hb)
  have D := Lib.hid ((hb.block _ (bk_lt D.out)).trans D.out)
  clear hb
  go_upto_region 14 with (refine wpList_store_row rfl 49 (.tmp 5) (.tmp 58) rfl gd (bc V).toArray rfl rfl 49 (bc D0).toArray Dd.out (by rw [dsize, List.size_toArray, bc_len, BLV.out]) (by rw [List.size_toArray, List.size_toArray, bc_len, bc_len, BLV.out, BL0.out]) (bc_all _) ?_)
  have M2 := Lib.hid (rp_row (bc V).toArray M.out (rp_bt M.out HPos.out Dd.out))
  have D2 := Lib.hid ((setRow_other w7 gd gD (bc V).toArray NED.out).trans D.out)
  have B2 := Lib.hid (below_setRow B.out GE0.out (bc V).toArray)
  have V2 := Lib.hid (Dd.out.set V)
  obtain ⟨Y, hY⟩ : ∃ Y, Y = w7.setRow gd (bc V).toArray := ⟨_, rfl⟩
  rw [← hY] at M2 D2 B2 V2 ⊢
  clear hY
  have HS9 : Hid (∀ W, Kq9 Y W → (W.cell? ⟨gD, 0, none⟩ = some (.slice A1 N c1) ∧ W.cell? ⟨gD, 1, none⟩ = some (.int .i64 u) ∧ W.cell? ⟨gD, 2, none⟩ = some (.int .i64 e)) ∧ Kq9 Y W) := Lib.hid fun W hk => ⟨⟨(hk.bel.cell (p := ⟨gD, 0, none⟩) (bk_lt D2.out)).trans (bk_cell D2.out 0), (hk.bel.cell (p := ⟨gD, 1, none⟩) (bk_lt D2.out)).trans (bk_cell D2.out 1), (hk.bel.cell (p := ⟨gD, 2, none⟩) (bk_lt D2.out)).trans (bk_cell D2.out 2)⟩, hk⟩
  have hKD : Kq9 Y Y.drew := ⟨(Below.refl _ Y).drew⟩
  have cD0 := bk_cell D2.out 0
  have cD1 := bk_cell D2.out 1
  have cD2 := bk_cell D2.out 2
  go_region_held3 (fun W => (W.cell? ⟨gD, 0, none⟩ = some (.slice A1 N c1) ∧ W.cell? ⟨gD, 1, none⟩ = some (.int .i64 u) ∧ W.cell? ⟨gD, 2, none⟩ = some (.int .i64 e)) ∧ Kq9 Y W)
    (exact HS9.out _ (by assumption))
    (first
      | (go_at_call 20; go_split_ands; refine (HRp.out _ _ _ ((M2.out.keep (Kq9.bel (W0 := Y) (by assumption))).low)).mono ?_; rintro ea wa ⟨rfl, hq⟩; have hka : Kq9 Y wa := Kq9.step (by assumption) hq; clear hq)
      | (go_at_call 23; go_split_ands; refine (HRd.out _ _ _ ((M2.out.keep (Kq9.bel (W0 := Y) (by assumption))).low)).mono ?_; rintro eb wb ⟨rfl, hq⟩; have hkb2 : Kq9 Y wb := Kq9.step (by assumption) hq; clear hq)
      | (go_at_call 22; go_split_ands; refine (HBy.out _).mono ?_; rintro ec wc ⟨A4, c4, rfl, hr4, hn4, hq⟩; have R4 : Hid (∀ W, Below wc.heap.size wc W → Rb W A4 V) := Lib.hid (fun W hW => hr4.below hW); have N4 := Lib.hid hn4; have hkc : Kq9 Y wc := Kq9.step (by assumption) hq; clear hq hr4 hn4)
      | (go_at_call 21; go_split_ands; refine (HNb.out gd A4 c4 _ (V2.out.keep (Kq9.bel (W0 := Y) (by assumption))) (R4.out _ ?bb) N4.out).mono ?_; (case bb => first | exact Below.refl _ _ | exact (Below.refl _ _).drew); rintro ed wd ⟨rfl, rfl⟩))
  have Q9 := Lib.hid (B2.out.trans ((Kq9.bel (W0 := Y) (by assumption)).mono B2.out.size))
  clear hKD HS9 cD0 cD1 cD2
  go_wp2_with fail
  go_ret
  exact ⟨rfl, Q9.out⟩

theorem puts11_walk (A : Option Addr) (c : Nat) (L : List Rw) (u e : Int) (w : World) (hs : S11 w) (hr : Rp w.heap.size w A L) (hA : A = none → c = 0 ∧ L = []) (hc : L.length ≤ c) (hm : c ≤ maxLen) :
    Calls Tryz.prog 4 #[.agg #[.slice A L.length c, .int .i64 u, .int .i64 e]] w fun x w' => x = .returned (.bool true) ∧ Below w.heap.size w w' := by
  by_cases hl : 296 < L.length
  · exact puts11_long A c L u e w hs hr hA hc hm hl
  by_cases hk : lkE L u e = 0
  · exact puts11_yes A c L u e w hs hr hA hc hm hl hk
  · exact puts11_no A c L u e w hs hr hA hc hm hl hk

end Go.Proofs.YtiamggjebaabkaaGreatDoor
