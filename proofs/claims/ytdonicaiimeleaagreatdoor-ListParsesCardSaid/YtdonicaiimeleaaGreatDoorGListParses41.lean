/- Merged: ShaZ, ShaB. -/
import Derived.Test.YtdonicaiimeleaaGreatDoorGListParses38
import Derived.Test.YtdonicaiimeleaaGreatDoorGListParses39
import Derived.Test.YtdonicaiimeleaaGreatDoorGListParses40
import Derived.Lib.LaidTab
import Derived.Lib.SmallJoins
import Derived.Test.YtdonicaiimeleaaGreatDoorGListParses29
namespace Go.Proofs.YtdonicaiimeleaaGreatDoor
open Go.RowKit Go.Shelf Go.WideShapes Go.ChangeShapes
attribute [local go_sem] Oper.semAt_some
set_option linter.unusedVariables false

/-- The state that the program begins with. -/
def startL : List Int := [1732584193, 4023233417, 2562383102, 271733878, 3285377520]
def Start (w : World) : Prop := Lib.TabIs Tryz.prog w "horologe/sha1.start" .u32 startL
theorem gstart : Tryz.prog.globalNamed "horologe/sha1.start" = some 0 := by kernel_rfl
theorem startT : Tryz.prog.underlying 36 = some (.array 5 35) := Tryz.underlying36
theorem startE : Tryz.prog.underlying 35 = some (.int .u32) := Tryz.underlying35
theorem Start.below {w w' : World} (h : Start w) (hb : Below w.heap.size w w') : Start w' := Joins.tab_stays gstart h hb (Nat.le_refl _)
theorem Start.all {w : World} (h : Start w) : w.cell? ⟨0, 0, none⟩ = some (.int .u32 1732584193) ∧ w.cell? ⟨0, 1, none⟩ = some (.int .u32 4023233417) ∧ w.cell? ⟨0, 2, none⟩ = some (.int .u32 2562383102) ∧ w.cell? ⟨0, 3, none⟩ = some (.int .u32 271733878) ∧ w.cell? ⟨0, 4, none⟩ = some (.int .u32 3285377520) :=
  ⟨Lib.TabIs.cell h gstart 0 (by decide), Lib.TabIs.cell h gstart 1 (by decide), Lib.TabIs.cell h gstart 2 (by decide), Lib.TabIs.cell h gstart 3 (by decide), Lib.TabIs.cell h gstart 4 (by decide)⟩

/-- A store of a whole array, in a fenced walk. -/
theorem store_in {F : Fence} {n : Nat} {ops : Array Oper} {rest : List Oper} {o : Oper} {a : Act} {w : World} {Q : Exit → Act → World → Prop} (hgd : o.guard = none) (ty : TypeId) (x y : Operand) (ho : o.op = .store ty x y)
    (g : Nat) (cells : Array Value) (hx : a.eval x = .pointer (some ⟨g, 0, none⟩)) (hy : a.eval y = .agg cells) (t : TypeId) (old : Array Value) (hg : w.heap[g]? = some (.cells old t (0, 0)))
    (hi : (Tryz.prog.info? ty).map (·.size) = some cells.size) (hold : old.size = cells.size) (h1 : cells.all (·.oneCell') = true)
    (h : wpListIn F n Tryz.prog ops Q rest (a.put o.dst undef) (w.setRow g cells)) : wpListIn F n Tryz.prog ops Q (o :: rest) a w := by
  refine wpListIn_plain hgd fun K hK => ?_
  unfold Oper.wpIn
  refine ⟨?_, ?_⟩
  · simp [Oper.about, ho]
  · rw [Oper.semAt_plain F _ _ (by rw [ho]; intro c hc'; cases hc')]
    simp only [execOp, ho, hx, hy, Instr.storeAt, Instr.sureAddr, Sem.run_bind, Sem.run_pure, Result.andThen_ok, run_storeVar_row w g t ty old cells hg hi hold h1]
    exact hK _ _ h

theorem blocksf_any (A : Option Addr) (n c : Nat) (w : World) :
    Calls Tryz.prog 107 #[.slice A n c] w fun e w' =>
      e = .returned (.func (.func 137) #[] #[.pointer (some ⟨w.heap.size, 0, none⟩)]) ∧ w' = w.alloc (.cells #[.slice A n c] 173) := by
  refine (callsIn_wide (n := 3)).1 ?_
  refine callsIn_of_wp Tryz.func107 rfl trivial ?_ rfl
  simp only [Tryz.ntmps107, List.size_toArray, List.length_cons, List.length_nil, Nat.reduceAdd, Nat.reduceSub, Array.replicate_succ, Array.replicate_zero, List.push_toArray, List.append_toArray, List.nil_append, List.cons_append]
  gi_wp2
  go_ret
  exact ⟨rfl, rfl⟩

theorem Ps.own {w : World} {Ap : Option Addr} {ps : List Pt} {s : Nat} (h : Ps (fun _ => False) w Ap ps) (hs : w.heap.size ≤ s) : Ps (fun j => j = s) w Ap ps := fun j A l c hj => by
  obtain ⟨⟨b, off, h1, -, h3⟩, h4, h5, h6, -⟩ := h j A l c hj
  have hb := World.block_lt_of_cell? _ _ h3
  refine ⟨⟨b, off, h1, fun e => by rw [e] at hb; exact absurd hb (by show ¬ s < _; omega), h3⟩, h4, h5, h6, ?_⟩
  by_cases e : l = []
  · exact .inl e
  · right
    intro a ha
    obtain ⟨b', off', e1, e2, -⟩ := h4.cell (i := 0) (List.length_pos_iff.2 e)
    rw [ha] at e1
    injection e1 with e1
    rw [e1]
    show ¬ b' = s
    omega

/-- The digest of parts. -/
def digP (ps : List Pt) : List UInt8 := byt (dig (cat ps))
theorem cat_pad (ps : List Pt) (g : Nat) : cat (ps ++ [padP g (cat ps).length]) = padL (cat ps) := by
  rw [padL_is]
  unfold cat padP
  rw [List.flatMap_append]
  simp

set_option maxRecDepth 100000 in
set_option maxHeartbeats 4000000 in
theorem sof_any (Ap : Option Addr) (cp : Nat) (ps : List Pt) (w : World) (hst : Start w) (hps : Ps (fun _ => False) w Ap ps) (hn : Ap = none → cp = 0) (hpl : ps.length ≤ 100) (hT : (cat ps).length ≤ 10000) :
    Calls Tryz.prog 81 #[.slice Ap ps.length cp] w fun e w' => e = .returned (.agg (bc (digP ps)).toArray) ∧ Below w.heap.size w w' := by
  obtain ⟨W1, hW1⟩ : ∃ W1, W1 = (w.alloc (.cells #[.int .u8 0, .int .u8 0, .int .u8 0, .int .u8 0, .int .u8 0, .int .u8 0, .int .u8 0, .int .u8 0, .int .u8 0, .int .u8 0, .int .u8 0, .int .u8 0, .int .u8 0, .int .u8 0, .int .u8 0, .int .u8 0, .int .u8 0, .int .u8 0, .int .u8 0, .int .u8 0] 74)).alloc (.cells #[.int .u32 1732584193, .int .u32 4023233417, .int .u32 2562383102, .int .u32 271733878, .int .u32 3285377520] 36) := ⟨_, rfl⟩
  have HB1 := Lib.hid (show Below w.heap.size w W1 by rw [hW1]; exact ((Below.refl _ w).alloc (Nat.le_refl _) _).alloc (by simp) _)
  obtain ⟨c0, c1, c2, c3, c4⟩ := (hst.below ((Below.refl _ w).alloc (Nat.le_refl _) (.cells #[.int .u8 0, .int .u8 0, .int .u8 0, .int .u8 0, .int .u8 0, .int .u8 0, .int .u8 0, .int .u8 0, .int .u8 0, .int .u8 0, .int .u8 0, .int .u8 0, .int .u8 0, .int .u8 0, .int .u8 0, .int .u8 0, .int .u8 0, .int .u8 0, .int .u8 0, .int .u8 0] 74))).all
  have HS1 := Lib.hid (show Sb W1 (w.heap.size + 1) s0 by
    rw [hW1]
    have := heap_alloc_new (w.alloc (.cells #[.int .u8 0, .int .u8 0, .int .u8 0, .int .u8 0, .int .u8 0, .int .u8 0, .int .u8 0, .int .u8 0, .int .u8 0, .int .u8 0, .int .u8 0, .int .u8 0, .int .u8 0, .int .u8 0, .int .u8 0, .int .u8 0, .int .u8 0, .int .u8 0, .int .u8 0, .int .u8 0] 74)) (.cells #[.int .u32 1732584193, .int .u32 4023233417, .int .u32 2562383102, .int .u32 271733878, .int .u32 3285377520] 36)
    rw [World.size_alloc] at this
    exact this)
  have HZ1 := Lib.hid (show Bt 74 W1 w.heap.size (List.replicate 20 0) by
    rw [hW1]
    have k : Bt 74 (w.alloc (.cells #[.int .u8 0, .int .u8 0, .int .u8 0, .int .u8 0, .int .u8 0, .int .u8 0, .int .u8 0, .int .u8 0, .int .u8 0, .int .u8 0, .int .u8 0, .int .u8 0, .int .u8 0, .int .u8 0, .int .u8 0, .int .u8 0, .int .u8 0, .int .u8 0, .int .u8 0, .int .u8 0] 74)) w.heap.size (List.replicate 20 0) := heap_alloc_new w _
    exact k.below ((Below.refl _ _).alloc (Nat.le_refl _) _) k.lt)
  have hsz : W1.heap.size = w.heap.size + 1 + 1 := by rw [hW1]; simp
  have HPD := Lib.hid (padded_any (fun j => j = w.heap.size + 1) Ap cp ps W1 ((hps.own (s := w.heap.size + 1) (by omega)).below HB1.out) hn hpl hT (fun j hj => by rw [hj]; omega))
  have HSZ := Lib.hid hsz
  have HPL := Lib.hid hpl; have HT := Lib.hid hT
  clear hst hps hn hpl hT hsz
  refine (callsIn_wide (n := 3)).1 ?_
  refine callsIn_of_wp_marks Tryz.func81 rfl trivial ?_ rfl
  simp only [Tryz.ntmps81, List.size_toArray, List.length_cons, List.length_nil, Nat.reduceAdd, Nat.reduceSub, Array.replicate_succ, Array.replicate_zero, List.push_toArray, List.append_toArray, List.nil_append, List.cons_append]
  gi_wp2
  rw [← hW1]
  clear hW1 c0 c1 c2 c3 c4
  refine ⟨trivial, (callsIn_wide.2 HPD.out).mono ?_⟩
  rintro e W2 ⟨A', c', g, rfl, hp, hb⟩
  have hS2 := HS1.out.keep hb
  have hZ2 := HZ1.out.below hb HZ1.out.lt
  have hB2 := HB1.out.trans (hb.mono HB1.out.size)
  have b3 := (Below.refl W2.heap.size W2).alloc (Nat.le_refl _) (.cells #[.slice A' (ps.length + 1) c'] 173)
  have hS3 := Lib.hid (hS2.keep b3); have hZ3 := Lib.hid (hZ2.below b3 hZ2.lt); have hB3 := Lib.hid (hB2.trans (b3.mono hB2.size)); have hP3 := Lib.hid (hp.below b3)
  have hx3 : Hid ((W2.alloc (.cells #[.slice A' (ps.length + 1) c'] 173)).cell? ⟨W2.heap.size, 0, none⟩ = some (.slice A' (ps.length + 1) c')) := Lib.hid (bk_cell (heap_alloc_new W2 _) 0)
  have hZ2l := hZ2.lt
  have hS2l := hS2.lt
  have hW3l : Hid (w.heap.size + 1 < (W2.alloc (.cells #[.slice A' (ps.length + 1) c'] 173)).heap.size) := Lib.hid (by rw [World.size_alloc]; omega)
  clear hp hb hS2 hZ2 hB2 b3 HS1 HZ1 HB1 HPD HSZ hZ2l hS2l
  gi_wp2_with (refine ⟨trivial, ?_⟩; gi_at_call 107; refine (callsIn_wide.2 (blocksf_any A' (ps.length + 1) c' _)).mono ?_; rintro e W3 ⟨rfl, rfl⟩)
  obtain ⟨W3, hW3⟩ : ∃ W3, W3 = W2.alloc (.cells #[.slice A' (ps.length + 1) c'] 173) := ⟨_, rfl⟩
  rw [← hW3] at hS3 hZ3 hB3 hP3 hx3 hW3l ⊢
  clear hW3
  obtain ⟨K, hK⟩ : ∃ K, K = pb (cat ps).length := ⟨_, rfl⟩
  obtain ⟨T, hTT⟩ : ∃ T, T = padL (cat ps) := ⟨_, rfl⟩
  have hTlen : T.length = 64 * K := by rw [hTT, hK]; exact spad_len _
  have hTl : T.length ≤ 200000 := by rw [hTlen, hK]; unfold pb; have := HT.out; omega
  have hlen : (ps ++ [padP g (cat ps).length]).length = ps.length + 1 := by simp
  have hdig : byt (runN T K) = digP ps := by rw [hTT, hK]; rfl
  have HDG := Lib.hid hdig; have HTLEN := Lib.hid hTlen
  have hxx : W3.cell? ⟨W2.heap.size, 0, none⟩ = some (.slice A' (ps ++ [padP g (cat ps).length]).length c') := by rw [hlen]; exact hx3.out
  have hgv := blocks_gives 2 (by omega) (fun j => j = w.heap.size + 1) W2.heap.size A' c' (ps ++ [padP g (cat ps).length]) T K (by rw [cat_pad, hTT]) hTlen hTl (by rw [hlen]; have := HPL.out; omega) W3 hxx hP3.out (fun j hj => by rw [hj]; exact hW3l.out)
  clear hxx hlen hTl hTlen hTT hK hx3 hP3 hdig
  have hz := zero64
  refine range_gives rfl (by omega) (gf := 137) (lb := #[.pointer (some ⟨W2.heap.size, 0, none⟩)]) rfl trivial (enters_of Tryz.func137 (by kernel_rfl) rfl)
    hgv (Below.refl _ _) (fun _ => rfl)
    (fun k W => Sb W (w.heap.size + 1) (runN T k) ∧ Bt 74 W w.heap.size (List.replicate 20 0) ∧ Below w.heap.size w W)
    (fun k X Y h hb => ⟨h.1.below hb hW3l.out, h.2.1.below hb (Nat.lt_of_succ_lt hW3l.out), h.2.2.trans (hb.mono (Nat.le_of_lt (Nat.lt_of_succ_lt hW3l.out)))⟩)
    ⟨hS3.out, hZ3.out, hB3.out⟩ ?round ?done
  case round =>
    rintro l k x W ⟨hS, hZ, hB⟩ hx hl hlt
    obtain ⟨hk, rfl⟩ : k < K ∧ blk9 T k = x := by
      have h1 := (List.getElem?_eq_some_iff.1 hx).1
      rw [blks_len] at h1
      rw [blks_at h1] at hx
      exact ⟨h1, by simpa using hx⟩
    obtain ⟨X, hX⟩ : ∃ X, X = blk9 T k := ⟨_, rfl⟩
    rw [← hX]
    have hXl : X.length = 64 := by
      rw [hX]
      unfold blk9
      rw [List.length_take, List.length_drop, HTLEN.out]
      omega
    obtain ⟨S, hSS⟩ : ∃ S, S = runN T k := ⟨_, rfl⟩
    obtain ⟨S', hSS'⟩ : ∃ S', S' = stp S X := ⟨_, rfl⟩
    have hnext : runN T (k + 1) = S' := by rw [hSS', hSS, hX]; rfl
    rw [← hSS] at hS
    have HSX := Lib.hid (show ∀ W, Calls Tryz.prog 109 #[.agg (stv S), .agg (bc X).toArray] W fun e w' => e = .returned (.agg (stv S')) ∧ Below W.heap.size W w' by rw [hSS']; exact fun W => step_any S X hXl W)
    obtain ⟨C, hC⟩ : ∃ C, C = (bc X).toArray := ⟨_, rfl⟩
    rw [← hC] at HSX ⊢
    have HI := Lib.hid (show (Tryz.prog.info? 178).map (·.size) = some C.size by rw [hC, bsize9, List.size_toArray, bc_len, hXl])
    have HO := Lib.hid (show zv64.size = C.size by rw [hC]; have h9 : (bc X).toArray.size = 64 := (by rw [List.size_toArray, bc_len, hXl]); rw [h9]; rfl)
    have HA := Lib.hid (show C.all (·.oneCell') = true by rw [hC]; exact bc_all X)
    have hal := heap_alloc_new W (.cells zv64 178)
    obtain ⟨w1, hw1⟩ : ∃ w1, w1 = (W.alloc (.cells zv64 178)).setRow W.heap.size C := ⟨_, rfl⟩
    have b1 : Below W.heap.size W w1 := by rw [hw1]; exact below_setRow ((Below.refl _ W).alloc (Nat.le_refl _) _) (Nat.le_refl _) _
    have x1 : w1.heap[W.heap.size]? = some (.cells C 178 (0, 0)) := by rw [hw1]; exact setRow_heap _ _ _ _ _ _ hal
    have HAL := Lib.hid hal; have HW1 := Lib.hid hw1; have HB1 := Lib.hid b1; have HX1 := Lib.hid x1; have HHS := Lib.hid hS; have HHZ := Lib.hid hZ; have HHB := Lib.hid hB; have HNX := Lib.hid hnext; have HSK := Lib.hid hSS
    have HL := Lib.hid (And.intro hl hlt)
    clear hal hw1 b1 x1 hS hZ hB hnext hSS hSS' hX hXl hC hx hl hlt
    gi_wp2_with (refine store_in rfl 178 (.tmp 4) (.tmp 9) rfl W.heap.size C rfl rfl 178 zv64 HAL.out HI.out HO.out HA.out ?_)
    rw [← HW1.out]
    have S1 := HHS.out.keep (HB1.out.mono (Nat.le_refl _))
    refine ⟨⟨HB1.out.size, fun j o hj _ => (HB1.out.block j (Array.getElem?_eq_some_iff.1 hj).1).trans hj⟩, Keeps.below HB1.out, ⟨?_, HHZ.out.below HB1.out HHZ.out.lt, HHB.out.trans (HB1.out.mono HHB.out.size)⟩, fun w2 ho hsz hbel => ?_⟩
    · rw [← HSK.out]; exact S1
    · have S2 : Sb w2 (w.heap.size + 1) S := (ho _ (by have := HL.out.1; have := hW3l.out; omega)).trans S1
      have Z2 : Bt 74 w2 w.heap.size (List.replicate 20 0) := (ho _ (by have := HL.out.1; have := hW3l.out; omega)).trans (HHZ.out.below HB1.out HHZ.out.lt)
      have X2 : w2.heap[W.heap.size]? = some (.cells C 178 (0, 0)) := (ho _ (by have := HL.out.2; omega)).trans HX1.out
      have B2 : Below w.heap.size w w2 := (HHB.out.trans (HB1.out.mono HHB.out.size)).trans (hbel.mono (Nat.le_of_lt (Nat.lt_of_succ_lt hW3l.out)))
      obtain ⟨c0, c1, c2, c3, c4⟩ := S2.all
      have HS2 := Lib.hid S2; have HZ2 := Lib.hid Z2; have HX2 := Lib.hid X2; have HB2 := Lib.hid B2
      clear S1 S2 Z2 X2 B2 ho hsz hbel
      gi_wp2_with (first
        | (refine load_in rfl 178 (.tmp 4) rfl W.heap.size rfl 178 C (0, 0) _ _ HX2.out bund9 HI.out ?_)
        | (refine ⟨trivial, ?_⟩; gi_at_call 109; refine (CallsIn.inRound l (callsIn_wide.2 (HSX.out w2))).mono ?_; rintro e w3 ⟨rfl, hb3⟩; have HB3 := Lib.hid hb3; have HS3 := Lib.hid (HS2.out.keep hb3); clear hb3)
        | (refine store_in rfl 36 (.tmp 3) (.tmp 12) rfl (w.heap.size + 1) (stv S') rfl rfl 36 (stv S) HS3.out ssize rfl (stv_all S') ?_))
      have hne : ∀ j, j ≠ w.heap.size + 1 → (w3.setRow (w.heap.size + 1) (stv S')).heap[j]? = w3.heap[j]? := fun j hj => setRow_other w3 _ j _ hj
      have hsz4 : w3.heap.size ≤ (w3.setRow (w.heap.size + 1) (stv S')).heap.size := (below_setRow (B := w.heap.size + 1) (Below.refl _ w3) (Nat.le_refl _) (stv S')).size
      refine ⟨⟨Nat.le_trans HB3.out.size hsz4, fun j o hj hc => ?_⟩, fun j o hn hj hc => (hne j hn).trans ((HB3.out.block j (Array.getElem?_eq_some_iff.1 hj).1).trans hj), ?_, ?_, ?_⟩
      · by_cases e : j = w.heap.size + 1
        · subst e
          have h9 : w2.heap[w.heap.size + 1]? = _ := HS2.out
          rw [h9] at hj
          cases hj; cases hc
        · exact (hne j e).trans ((HB3.out.block j (Array.getElem?_eq_some_iff.1 hj).1).trans hj)
      · rw [HNX.out]
        exact setRow_heap w3 _ _ _ _ _ HS3.out
      · exact (hne w.heap.size (by omega)).trans (HZ2.out.below HB3.out HZ2.out.lt)
      · exact below_setRow (HB2.out.trans (HB3.out.mono HB2.out.size)) (Nat.le_succ _) _
  case done =>
    rintro D W hD ⟨hS, hZ, hB⟩ hd
    rw [blks_len] at hS
    obtain ⟨S, hSS⟩ : ∃ S, S = runN T K := ⟨_, rfl⟩
    rw [← hSS] at hS HDG
    obtain ⟨c0, c1, c2, c3, c4⟩ := hS.all
    have HFR := Lib.hid (from_any S W)
    have HHZ := Lib.hid hZ; have HHB := Lib.hid hB; have HD := Lib.hid hd
    have HBL := Lib.hid (byt_len S)
    rw [HDG.out] at HFR HBL
    have HDL := Lib.hid (show w.heap.size ≠ D ∧ D < W.heap.size from ⟨by have := hW3l.out; omega, (Array.getElem?_eq_some_iff.1 hd).1⟩)
    have HDW := Lib.hid (show w.heap.size ≤ D by have := hW3l.out; omega)
    clear hS hZ hB hd hSS hgv hz
    obtain ⟨V, hV⟩ : ∃ V, V = digP ps := ⟨_, rfl⟩
    rw [← hV] at HFR HBL
    have HV := Lib.hid hV
    clear hV
    gi_wp2_with (first
      | (refine ⟨trivial, ?_⟩; gi_at_call 71; refine (callsIn_wide.2 HFR.out).mono ?_; rintro e w3 ⟨rfl, hb3⟩; have HB3 := Lib.hid hb3; have HZ3 := Lib.hid (HHZ.out.below hb3 HHZ.out.lt); clear hb3)
      | (refine store_in rfl 74 (.tmp 2) (.tmp 14) rfl w.heap.size (bc V).toArray rfl rfl 74 (bc (List.replicate 20 0)).toArray HZ3.out (by rw [dsize, List.size_toArray, bc_len, HBL.out]) (by rw [List.size_toArray, List.size_toArray, bc_len, bc_len, HBL.out]; rfl) (bc_all _) ?_))
    have hh : (w3.setRow w.heap.size (bc V).toArray).heap[w.heap.size]? = some (.cells (bc V).toArray 74 (0, 0)) := setRow_heap w3 _ _ _ _ _ HZ3.out
    have hd4 : (w3.setRow w.heap.size (bc V).toArray).heap[D]? = some (.deferred (some [])) := (setRow_other w3 _ D _ (fun e => HDL.out.1 e.symm)).trans ((HB3.out.block D HDL.out.2).trans HD.out)
    have b4 : Below w.heap.size w (w3.setRow w.heap.size (bc V).toArray) := below_setRow (HHB.out.trans (HB3.out.mono HHB.out.size)) (Nat.le_refl _) _
    generalize w3.setRow w.heap.size (bc V).toArray = w4 at *
    refine ⟨by simp, .inl ⟨_, _, rfl, run_takeDeferred hd4, ?_⟩⟩
    refine ⟨_, results_cell_row rfl _ _ w.heap.size 74 (bc V).toArray (0, 0) _ rfl ((World.putObj_heap_other HDL.out.1).trans hh) dund rfl (by rw [dsize, List.size_toArray, bc_len, HBL.out]), by rw [HV.out], b4.trans (put_below _ HDW.out)⟩

end Go.Proofs.YtdonicaiimeleaaGreatDoor

namespace Go.Proofs.YtdonicaiimeleaaGreatDoor
open Go.RowKit Go.WideShapes Go.ChangeShapes
set_option linter.unusedVariables false

theorem one_part {w : World} {b : Nat} {A : Option Addr} {l : List UInt8} {c : Nat} (hb : w.cell? ⟨b, 0, none⟩ = some (.slice A l.length c)) (h : Rb w A l) (hA : A = none → c = 0) (hc : l.length ≤ c) : Ps (fun _ => False) w (some ⟨b, 0, none⟩) [(A, l, c)] := fun j A' l' c' hj => by
  cases j with
  | zero =>
    have hj : (A, l, c) = (A', l', c') := by simpa using hj
    injection hj with e1 e2
    injection e2 with e2 e3
    subst e1; subst e2; subst e3
    exact ⟨⟨b, 0, rfl, fun h => h, hb⟩, h, hA, hc, .inr fun _ _ h => h⟩
  | succ j => simp at hj
set_option maxRecDepth 100000 in
set_option maxHeartbeats 1000000 in
theorem ssum_any (A : Option Addr) (l : List UInt8) (c : Nat) (w : World) (hst : Start w) (h : Rb w A l) (hA : A = none → c = 0) (hc : l.length ≤ c) (hl : l.length ≤ 10000) :
    Calls Tryz.prog 52 #[.slice A l.length c] w fun e w' => e = .returned (.agg (bc (byt (dig l))).toArray) ∧ Below w.heap.size w w' := by
  have b1 : Below w.heap.size w (w.alloc (.cells #[.int .u8 0, .int .u8 0, .int .u8 0, .int .u8 0, .int .u8 0, .int .u8 0, .int .u8 0, .int .u8 0, .int .u8 0, .int .u8 0, .int .u8 0, .int .u8 0, .int .u8 0, .int .u8 0, .int .u8 0, .int .u8 0, .int .u8 0, .int .u8 0, .int .u8 0, .int .u8 0] 74)) := (Below.refl _ w).alloc (Nat.le_refl _) _
  have z1 : Bt 74 (w.alloc (.cells #[.int .u8 0, .int .u8 0, .int .u8 0, .int .u8 0, .int .u8 0, .int .u8 0, .int .u8 0, .int .u8 0, .int .u8 0, .int .u8 0, .int .u8 0, .int .u8 0, .int .u8 0, .int .u8 0, .int .u8 0, .int .u8 0, .int .u8 0, .int .u8 0, .int .u8 0, .int .u8 0] 74)) w.heap.size (List.replicate 20 0) := heap_alloc_new w _
  obtain ⟨W1, hW1⟩ : ∃ W1, W1 = w.alloc (.cells #[.int .u8 0, .int .u8 0, .int .u8 0, .int .u8 0, .int .u8 0, .int .u8 0, .int .u8 0, .int .u8 0, .int .u8 0, .int .u8 0, .int .u8 0, .int .u8 0, .int .u8 0, .int .u8 0, .int .u8 0, .int .u8 0, .int .u8 0, .int .u8 0, .int .u8 0, .int .u8 0] 74) := ⟨_, rfl⟩
  rw [← hW1] at b1 z1
  have b2 : Below W1.heap.size W1 (W1.alloc (.cells #[.slice A l.length c] 84)) := (Below.refl _ W1).alloc (Nat.le_refl _) _
  have hps := one_part (w := W1.alloc (.cells #[.slice A l.length c] 84)) (bk_cell (heap_alloc_new W1 _) 0) ((h.below b1).below b2) hA hc
  have hof := sof_any (some ⟨W1.heap.size, 0, none⟩) 1 [(A, l, c)] _ ((hst.below b1).below b2) hps (fun h => by cases h) (by simp) (by simp [cat]; exact hl)
  have hd : digP [(A, l, c)] = byt (dig l) := by unfold digP cat; simp
  rw [hd] at hof
  have HOF := Lib.hid hof
  have HB2 := Lib.hid (b1.trans (b2.mono b1.size)); have HZ2 := Lib.hid (z1.below b2 z1.lt)
  obtain ⟨V, hV⟩ : ∃ V, V = byt (dig l) := ⟨_, rfl⟩
  have HBL := Lib.hid (show V.length = 20 by rw [hV]; exact byt_len _)
  rw [← hV] at HOF ⊢
  have hsz : W1.heap.size = w.heap.size + 1 := by rw [hW1]; simp
  rw [hsz] at HOF
  clear hV hof hps b1 b2 z1 h hst hd hc hl hsz
  go_enter Tryz.func52, Tryz.ntmps52
  go_upto_region 1 with fail
  rw [← hW1]
  have hsz : W1.heap.size = w.heap.size + 1 := by rw [hW1]; simp
  clear hW1
  go_wp2_with fail
  refine HOF.out.mono ?_
  rintro e w3 ⟨rfl, hb⟩
  have HB3 := Lib.hid (HB2.out.trans (hb.mono HB2.out.size)); have HZ3 := Lib.hid (HZ2.out.below hb HZ2.out.lt)
  clear hb HOF hsz
  go_wp2_with (refine wpList_store_row rfl 74 (.tmp 2) (.tmp 5) rfl w.heap.size (bc V).toArray rfl rfl 74 (bc (List.replicate 20 0)).toArray HZ3.out (by rw [dsize, List.size_toArray, bc_len, HBL.out]) (by rw [List.size_toArray, List.size_toArray, bc_len, bc_len, HBL.out]; rfl) (bc_all _) ?_)
  refine bodyPost_ret (results_cell_row rfl _ _ w.heap.size 74 (bc V).toArray (0, 0) _ rfl (setRow_heap w3 w.heap.size _ _ _ _ HZ3.out) dund rfl (by rw [dsize, List.size_toArray, bc_len, HBL.out])) rfl ⟨rfl, ?_⟩
  exact below_setRow HB3.out (Nat.le_refl _) _

end Go.Proofs.YtdonicaiimeleaaGreatDoor
