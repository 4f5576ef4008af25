/- Package scale: inForce, moment. Written by gen_sca.py. -/
import Derived.Test.YtiamggjebaabkaaDoorScaA
namespace Go.Proofs.YtiamggjebaabkaaDoor
open Go.RowKit
set_option linter.unusedVariables false
set_option linter.unusedSimpArgs false

theorem row_new (w : World) (a b : Int) : ∃ W0, W0 = w.alloc (.cells #[.int .i64 a, .int .i64 b] 76) ∧ Below w.heap.size w W0 ∧ W0.heap[w.heap.size]? = some (.cells #[.int .i64 a, .int .i64 b] 76 (0, 0)) := ⟨_, rfl, bel_box w _, heap_alloc_new w _⟩
theorem rw_is (L : List Rw) (i : Nat) (h : i < L.length) : rwD L i = rd L i ∧ rwO L i = ro L i ∧ rwB L i = true := by
  unfold rwD rwO rwB
  rw [if_pos ⟨by omega, by omega⟩, if_pos ⟨by omega, by omega⟩, decide_eq_true ⟨by omega, by omega⟩, show ((i : Int)).toNat = i by omega]
  exact ⟨rfl, rfl, rfl⟩
theorem rw_none (L : List Rw) : rwD L (-1) = 0 ∧ rwO L (-1) = 0 ∧ rwB L (-1) = false := by
  unfold rwD rwO rwB
  rw [if_neg (by omega), if_neg (by omega), decide_eq_false (by omega)]
  exact ⟨rfl, rfl, rfl⟩

set_option maxHeartbeats 2000000 in
theorem inforce1_any {lo : Nat} (a b B : Nat) (v : Value) (L : List Rw) (u e tai : Int) (i : Nat) (W : World) (hi : i < L.length) (h : Tv lo W v L u e) (V : Vr L) (hB : B ≤ W.heap.size) (hlb : b < W.heap.size)
    (c0 : W.cell? ⟨a, 0, none⟩ = some v) (c1 : W.cell? ⟨b, 0, none⟩ = some (.int .i64 tai)) :
    Calls Tryd.prog 95 (#[.int .i64 i] ++ #[.pointer (some ⟨a, 0, none⟩), .pointer (some ⟨b, 0, none⟩)]) W fun e w' => e = .returned (.bool (decide (tai < bgn L i))) ∧ Below B W w' := by
  have hr := row_any (i : Int) h
  obtain ⟨e1, e2, e3⟩ := rw_is L i hi
  rw [e1, e2, e3] at hr
  have d := V.day i hi; have o := V.off i hi
  have hm := fun w => machine_any (rd L i) (ro L i) w (by omega) (by omega) (by omega) (by omega)
  rw [show 86400 * rd L i + ro L i = bgn L i from rfl] at hm
  have HR := Lib.hid hr; have HM := Lib.hid hm
  clear hr hm e1 e2 e3 d o hi h V
  generalize bgn L i = z at *
  generalize rd L i = x at *
  generalize ro L i = y at *
  go_enter Tryd.func95, Tryd.ntmps95
  go_wp2_with fail
  refine HR.out.mono ?_
  rintro e w1 ⟨rfl, hb⟩
  have C1 : w1.cell? ⟨b, 0, none⟩ = some (.int .i64 tai) := (hb.cell (p := ⟨b, 0, none⟩) hlb).trans c1
  have B1 := Lib.hid hb
  clear c0 c1 hb
  obtain ⟨W1, hW1, b1, g1⟩ := row_new w1 x y
  go_upto_region 2 with fail
  rw [← hW1]
  have C2 : W1.cell? ⟨b, 0, none⟩ = some (.int .i64 tai) := (b1.cell (p := ⟨b, 0, none⟩) (Nat.lt_of_lt_of_le hlb B1.out.size)).trans C1
  have k0 := bk_cell g1 0
  have k1 := bk_cell g1 1
  have HB : Hid (Below B W W1) := Lib.hid ((B1.out.trans (b1.mono B1.out.size)).mono hB)
  clear hW1 b1 g1 C1 B1
  go_quiet ((go_at_call 35; exact Calls.quiet_of_same ((HM.out _).mono fun _ _ h => ⟨h.1, h.2.symm⟩)))
  go_wp2
  go_ret
  exact ⟨rfl, HB.out.trans (drewN_below _ _ _)⟩
theorem enters_inforce : ∀ args w, (callFunc 95 args).run Tryd.prog w = .ok (.enter 95 args) w := enters_of Tryd.func95 (by kernel_rfl) rfl

/-- The boxes of inForce. -/
theorem inf_box (w : World) (g : Nat) (tai : Int) : ∃ W2, W2 = ((w.alloc (.cells #[.pointer (some ⟨g, 0, none⟩)] 38)).alloc (.cells #[.int .i64 tai] 2)).alloc (.cells #[.int .i64 0, .int .i64 0] 76) ∧ W2.heap.size = w.heap.size + 1 + 1 + 1 ∧ Below w.heap.size w W2 ∧
    W2.heap[w.heap.size]? = some (.cells #[.pointer (some ⟨g, 0, none⟩)] 38 (0, 0)) ∧ W2.heap[w.heap.size + 1]? = some (.cells #[.int .i64 tai] 2 (0, 0)) ∧ W2.heap[w.heap.size + 1 + 1]? = some (.cells #[.int .i64 0, .int .i64 0] 76 (0, 0)) := by
  obtain ⟨W0, hW0⟩ : ∃ W0, W0 = w.alloc (.cells #[.pointer (some ⟨g, 0, none⟩)] 38) := ⟨_, rfl⟩
  have b0 : Below w.heap.size w W0 := by rw [hW0]; exact bel_box w _
  have s0 : W0.heap.size = w.heap.size + 1 := by rw [hW0]; simp
  have g0 : W0.heap[w.heap.size]? = some (.cells #[.pointer (some ⟨g, 0, none⟩)] 38 (0, 0)) := by rw [hW0]; exact heap_alloc_new w _
  obtain ⟨W1, hW1⟩ : ∃ W1, W1 = W0.alloc (.cells #[.int .i64 tai] 2) := ⟨_, rfl⟩
  have b1 : Below W0.heap.size W0 W1 := by rw [hW1]; exact bel_box W0 _
  have s1 : W1.heap.size = W0.heap.size + 1 := by rw [hW1]; simp
  have g1 : W1.heap[W0.heap.size]? = some (.cells #[.int .i64 tai] 2 (0, 0)) := by rw [hW1]; exact heap_alloc_new W0 _
  obtain ⟨W2, hW2, b2, g2⟩ := row_new W1 0 0
  have s2 : W2.heap.size = W1.heap.size + 1 := by rw [hW2]; simp
  rw [s0] at g1
  rw [s1, s0] at g2
  refine ⟨W2, by rw [hW2, hW1, hW0], by omega, b0.trans ((b1.trans (b2.mono b1.size)).mono b0.size), ((b1.trans (b2.mono b1.size)).block _ (by omega)).trans g0, (b2.block _ (by omega)).trans g1, g2⟩
set_option maxRecDepth 100000 in
set_option maxHeartbeats 4000000 in
theorem inforce_any {lo : Nat} {w : World} {g : Nat} {L : List Rw} {u e : Int} (tai : Int) (h : Tb lo w g L u e) (V : Vr L) :
    Calls Tryd.prog 69 #[.pointer (some ⟨g, 0, none⟩), .int .i64 tai] w fun x w' => x = .returned (.tuple #[.agg #[.int .i64 (rwD L ((abg L tai : Nat) - 1)), .int .i64 (rwO L ((abg L tai : Nat) - 1))], .bool (rwB L ((abg L tai : Nat) - 1))]) ∧ Below w.heap.size w w' := by
  obtain ⟨W2, hW2, s2, B0, G0, G1, g2⟩ := inf_box w g tai
  have T2 := h.below B0
  have hle := abg_le L tai
  have few := V.few
  have hS := search_bel 95 #[.pointer (some ⟨w.heap.size, 0, none⟩), .pointer (some ⟨w.heap.size + 1, 0, none⟩)] W2.heap.size L.length (abg L tai) (fun i => decide (tai < bgn L i)) W2 enters_inforce (by omega) hle (Nat.le_refl _)
    (fun i W hi hb => inforce1_any w.heap.size (w.heap.size + 1) W2.heap.size (.pointer (some ⟨g, 0, none⟩)) L u e tai i W hi (T2.below hb).v V hb.size (Nat.lt_of_lt_of_le (by omega) hb.size) ((hb.cell (p := ⟨w.heap.size, 0, none⟩) (by omega : w.heap.size < W2.heap.size)).trans (bk_cell G0 0)) ((hb.cell (p := ⟨w.heap.size + 1, 0, none⟩) (by omega : w.heap.size + 1 < W2.heap.size)).trans (bk_cell G1 0)))
    (fun i hi => decide_eq_false (by have := V.abg_lo tai hi; omega))
    (fun i hi hi' => decide_eq_true (abg_hi L tai hi hi'))
  have hl : ∀ W, Below W2.heap.size W2 W → Calls Tryd.prog 94 #[.pointer (some ⟨g, 0, none⟩)] W fun x w' => x = .returned (.int .i64 (L.length : Nat)) ∧ W = w' := fun W hb => len_any (T2.below hb).v
  have hR := fun W (hb : Below W2.heap.size W2 W) => row_any ((abg L tai : Nat) - 1) (T2.below hb).v
  have c0 := bk_cell G0 0
  have HG : Hid (∀ W, Below W2.heap.size W2 W → W.cell? ⟨w.heap.size, 0, none⟩ = some (.pointer (some ⟨g, 0, none⟩)) ∧ W.heap[w.heap.size + 1 + 1]? = some (.cells #[.int .i64 0, .int .i64 0] 76 (0, 0))) := Lib.hid fun W hb => ⟨(hb.cell (p := ⟨w.heap.size, 0, none⟩) (by omega : w.heap.size < W2.heap.size)).trans (bk_cell G0 0), (hb.block _ (by omega)).trans g2⟩
  have HS := Lib.hid hS; have HL := Lib.hid (hl _ (Below.refl _ _)); have HR := Lib.hid hR; have HB := Lib.hid B0
  have HW2 := Lib.hid hW2
  have i1 : IntKind.i64.wrap (((abg L tai : Nat) : Int) - 1) = ((abg L tai : Nat) : Int) - 1 := IntWalk.i64_in _ (by omega)
  clear g2 s2 B0 G0 G1 T2 hS hl hR h V hW2
  generalize rwD L ((abg L tai : Nat) - 1) = x at *
  generalize rwO L ((abg L tai : Nat) - 1) = y at *
  generalize rwB L ((abg L tai : Nat) - 1) = z at *
  have hL2 : L.length ≤ 256 := few
  generalize L.length = N at *
  generalize abg L tai = k at *
  go_enter Tryd.func69, Tryd.ntmps69
  go_upto_region 1 with fail
  rw [← HW2.out]
  clear HW2
  go_wp2_with (first
    | (go_at_call 94; refine HL.out.mono ?_; rintro e w' ⟨rfl, rfl⟩)
    | (go_at_call 92; refine HS.out.mono ?_; rintro e w3 ⟨rfl, hb⟩; obtain ⟨c0, g3⟩ := HG.out w3 hb; have G3 := Lib.hid g3; have B3 := Lib.hid hb; clear hb g3 HS)
    | (go_at_call 96; refine (HR.out _ B3.out).mono ?_; rintro e w4 ⟨rfl, hb⟩; obtain ⟨-, g4⟩ := HG.out w4 (B3.out.trans (hb.mono B3.out.size)); have B4 := Lib.hid (B3.out.trans (hb.mono B3.out.size)); have G4 := Lib.hid g4; have f0 := bk_free g4 0; have f1 := bk_free g4 1; have l0 := bk_cell g4 0; have l1 := bk_cell g4 1; clear hb g4 HR))
  have G5 := bk_set (bk_set G4.out 0 (.int .i64 x)) 1 (.int .i64 y)
  have r0 := bk_cell G5 0
  have r1 := bk_cell G5 1
  have BB := (((HB.out.trans (B4.out.mono HB.out.size)).setCell (p := ⟨w.heap.size + 1 + 1, 0, none⟩) (show w.heap.size ≤ w.heap.size + 1 + 1 by omega) (.int .i64 x)).setCell (p := ⟨w.heap.size + 1 + 1, 1, none⟩) (show w.heap.size ≤ w.heap.size + 1 + 1 by omega) (.int .i64 y))
  refine bodyPost_ret (v := .tuple #[.agg #[.int .i64 x, .int .i64 y], .bool z]) (by simp [results, Tryd.results69, go_sem, r0, r1]) rfl ⟨rfl, BB⟩

/-- What moment answers. -/
def tvN (L : List Rw) (t : Int) : Int := if tpE L t = 0 then tpN L t else 0
def tvS (L : List Rw) (t : Int) : Int := if tpE L t = 0 then tpS L t else 0

set_option maxHeartbeats 4000000 in
theorem moment_none {lo : Nat} {w : World} {g : Nat} {L : List Rw} {u e : Int} (t : Int) (ht : fits t) (h : Tb lo w g L u e) (V : Vr L) (h0 : abg L t = 0) :
    Calls Tryd.prog 46 #[.pointer (some ⟨g, 0, none⟩), .int .i64 t] w fun x w' => x = .returned (.tuple #[.int .i64 0, .int .i64 0, ev 8]) ∧ Below w.heap.size w w' := by
  have hI := inforce_any t h V
  obtain ⟨e1, e2, e3⟩ := rw_none L
  rw [h0, show (((0 : Nat) : Int) - 1) = -1 by decide, e1, e2, e3] at hI
  have HI := Lib.hid hI
  clear hI e1 e2 e3 h V h0 ht
  go_enter Tryd.func46, Tryd.ntmps46
  go_wp2_with fail
  refine HI.out.mono ?_
  rintro e w1 ⟨rfl, hb⟩
  have B1 := Lib.hid hb
  clear hb
  go_wp2_with fail
  go_ret3
  exact ⟨rfl, B1.out.alloc B1.out.size _⟩

set_option maxHeartbeats 4000000 in
theorem moment_same_ok {lo : Nat} {w : World} {g : Nat} {L : List Rw} {u e : Int} (t : Int) (ht : fits t) (h : Tb lo w g L u e) (V : Vr L) (h0 : abg L t ≠ 0) (hq : ofN L (tp0 L t) = ro L (abg L t - 1)) (hy : tpN L t ≤ 2932896) :
    Calls Tryd.prog 46 #[.pointer (some ⟨g, 0, none⟩), .int .i64 t] w fun x w' => x = .returned (.tuple #[.int .i64 (tpN L t), .int .i64 (tpS L t), ev 0]) ∧ Below w.heap.size w w' := by
  have hI := inforce_any t h V
  have hl := abg_le L t
  obtain ⟨e1, e2, e3⟩ := rw_is L (abg L t - 1) (by omega)
  rw [show ((abg L t : Nat) : Int) - 1 = ((abg L t - 1 : Nat) : Int) by omega, e1, e2, e3] at hI
  have bd := tp_bd V h0
  have o1 := V.off (abg L t - 1) (by omega)
  have hsp := fun w => split12_any (t - ro L (abg L t - 1)) w (by unfold fits at ht ⊢; omega)
  rw [show (t - ro L (abg L t - 1)) / 86400 = tp0 L t from rfl, show (t - ro L (abg L t - 1)) % 86400 = tpR L t from rfl] at hsp
  have hof := fun (W : World) (hb : Below w.heap.size w W) => offset_any (tp0 L t) (h.below hb).v (.inl V)
  have hla := fun w => last_any w
  have t0 : tpN L t = tp0 L t := if_pos hq
  have t1 : tpS L t = tpR L t := if_pos hq
  have rr : 0 ≤ tpR L t ∧ tpR L t < 86400 := by unfold tpR; omega
  have nb : -100000 ≤ tp0 L t ∧ tp0 L t ≤ 200000000000000 := by unfold fits at ht; have : t - ro L (abg L t - 1) = 86400 * tp0 L t + tpR L t := by { unfold tp0 tpR; omega }; omega
  rw [t0] at hy
  rw [t0, t1]
  have wr : IntKind.i64.wrap (t - ro L (abg L t - 1)) = t - ro L (abg L t - 1) := IntWalk.i64_in _ (by unfold fits at ht; omega)
  have HI := Lib.hid hI; have HSp := Lib.hid hsp; have HO := Lib.hid hof; have HL := Lib.hid hla
  clear hI e1 e2 e3 bd hsp hof hla t0 t1 h V h0 hl
  generalize rd L (abg L t - 1) = rx at *
  generalize ro L (abg L t - 1) = ry at *
  generalize ofN L (tp0 L t) = oo at *
  generalize ofB L (tp0 L t) = ob at *
  generalize tp0 L t = n at *
  generalize tpR L t = r at *
  have hqb : (oo == ry) = true := beq_iff_eq.2 hq
  have hyb : decide (2932896 < n) = false := decide_eq_false (by omega)
  go_enter Tryd.func46, Tryd.ntmps46
  go_wp2_with fail
  refine HI.out.mono ?_
  rintro e w1 ⟨rfl, hb⟩
  have B1 := Lib.hid hb
  clear hb
  obtain ⟨W1, hW1, b1, g1⟩ := row_new w1 rx ry
  go_upto_region 2 with fail
  rw [← hW1]
  have B2 := Lib.hid (B1.out.trans (b1.mono B1.out.size))
  have G2 := Lib.hid g1
  have k0 := bk_cell g1 0
  have k1 := bk_cell g1 1
  clear b1 g1 hW1 B1
  go_wp2_with (first
    | (go_at_call 49; refine (HSp.out _).mono ?_; rintro e w' ⟨rfl, rfl⟩)
    | (go_at_call 44; refine (HO.out _ B2.out).mono ?_; rintro e w3 ⟨rfl, hb⟩; have g3 := (hb.block _ (bk_lt G2.out)).trans G2.out; have k0 := bk_cell g3 0; have k1 := bk_cell g3 1; have B3 := Lib.hid (B2.out.trans (hb.mono B2.out.size)); clear hb g3 HO)
    | (go_at_call 70; refine (HL.out _).mono ?_; rintro e w' ⟨rfl, rfl⟩))
  go_ret3
  exact ⟨rfl, B3.out⟩

set_option maxHeartbeats 4000000 in
theorem moment_same_far {lo : Nat} {w : World} {g : Nat} {L : List Rw} {u e : Int} (t : Int) (ht : fits t) (h : Tb lo w g L u e) (V : Vr L) (h0 : abg L t ≠ 0) (hq : ofN L (tp0 L t) = ro L (abg L t - 1)) (hy : ¬ tpN L t ≤ 2932896) :
    Calls Tryd.prog 46 #[.pointer (some ⟨g, 0, none⟩), .int .i64 t] w fun x w' => x = .returned (.tuple #[.int .i64 0, .int .i64 0, ev 13]) ∧ Below w.heap.size w w' := by
  have hI := inforce_any t h V
  have hl := abg_le L t
  obtain ⟨e1, e2, e3⟩ := rw_is L (abg L t - 1) (by omega)
  rw [show ((abg L t : Nat) : Int) - 1 = ((abg L t - 1 : Nat) : Int) by omega, e1, e2, e3] at hI
  have bd := tp_bd V h0
  have o1 := V.off (abg L t - 1) (by omega)
  have hsp := fun w => split12_any (t - ro L (abg L t - 1)) w (by unfold fits at ht ⊢; omega)
  rw [show (t - ro L (abg L t - 1)) / 86400 = tp0 L t from rfl, show (t - ro L (abg L t - 1)) % 86400 = tpR L t from rfl] at hsp
  have hof := fun (W : World) (hb : Below w.heap.size w W) => offset_any (tp0 L t) (h.below hb).v (.inl V)
  have hla := fun w => last_any w
  have t0 : tpN L t = tp0 L t := if_pos hq
  have t1 : tpS L t = tpR L t := if_pos hq
  have rr : 0 ≤ tpR L t ∧ tpR L t < 86400 := by unfold tpR; omega
  have nb : -100000 ≤ tp0 L t ∧ tp0 L t ≤ 200000000000000 := by unfold fits at ht; have : t - ro L (abg L t - 1) = 86400 * tp0 L t + tpR L t := by { unfold tp0 tpR; omega }; omega
  rw [t0] at hy
  skip
  have wr : IntKind.i64.wrap (t - ro L (abg L t - 1)) = t - ro L (abg L t - 1) := IntWalk.i64_in _ (by unfold fits at ht; omega)
  have HI := Lib.hid hI; have HSp := Lib.hid hsp; have HO := Lib.hid hof; have HL := Lib.hid hla
  clear hI e1 e2 e3 bd hsp hof hla t0 t1 h V h0 hl
  generalize rd L (abg L t - 1) = rx at *
  generalize ro L (abg L t - 1) = ry at *
  generalize ofN L (tp0 L t) = oo at *
  generalize ofB L (tp0 L t) = ob at *
  generalize tp0 L t = n at *
  generalize tpR L t = r at *
  have hqb : (oo == ry) = true := beq_iff_eq.2 hq
  have hyb : decide (2932896 < n) = true := decide_eq_true (by omega)
  go_enter Tryd.func46, Tryd.ntmps46
  go_wp2_with fail
  refine HI.out.mono ?_
  rintro e w1 ⟨rfl, hb⟩
  have B1 := Lib.hid hb
  clear hb
  obtain ⟨W1, hW1, b1, g1⟩ := row_new w1 rx ry
  go_upto_region 2 with fail
  rw [← hW1]
  have B2 := Lib.hid (B1.out.trans (b1.mono B1.out.size))
  have G2 := Lib.hid g1
  have k0 := bk_cell g1 0
  have k1 := bk_cell g1 1
  clear b1 g1 hW1 B1
  go_wp2_with (first
    | (go_at_call 49; refine (HSp.out _).mono ?_; rintro e w' ⟨rfl, rfl⟩)
    | (go_at_call 44; refine (HO.out _ B2.out).mono ?_; rintro e w3 ⟨rfl, hb⟩; have g3 := (hb.block _ (bk_lt G2.out)).trans G2.out; have k0 := bk_cell g3 0; have k1 := bk_cell g3 1; have B3 := Lib.hid (B2.out.trans (hb.mono B2.out.size)); clear hb g3 HO)
    | (go_at_call 70; refine (HL.out _).mono ?_; rintro e w' ⟨rfl, rfl⟩))
  go_ret3
  exact ⟨rfl, B3.out⟩

set_option maxHeartbeats 4000000 in
theorem moment_other_ok {lo : Nat} {w : World} {g : Nat} {L : List Rw} {u e : Int} (t : Int) (ht : fits t) (h : Tb lo w g L u e) (V : Vr L) (h0 : abg L t ≠ 0) (hq : ofN L (tp0 L t) ≠ ro L (abg L t - 1)) (hy : tpN L t ≤ 2932896) :
    Calls Tryd.prog 46 #[.pointer (some ⟨g, 0, none⟩), .int .i64 t] w fun x w' => x = .returned (.tuple #[.int .i64 (tpN L t), .int .i64 (tpS L t), ev 0]) ∧ Below w.heap.size w w' := by
  have hI := inforce_any t h V
  have hl := abg_le L t
  obtain ⟨e1, e2, e3⟩ := rw_is L (abg L t - 1) (by omega)
  rw [show ((abg L t : Nat) : Int) - 1 = ((abg L t - 1 : Nat) : Int) by omega, e1, e2, e3] at hI
  have bd := tp_bd V h0
  have o1 := V.off (abg L t - 1) (by omega)
  have hsp := fun w => split12_any (t - ro L (abg L t - 1)) w (by unfold fits at ht ⊢; omega)
  rw [show (t - ro L (abg L t - 1)) / 86400 = tp0 L t from rfl, show (t - ro L (abg L t - 1)) % 86400 = tpR L t from rfl] at hsp
  have hof := fun (W : World) (hb : Below w.heap.size w W) => offset_any (tp0 L t) (h.below hb).v (.inl V)
  have hla := fun w => last_any w
  have t0 : tpN L t = tp0 L t - 1 := if_neg hq
  have t1 : tpS L t = tpR L t + 86400 := if_neg hq
  have rr : 0 ≤ tpR L t ∧ tpR L t < 86400 := by unfold tpR; omega
  have nb : -100000 ≤ tp0 L t ∧ tp0 L t ≤ 200000000000000 := by unfold fits at ht; have : t - ro L (abg L t - 1) = 86400 * tp0 L t + tpR L t := by { unfold tp0 tpR; omega }; omega
  rw [t0] at hy
  rw [t0, t1]
  have wr : IntKind.i64.wrap (t - ro L (abg L t - 1)) = t - ro L (abg L t - 1) := IntWalk.i64_in _ (by unfold fits at ht; omega)
  have HI := Lib.hid hI; have HSp := Lib.hid hsp; have HO := Lib.hid hof; have HL := Lib.hid hla
  clear hI e1 e2 e3 bd hsp hof hla t0 t1 h V h0 hl
  generalize rd L (abg L t - 1) = rx at *
  generalize ro L (abg L t - 1) = ry at *
  generalize ofN L (tp0 L t) = oo at *
  generalize ofB L (tp0 L t) = ob at *
  generalize tp0 L t = n at *
  generalize tpR L t = r at *
  have hqb : (oo == ry) = false := beq_eq_false_iff_ne.2 hq
  have hyb : decide (2932896 < n - 1) = false := decide_eq_false (by omega)
  go_enter Tryd.func46, Tryd.ntmps46
  go_wp2_with fail
  refine HI.out.mono ?_
  rintro e w1 ⟨rfl, hb⟩
  have B1 := Lib.hid hb
  clear hb
  obtain ⟨W1, hW1, b1, g1⟩ := row_new w1 rx ry
  go_upto_region 2 with fail
  rw [← hW1]
  have B2 := Lib.hid (B1.out.trans (b1.mono B1.out.size))
  have G2 := Lib.hid g1
  have k0 := bk_cell g1 0
  have k1 := bk_cell g1 1
  clear b1 g1 hW1 B1
  go_wp2_with (first
    | (go_at_call 49; refine (HSp.out _).mono ?_; rintro e w' ⟨rfl, rfl⟩)
    | (go_at_call 44; refine (HO.out _ B2.out).mono ?_; rintro e w3 ⟨rfl, hb⟩; have g3 := (hb.block _ (bk_lt G2.out)).trans G2.out; have k0 := bk_cell g3 0; have k1 := bk_cell g3 1; have B3 := Lib.hid (B2.out.trans (hb.mono B2.out.size)); clear hb g3 HO)
    | (go_at_call 70; refine (HL.out _).mono ?_; rintro e w' ⟨rfl, rfl⟩))
  go_ret3
  exact ⟨rfl, B3.out⟩

set_option maxHeartbeats 4000000 in
theorem moment_other_far {lo : Nat} {w : World} {g : Nat} {L : List Rw} {u e : Int} (t : Int) (ht : fits t) (h : Tb lo w g L u e) (V : Vr L) (h0 : abg L t ≠ 0) (hq : ofN L (tp0 L t) ≠ ro L (abg L t - 1)) (hy : ¬ tpN L t ≤ 2932896) :
    Calls Tryd.prog 46 #[.pointer (some ⟨g, 0, none⟩), .int .i64 t] w fun x w' => x = .returned (.tuple #[.int .i64 0, .int .i64 0, ev 13]) ∧ Below w.heap.size w w' := by
  have hI := inforce_any t h V
  have hl := abg_le L t
  obtain ⟨e1, e2, e3⟩ := rw_is L (abg L t - 1) (by omega)
  rw [show ((abg L t : Nat) : Int) - 1 = ((abg L t - 1 : Nat) : Int) by omega, e1, e2, e3] at hI
  have bd := tp_bd V h0
  have o1 := V.off (abg L t - 1) (by omega)
  have hsp := fun w => split12_any (t - ro L (abg L t - 1)) w (by unfold fits at ht ⊢; omega)
  rw [show (t - ro L (abg L t - 1)) / 86400 = tp0 L t from rfl, show (t - ro L (abg L t - 1)) % 86400 = tpR L t from rfl] at hsp
  have hof := fun (W : World) (hb : Below w.heap.size w W) => offset_any (tp0 L t) (h.below hb).v (.inl V)
  have hla := fun w => last_any w
  have t0 : tpN L t = tp0 L t - 1 := if_neg hq
  have t1 : tpS L t = tpR L t + 86400 := if_neg hq
  have rr : 0 ≤ tpR L t ∧ tpR L t < 86400 := by unfold tpR; omega
  have nb : -100000 ≤ tp0 L t ∧ tp0 L t ≤ 200000000000000 := by unfold fits at ht; have : t - ro L (abg L t - 1) = 86400 * tp0 L t + tpR L t := by { unfold tp0 tpR; omega }; omega
  rw [t0] at hy
  skip
  have wr : IntKind.i64.wrap (t - ro L (abg L t - 1)) = t - ro L (abg L t - 1) := IntWalk.i64_in _ (by unfold fits at ht; omega)
  have HI := Lib.hid hI; have HSp := Lib.hid hsp; have HO := Lib.hid hof; have HL := Lib.hid hla
  clear hI e1 e2 e3 bd hsp hof hla t0 t1 h V h0 hl
  generalize rd L (abg L t - 1) = rx at *
  generalize ro L (abg L t - 1) = ry at *
  generalize ofN L (tp0 L t) = oo at *
  generalize ofB L (tp0 L t) = ob at *
  generalize tp0 L t = n at *
  generalize tpR L t = r at *
  have hqb : (oo == ry) = false := beq_eq_false_iff_ne.2 hq
  have hyb : decide (2932896 < n - 1) = true := decide_eq_true (by omega)
  go_enter Tryd.func46, Tryd.ntmps46
  go_wp2_with fail
  refine HI.out.mono ?_
  rintro e w1 ⟨rfl, hb⟩
  have B1 := Lib.hid hb
  clear hb
  obtain ⟨W1, hW1, b1, g1⟩ := row_new w1 rx ry
  go_upto_region 2 with fail
  rw [← hW1]
  have B2 := Lib.hid (B1.out.trans (b1.mono B1.out.size))
  have G2 := Lib.hid g1
  have k0 := bk_cell g1 0
  have k1 := bk_cell g1 1
  clear b1 g1 hW1 B1
  go_wp2_with (first
    | (go_at_call 49; refine (HSp.out _).mono ?_; rintro e w' ⟨rfl, rfl⟩)
    | (go_at_call 44; refine (HO.out _ B2.out).mono ?_; rintro e w3 ⟨rfl, hb⟩; have g3 := (hb.block _ (bk_lt G2.out)).trans G2.out; have k0 := bk_cell g3 0; have k1 := bk_cell g3 1; have B3 := Lib.hid (B2.out.trans (hb.mono B2.out.size)); clear hb g3 HO)
    | (go_at_call 70; refine (HL.out _).mono ?_; rintro e w' ⟨rfl, rfl⟩))
  go_ret3
  exact ⟨rfl, B3.out⟩

theorem moment_any {lo : Nat} {w : World} {g : Nat} {L : List Rw} {u e : Int} (t : Int) (ht : fits t) (h : Tb lo w g L u e) (V : Vr L) :
    Calls Tryd.prog 46 #[.pointer (some ⟨g, 0, none⟩), .int .i64 t] w fun x w' => x = .returned (.tuple #[.int .i64 (tvN L t), .int .i64 (tvS L t), ev (tpE L t)]) ∧ Below w.heap.size w w' := by
  by_cases h0 : abg L t = 0
  · have e : tpE L t = 8 := if_pos h0
    unfold tvN tvS
    rw [e, if_neg (by decide), if_neg (by decide)]
    exact moment_none t ht h V h0
  by_cases hy : tpN L t ≤ 2932896
  · have e : tpE L t = 0 := by unfold tpE; rw [if_neg h0, if_neg (by omega)]
    unfold tvN tvS
    rw [e, if_pos rfl, if_pos rfl]
    by_cases hq : ofN L (tp0 L t) = ro L (abg L t - 1)
    · exact moment_same_ok t ht h V h0 hq hy
    · exact moment_other_ok t ht h V h0 hq hy
  · have e : tpE L t = 13 := by unfold tpE; rw [if_neg h0, if_pos (by omega)]
    unfold tvN tvS
    rw [e, if_neg (by decide), if_neg (by decide)]
    by_cases hq : ofN L (tp0 L t) = ro L (abg L t - 1)
    · exact moment_same_far t ht h V h0 hq hy
    · exact moment_other_far t ht h V h0 hq hy

end Go.Proofs.YtiamggjebaabkaaDoor
