/- The statements of layer 10: LeapSteps. -/
import Derived.Test.YtaahfkkcjfpieaaDoorLeapK
namespace Go.Proofs.YtaahfkkcjfpieaaDoor
open Go.RowKit
set_option linter.unusedVariables false
set_option linter.unusedSimpArgs false

theorem raw_box (w : World) (A : Option Addr) (n c : Nat) (u e : Int) : ∃ W1, W1 = w.alloc (.cells #[.slice A n c, .int .i64 u, .int .i64 e] 24) ∧ Below w.heap.size w W1 ∧ W1.heap.size = w.heap.size + 1 ∧
    ∀ W, Below W1.heap.size W1 W → W.cell? ⟨w.heap.size, 0, none⟩ = some (.slice A n c) ∧ W.cell? ⟨w.heap.size, 1, none⟩ = some (.int .i64 u) ∧ W.cell? ⟨w.heap.size, 2, none⟩ = some (.int .i64 e) := by
  obtain ⟨W1, hW1⟩ : ∃ W1, W1 = w.alloc (.cells #[.slice A n c, .int .i64 u, .int .i64 e] 24) := ⟨_, rfl⟩
  have g : W1.heap[w.heap.size]? = some (.cells #[.slice A n c, .int .i64 u, .int .i64 e] 24 (0, 0)) := by rw [hW1]; exact heap_alloc_new w _
  have hl := bk_lt g
  exact ⟨W1, hW1, by rw [hW1]; exact bel_box w _, by rw [hW1]; simp, fun W hb => ⟨(hb.cell (p := ⟨w.heap.size, 0, none⟩) hl).trans (bk_cell g 0), (hb.cell (p := ⟨w.heap.size, 1, none⟩) hl).trans (bk_cell g 1), (hb.cell (p := ⟨w.heap.size, 2, none⟩) hl).trans (bk_cell g 2)⟩⟩

set_option maxRecDepth 100000 in
set_option maxHeartbeats 4000000 in
theorem steps10_walk (A : Option Addr) (c : Nat) (L : List Rw) (u e n : Int) (w : World) (he : Ends w) (hr : Rp w.heap.size w A L) (hA : A = none → c = 0 ∧ L = []) (hc : L.length ≤ c) (hm : c ≤ maxLen) :
    Calls Tryd.prog 5 #[.agg #[.slice A L.length c, .int .i64 u, .int .i64 e], .int .i64 n] w fun x w' => x = .returned (.bool true) ∧ Below w.heap.size w w' := by
  obtain ⟨W1, hW1, b1, s1, hX⟩ := raw_box w A L.length c u e
  have HX := Lib.hid hX; have HB := Lib.hid b1
  have HAl := Lib.hid (alive10_any W1 (he.below b1))
  by_cases g1 : 300 < L.length
  · have z1 : (L.length : Int) > 300 := by omega
    clear he hr hA hc hm hX b1 s1 g1
    generalize L.length = N at *
    go_enter Tryd.func5, Tryd.ntmps5
    go_upto_region 1 with fail
    rw [← hW1]
    clear hW1
    go_wp2_with (go_at_call 7; refine HAl.out.mono ?_; rintro e w1 ⟨rfl, hb⟩; obtain ⟨x0, x1, x2⟩ := HX.out w1 hb; have B1 := Lib.hid (HB.out.trans (hb.mono HB.out.size)); clear hb HAl)
    go_ret
    exact ⟨rfl, B1.out⟩
  have z1 : ¬ (L.length : Int) > 300 := by omega
  by_cases g2 : n > 1099511627776
  · clear he hr hA hc hm hX b1 s1 g1
    generalize L.length = N at *
    go_enter Tryd.func5, Tryd.ntmps5
    go_upto_region 1 with fail
    rw [← hW1]
    clear hW1
    go_wp2_with (go_at_call 7; refine HAl.out.mono ?_; rintro e w1 ⟨rfl, hb⟩; obtain ⟨x0, x1, x2⟩ := HX.out w1 hb; have B1 := Lib.hid (HB.out.trans (hb.mono HB.out.size)); clear hb HAl)
    go_ret
    exact ⟨rfl, B1.out⟩
  by_cases g3 : n < -1099511627776
  · clear he hr hA hc hm hX b1 s1 g1
    generalize L.length = N at *
    go_enter Tryd.func5, Tryd.ntmps5
    go_upto_region 1 with fail
    rw [← hW1]
    clear hW1
    go_wp2_with (go_at_call 7; refine HAl.out.mono ?_; rintro e w1 ⟨rfl, hb⟩; obtain ⟨x0, x1, x2⟩ := HX.out w1 hb; have B1 := Lib.hid (HB.out.trans (hb.mono HB.out.size)); clear hb HAl)
    go_ret
    exact ⟨rfl, B1.out⟩
  have q0 := fun op t W x k => guard_ev op t W x k
  have q2 := fun W k => neq_ev W k
  by_cases hk : lkE L u e = 0
  rotate_left
  · have HN := Lib.hid (fun (W : World) (hb : Below W1.heap.size W1 W) => new_no A c L u e W (he.below (b1.trans (hb.mono b1.size))) (by omega) ((hr.below (b1.trans (hb.mono b1.size))).low) hc hm hk)
    have hkb : (lkE L u e != 0) = true := bne_iff_ne.mpr hk
    generalize lkE L u e = k at *
    clear he hr hA hc hm hX b1 s1 g1 hk
    generalize L.length = N at *
    go_enter Tryd.func5, Tryd.ntmps5
    go_upto_region 1 with fail
    rw [← hW1]
    clear hW1
    go_wp2_with (first
      | (go_at_call 7; refine HAl.out.mono ?_; rintro e w1 ⟨rfl, hb⟩; obtain ⟨x0, x1, x2⟩ := HX.out w1 hb; have B1 := Lib.hid hb; clear hb HAl)
      | (go_at_call 8; refine (HN.out _ B1.out).mono ?_; rintro e w2 ⟨rfl, hb⟩; have B2 := Lib.hid (HB.out.trans ((B1.out.trans (hb.mono B1.out.size)).mono HB.out.size)); clear hb HN))
    go_ret
    exact ⟨rfl, B2.out⟩
  have HN := Lib.hid (fun (W : World) (hb : Below W1.heap.size W1 W) => new_some A c L u e W (he.below (b1.trans (hb.mono b1.size))) (by omega) ((hr.below (b1.trans (hb.mono b1.size))).low) hA hc hm hk)
  have V := (lkE_zero hk).1
  have HV : Hid (Vx L) := Lib.hid (.inl V)
  have hpos : 0 < L.length := V.pos
  cases hb : ofB L n with
  | false =>
    obtain ⟨e1, e2⟩ := V.before n hb
    have HO1 : Hid (∀ (lo : Nat) (W : World) (g : Nat), Tb lo W g L u e → Calls Tryd.prog 17 #[.pointer (some ⟨g, 0, none⟩), .int .i64 n] W fun x w' => x = .returned (.tuple #[.int .i64 0, .bool false]) ∧ Below W.heap.size W w') := Lib.hid fun lo W g h => by
      have := offset_any n h.v HV.out
      rw [e1, hb] at this
      exact this
    have HLp : Hid (∀ (lo : Nat) (W : World) (g : Nat), Tb lo W g L u e → Calls Tryd.prog 20 #[.pointer (some ⟨g, 0, none⟩), .int .i64 n] W fun x w' => x = .returned (.int .i64 0) ∧ Below W.heap.size W w') := Lib.hid fun lo W g h => by
      have := leapday_any n h.v HV.out
      rw [e2] at this
      exact this
    have HO2 := Lib.hid (fun (lo : Nat) (W : World) (g : Nat) (h : Tb lo W g L u e) => offset_any (n + 1) h.v HV.out)
    have HLn := Lib.hid (fun (lo : Nat) (W : World) (g : Nat) (h : Tb lo W g L u e) => len_any h.v)
    generalize ofN L (n + 1) = o2 at *
    clear he hr hA hc hm hX b1 s1 g1 hk e1 e2 hb V
    have hpz : (L.length : Int) > 0 := by omega
    cases hb2 : ofB L (n + 1) with
    | false =>
      rw [hb2] at HO2
      clear hb2
      generalize L.length = N at *
      go_enter Tryd.func5, Tryd.ntmps5
      go_upto_region 1 with fail
      rw [← hW1]
      clear hW1
      go_wp2_with (first
        | (go_at_call 7; refine HAl.out.mono ?_; rintro e w1 ⟨rfl, hb⟩; obtain ⟨x0, x1, x2⟩ := HX.out w1 hb; have B1 := Lib.hid hb; clear hb HAl)
        | (go_at_call 8; refine (HN.out _ B1.out).mono ?_; rintro e w2 ⟨g, rfl, hb, ht⟩; have B2 := Lib.hid (HB.out.trans ((B1.out.trans (hb.mono B1.out.size)).mono HB.out.size)); have T2 := Lib.hid ht; clear hb ht HN)
        | (go_at_call 17; refine (HO1.out _ _ _ T2.out).mono ?_; rintro e w3 ⟨rfl, hb⟩; have B3 := Lib.hid (B2.out.trans (hb.mono B2.out.size)); have T3 := Lib.hid (T2.out.below hb); clear hb HO1 T2)
        | (go_at_call 17; refine (HO2.out _ _ _ T3.out).mono ?_; rintro e w4 ⟨rfl, hb⟩; have B4 := Lib.hid (B3.out.trans (hb.mono B3.out.size)); have T4 := Lib.hid (T3.out.below hb); clear hb HO2 T3)
        | (go_at_call 20; refine (HLp.out _ _ _ T4.out).mono ?_; rintro e w5 ⟨rfl, hb⟩; have B5 := Lib.hid (B4.out.trans (hb.mono B4.out.size)); have T5 := Lib.hid (T4.out.below hb); clear hb HLp T4)
        | (go_at_call 13; refine (HLn.out _ _ _ T5.out).mono ?_; rintro e w6 ⟨rfl, rfl⟩))
      go_ret
      exact ⟨rfl, B5.out⟩
    | true =>
      rw [hb2] at HO2
      clear hb2
      generalize L.length = N at *
      go_enter Tryd.func5, Tryd.ntmps5
      go_upto_region 1 with fail
      rw [← hW1]
      clear hW1
      go_wp2_with (first
        | (go_at_call 7; refine HAl.out.mono ?_; rintro e w1 ⟨rfl, hb⟩; obtain ⟨x0, x1, x2⟩ := HX.out w1 hb; have B1 := Lib.hid hb; clear hb HAl)
        | (go_at_call 8; refine (HN.out _ B1.out).mono ?_; rintro e w2 ⟨g, rfl, hb, ht⟩; have B2 := Lib.hid (HB.out.trans ((B1.out.trans (hb.mono B1.out.size)).mono HB.out.size)); have T2 := Lib.hid ht; clear hb ht HN)
        | (go_at_call 17; refine (HO1.out _ _ _ T2.out).mono ?_; rintro e w3 ⟨rfl, hb⟩; have B3 := Lib.hid (B2.out.trans (hb.mono B2.out.size)); have T3 := Lib.hid (T2.out.below hb); clear hb HO1 T2)
        | (go_at_call 17; refine (HO2.out _ _ _ T3.out).mono ?_; rintro e w4 ⟨rfl, hb⟩; have B4 := Lib.hid (B3.out.trans (hb.mono B3.out.size)); have T4 := Lib.hid (T3.out.below hb); clear hb HO2 T3)
        | (go_at_call 20; refine (HLp.out _ _ _ T4.out).mono ?_; rintro e w5 ⟨rfl, hb⟩; have B5 := Lib.hid (B4.out.trans (hb.mono B4.out.size)); have T5 := Lib.hid (T4.out.below hb); clear hb HLp T4)
        | (go_at_call 13; refine (HLn.out _ _ _ T5.out).mono ?_; rintro e w6 ⟨rfl, rfl⟩))
      go_ret
      exact ⟨rfl, B5.out⟩
  | true =>
    obtain ⟨e1, e2⟩ := V.step n hb
    have hbd := (HV.out.bd n).2
    have HO1 : Hid (∀ (lo : Nat) (W : World) (g : Nat), Tb lo W g L u e → Calls Tryd.prog 17 #[.pointer (some ⟨g, 0, none⟩), .int .i64 n] W fun x w' => x = .returned (.tuple #[.int .i64 (ofN L n), .bool true]) ∧ Below W.heap.size W w') := Lib.hid fun lo W g h => by
      have := offset_any n h.v HV.out
      rw [hb] at this
      exact this
    have HO2 : Hid (∀ (lo : Nat) (W : World) (g : Nat), Tb lo W g L u e → Calls Tryd.prog 17 #[.pointer (some ⟨g, 0, none⟩), .int .i64 (n + 1)] W fun x w' => x = .returned (.tuple #[.int .i64 (ofN L (n + 1)), .bool true]) ∧ Below W.heap.size W w') := Lib.hid fun lo W g h => by
      have := offset_any (n + 1) h.v HV.out
      rw [e1] at this
      exact this
    have HLp := Lib.hid (fun (lo : Nat) (W : World) (g : Nat) (h : Tb lo W g L u e) => leapday_any n h.v HV.out)
    have HLn := Lib.hid (fun (lo : Nat) (W : World) (g : Nat) (h : Tb lo W g L u e) => len_any h.v)
    have s0 : IntKind.i64.wrap (ofN L (n + 1) - ofN L n) = lpN L n := by rw [e2]; exact IntWalk.i64_in _ (by omega)
    generalize ofN L (n + 1) = o2 at *
    generalize ofN L n = o1 at *
    generalize lpN L n = lk at *
    clear he hr hA hc hm hX b1 s1 g1 hk e1 e2 hb V hbd
    generalize L.length = N at *
    go_enter Tryd.func5, Tryd.ntmps5
    go_upto_region 1 with fail
    rw [← hW1]
    clear hW1
    go_wp2_with (first
      | (go_at_call 7; refine HAl.out.mono ?_; rintro e w1 ⟨rfl, hb⟩; obtain ⟨x0, x1, x2⟩ := HX.out w1 hb; have B1 := Lib.hid hb; clear hb HAl)
      | (go_at_call 8; refine (HN.out _ B1.out).mono ?_; rintro e w2 ⟨g, rfl, hb, ht⟩; have B2 := Lib.hid (HB.out.trans ((B1.out.trans (hb.mono B1.out.size)).mono HB.out.size)); have T2 := Lib.hid ht; clear hb ht HN)
      | (go_at_call 17; refine (HO1.out _ _ _ T2.out).mono ?_; rintro e w3 ⟨rfl, hb⟩; have B3 := Lib.hid (B2.out.trans (hb.mono B2.out.size)); have T3 := Lib.hid (T2.out.below hb); clear hb HO1 T2)
      | (go_at_call 17; refine (HO2.out _ _ _ T3.out).mono ?_; rintro e w4 ⟨rfl, hb⟩; have B4 := Lib.hid (B3.out.trans (hb.mono B3.out.size)); have T4 := Lib.hid (T3.out.below hb); clear hb HO2 T3)
      | (go_at_call 20; refine (HLp.out _ _ _ T4.out).mono ?_; rintro e w5 ⟨rfl, hb⟩; have B5 := Lib.hid (B4.out.trans (hb.mono B4.out.size)); have T5 := Lib.hid (T4.out.below hb); clear hb HLp T4)
      | (go_at_call 13; refine (HLn.out _ _ _ T5.out).mono ?_; rintro e w6 ⟨rfl, rfl⟩))
    go_ret
    exact ⟨rfl, B5.out⟩

end Go.Proofs.YtaahfkkcjfpieaaDoor
