/- Package leap: offsets, Next, Leap, Length, Has, Row, Same. -/
import Derived.Test.YtiamggjebaabkaaDoorLeapC
namespace Go.Proofs.YtiamggjebaabkaaDoor
open Go.RowKit
set_option linter.unusedVariables false
set_option linter.unusedSimpArgs false

/-- A valid table's rows, or none. -/
def Vx (L : List Rw) : Prop := Vr L ∨ L = []
theorem Vx.few {L : List Rw} (h : Vx L) : L.length ≤ 256 := by
  rcases h with h | rfl
  · exact h.few
  · exact Nat.zero_le _
theorem Vx.lo {L : List Rw} (h : Vx L) (n : Int) : ∀ i, i < af L n → rd L i ≤ n := by
  rcases h with h | rfl
  · exact fun i hi => h.af_lo n hi
  · intro i hi
    exact absurd hi (Nat.not_lt_zero _)
theorem Vx.at {L : List Rw} (h : Vx L) {j : Nat} (hj : j < L.length) : -25567 ≤ rd L j ∧ rd L j ≤ 2932896 ∧ 0 ≤ ro L j ∧ ro L j ≤ 1000 := by
  rcases h with h | rfl
  · exact ⟨(h.day j hj).1, (h.day j hj).2, (h.off j hj).1, (h.off j hj).2⟩
  · exact absurd hj (Nat.not_lt_zero _)
theorem Vx.bd {L : List Rw} (h : Vx L) (n : Int) : (nxK L n = 0 ∨ nxK L n = 1 ∨ nxK L n = -1) ∧ (lpN L n = 0 ∨ lpN L n = 1 ∨ lpN L n = -1) := by
  rcases h with h | rfl
  · exact ⟨h.nxK_bd n, h.lpN_bd n⟩
  · exact ⟨.inl (nxK_nil n), .inl (lpN_nil n)⟩
theorem vx_nil : Vx [] := .inr rfl

set_option maxHeartbeats 2000000 in
theorem offset_any {lo : Nat} {w : World} {v : Value} {L : List Rw} {u e : Int} (n : Int) (h : Tv lo w v L u e) (hV : Vx L) :
    Calls Tryd.prog 44 #[v, .int .i64 n] w fun x w' => x = .returned (.tuple #[.int .i64 (ofN L n), .bool (ofB L n)]) ∧ Below w.heap.size w w' := by
  have hf := hV.few
  have HA := Lib.hid (after_any n h (by omega) (hV.lo n))
  have ha := af_le L n
  unfold ofN ofB
  by_cases h0 : af L n = 0
  · rw [if_pos h0, decide_eq_true h0]
    rw [h0] at HA
    clear h hV h0 hf ha
    go_enter Tryd.func44, Tryd.ntmps44
    go_wp2_with (go_at_call 68; refine HA.out.mono ?_; rintro e w1 ⟨rfl, hb⟩; have B1 := Lib.hid hb; clear hb)
    go_ret2
    exact ⟨rfl, B1.out⟩
  · rw [if_neg h0, decide_eq_false h0]
    obtain ⟨k, hk⟩ : ∃ k, af L n = k + 1 := ⟨af L n - 1, by omega⟩
    rw [hk] at HA ha ⊢
    rcases h with ⟨rfl, rfl, rfl, rfl⟩ | ⟨g, rfl, ht⟩
    · simp at ha
    have HT := Lib.hid ht
    have hz : (k : Int) < (L.length : Int) := by omega
    have hk0 : (0 : Int) ≤ (k : Int) := by omega
    have HK := Lib.hid ha
    have s1 : (k : Int) ≤ 256 := by omega
    rw [show k + 1 - 1 = k by omega]
    clear hV ha h0 hk ht hf
    generalize hN : L.length = N at hz HK
    have HN := Lib.hid hN
    clear hN
    go_enter Tryd.func44, Tryd.ntmps44
    go_wp2_with (go_at_call 68; refine HA.out.mono ?_; rintro e w1 ⟨rfl, hb⟩; have T1 := HT.out.below hb; have B1 := Lib.hid hb; clear hb; obtain ⟨-, A, c, t1, t2, -, -⟩ := T1; obtain ⟨bb, off, rfl, -, -, hc⟩ := t2.pos (by have := HK.out; have := HN.out; omega); obtain ⟨-, c2⟩ := hc k (by have := HK.out; have := HN.out; omega); rw [HN.out] at t1; have c0 : w1.cell? ⟨g, 0, none⟩ = some (.slice (some ⟨bb, off, none⟩) N c) := bk_cell t1 0; clear hc t1 t2 HT)
    go_ret2
    exact ⟨rfl, B1.out⟩

theorem results_tmp3 {fn : Func} {t u v : Tmp} (h : fn.results = #[.tmp t, .tmp u, .tmp v]) (tmps : Array Value) (P : Program) (w : World) :
    (results fn tmps).run P w = .ok (.tuple #[tmps.getD t undef, tmps.getD u undef, tmps.getD v undef]) w := by
  simp [results, h]
set_option maxHeartbeats 4000000 in
theorem next_any {lo : Nat} {w : World} {v : Value} {L : List Rw} {u e : Int} (n : Int) (h : Tv lo w v L u e) (hV : Vx L) :
    Calls Tryd.prog 107 #[v, .int .i64 n] w fun x w' => x = .returned (.tuple #[.int .i64 (nxD L n), .int .i64 (nxK L n), .bool (nxB L n)]) ∧ Below w.heap.size w w' := by
  have hf := hV.few
  have HA := Lib.hid (after_any n h (by omega) (hV.lo n))
  have HLn := Lib.hid (fun (W : World) (hb : Below w.heap.size w W) => len_any (h.below hb))
  obtain ⟨k, hk, hk2⟩ : ∃ k, nx L n = k + 1 ∧ ((af L n = 0 ∧ k = 0) ∨ af L n = k + 1) := by
    unfold nx
    split
    · exact ⟨0, rfl, .inl ⟨by assumption, rfl⟩⟩
    · exact ⟨af L n - 1, by omega, .inr (by omega)⟩
  unfold nxD nxK nxB
  rw [hk]
  by_cases h1 : k + 1 < L.length
  · have hz : ¬ ((k : Int) + 1 ≥ (L.length : Int)) := by omega
    rw [if_pos h1, if_pos h1, decide_eq_true h1]
    rcases h with ⟨rfl, rfl, rfl, rfl⟩ | ⟨g, rfl, ht⟩
    · simp at h1
    have q1 := hV.at h1
    have q0 := hV.at (show k < L.length by omega)
    have HT := Lib.hid ht
    have H1 := Lib.hid h1
    rw [show k + 1 - 1 = k by omega]
    have s0 : (k : Int) ≤ 256 := by omega
    have k0 : (0 : Int) ≤ (k : Int) := by omega
    have z1 : (k : Int) + 1 < (L.length : Int) := by omega
    have z0 : (k : Int) < (L.length : Int) := by omega
    have i1 : IntKind.i64.wrap (rd L (k + 1) - 1) = rd L (k + 1) - 1 := IntWalk.i64_in _ (by omega)
    have i2 : IntKind.i64.wrap (ro L (k + 1) - ro L k) = ro L (k + 1) - ro L k := IntWalk.i64_in _ (by omega)
    clear q0 q1 hV h1 hk ht hf
    generalize hN : L.length = N at hz z0 z1
    have HN := Lib.hid hN
    rw [hN] at HLn
    clear hN
    rcases hk2 with ⟨ha, rfl⟩ | ha
    · rw [ha] at HA
      clear ha
      have i0 : IntKind.i64.wrap ((1 : Int) - 1) = 0 := IntWalk.i64_in _ (by omega)
      have z2 : (1 : Int) < (N : Int) := by omega
      have z3 : (0 : Int) < (N : Int) := by omega
      go_enter Tryd.func107, Tryd.ntmps107
      go_wp2_with (first
        | (go_at_call 68; refine HA.out.mono ?_; rintro e w1 ⟨rfl, hb⟩; go_loud (have T1 := HT.out.below hb; have B1 := Lib.hid hb; clear hb; obtain ⟨-, A, c, t1, t2, -, -⟩ := T1; obtain ⟨bb, off, rfl, -, -, hc⟩ := t2.pos (by have := H1.out; omega); have c3 : w1.cell? ⟨bb, off + 1, none⟩ = some (.int .i64 (ro L 0)) := (hc 0 (Nat.lt_of_succ_lt H1.out)).2; have c1 : w1.cell? ⟨bb, off + 2, none⟩ = some (.int .i64 (rd L (0 + 1))) := (hc 1 H1.out).1; have c2 : w1.cell? ⟨bb, off + 2 + 1, none⟩ = some (.int .i64 (ro L (0 + 1))) := (hc 1 H1.out).2; rw [HN.out] at t1; have c0 : w1.cell? ⟨g, 0, none⟩ = some (.slice (some ⟨bb, off, none⟩) N c) := bk_cell t1 0; clear hc t1 t2 HT HA))
        | (go_at_call 94; refine (HLn.out _ B1.out).mono ?_; rintro e w2 ⟨rfl, rfl⟩; clear HLn))
      go_quiet (fail)
      go_wp2
      (try simp only [Exit.inBlock, Exit.then])
      refine bodyPost_ret (results_tmp3 rfl _ _ _) rfl ?_
      exact ⟨rfl, B1.out.trans (drewN_below _ _ _)⟩
    · rw [ha] at HA
      clear ha
      have i0 : IntKind.i64.wrap ((k : Int) + 1 - 1) = (k : Int) := by rw [show (k : Int) + 1 - 1 = k by omega]; exact IntWalk.i64_in _ (by omega)
      have e1 : ((k : Int) + 1).toNat = k + 1 := by omega
      go_enter Tryd.func107, Tryd.ntmps107
      go_wp2_with (first
        | (go_at_call 68; refine HA.out.mono ?_; rintro e w1 ⟨rfl, hb⟩; have T1 := HT.out.below hb; have B1 := Lib.hid hb; clear hb; obtain ⟨-, A, c, t1, t2, -, -⟩ := T1; obtain ⟨bb, off, rfl, -, -, hc⟩ := t2.pos (by have := H1.out; omega); obtain ⟨-, c3⟩ := hc k (by have := H1.out; omega); obtain ⟨c1, c2⟩ := hc (k + 1) H1.out; rw [HN.out] at t1; have c0 : w1.cell? ⟨g, 0, none⟩ = some (.slice (some ⟨bb, off, none⟩) N c) := bk_cell t1 0; clear hc t1 t2 HT HA)
        | (go_at_call 94; refine (HLn.out _ B1.out).mono ?_; rintro e w2 ⟨rfl, rfl⟩; clear HLn))
      go_quiet (fail)
      go_wp2
      (try simp only [Exit.inBlock, Exit.then])
      refine bodyPost_ret (results_tmp3 rfl _ _ _) rfl ?_
      exact ⟨rfl, B1.out.trans (drewN_below _ _ _)⟩
  · have hz : (k : Int) + 1 ≥ (L.length : Int) := by omega
    rw [if_neg h1, if_neg h1, decide_eq_false h1]
    have k0 : (0 : Int) ≤ (k : Int) := by omega
    rcases hk2 with ⟨ha, rfl⟩ | ha
    · rw [ha] at HA
      clear hV h1 hk hf h ha
      have z2 : (1 : Int) ≥ (L.length : Int) := by omega
      go_enter Tryd.func107, Tryd.ntmps107
      go_wp2_with (first
        | (go_at_call 68; refine HA.out.mono ?_; rintro e w1 ⟨rfl, hb⟩; have B1 := Lib.hid hb; clear hb)
        | (go_at_call 94; refine (HLn.out _ B1.out).mono ?_; rintro e w2 ⟨rfl, rfl⟩))
      (try simp only [Exit.inBlock, Exit.then])
      refine bodyPost_ret (results_tmp3 rfl _ _ _) rfl ?_
      exact ⟨rfl, B1.out⟩
    · rw [ha] at HA
      clear hV h1 hk hf h ha
      go_enter Tryd.func107, Tryd.ntmps107
      go_wp2_with (first
        | (go_at_call 68; refine HA.out.mono ?_; rintro e w1 ⟨rfl, hb⟩; have B1 := Lib.hid hb; clear hb)
        | (go_at_call 94; refine (HLn.out _ B1.out).mono ?_; rintro e w2 ⟨rfl, rfl⟩))
      (try simp only [Exit.inBlock, Exit.then])
      refine bodyPost_ret (results_tmp3 rfl _ _ _) rfl ?_
      exact ⟨rfl, B1.out⟩

end Go.Proofs.YtiamggjebaabkaaDoor
