/- Merged: ListAG, ListAH. -/
import Derived.Test.YtdonicaiimeleaaGreatDoorGListParses46
import Derived.BigQuiet
namespace Go.Proofs.YtdonicaiimeleaaGreatDoor
open Go.RowKit Go.WideShapes Go.ChangeShapes
set_option linter.unusedVariables false
set_option linter.unusedSimpArgs false

/-- What lay in W1 stands in W. -/
structure Kt (W1 W : World) : Prop where
  bel : Below W1.heap.size W1 W
/-- The list's box. -/
theorem list_box (w : World) (pu pe pd : Option Addr) (A : Option Addr) (n c : Nat) : ∃ W1, W1 = w.alloc (.cells #[.pointer pu, .pointer pe, .slice A n c, .pointer pd] 50) ∧ Below w.heap.size w W1 ∧
    ∀ W, Below W1.heap.size W1 W → W.cell? ⟨w.heap.size, 0, none⟩ = some (.pointer pu) ∧ W.cell? ⟨w.heap.size, 1, none⟩ = some (.pointer pe) ∧ W.cell? ⟨w.heap.size, 2, none⟩ = some (.slice A n c) ∧ W.cell? ⟨w.heap.size, 3, none⟩ = some (.pointer pd) := by
  refine ⟨_, rfl, (Below.refl _ w).alloc (Nat.le_refl _) _, fun W hb => ?_⟩
  have h := heap_alloc_new w (.cells #[.pointer pu, .pointer pe, .slice A n c, .pointer pd] 50)
  have h' : W.heap[w.heap.size]? = some (.cells #[.pointer pu, .pointer pe, .slice A n c, .pointer pd] 50 (0, 0)) := (hb.block _ (bk_lt h)).trans h
  exact ⟨bk_cell h' 0, bk_cell h' 1, bk_cell h' 2, bk_cell h' 3⟩
set_option maxRecDepth 100000 in
set_option maxHeartbeats 2000000 in
theorem table_no (pu pe pd A : Option Addr) (n c : Nat) (w : World) (h : pu = none ∨ pe = none) : Calls Tryz.prog 13 #[.agg #[.pointer pu, .pointer pe, .slice A n c, .pointer pd]] w fun x w' => x = .returned (.tuple #[.pointer none, ev 2]) ∧ Below w.heap.size w w' := by
  obtain ⟨W1, hW1, b1, hc⟩ := list_box w pu pe pd A n c
  obtain ⟨c0, c1, -, -⟩ := hc W1 (Below.refl _ _)
  have B1 := Lib.hid b1
  clear hc b1
  cases pu with
  | none =>
    clear h
    go_enter Tryz.func13, Tryz.ntmps13
    go_upto_region 1 with fail
    rw [← hW1]
    clear hW1
    go_wp2
    go_ret2
    exact ⟨rfl, B1.out⟩
  | some ad =>
    obtain rfl : pe = none := by
      rcases h with h | h
      · cases h
      · exact h
    clear h
    go_enter Tryz.func13, Tryz.ntmps13
    go_upto_region 1 with fail
    rw [← hW1]
    clear hW1
    go_wp2
    go_ret2
    exact ⟨rfl, B1.out⟩
set_option maxRecDepth 100000 in
set_option maxHeartbeats 4000000 in
theorem table_wrong (a b : Nat) (pd A : Option Addr) (c : Nat) (L : List Rw) (u e : Int) (w : World) (ha : Bi w a u) (hb : Bi w b e) (hr : Rp w.heap.size w A L) (hc : L.length ≤ c) (hm : c ≤ maxLen) (he : Ends w) (hn : L.length ≤ 100000) (hk : lkE L u e ≠ 0) :
    Calls Tryz.prog 13 #[.agg #[.pointer (some ⟨a, 0, none⟩), .pointer (some ⟨b, 0, none⟩), .slice A L.length c, .pointer pd]] w fun x w' => x = .returned (.tuple #[.pointer none, ev (lkE L u e)]) ∧ Below w.heap.size w w' := by
  obtain ⟨W1, hW1, b1, hC⟩ := list_box w (some ⟨a, 0, none⟩) (some ⟨b, 0, none⟩) pd A L.length c
  obtain ⟨c0, c1, c2, -⟩ := hC W1 (Below.refl _ _)
  have c4 : W1.cell? ⟨a, 0, none⟩ = some (.int .i64 u) := bk_cell ((b1.block a (bk_lt ha)).trans ha) 0
  have c5 : W1.cell? ⟨b, 0, none⟩ = some (.int .i64 e) := bk_cell ((b1.block b (bk_lt hb)).trans hb) 0
  have hS : ∀ W, Kt W1 W → (W.cell? ⟨w.heap.size, 0, none⟩ = some (.pointer (some ⟨a, 0, none⟩)) ∧ W.cell? ⟨w.heap.size, 1, none⟩ = some (.pointer (some ⟨b, 0, none⟩)) ∧ W.cell? ⟨w.heap.size, 2, none⟩ = some (.slice A L.length c) ∧ W.cell? ⟨a, 0, none⟩ = some (.int .i64 u) ∧ W.cell? ⟨b, 0, none⟩ = some (.int .i64 e)) ∧ Kt W1 W := fun W h => by
    obtain ⟨d0, d1, d2, -⟩ := hC W h.bel
    exact ⟨⟨d0, d1, d2, bk_cell ((h.bel.block a (Nat.lt_of_lt_of_le (bk_lt ha) b1.size)).trans ((b1.block a (bk_lt ha)).trans ha)) 0, bk_cell ((h.bel.block b (Nat.lt_of_lt_of_le (bk_lt hb) b1.size)).trans ((b1.block b (bk_lt hb)).trans hb)) 0⟩, h⟩
  have HK := Lib.hid hS
  have hKD : Kt W1 W1.drew := ⟨(Below.refl _ W1).drew⟩
  have hnw := fun W (h : Below W1.heap.size W1 W) => new_no A c L u e W ((he.below b1).below h) (by omega) ((hr.keep b1).keep h).low hc hm hk
  have HN := Lib.hid hnw
  have B1 := Lib.hid b1
  have h1 := lkE_lo L u e
  have q2 := fun W => neq_ev W (lkE L u e)
  have q0 := fun op t W x => guard_ev op t W x (lkE L u e)
  have hkb : (lkE L u e != 0) = true := bne_iff_ne.mpr hk
  generalize lkE L u e = K at *
  clear hC b1 ha hb hr hc hm he hn hnw hS
  generalize L.length = N at *
  go_enter Tryz.func13, Tryz.ntmps13
  go_upto_region 1 with fail
  rw [← hW1]
  clear hW1
  go_upto_region 3 with fail
  go_region_held3 (fun W => (W.cell? ⟨w.heap.size, 0, none⟩ = some (.pointer (some ⟨a, 0, none⟩)) ∧ W.cell? ⟨w.heap.size, 1, none⟩ = some (.pointer (some ⟨b, 0, none⟩)) ∧ W.cell? ⟨w.heap.size, 2, none⟩ = some (.slice A N c) ∧ W.cell? ⟨a, 0, none⟩ = some (.int .i64 u) ∧ W.cell? ⟨b, 0, none⟩ = some (.int .i64 e)) ∧ Kt W1 W)
    (exact HK.out _ (by assumption))
    (first
      | (go_at_call 26; go_split_ands; refine (HN.out _ (Kt.bel (by assumption))).mono ?_; rintro x w3 ⟨rfl, hb3⟩; have hk3 : Kt W1 w3 := ⟨Below.trans (Kt.bel (by assumption)) (hb3.mono (Kt.bel (W1 := W1) (by assumption)).size)⟩))
  all_goals
    have hB := Kt.bel (W1 := W1) (by assumption)
    have HB9 := Lib.hid (B1.out.trans (hB.mono B1.out.size))
    clear hB
    go_wp2
    go_ret2
    exact ⟨rfl, HB9.out⟩

theorem Tb.le {lo lo' : Nat} {w : World} {g : Nat} {L : List Rw} {u e : Int} (h : Tb lo w g L u e) (hl : lo' ≤ lo) : Tb lo' w g L u e := by
  obtain ⟨h0, A, c, h1, h2, h3, h4⟩ := h
  exact ⟨Nat.le_trans hl h0, A, c, h1, h2, h3, fun b off e => Nat.le_trans hl (h4 b off e)⟩
theorem Kt.step {W1 W W' : World} (h : Kt W1 W) (hb : Below W.heap.size W W') : Kt W1 W' := ⟨h.bel.trans (hb.mono h.bel.size)⟩
set_option maxRecDepth 100000 in
set_option maxHeartbeats 4000000 in
theorem table_right (a b : Nat) (A : Option Addr) (c : Nat) (L : List Rw) (u e : Int) (w : World) (ha : Bi w a u) (hb : Bi w b e) (hr : Rp w.heap.size w A L) (hA : A = none → c = 0 ∧ L = []) (hc : L.length ≤ c) (hm : c ≤ maxLen) (he : Ends w) (ht : Tab w) (hp : Eps w) (hs : Start w) (hk : lkE L u e = 0) :
    Calls Tryz.prog 13 #[.agg #[.pointer (some ⟨a, 0, none⟩), .pointer (some ⟨b, 0, none⟩), .slice A L.length c, .pointer none]] w fun x w' => ∃ g, x = .returned (.tuple #[.pointer (some ⟨g, 0, none⟩), ev 0]) ∧ Tb w.heap.size w' g L u e ∧ Below w.heap.size w w' := by
  obtain ⟨W1, hW1, b1, hC⟩ := list_box w (some ⟨a, 0, none⟩) (some ⟨b, 0, none⟩) none A L.length c
  obtain ⟨c0, c1, c2, c3⟩ := hC W1 (Below.refl _ _)
  have c4 : W1.cell? ⟨a, 0, none⟩ = some (.int .i64 u) := bk_cell ((b1.block a (bk_lt ha)).trans ha) 0
  have c5 : W1.cell? ⟨b, 0, none⟩ = some (.int .i64 e) := bk_cell ((b1.block b (bk_lt hb)).trans hb) 0
  have hS : ∀ W, Kt W1 W → (W.cell? ⟨w.heap.size, 0, none⟩ = some (.pointer (some ⟨a, 0, none⟩)) ∧ W.cell? ⟨w.heap.size, 1, none⟩ = some (.pointer (some ⟨b, 0, none⟩)) ∧ W.cell? ⟨w.heap.size, 2, none⟩ = some (.slice A L.length c) ∧ W.cell? ⟨a, 0, none⟩ = some (.int .i64 u) ∧ W.cell? ⟨b, 0, none⟩ = some (.int .i64 e)) ∧ Kt W1 W := fun W h => by
    obtain ⟨d0, d1, d2, -⟩ := hC W h.bel
    exact ⟨⟨d0, d1, d2, bk_cell ((h.bel.block a (Nat.lt_of_lt_of_le (bk_lt ha) b1.size)).trans ((b1.block a (bk_lt ha)).trans ha)) 0, bk_cell ((h.bel.block b (Nat.lt_of_lt_of_le (bk_lt hb) b1.size)).trans ((b1.block b (bk_lt hb)).trans hb)) 0⟩, h⟩
  have HK := Lib.hid hS
  have hp3 : ∀ W, Kt W1 W → W.cell? ⟨w.heap.size, 3, none⟩ = some (.pointer none) := fun W h => (hC W h.bel).2.2.2
  have HP3 := Lib.hid hp3
  have hKD : Kt W1 W1.drew := ⟨(Below.refl _ W1).drew⟩
  have hR := rows11_of hk
  have hnw : ∀ W, Kt W1 W → Calls Tryz.prog 26 #[.slice A L.length c, .int .i64 u, .int .i64 e] W fun x w' => ∃ g, x = .returned (.tuple #[.pointer (some ⟨g, 0, none⟩), .nilIface]) ∧ Kt W1 w' ∧ Tb w.heap.size w' g L u e := fun W h =>
    (new_some A c L u e W ((he.below b1).below h.bel) (by have := hR.hn; omega) ((hr.keep b1).keep h.bel).low hA hc hm hk).mono fun x w' ⟨g, k1, k2, k3⟩ => ⟨g, k1, h.step k2, k3.le (Nat.le_trans b1.size h.bel.size)⟩
  have hdi : ∀ W g, Kt W1 W → Tb w.heap.size W g L u e → Calls Tryz.prog 27 #[.pointer (some ⟨g, 0, none⟩)] W fun x w' => x = .returned (.tuple #[.agg (bc (byt (dig (dgT L u e)))).toArray, .nilIface]) ∧ Below W.heap.size W w' := fun W g h hT =>
    digest11_any hT hR ((ht.below b1).below h.bel) ((hp.below b1).below h.bel) ((hs.below b1).below h.bel)
  have BL := Lib.hid (show (byt (dig (dgT L u e))).length = 20 from byt_len _)
  generalize byt (dig (dgT L u e)) = V at *
  have HN := Lib.hid hnw; have HD := Lib.hid hdi
  have B1 := Lib.hid b1
  clear hC b1 ha hb hr hc hm he ht hp hs hnw hdi hS hR hk hA hp3
  obtain ⟨TB, hTB⟩ : ∃ TB : World → Nat → Prop, TB = fun W g => Tb w.heap.size W g L u e := ⟨_, rfl⟩
  have HN' : Hid (∀ W, Kt W1 W → Calls Tryz.prog 26 #[.slice A L.length c, .int .i64 u, .int .i64 e] W fun x w' => ∃ g, x = .returned (.tuple #[.pointer (some ⟨g, 0, none⟩), .nilIface]) ∧ Kt W1 w' ∧ TB w' g) := by subst hTB; exact HN
  have HD' : Hid (∀ W g, Kt W1 W → TB W g → Calls Tryz.prog 27 #[.pointer (some ⟨g, 0, none⟩)] W fun x w' => x = .returned (.tuple #[.agg (bc V).toArray, .nilIface]) ∧ Below W.heap.size W w') := by subst hTB; exact HD
  have HT := Lib.hid (show ∀ W W' g, TB W g → Below W.heap.size W W' → TB W' g from fun W W' g h hb => by subst hTB; exact Tb.below h hb)
  have HE := Lib.hid (show ∀ W g, TB W g → Tb w.heap.size W g L u e from fun W g h => by subst hTB; exact h)
  clear hTB HN HD
  generalize L.length = N at *
  go_enter Tryz.func13, Tryz.ntmps13
  go_upto_region 1 with fail
  rw [← hW1]
  clear hW1
  go_upto_region 3 with fail
  go_region_held3 (fun W => (W.cell? ⟨w.heap.size, 0, none⟩ = some (.pointer (some ⟨a, 0, none⟩)) ∧ W.cell? ⟨w.heap.size, 1, none⟩ = some (.pointer (some ⟨b, 0, none⟩)) ∧ W.cell? ⟨w.heap.size, 2, none⟩ = some (.slice A N c) ∧ W.cell? ⟨a, 0, none⟩ = some (.int .i64 u) ∧ W.cell? ⟨b, 0, none⟩ = some (.int .i64 e)) ∧ Kt W1 W)
    (exact HK.out _ (by assumption))
    (first
      | (go_at_call 26; go_split_ands; refine (HN'.out _ (by assumption)).mono ?_; rintro x w3 ⟨g, rfl, hk3, ht3⟩))
  all_goals
    have T3 := Lib.hid ht3
    have K3 := Lib.hid hk3
    clear ht3 hk3
    go_upto_region 7 with (first
      | (go_at_call 27; refine (HD'.out _ _ K3.out T3.out).mono ?_; rintro x w4 ⟨rfl, hb⟩; have K4 := Lib.hid (K3.out.step hb); have T4 := Lib.hid (HT.out _ _ _ T3.out hb); have Z4 := Lib.hid (show Bt 74 (w4.alloc (.cells z20 74)) w4.heap.size (List.replicate 20 0) from heap_alloc_new w4 _); clear hb)
      | (refine wpList_store_row rfl 74 (.tmp 6) (.tmp 36) rfl w4.heap.size (bc V).toArray rfl rfl 74 (bc (List.replicate 20 0)).toArray Z4.out (by rw [dsize, List.size_toArray, bc_len, BL.out]) (by rw [List.size_toArray, List.size_toArray, bc_len, bc_len, BL.out]; rfl) (bc_all _) ?_))
    have hb5 : Below w4.heap.size w4 ((w4.alloc (.cells z20 74)).setRow w4.heap.size (bc V).toArray) := below_setRow ((Below.refl _ w4).alloc (Nat.le_refl _) _) (Nat.le_refl _) _
    have k5 := K4.out.step hb5
    have t5 := HT.out _ _ _ T4.out hb5
    clear hb5 Z4
    generalize (w4.alloc (.cells z20 74)).setRow w4.heap.size (bc V).toArray = W5 at *
    have K5 := Lib.hid k5
    have c6 := HP3.out _ k5
    have HO := Lib.hid (And.intro (HE.out _ _ t5) (B1.out.trans (k5.bel.mono B1.out.size)))
    clear k5 t5
    go_upto_region 9 with fail
    go_quiet (fail)
    go_wp2
    go_ret2
    exact ⟨_, rfl, HO.out.1.below (below_dn7 (Below.refl _ _) _), below_dn7 HO.out.2 _⟩

end Go.Proofs.YtdonicaiimeleaaGreatDoor

namespace Go.Proofs.YtdonicaiimeleaaGreatDoor
open Go.RowKit Go.WideShapes Go.ChangeShapes
set_option linter.unusedVariables false
set_option linter.unusedSimpArgs false

theorem quiet_load_row {P : Program} {C : World → Prop} {K : Act → Prop} {o : Oper} {a : Act} (ty : TypeId) (x : Operand) (ho : o.op = .load ty x) (g : Nat) (hx : a.eval x = .pointer (some ⟨g, 0, none⟩)) (t : TypeId) (cs : Array Value) (fr : Nat × Nat) (d : TypeDesc)
    (hg : ∀ w, C w → w.heap[g]? = some (.cells cs t fr)) (hu : P.underlying ty = some d) (hd : (match d with | .struct _ | .array _ _ => true | _ => false) = true) (hi : (P.info? ty).map (·.size) = some cs.size)
    (h : K (a.put o.dst (.agg cs))) : o.quiet P a C K :=
  ⟨_, fun w hw => by
    unfold Oper.quietAt execOp
    simp only [ho, hx, Instr.loadAt, Instr.sureAddr, Sem.run_bind, Sem.run_pure, Result.andThen_ok, run_loadVar_row w g t ty cs fr d (hg w hw) hu hd hi]
    exact ⟨rfl, rfl⟩, h⟩
set_option maxRecDepth 100000 in
set_option maxHeartbeats 8000000 in
theorem table_sum (a b d : Nat) (D : List UInt8) (hDl : D.length = 20) (A : Option Addr) (c : Nat) (L : List Rw) (u e : Int) (w : World) (ha : Bi w a u) (hb : Bi w b e) (hd : Bt 74 w d D) (hr : Rp w.heap.size w A L) (hA : A = none → c = 0 ∧ L = []) (hc : L.length ≤ c) (hm : c ≤ maxLen) (he : Ends w) (ht : Tab w) (hp : Eps w) (hs : Start w) (hk : lkE L u e = 0) :
    Calls Tryz.prog 13 #[.agg #[.pointer (some ⟨a, 0, none⟩), .pointer (some ⟨b, 0, none⟩), .slice A L.length c, .pointer (some ⟨d, 0, none⟩)]] w fun x w' => ((D = byt (dig (dgT L u e)) ∧ ∃ g, x = .returned (.tuple #[.pointer (some ⟨g, 0, none⟩), ev 0]) ∧ Tb w.heap.size w' g L u e) ∨ (D ≠ byt (dig (dgT L u e)) ∧ x = .returned (.tuple #[.pointer none, ev 7]))) ∧ Below w.heap.size w w' := by
  obtain ⟨W1, hW1, b1, hC⟩ := list_box w (some ⟨a, 0, none⟩) (some ⟨b, 0, none⟩) (some ⟨d, 0, none⟩) A L.length c
  obtain ⟨c0, c1, c2, c3⟩ := hC W1 (Below.refl _ _)
  have c4 : W1.cell? ⟨a, 0, none⟩ = some (.int .i64 u) := bk_cell ((b1.block a (bk_lt ha)).trans ha) 0
  have c5 : W1.cell? ⟨b, 0, none⟩ = some (.int .i64 e) := bk_cell ((b1.block b (bk_lt hb)).trans hb) 0
  have hS : ∀ W, Kt W1 W → (W.cell? ⟨w.heap.size, 0, none⟩ = some (.pointer (some ⟨a, 0, none⟩)) ∧ W.cell? ⟨w.heap.size, 1, none⟩ = some (.pointer (some ⟨b, 0, none⟩)) ∧ W.cell? ⟨w.heap.size, 2, none⟩ = some (.slice A L.length c) ∧ W.cell? ⟨a, 0, none⟩ = some (.int .i64 u) ∧ W.cell? ⟨b, 0, none⟩ = some (.int .i64 e)) ∧ Kt W1 W := fun W h => by
    obtain ⟨d0, d1, d2, -⟩ := hC W h.bel
    exact ⟨⟨d0, d1, d2, bk_cell ((h.bel.block a (Nat.lt_of_lt_of_le (bk_lt ha) b1.size)).trans ((b1.block a (bk_lt ha)).trans ha)) 0, bk_cell ((h.bel.block b (Nat.lt_of_lt_of_le (bk_lt hb) b1.size)).trans ((b1.block b (bk_lt hb)).trans hb)) 0⟩, h⟩
  have HK := Lib.hid hS
  have hp3 : ∀ W, Kt W1 W → W.cell? ⟨w.heap.size, 3, none⟩ = some (.pointer (some ⟨d, 0, none⟩)) ∧ Bt 74 W d D := fun W h => ⟨(hC W h.bel).2.2.2, ((hd.below b1 hd.lt).below h.bel (Nat.lt_of_lt_of_le hd.lt b1.size))⟩
  have HP3 := Lib.hid hp3
  have hKD : Kt W1 W1.drew := ⟨(Below.refl _ W1).drew⟩
  have hR := rows11_of hk
  have hnw : ∀ W, Kt W1 W → Calls Tryz.prog 26 #[.slice A L.length c, .int .i64 u, .int .i64 e] W fun x w' => ∃ g, x = .returned (.tuple #[.pointer (some ⟨g, 0, none⟩), .nilIface]) ∧ Kt W1 w' ∧ Tb w.heap.size w' g L u e := fun W h =>
    (new_some A c L u e W ((he.below b1).below h.bel) (by have := hR.hn; omega) ((hr.keep b1).keep h.bel).low hA hc hm hk).mono fun x w' ⟨g, k1, k2, k3⟩ => ⟨g, k1, h.step k2, k3.le (Nat.le_trans b1.size h.bel.size)⟩
  have hdi : ∀ W g, Kt W1 W → Tb w.heap.size W g L u e → Calls Tryz.prog 27 #[.pointer (some ⟨g, 0, none⟩)] W fun x w' => x = .returned (.tuple #[.agg (bc (byt (dig (dgT L u e)))).toArray, .nilIface]) ∧ Below W.heap.size W w' := fun W g h hT =>
    digest11_any hT hR ((ht.below b1).below h.bel) ((hp.below b1).below h.bel) ((hs.below b1).below h.bel)
  have hq := fun W => eq_digs D (byt (dig (dgT L u e))) hDl (byt_len _) W
  have HDL := Lib.hid hDl
  have BL := Lib.hid (show (byt (dig (dgT L u e))).length = 20 from byt_len _)
  generalize byt (dig (dgT L u e)) = V at *
  have HN := Lib.hid hnw; have HD := Lib.hid hdi
  have B1 := Lib.hid b1
  have HQ := Lib.hid hq
  clear hq hDl hd hC b1 ha hb hr hc hm he ht hp hs hnw hdi hS hR hk hA hp3
  obtain ⟨TB, hTB⟩ : ∃ TB : World → Nat → Prop, TB = fun W g => Tb w.heap.size W g L u e := ⟨_, rfl⟩
  have HN' : Hid (∀ W, Kt W1 W → Calls Tryz.prog 26 #[.slice A L.length c, .int .i64 u, .int .i64 e] W fun x w' => ∃ g, x = .returned (.tuple #[.pointer (some ⟨g, 0, none⟩), .nilIface]) ∧ Kt W1 w' ∧ TB w' g) := by subst hTB; exact HN
  have HD' : Hid (∀ W g, Kt W1 W → TB W g → Calls Tryz.prog 27 #[.pointer (some ⟨g, 0, none⟩)] W fun x w' => x = .returned (.tuple #[.agg (bc V).toArray, .nilIface]) ∧ Below W.heap.size W w') := by subst hTB; exact HD
  have HT := Lib.hid (show ∀ W W' g, TB W g → Below W.heap.size W W' → TB W' g from fun W W' g h hb => by subst hTB; exact Tb.below h hb)
  have HE := Lib.hid (show ∀ W g, TB W g → Tb w.heap.size W g L u e from fun W g h => by subst hTB; exact h)
  clear hTB HN HD
  generalize L.length = N at *
  go_enter Tryz.func13, Tryz.ntmps13
  go_upto_region 1 with fail
  rw [← hW1]
  clear hW1
  go_upto_region 3 with fail
  go_region_held3 (fun W => (W.cell? ⟨w.heap.size, 0, none⟩ = some (.pointer (some ⟨a, 0, none⟩)) ∧ W.cell? ⟨w.heap.size, 1, none⟩ = some (.pointer (some ⟨b, 0, none⟩)) ∧ W.cell? ⟨w.heap.size, 2, none⟩ = some (.slice A N c) ∧ W.cell? ⟨a, 0, none⟩ = some (.int .i64 u) ∧ W.cell? ⟨b, 0, none⟩ = some (.int .i64 e)) ∧ Kt W1 W)
    (exact HK.out _ (by assumption))
    (first
      | (go_at_call 26; go_split_ands; refine (HN'.out _ (by assumption)).mono ?_; rintro x w3 ⟨g, rfl, hk3, ht3⟩))
  all_goals
    have T3 := Lib.hid ht3
    have K3 := Lib.hid hk3
    clear ht3 hk3
    go_upto_region 7 with (first
      | (go_at_call 27; refine (HD'.out _ _ K3.out T3.out).mono ?_; rintro x w4 ⟨rfl, hb⟩; have K4 := Lib.hid (K3.out.step hb); have T4 := Lib.hid (HT.out _ _ _ T3.out hb); have Z4 := Lib.hid (show Bt 74 (w4.alloc (.cells z20 74)) w4.heap.size (List.replicate 20 0) from heap_alloc_new w4 _); clear hb)
      | (refine wpList_store_row rfl 74 (.tmp 6) (.tmp 36) rfl w4.heap.size (bc V).toArray rfl rfl 74 (bc (List.replicate 20 0)).toArray Z4.out (by rw [dsize, List.size_toArray, bc_len, BL.out]) (by rw [List.size_toArray, List.size_toArray, bc_len, bc_len, BL.out]; rfl) (bc_all _) ?_))
    have hb5 : Below w4.heap.size w4 ((w4.alloc (.cells z20 74)).setRow w4.heap.size (bc V).toArray) := below_setRow ((Below.refl _ w4).alloc (Nat.le_refl _) _) (Nat.le_refl _) _
    have k5 := K4.out.step hb5
    have t5 := HT.out _ _ _ T4.out hb5
    have Z4' := Z4
    clear hb5 Z4
    have z5 : Bt 74 ((w4.alloc (.cells z20 74)).setRow w4.heap.size (bc V).toArray) w4.heap.size V := Z4'.out.set V
    clear Z4'
    generalize (w4.alloc (.cells z20 74)).setRow w4.heap.size (bc V).toArray = W5 at *
    have K5 := Lib.hid k5
    obtain ⟨c6, z6⟩ := HP3.out _ k5
    have Z6 := Lib.hid z6
    have Z5 := Lib.hid z5
    have HO := Lib.hid (And.intro (HE.out _ _ t5) (B1.out.trans (k5.bel.mono B1.out.size)))
    clear k5 t5 z6 z5
    have hq := HQ.out
    clear K4 T4 T3 K3 HN' HD' HT HE HP3 HK hKD
    obtain ⟨bq, hbq⟩ : ∃ bq, bq = decide (D = V) := ⟨_, rfl⟩
    have hq' : ∀ W, (Op.equalIn 10000 74 (.agg (bc D).toArray) (.agg (bc V).toArray)).run Tryz.prog W = .ok bq W := by rw [hbq]; exact hq
    have HBQ := Lib.hid hbq
    clear hq hbq HQ
    go_upto_region 9 with fail
    refine wp_region_quiet_lit (by kernel_rfl) (by kernel_rfl) ?_
    iterate 7 (first | go_big_quiet_skip | (go_big_quiet_want; go_big_quiet_op; go_big_quiet_on))
    go_big_quiet_want
    refine quiet_load_row 74 (.tmp 47) rfl d rfl 74 (bc D).toArray (0, 0) _ (by rintro _ ⟨n, rfl⟩; exact Z6.out) dund rfl (by rw [dsize, List.size_toArray, bc_len, HDL.out]) ?_
    go_simp
    go_big_quiet_on
    go_big_quiet_want
    refine quiet_load_row 74 (.tmp 6) rfl w4.heap.size rfl 74 (bc V).toArray (0, 0) _ (by rintro _ ⟨n, rfl⟩; exact Z5.out) dund rfl (by rw [dsize, List.size_toArray, bc_len, BL.out]) ?_
    go_simp
    go_big_quiet_on
    iterate 2 (first | go_big_quiet_skip | (go_big_quiet_want; go_big_quiet_op; go_big_quiet_on))
    refine wpQuiet_nil ?_
    intro w9 hw9
    obtain ⟨nq, hw9⟩ := hw9
    subst hw9
    have hT9 := HO.out.1.below (below_dn7 (Below.refl _ _) nq)
    have hB9 := below_dn7 HO.out.2 nq
    have HT9 := Lib.hid hT9; have HB9 := Lib.hid hB9
    clear hT9 hB9 HO
    cases bq with
    | true =>
      go_wp2
      go_ret2
      exact ⟨.inl ⟨of_decide_eq_true HBQ.out.symm, _, rfl, HT9.out⟩, HB9.out⟩
    | false =>
      go_wp2
      go_ret2
      exact ⟨.inr ⟨of_decide_eq_false HBQ.out.symm, rfl⟩, HB9.out⟩

end Go.Proofs.YtdonicaiimeleaaGreatDoor
