/- Merged: LeapS, ListBD, Sent, Tabs. -/
import Derived.Test.YtdonicaiimeleaaGreatDoorGListParses49
import Derived.Test.YtdonicaiimeleaaGreatDoorGListParses51
import Derived.Test.YtdonicaiimeleaaGreatDoorGListParses28
import Derived.Stop.LaidErr
import Derived.Test.YtdonicaiimeleaaGreatDoorGListParses1
namespace Go.Proofs.YtdonicaiimeleaaGreatDoor
open Go.RowKit
set_option linter.unusedVariables false
set_option linter.unusedSimpArgs false

set_option maxRecDepth 100000 in
set_option maxHeartbeats 4000000 in
theorem is10_any {lo : Nat} (g : Nat) (A : Option Addr) (c : Nat) (L : List Rw) (u e : Int) (w : World) (ht : Tb lo w g L u e) (hr : Rp w.heap.size w A L) (hL : L.length ≤ 256) :
    Calls Tryz.prog 10 #[.pointer (some ⟨g, 0, none⟩), .agg #[.slice A L.length c, .int .i64 u, .int .i64 e]] w fun x w' => x = .returned (.bool true) ∧ Below w.heap.size w w' := by
  obtain ⟨W1, hW1, b1, hlt, hD⟩ := doc_box w A L.length c u e
  have hS : ∀ W, Kb W1 W → W.cell? ⟨w.heap.size, 0, none⟩ = some (.slice A L.length c) ∧ W.cell? ⟨w.heap.size, 1, none⟩ = some (.int .i64 u) ∧ W.cell? ⟨w.heap.size, 2, none⟩ = some (.int .i64 e) ∧ Kb W1 W := fun W h => ⟨(hD W h.bel).1, (hD W h.bel).2.1, (hD W h.bel).2.2, h⟩
  have ht1 := ht.below b1
  have hr1 := (hr.keep b1).low
  have hro : ∀ W, Kb W1 W → Calls Tryz.prog 20 #[.pointer (some ⟨g, 0, none⟩)] W fun x w' => ∃ A9 c9, x = .returned (.slice A9 L.length c9) ∧ Rp w'.heap.size w' A9 L ∧ Kb W1 w' := fun W h => (rows_any (ht1.below h.bel).v (by omega)).mono fun e w' ⟨v, he, hv, hb⟩ => by
    obtain ⟨A9, c9, rfl, hR, -⟩ := hv.reads
    exact ⟨A9, c9, he, hR, h.step hb⟩
  have hup : ∀ W, Kb W1 W → Calls Tryz.prog 21 #[.pointer (some ⟨g, 0, none⟩)] W fun x w' => x = .returned (.int .i64 u) ∧ W = w' := fun W h => updated_any (ht1.below h.bel).v
  have hex : ∀ W, Kb W1 W → Calls Tryz.prog 22 #[.pointer (some ⟨g, 0, none⟩)] W fun x w' => x = .returned (.int .i64 e) ∧ W = w' := fun W h => expires_any (ht1.below h.bel).v
  have hdo : ∀ (A9 : Option Addr) (c9 : Nat) W, Kb W1 W → Rp W.heap.size W A9 L → Calls Tryz.prog 19 #[.agg #[.slice A9 L.length c9, .int .i64 u, .int .i64 e]] W fun x w' => ∃ A8 c8, x = .returned (.agg #[.slice A8 L.length c8, .int .i64 u, .int .i64 e]) ∧ Rp w'.heap.size w' A8 L ∧ Kb W1 w' := fun A9 c9 W h hr9 => (document_any A9 c9 L u e W hr9 (by omega)).mono fun x w' ⟨A8, c8, h1, h2, h3, h4, h5⟩ => ⟨A8, c8, h1, h2, h.step h5⟩
  have hsa : ∀ (A8 : Option Addr) (c8 : Nat) W, Kb W1 W → Rp W.heap.size W A8 L → Calls Tryz.prog 18 #[.agg #[.slice A8 L.length c8, .int .i64 u, .int .i64 e], .agg #[.slice A L.length c, .int .i64 u, .int .i64 e]] W fun x w' => x = .returned (.bool true) ∧ Kb W1 w' := fun A8 c8 W h hr8 => (rsame_any A8 A c8 c L L u e u e W hr8 ((hr1.keep h.bel).low) (by omega) (by omega)).mono fun _ _ k => ⟨by rw [k.1, smB_self], h.step k.2⟩
  have HRo := Lib.hid hro; have HUp := Lib.hid hup; have HEx := Lib.hid hex; have HDo := Lib.hid hdo; have HSa := Lib.hid hsa
  have HK := Lib.hid hS
  have HB := Lib.hid b1
  obtain ⟨d0, d1, d2⟩ := hD W1 (Below.refl _ _)
  have hKD : Kb W1 W1.drew := ⟨(Below.refl _ W1).drew⟩
  generalize L.length = N at *
  clear hro hup hex hdo hsa hS ht1 hr1 hD b1 ht hr hlt hL
  go_enter Tryz.func10, Tryz.ntmps10
  go_upto_region 1 with fail
  rw [← hW1]
  clear hW1
  go_region_held3 (fun W => W.cell? ⟨w.heap.size, 0, none⟩ = some (.slice A N c) ∧ W.cell? ⟨w.heap.size, 1, none⟩ = some (.int .i64 u) ∧ W.cell? ⟨w.heap.size, 2, none⟩ = some (.int .i64 e) ∧ Kb W1 W)
    (exact HK.out _ (by assumption))
    (first
      | (go_at_call 20; go_split_ands; refine (HRo.out _ (by assumption)).mono ?_; rintro e w2 ⟨A9, c9, rfl, hr9, hk2⟩; have R9 := Lib.hid hr9; clear hr9)
      | (go_at_call 21; go_split_ands; refine (HUp.out _ (by assumption)).mono ?_; rintro e w' ⟨rfl, rfl⟩)
      | (go_at_call 22; go_split_ands; refine (HEx.out _ (by assumption)).mono ?_; rintro e w' ⟨rfl, rfl⟩)
      | (go_at_call 19; go_split_ands; refine (HDo.out _ _ _ hk2 R9.out).mono ?_; rintro e w3 ⟨A8, c8, rfl, hr8, hk3⟩; have R8 := Lib.hid hr8; clear hr8)
      | (go_at_call 18; go_split_ands; refine (HSa.out _ _ _ hk3 R8.out).mono ?_; rintro e w4 ⟨rfl, hk4⟩))
  all_goals
    have hB := Kb.bel (W0 := W1) (by assumption)
    have HB9 := Lib.hid (HB.out.trans (hB.mono HB.out.size))
    clear hB
    go_wp2_with fail
    go_ret
    exact ⟨rfl, HB9.out⟩

end Go.Proofs.YtdonicaiimeleaaGreatDoor

namespace Go.Proofs.YtdonicaiimeleaaGreatDoor
open Go.RowKit Go.WideShapes Go.ChangeShapes
set_option linter.unusedVariables false
set_option linter.unusedSimpArgs false

theorem wh_lo11b (l : List UInt8) (a b : Int) (lim : Nat) : 0 ≤ whE l a b lim ∧ whE l a b lim < 100 := by
  have h := tkE_cases l a b lim
  unfold whE
  repeat' split
  all_goals omega
theorem on_lo2 (r : Rd11) (l : List UInt8) : 0 ≤ on11 r l ∧ on11 r l < 100 := by
  have h1 : ∀ x, 0 ≤ tiE x ∧ tiE x < 100 := fun x => by
    unfold tiE
    split
    · exact wh_lo11b _ _ _ _
    · decide
  have h2 : ∀ x m, 0 ≤ twE (tiE x) m ∧ twE (tiE x) m < 100 := fun x m => by
    have := h1 x
    unfold twE
    repeat' split
    all_goals omega
  have h3 : ∀ x, 0 ≤ suE x ∧ suE x < 100 := fun x => by unfold suE; split <;> decide
  have h4 : 0 ≤ rwE l ∧ rwE l < 100 := by unfold rwE; repeat' split <;> try decide
  unfold on11
  repeat' split
  all_goals first | exact h2 _ _ | exact h3 _ | exact h4 | decide
theorem go_lo2 : ∀ (ls : List (List UInt8)) (r : Rd11), 0 ≤ (go11 ls r).1 ∧ (go11 ls r).1 < 100
  | [], r => ⟨Int.le_refl _, by show (0 : Int) < 100; decide⟩
  | x :: xs, r => by
    rw [go11]
    split
    · exact go_lo2 xs _
    · exact on_lo2 r x

theorem pZ_lo (l : List UInt8) : 0 ≤ pZ11 l ∧ pZ11 l < 100 := by
  by_cases hE : aE11 l = 0
  · rw [(pz_yes hE).1]; exact paE11_lo _
  · rw [pz_no hE]
    unfold aE11
    split
    · exact go_lo2 _ _
    · decide

set_option maxRecDepth 100000 in
set_option maxHeartbeats 4000000 in
theorem parses11_mid (t : ByteArray) (w : World) (hs : S11 w) (ht : 3000 < t.size) (ht2 : t.size ≤ 65535) :
    Calls Tryz.prog 3 #[.string t] w fun x w' => x = .returned (.bool true) ∧ Below w.heap.size w w' := by
  have hz1 : (3000 : Int) < (t.size : Int) := by omega
  have hz3 : (t.size : Int) ≤ 65535 := by omega
  have HAl := Lib.hid (fun W hs => alive11_any W hs)
  have B : Hid (Below w.heap.size w w) := Lib.hid (Below.refl _ _)
  have S := Lib.hid hs
  clear hs ht ht2
  go_enter Tryz.func3, Tryz.ntmps3
  go_wp2_with (go_at_call 4; refine (HAl.out _ S.out).mono ?_; rintro e1 w1 ⟨rfl, hb⟩; have B := Lib.hid (B.out.trans (hb.mono B.out.size)); have S := Lib.hid (S.out.below hb); clear hb)
  go_ret
  exact ⟨rfl, B.out⟩

set_option maxRecDepth 100000 in
set_option maxHeartbeats 4000000 in
theorem parses11_far (t : ByteArray) (w : World) (hs : S11 w) (ht : 66000 < t.size) :
    Calls Tryz.prog 3 #[.string t] w fun x w' => x = .returned (.bool true) ∧ Below w.heap.size w w' := by
  have hz1 : (3000 : Int) < (t.size : Int) := by omega
  have hz3 : ¬ (t.size : Int) ≤ 65535 := by omega
  have hz2 : (66000 : Int) < (t.size : Int) := by omega
  have HAl := Lib.hid (fun W hs => alive11_any W hs)
  have B : Hid (Below w.heap.size w w) := Lib.hid (Below.refl _ _)
  have S := Lib.hid hs
  clear hs ht
  go_enter Tryz.func3, Tryz.ntmps3
  go_wp2_with (go_at_call 4; refine (HAl.out _ S.out).mono ?_; rintro e1 w1 ⟨rfl, hb⟩; have B := Lib.hid (B.out.trans (hb.mono B.out.size)); have S := Lib.hid (S.out.below hb); clear hb)
  go_ret
  exact ⟨rfl, B.out⟩

set_option maxRecDepth 100000 in
set_option maxHeartbeats 4000000 in
theorem parses11_no_small (t : ByteArray) (w : World) (hs : S11 w) (ht : t.size ≤ 3000) (hz : pZ11 t.data.toList ≠ 0) :
    Calls Tryz.prog 3 #[.string t] w fun x w' => x = .returned (.bool true) ∧ Below w.heap.size w w' := by
  have q0 := fun op t W x k => guard_ev op t W x k
  have q1 := fun W k => eql_ev W k
  have q2 := fun W k => neq_ev W k
  have hz1 : ¬ (3000 : Int) < (t.size : Int) := by omega
  have hz2 : ¬ (66000 : Int) < (t.size : Int) := by omega
  obtain ⟨n, hn⟩ := FA_ex t.data.toList
  have HAl := Lib.hid (fun W hs => alive11_any W hs)
  have HP := Lib.hid (fun W (h : S11 W) => parse11_no t W h hz)
  have HR := Lib.hid (fun W => rparse_no t W n hn hz)
  have HF := Lib.hid (fun W (h : S11 W) => fault11_n t W h n hn)
  have HA := Lib.hid (fun W => all11_n t W n hn)
  have lo := Lib.hid (pZ_lo t.data.toList)
  have hzb : (pZ11 t.data.toList != 0) = true := bne_iff_ne.mpr hz
  have B : Hid (Below w.heap.size w w) := Lib.hid (Below.refl _ _)
  have S := Lib.hid hs
  clear hs ht hz hn
  generalize pZ11 t.data.toList = Z at *
  generalize aR11 t.data.toList = r at *
  generalize aE11 t.data.toList = E at *
  have fl := fun (A : Option Addr) (c : Nat) (W : World) => (by kernel_rfl : (Instr.field 38 (.agg (rcR A c r n E)) 5).run Tryz.prog W = .ok (.int .i64 n) W)
  go_enter Tryz.func3, Tryz.ntmps3
  go_upto_region 6 with first
    | (go_at_call 4; refine (HAl.out _ S.out).mono ?_; rintro e1 w1 ⟨rfl, hb⟩; have B := Lib.hid (B.out.trans (hb.mono B.out.size)); have S := Lib.hid (S.out.below hb); clear hb)
    | (go_at_call 5; refine (HP.out _ S.out).mono ?_; rintro e2 w2 ⟨rfl, hb⟩; have B := Lib.hid (B.out.trans (hb.mono B.out.size)); have S := Lib.hid (S.out.below hb); clear hb)
  go_upto_region 7 with (go_at_call 6; refine (HR.out _).mono ?_; rintro e3 w3 ⟨rfl, hb⟩; have B := Lib.hid (B.out.trans (hb.mono B.out.size)); have S := Lib.hid (S.out.below hb); clear hb)
  have hb : Below w3.heap.size w3 (w3.alloc (.cells #[.slice none 0 0, .int .i64 0, .int .i64 0] 30)) := (Below.refl _ _).alloc (Nat.le_refl _) _
  have B := Lib.hid (B.out.trans (hb.mono B.out.size))
  have S := Lib.hid (S.out.below hb)
  clear hb
  generalize World.alloc w3 _ = W4 at *
  go_wp2_with first
    | (go_at_call 7; refine (num_any Z _ lo.out.1 lo.out.2).mono ?_; rintro e w' ⟨rfl, rfl⟩)
    | (go_at_call 8; refine (HF.out _ S.out).mono ?_; rintro e5 w5 ⟨rfl, hb⟩; have B := Lib.hid (B.out.trans (hb.mono B.out.size)); have S := Lib.hid (S.out.below hb); clear hb)
    | (go_at_call 9; refine (HA.out _).mono ?_; rintro e6 w6 ⟨A, c, rfl, -, -, -, hb⟩; have B := Lib.hid (B.out.trans (hb.mono B.out.size)); have S := Lib.hid (S.out.below hb); clear hb)
  go_ret
  exact ⟨rfl, B.out⟩

set_option maxRecDepth 100000 in
set_option maxHeartbeats 4000000 in
theorem parses11_yes_small (t : ByteArray) (w : World) (hs : S11 w) (ht : t.size ≤ 3000) (hz : pZ11 t.data.toList = 0) :
    Calls Tryz.prog 3 #[.string t] w fun x w' => x = .returned (.bool true) ∧ Below w.heap.size w w' := by
  have q0 := fun op t W x k => guard_ev op t W x k
  have q1 := fun W k => eql_ev W k
  have q2 := fun W k => neq_ev W k
  have hz1 : ¬ (3000 : Int) < (t.size : Int) := by omega
  have hz2 : ¬ (66000 : Int) < (t.size : Int) := by omega
  obtain ⟨n, hn⟩ := FA_ex t.data.toList
  have HAl := Lib.hid (fun W hs => alive11_any W hs)
  have HP := Lib.hid (fun W (h : S11 W) => parse11_yes t W h hz)
  have HR := Lib.hid (fun W => rparse_yes t W n hn hz)
  have HF := Lib.hid (fun W (h : S11 W) => fault11_n t W h n hn)
  have HA := Lib.hid (fun W => all11_n t W n hn)
  have hk : (rg11 t.data.toList).L.length ≤ 256 := (lkE_zero (paE11_zero (pE11_zero hz).2.2).2.2.1).1.few
  have B : Hid (Below w.heap.size w w) := Lib.hid (Below.refl _ _)
  have S := Lib.hid hs
  clear hs ht hz hn
  generalize rg11 t.data.toList = rr at *
  have HI := Lib.hid (fun (lo g : Nat) (A : Option Addr) (c : Nat) (W : World) (h1 : Tb lo W g rr.L rr.u rr.e) (h2 : Rp W.heap.size W A rr.L) => is10_any g A c rr.L rr.u rr.e W h1 h2 hk)
  clear hk
  generalize aR11 t.data.toList = r at *
  generalize aE11 t.data.toList = E at *
  have fl := fun (A : Option Addr) (c : Nat) (W : World) => (by kernel_rfl : (Instr.field 38 (.agg (rcR A c r n E)) 5).run Tryz.prog W = .ok (.int .i64 n) W)
  go_enter Tryz.func3, Tryz.ntmps3
  go_upto_region 6 with first
    | (go_at_call 4; refine (HAl.out _ S.out).mono ?_; rintro e1 w1 ⟨rfl, hb⟩; have B := Lib.hid (B.out.trans (hb.mono B.out.size)); have S := Lib.hid (S.out.below hb); clear hb)
    | (go_at_call 5; refine (HP.out _ S.out).mono ?_; rintro e2 w2 ⟨g, rfl, hb, ht⟩; have T := Lib.hid ht; have B := Lib.hid (B.out.trans (hb.mono B.out.size)); have S := Lib.hid (S.out.below hb); clear hb ht)
  go_upto_region 7 with (go_at_call 6; refine (HR.out _).mono ?_; rintro e3 w3 ⟨A, c, rfl, hr, hb⟩; have R := Lib.hid hr; have T := Lib.hid (T.out.below hb); have B := Lib.hid (B.out.trans (hb.mono B.out.size)); have S := Lib.hid (S.out.below hb); clear hb hr)
  have hb : Below w3.heap.size w3 (w3.alloc (.cells #[.slice A rr.L.length c, .int .i64 rr.u, .int .i64 rr.e] 30)) := (Below.refl _ _).alloc (Nat.le_refl _) _
  have G := Lib.hid (heap_alloc_new w3 (.cells #[.slice A rr.L.length c, .int .i64 rr.u, .int .i64 rr.e] 30))
  have B := Lib.hid (B.out.trans (hb.mono B.out.size))
  have S := Lib.hid (S.out.below hb)
  have T := Lib.hid (T.out.below hb)
  replace R := Lib.hid (R.out.keep hb).low
  clear hb
  generalize World.alloc w3 _ = W4 at *
  generalize w3.heap.size = g3 at *
  go_upto_region 11 with first
    | (go_at_call 7; refine (num_any 0 _ (by decide) (by decide)).mono ?_; rintro e w' ⟨rfl, rfl⟩)
    | (go_at_call 8; refine (HF.out _ S.out).mono ?_; rintro e5 w5 ⟨rfl, hb⟩; have B := Lib.hid (B.out.trans (hb.mono B.out.size)); have S := Lib.hid (S.out.below hb); have T := Lib.hid (T.out.below hb); have R := Lib.hid (R.out.keep hb).low; have G := Lib.hid ((hb.block _ (bk_lt G.out)).trans G.out);clear hb)
    | (go_at_call 9; refine (HA.out _).mono ?_; rintro e6 w6 ⟨A2, c2, rfl, -, -, -, hb⟩; have B := Lib.hid (B.out.trans (hb.mono B.out.size)); have S := Lib.hid (S.out.below hb); have T := Lib.hid (T.out.below hb); have R := Lib.hid (R.out.keep hb).low; have G := Lib.hid ((hb.block _ (bk_lt G.out)).trans G.out);clear hb)
  have c0 := bk_cell G.out 0; have c1 := bk_cell G.out 1; have c2' := bk_cell G.out 2
  go_wp2_with (go_at_call 10; refine (HI.out _ _ _ _ _ T.out R.out).mono ?_; rintro e7 w7 ⟨rfl, hb⟩; have B := Lib.hid (B.out.trans (hb.mono B.out.size)); clear hb)
  go_ret
  exact ⟨rfl, B.out⟩

set_option maxRecDepth 100000 in
set_option maxHeartbeats 4000000 in
theorem parses11_no_large (t : ByteArray) (w : World) (hs : S11 w) (ht : 65535 < t.size) (ht2 : t.size ≤ 66000) (hz : pZ11 t.data.toList ≠ 0) :
    Calls Tryz.prog 3 #[.string t] w fun x w' => x = .returned (.bool true) ∧ Below w.heap.size w w' := by
  have q0 := fun op t W x k => guard_ev op t W x k
  have q1 := fun W k => eql_ev W k
  have q2 := fun W k => neq_ev W k
  have hz1 : (3000 : Int) < (t.size : Int) := by omega
  have hz3 : ¬ (t.size : Int) ≤ 65535 := by omega
  have hz2 : ¬ (66000 : Int) < (t.size : Int) := by omega
  obtain ⟨n, hn⟩ := FA_ex t.data.toList
  have HAl := Lib.hid (fun W hs => alive11_any W hs)
  have HP := Lib.hid (fun W (h : S11 W) => parse11_no t W h hz)
  have HR := Lib.hid (fun W => rparse_no t W n hn hz)
  have HF := Lib.hid (fun W (h : S11 W) => fault11_n t W h n hn)
  have HA := Lib.hid (fun W => all11_n t W n hn)
  have lo := Lib.hid (pZ_lo t.data.toList)
  have hzb : (pZ11 t.data.toList != 0) = true := bne_iff_ne.mpr hz
  have B : Hid (Below w.heap.size w w) := Lib.hid (Below.refl _ _)
  have S := Lib.hid hs
  clear hs ht ht2 hz hn
  generalize pZ11 t.data.toList = Z at *
  generalize aR11 t.data.toList = r at *
  generalize aE11 t.data.toList = E at *
  have fl := fun (A : Option Addr) (c : Nat) (W : World) => (by kernel_rfl : (Instr.field 38 (.agg (rcR A c r n E)) 5).run Tryz.prog W = .ok (.int .i64 n) W)
  go_enter Tryz.func3, Tryz.ntmps3
  go_upto_region 6 with first
    | (go_at_call 4; refine (HAl.out _ S.out).mono ?_; rintro e1 w1 ⟨rfl, hb⟩; have B := Lib.hid (B.out.trans (hb.mono B.out.size)); have S := Lib.hid (S.out.below hb); clear hb)
    | (go_at_call 5; refine (HP.out _ S.out).mono ?_; rintro e2 w2 ⟨rfl, hb⟩; have B := Lib.hid (B.out.trans (hb.mono B.out.size)); have S := Lib.hid (S.out.below hb); clear hb)
  go_upto_region 7 with (go_at_call 6; refine (HR.out _).mono ?_; rintro e3 w3 ⟨rfl, hb⟩; have B := Lib.hid (B.out.trans (hb.mono B.out.size)); have S := Lib.hid (S.out.below hb); clear hb)
  have hb : Below w3.heap.size w3 (w3.alloc (.cells #[.slice none 0 0, .int .i64 0, .int .i64 0] 30)) := (Below.refl _ _).alloc (Nat.le_refl _) _
  have B := Lib.hid (B.out.trans (hb.mono B.out.size))
  have S := Lib.hid (S.out.below hb)
  clear hb
  generalize World.alloc w3 _ = W4 at *
  go_wp2_with first
    | (go_at_call 7; refine (num_any Z _ lo.out.1 lo.out.2).mono ?_; rintro e w' ⟨rfl, rfl⟩)
    | (go_at_call 8; refine (HF.out _ S.out).mono ?_; rintro e5 w5 ⟨rfl, hb⟩; have B := Lib.hid (B.out.trans (hb.mono B.out.size)); have S := Lib.hid (S.out.below hb); clear hb)
    | (go_at_call 9; refine (HA.out _).mono ?_; rintro e6 w6 ⟨A, c, rfl, -, -, -, hb⟩; have B := Lib.hid (B.out.trans (hb.mono B.out.size)); have S := Lib.hid (S.out.below hb); clear hb)
  go_ret
  exact ⟨rfl, B.out⟩

set_option maxRecDepth 100000 in
set_option maxHeartbeats 4000000 in
theorem parses11_yes_large (t : ByteArray) (w : World) (hs : S11 w) (ht : 65535 < t.size) (ht2 : t.size ≤ 66000) (hz : pZ11 t.data.toList = 0) :
    Calls Tryz.prog 3 #[.string t] w fun x w' => x = .returned (.bool true) ∧ Below w.heap.size w w' := by
  have q0 := fun op t W x k => guard_ev op t W x k
  have q1 := fun W k => eql_ev W k
  have q2 := fun W k => neq_ev W k
  have hz1 : (3000 : Int) < (t.size : Int) := by omega
  have hz3 : ¬ (t.size : Int) ≤ 65535 := by omega
  have hz2 : ¬ (66000 : Int) < (t.size : Int) := by omega
  obtain ⟨n, hn⟩ := FA_ex t.data.toList
  have HAl := Lib.hid (fun W hs => alive11_any W hs)
  have HP := Lib.hid (fun W (h : S11 W) => parse11_yes t W h hz)
  have HR := Lib.hid (fun W => rparse_yes t W n hn hz)
  have HF := Lib.hid (fun W (h : S11 W) => fault11_n t W h n hn)
  have HA := Lib.hid (fun W => all11_n t W n hn)
  have hk : (rg11 t.data.toList).L.length ≤ 256 := (lkE_zero (paE11_zero (pE11_zero hz).2.2).2.2.1).1.few
  have B : Hid (Below w.heap.size w w) := Lib.hid (Below.refl _ _)
  have S := Lib.hid hs
  clear hs ht ht2 hz hn
  generalize rg11 t.data.toList = rr at *
  have HI := Lib.hid (fun (lo g : Nat) (A : Option Addr) (c : Nat) (W : World) (h1 : Tb lo W g rr.L rr.u rr.e) (h2 : Rp W.heap.size W A rr.L) => is10_any g A c rr.L rr.u rr.e W h1 h2 hk)
  clear hk
  generalize aR11 t.data.toList = r at *
  generalize aE11 t.data.toList = E at *
  have fl := fun (A : Option Addr) (c : Nat) (W : World) => (by kernel_rfl : (Instr.field 38 (.agg (rcR A c r n E)) 5).run Tryz.prog W = .ok (.int .i64 n) W)
  go_enter Tryz.func3, Tryz.ntmps3
  go_upto_region 6 with first
    | (go_at_call 4; refine (HAl.out _ S.out).mono ?_; rintro e1 w1 ⟨rfl, hb⟩; have B := Lib.hid (B.out.trans (hb.mono B.out.size)); have S := Lib.hid (S.out.below hb); clear hb)
    | (go_at_call 5; refine (HP.out _ S.out).mono ?_; rintro e2 w2 ⟨g, rfl, hb, ht⟩; have T := Lib.hid ht; have B := Lib.hid (B.out.trans (hb.mono B.out.size)); have S := Lib.hid (S.out.below hb); clear hb ht)
  go_upto_region 7 with (go_at_call 6; refine (HR.out _).mono ?_; rintro e3 w3 ⟨A, c, rfl, hr, hb⟩; have R := Lib.hid hr; have T := Lib.hid (T.out.below hb); have B := Lib.hid (B.out.trans (hb.mono B.out.size)); have S := Lib.hid (S.out.below hb); clear hb hr)
  have hb : Below w3.heap.size w3 (w3.alloc (.cells #[.slice A rr.L.length c, .int .i64 rr.u, .int .i64 rr.e] 30)) := (Below.refl _ _).alloc (Nat.le_refl _) _
  have G := Lib.hid (heap_alloc_new w3 (.cells #[.slice A rr.L.length c, .int .i64 rr.u, .int .i64 rr.e] 30))
  have B := Lib.hid (B.out.trans (hb.mono B.out.size))
  have S := Lib.hid (S.out.below hb)
  have T := Lib.hid (T.out.below hb)
  replace R := Lib.hid (R.out.keep hb).low
  clear hb
  generalize World.alloc w3 _ = W4 at *
  generalize w3.heap.size = g3 at *
  go_upto_region 11 with first
    | (go_at_call 7; refine (num_any 0 _ (by decide) (by decide)).mono ?_; rintro e w' ⟨rfl, rfl⟩)
    | (go_at_call 8; refine (HF.out _ S.out).mono ?_; rintro e5 w5 ⟨rfl, hb⟩; have B := Lib.hid (B.out.trans (hb.mono B.out.size)); have S := Lib.hid (S.out.below hb); have T := Lib.hid (T.out.below hb); have R := Lib.hid (R.out.keep hb).low; have G := Lib.hid ((hb.block _ (bk_lt G.out)).trans G.out);clear hb)
    | (go_at_call 9; refine (HA.out _).mono ?_; rintro e6 w6 ⟨A2, c2, rfl, -, -, -, hb⟩; have B := Lib.hid (B.out.trans (hb.mono B.out.size)); have S := Lib.hid (S.out.below hb); have T := Lib.hid (T.out.below hb); have R := Lib.hid (R.out.keep hb).low; have G := Lib.hid ((hb.block _ (bk_lt G.out)).trans G.out);clear hb)
  have c0 := bk_cell G.out 0; have c1 := bk_cell G.out 1; have c2' := bk_cell G.out 2
  go_wp2_with (go_at_call 10; refine (HI.out _ _ _ _ _ T.out R.out).mono ?_; rintro e7 w7 ⟨rfl, hb⟩; have B := Lib.hid (B.out.trans (hb.mono B.out.size)); clear hb)
  go_ret
  exact ⟨rfl, B.out⟩

theorem parses11_walk (t : ByteArray) (w : World) (hs : S11 w) :
    Calls Tryz.prog 3 #[.string t] w fun x w' => x = .returned (.bool true) ∧ Below w.heap.size w w' := by
  by_cases h1 : t.size ≤ 3000
  · by_cases hz : pZ11 t.data.toList = 0
    · exact parses11_yes_small t w hs h1 hz
    · exact parses11_no_small t w hs h1 hz
  by_cases h2 : t.size ≤ 65535
  · exact parses11_mid t w hs (by omega) h2
  by_cases h3 : t.size ≤ 66000
  · by_cases hz : pZ11 t.data.toList = 0
    · exact parses11_yes_large t w hs (by omega) h3 hz
    · exact parses11_no_large t w hs (by omega) h3 hz
  · exact parses11_far t w hs (by omega)

end Go.Proofs.YtdonicaiimeleaaGreatDoor

namespace Go.Proofs.YtdonicaiimeleaaGreatDoor
open Go.RowKit

theorem sent_gs : Tryz.prog.globalNamed "strconv.ErrSyntax" = some 6 := by kernel_rfl
theorem sent_gr : Tryz.prog.globalNamed "strconv.ErrRange" = some 7 := by kernel_rfl
theorem sent_ts : (Tryz.prog.globals[6]?).map (·.type) = some 25 := by kernel_rfl
theorem sent_tr : (Tryz.prog.globals[7]?).map (·.type) = some 25 := by kernel_rfl
theorem sent_ce : Tryz.prog.cellsOf 255 = 1 := by kernel_rfl
theorem sent_cs : Tryz.prog.cellsOf 9 = 1 := by kernel_rfl
theorem sent_star : "*" ++ "errors.errorString" = "*errors.errorString" := by decide
theorem sent_row (u : TypeId) (h : Tryz.prog.typeName? 3 u = some "*errors.errorString") : u = 253 :=
  typeName_ptr_named (nm := "errors.errorString") (by rw [sent_star]; kernel_rfl) (by kernel_rfl) (by decide) u (by rw [sent_star]; exact h)
theorem ge_of {W : World} {x y : List UInt8} {r r' : List (String × DataW Unit)} (h : laidMet Tryz.prog (("strconv.ErrSyntax", .iface "*errors.errorString" (.ptr (.agg [.lit (.string x)]))) :: r) W)
    (k : laidMet Tryz.prog (("strconv.ErrRange", .iface "*errors.errorString" (.ptr (.agg [.lit (.string y)]))) :: r') W) : GE W := by
  obtain ⟨a0, s0, hv0, -, -, -⟩ := laid_sentinel h sent_gs sent_ts Tryz.underlying25 sent_row Tryz.underlying253 Tryz.underlying255 rfl rfl Tryz.underlying9 sent_ce sent_cs
  obtain ⟨a1, s1, hv1, -, -, -⟩ := laid_sentinel k sent_gr sent_tr Tryz.underlying25 sent_row Tryz.underlying253 Tryz.underlying255 rfl rfl Tryz.underlying9 sent_ce sent_cs
  exact ⟨⟨_, by have h0 := World.var?_cell sent_gs hv0 0; simpa using h0, .inr ⟨_, _, rfl⟩⟩, _, by have h0 := World.var?_cell sent_gr hv1 0; simpa using h0, .inr ⟨_, _, rfl⟩⟩

end Go.Proofs.YtdonicaiimeleaaGreatDoor

namespace Go.Proofs.YtdonicaiimeleaaGreatDoor
open Go.RowKit

theorem tabT : Tryz.prog.underlying 246 = some (.array 20 149) := Tryz.underlying246
theorem tabE : Tryz.prog.underlying 149 = some (.int .u64) := Tryz.underlying149
theorem endsT : Tryz.prog.underlying 228 = some (.array 13 3) := Tryz.underlying228
theorem endsE : Tryz.prog.underlying 3 = some (.int .i64) := Tryz.underlying3

end Go.Proofs.YtdonicaiimeleaaGreatDoor
