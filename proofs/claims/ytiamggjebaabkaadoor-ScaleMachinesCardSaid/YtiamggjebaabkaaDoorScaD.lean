/- The document's answers for the scales: Has, Of, Tai, Posix, FromPosix. Written by gen_sca.py. -/
import Derived.Test.YtiamggjebaabkaaDoorScaC
import Derived.Test.YtiamggjebaabkaaDoorLeapG
import Derived.Test.YtiamggjebaabkaaDoorLabH
import Derived.Test.YtiamggjebaabkaaDoorLabL
namespace Go.Proofs.YtiamggjebaabkaaDoor
open Go.RowKit
set_option linter.unusedVariables false
set_option linter.unusedSimpArgs false

set_option maxHeartbeats 4000000 in
theorem rhas12_neg (A : Option Addr) (c : Nat) (L : List Rw) (u e : Int) (n s : Int) (w : World) (hr : Rp w.heap.size w A L) (V : Vr L) (hs0 : ¬ 0 ≤ s) :
    Calls Tryd.prog 17 #[.agg #[.slice A L.length c, .int .i64 u, .int .i64 e], .int .i64 n, .int .i64 s] w fun x w' => x = .returned (.bool false) ∧ Below w.heap.size w w' := by
  have few := V.few
  obtain ⟨W0, hW0, hb, hs, c0, c1, c2⟩ := dbox w A L.length c u e
  have HK : Hid (∀ W, Below W0.heap.size W0 W → Rp W.heap.size W A L ∧ (W.cell? ⟨w.heap.size, 0, none⟩ = some (.slice A L.length c) ∧ W.cell? ⟨w.heap.size, 1, none⟩ = some (.int .i64 u) ∧ W.cell? ⟨w.heap.size, 2, none⟩ = some (.int .i64 e))) := Lib.hid fun W hq =>
    ⟨((hr.keep (hb.trans (hq.mono hb.size))).mono (Nat.le_trans hb.size hq.size)), (hq.cell (p := ⟨w.heap.size, 0, none⟩) (show w.heap.size < W0.heap.size by omega)).trans c0, (hq.cell (p := ⟨w.heap.size, 1, none⟩) (show w.heap.size < W0.heap.size by omega)).trans c1, (hq.cell (p := ⟨w.heap.size, 2, none⟩) (show w.heap.size < W0.heap.size by omega)).trans c2⟩
  have HB := Lib.hid hb
  have HL := Lib.hid (fun (W : World) (hb : Rp W.heap.size W A L) => rleap10_any A c L u e n W hb V (by omega))
  have hbd := V.lpN_bd n
  generalize lpN L n = k at *
  have z : ¬ s ≥ 0 := hs0
  clear hr V hb hs few hs0
  generalize L.length = N at *
  go_enter Tryd.func17, Tryd.ntmps17
  go_upto_region 1 with fail
  rw [← hW0]; clear hW0
  go_wp2_with (go_at_call 42; refine (HL.out _ (HK.out _ (Below.refl _ _)).1).mono ?_; rintro e w1 ⟨rfl, hq⟩; have B1 := Lib.hid (HB.out.trans (hq.mono HB.out.size)); clear hq HL)
  go_ret
  exact ⟨rfl, HB.out⟩

set_option maxHeartbeats 4000000 in
theorem rhas12_pos (A : Option Addr) (c : Nat) (L : List Rw) (u e : Int) (n s : Int) (w : World) (hr : Rp w.heap.size w A L) (V : Vr L) (hs0 : 0 ≤ s) :
    Calls Tryd.prog 17 #[.agg #[.slice A L.length c, .int .i64 u, .int .i64 e], .int .i64 n, .int .i64 s] w fun x w' => x = .returned (.bool (decide (s < 86400 + lpN L n))) ∧ Below w.heap.size w w' := by
  have few := V.few
  obtain ⟨W0, hW0, hb, hs, c0, c1, c2⟩ := dbox w A L.length c u e
  have HK : Hid (∀ W, Below W0.heap.size W0 W → Rp W.heap.size W A L ∧ (W.cell? ⟨w.heap.size, 0, none⟩ = some (.slice A L.length c) ∧ W.cell? ⟨w.heap.size, 1, none⟩ = some (.int .i64 u) ∧ W.cell? ⟨w.heap.size, 2, none⟩ = some (.int .i64 e))) := Lib.hid fun W hq =>
    ⟨((hr.keep (hb.trans (hq.mono hb.size))).mono (Nat.le_trans hb.size hq.size)), (hq.cell (p := ⟨w.heap.size, 0, none⟩) (show w.heap.size < W0.heap.size by omega)).trans c0, (hq.cell (p := ⟨w.heap.size, 1, none⟩) (show w.heap.size < W0.heap.size by omega)).trans c1, (hq.cell (p := ⟨w.heap.size, 2, none⟩) (show w.heap.size < W0.heap.size by omega)).trans c2⟩
  have HB := Lib.hid hb
  have HL := Lib.hid (fun (W : World) (hb : Rp W.heap.size W A L) => rleap10_any A c L u e n W hb V (by omega))
  have hbd := V.lpN_bd n
  generalize lpN L n = k at *
  have z : s ≥ 0 := hs0
  clear hr V hb hs few hs0
  generalize L.length = N at *
  go_enter Tryd.func17, Tryd.ntmps17
  go_upto_region 1 with fail
  rw [← hW0]; clear hW0
  go_wp2_with (go_at_call 42; refine (HL.out _ (HK.out _ (Below.refl _ _)).1).mono ?_; rintro e w1 ⟨rfl, hq⟩; have B1 := Lib.hid (HB.out.trans (hq.mono HB.out.size)); clear hq HL)
  go_ret
  exact ⟨rfl, B1.out⟩

theorem rhas12_any (A : Option Addr) (c : Nat) (L : List Rw) (u e : Int) (n s : Int) (w : World) (hr : Rp w.heap.size w A L) (V : Vr L) :
    Calls Tryd.prog 17 #[.agg #[.slice A L.length c, .int .i64 u, .int .i64 e], .int .i64 n, .int .i64 s] w fun x w' => x = .returned (.bool (hsB L n s)) ∧ Below w.heap.size w w' := by
  unfold hsB
  by_cases h : 0 ≤ s
  · rw [decide_eq_true h, Bool.true_and]
    exact rhas12_pos A c L u e n s w hr V h
  · rw [decide_eq_false h, Bool.false_and]
    exact rhas12_neg A c L u e n s w hr V h

/-- The atomic seconds of a day's second, and their error. -/
def ofE12 (L : List Rw) (n s : Int) : Int := if ofB L n = true then (if hsB L n s = true then 0 else 12) else 8
def ofV12 (L : List Rw) (n s : Int) : Int := if ofE12 L n s = 0 then n * 86400 + s + ofN L n else 0

set_option maxHeartbeats 4000000 in
theorem rof12_none (A : Option Addr) (c : Nat) (L : List Rw) (u e : Int) (n s : Int) (w : World) (hr : Rp w.heap.size w A L) (V : Vr L) (n1 : -100000000 ≤ n) (n2 : n ≤ 100000000) (s1 : 0 ≤ s) (s2 : s ≤ 100000) (ho : ofB L n = false) :
    Calls Tryd.prog 45 #[.agg #[.slice A L.length c, .int .i64 u, .int .i64 e], .int .i64 n, .int .i64 s] w fun x w' => x = .returned (.tuple #[.int .i64 0, .int .i64 8]) ∧ Below w.heap.size w w' := by
  have few := V.few
  obtain ⟨W0, hW0, hb, hs, c0, c1, c2⟩ := dbox w A L.length c u e
  have HK : Hid (∀ W, Below W0.heap.size W0 W → Rp W.heap.size W A L ∧ (W.cell? ⟨w.heap.size, 0, none⟩ = some (.slice A L.length c) ∧ W.cell? ⟨w.heap.size, 1, none⟩ = some (.int .i64 u) ∧ W.cell? ⟨w.heap.size, 2, none⟩ = some (.int .i64 e))) := Lib.hid fun W hq =>
    ⟨((hr.keep (hb.trans (hq.mono hb.size))).mono (Nat.le_trans hb.size hq.size)), (hq.cell (p := ⟨w.heap.size, 0, none⟩) (show w.heap.size < W0.heap.size by omega)).trans c0, (hq.cell (p := ⟨w.heap.size, 1, none⟩) (show w.heap.size < W0.heap.size by omega)).trans c1, (hq.cell (p := ⟨w.heap.size, 2, none⟩) (show w.heap.size < W0.heap.size by omega)).trans c2⟩
  have HB := Lib.hid hb
  have HO := Lib.hid (fun (W : World) (hb : Rp W.heap.size W A L) => roffset_any A c L u e n W hb (by omega))
  have HH := Lib.hid (fun (W : World) (hb : Rp W.heap.size W A L) => rhas12_any A c L u e n s W hb V)
  have ob := V.ofN_bd n
  rw [ho] at HO
  generalize ofN L n = o at *
  clear hr V hb hs few
  generalize L.length = N at *
  go_enter Tryd.func45, Tryd.ntmps45
  go_upto_region 1 with fail
  rw [← hW0]; clear hW0
  go_wp2_with (first
    | (go_at_call 26; refine (HO.out _ (HK.out _ (Below.refl _ _)).1).mono ?_; rintro e w1 ⟨rfl, hq⟩; obtain ⟨-, c0, c1, c2⟩ := HK.out _ hq; have Q1 := Lib.hid hq; clear hq HO))
  go_ret2
  exact ⟨rfl, HB.out.trans (Q1.out.mono HB.out.size)⟩

set_option maxHeartbeats 4000000 in
theorem rof12_leap (A : Option Addr) (c : Nat) (L : List Rw) (u e : Int) (n s : Int) (w : World) (hr : Rp w.heap.size w A L) (V : Vr L) (n1 : -100000000 ≤ n) (n2 : n ≤ 100000000) (s1 : 0 ≤ s) (s2 : s ≤ 100000) (ho : ofB L n = true) (hh : hsB L n s = false) :
    Calls Tryd.prog 45 #[.agg #[.slice A L.length c, .int .i64 u, .int .i64 e], .int .i64 n, .int .i64 s] w fun x w' => x = .returned (.tuple #[.int .i64 0, .int .i64 12]) ∧ Below w.heap.size w w' := by
  have few := V.few
  obtain ⟨W0, hW0, hb, hs, c0, c1, c2⟩ := dbox w A L.length c u e
  have HK : Hid (∀ W, Below W0.heap.size W0 W → Rp W.heap.size W A L ∧ (W.cell? ⟨w.heap.size, 0, none⟩ = some (.slice A L.length c) ∧ W.cell? ⟨w.heap.size, 1, none⟩ = some (.int .i64 u) ∧ W.cell? ⟨w.heap.size, 2, none⟩ = some (.int .i64 e))) := Lib.hid fun W hq =>
    ⟨((hr.keep (hb.trans (hq.mono hb.size))).mono (Nat.le_trans hb.size hq.size)), (hq.cell (p := ⟨w.heap.size, 0, none⟩) (show w.heap.size < W0.heap.size by omega)).trans c0, (hq.cell (p := ⟨w.heap.size, 1, none⟩) (show w.heap.size < W0.heap.size by omega)).trans c1, (hq.cell (p := ⟨w.heap.size, 2, none⟩) (show w.heap.size < W0.heap.size by omega)).trans c2⟩
  have HB := Lib.hid hb
  have HO := Lib.hid (fun (W : World) (hb : Rp W.heap.size W A L) => roffset_any A c L u e n W hb (by omega))
  have HH := Lib.hid (fun (W : World) (hb : Rp W.heap.size W A L) => rhas12_any A c L u e n s W hb V)
  have ob := V.ofN_bd n
  rw [ho] at HO; rw [hh] at HH
  generalize ofN L n = o at *
  clear hr V hb hs few
  generalize L.length = N at *
  go_enter Tryd.func45, Tryd.ntmps45
  go_upto_region 1 with fail
  rw [← hW0]; clear hW0
  go_wp2_with (first
    | (go_at_call 26; refine (HO.out _ (HK.out _ (Below.refl _ _)).1).mono ?_; rintro e w1 ⟨rfl, hq⟩; obtain ⟨-, c0, c1, c2⟩ := HK.out _ hq; have Q1 := Lib.hid hq; clear hq HO)
    | (go_at_call 17; refine (HH.out _ (HK.out _ Q1.out).1).mono ?_; rintro e w2 ⟨rfl, hq⟩; have Q2 := Lib.hid (Q1.out.trans (hq.mono Q1.out.size)); clear hq HH))
  go_ret2
  exact ⟨rfl, HB.out.trans (Q2.out.mono HB.out.size)⟩

set_option maxHeartbeats 4000000 in
theorem rof12_ok (A : Option Addr) (c : Nat) (L : List Rw) (u e : Int) (n s : Int) (w : World) (hr : Rp w.heap.size w A L) (V : Vr L) (n1 : -100000000 ≤ n) (n2 : n ≤ 100000000) (s1 : 0 ≤ s) (s2 : s ≤ 100000) (ho : ofB L n = true) (hh : hsB L n s = true) :
    Calls Tryd.prog 45 #[.agg #[.slice A L.length c, .int .i64 u, .int .i64 e], .int .i64 n, .int .i64 s] w fun x w' => x = .returned (.tuple #[.int .i64 (n * 86400 + s + ofN L n), .int .i64 0]) ∧ Below w.heap.size w w' := by
  have few := V.few
  obtain ⟨W0, hW0, hb, hs, c0, c1, c2⟩ := dbox w A L.length c u e
  have HK : Hid (∀ W, Below W0.heap.size W0 W → Rp W.heap.size W A L ∧ (W.cell? ⟨w.heap.size, 0, none⟩ = some (.slice A L.length c) ∧ W.cell? ⟨w.heap.size, 1, none⟩ = some (.int .i64 u) ∧ W.cell? ⟨w.heap.size, 2, none⟩ = some (.int .i64 e))) := Lib.hid fun W hq =>
    ⟨((hr.keep (hb.trans (hq.mono hb.size))).mono (Nat.le_trans hb.size hq.size)), (hq.cell (p := ⟨w.heap.size, 0, none⟩) (show w.heap.size < W0.heap.size by omega)).trans c0, (hq.cell (p := ⟨w.heap.size, 1, none⟩) (show w.heap.size < W0.heap.size by omega)).trans c1, (hq.cell (p := ⟨w.heap.size, 2, none⟩) (show w.heap.size < W0.heap.size by omega)).trans c2⟩
  have HB := Lib.hid hb
  have HO := Lib.hid (fun (W : World) (hb : Rp W.heap.size W A L) => roffset_any A c L u e n W hb (by omega))
  have HH := Lib.hid (fun (W : World) (hb : Rp W.heap.size W A L) => rhas12_any A c L u e n s W hb V)
  have ob := V.ofN_bd n
  rw [ho] at HO; rw [hh] at HH
  generalize ofN L n = o at *
  clear hr V hb hs few
  generalize L.length = N at *
  go_enter Tryd.func45, Tryd.ntmps45
  go_upto_region 1 with fail
  rw [← hW0]; clear hW0
  go_wp2_with (first
    | (go_at_call 26; refine (HO.out _ (HK.out _ (Below.refl _ _)).1).mono ?_; rintro e w1 ⟨rfl, hq⟩; obtain ⟨-, c0, c1, c2⟩ := HK.out _ hq; have Q1 := Lib.hid hq; clear hq HO)
    | (go_at_call 17; refine (HH.out _ (HK.out _ Q1.out).1).mono ?_; rintro e w2 ⟨rfl, hq⟩; have Q2 := Lib.hid (Q1.out.trans (hq.mono Q1.out.size)); clear hq HH))
  go_ret2
  exact ⟨rfl, HB.out.trans (Q2.out.mono HB.out.size)⟩

theorem rof12_any (A : Option Addr) (c : Nat) (L : List Rw) (u e : Int) (n s : Int) (w : World) (hr : Rp w.heap.size w A L) (V : Vr L) (n1 : -100000000 ≤ n) (n2 : n ≤ 100000000) (s1 : 0 ≤ s) (s2 : s ≤ 100000) :
    Calls Tryd.prog 45 #[.agg #[.slice A L.length c, .int .i64 u, .int .i64 e], .int .i64 n, .int .i64 s] w fun x w' => x = .returned (.tuple #[.int .i64 (ofV12 L n s), .int .i64 (ofE12 L n s)]) ∧ Below w.heap.size w w' := by
  unfold ofV12
  by_cases ho : ofB L n = true
  · by_cases hh : hsB L n s = true
    · have e1 : ofE12 L n s = 0 := by unfold ofE12; rw [if_pos ho, if_pos hh]
      rw [e1, if_pos rfl]
      exact rof12_ok A c L u e n s w hr V n1 n2 s1 s2 ho hh
    · have e1 : ofE12 L n s = 12 := by unfold ofE12; rw [if_pos ho, if_neg hh]
      rw [e1, if_neg (by decide)]
      exact rof12_leap A c L u e n s w hr V n1 n2 s1 s2 ho (by simpa using hh)
  · have e1 : ofE12 L n s = 8 := by unfold ofE12; rw [if_neg ho]
    rw [e1, if_neg (by decide)]
    exact rof12_none A c L u e n s w hr V n1 n2 s1 s2 (by simpa using ho)
theorem of_ta {L : List Rw} {l : Lb} (h : lbE l = 0) : ofE12 L (lbN l) (lbT l) = taE L l ∧ ofV12 L (lbN l) (lbT l) = taV L l := by
  have e1 : ofE12 L (lbN l) (lbT l) = taE L l := by unfold ofE12 taE; rw [if_pos h]
  refine ⟨e1, ?_⟩
  unfold ofV12 taV
  rw [e1, Int.mul_comm]

/-- The boxes of a table and a label. -/
theorem tl_box (w : World) (A : Option Addr) (n c : Nat) (u e : Int) (l : Lb) : ∃ W1, W1 = (w.alloc (.cells #[.slice A n c, .int .i64 u, .int .i64 e] 41)).alloc (.cells l.cells 35) ∧ Below w.heap.size w W1 ∧
    Lk 35 W1 (w.heap.size + 1) l ∧ ∀ W, Below W1.heap.size W1 W → W.cell? ⟨w.heap.size, 0, none⟩ = some (.slice A n c) ∧ W.cell? ⟨w.heap.size, 1, none⟩ = some (.int .i64 u) ∧ W.cell? ⟨w.heap.size, 2, none⟩ = some (.int .i64 e) := by
  obtain ⟨W0, hW0, hb, hs, c0, c1, c2⟩ := dbox w A n c u e
  have b1 := bel_new W0 (.cells l.cells 35)
  have l1 := lk_new 35 W0 l
  rw [hs] at l1
  refine ⟨_, by rw [← hW0], hb.trans (b1.mono hb.size), l1, fun W hq => ?_⟩
  have hh := b1.trans (hq.mono b1.size)
  exact ⟨(hh.cell (p := ⟨w.heap.size, 0, none⟩) (show w.heap.size < W0.heap.size by omega)).trans c0, (hh.cell (p := ⟨w.heap.size, 1, none⟩) (show w.heap.size < W0.heap.size by omega)).trans c1, (hh.cell (p := ⟨w.heap.size, 2, none⟩) (show w.heap.size < W0.heap.size by omega)).trans c2⟩
set_option maxHeartbeats 4000000 in
theorem rtai12_any (A : Option Addr) (c : Nat) (L : List Rw) (u e : Int) (l : Lb) (w : World) (hr : Rp w.heap.size w A L) (V : Vr L) :
    Calls Tryd.prog 20 #[.agg #[.slice A L.length c, .int .i64 u, .int .i64 e], .agg l.cells] w fun x w' => x = .returned (.tuple #[.int .i64 (taV L l), .int .i64 (taE L l)]) ∧ Below w.heap.size w w' := by
  obtain ⟨W1, hW1, b1, l1, hC⟩ := tl_box w A L.length c u e l
  obtain ⟨k0, k1, k2, k3, k4, k5, k6, k7⟩ := l1.all
  have HS := Lib.hid (lrsplit_any l W1)
  have HB := Lib.hid b1; have HC := Lib.hid hC
  have HR : Hid (∀ W, Below W1.heap.size W1 W → Rp W.heap.size W A L) := Lib.hid fun W hq => (hr.keep (b1.trans (hq.mono b1.size))).mono (Nat.le_trans b1.size hq.size)
  by_cases hk : lbE l = 0
  · obtain ⟨t1, t2⟩ := of_ta (L := L) hk
    have bn := lbN_bd l; have bt := lbT_bd l
    have HO := Lib.hid (fun (W : World) (hq : Rp W.heap.size W A L) => rof12_any A c L u e (lbN l) (lbT l) W hq V (by omega) (by omega) (by omega) (by omega))
    rw [t1, t2] at HO
    rw [hk] at HS
    clear t1 t2 bn bt hk hr V b1 l1 hC
    generalize taV L l = tv at *
    generalize taE L l = te at *
    generalize lbN l = n at *
    generalize lbT l = s at *
    generalize L.length = N at *
    go_enter Tryd.func20, Tryd.ntmps20
    go_upto_region 1 with fail
    rw [← hW1]
    clear hW1
    go_wp2_with fail
    refine HS.out.mono ?_
    rintro e1 w2 ⟨rfl, hq⟩
    have B2 := Lib.hid hq
    obtain ⟨c0, c1, c2⟩ := HC.out _ hq
    clear hq k0 k1 k2 k3 k4 k5 k6 k7
    go_wp2_with fail
    refine (HO.out _ (HR.out _ B2.out)).mono ?_
    rintro e1 w3 ⟨rfl, hq⟩
    have B3 := Lib.hid (B2.out.trans (hq.mono B2.out.size))
    clear hq c0 c1 c2
    go_wp2_with fail
    go_ret2
    exact ⟨rfl, HB.out.trans (B3.out.mono HB.out.size)⟩
  · have e1 : taE L l = lbE l := if_neg hk
    have e2 : taV L l = 0 := by unfold taV; rw [e1, if_neg hk]
    have hkb : (lbE l != 0) = true := bne_iff_ne.mpr hk
    rw [e1, e2]
    clear e1 e2 hk hr V b1 l1 hC
    generalize lbE l = E at *
    generalize lbN l = n at *
    generalize lbT l = s at *
    generalize L.length = N at *
    go_enter Tryd.func20, Tryd.ntmps20
    go_upto_region 1 with fail
    rw [← hW1]
    clear hW1
    go_wp2_with fail
    refine HS.out.mono ?_
    rintro e1 w2 ⟨rfl, hq⟩
    have B2 := Lib.hid hq
    clear hq k0 k1 k2 k3 k4 k5 k6 k7
    go_wp2_with fail
    go_ret2
    exact ⟨rfl, HB.out.trans (B2.out.mono HB.out.size)⟩

theorem labd_new (w : World) (l : Lb) : ∃ W0, W0 = w.alloc (.cells l.cells 35) ∧ Below w.heap.size w W0 ∧ Lk 35 W0 w.heap.size l := ⟨_, rfl, bel_new w _, lk_new _ _ _⟩
set_option maxHeartbeats 4000000 in
theorem rposix12_any (l : Lb) (w : World) :
    Calls Tryd.prog 11 #[.agg l.cells] w fun x w' => x = .returned (.tuple #[.int .i64 (poV l), .int .i64 (lbE l)]) ∧ Below w.heap.size w w' := by
  obtain ⟨W0, hW0, b0, l0⟩ := labd_new w l
  obtain ⟨c0, c1, c2, c3, c4, c5, c6, c7⟩ := l0.all
  have HS := Lib.hid (lrsplit_any l W0)
  have HB := Lib.hid b0
  have bn := lbN_bd l; have bt := lbT_bd l
  by_cases hk : lbE l = 0
  · have e1 : poV l = lbN l * 86400 + lbT l := by unfold poV; rw [if_pos hk, Int.mul_comm]
    rw [e1, hk]
    rw [hk] at HS
    clear e1 hk b0 l0
    generalize lbN l = n at *
    generalize lbT l = s at *
    go_enter Tryd.func11, Tryd.ntmps11
    go_upto_region 1 with fail
    rw [← hW0]; clear hW0
    go_wp2_with fail
    refine HS.out.mono ?_
    rintro e w1 ⟨rfl, hb⟩
    have B1 := Lib.hid (HB.out.trans (hb.mono HB.out.size))
    clear hb c0 c1 c2 c3 c4 c5 c6 c7
    go_wp2_with fail
    go_ret2
    exact ⟨rfl, B1.out⟩
  · have e1 : poV l = 0 := if_neg hk
    have hkb : (lbE l != 0) = true := bne_iff_ne.mpr hk
    rw [e1]
    clear e1 hk b0 l0 bn bt
    generalize lbE l = E at *
    generalize lbN l = n at *
    generalize lbT l = s at *
    go_enter Tryd.func11, Tryd.ntmps11
    go_upto_region 1 with fail
    rw [← hW0]; clear hW0
    go_wp2_with fail
    refine HS.out.mono ?_
    rintro e w1 ⟨rfl, hb⟩
    have B1 := Lib.hid (HB.out.trans (hb.mono HB.out.size))
    clear hb c0 c1 c2 c3 c4 c5 c6 c7
    go_wp2_with fail
    go_ret2
    exact ⟨rfl, B1.out⟩

set_option maxHeartbeats 4000000 in
theorem rfrompos_pos (p nn o : Int) (w : World) (hp : fits p) (h0 : 0 ≤ p) {L : Lb} (hL : Mk (p / 86400) (p % 86400) nn o L) :
    Calls Tryd.prog 28 #[.int .i64 p, .int .i64 nn, .int .i64 o] w fun x w' => x = .returned (.tuple #[.agg L.cells, .int .i64 (mkE (p / 86400) (p % 86400) nn o)]) ∧ Below w.heap.size w w' := by
  obtain ⟨W0, hW0, b0, l0⟩ := labd_new w lb0
  have HO := Lib.hid (lrof_any (p / 86400) (p % 86400) nn o W0 hL)
  have Z0 := Lib.hid l0; have B0 := Lib.hid b0
  obtain ⟨y, m, d, h, i, s, n, oo⟩ := L
  change Hid (Calls _ _ _ _ fun e w' => e = .returned (.tuple #[.agg #[.int .i64 y, .int .i64 m, .int .i64 d, .int .i64 h, .int .i64 i, .int .i64 s, .int .i64 n, .int .i64 oo], _]) ∧ _) at HO
  show Calls _ _ _ _ fun e w' => e = .returned (.tuple #[.agg #[.int .i64 y, .int .i64 m, .int .i64 d, .int .i64 h, .int .i64 i, .int .i64 s, .int .i64 n, .int .i64 oo], _]) ∧ _
  generalize mkE (p / 86400) (p % 86400) nn o = E at *
  have r1 : 0 ≤ p % 86400 ∧ p % 86400 < 86400 := by omega
  have q1 : 0 ≤ p / 86400 ∧ p / 86400 ≤ 200000000000000 := by unfold fits at hp; omega
  have w1 : wrap64 (p.tdiv 86400) = p / 86400 := by rw [Int.tdiv_eq_ediv_of_nonneg h0]; exact wrap64_fit (by unfold fits; omega)
  clear hL b0 l0 hp
  go_enter Tryd.func28, Tryd.ntmps28
  go_upto_region 1 with fail
  rw [show w.alloc (.cells #[.int .i64 0, .int .i64 0, .int .i64 0, .int .i64 0, .int .i64 0, .int .i64 0, .int .i64 0, .int .i64 0] 35) = W0 from hW0.symm]
  clear hW0
  go_wp2_with fail
  refine HO.out.mono ?_
  rintro e w2 ⟨rfl, hb⟩
  have Z2 := Lib.hid (Z0.out.keep hb)
  have B2 := Lib.hid (B0.out.trans (hb.mono B0.out.size))
  clear hb
  obtain ⟨f0, f1, f2, f3, f4, f5, f6, f7⟩ := Z2.out.frees
  obtain ⟨c0, c1, c2, c3, c4, c5, c6, c7⟩ := Z2.out.all
  go_wp2_with fail
  have hP := put8_lk Z2.out y m d h i s n oo
  have hB := put8_below B2.out (Nat.le_refl _) y m d h i s n oo
  obtain ⟨W9, hW9⟩ : ∃ W9, W9 = put8 w2 (w.heap.size) y m d h i s n oo := ⟨_, rfl⟩
  rw [← hW9] at hP hB
  show bodyPost _ _ _ _ _ (put8 w2 (w.heap.size) y m d h i s n oo)
  rw [← hW9]
  clear hW9
  obtain ⟨r0, r1, r2, r3, r4, r5, r6, r7⟩ := hP.all
  clear hP
  refine bodyPost_ret (v := .tuple #[.agg #[.int .i64 y, .int .i64 m, .int .i64 d, .int .i64 h, .int .i64 i, .int .i64 s, .int .i64 n, .int .i64 oo], .int .i64 E]) (by simp [results, Tryd.results28, go_sem, r0, r1, r2, r3, r4, r5, r6, r7]) rfl ⟨rfl, hB⟩

set_option maxHeartbeats 4000000 in
theorem rfrompos_neg (p nn o : Int) (w : World) (hp : fits p) (h0 : p < 0) (h1 : p.tmod 86400 < 0) {L : Lb} (hL : Mk (p / 86400) (p % 86400) nn o L) :
    Calls Tryd.prog 28 #[.int .i64 p, .int .i64 nn, .int .i64 o] w fun x w' => x = .returned (.tuple #[.agg L.cells, .int .i64 (mkE (p / 86400) (p % 86400) nn o)]) ∧ Below w.heap.size w w' := by
  obtain ⟨W0, hW0, b0, l0⟩ := labd_new w lb0
  have HO := Lib.hid (lrof_any (p / 86400) (p % 86400) nn o W0 hL)
  have Z0 := Lib.hid l0; have B0 := Lib.hid b0
  obtain ⟨y, m, d, h, i, s, n, oo⟩ := L
  change Hid (Calls _ _ _ _ fun e w' => e = .returned (.tuple #[.agg #[.int .i64 y, .int .i64 m, .int .i64 d, .int .i64 h, .int .i64 i, .int .i64 s, .int .i64 n, .int .i64 oo], _]) ∧ _) at HO
  show Calls _ _ _ _ fun e w' => e = .returned (.tuple #[.agg #[.int .i64 y, .int .i64 m, .int .i64 d, .int .i64 h, .int .i64 i, .int .i64 s, .int .i64 n, .int .i64 oo], _]) ∧ _
  generalize mkE (p / 86400) (p % 86400) nn o = E at *
  have e1 : (-p).tdiv 86400 = (-p) / 86400 := Int.tdiv_eq_ediv_of_nonneg (by omega)
  rw [Int.neg_tdiv] at e1
  have e2 := Int.tmod_def p 86400
  have q1 : -200000000000000 ≤ p.tdiv 86400 ∧ p.tdiv 86400 ≤ 0 := by unfold fits at hp; omega
  have r1 : -86400 < p.tmod 86400 ∧ p.tmod 86400 ≤ 0 := by omega
  have a1 : p / 86400 = p.tdiv 86400 - 1 := by omega
  have a2 : p % 86400 = p.tmod 86400 + 86400 := by omega
  rw [a1, a2] at HO
  clear hL b0 l0 hp a1 a2 e1 e2 h0
  obtain ⟨q, hq⟩ : ∃ q, p.tdiv 86400 = q := ⟨_, rfl⟩
  obtain ⟨r, hr⟩ : ∃ r, p.tmod 86400 = r := ⟨_, rfl⟩
  rw [hq] at HO q1
  rw [hr] at HO r1 h1
  have w1 : wrap64 q = q := wrap64_fit (by unfold fits; omega)
  have w2 : wrap64 (q - 1) = q - 1 := wrap64_fit (by unfold fits; omega)
  have w3 : wrap64 (r + 86400) = r + 86400 := wrap64_fit (by unfold fits; omega)
  go_enter Tryd.func28, Tryd.ntmps28
  go_upto_region 1 with fail
  rw [show w.alloc (.cells #[.int .i64 0, .int .i64 0, .int .i64 0, .int .i64 0, .int .i64 0, .int .i64 0, .int .i64 0, .int .i64 0] 35) = W0 from hW0.symm]
  clear hW0
  go_wp2_with fail
  refine HO.out.mono ?_
  rintro e w2 ⟨rfl, hb⟩
  have Z2 := Lib.hid (Z0.out.keep hb)
  have B2 := Lib.hid (B0.out.trans (hb.mono B0.out.size))
  clear hb
  obtain ⟨f0, f1, f2, f3, f4, f5, f6, f7⟩ := Z2.out.frees
  obtain ⟨c0, c1, c2, c3, c4, c5, c6, c7⟩ := Z2.out.all
  go_wp2_with fail
  have hP := put8_lk Z2.out y m d h i s n oo
  have hB := put8_below B2.out (Nat.le_refl _) y m d h i s n oo
  obtain ⟨W9, hW9⟩ : ∃ W9, W9 = put8 w2 (w.heap.size) y m d h i s n oo := ⟨_, rfl⟩
  rw [← hW9] at hP hB
  show bodyPost _ _ _ _ _ (put8 w2 (w.heap.size) y m d h i s n oo)
  rw [← hW9]
  clear hW9
  obtain ⟨r0, r1, r2, r3, r4, r5, r6, r7⟩ := hP.all
  clear hP
  refine bodyPost_ret (v := .tuple #[.agg #[.int .i64 y, .int .i64 m, .int .i64 d, .int .i64 h, .int .i64 i, .int .i64 s, .int .i64 n, .int .i64 oo], .int .i64 E]) (by simp [results, Tryd.results28, go_sem, r0, r1, r2, r3, r4, r5, r6, r7]) rfl ⟨rfl, hB⟩

set_option maxHeartbeats 4000000 in
theorem rfrompos_zer (p nn o : Int) (w : World) (hp : fits p) (h0 : p < 0) (h1 : ¬ p.tmod 86400 < 0) {L : Lb} (hL : Mk (p / 86400) (p % 86400) nn o L) :
    Calls Tryd.prog 28 #[.int .i64 p, .int .i64 nn, .int .i64 o] w fun x w' => x = .returned (.tuple #[.agg L.cells, .int .i64 (mkE (p / 86400) (p % 86400) nn o)]) ∧ Below w.heap.size w w' := by
  obtain ⟨W0, hW0, b0, l0⟩ := labd_new w lb0
  have HO := Lib.hid (lrof_any (p / 86400) (p % 86400) nn o W0 hL)
  have Z0 := Lib.hid l0; have B0 := Lib.hid b0
  obtain ⟨y, m, d, h, i, s, n, oo⟩ := L
  change Hid (Calls _ _ _ _ fun e w' => e = .returned (.tuple #[.agg #[.int .i64 y, .int .i64 m, .int .i64 d, .int .i64 h, .int .i64 i, .int .i64 s, .int .i64 n, .int .i64 oo], _]) ∧ _) at HO
  show Calls _ _ _ _ fun e w' => e = .returned (.tuple #[.agg #[.int .i64 y, .int .i64 m, .int .i64 d, .int .i64 h, .int .i64 i, .int .i64 s, .int .i64 n, .int .i64 oo], _]) ∧ _
  generalize mkE (p / 86400) (p % 86400) nn o = E at *
  have e1 : (-p).tdiv 86400 = (-p) / 86400 := Int.tdiv_eq_ediv_of_nonneg (by omega)
  rw [Int.neg_tdiv] at e1
  have e2 := Int.tmod_def p 86400
  have q1 : -200000000000000 ≤ p.tdiv 86400 ∧ p.tdiv 86400 ≤ 0 := by unfold fits at hp; omega
  have r1 : -86400 < p.tmod 86400 ∧ p.tmod 86400 ≤ 0 := by omega
  have a1 : p / 86400 = p.tdiv 86400 := by omega
  have a2 : p % 86400 = p.tmod 86400 := by omega
  rw [a1, a2] at HO
  clear hL b0 l0 hp a1 a2 e1 e2 h0
  obtain ⟨q, hq⟩ : ∃ q, p.tdiv 86400 = q := ⟨_, rfl⟩
  obtain ⟨r, hr⟩ : ∃ r, p.tmod 86400 = r := ⟨_, rfl⟩
  rw [hq] at HO q1
  rw [hr] at HO r1 h1
  have w1 : wrap64 q = q := wrap64_fit (by unfold fits; omega)
  have w2 : wrap64 (q - 1) = q - 1 := wrap64_fit (by unfold fits; omega)
  have w3 : wrap64 (r + 86400) = r + 86400 := wrap64_fit (by unfold fits; omega)
  go_enter Tryd.func28, Tryd.ntmps28
  go_upto_region 1 with fail
  rw [show w.alloc (.cells #[.int .i64 0, .int .i64 0, .int .i64 0, .int .i64 0, .int .i64 0, .int .i64 0, .int .i64 0, .int .i64 0] 35) = W0 from hW0.symm]
  clear hW0
  go_wp2_with fail
  refine HO.out.mono ?_
  rintro e w2 ⟨rfl, hb⟩
  have Z2 := Lib.hid (Z0.out.keep hb)
  have B2 := Lib.hid (B0.out.trans (hb.mono B0.out.size))
  clear hb
  obtain ⟨f0, f1, f2, f3, f4, f5, f6, f7⟩ := Z2.out.frees
  obtain ⟨c0, c1, c2, c3, c4, c5, c6, c7⟩ := Z2.out.all
  go_wp2_with fail
  have hP := put8_lk Z2.out y m d h i s n oo
  have hB := put8_below B2.out (Nat.le_refl _) y m d h i s n oo
  obtain ⟨W9, hW9⟩ : ∃ W9, W9 = put8 w2 (w.heap.size) y m d h i s n oo := ⟨_, rfl⟩
  rw [← hW9] at hP hB
  show bodyPost _ _ _ _ _ (put8 w2 (w.heap.size) y m d h i s n oo)
  rw [← hW9]
  clear hW9
  obtain ⟨r0, r1, r2, r3, r4, r5, r6, r7⟩ := hP.all
  clear hP
  refine bodyPost_ret (v := .tuple #[.agg #[.int .i64 y, .int .i64 m, .int .i64 d, .int .i64 h, .int .i64 i, .int .i64 s, .int .i64 n, .int .i64 oo], .int .i64 E]) (by simp [results, Tryd.results28, go_sem, r0, r1, r2, r3, r4, r5, r6, r7]) rfl ⟨rfl, hB⟩

theorem rfrompos_any (p nn o : Int) (w : World) (hp : fits p) {L : Lb} (hL : Mk (p / 86400) (p % 86400) nn o L) :
    Calls Tryd.prog 28 #[.int .i64 p, .int .i64 nn, .int .i64 o] w fun x w' => x = .returned (.tuple #[.agg L.cells, .int .i64 (mkE (p / 86400) (p % 86400) nn o)]) ∧ Below w.heap.size w w' := by
  by_cases h0 : 0 ≤ p
  · exact rfrompos_pos p nn o w hp h0 hL
  · by_cases h1 : p.tmod 86400 < 0
    · exact rfrompos_neg p nn o w hp (by omega) h1 hL
    · exact rfrompos_zer p nn o w hp (by omega) h1 hL

end Go.Proofs.YtiamggjebaabkaaDoor
