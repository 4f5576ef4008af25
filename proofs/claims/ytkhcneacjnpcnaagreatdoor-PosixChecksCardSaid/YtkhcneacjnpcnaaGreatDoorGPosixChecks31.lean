/- Merged: RulC. -/
import Derived.Test.YtkhcneacjnpcnaaGreatDoorGPosixChecks24
namespace Go.Proofs.YtkhcneacjnpcnaaGreatDoor
open Go.RowKit
set_option linter.unusedVariables false
set_option linter.unusedSimpArgs false

/-- A clock's block. -/
def Ck (w : World) (p : Nat) (n : Bool) (h m s : Int) : Prop := w.heap[p]? = some (.cells (clC n h m s) 76 (0, 0))
theorem Ck.lt {w : World} {p : Nat} {n : Bool} {h m s : Int} (k : Ck w p n h m s) : p < w.heap.size := bk_lt k
theorem Ck.keep {w w' : World} {p : Nat} {n : Bool} {h m s : Int} (k : Ck w p n h m s) (hb : Below w.heap.size w w') : Ck w' p n h m s := (hb.block p k.lt).trans k
theorem Ck.all {w : World} {p : Nat} {n : Bool} {h m s : Int} (k : Ck w p n h m s) : w.cell? ⟨p, 0, none⟩ = some (.bool n) ∧ w.cell? ⟨p, 1, none⟩ = some (.int .i64 h) ∧ w.cell? ⟨p, 2, none⟩ = some (.int .i64 m) ∧ w.cell? ⟨p, 3, none⟩ = some (.int .i64 s) :=
  ⟨bk_cell k 0, bk_cell k 1, bk_cell k 2, bk_cell k 3⟩
theorem ck_new (w : World) (n : Bool) (h m s : Int) : Ck (w.alloc (.cells (clC n h m s) 76)) w.heap.size n h m s := heap_alloc_new w _

/-- The text of a clock's parts. -/
def ctL (n : Bool) (h m s : Int) : List UInt8 := (if n = true then [45] ++ ptL h 1 else ptL h 1) ++ (if m = 0 ∧ s = 0 then [] else [58] ++ ptL m 2) ++ (if s = 0 then [] else [58] ++ ptL s 2)
theorem pt2 {n : Int} (h : 0 ≤ n) : ptL n 2 = pad 2 (Lib.decDigits n.natAbs) := pt_is (k := 2) h (by omega)
theorem ct_ck {t : Int} (h : t.natAbs < 3600000) : ctL (decide (t < 0)) (ab t / 3600) (ab t % 3600 / 60) (ab t % 60) = ckL t := by
  have ha : ab t = ((t.natAbs : Nat) : Int) := by unfold ab; split <;> omega
  rw [ha]
  unfold ctL ckL ckU
  generalize t.natAbs = a at *
  rw [pt1 (by omega), pt2 (by omega), pt2 (by omega)]
  rw [show ((a : Int) / 3600).natAbs = a / 3600 by omega, show ((a : Int) % 3600 / 60).natAbs = a / 60 % 60 by omega, show ((a : Int) % 60).natAbs = a % 60 by omega]
  have c1 : ((a : Int) % 3600 / 60 = 0 ∧ (a : Int) % 60 = 0) ↔ a % 3600 = 0 := by omega
  have c2 : ((a : Int) % 60 = 0) ↔ a % 60 = 0 := by omega
  simp only [c1]
  simp only [c2]
  by_cases d : t < 0
  · rw [decide_eq_true d, if_pos rfl, if_pos d]; simp
  · rw [decide_eq_false d, if_neg (by decide), if_neg d]; simp
theorem ba_size {S : ByteArray} {l : List UInt8} (h : S = ⟨l.toArray⟩) : S.size = l.length ∧ S.data.toList = l := by subst h; rw [Lib.size_mk]; exact ⟨rfl, by simp⟩

set_option maxHeartbeats 2000000 in
theorem text_any (n : Bool) (h m s : Int) (w : World) (hT : Tab w) (h0 : 0 ≤ h ∧ h < 100000) (m0 : 0 ≤ m ∧ m < 100000) (s0 : 0 ≤ s ∧ s < 100000) :
    Calls Tryz.prog 48 #[.agg (clC n h m s)] w fun e w' => e = .returned (.string ⟨(ctL n h m s).toArray⟩) ∧ Below w.heap.size w w' := by
  obtain ⟨W0, hW0⟩ : ∃ W0, W0 = w.alloc (.cells (clC n h m s) 76) := ⟨_, rfl⟩
  have B0 : Hid (Below w.heap.size w W0) := Lib.hid (by rw [hW0]; exact bel16 w _)
  have L0 : Ck W0 w.heap.size n h m s := by rw [hW0]; exact ck_new _ _ _ _ _
  obtain ⟨c0, c1, c2, c3⟩ := L0.all
  have R0 := Lib.hid L0
  have T0 := Lib.hid (hT.below B0.out)
  have D1 := Lib.hid (fun w t => digits16_any h 1 w (by unfold fits; omega) (by decide) t)
  have D2 := Lib.hid (fun w t => digits16_any m 2 w (by unfold fits; omega) (by decide) t)
  have D3 := Lib.hid (fun w t => digits16_any s 2 w (by unfold fits; omega) (by decide) t)
  obtain ⟨S1, hS1⟩ : ∃ S, S = (⟨(ptL h 1).toArray⟩ : ByteArray) := ⟨_, rfl⟩
  obtain ⟨S2, hS2⟩ : ∃ S, S = (⟨(ptL m 2).toArray⟩ : ByteArray) := ⟨_, rfl⟩
  obtain ⟨S3, hS3⟩ : ∃ S, S = (⟨(ptL s 2).toArray⟩ : ByteArray) := ⟨_, rfl⟩
  rw [← hS1] at D1; rw [← hS2] at D2; rw [← hS3] at D3
  obtain ⟨z1, l1⟩ := ba_size hS1
  obtain ⟨z2, l2⟩ := ba_size hS2
  obtain ⟨z3, l3⟩ := ba_size hS3
  have b1 := ptL_len (k := 1) h0.1 h0.2 (by omega)
  have b2 := ptL_len (k := 2) m0.1 m0.2 (by omega)
  have b3 := ptL_len (k := 2) s0.1 s0.2 (by omega)
  have b1' : S1.size ≤ 5 := by rw [z1]; exact b1
  have b2' : S2.size ≤ 5 := by rw [z2]; exact b2
  have b3' : S3.size ≤ 5 := by rw [z3]; exact b3
  obtain ⟨X1, A1, e1, g1⟩ := add_ba ⟨#[45]⟩ S1 (by decide) (by omega)
  obtain ⟨Y2, A2, e2, g2⟩ := add_ba ⟨#[58]⟩ S2 (by decide) (by omega)
  obtain ⟨Y3, A3, e3, g3⟩ := add_ba ⟨#[58]⟩ S3 (by decide) (by omega)
  have u1 : (⟨#[45]⟩ : ByteArray).size = 1 := rfl
  have u2 : (⟨#[58]⟩ : ByteArray).size = 1 := rfl
  rw [u1] at g1; rw [u2] at g2 g3
  rw [l1] at e1; rw [l2] at e2; rw [l3] at e3
  clear hT L0 hS1 hS2 hS3 z1 z2 z3 b1 b2 b3 u1 u2
  by_cases wfalse11 : n = false ∧ m = 0 ∧ s = 0
  · obtain ⟨rfl, p, q⟩ := wfalse11
    have t1 := ne_no p
    have t2 := ne_no q
    have HL : Hid (ctL false h m s = ptL h 1) := Lib.hid (by unfold ctL; simp [p, q])
    have HF : Hid (Value.string S1 = .string ⟨(ctL false h m s).toArray⟩) := Lib.hid (str_is (by rw [HL.out, l1]; try simp))
    clear p q h0 m0 s0 HL e1 e2 e3 l1 l2 l3
    go_enter Tryz.func48, Tryz.ntmps48
    go_upto_region 1 with fail
    rw [← hW0]; clear hW0
    go_wp2_with (first
      | (go_at_call 60; with_reducible refine (D1.out _ T0.out).mono ?_; rintro e w1 ⟨rfl, hb⟩; obtain ⟨c0, c1, c2, c3⟩ := (R0.out.keep hb).all; have R0 := Lib.hid (R0.out.keep hb); have T0 := Lib.hid (T0.out.below hb); have B0 := Lib.hid (B0.out.trans (hb.mono B0.out.size)); clear hb)
      | (go_at_call 60; with_reducible refine (D2.out _ T0.out).mono ?_; rintro e w1 ⟨rfl, hb⟩; obtain ⟨c0, c1, c2, c3⟩ := (R0.out.keep hb).all; have R0 := Lib.hid (R0.out.keep hb); have T0 := Lib.hid (T0.out.below hb); have B0 := Lib.hid (B0.out.trans (hb.mono B0.out.size)); clear hb)
      | (go_at_call 60; with_reducible refine (D3.out _ T0.out).mono ?_; rintro e w1 ⟨rfl, hb⟩; obtain ⟨c0, c1, c2, c3⟩ := (R0.out.keep hb).all; have R0 := Lib.hid (R0.out.keep hb); have T0 := Lib.hid (T0.out.below hb); have B0 := Lib.hid (B0.out.trans (hb.mono B0.out.size)); clear hb))
    go_ret
    exact ⟨ret1_eq HF.out, B0.out⟩
  by_cases wfalse01 : n = false ∧ m ≠ 0 ∧ s = 0
  · obtain ⟨rfl, p, q⟩ := wfalse01
    have t1 := ne_yes p
    have t2 := ne_no q
    obtain ⟨P2, C2, k2, j2⟩ := add_ba S1 Y2 (by omega) (by omega)
    have HL : Hid (ctL false h m s = ptL h 1 ++ ([58] ++ ptL m 2)) := Lib.hid (by unfold ctL; simp [p, q])
    have HF : Hid (Value.string P2 = .string ⟨(ctL false h m s).toArray⟩) := Lib.hid (str_is (by rw [HL.out, k2, l1, e2]; try simp))
    clear p q h0 m0 s0 HL e1 e2 e3 l1 l2 l3 k2
    go_enter Tryz.func48, Tryz.ntmps48
    go_upto_region 1 with fail
    rw [← hW0]; clear hW0
    go_wp2_with (first
      | (go_at_call 60; with_reducible refine (D1.out _ T0.out).mono ?_; rintro e w1 ⟨rfl, hb⟩; obtain ⟨c0, c1, c2, c3⟩ := (R0.out.keep hb).all; have R0 := Lib.hid (R0.out.keep hb); have T0 := Lib.hid (T0.out.below hb); have B0 := Lib.hid (B0.out.trans (hb.mono B0.out.size)); clear hb)
      | (go_at_call 60; with_reducible refine (D2.out _ T0.out).mono ?_; rintro e w1 ⟨rfl, hb⟩; obtain ⟨c0, c1, c2, c3⟩ := (R0.out.keep hb).all; have R0 := Lib.hid (R0.out.keep hb); have T0 := Lib.hid (T0.out.below hb); have B0 := Lib.hid (B0.out.trans (hb.mono B0.out.size)); clear hb)
      | (go_at_call 60; with_reducible refine (D3.out _ T0.out).mono ?_; rintro e w1 ⟨rfl, hb⟩; obtain ⟨c0, c1, c2, c3⟩ := (R0.out.keep hb).all; have R0 := Lib.hid (R0.out.keep hb); have T0 := Lib.hid (T0.out.below hb); have B0 := Lib.hid (B0.out.trans (hb.mono B0.out.size)); clear hb))
    go_ret
    exact ⟨ret1_eq HF.out, B0.out⟩
  by_cases wfalse10 : n = false ∧ m = 0 ∧ s ≠ 0
  · obtain ⟨rfl, p, q⟩ := wfalse10
    have t1 := ne_no p
    have t2 := ne_yes q
    obtain ⟨P2, C2, k2, j2⟩ := add_ba S1 Y2 (by omega) (by omega)
    obtain ⟨P3, C3, k3, j3⟩ := add_ba P2 Y3 (by omega) (by omega)
    have HL : Hid (ctL false h m s = ptL h 1 ++ ([58] ++ ptL m 2) ++ ([58] ++ ptL s 2)) := Lib.hid (by unfold ctL; simp [p, q])
    have HF : Hid (Value.string P3 = .string ⟨(ctL false h m s).toArray⟩) := Lib.hid (str_is (by rw [HL.out, k3, k2, l1, e2, e3]; try simp))
    clear p q h0 m0 s0 HL e1 e2 e3 l1 l2 l3 k2 k3
    go_enter Tryz.func48, Tryz.ntmps48
    go_upto_region 1 with fail
    rw [← hW0]; clear hW0
    go_wp2_with (first
      | (go_at_call 60; with_reducible refine (D1.out _ T0.out).mono ?_; rintro e w1 ⟨rfl, hb⟩; obtain ⟨c0, c1, c2, c3⟩ := (R0.out.keep hb).all; have R0 := Lib.hid (R0.out.keep hb); have T0 := Lib.hid (T0.out.below hb); have B0 := Lib.hid (B0.out.trans (hb.mono B0.out.size)); clear hb)
      | (go_at_call 60; with_reducible refine (D2.out _ T0.out).mono ?_; rintro e w1 ⟨rfl, hb⟩; obtain ⟨c0, c1, c2, c3⟩ := (R0.out.keep hb).all; have R0 := Lib.hid (R0.out.keep hb); have T0 := Lib.hid (T0.out.below hb); have B0 := Lib.hid (B0.out.trans (hb.mono B0.out.size)); clear hb)
      | (go_at_call 60; with_reducible refine (D3.out _ T0.out).mono ?_; rintro e w1 ⟨rfl, hb⟩; obtain ⟨c0, c1, c2, c3⟩ := (R0.out.keep hb).all; have R0 := Lib.hid (R0.out.keep hb); have T0 := Lib.hid (T0.out.below hb); have B0 := Lib.hid (B0.out.trans (hb.mono B0.out.size)); clear hb))
    go_ret
    exact ⟨ret1_eq HF.out, B0.out⟩
  by_cases wfalse00 : n = false ∧ m ≠ 0 ∧ s ≠ 0
  · obtain ⟨rfl, p, q⟩ := wfalse00
    have t1 := ne_yes p
    have t2 := ne_yes q
    obtain ⟨P2, C2, k2, j2⟩ := add_ba S1 Y2 (by omega) (by omega)
    obtain ⟨P3, C3, k3, j3⟩ := add_ba P2 Y3 (by omega) (by omega)
    have HL : Hid (ctL false h m s = ptL h 1 ++ ([58] ++ ptL m 2) ++ ([58] ++ ptL s 2)) := Lib.hid (by unfold ctL; simp [p, q])
    have HF : Hid (Value.string P3 = .string ⟨(ctL false h m s).toArray⟩) := Lib.hid (str_is (by rw [HL.out, k3, k2, l1, e2, e3]; try simp))
    clear p q h0 m0 s0 HL e1 e2 e3 l1 l2 l3 k2 k3
    go_enter Tryz.func48, Tryz.ntmps48
    go_upto_region 1 with fail
    rw [← hW0]; clear hW0
    go_wp2_with (first
      | (go_at_call 60; with_reducible refine (D1.out _ T0.out).mono ?_; rintro e w1 ⟨rfl, hb⟩; obtain ⟨c0, c1, c2, c3⟩ := (R0.out.keep hb).all; have R0 := Lib.hid (R0.out.keep hb); have T0 := Lib.hid (T0.out.below hb); have B0 := Lib.hid (B0.out.trans (hb.mono B0.out.size)); clear hb)
      | (go_at_call 60; with_reducible refine (D2.out _ T0.out).mono ?_; rintro e w1 ⟨rfl, hb⟩; obtain ⟨c0, c1, c2, c3⟩ := (R0.out.keep hb).all; have R0 := Lib.hid (R0.out.keep hb); have T0 := Lib.hid (T0.out.below hb); have B0 := Lib.hid (B0.out.trans (hb.mono B0.out.size)); clear hb)
      | (go_at_call 60; with_reducible refine (D3.out _ T0.out).mono ?_; rintro e w1 ⟨rfl, hb⟩; obtain ⟨c0, c1, c2, c3⟩ := (R0.out.keep hb).all; have R0 := Lib.hid (R0.out.keep hb); have T0 := Lib.hid (T0.out.below hb); have B0 := Lib.hid (B0.out.trans (hb.mono B0.out.size)); clear hb))
    go_ret
    exact ⟨ret1_eq HF.out, B0.out⟩
  by_cases wtrue11 : n = true ∧ m = 0 ∧ s = 0
  · obtain ⟨rfl, p, q⟩ := wtrue11
    have t1 := ne_no p
    have t2 := ne_no q
    have HL : Hid (ctL true h m s = [45] ++ ptL h 1) := Lib.hid (by unfold ctL; simp [p, q])
    have HF : Hid (Value.string X1 = .string ⟨(ctL true h m s).toArray⟩) := Lib.hid (str_is (by rw [HL.out, e1]; try simp))
    clear p q h0 m0 s0 HL e1 e2 e3 l1 l2 l3
    go_enter Tryz.func48, Tryz.ntmps48
    go_upto_region 1 with fail
    rw [← hW0]; clear hW0
    go_wp2_with (first
      | (go_at_call 60; with_reducible refine (D1.out _ T0.out).mono ?_; rintro e w1 ⟨rfl, hb⟩; obtain ⟨c0, c1, c2, c3⟩ := (R0.out.keep hb).all; have R0 := Lib.hid (R0.out.keep hb); have T0 := Lib.hid (T0.out.below hb); have B0 := Lib.hid (B0.out.trans (hb.mono B0.out.size)); clear hb)
      | (go_at_call 60; with_reducible refine (D2.out _ T0.out).mono ?_; rintro e w1 ⟨rfl, hb⟩; obtain ⟨c0, c1, c2, c3⟩ := (R0.out.keep hb).all; have R0 := Lib.hid (R0.out.keep hb); have T0 := Lib.hid (T0.out.below hb); have B0 := Lib.hid (B0.out.trans (hb.mono B0.out.size)); clear hb)
      | (go_at_call 60; with_reducible refine (D3.out _ T0.out).mono ?_; rintro e w1 ⟨rfl, hb⟩; obtain ⟨c0, c1, c2, c3⟩ := (R0.out.keep hb).all; have R0 := Lib.hid (R0.out.keep hb); have T0 := Lib.hid (T0.out.below hb); have B0 := Lib.hid (B0.out.trans (hb.mono B0.out.size)); clear hb))
    go_ret
    exact ⟨ret1_eq HF.out, B0.out⟩
  by_cases wtrue01 : n = true ∧ m ≠ 0 ∧ s = 0
  · obtain ⟨rfl, p, q⟩ := wtrue01
    have t1 := ne_yes p
    have t2 := ne_no q
    obtain ⟨P2, C2, k2, j2⟩ := add_ba X1 Y2 (by omega) (by omega)
    have HL : Hid (ctL true h m s = [45] ++ ptL h 1 ++ ([58] ++ ptL m 2)) := Lib.hid (by unfold ctL; simp [p, q])
    have HF : Hid (Value.string P2 = .string ⟨(ctL true h m s).toArray⟩) := Lib.hid (str_is (by rw [HL.out, k2, e1, e2]; try simp))
    clear p q h0 m0 s0 HL e1 e2 e3 l1 l2 l3 k2
    go_enter Tryz.func48, Tryz.ntmps48
    go_upto_region 1 with fail
    rw [← hW0]; clear hW0
    go_wp2_with (first
      | (go_at_call 60; with_reducible refine (D1.out _ T0.out).mono ?_; rintro e w1 ⟨rfl, hb⟩; obtain ⟨c0, c1, c2, c3⟩ := (R0.out.keep hb).all; have R0 := Lib.hid (R0.out.keep hb); have T0 := Lib.hid (T0.out.below hb); have B0 := Lib.hid (B0.out.trans (hb.mono B0.out.size)); clear hb)
      | (go_at_call 60; with_reducible refine (D2.out _ T0.out).mono ?_; rintro e w1 ⟨rfl, hb⟩; obtain ⟨c0, c1, c2, c3⟩ := (R0.out.keep hb).all; have R0 := Lib.hid (R0.out.keep hb); have T0 := Lib.hid (T0.out.below hb); have B0 := Lib.hid (B0.out.trans (hb.mono B0.out.size)); clear hb)
      | (go_at_call 60; with_reducible refine (D3.out _ T0.out).mono ?_; rintro e w1 ⟨rfl, hb⟩; obtain ⟨c0, c1, c2, c3⟩ := (R0.out.keep hb).all; have R0 := Lib.hid (R0.out.keep hb); have T0 := Lib.hid (T0.out.below hb); have B0 := Lib.hid (B0.out.trans (hb.mono B0.out.size)); clear hb))
    go_ret
    exact ⟨ret1_eq HF.out, B0.out⟩
  by_cases wtrue10 : n = true ∧ m = 0 ∧ s ≠ 0
  · obtain ⟨rfl, p, q⟩ := wtrue10
    have t1 := ne_no p
    have t2 := ne_yes q
    obtain ⟨P2, C2, k2, j2⟩ := add_ba X1 Y2 (by omega) (by omega)
    obtain ⟨P3, C3, k3, j3⟩ := add_ba P2 Y3 (by omega) (by omega)
    have HL : Hid (ctL true h m s = [45] ++ ptL h 1 ++ ([58] ++ ptL m 2) ++ ([58] ++ ptL s 2)) := Lib.hid (by unfold ctL; simp [p, q])
    have HF : Hid (Value.string P3 = .string ⟨(ctL true h m s).toArray⟩) := Lib.hid (str_is (by rw [HL.out, k3, k2, e1, e2, e3]; try simp))
    clear p q h0 m0 s0 HL e1 e2 e3 l1 l2 l3 k2 k3
    go_enter Tryz.func48, Tryz.ntmps48
    go_upto_region 1 with fail
    rw [← hW0]; clear hW0
    go_wp2_with (first
      | (go_at_call 60; with_reducible refine (D1.out _ T0.out).mono ?_; rintro e w1 ⟨rfl, hb⟩; obtain ⟨c0, c1, c2, c3⟩ := (R0.out.keep hb).all; have R0 := Lib.hid (R0.out.keep hb); have T0 := Lib.hid (T0.out.below hb); have B0 := Lib.hid (B0.out.trans (hb.mono B0.out.size)); clear hb)
      | (go_at_call 60; with_reducible refine (D2.out _ T0.out).mono ?_; rintro e w1 ⟨rfl, hb⟩; obtain ⟨c0, c1, c2, c3⟩ := (R0.out.keep hb).all; have R0 := Lib.hid (R0.out.keep hb); have T0 := Lib.hid (T0.out.below hb); have B0 := Lib.hid (B0.out.trans (hb.mono B0.out.size)); clear hb)
      | (go_at_call 60; with_reducible refine (D3.out _ T0.out).mono ?_; rintro e w1 ⟨rfl, hb⟩; obtain ⟨c0, c1, c2, c3⟩ := (R0.out.keep hb).all; have R0 := Lib.hid (R0.out.keep hb); have T0 := Lib.hid (T0.out.below hb); have B0 := Lib.hid (B0.out.trans (hb.mono B0.out.size)); clear hb))
    go_ret
    exact ⟨ret1_eq HF.out, B0.out⟩
  by_cases wtrue00 : n = true ∧ m ≠ 0 ∧ s ≠ 0
  · obtain ⟨rfl, p, q⟩ := wtrue00
    have t1 := ne_yes p
    have t2 := ne_yes q
    obtain ⟨P2, C2, k2, j2⟩ := add_ba X1 Y2 (by omega) (by omega)
    obtain ⟨P3, C3, k3, j3⟩ := add_ba P2 Y3 (by omega) (by omega)
    have HL : Hid (ctL true h m s = [45] ++ ptL h 1 ++ ([58] ++ ptL m 2) ++ ([58] ++ ptL s 2)) := Lib.hid (by unfold ctL; simp [p, q])
    have HF : Hid (Value.string P3 = .string ⟨(ctL true h m s).toArray⟩) := Lib.hid (str_is (by rw [HL.out, k3, k2, e1, e2, e3]; try simp))
    clear p q h0 m0 s0 HL e1 e2 e3 l1 l2 l3 k2 k3
    go_enter Tryz.func48, Tryz.ntmps48
    go_upto_region 1 with fail
    rw [← hW0]; clear hW0
    go_wp2_with (first
      | (go_at_call 60; with_reducible refine (D1.out _ T0.out).mono ?_; rintro e w1 ⟨rfl, hb⟩; obtain ⟨c0, c1, c2, c3⟩ := (R0.out.keep hb).all; have R0 := Lib.hid (R0.out.keep hb); have T0 := Lib.hid (T0.out.below hb); have B0 := Lib.hid (B0.out.trans (hb.mono B0.out.size)); clear hb)
      | (go_at_call 60; with_reducible refine (D2.out _ T0.out).mono ?_; rintro e w1 ⟨rfl, hb⟩; obtain ⟨c0, c1, c2, c3⟩ := (R0.out.keep hb).all; have R0 := Lib.hid (R0.out.keep hb); have T0 := Lib.hid (T0.out.below hb); have B0 := Lib.hid (B0.out.trans (hb.mono B0.out.size)); clear hb)
      | (go_at_call 60; with_reducible refine (D3.out _ T0.out).mono ?_; rintro e w1 ⟨rfl, hb⟩; obtain ⟨c0, c1, c2, c3⟩ := (R0.out.keep hb).all; have R0 := Lib.hid (R0.out.keep hb); have T0 := Lib.hid (T0.out.below hb); have B0 := Lib.hid (B0.out.trans (hb.mono B0.out.size)); clear hb))
    go_ret
    exact ⟨ret1_eq HF.out, B0.out⟩
  exfalso
  cases n <;> by_cases p : m = 0 <;> by_cases q : s = 0 <;> simp_all
end Go.Proofs.YtkhcneacjnpcnaaGreatDoor
