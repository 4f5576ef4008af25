/- Merged: RefC, RefD, RefE. -/
import Derived.Test.YtdonicaiimeleaaGreatDoorGListParses5
import Derived.Test.YtdonicaiimeleaaGreatDoorGListParses8
import Derived.Deep.DeepCutAuto
import Derived.Deep.CutRange
import Derived.Deep.RegionHeld3
import Derived.Deep.RegionWith
import Derived.Deep.QuietTactic
import Derived.Deep.CutBlock
import Derived.Deep.LoopGhost
namespace Go.Proofs.YtdonicaiimeleaaGreatDoor
open Go.RowKit
set_option linter.unusedVariables false

theorem bwhole_set {w : World} {g : Nat} {cs : Array Value} {t : TypeId} (h : w.heap[g]? = some (.cells cs t (0, 0))) (i : Nat) (u : Value) : (w.setCell ⟨g, i, none⟩ u).heap[g]? = some (.cells (cs.setIfInBounds i u) t (0, 0)) := by
  simp [World.setCell, Array.getElem?_modify, h]
theorem BV.opened {w : World} {v : Value} {z : Int} {k : Nat} (h : BV w v z k) : ∃ (b : Bool) (A : Option Addr) (n c : Nat), v = .agg #[.bool b, .slice A n c] := by
  obtain ⟨A, ds, c, rfl, _⟩ := h
  exact ⟨_, A, _, c, rfl⟩
theorem BV.stored2 {w : World} {v : Value} {z : Int} {k : Nat} (h : BV w v z k) {p q : Addr} {b : Bool} {C : Option Addr} {n c : Nat} (hp : w.cell? p = some (.bool b)) (hq : w.cell? q = some (.slice C n c)) (x y : Value) :
    BV ((w.setCell p x).setCell q y) v z k := by
  obtain ⟨A, ds, c', e, h1, h2⟩ := h
  exact ⟨A, ds, c', e, h1.store2 hp hq x y, h2⟩
theorem BV.up {w : World} {v : Value} {z : Int} {k l : Nat} (h : BV w v z k) (hl : k ≤ l) : BV w v z l := by
  obtain ⟨A, ds, c, h1, h2, h3, h4, h5, h6⟩ := h
  exact ⟨A, ds, c, h1, h2, h3, h4, by omega, h6⟩

/-- What the loop of Big keeps: the Big in block q; block p, the result's, as it was. -/
def SB (l : List UInt8) (p q : Nat) (w0 : World) (i : Nat) (wr : World) : Prop :=
  ∃ (s : Bool) (A : Option Addr) (n c : Nat), wr.heap[q]? = some (.cells #[.bool s, .slice A n c] 184 (0, 0)) ∧
    BV wr (.agg #[.bool s, .slice A n c]) (dv (l.take i) : Nat) (4 + 6 * i) ∧ wr.heap[p]? = some (.cells #[.bool false, .slice none 0 0] 184 (0, 0)) ∧ Below w0.heap.size w0 wr

set_option maxRecDepth 100000 in
set_option maxHeartbeats 6400000 in
theorem rbig_any (s : ByteArray) (w : World) (hs : s.size ≤ 20) (hd : ∀ b ∈ s.data.toList, isd b = true) :
    Calls Tryz.prog 112 #[.string s] w fun e w' => ∃ v, e = .returned v ∧ BV w' v (dv s.data.toList : Nat) 130 ∧ Below w.heap.size w w' := by
  have hsz : s.data.toList.length = s.size := by simp
  have HD := Lib.hid hd; have HSZ := Lib.hid hsz; clear hd hsz
  go_enter Tryz.func112, Tryz.ntmps112
  go_wp2_with fail
  have hp0 := heap_alloc_new w (.cells #[.bool false, .slice none 0 0] 184)
  have hb0 : Below w.heap.size w (w.alloc (.cells #[.bool false, .slice none 0 0] 184)) := (Below.refl _ _).alloc (Nat.le_refl _) _
  generalize hW0 : World.alloc w _ = W0 at hp0 hb0 ⊢
  clear hW0
  have P0 := Lib.hid hp0; have B0 := Lib.hid hb0; clear hp0 hb0
  refine (of_any 0 _ (by decide)).mono ?_
  rintro e w1 ⟨v1, rfl, b1, hb1⟩
  obtain ⟨s1, A1, n1, c1, rfl⟩ := b1.opened
  have P1 := Lib.hid ((hb1.block _ (whole_lt P0.out)).trans P0.out)
  have V1 := Lib.hid b1
  have B1 := Lib.hid (B0.out.trans (hb1.mono B0.out.size))
  clear b1 hb1 P0 B0
  go_wp2_with fail
  have hq0 := heap_alloc_new w1 (.cells #[.bool s1, .slice A1 n1 c1] 184)
  have hb2 : Below w1.heap.size w1 (w1.alloc (.cells #[.bool s1, .slice A1 n1 c1] 184)) := (Below.refl _ _).alloc (Nat.le_refl _) _
  have hne : w.heap.size < w1.heap.size := whole_lt P1.out
  obtain ⟨p, hp⟩ : ∃ p, p = w.heap.size := ⟨_, rfl⟩
  rw [← hp] at P1 hne ⊢
  obtain ⟨q, hq⟩ : ∃ q, q = w1.heap.size := ⟨_, rfl⟩
  rw [← hq] at hne
  generalize hW2 : World.alloc w1 _ = W2 at hq0 hb2 ⊢
  have S0 : Hid (SB s.data.toList p q w 0 W2) := ⟨s1, A1, n1, c1, by rw [hq]; exact hq0, by rw [List.take_zero]; exact V1.out.below hb2, (hb2.block _ (whole_lt P1.out)).trans P1.out, B1.out.trans (hb2.mono B1.out.size)⟩
  have hpw : Hid (w.heap.size ≤ p) := by rw [hp]; exact Nat.le_refl _
  have hqw : Hid (w.heap.size ≤ q) := by rw [hq]; exact B1.out.size
  rw [← hq]
  clear hW2 hq0 hb2 hp hq P1 V1 B1
  go_loopg [4] s.size (fun g s4 wr => ∃ i : Nat, s4 = .int .i64 i ∧ i ≤ s.size ∧ g = s.size - i ∧ Hid (SB s.data.toList p q w i wr))
  case atStart => exact ⟨0, rfl, Nat.zero_le _, rfl, S0⟩
  case round =>
    obtain ⟨i, rfl, hi, rfl, HS⟩ := hrel
    clear S0
    by_cases hlt : i < s.size
    · obtain ⟨b, A, n, c, g1, g2, g3, g4⟩ := HS.out
      have hb := isd_bd (HD.out s[i] (by rw [← at_list s i hlt]; exact List.getElem_mem _))
      have hst := dv_step hlt
      have HST : Hid (((dv (s.data.toList.take (i + 1)) : Nat) : Int) = ((dv (s.data.toList.take i) : Nat) : Int) * 10 + ((s[i].toNat : Int) - 48)) := by
        show _ = _; rw [hst]; omega
      clear hst
      obtain ⟨z, hz⟩ : ∃ z : Int, z = ((dv (s.data.toList.take i) : Nat) : Int) := ⟨_, rfl⟩
      rw [← hz] at g2 HST
      have VZ := Lib.hid g2; have G1 := Lib.hid g1; have G3 := Lib.hid g3; have G4 := Lib.hid g4
      have k1 : wr.cell? ⟨q, 0, none⟩ = some (.bool b) := whole_cell g1 0
      have k2 : wr.cell? ⟨q, 1, none⟩ = some (.slice A n c) := whole_cell g1 1
      have f1 := whole_free g1 0
      have f2 := whole_free g1 1
      clear g1 g2 g3 g4 hz
      have w8 : IntKind.u8.wrap ((s[i].toNat : Int) - 48) = (s[i].toNat : Int) - 48 := by simp [IntKind.wrap, IntKind.signed, IntKind.bits]; omega
      have w64 : IntKind.i64.wrap ((s[i].toNat : Int) - 48) = (s[i].toNat : Int) - 48 := by simp [IntKind.wrap, IntKind.signed, IntKind.bits]; omega
      go_upto_block 1 with fail
      go_cut [] (fun wx => SB s.data.toList p q w (i + 1) wx)
      case first =>
        go_upto_region 5 with fail
        go_region_with (first
          | (go_at_call 144; have hB4 := B4.out; refine (of_any _ _ (by unfold fits; omega)).mono ?_; clear hB4; rintro e w5 ⟨v5, rfl, b5, hb5⟩; have V5 := Lib.hid b5; have V6 := Lib.hid (V4.out.below hb5); have B5 : Hid (Below wr.heap.size wr w5) := B4.out.trans (hb5.mono B4.out.size); clear b5 hb5)
          | (go_at_call 144; refine (of_any 10 _ (by decide)).mono ?_; rintro e w3 ⟨v3, rfl, b3, hb3⟩; have V3 := Lib.hid b3; have B3 : Hid (Below wr.heap.size wr w3) := (⟨hb3.os, hb3.tape, hb3.output, hb3.size, hb3.block⟩ : Below wr.heap.size wr w3); have hk1 : w3.cell? ⟨q, 0, none⟩ = some (.bool b) := whole_cell ((B3.out.block _ (whole_lt G1.out)).trans G1.out) 0; have hk2 : w3.cell? ⟨q, 1, none⟩ = some (.slice A n c) := whole_cell ((B3.out.block _ (whole_lt G1.out)).trans G1.out) 1; clear b3 hb3)
          | (go_at_call 147; refine (times_big _ _ z 10 (4 + 6 * i) 4 _ (VZ.out.below ?_) V3.out (by omega) (by omega)).mono ?_; exact B3.out; rintro e w4 ⟨v4, rfl, b4, hb4⟩; have V4 := Lib.hid b4; have B4 : Hid (Below wr.heap.size wr w4) := B3.out.trans (hb4.mono B3.out.size); clear b4 hb4)
          | (go_at_call 146; refine (plus_big _ _ (z * 10) _ (4 + 6 * i + 4 + 1) 4 _ V6.out V5.out (by omega) (by omega)).mono ?_; rintro e w6 ⟨v6, rfl, b6, hb6⟩; obtain ⟨s6, A6, n6, c6, rfl⟩ := b6.opened; have V7 := Lib.hid b6; have B6 : Hid (Below wr.heap.size wr w6) := B5.out.trans (hb6.mono B5.out.size); have hm1 : w6.cell? ⟨q, 0, none⟩ = some (.bool b) := whole_cell ((B6.out.block _ (whole_lt G1.out)).trans G1.out) 0; have hm2 : w6.cell? ⟨q, 1, none⟩ = some (.slice A n c) := whole_cell ((B6.out.block _ (whole_lt G1.out)).trans G1.out) 1; have hf1 : w6.frozen? ⟨q, 0, none⟩ = false := whole_free ((B6.out.block _ (whole_lt G1.out)).trans G1.out) 0; have hf2 : w6.frozen? ⟨q, 1, none⟩ = false := whole_free ((B6.out.block _ (whole_lt G1.out)).trans G1.out) 1; clear b6 hb6))
        all_goals
          go_wp2_with fail
          go_meet
          have hh := (B6.out.block _ (whole_lt G1.out)).trans G1.out
          have hh3 := (B6.out.block _ (whole_lt G3.out)).trans G3.out
          refine ⟨s6, A6, n6, c6, bwhole_set (bwhole_set hh 0 _) 1 _, ?_, ?_, ?_⟩
          · have h := V7.out.stored2 hm1 hm2 (.bool s6) (.slice A6 n6 c6)
            rw [← HST.out] at h
            exact h.up (by omega)
          · rw [Below.heap_setCell _ _ _ _ (by show p ≠ q; omega), Below.heap_setCell _ _ _ _ (by show p ≠ q; omega)]
            exact hh3
          · exact ((G4.out.trans (B6.out.mono G4.out.size)).setCell hqw.out _).setCell hqw.out _
      case rest =>
        have HS' := Lib.hid hcut; clear hcut k1 k2 f1 f2 w8 w64
        go_wp2_with fail
        go_roundg (s.size - (i + 1))
        case measure => omega
        case rel => exact ⟨i + 1, by go_num, by omega, rfl, HS'⟩
    · obtain ⟨b, A, n, c, g1, g2, g3, g4⟩ := HS.out
      have e : s.data.toList.take i = s.data.toList := List.take_of_length_le (by rw [HSZ.out]; omega)
      rw [e] at g2
      have V := Lib.hid (g2.up (l := 130) (by omega))
      have G4 := Lib.hid g4
      have k1 : wr.cell? ⟨q, 0, none⟩ = some (.bool b) := whole_cell g1 0
      have k2 : wr.cell? ⟨q, 1, none⟩ = some (.slice A n c) := whole_cell g1 1
      have k3 : wr.cell? ⟨p, 0, none⟩ = some (.bool false) := whole_cell g3 0
      have k4 : wr.cell? ⟨p, 1, none⟩ = some (.slice none 0 0) := whole_cell g3 1
      have f3 := whole_free g3 0
      have f4 := whole_free g3 1
      have gg := bwhole_set (bwhole_set g3 0 (.bool b)) 1 (.slice A n c)
      have r1 : ((wr.setCell ⟨p, 0, none⟩ (.bool b)).setCell ⟨p, 1, none⟩ (.slice A n c)).cell? ⟨p, 0, none⟩ = some (.bool b) := whole_cell gg 0
      have r2 : ((wr.setCell ⟨p, 0, none⟩ (.bool b)).setCell ⟨p, 1, none⟩ (.slice A n c)).cell? ⟨p, 1, none⟩ = some (.slice A n c) := whole_cell gg 1
      have R1 := Lib.hid r1; have R2 := Lib.hid r2
      clear gg r1 r2
      clear g1 g2 g3 g4 e
      go_wp2_with fail
      refine bodyPost_ret (v := .agg #[.bool b, .slice A n c]) (by simp [results, Tryz.results112, go_sem, R1.out, R2.out]) rfl ⟨_, rfl, V.out.stored2 k3 k4 _ _, (G4.out.setCell hpw.out _).setCell hpw.out _⟩
end Go.Proofs.YtdonicaiimeleaaGreatDoor

namespace Go.Proofs.YtdonicaiimeleaaGreatDoor
open Go.RowKit
set_option linter.unusedVariables false

theorem small_vl (l : List UInt8) : bad (dv l : Nat) = vlE l mx ∧ sm (dv l : Nat) = (vlN l mx : Nat) := by
  have hm := mx_is
  unfold vlE vlN
  by_cases h : mx < dv l
  · have hf : ¬ fits ((dv l : Nat) : Int) := by unfold fits; omega
    rw [if_pos h, if_pos h, bad_no hf, sm_no hf]; exact ⟨rfl, rfl⟩
  · have hf : fits ((dv l : Nat) : Int) := by unfold fits; omega
    rw [if_neg h, if_neg h, bad_fit hf, sm_fit hf]; exact ⟨rfl, rfl⟩
/-- Where the bounds are in order: the number of figures that are taken. -/
theorem tk_in {l : List UInt8} {a b : Int} {lim n : Nat} (hR : tkR a b = false) (hn : tkk l b = n) :
    (((n : Int) < a) → tkE l a b lim = 2 ∧ tkN l a b lim = 0 ∧ tkK l a b lim = 0) ∧
    (¬ ((n : Int) < a) → tkE l a b lim = vlE (l.take n) lim ∧ tkN l a b lim = vlN (l.take n) lim ∧ tkK l a b lim = if vlE (l.take n) lim = 0 then n else 0) := by
  subst hn
  constructor
  · intro h
    have e : tkE l a b lim = 2 := by unfold tkE; rw [hR, if_neg (by decide), if_pos h]
    exact ⟨e, tk_no e (by decide)⟩
  · intro h
    have e : tkE l a b lim = vlE (l.take (tkk l b)) lim := by unfold tkE; rw [hR, if_neg (by decide), if_neg h]
    refine ⟨e, ?_, by unfold tkK; rw [e]⟩
    unfold tkN; rw [e]
    rcases vl_E (l.take (tkk l b)) lim with ⟨h1, h2, _⟩ | ⟨h1, h2, _⟩
    · rw [h1, h2]; rfl
    · rw [h1, h2]; rfl

theorem some_first (s : ByteArray) (n : Nat) (h : n ≤ s.size) (h20 : n ≤ 20) (hl : n ≤ lead s.data.toList) (w : World) :
    Calls Tryz.prog 112 #[.string (s.extract 0 n)] w fun e w' => ∃ v, e = .returned v ∧ BV w' v (dv (s.data.toList.take n) : Nat) 130 ∧ Below w.heap.size w w' := by
  have hv := rbig_any (s.extract 0 n) w (by rw [ByteArray.size_extract]; omega) (by rw [Lib.extract_upto]; exact lead_mem hl)
  rw [show (s.extract 0 n).data.toList = s.data.toList.take n by rw [Lib.extract_upto]] at hv
  exact hv

set_option maxRecDepth 100000 in
set_option maxHeartbeats 1600000 in
theorem rtake_any (s : ByteArray) (a b : Int) (w : World) (hs : s.size ≤ maxLen) (ha : fits a) (hb : fits b) :
    Calls Tryz.prog 86 #[.string s, .int .i64 a, .int .i64 b] w fun e w' =>
      e = .returned (.tuple #[.int .i64 (tkN s.data.toList a b mx : Nat), .int .i64 (tkK s.data.toList a b mx : Nat), .int .i64 (tkE s.data.toList a b mx)]) ∧ Below w.heap.size w w' := by
  cases hR : tkR a b
  · have hr' : ¬ a < 1 ∧ ¬ b < a ∧ ¬ 20 < b := by unfold tkR at hR; simp at hR; omega
    obtain ⟨h1, h2, h3⟩ := hr'
    obtain ⟨m, rfl⟩ := Int.eq_ofNat_of_zero_le (show 0 ≤ b by omega)
    have hM := Lib.hid (many_any s w hs)
    have hle := lead_le s.data.toList
    have hsz : s.data.toList.length = s.size := by simp
    obtain ⟨n, hn⟩ : ∃ n : Nat, n = tkk s.data.toList m := ⟨_, rfl⟩
    have hk : n = min (lead s.data.toList) m := by rw [hn]; unfold tkk; rfl
    obtain ⟨t1, t2⟩ := tk_in (l := s.data.toList) (lim := mx) hR hn.symm
    have hnl : n ≤ lead s.data.toList := by omega
    have hns : n ≤ s.size := by omega
    have hn20 : n ≤ 20 := by omega
    have HB := fun w => Lib.hid (some_first s n hns hn20 hnl w)
    obtain ⟨y1, y2⟩ := small_vl (s.data.toList.take n)
    obtain ⟨L, hL⟩ : ∃ L, L = lead s.data.toList := ⟨_, rfl⟩
    rw [← hL] at hM hk
    have hLs : L ≤ s.size := by omega
    generalize tkN s.data.toList a m mx = N at *
    generalize tkK s.data.toList a m mx = K at *
    generalize tkE s.data.toList a m mx = E at *
    rcases (by omega : (m < L ∧ n = m) ∨ (¬ m < L ∧ n = L)) with ⟨g1, rfl⟩ | ⟨g1, rfl⟩
    all_goals
      rcases (by omega : ((n : Int) < a) ∨ ¬ ((n : Int) < a)) with h4 | h4
      · obtain ⟨rfl, rfl, rfl⟩ := t1 h4
        clear t1 t2 y1 y2 HB hn hk hL hR hle hsz ha hb hnl
        go_enter Tryz.func86, Tryz.ntmps86
        go_wp2_with (go_at_call 110; refine hM.out.mono ?_; rintro e w' ⟨rfl, rfl⟩)
        go_ret3
        exact ⟨ret3_eq rfl rfl rfl, Below.refl _ _⟩
      · obtain ⟨rfl, rfl, hK⟩ := t2 h4
        have HY1 := Lib.hid y1; have HY2 := Lib.hid y2; have HK := Lib.hid hK
        rcases vl_E (s.data.toList.take n) mx with ⟨v1, v2, v3⟩ | ⟨v1, v2, v3⟩
        · have hKz : K = 0 := by rw [hK, v1]; rfl
          subst hKz
          rw [v1] at HY1; rw [v2] at HY2; rw [v1, v2]
          clear t1 t2 y1 y2 hK HK v1 v2 v3 hn hk hL hR hle hsz ha hb hnl
          go_enter Tryz.func86, Tryz.ntmps86
          go_wp2_with (first
            | (go_at_call 110; refine hM.out.mono ?_; rintro e w' ⟨rfl, rfl⟩)
            | (go_at_call 112; refine (HB _).out.mono ?_; rintro e w1 ⟨v, rfl, b1, hb1⟩; have V1 := Lib.hid b1; have B1 := Lib.hid hb1; clear b1 hb1)
            | (go_at_call 111; refine (small_any _ _ 130 _ V1.out (by decide)).mono ?_; rw [HY1.out, HY2.out]; rintro e w2 ⟨rfl, hb2⟩; have B2 := Lib.hid (B1.out.trans (hb2.mono B1.out.size)); clear hb2))
          go_ret3
          exact ⟨ret3_eq rfl rfl rfl, B2.out⟩
        · have hKz : n = K := by rw [hK, v1]; rfl
          subst hKz
          rw [v1] at HY1; rw [v1]
          generalize vlN (s.data.toList.take n) mx = N at *
          clear t1 t2 y1 y2 hK HK v1 v2 v3 hn hk hL hR hle hsz ha hb hnl
          go_enter Tryz.func86, Tryz.ntmps86
          go_wp2_with (first
            | (go_at_call 110; refine hM.out.mono ?_; rintro e w' ⟨rfl, rfl⟩)
            | (go_at_call 112; refine (HB _).out.mono ?_; rintro e w1 ⟨v, rfl, b1, hb1⟩; have V1 := Lib.hid b1; have B1 := Lib.hid hb1; clear b1 hb1)
            | (go_at_call 111; refine (small_any _ _ 130 _ V1.out (by decide)).mono ?_; rw [HY1.out, HY2.out]; rintro e w2 ⟨rfl, hb2⟩; have B2 := Lib.hid (B1.out.trans (hb2.mono B1.out.size)); clear hb2))
          go_ret3
          exact ⟨ret3_eq rfl rfl rfl, B2.out⟩
  · have e : tkE s.data.toList a b mx = 1 := by unfold tkE; rw [hR]; rfl
    obtain ⟨e1, e2⟩ := tk_no e (by decide)
    rw [e, e1, e2]; clear e e1 e2
    have hr' : a < 1 ∨ (¬ a < 1 ∧ b < a) ∨ (¬ a < 1 ∧ ¬ b < a ∧ 20 < b) := by unfold tkR at hR; simp at hR; omega
    clear hR
    rcases hr' with h1 | ⟨h1, h2⟩ | ⟨h1, h2, h3⟩
    all_goals
      go_enter Tryz.func86, Tryz.ntmps86
      go_wp2
      go_ret3
      exact ⟨rfl, Below.refl _ _⟩
end Go.Proofs.YtdonicaiimeleaaGreatDoor

namespace Go.Proofs.YtdonicaiimeleaaGreatDoor
open Go.RowKit
set_option linter.unusedVariables false

set_option maxRecDepth 100000 in
set_option maxHeartbeats 800000 in
theorem rwhole_any (s : ByteArray) (a b : Int) (w : World) (hs : s.size ≤ maxLen) (ha : fits a) (hb : fits b) :
    Calls Tryz.prog 58 #[.string s, .int .i64 a, .int .i64 b] w fun e w' =>
      e = .returned (.tuple #[.int .i64 (whN s.data.toList a b mx : Nat), .int .i64 (whE s.data.toList a b mx)]) ∧ Below w.heap.size w w' := by
  have HT := Lib.hid (rtake_any s a b w hs ha hb)
  have hsz : s.data.toList.length = s.size := by simp
  have hkl := tkK_le s.data.toList a b mx
  have hN0 : tkE s.data.toList a b mx ≠ 0 → tkN s.data.toList a b mx = 0 := fun h => (tk_no rfl h).1
  obtain ⟨N, hN⟩ : ∃ N, N = tkN s.data.toList a b mx := ⟨_, rfl⟩
  obtain ⟨K, hK⟩ : ∃ K, K = tkK s.data.toList a b mx := ⟨_, rfl⟩
  obtain ⟨E, hE⟩ : ∃ E, E = tkE s.data.toList a b mx := ⟨_, rfl⟩
  have HWE : RowKit.Hid (whE s.data.toList a b mx = if E = 0 then (if K < s.size then 2 else 0) else E) := by unfold whE; rw [← hE, ← hK, hsz]; exact rfl
  have HWN : RowKit.Hid (whN s.data.toList a b mx = if whE s.data.toList a b mx = 0 then N else 0) := by unfold whN; rw [← hN]; exact rfl
  rw [← hN, ← hK, ← hE] at HT
  rw [← hN, ← hE] at hN0
  rw [← hK, hsz] at hkl
  obtain ⟨x, hx⟩ : ∃ x, x = whE s.data.toList a b mx := ⟨_, rfl⟩
  rw [← hx] at HWE HWN ⊢
  obtain ⟨y, hy⟩ : ∃ y, y = whN s.data.toList a b mx := ⟨_, rfl⟩
  rw [← hy] at HWN ⊢
  clear hN hK hE hx hy hsz ha hb
  unfold maxLen at hs
  by_cases hz : E = 0
  · subst hz
    clear hN0
    by_cases hlt : K < s.size
    · have hX : x = 2 := by rw [HWE.out, if_pos rfl, if_pos hlt]
      have hY : y = 0 := by rw [HWN.out, hX]; rfl
      subst hX; subst hY
      clear HWE HWN
      go_enter Tryz.func58, Tryz.ntmps58
      go_wp2_with (go_at_call 86; refine HT.out.mono ?_; rintro e w1 ⟨rfl, hb1⟩; have B1 := Lib.hid hb1; clear hb1)
      go_ret2
      exact ⟨rfl, B1.out⟩
    · have hX : x = 0 := by rw [HWE.out, if_pos rfl, if_neg hlt]
      have hY : y = N := by rw [HWN.out, hX]; rfl
      subst hX; subst hY
      clear HWE HWN
      go_enter Tryz.func58, Tryz.ntmps58
      go_wp2_with (go_at_call 86; refine HT.out.mono ?_; rintro e w1 ⟨rfl, hb1⟩; have B1 := Lib.hid hb1; clear hb1)
      go_ret2
      exact ⟨rfl, B1.out⟩
  · have hX : x = E := by rw [HWE.out, if_neg hz]
    have hY : y = 0 := by rw [HWN.out, hX, if_neg hz]
    obtain rfl : N = 0 := hN0 hz
    subst hX; subst hY
    have hz' : (x == 0) = false := beq_eq_false_iff_ne.mpr hz
    clear HWE HWN hz hN0
    go_enter Tryz.func58, Tryz.ntmps58
    go_wp2_with (go_at_call 86; refine HT.out.mono ?_; rintro e w1 ⟨rfl, hb1⟩; have B1 := Lib.hid hb1; clear hb1)
    go_ret2
    exact ⟨rfl, B1.out⟩

/-! ### Signed -/
/-- The limit, by the sign; the number. -/
def lm (g : Bool) : Nat := if g then mxn else mx
end Go.Proofs.YtdonicaiimeleaaGreatDoor
