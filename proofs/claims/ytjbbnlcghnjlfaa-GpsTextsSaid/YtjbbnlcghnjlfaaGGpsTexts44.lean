/- Merged: RefC. -/
import Derived.Test.YtjbbnlcghnjlfaaGGpsTexts43
import Derived.Test.YtjbbnlcghnjlfaaGGpsTexts23
import Derived.Deep.DeepCutAuto
import Derived.Deep.CutRange
import Derived.Deep.RegionHeld3
import Derived.Deep.RegionWith
import Derived.Deep.QuietTactic
import Derived.Deep.CutBlock
import Derived.Deep.LoopGhost
namespace Go.Proofs.Ytjbbnlcghnjlfaa
open Go.RowKit
set_option linter.unusedVariables false

theorem bwhole_set {w : World} {g : Nat} {cs : Array Value} {t : TypeId} (h : w.heap[g]? = some (.cells cs t (0, 0))) (i : Nat) (u : Value) : (w.setCell ⟨g, i, none⟩ u).heap[g]? = some (.cells (cs.setIfInBounds i u) t (0, 0)) := by
  simp [World.setCell, Array.getElem?_modify, h]
theorem BV.opened {w : World} {v : Value} {z : Int} {k : Nat} (h : BV w v z k) : ∃ (b : Bool) (A : Option Addr) (n c : Nat), v = .agg #[.bool b, .slice A n c] := by
  obtain ⟨A, ds, c, rfl, _⟩ := h
  exact ⟨_, A, _, c, rfl⟩
theorem BV.stored2 {w : World} {v : Value} {z : Int} {k : Nat} (h : BV w v z k) {p q : Addr} {b : Bool} {C : Option Addr} {n c : Nat} (hp : w.cell? p = some (.bool b)) (hq : w.cell? q = some (.slice C n c)) (x y : Value) :
    BV ((w.setCell p x).setCell q y) v z k := by
  obtain ⟨A, ds, c', e, h1, h2⟩ := h
  exact ⟨A, ds, c', e, h1.store2 hp hq x y, h2⟩
theorem BV.up {w : World} {v : Value} {z : Int} {k l : Nat} (h : BV w v z k) (hl : k ≤ l) : BV w v z l := by
  obtain ⟨A, ds, c, h1, h2, h3, h4, h5, h6⟩ := h
  exact ⟨A, ds, c, h1, h2, h3, h4, by omega, h6⟩

/-- What the loop of Big keeps: the Big in block q; block p, the result's, as it was. -/
def SB (l : List UInt8) (p q : Nat) (w0 : World) (i : Nat) (wr : World) : Prop :=
  ∃ (s : Bool) (A : Option Addr) (n c : Nat), wr.heap[q]? = some (.cells #[.bool s, .slice A n c] 50 (0, 0)) ∧
    BV wr (.agg #[.bool s, .slice A n c]) (dv (l.take i) : Nat) (4 + 6 * i) ∧ wr.heap[p]? = some (.cells #[.bool false, .slice none 0 0] 50 (0, 0)) ∧ Below w0.heap.size w0 wr

set_option maxRecDepth 100000 in
set_option maxHeartbeats 6400000 in
theorem rbig_wide (s : ByteArray) (w : World) (hs : s.size ≤ 100) (hd : ∀ b ∈ s.data.toList, isd b = true) :
    Calls Try.prog 33 #[.string s] w fun e w' => ∃ v, e = .returned v ∧ BV w' v (dv s.data.toList : Nat) (4 + 6 * s.size) ∧ Below w.heap.size w w' := by
  have hsz : s.data.toList.length = s.size := by simp
  have HD := Lib.hid hd; have HSZ := Lib.hid hsz; clear hd hsz
  go_enter Try.func33, Try.ntmps33
  go_wp2_with fail
  have hp0 := heap_alloc_new w (.cells #[.bool false, .slice none 0 0] 50)
  have hb0 : Below w.heap.size w (w.alloc (.cells #[.bool false, .slice none 0 0] 50)) := (Below.refl _ _).alloc (Nat.le_refl _) _
  generalize hW0 : World.alloc w _ = W0 at hp0 hb0 ⊢
  clear hW0
  have P0 := Lib.hid hp0; have B0 := Lib.hid hb0; clear hp0 hb0
  refine (of_any 0 _ (by decide)).mono ?_
  rintro e w1 ⟨v1, rfl, b1, hb1⟩
  obtain ⟨s1, A1, n1, c1, rfl⟩ := b1.opened
  have P1 := Lib.hid ((hb1.block _ (whole_lt P0.out)).trans P0.out)
  have V1 := Lib.hid b1
  have B1 := Lib.hid (B0.out.trans (hb1.mono B0.out.size))
  clear b1 hb1 P0 B0
  go_wp2_with fail
  have hq0 := heap_alloc_new w1 (.cells #[.bool s1, .slice A1 n1 c1] 50)
  have hb2 : Below w1.heap.size w1 (w1.alloc (.cells #[.bool s1, .slice A1 n1 c1] 50)) := (Below.refl _ _).alloc (Nat.le_refl _) _
  have hne : w.heap.size < w1.heap.size := whole_lt P1.out
  obtain ⟨p, hp⟩ : ∃ p, p = w.heap.size := ⟨_, rfl⟩
  rw [← hp] at P1 hne ⊢
  obtain ⟨q, hq⟩ : ∃ q, q = w1.heap.size := ⟨_, rfl⟩
  rw [← hq] at hne
  generalize hW2 : World.alloc w1 _ = W2 at hq0 hb2 ⊢
  have S0 : Hid (SB s.data.toList p q w 0 W2) := ⟨s1, A1, n1, c1, by rw [hq]; exact hq0, by rw [List.take_zero]; exact V1.out.below hb2, (hb2.block _ (whole_lt P1.out)).trans P1.out, B1.out.trans (hb2.mono B1.out.size)⟩
  have hpw : Hid (w.heap.size ≤ p) := by rw [hp]; exact Nat.le_refl _
  have hqw : Hid (w.heap.size ≤ q) := by rw [hq]; exact B1.out.size
  rw [← hq]
  clear hW2 hq0 hb2 hp hq P1 V1 B1
  go_loopg [4] s.size (fun g s4 wr => ∃ i : Nat, s4 = .int .i64 i ∧ i ≤ s.size ∧ g = s.size - i ∧ Hid (SB s.data.toList p q w i wr))
  case atStart => exact ⟨0, rfl, Nat.zero_le _, rfl, S0⟩
  case round =>
    obtain ⟨i, rfl, hi, rfl, HS⟩ := hrel
    clear S0
    by_cases hlt : i < s.size
    · obtain ⟨b, A, n, c, g1, g2, g3, g4⟩ := HS.out
      have hb := isd_bd (HD.out s[i] (by rw [← at_list s i hlt]; exact List.getElem_mem _))
      have hst := dv_step hlt
      have HST : Hid (((dv (s.data.toList.take (i + 1)) : Nat) : Int) = ((dv (s.data.toList.take i) : Nat) : Int) * 10 + ((s[i].toNat : Int) - 48)) := by
        show _ = _; rw [hst]; omega
      clear hst
      obtain ⟨z, hz⟩ : ∃ z : Int, z = ((dv (s.data.toList.take i) : Nat) : Int) := ⟨_, rfl⟩
      rw [← hz] at g2 HST
      have VZ := Lib.hid g2; have G1 := Lib.hid g1; have G3 := Lib.hid g3; have G4 := Lib.hid g4
      have k1 : wr.cell? ⟨q, 0, none⟩ = some (.bool b) := whole_cell g1 0
      have k2 : wr.cell? ⟨q, 1, none⟩ = some (.slice A n c) := whole_cell g1 1
      have f1 := whole_free g1 0
      have f2 := whole_free g1 1
      clear g1 g2 g3 g4 hz
      have w8 : IntKind.u8.wrap ((s[i].toNat : Int) - 48) = (s[i].toNat : Int) - 48 := by simp [IntKind.wrap, IntKind.signed, IntKind.bits]; omega
      have w64 : IntKind.i64.wrap ((s[i].toNat : Int) - 48) = (s[i].toNat : Int) - 48 := by simp [IntKind.wrap, IntKind.signed, IntKind.bits]; omega
      go_upto_block 1 with fail
      go_cut [] (fun wx => SB s.data.toList p q w (i + 1) wx)
      case first =>
        go_upto_region 5 with fail
        go_region_with (first
          | (go_at_call 21; have hB4 := B4.out; refine (of_any _ _ (by unfold fits; omega)).mono ?_; clear hB4; rintro e w5 ⟨v5, rfl, b5, hb5⟩; have V5 := Lib.hid b5; have V6 := Lib.hid (V4.out.below hb5); have B5 : Hid (Below wr.heap.size wr w5) := B4.out.trans (hb5.mono B4.out.size); clear b5 hb5)
          | (go_at_call 21; refine (of_any 10 _ (by decide)).mono ?_; rintro e w3 ⟨v3, rfl, b3, hb3⟩; have V3 := Lib.hid b3; have B3 : Hid (Below wr.heap.size wr w3) := (⟨hb3.os, hb3.tape, hb3.output, hb3.size, hb3.block⟩ : Below wr.heap.size wr w3); have hk1 : w3.cell? ⟨q, 0, none⟩ = some (.bool b) := whole_cell ((B3.out.block _ (whole_lt G1.out)).trans G1.out) 0; have hk2 : w3.cell? ⟨q, 1, none⟩ = some (.slice A n c) := whole_cell ((B3.out.block _ (whole_lt G1.out)).trans G1.out) 1; clear b3 hb3)
          | (go_at_call 24; refine (times_big _ _ z 10 (4 + 6 * i) 4 _ (VZ.out.below ?_) V3.out (by omega) (by omega)).mono ?_; exact B3.out; rintro e w4 ⟨v4, rfl, b4, hb4⟩; have V4 := Lib.hid b4; have B4 : Hid (Below wr.heap.size wr w4) := B3.out.trans (hb4.mono B3.out.size); clear b4 hb4)
          | (go_at_call 20; refine (plus_big _ _ (z * 10) _ (4 + 6 * i + 4 + 1) 4 _ V6.out V5.out (by omega) (by omega)).mono ?_; rintro e w6 ⟨v6, rfl, b6, hb6⟩; obtain ⟨s6, A6, n6, c6, rfl⟩ := b6.opened; have V7 := Lib.hid b6; have B6 : Hid (Below wr.heap.size wr w6) := B5.out.trans (hb6.mono B5.out.size); have hm1 : w6.cell? ⟨q, 0, none⟩ = some (.bool b) := whole_cell ((B6.out.block _ (whole_lt G1.out)).trans G1.out) 0; have hm2 : w6.cell? ⟨q, 1, none⟩ = some (.slice A n c) := whole_cell ((B6.out.block _ (whole_lt G1.out)).trans G1.out) 1; have hf1 : w6.frozen? ⟨q, 0, none⟩ = false := whole_free ((B6.out.block _ (whole_lt G1.out)).trans G1.out) 0; have hf2 : w6.frozen? ⟨q, 1, none⟩ = false := whole_free ((B6.out.block _ (whole_lt G1.out)).trans G1.out) 1; clear b6 hb6))
        all_goals
          go_wp2_with fail
          go_meet
          have hh := (B6.out.block _ (whole_lt G1.out)).trans G1.out
          have hh3 := (B6.out.block _ (whole_lt G3.out)).trans G3.out
          refine ⟨s6, A6, n6, c6, bwhole_set (bwhole_set hh 0 _) 1 _, ?_, ?_, ?_⟩
          · have h := V7.out.stored2 hm1 hm2 (.bool s6) (.slice A6 n6 c6)
            rw [← HST.out] at h
            exact h.up (by omega)
          · rw [Below.heap_setCell _ _ _ _ (by show p ≠ q; omega), Below.heap_setCell _ _ _ _ (by show p ≠ q; omega)]
            exact hh3
          · exact ((G4.out.trans (B6.out.mono G4.out.size)).setCell hqw.out _).setCell hqw.out _
      case rest =>
        have HS' := Lib.hid hcut; clear hcut k1 k2 f1 f2 w8 w64
        go_wp2_with fail
        go_roundg (s.size - (i + 1))
        case measure => omega
        case rel => exact ⟨i + 1, by go_num, by omega, rfl, HS'⟩
    · obtain ⟨b, A, n, c, g1, g2, g3, g4⟩ := HS.out
      have e : s.data.toList.take i = s.data.toList := List.take_of_length_le (by rw [HSZ.out]; omega)
      rw [e] at g2
      have V := Lib.hid (g2.up (l := 4 + 6 * s.size) (by omega))
      have G4 := Lib.hid g4
      have k1 : wr.cell? ⟨q, 0, none⟩ = some (.bool b) := whole_cell g1 0
      have k2 : wr.cell? ⟨q, 1, none⟩ = some (.slice A n c) := whole_cell g1 1
      have k3 : wr.cell? ⟨p, 0, none⟩ = some (.bool false) := whole_cell g3 0
      have k4 : wr.cell? ⟨p, 1, none⟩ = some (.slice none 0 0) := whole_cell g3 1
      have f3 := whole_free g3 0
      have f4 := whole_free g3 1
      have gg := bwhole_set (bwhole_set g3 0 (.bool b)) 1 (.slice A n c)
      have r1 : ((wr.setCell ⟨p, 0, none⟩ (.bool b)).setCell ⟨p, 1, none⟩ (.slice A n c)).cell? ⟨p, 0, none⟩ = some (.bool b) := whole_cell gg 0
      have r2 : ((wr.setCell ⟨p, 0, none⟩ (.bool b)).setCell ⟨p, 1, none⟩ (.slice A n c)).cell? ⟨p, 1, none⟩ = some (.slice A n c) := whole_cell gg 1
      have R1 := Lib.hid r1; have R2 := Lib.hid r2
      clear gg r1 r2
      clear g1 g2 g3 g4 e
      go_wp2_with fail
      refine bodyPost_ret (v := .agg #[.bool b, .slice A n c]) (by simp [results, Try.results33, go_sem, R1.out, R2.out]) rfl ⟨_, rfl, V.out.stored2 k3 k4 _ _, (G4.out.setCell hpw.out _).setCell hpw.out _⟩
theorem rbig_any (s : ByteArray) (w : World) (hs : s.size ≤ 20) (hd : ∀ b ∈ s.data.toList, isd b = true) :
    Calls Try.prog 33 #[.string s] w fun e w' => ∃ v, e = .returned v ∧ BV w' v (dv s.data.toList : Nat) 130 ∧ Below w.heap.size w w' :=
  (rbig_wide s w (by omega) hd).mono (by rintro e w' ⟨v, h1, h2, h3⟩; exact ⟨v, h1, h2.up (by omega), h3⟩)
end Go.Proofs.Ytjbbnlcghnjlfaa
