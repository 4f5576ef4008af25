/- Quotient. -/
import Derived.Test.YteanpnmgdfflcaaNumE
import Derived.Deep.RegionHeld3
namespace Go.Proofs.Yteanpnmgdfflcaa
open Go.RowKit

theorem three_new (w : World) (X Y Z : Array Value) (T : TypeId) : ∀ W0, ((w.alloc (.cells X T)).alloc (.cells Y T)).alloc (.cells Z T) = W0 →
    (W0.heap[w.heap.size]? = some (.cells X T (0, 0))) ∧ (W0.heap[w.heap.size + 1]? = some (.cells Y T (0, 0))) ∧ (W0.heap[w.heap.size + 2]? = some (.cells Z T (0, 0))) ∧ Below w.heap.size w W0 ∧ w.heap.size + 3 ≤ W0.heap.size := by
  rintro _ rfl
  have e0 := heap_alloc_new w (.cells X T)
  have e1 := heap_alloc_new (w.alloc (.cells X T)) (.cells Y T)
  have e2 := heap_alloc_new ((w.alloc (.cells X T)).alloc (.cells Y T)) (.cells Z T)
  simp only [World.size_alloc] at e1 e2
  refine ⟨?_, ?_, ?_, ?_, ?_⟩
  · rw [Below.heap_alloc _ _ _ (by simp; omega), Below.heap_alloc _ _ _ (by simp)]; exact e0
  · rw [Below.heap_alloc _ _ _ (by simp)]; exact e1
  · exact e2
  · exact (((Below.refl _ _).alloc (Nat.le_refl _) _).alloc (by simp) _).alloc (by simp; omega) _
  · simp

/-- No digit lies in a cell. -/
def notDigit : Option Value → Bool | some (.int .u64 _) => false | _ => true
theorem BV.store1 {w : World} {v : Value} {z : Int} {k : Nat} {p : Addr} (h : BV w v z k) (hp : notDigit (w.cell? p) = true) (u : Value) : BV (w.setCell p u) v z k := by
  obtain ⟨A, ds, c, h1, h2, h3⟩ := h
  refine ⟨A, ds, c, h1, ⟨h2.1, h2.2.imp id ?_⟩, h3⟩
  rintro ⟨g, hA, hlt, hc⟩
  refine ⟨g, hA, by simpa [World.setCell] using hlt, fun j hj => ?_⟩
  have e := hc j hj
  rw [World.cell?_setCell_other _ _ _ _ (fun k => by rw [k, e] at hp; cases hp)]
  exact e

theorem BV.alloc {w : World} {v : Value} {z : Int} {k : Nat} (h : BV w v z k) (o : Obj) : BV (w.alloc o) v z k := h.below ((Below.refl _ _).alloc (Nat.le_refl _) o)

/-- What the drawn statement leaves: two Bigs in two blocks. -/
def QRel (W0 : World) (z1 z2 : Int) (s7 s8 : Value) (wx : World) : Prop :=
  ∃ (p7 p8 : Nat) (x1 : Bool) (P1 : Option Addr) (n1 m1 : Nat) (x2 : Bool) (P2 : Option Addr) (n2 m2 : Nat), s7 = .pointer (some ⟨p7, 0, none⟩) ∧ s8 = .pointer (some ⟨p8, 0, none⟩) ∧
    wx.cell? ⟨p7, 0, none⟩ = some (.bool x1) ∧ wx.cell? ⟨p7, 1, none⟩ = some (.slice P1 n1 m1) ∧ wx.cell? ⟨p8, 0, none⟩ = some (.bool x2) ∧ wx.cell? ⟨p8, 1, none⟩ = some (.slice P2 n2 m2) ∧
    BV wx (.agg #[.bool x1, .slice P1 n1 m1]) z1 9 ∧ BV wx (.agg #[.bool x2, .slice P2 n2 m2]) z2 10 ∧ Below W0.heap.size W0 wx

set_option maxRecDepth 100000 in
set_option maxHeartbeats 16000000 in
theorem quotient_true (va vb vq : Value) (a b q : Int) (w : World) (ha : BV w va a 20) (hb : BV w vb b 4) (hq : BV w vq q 4) (h : b ≠ 0) (hfd : a.fdiv b = q) :
    Calls Try.prog 22 #[va, vb, vq] w fun e w' => e = .returned (.bool true) ∧ Below w.heap.size w w' := by
  have HVA := Lib.hid ha; have HVB := Lib.hid hb; have HVQ := Lib.hid hq
  clear ha hb hq
  obtain ⟨A1, d1, c1, rfl, _⟩ := HVA.out
  obtain ⟨A2, d2, c2, rfl, _⟩ := HVB.out
  obtain ⟨A3, d3, c3, rfl, _⟩ := HVQ.out
  go_enter Try.func22, Try.ntmps22
  go_wp2_with fail
  generalize hW0 : World.alloc (World.alloc (World.alloc w _) _) _ = W0
  obtain ⟨g0, g1, g2, HB, hsz⟩ := three_new _ _ _ _ _ W0 hW0
  clear hW0
  have G0 := Lib.hid g0
  have G1 := Lib.hid g1
  have G2 := Lib.hid g2
  have k1 : W0.cell? ⟨w.heap.size + 1, 0, none⟩ = some (.bool (decide (b < 0))) := whole_cell g1 0
  have k2 : W0.cell? ⟨w.heap.size + 1, 1, none⟩ = some (.slice A2 d2.length c2) := whole_cell g1 1
  have k3 : W0.cell? ⟨w.heap.size + 1 + 1, 0, none⟩ = some (.bool (decide (q < 0))) := whole_cell g2 0
  have k4 : W0.cell? ⟨w.heap.size + 1 + 1, 1, none⟩ = some (.slice A3 d3.length c3) := whole_cell g2 1
  clear g0 g1 g2
  have VB0 := Lib.hid (HVB.out.below HB)
  have VQ0 := Lib.hid (HVQ.out.below HB)
  have B0 := Lib.hid HB; clear HB
  have lt2 : ∀ n : Nat, n < n + 1 + 1 := fun n => by omega
  go_cut [7, 8] (fun s7 s8 wx => QRel W0 (q * b) ((q + 1) * b) s7 s8 wx)
  case first =>
    go_region_held3 (fun w' => w'.cell? ⟨w.heap.size + 1, 0, none⟩ = some (.bool (decide (b < 0))) ∧ w'.cell? ⟨w.heap.size + 1, 1, none⟩ = some (.slice A2 d2.length c2) ∧ w'.cell? ⟨w.heap.size + 1 + 1, 0, none⟩ = some (.bool (decide (q < 0))) ∧ w'.cell? ⟨w.heap.size + 1 + 1, 1, none⟩ = some (.slice A3 d3.length c3) ∧ Below W0.heap.size W0 w')
      (first | exact held4 (Below.refl _ _).drew k1 k2 k3 k4 | exact held4 (by assumption) k1 k2 k3 k4 | (go_split_ands; exact held4 (by go_grown; done) k1 k2 k3 k4))
      (first
        | (go_at_call_of 17 (Value.agg #[.bool (decide (q < 0)), .slice A3 d3.length c3]); go_split_ands; refine (times_big _ _ q b 4 4 _ (VQ0.out.below ?_) (VB0.out.below ?_) (by omega) (by omega)).mono ?_; assumption; assumption; rintro e w1 ⟨v1, rfl, b1, hb1⟩; have hBw1 : Below W0.heap.size W0 w1 := Below.trans (by assumption) (hb1.mono (Below.size (w := W0) (B := W0.heap.size) (by assumption))); have V1 := Lib.hid b1; obtain ⟨s1, P1, n1, m1, rfl⟩ := b1.open_; obtain ⟨o11, o12⟩ := old_cells hb1; have sz1 := hb1.size; (try simp at sz1); (try have lt01 : W0.heap.size < w1.heap.size := by omega); (try have lu01 : W0.heap.size + 1 < w1.heap.size := by omega); (try have lv01 : W0.heap.size < w1.heap.size + 1 := by omega); (try have lw01 : W0.heap.size < w1.heap.size + 1 + 1 := by omega); (try have lx01 : W0.heap.size + 1 < w1.heap.size + 1 := by omega); (try have ly01 : W0.heap.size + 1 < w1.heap.size + 1 + 1 := by omega); clear hb1 b1)
        | (go_at_call 9; go_split_ands; refine (of_any 1 _ (by decide)).mono ?_; rintro e w2 ⟨v2, rfl, b2, hb2⟩; have hBw2 : Below W0.heap.size W0 w2 := Below.trans (by assumption) (hb2.mono (Below.size (w := W0) (B := W0.heap.size) (by assumption))); have V2 := Lib.hid b2; obtain ⟨s2, P2, n2, m2, rfl⟩ := b2.open_; obtain ⟨o21, o22⟩ := old_cells hb2; have sz2 := hb2.size; (try simp at sz2); (try have lt02 : W0.heap.size < w2.heap.size := by omega); (try have lu02 : W0.heap.size + 1 < w2.heap.size := by omega); (try have lv02 : W0.heap.size < w2.heap.size + 1 := by omega); (try have lw02 : W0.heap.size < w2.heap.size + 1 + 1 := by omega); (try have lx02 : W0.heap.size + 1 < w2.heap.size + 1 := by omega); (try have ly02 : W0.heap.size + 1 < w2.heap.size + 1 + 1 := by omega); (try have lt12 : w1.heap.size < w2.heap.size := by omega); (try have lu12 : w1.heap.size + 1 < w2.heap.size := by omega); (try have lv12 : w1.heap.size < w2.heap.size + 1 := by omega); (try have lw12 : w1.heap.size < w2.heap.size + 1 + 1 := by omega); (try have lx12 : w1.heap.size + 1 < w2.heap.size + 1 := by omega); (try have ly12 : w1.heap.size + 1 < w2.heap.size + 1 + 1 := by omega); have D2 : Hid (Below w1.heap.size w1 w2) := (Below.trans (by go_grown) (hb2.mono (by first | (exact Nat.le_refl _) | (simp; done) | (simp; omega)))); have E2 : Below w1.heap.size w1 w2 := (Below.trans (by go_grown) (hb2.mono (by first | (exact Nat.le_refl _) | omega | (simp; done) | (simp; omega)))); clear hb2 b2)
        | (go_at_call 15; go_split_ands; refine (plus_big _ _ q 1 4 4 _ (VQ0.out.below ?_) (V2.out.below ?_) (by omega) (by omega)).mono ?_; assumption; (focus go_grown); rintro e w3 ⟨v3, rfl, b3, hb3⟩; have hBw3 : Below W0.heap.size W0 w3 := Below.trans (by assumption) (hb3.mono (Below.size (w := W0) (B := W0.heap.size) (by assumption))); have V3 := Lib.hid b3; obtain ⟨s3, P3, n3, m3, rfl⟩ := b3.open_; obtain ⟨o31, o32⟩ := old_cells hb3; have sz3 := hb3.size; (try simp at sz3); (try have lt03 : W0.heap.size < w3.heap.size := by omega); (try have lu03 : W0.heap.size + 1 < w3.heap.size := by omega); (try have lv03 : W0.heap.size < w3.heap.size + 1 := by omega); (try have lw03 : W0.heap.size < w3.heap.size + 1 + 1 := by omega); (try have lx03 : W0.heap.size + 1 < w3.heap.size + 1 := by omega); (try have ly03 : W0.heap.size + 1 < w3.heap.size + 1 + 1 := by omega); (try have lt13 : w1.heap.size < w3.heap.size := by omega); (try have lu13 : w1.heap.size + 1 < w3.heap.size := by omega); (try have lv13 : w1.heap.size < w3.heap.size + 1 := by omega); (try have lw13 : w1.heap.size < w3.heap.size + 1 + 1 := by omega); (try have lx13 : w1.heap.size + 1 < w3.heap.size + 1 := by omega); (try have ly13 : w1.heap.size + 1 < w3.heap.size + 1 + 1 := by omega); (try have lt23 : w2.heap.size < w3.heap.size := by omega); (try have lu23 : w2.heap.size + 1 < w3.heap.size := by omega); (try have lv23 : w2.heap.size < w3.heap.size + 1 := by omega); (try have lw23 : w2.heap.size < w3.heap.size + 1 + 1 := by omega); (try have lx23 : w2.heap.size + 1 < w3.heap.size + 1 := by omega); (try have ly23 : w2.heap.size + 1 < w3.heap.size + 1 + 1 := by omega); have D3 : Hid (Below w2.heap.size w2 w3) := (Below.trans (by go_grown) (hb3.mono (by first | (exact Nat.le_refl _) | (simp; done) | (simp; omega)))); have E3 : Below w1.heap.size w1 w3 := (Below.trans (by go_grown) (hb3.mono (by first | (exact Nat.le_refl _) | omega | (simp; done) | (simp; omega)))); clear hb3 b3)
        | (go_at_call 17; go_split_ands; refine (times_big _ _ (q + 1) b 5 4 _ (V3.out.below ?_) (VB0.out.below ?_) (by omega) (by omega)).mono ?_; (focus go_grown); assumption; rintro e w4 ⟨v4, rfl, b4, hb4⟩; have hBw4 : Below W0.heap.size W0 w4 := Below.trans (by assumption) (hb4.mono (Below.size (w := W0) (B := W0.heap.size) (by assumption))); have V4 := Lib.hid b4; obtain ⟨s4, P4, n4, m4, rfl⟩ := b4.open_; obtain ⟨o41, o42⟩ := old_cells hb4; have sz4 := hb4.size; (try simp at sz4); (try have lt04 : W0.heap.size < w4.heap.size := by omega); (try have lu04 : W0.heap.size + 1 < w4.heap.size := by omega); (try have lv04 : W0.heap.size < w4.heap.size + 1 := by omega); (try have lw04 : W0.heap.size < w4.heap.size + 1 + 1 := by omega); (try have lx04 : W0.heap.size + 1 < w4.heap.size + 1 := by omega); (try have ly04 : W0.heap.size + 1 < w4.heap.size + 1 + 1 := by omega); (try have lt14 : w1.heap.size < w4.heap.size := by omega); (try have lu14 : w1.heap.size + 1 < w4.heap.size := by omega); (try have lv14 : w1.heap.size < w4.heap.size + 1 := by omega); (try have lw14 : w1.heap.size < w4.heap.size + 1 + 1 := by omega); (try have lx14 : w1.heap.size + 1 < w4.heap.size + 1 := by omega); (try have ly14 : w1.heap.size + 1 < w4.heap.size + 1 + 1 := by omega); (try have lt24 : w2.heap.size < w4.heap.size := by omega); (try have lu24 : w2.heap.size + 1 < w4.heap.size := by omega); (try have lv24 : w2.heap.size < w4.heap.size + 1 := by omega); (try have lw24 : w2.heap.size < w4.heap.size + 1 + 1 := by omega); (try have lx24 : w2.heap.size + 1 < w4.heap.size + 1 := by omega); (try have ly24 : w2.heap.size + 1 < w4.heap.size + 1 + 1 := by omega); (try have lt34 : w3.heap.size < w4.heap.size := by omega); (try have lu34 : w3.heap.size + 1 < w4.heap.size := by omega); (try have lv34 : w3.heap.size < w4.heap.size + 1 := by omega); (try have lw34 : w3.heap.size < w4.heap.size + 1 + 1 := by omega); (try have lx34 : w3.heap.size + 1 < w4.heap.size + 1 := by omega); (try have ly34 : w3.heap.size + 1 < w4.heap.size + 1 + 1 := by omega); have D4 : Hid (Below w3.heap.size w3 w4) := (Below.trans (by go_grown) (hb4.mono (by first | (exact Nat.le_refl _) | (simp; done) | (simp; omega)))); have E4 : Below w1.heap.size w1 w4 := (Below.trans (by go_grown) (hb4.mono (by first | (exact Nat.le_refl _) | omega | (simp; done) | (simp; omega)))); clear hb4 b4))
    all_goals
      go_wp2_with fail
      go_meet
      go_split_ands
      refine ⟨_, _, s1, P1, n1, m1, s4, P4, n4, m4, rfl, rfl, ?_, ?_, ?_, ?_, ?_, ?_, by assumption⟩
      · go_simp
      · go_simp
      · go_simp
      · go_simp
      · repeat (first | (with_reducible refine BV.alloc ?_ _) | ((with_reducible refine BV.store1 ?_ ?_ _); rotate_left; focus (go_simp; first | done | rfl)))
        exact V1.out.below (by with_reducible assumption)
      · repeat (first | (with_reducible refine BV.alloc ?_ _) | ((with_reducible refine BV.store1 ?_ ?_ _); rotate_left; focus (go_simp; first | done | rfl)))
        exact V4.out
  case rest =>
    obtain ⟨p7, p8, x1, P1, n1, m1, x2, P2, n2, m2, rfl, rfl, e1, e2, e3, e4, VH, VN, hB⟩ := hcut
    have BW := Lib.hid hB
    have HVH := Lib.hid VH; have HVN := Lib.hid VN
    have g0 := (hB.block _ (whole_lt G0.out)).trans G0.out
    have g1 := (hB.block _ (whole_lt G1.out)).trans G1.out
    have u1 : wc.cell? ⟨w.heap.size, 0, none⟩ = some (.bool (decide (a < 0))) := whole_cell g0 0
    have u2 : wc.cell? ⟨w.heap.size, 1, none⟩ = some (.slice A1 d1.length c1) := whole_cell g0 1
    have u3 : wc.cell? ⟨w.heap.size + 1, 0, none⟩ = some (.bool (decide (b < 0))) := whole_cell g1 0
    have HVA2 := Lib.hid (HVA.out.below (B0.out.trans (hB.mono B0.out.size)))
    have BF := Lib.hid (B0.out.trans (hB.mono B0.out.size))
    have eq1 := fdm a b
    rw [hfd] at eq1
    have eq2 : b * q = q * b := Int.mul_comm b q
    have eq3 : (q + 1) * b = q * b + b := by rw [Int.add_mul, Int.one_mul]
    have HE1 := Lib.hid e1; have HE2 := Lib.hid e2; have HE3 := Lib.hid e3; have HE4 := Lib.hid e4
    clear k1 k2 k3 k4 VH VN hB g0 g1
    by_cases hb : b < 0
    · have hm := fmod_negb (a := a) hb
      have t1 : decide (q * b < a) = false := decide_eq_false (by omega)
      have t2 : decide ((q + 1) * b < a) = true := decide_eq_true (by omega)
      have t3 : decide (b < 0) = true := decide_eq_true hb
      clear eq1 eq2 eq3 hm hfd h
      go_wp2_with fail
      refine (less_big _ _ (q * b) a 9 20 _ HVH.out HVA2.out (by omega) (by omega)).mono ?_
      rintro e w5 ⟨rfl, hb5⟩
      have l3 := (hb5.cell (World.block_lt_of_cell? _ _ HE3.out)).trans HE3.out
      have l4 := (hb5.cell (World.block_lt_of_cell? _ _ HE4.out)).trans HE4.out
      have l5 := (hb5.cell (World.block_lt_of_cell? _ _ u1)).trans u1
      have l6 := (hb5.cell (World.block_lt_of_cell? _ _ u2)).trans u2
      have B5 := Lib.hid hb5
      clear hb5
      go_wp2_with fail
      refine (less_big _ _ ((q + 1) * b) a 10 20 _ (HVN.out.below B5.out) (HVA2.out.below B5.out) (by omega) (by omega)).mono ?_
      rintro e w6 ⟨rfl, hb6⟩
      have B6 := Lib.hid (BF.out.trans ((B5.out.trans (hb6.mono B5.out.size)).mono BF.out.size))
      clear hb6
      go_wp2_with fail
      go_ret
      exact ⟨rfl, B6.out⟩
    · have hm := fmod_pos (a := a) (b := b) (by omega)
      have t1 : decide (a < q * b) = false := decide_eq_false (by omega)
      have t2 : decide (a < (q + 1) * b) = true := decide_eq_true (by omega)
      have t3 : decide (b < 0) = false := decide_eq_false hb
      clear eq1 eq2 eq3 hm hfd h
      go_wp2_with fail
      refine (less_big _ _ a (q * b) 20 9 _ HVA2.out HVH.out (by omega) (by omega)).mono ?_
      rintro e w5 ⟨rfl, hb5⟩
      have l3 := (hb5.cell (World.block_lt_of_cell? _ _ HE3.out)).trans HE3.out
      have l4 := (hb5.cell (World.block_lt_of_cell? _ _ HE4.out)).trans HE4.out
      have l5 := (hb5.cell (World.block_lt_of_cell? _ _ u1)).trans u1
      have l6 := (hb5.cell (World.block_lt_of_cell? _ _ u2)).trans u2
      have B5 := Lib.hid hb5
      clear hb5
      go_wp2_with fail
      refine (less_big _ _ a ((q + 1) * b) 20 10 _ (HVA2.out.below B5.out) (HVN.out.below B5.out) (by omega) (by omega)).mono ?_
      rintro e w6 ⟨rfl, hb6⟩
      have B6 := Lib.hid (BF.out.trans ((B5.out.trans (hb6.mono B5.out.size)).mono BF.out.size))
      clear hb6
      go_wp2_with fail
      go_ret
      exact ⟨rfl, B6.out⟩
end Go.Proofs.Yteanpnmgdfflcaa
