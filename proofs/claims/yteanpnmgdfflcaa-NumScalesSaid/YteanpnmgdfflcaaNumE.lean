/- is; NumAdds. -/
import Derived.Test.YteanpnmgdfflcaaBigH
import Derived.Test.YteanpnmgdfflcaaNumC
import Derived.Deep.DeepCutAuto
import Derived.Deep.CutRange
import Derived.Deep.RegionHeld3
import Derived.Deep.RegionWith
namespace Go.Proofs.Yteanpnmgdfflcaa
open Go.RowKit

set_option maxHeartbeats 800000 in
theorem is_true (v : Value) (z : Int) (k : Nat) (w : World) (hv : BV w v z k) (hk : k ≤ 1000) :
    Calls Try.prog 14 #[.int .i64 (sm z), ev (bad z), v] w fun e w' => e = .returned (.bool true) ∧ Below w.heap.size w w' := by
  have HV := Lib.hid hv; clear hv
  obtain ⟨A, ds, c, rfl, _⟩ := HV.out
  go_enter Try.func14, Try.ntmps14
  go_wp2_with fail
  refine (small_any _ z k _ (HV.out.below (by go_grown)) hk).mono ?_
  rintro e w1 ⟨rfl, hb⟩
  have B1 : Hid (Below w.heap.size w w1) := ((Below.refl _ _).alloc (Nat.le_refl _) _).trans (hb.mono (by simp))
  clear hb
  go_wp2_with fail
  refine (num_any _ _ (bad_lo _).1 (bad_lo _).2).mono ?_
  rintro e w2 ⟨rfl, rfl⟩
  go_wp2_with fail
  go_ret
  exact ⟨rfl, B1.out⟩

/-- A Big's value, written out. -/
theorem BV.open_ {w : World} {v : Value} {z : Int} {k : Nat} (h : BV w v z k) : ∃ (b : Bool) (A : Option Addr) (n c : Nat), v = .agg #[.bool b, .slice A n c] := by
  obtain ⟨A, ds, c, rfl, _⟩ := h
  exact ⟨_, _, _, _, rfl⟩

/-- Two Bigs' cells, kept over whatever leaves all below W0's size as it was. -/
theorem held4 {W0 w' : World} {p1 p2 p3 p4 : Addr} {x1 x2 x3 x4 : Value} (h : Below W0.heap.size W0 w') (k1 : W0.cell? p1 = some x1) (k2 : W0.cell? p2 = some x2) (k3 : W0.cell? p3 = some x3) (k4 : W0.cell? p4 = some x4) :
    w'.cell? p1 = some x1 ∧ w'.cell? p2 = some x2 ∧ w'.cell? p3 = some x3 ∧ w'.cell? p4 = some x4 ∧ Below W0.heap.size W0 w' :=
  ⟨(h.cell (World.block_lt_of_cell? _ _ k1)).trans k1, (h.cell (World.block_lt_of_cell? _ _ k2)).trans k2, (h.cell (World.block_lt_of_cell? _ _ k3)).trans k3, (h.cell (World.block_lt_of_cell? _ _ k4)).trans k4, h⟩
/-- A Big is kept over stores over a Bool and a slice. -/
theorem BV.store2 {w : World} {v : Value} {z : Int} {k : Nat} (h : BV w v z k) {p q : Addr} {b : Bool} {C : Option Addr} {n c : Nat} (hp : w.cell? p = some (.bool b)) (hq : w.cell? q = some (.slice C n c)) (x y : Value) :
    BV ((w.setCell p x).setCell q y) v z k := by
  obtain ⟨A, ds, c, h1, h2, h3⟩ := h
  exact ⟨A, ds, c, h1, h2.store2 hp hq x y, h3⟩

/-- Two Bigs that were just laid into two new blocks. -/
theorem two_new (w : World) (X Y : Array Value) (T : TypeId) : ∀ W0, (w.alloc (.cells X T)).alloc (.cells Y T) = W0 →
    (W0.heap[w.heap.size]? = some (.cells X T (0, 0))) ∧ (W0.heap[w.heap.size + 1]? = some (.cells Y T (0, 0))) ∧ Below w.heap.size w W0 := by
  rintro _ rfl
  obtain ⟨h1, h2, h3, _⟩ := after_two (Below.refl (w.heap.size + 2) ((w.alloc (.cells X T)).alloc (.cells Y T)))
  exact ⟨h1, h2, h3⟩

set_option maxRecDepth 100000 in
set_option maxHeartbeats 3200000 in
theorem adds_walk (a b : Int) (w : World) (ha : fits a) (hb : fits b) :
    Calls Try.prog 3 #[.int .i64 a, .int .i64 b] w fun e w' => e = .returned (.bool true) ∧ Below w.heap.size w w' := by
  have hA := Lib.hid ha; have hB := Lib.hid hb
  clear ha hb
  go_enter Try.func3, Try.ntmps3
  go_wp2_with fail
  refine (alive_any _).mono ?_
  rintro e w' ⟨rfl, rfl⟩
  go_wp2_with fail
  refine (of_any _ _ hA.out).mono ?_
  rintro e w1 ⟨v1, rfl, b1, hb1⟩
  have V1 := Lib.hid b1
  have B1 := Lib.hid hb1
  clear b1 hb1
  go_wp2_with fail
  refine (of_any _ _ hB.out).mono ?_
  rintro e w2 ⟨v2, rfl, b2, hb2⟩
  have X1 := Lib.hid (V1.out.below hb2)
  have Y1 := Lib.hid b2
  have B2 := Lib.hid (B1.out.trans (hb2.mono B1.out.size))
  clear b2 hb2 V1 B1
  obtain ⟨s1, A1, n1, c1, rfl⟩ := X1.out.open_
  obtain ⟨s2, A2, n2, c2, rfl⟩ := Y1.out.open_
  go_upto_region 4 with fail
  generalize hW0 : World.alloc (World.alloc w2 _) _ = W0
  obtain ⟨g1, g2, g3⟩ := two_new _ _ _ _ W0 hW0
  clear hW0
  have B0 := Lib.hid (B2.out.trans (g3.mono B2.out.size))
  have X0 := Lib.hid (X1.out.below g3)
  have Y0 := Lib.hid (Y1.out.below g3)
  have k1 : W0.cell? ⟨w2.heap.size, 0, none⟩ = some (.bool s1) := whole_cell g1 0
  have k2 : W0.cell? ⟨w2.heap.size, 1, none⟩ = some (.slice A1 n1 c1) := whole_cell g1 1
  have k3 : W0.cell? ⟨w2.heap.size + 1, 0, none⟩ = some (.bool s2) := whole_cell g2 0
  have k4 : W0.cell? ⟨w2.heap.size + 1, 1, none⟩ = some (.slice A2 n2 c2) := whole_cell g2 1
  clear g1 g2 g3 X1 Y1 B2
  go_wp2_with fail
  refine (add_any _ _ _ hA.out hB.out).mono ?_
  rintro e w' ⟨rfl, rfl⟩
  go_wp2_with fail
  refine (sub_any _ _ _ hA.out hB.out).mono ?_
  rintro e w' ⟨rfl, rfl⟩
  go_wp2_with fail
  refine (mul_any _ _ _ hA.out hB.out).mono ?_
  rintro e w' ⟨rfl, rfl⟩
  go_wp2_with fail
  refine (neg_any _ _ hA.out).mono ?_
  rintro e w' ⟨rfl, rfl⟩
  go_wp2_with fail
  go_region_held3 (fun w' => w'.cell? ⟨w2.heap.size, 0, none⟩ = some (.bool s1) ∧ w'.cell? ⟨w2.heap.size, 1, none⟩ = some (.slice A1 n1 c1) ∧ w'.cell? ⟨w2.heap.size + 1, 0, none⟩ = some (.bool s2) ∧ w'.cell? ⟨w2.heap.size + 1, 1, none⟩ = some (.slice A2 n2 c2) ∧ Below W0.heap.size W0 w')
    (first | exact held4 (Below.refl _ _).drew k1 k2 k3 k4 | exact held4 (by assumption) k1 k2 k3 k4)
    (first
      | (go_at_call_of 15 (Value.agg #[.bool s2, .slice A2 n2 c2]); go_split_ands; refine (plus_big _ _ a b 4 4 _ (X0.out.below ?_) (Y0.out.below ?_) (by omega) (by omega)).mono ?_; assumption; assumption; rintro e w3 ⟨v3, rfl, b3, hb3⟩; have hBw3 : Below W0.heap.size W0 w3 := Below.trans (by assumption) (hb3.mono (Below.size (w := W0) (B := W0.heap.size) (by assumption))); have VP := Lib.hid b3; clear b3 hb3)
      | (go_at_call_of 14 (ev (bad (a + b))); go_split_ands; refine (is_true _ (a + b) 5 _ VP.out (by omega)).mono ?_; rintro e w4 ⟨rfl, hb4⟩; have hBw4 : Below W0.heap.size W0 w4 := Below.trans (by assumption) (hb4.mono (Below.size (w := W0) (B := W0.heap.size) (by assumption))); clear hb4)
      | (go_at_call_of 16 (Value.agg #[.bool s2, .slice A2 n2 c2]); go_split_ands; refine (minus_big _ b 4 _ (Y0.out.below ?_) (by omega)).mono ?_; assumption; rintro e w5 ⟨v5, rfl, b5, hb5⟩; have hBw5 : Below W0.heap.size W0 w5 := Below.trans (by assumption) (hb5.mono (Below.size (w := W0) (B := W0.heap.size) (by assumption))); have VM := Lib.hid b5; clear b5 hb5)
      | (go_at_call_of 16 (Value.agg #[.bool s1, .slice A1 n1 c1]); go_split_ands; refine (minus_big _ a 4 _ (X0.out.below ?_) (by omega)).mono ?_; assumption; rintro e w6 ⟨v6, rfl, b6, hb6⟩; have hBw6 : Below W0.heap.size W0 w6 := Below.trans (by assumption) (hb6.mono (Below.size (w := W0) (B := W0.heap.size) (by assumption))); have VN := Lib.hid b6; clear b6 hb6)
      | (go_at_call_of 15 (Value.agg #[.bool s1, .slice A1 n1 c1]); go_split_ands; refine (plus_big _ _ a (-b) 4 4 _ (X0.out.below ?_) VM.out (by omega) (by omega)).mono ?_; assumption; rintro e w7 ⟨v7, rfl, b7, hb7⟩; have hBw7 : Below W0.heap.size W0 w7 := Below.trans (by assumption) (hb7.mono (Below.size (w := W0) (B := W0.heap.size) (by assumption))); have VS : Hid (BV w7 v7 (a - b) 5) := (by rw [Int.sub_eq_add_neg]; exact b7); clear b7 hb7)
      | (go_at_call_of 14 (ev (bad (a - b))); go_split_ands; refine (is_true _ (a - b) 5 _ VS.out (by omega)).mono ?_; rintro e w8 ⟨rfl, hb8⟩; have hBw8 : Below W0.heap.size W0 w8 := Below.trans (by assumption) (hb8.mono (Below.size (w := W0) (B := W0.heap.size) (by assumption))); clear hb8)
      | (go_at_call_of 17 (Value.agg #[.bool s1, .slice A1 n1 c1]); go_split_ands; refine (times_big _ _ a b 4 4 _ (X0.out.below ?_) (Y0.out.below ?_) (by omega) (by omega)).mono ?_; assumption; assumption; rintro e w9 ⟨v9, rfl, b9, hb9⟩; have hBw9 : Below W0.heap.size W0 w9 := Below.trans (by assumption) (hb9.mono (Below.size (w := W0) (B := W0.heap.size) (by assumption))); have VT := Lib.hid b9; clear b9 hb9)
      | (go_at_call_of 14 (ev (bad (a * b))); go_split_ands; refine (is_true _ (a * b) 9 _ VT.out (by omega)).mono ?_; rintro e w10 ⟨rfl, hb10⟩; have hBw10 : Below W0.heap.size W0 w10 := Below.trans (by assumption) (hb10.mono (Below.size (w := W0) (B := W0.heap.size) (by assumption))); clear hb10)
      | (go_at_call_of 14 (ev (bad (-a))); go_split_ands; refine (is_true _ (-a) 4 _ VN.out (by omega)).mono ?_; rintro e w11 ⟨rfl, hb11⟩; have hBw11 : Below W0.heap.size W0 w11 := Below.trans (by assumption) (hb11.mono (Below.size (w := W0) (B := W0.heap.size) (by assumption))); clear hb11))
  go_wp2_with fail
  go_ret
  exact ⟨rfl, B0.out.trans (Below.mono (by assumption) B0.out.size)⟩
end Go.Proofs.Yteanpnmgdfflcaa
