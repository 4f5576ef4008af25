/- Small: a Big as a number of 64 bits. -/
import Derived.Test.YtbffpallhofonaaBigG
namespace Go.Proofs.Ytbffpallhofonaa
open Go.RowKit

theorem vd_le (ds : List Nat) : ∀ i, vd ds i ≤ nv ds := by
  intro i
  induction i with
  | zero => exact Nat.le_refl _
  | succ i ih => have := vd_step ds i; omega

/-- The part of the number that the digits from i on are, with the number's sign. -/
def part (z : Int) (ds : List Nat) (i : Nat) : Int := if z < 0 then - (vd ds i : Int) else vd ds i
theorem part_fit {z : Int} {ds : List Nat} (hn : nv ds = z.natAbs) (hf : fits z) (i : Nat) : fits (part z ds i) := by
  have := vd_le ds i
  unfold part fits at *
  split <;> omega
theorem part_zero {z : Int} {ds : List Nat} (hn : nv ds = z.natAbs) : part z ds 0 = z := by
  unfold part; rw [vd_zero, hn]; split <;> omega
theorem part_end {z : Int} {ds : List Nat} {i : Nat} (h : ds.length ≤ i) : part z ds i = 0 := by
  unfold part; rw [vd_end h]; split <;> rfl
theorem part_step_neg {z : Int} (ds : List Nat) (h : z < 0) (i : Nat) : part z ds i = part z ds (i + 1) * 65536 - dg ds i := by
  unfold part; rw [if_pos h, if_pos h]; have := vd_step ds i; omega
theorem part_step_pos {z : Int} (ds : List Nat) (h : ¬ z < 0) (i : Nat) : part z ds i = part z ds (i + 1) * 65536 + dg ds i := by
  unfold part; rw [if_neg h, if_neg h]; have := vd_step ds i; omega
theorem part_mid {z : Int} {ds : List Nat} (hn : nv ds = z.natAbs) (hf : fits z) (i : Nat) : fits (part z ds (i + 1) * 65536) := by
  have h1 := vd_le ds i; have h2 := vd_step ds i
  unfold part fits at *
  split <;> omega

theorem after_two {w w1 : World} {X Y : Array Value} {T : TypeId} (h : Below (w.heap.size + 2) ((w.alloc (.cells X T)).alloc (.cells Y T)) w1) :
    (w1.heap[w.heap.size]? = some (.cells X T (0, 0))) ∧ (w1.heap[w.heap.size + 1]? = some (.cells Y T (0, 0))) ∧ Below w.heap.size w w1 ∧ w.heap.size + 2 ≤ w1.heap.size := by
  have e0 := heap_alloc_new w (.cells X T)
  have e1 := heap_alloc_new (w.alloc (.cells X T)) (.cells Y T)
  simp only [World.size_alloc] at e1
  refine ⟨?_, ?_, ?_, ?_⟩
  · rw [h.block _ (by omega), Below.heap_alloc _ _ _ (by simp)]; exact e0
  · rw [h.block _ (by omega)]; exact e1
  · exact ((Below.refl _ _).alloc (Nat.le_refl _) _).alloc (by simp) _ |>.trans (h.mono (by omega))
  · have := h.size; simpa using this

set_option maxRecDepth 10000 in
set_option maxHeartbeats 1600000 in
theorem small_any (v : Value) (z : Int) (k : Nat) (w : World) (hv : BV w v z k) (hk : k ≤ 1000) :
    Calls Try.prog 46 #[v] w fun e w' => e = .returned (.tuple #[.int .i64 (sm z), .int .i64 (bad z)]) ∧ Below w.heap.size w w' := by
  have HV := Lib.hid hv; clear hv
  obtain ⟨A, ds, c, rfl, hr, _, _, hl, hn, _⟩ := HV.out
  have HR := Lib.hid hr; have HN := Lib.hid hn; clear hr hn
  have hlen : ds.length ≤ 1000 := by omega
  clear hl
  go_enter Try.func46, Try.ntmps46
  go_wp2_with fail
  refine (of_any _ _ (by decide)).mono ?_
  rintro e w1 ⟨v1, rfl, b1, hb1⟩
  have hw1 : Below (w.heap.size + 1) (w.alloc (.cells #[.bool (decide (z < 0)), .slice A ds.length c] 76)) w1 := by simpa using hb1
  have B1 : Hid (Below w.heap.size w w1) := ((Below.refl _ _).alloc (Nat.le_refl _) _).trans (hw1.mono (by omega))
  have W1 := Lib.hid (new_whole hw1)
  have S1 : w.heap.size + 1 ≤ w1.heap.size := by have := hw1.size; simpa using this
  have V1 := Lib.hid b1
  clear b1 hb1 hw1
  go_wp2_with fail
  refine (of_any _ _ (by decide)).mono ?_
  rintro e w2 ⟨v2, rfl, b2, hb2⟩
  have B2 : Hid (Below w.heap.size w w2) := B1.out.trans (hb2.mono (by omega))
  have hb2' := hb2
  have W2 : Hid (w2.heap[w.heap.size]? = some (.cells #[.bool (decide (z < 0)), .slice A ds.length c] 76 (0, 0))) := (hb2.block _ (by omega)).trans W1.out
  have S2 : w.heap.size + 1 ≤ w2.heap.size := by have := hb2.size; omega
  have V2 := Lib.hid b2
  have V1' := Lib.hid (V1.out.below hb2)
  clear b2 hb2 hb2' V1 W1 B1 S1
  obtain ⟨A1, d1, c1, rfl, _⟩ := V1'.out
  obtain ⟨A2, d2, c2, rfl, _⟩ := V2.out
  have hc0 : w2.cell? ⟨w.heap.size, 0, none⟩ = some (.bool (decide (z < 0))) := whole_cell W2.out 0
  have hc1 : w2.cell? ⟨w.heap.size, 1, none⟩ = some (.slice A ds.length c) := whole_cell W2.out 1
  have hlt : w.heap.size < w2.heap.size := by omega
  go_wp2_with fail
  refine (less_big _ _ z (-9223372036854775808) k 4 _ (HV.out.below ?_) (V1'.out.below ?_) hk (by omega)).mono ?_
  · exact B2.out.trans (by go_grown)
  · go_grown
  rintro e w3 ⟨rfl, hb3⟩
  obtain ⟨g1, g2, g3, g4⟩ := after_two (by simpa using hb3)
  have B3 : Hid (Below w.heap.size w w3) := B2.out.trans (g3.mono (by omega))
  have W3 : Hid (w3.heap[w.heap.size]? = some (.cells #[.bool (decide (z < 0)), .slice A ds.length c] 76 (0, 0))) := (g3.block _ (by omega)).trans W2.out
  have V2' := Lib.hid (V2.out.below g3)
  have S3 : w.heap.size < w3.heap.size := by omega
  have hd0 : w3.cell? ⟨w.heap.size, 0, none⟩ = some (.bool (decide (z < 0))) := whole_cell W3.out 0
  have hd1 : w3.cell? ⟨w.heap.size, 1, none⟩ = some (.slice A ds.length c) := whole_cell W3.out 1
  have he0 : w3.cell? ⟨w2.heap.size + 1, 0, none⟩ = some (.bool false) := whole_cell g2 0
  have he1 : w3.cell? ⟨w2.heap.size + 1, 1, none⟩ = some (.slice A2 d2.length c2) := whole_cell g2 1
  clear hb3 g1 g2 g3 g4 hc0 hc1
  by_cases hlo : z < -9223372036854775808
  · have hlo' : decide (z < -9223372036854775808) = true := decide_eq_true hlo
    have nf : Hid (¬ fits z) := fun h => by unfold fits at h; omega
    clear hlo
    go_wp2_with fail
    go_ret2
    exact ⟨ret2_eq (int_eq (sm_no nf.out).symm) (int_eq (bad_no nf.out).symm), B3.out⟩
  have hlo' : decide (z < -9223372036854775808) = false := decide_eq_false hlo
  have LO := Lib.hid hlo; clear hlo
  go_wp2_with fail
  refine (less_big _ _ 9223372036854775807 z 4 k _ V2'.out (HV.out.below B3.out) (by omega) hk).mono ?_
  rintro e w4 ⟨rfl, hb4⟩
  have B4 : Hid (Below w.heap.size w w4) := B3.out.trans (hb4.mono (by omega))
  have W4 : Hid (w4.heap[w.heap.size]? = some (.cells #[.bool (decide (z < 0)), .slice A ds.length c] 76 (0, 0))) := (hb4.block _ (by omega)).trans W3.out
  have hk0 : w4.cell? ⟨w.heap.size, 0, none⟩ = some (.bool (decide (z < 0))) := whole_cell W4.out 0
  have hk1 : w4.cell? ⟨w.heap.size, 1, none⟩ = some (.slice A ds.length c) := whole_cell W4.out 1
  clear hb4 hd0 hd1 he0 he1
  by_cases hhi : 9223372036854775807 < z
  · have hhi' : decide (9223372036854775807 < z) = true := decide_eq_true hhi
    have nf : Hid (¬ fits z) := fun h => by unfold fits at h; omega
    clear hhi
    go_wp2_with fail
    go_ret2
    exact ⟨ret2_eq (int_eq (sm_no nf.out).symm) (int_eq (bad_no nf.out).symm), B4.out⟩
  have hhi' : decide (9223372036854775807 < z) = false := decide_eq_false hhi
  have HF : Hid (fits z) := by have := LO.out; unfold fits; exact ⟨by omega, by omega⟩
  clear hhi
  have HR4 := Lib.hid (HR.out.below B4.out)
  go_wp2_with fail
  clear hlo' hhi'
  have start : ∀ n : Nat, ds.length = n → (Value.int .i64 ((n : Int) - 1) = .int .i64 (-1) ∧ (0 : Int) = part z ds 0) ∨ ∃ m : Nat, Value.int .i64 ((n : Int) - 1) = .int .i64 m ∧ m < n ∧ (0 : Int) = part z ds (m + 1) := by
    intro n hn
    cases n with
    | zero => exact .inl ⟨rfl, (part_end (by omega)).symm⟩
    | succ m => exact .inr ⟨m, int_eq (by omega), by omega, (part_end (by omega)).symm⟩
  have ST := Lib.hid start; clear start
  go_loop [6, 7] (fun s t => ∃ n : Int, s = .int .i64 n ∧ ((t = .int .i64 (-1) ∧ n = part z ds 0) ∨ ∃ m : Nat, t = .int .i64 m ∧ m < ds.length ∧ n = part z ds (m + 1))) (fun _ t => (intOf t + 1).toNat)
  case atStart => exact ⟨0, rfl, ST.out _ rfl⟩
  case round =>
    obtain ⟨n, rfl, hcase⟩ := hrel
    clear ST
    rcases hcase with ⟨rfl, hn⟩ | ⟨m, rfl, hm, hn⟩
    · have H := Lib.hid hn; clear hn
      go_wp2_with fail
      go_ret2
      exact ⟨ret2_eq (int_eq (by rw [sm_fit HF.out, H.out, part_zero HN.out])) (int_eq (bad_fit HF.out).symm), B4.out⟩
    · have p1 := part_fit HN.out HF.out m
      have p2 := part_mid HN.out HF.out m
      have p3 := part_fit HN.out HF.out (m + 1)
      unfold fits at p1 p2 p3
      have hd := dg_low HR.out.1 m
      obtain ⟨b, rfl, hblt, hcell⟩ := HR4.out.cell hm
      have H := Lib.hid hn
      by_cases hz : z < 0
      · have hz' : decide (z < 0) = true := decide_eq_true hz
        rw [part_step_neg ds hz m] at p1
        have q := Lib.hid (part_step_neg ds hz m)
        rw [← hn] at p1 p2 p3
        clear hn hz
        go_wp2_with fail
        go_round
        case rel =>
          refine ⟨_, rfl, ?_⟩
          cases m with
          | zero => exact .inl ⟨rfl, by rw [q.out, H.out]⟩
          | succ m => exact .inr ⟨m, int_eq (by omega), by omega, by rw [q.out, H.out]⟩
        case measure => simp [intOf]
      · have hz' : decide (z < 0) = false := decide_eq_false hz
        rw [part_step_pos ds hz m] at p1
        have q := Lib.hid (part_step_pos ds hz m)
        rw [← hn] at p1 p2 p3
        clear hn hz
        go_wp2_with fail
        go_round
        case rel =>
          refine ⟨_, rfl, ?_⟩
          cases m with
          | zero => exact .inl ⟨rfl, by rw [q.out, H.out]⟩
          | succ m => exact .inr ⟨m, int_eq (by omega), by omega, by rw [q.out, H.out]⟩
        case measure => simp [intOf]
end Go.Proofs.Ytbffpallhofonaa
