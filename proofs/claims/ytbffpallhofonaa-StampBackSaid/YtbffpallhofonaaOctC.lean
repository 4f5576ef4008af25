/- The iterator parts: its contract; what lies between two blocks. -/
import Derived.Test.YtbffpallhofonaaOctB
import Derived.RangeFuncNested
import Derived.RangeFuncBound
import Derived.RangeFuncCalls
import Derived.RangeFuncLeaves
import Derived.Shelf.Abstract
import Derived.Shelf.RegionOpen
import Derived.WalkKit
import Derived.OwnWalkIn
import Derived.TacticsInMore
import Derived.LoopNIn
import Derived.LoopIn
namespace Go.Proofs.Ytbffpallhofonaa
open Go.RowKit Go.Shelf
attribute [local go_sem] Oper.semAt_some
set_option linter.unusedVariables false

/-- What lies from lo on, below hi, lies as it lay. -/
def Band (lo hi : Nat) (W W' : World) : Prop := ∀ k, lo ≤ k → k < hi → W'.heap[k]? = W.heap[k]?
theorem Band.refl (lo hi : Nat) (W : World) : Band lo hi W W := fun _ _ _ => rfl
theorem band_t {lo hi : Nat} {A B C : World} (h : Band lo hi A B) (k : Band lo hi B C) : Band lo hi A C := fun i h1 h2 => (k i h1 h2).trans (h i h1 h2)
theorem band_b {lo hi : Nat} {w : World} (hn : hi ≤ w.heap.size) (W : World) (l : Nat) (o o' : Obj) (hl : w.heap.size ≤ l) (h : W.heap[l]? = some o) (_ : o.isCells = false) (_ : o.isWalk = false) : Band lo hi W (W.putObj l o') :=
  fun k _ hk => World.putObj_heap_other (by omega)
theorem Band.cell {lo hi : Nat} {W W' : World} (h : Band lo hi W W') {p : Addr} (h1 : lo ≤ p.block) (h2 : p.block < hi) : W'.cell? p = W.cell? p := by
  unfold World.cell?; rw [h p.block h1 h2]
theorem Band.set {lo hi : Nat} {W W' : World} (h : Band lo hi W W') (a : Addr) (v : Value) (hl : a.block < lo) : Band lo hi W (W'.setCell a v) :=
  fun k h1 h2 => (Below.heap_setCell W' a v k (by omega)).trans (h k h1 h2)
theorem Band.grown {lo hi : Nat} {W W' : World} {g : Nat} (h : W.grownBy W' (some g)) (hg : g < lo) (hs : hi ≤ W.heap.size) : Band lo hi W W' :=
  fun k h1 h2 => h.block k (by omega) (fun e => by injection e with e; omega)

theorem parts_any (A : Option Addr) (N c S : Nat) (w : World) :
    Calls Try.prog 65 #[.slice A N c, .int .i64 (S : Int)] w fun e w' =>
      e = .returned (.func (.func 79) #[] #[.pointer (some ⟨w.heap.size, 0, none⟩), .pointer (some ⟨w.heap.size + 1, 0, none⟩)]) ∧
      w' = (w.alloc (.cells #[.slice A N c] 56)).alloc (.cells #[.int .i64 (S : Int)] 3) := by
  refine (callsIn_wide (n := 3)).1 ?_
  refine callsIn_of_wp Try.func65 rfl trivial ?_ rfl
  simp only [Try.ntmps65, List.size_toArray, List.length_cons, List.length_nil, Nat.reduceAdd, Nat.reduceSub, Array.replicate_succ, Array.replicate_zero, List.push_toArray, List.append_toArray, List.nil_append, List.cons_append]
  gi_wp2
  go_ret
  exact ⟨rfl, rfl⟩

/-- What a part is: its number and its bytes. -/
def pt (A : Option Addr) (S c i : Nat) : Array Value := #[.int .i64 (i : Int), .slice (A.map (·.add (i * S))) S (c - i * S)]
/-- The k-th part is cut out of the whole. -/
theorem part_cut {A : Option Addr} {N c S m i : Nat} (hS : 0 < S) (hm : m * S ≤ N) (hi : i < m) (hNc : N ≤ c) :
    ∀ w', (Instr.slice 56 (.slice A N c) (some (.int .i64 ((i : Int) * (S : Int)))) (some (.int .i64 (((i : Int) + 1) * (S : Int)))) none).run Try.prog w' = .ok (.slice (A.map (·.add (i * S))) S (c - i * S)) w' := by
  intro w'
  have h1 : (i + 1) * S ≤ m * S := Nat.mul_le_mul_right S hi
  have h2 : (i + 1) * S = i * S + S := Nat.succ_mul i S
  have e1 : ((i : Int) * (S : Int)) = ((i * S : Nat) : Int) := by simp
  have e2 : (((i : Int) + 1) * (S : Int)) = ((i * S + S : Nat) : Int) := by rw [← h2]; simp
  rw [e1, e2]
  generalize i * S = lo at *
  rw [run_slice_lh w' 56 A N c bslice .i64 .i64 lo ((lo + S : Nat) : Int) (by omega) (by omega) (by omega), bsize]
  have h3 : ¬ c = lo := by omega
  simp [Result.andThen, sliced, h3]
  omega

set_option maxRecDepth 100000 in
set_option maxHeartbeats 2000000 in
theorem parts_stops (n : Nat) (hn : 1 ≤ n) (S N m c B lo hi : Nat) (A : Option Addr) (hS : S = 1 ∨ S = 2 ∨ S = 4 ∨ S = 8) (hm : N / S = m) (hNc : N ≤ c) (hc : N ≤ 1000000000) (hB : lo ≤ B) (hB2 : B + 1 < hi) (w : World) (hhi : hi ≤ w.heap.size)
    (hb1 : w.cell? ⟨B, 0, none⟩ = some (.slice A N c)) (hb2 : w.cell? ⟨B + 1, 0, none⟩ = some (.int .i64 (S : Int))) :
    SeqStopsK Fence.wide n Try.prog 79 #[.pointer (some ⟨B, 0, none⟩), .pointer (some ⟨B + 1, 0, none⟩)] (fun x : { i : Nat // i < m } => pt A S c x.1) (Band lo hi)
      (fun xs => xs.map (·.1) = List.range m) (fun _ => True) m w := fun l J Jx W hW hJ hJx hY h0 => by
  have c1 := (hW.cell (p := ⟨B, 0, none⟩) (by simp; omega)).trans hb1
  have c2 := (hW.cell (p := ⟨B + 1, 0, none⟩) (by simp; omega)).trans hb2
  have hpos : 0 < S := by omega
  have hmN : m * S ≤ N := by rw [← hm]; exact Nat.div_mul_le_self N S
  have hq : Int.tdiv (N : Int) (S : Int) = (m : Int) := by rw [← hm]; rfl
  refine callsIn_of_wp Try.func79 rfl trivial ?_ rfl
  simp only [Try.ntmps79, List.size_toArray, List.length_cons, List.length_nil, Nat.reduceAdd, Nat.reduceSub, Array.replicate_succ, Array.replicate_zero, List.push_toArray, List.append_toArray, List.nil_append, List.cons_append]
  have hcut := fun i (hi : i < m) => part_cut (A := A) hpos hmN hi hNc
  have C1 := Lib.hid c1; have C2 := Lib.hid c2
  have key : ∀ k, k < m → ∀ (pre : List { i : Nat // i < m }) (wr : World), pre.map (·.1) = List.range k → J pre wr → Hid (YieldAt Fence.wide (n - 1) Try.prog l #[.int .i64 (k : Int), .slice (A.map (·.add (k * S))) S (c - k * S)] wr fun e W' =>
      (e = .returned (.bool true) ∧ ∃ pre', pre'.map (·.1) = List.range (k + 1) ∧ J pre' W' ∧ Band lo hi wr W') ∨ (e = .returned (.bool false) ∧ ∃ pre', Jx pre' W')) := by
    intro k hk pre wr hp hj
    refine Lib.hid (YieldAt.mono (hY pre ⟨k, hk⟩ wr hj (by have := congrArg List.length hp; simp at this; omega)) ?_)
    rintro e W' (⟨rfl, h1, h2⟩ | ⟨rfl, h1⟩)
    · exact .inl ⟨rfl, _, by rw [List.map_append, hp, List.range_succ]; rfl, h1, h2⟩
    · exact .inr ⟨rfl, _, h1⟩
  clear hY
  rcases hS with rfl | rfl | rfl | rfl
  · have hm1 : m ≤ 1000000000 := by omega
    gi_wp2
    gi_loopw [9] (fun i wr => ∃ (k : Nat) (pre : List { i : Nat // i < m }), k ≤ m ∧ i = .int .i64 k ∧ pre.map (·.1) = List.range k ∧ J pre wr ∧ Hid (wr.cell? ⟨B, 0, none⟩ = W.cell? ⟨B, 0, none⟩) ∧ Hid (wr.cell? ⟨B + 1, 0, none⟩ = W.cell? ⟨B + 1, 0, none⟩)) (fun i _ => m - (intOf i).toNat)
    case atStart => exact ⟨0, [], Nat.zero_le _, rfl, rfl, h0, Lib.hid rfl, Lib.hid rfl⟩
    case round =>
      obtain ⟨k, pre, hk, rfl, hp, hJs, D1, D2⟩ := hrel
      have d1 := D1.out.trans C1.out
      have d2 := D2.out.trans C2.out
      clear c1 c2
      by_cases hlt : k < m
      · obtain ⟨fn, tmps, assign, body, hy, hR⟩ := (key k hlt pre wr hp hJs).out
        have hcut := hcut k hlt
        simp only [Int.mul_one, Nat.mul_one, Int.cast_ofNat_Int] at hcut hy
        gi_wp2
        refine hR.mono ?_
        rintro e W3 (⟨rfl, pre', hp', hJ3, hk3⟩ | ⟨rfl, pre', hJx3⟩)
        · have D3 := Lib.hid ((hk3.cell (p := ⟨B, 0, none⟩) (by simp; omega) (by simp; omega)).trans D1.out)
          have D4 := Lib.hid ((hk3.cell (p := ⟨B + 1, 0, none⟩) (by simp; omega) (by simp; omega)).trans D2.out)
          gi_wp2
          go_roundw
          case rel => exact ⟨k + 1, pre', by omega, by simp, hp', hJ3, D3, D4⟩
          case measure => simp [intOf]; omega
        · gi_wp2
          refine bodyPost_ret (results_none rfl _ _ _) rfl ?_
          exact ⟨⟨_, rfl⟩, .inr ⟨_, trivial, hJx3⟩⟩
      · obtain rfl : k = m := by omega
        gi_wp2
        go_end0
        exact ⟨⟨_, rfl⟩, .inl ⟨_, hp, hJs⟩⟩
  · have hm1 : m ≤ 1000000000 := by omega
    gi_wp2
    gi_loopw [9] (fun i wr => ∃ (k : Nat) (pre : List { i : Nat // i < m }), k ≤ m ∧ i = .int .i64 k ∧ pre.map (·.1) = List.range k ∧ J pre wr ∧ Hid (wr.cell? ⟨B, 0, none⟩ = W.cell? ⟨B, 0, none⟩) ∧ Hid (wr.cell? ⟨B + 1, 0, none⟩ = W.cell? ⟨B + 1, 0, none⟩)) (fun i _ => m - (intOf i).toNat)
    case atStart => exact ⟨0, [], Nat.zero_le _, rfl, rfl, h0, Lib.hid rfl, Lib.hid rfl⟩
    case round =>
      obtain ⟨k, pre, hk, rfl, hp, hJs, D1, D2⟩ := hrel
      have d1 := D1.out.trans C1.out
      have d2 := D2.out.trans C2.out
      clear c1 c2
      by_cases hlt : k < m
      · obtain ⟨fn, tmps, assign, body, hy, hR⟩ := (key k hlt pre wr hp hJs).out
        have hcut := hcut k hlt
        simp only [Int.cast_ofNat_Int] at hcut hy
        gi_wp2
        refine hR.mono ?_
        rintro e W3 (⟨rfl, pre', hp', hJ3, hk3⟩ | ⟨rfl, pre', hJx3⟩)
        · have D3 := Lib.hid ((hk3.cell (p := ⟨B, 0, none⟩) (by simp; omega) (by simp; omega)).trans D1.out)
          have D4 := Lib.hid ((hk3.cell (p := ⟨B + 1, 0, none⟩) (by simp; omega) (by simp; omega)).trans D2.out)
          gi_wp2
          go_roundw
          case rel => exact ⟨k + 1, pre', by omega, by simp, hp', hJ3, D3, D4⟩
          case measure => simp [intOf]; omega
        · gi_wp2
          refine bodyPost_ret (results_none rfl _ _ _) rfl ?_
          exact ⟨⟨_, rfl⟩, .inr ⟨_, trivial, hJx3⟩⟩
      · obtain rfl : k = m := by omega
        gi_wp2
        go_end0
        exact ⟨⟨_, rfl⟩, .inl ⟨_, hp, hJs⟩⟩
  · have hm1 : m ≤ 1000000000 := by omega
    gi_wp2
    gi_loopw [9] (fun i wr => ∃ (k : Nat) (pre : List { i : Nat // i < m }), k ≤ m ∧ i = .int .i64 k ∧ pre.map (·.1) = List.range k ∧ J pre wr ∧ Hid (wr.cell? ⟨B, 0, none⟩ = W.cell? ⟨B, 0, none⟩) ∧ Hid (wr.cell? ⟨B + 1, 0, none⟩ = W.cell? ⟨B + 1, 0, none⟩)) (fun i _ => m - (intOf i).toNat)
    case atStart => exact ⟨0, [], Nat.zero_le _, rfl, rfl, h0, Lib.hid rfl, Lib.hid rfl⟩
    case round =>
      obtain ⟨k, pre, hk, rfl, hp, hJs, D1, D2⟩ := hrel
      have d1 := D1.out.trans C1.out
      have d2 := D2.out.trans C2.out
      clear c1 c2
      by_cases hlt : k < m
      · obtain ⟨fn, tmps, assign, body, hy, hR⟩ := (key k hlt pre wr hp hJs).out
        have hcut := hcut k hlt
        simp only [Int.cast_ofNat_Int] at hcut hy
        gi_wp2
        refine hR.mono ?_
        rintro e W3 (⟨rfl, pre', hp', hJ3, hk3⟩ | ⟨rfl, pre', hJx3⟩)
        · have D3 := Lib.hid ((hk3.cell (p := ⟨B, 0, none⟩) (by simp; omega) (by simp; omega)).trans D1.out)
          have D4 := Lib.hid ((hk3.cell (p := ⟨B + 1, 0, none⟩) (by simp; omega) (by simp; omega)).trans D2.out)
          gi_wp2
          go_roundw
          case rel => exact ⟨k + 1, pre', by omega, by simp, hp', hJ3, D3, D4⟩
          case measure => simp [intOf]; omega
        · gi_wp2
          refine bodyPost_ret (results_none rfl _ _ _) rfl ?_
          exact ⟨⟨_, rfl⟩, .inr ⟨_, trivial, hJx3⟩⟩
      · obtain rfl : k = m := by omega
        gi_wp2
        go_end0
        exact ⟨⟨_, rfl⟩, .inl ⟨_, hp, hJs⟩⟩
  · have hm1 : m ≤ 1000000000 := by omega
    gi_wp2
    gi_loopw [9] (fun i wr => ∃ (k : Nat) (pre : List { i : Nat // i < m }), k ≤ m ∧ i = .int .i64 k ∧ pre.map (·.1) = List.range k ∧ J pre wr ∧ Hid (wr.cell? ⟨B, 0, none⟩ = W.cell? ⟨B, 0, none⟩) ∧ Hid (wr.cell? ⟨B + 1, 0, none⟩ = W.cell? ⟨B + 1, 0, none⟩)) (fun i _ => m - (intOf i).toNat)
    case atStart => exact ⟨0, [], Nat.zero_le _, rfl, rfl, h0, Lib.hid rfl, Lib.hid rfl⟩
    case round =>
      obtain ⟨k, pre, hk, rfl, hp, hJs, D1, D2⟩ := hrel
      have d1 := D1.out.trans C1.out
      have d2 := D2.out.trans C2.out
      clear c1 c2
      by_cases hlt : k < m
      · obtain ⟨fn, tmps, assign, body, hy, hR⟩ := (key k hlt pre wr hp hJs).out
        have hcut := hcut k hlt
        simp only [Int.cast_ofNat_Int] at hcut hy
        gi_wp2
        refine hR.mono ?_
        rintro e W3 (⟨rfl, pre', hp', hJ3, hk3⟩ | ⟨rfl, pre', hJx3⟩)
        · have D3 := Lib.hid ((hk3.cell (p := ⟨B, 0, none⟩) (by simp; omega) (by simp; omega)).trans D1.out)
          have D4 := Lib.hid ((hk3.cell (p := ⟨B + 1, 0, none⟩) (by simp; omega) (by simp; omega)).trans D2.out)
          gi_wp2
          go_roundw
          case rel => exact ⟨k + 1, pre', by omega, by simp, hp', hJ3, D3, D4⟩
          case measure => simp [intOf]; omega
        · gi_wp2
          refine bodyPost_ret (results_none rfl _ _ _) rfl ?_
          exact ⟨⟨_, rfl⟩, .inr ⟨_, trivial, hJx3⟩⟩
      · obtain rfl : k = m := by omega
        gi_wp2
        go_end0
        exact ⟨⟨_, rfl⟩, .inl ⟨_, hp, hJs⟩⟩
end Go.Proofs.Ytbffpallhofonaa
