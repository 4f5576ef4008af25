/- Merged: ShaV, OctC. -/
import Derived.Test.YtdonicaiimeleaaGreatDoorGListParses29
import Derived.LoopTactic
import Derived.RangeFuncNested
import Derived.RangeFuncBound
import Derived.RangeFuncCalls
import Derived.RangeFuncLeaves
import Derived.Shelf.Abstract
import Derived.Shelf.RegionOpen
import Derived.WalkKit
import Derived.OwnWalkIn
import Derived.TacticsInMore
import Derived.LoopNIn
import Derived.LoopIn
namespace Go.Proofs.YtdonicaiimeleaaGreatDoor
open Go.RowKit
set_option linter.unusedVariables false

theorem rotl1_any (x : BitVec 32) (w : World) : Calls Tryz.prog 142 #[.int .u32 (u x), .int .i64 1] w fun e w' => e = .returned (.int .u32 (u (rot x 1))) ∧ w = w' := by
  have r1 : IntKind.u32.wrap (u x * 2) = u (x <<< 1) := u_shl x 1
  have r2 : u x / (2147483648 : Int) = u (x >>> 31) := u_shr x 31
  have r3 := u_or (x <<< 1) (x >>> 31)
  have r0 : bits .and .u64 1 31 = 1 := by decide +kernel
  rw [show x <<< 1 ||| x >>> 31 = rot x 1 from rfl] at r3
  generalize rot x 1 = r at *
  generalize x <<< 1 = y at *
  generalize x >>> 31 = z at *
  go_enter Tryz.func142, Tryz.ntmps142
  go_wp2
  go_ret
  exact ⟨rfl, rfl⟩
theorem rotl5_any (x : BitVec 32) (w : World) : Calls Tryz.prog 142 #[.int .u32 (u x), .int .i64 5] w fun e w' => e = .returned (.int .u32 (u (rot x 5))) ∧ w = w' := by
  have r1 : IntKind.u32.wrap (u x * 32) = u (x <<< 5) := u_shl x 5
  have r2 : u x / (134217728 : Int) = u (x >>> 27) := u_shr x 27
  have r3 := u_or (x <<< 5) (x >>> 27)
  have r0 : bits .and .u64 5 31 = 5 := by decide +kernel
  rw [show x <<< 5 ||| x >>> 27 = rot x 5 from rfl] at r3
  generalize rot x 5 = r at *
  generalize x <<< 5 = y at *
  generalize x >>> 27 = z at *
  go_enter Tryz.func142, Tryz.ntmps142
  go_wp2
  go_ret
  exact ⟨rfl, rfl⟩
theorem rotl30_any (x : BitVec 32) (w : World) : Calls Tryz.prog 142 #[.int .u32 (u x), .int .i64 30] w fun e w' => e = .returned (.int .u32 (u (rot x 30))) ∧ w = w' := by
  have r1 : IntKind.u32.wrap (u x * 1073741824) = u (x <<< 30) := u_shl x 30
  have r2 : u x / (4 : Int) = u (x >>> 2) := u_shr x 2
  have r3 := u_or (x <<< 30) (x >>> 2)
  have r0 : bits .and .u64 30 31 = 30 := by decide +kernel
  rw [show x <<< 30 ||| x >>> 2 = rot x 30 from rfl] at r3
  generalize rot x 30 = r at *
  generalize x <<< 30 = y at *
  generalize x >>> 2 = z at *
  go_enter Tryz.func142, Tryz.ntmps142
  go_wp2
  go_ret
  exact ⟨rfl, rfl⟩

theorem ff0 {t : Nat} (h : t ≤ 19) (b c d : BitVec 32) : ff t b c d = (b &&& c) ||| (~~~b &&& d) ∧ kk t = 0x5a827999#32 := by unfold ff kk; rw [if_pos h, if_pos h]; exact ⟨rfl, rfl⟩
theorem ff1 {t : Nat} (h0 : ¬ t ≤ 19) (h : t ≤ 39) (b c d : BitVec 32) : ff t b c d = b ^^^ c ^^^ d ∧ kk t = 0x6ed9eba1#32 := by unfold ff kk; rw [if_neg h0, if_neg h0, if_pos h, if_pos h]; exact ⟨rfl, rfl⟩
theorem ff2 {t : Nat} (h0 : ¬ t ≤ 39) (h : t ≤ 59) (b c d : BitVec 32) : ff t b c d = (b &&& c) ||| (b &&& d) ||| (c &&& d) ∧ kk t = 0x8f1bbcdc#32 := by
  have h1 : ¬ t ≤ 19 := by omega
  unfold ff kk; simp only [if_neg h1, if_neg h0, if_pos h]; exact ⟨trivial, trivial⟩
theorem ff3 {t : Nat} (h0 : ¬ t ≤ 59) (b c d : BitVec 32) : ff t b c d = b ^^^ c ^^^ d ∧ kk t = 0xca62c1d6#32 := by
  have h1 : ¬ t ≤ 19 := by omega
  have h2 : ¬ t ≤ 39 := by omega
  unfold ff kk; simp only [if_neg h1, if_neg h2, if_neg h0]; exact ⟨trivial, trivial⟩

set_option maxRecDepth 100000 in
theorem mixed_any (t : Nat) (b c d : BitVec 32) (w : World) (ht : t < 80) :
    Calls Tryz.prog 141 #[.int .i64 (t : Int), .int .u32 (u b), .int .u32 (u c), .int .u32 (u d)] w fun e w' => e = .returned (.tuple #[.int .u32 (u (ff t b c d)), .int .u32 (u (kk t))]) ∧ w = w' := by
  by_cases h0 : t ≤ 19
  · skip
    obtain ⟨e1, e2⟩ := ff0 h0 b c d
    have E1 := Lib.hid (congrArg u e1); have E2 := Lib.hid (congrArg u e2)
    have e : (t : Int) / 20 = 0 := by omega
    clear e1 e2 h0
    have r1 := u_and b c
    have r2 : bits .xor .u32 IntKind.u32.max (u b) = u (~~~b) := u_not b
    have r3 := u_and (~~~b) d
    have r4 := u_or (b &&& c) (~~~b &&& d)
    generalize u (b &&& c ||| ~~~b &&& d) = y at *
    generalize u (b &&& c) = x1 at *
    generalize u (~~~b &&& d) = x2 at *
    generalize u (~~~b) = x3 at *
    go_enter Tryz.func141, Tryz.ntmps141
    go_wp2
    refine bodyPost_ret (results_tmp2 rfl _ _ _) rfl ?_
    rw [E1.out, E2.out]
    exact ⟨rfl, rfl⟩
  · by_cases h1 : t ≤ 39
    · skip
      obtain ⟨e1, e2⟩ := ff1 h0 h1 b c d
      have E1 := Lib.hid (congrArg u e1); have E2 := Lib.hid (congrArg u e2)
      have e : (t : Int) / 20 = 1 := by omega
      clear e1 e2 h0 h1
      have r1 := u_xor b c
      have r2 := u_xor (b ^^^ c) d
      generalize u (b ^^^ c ^^^ d) = y at *
      generalize u (b ^^^ c) = x1 at *
      go_enter Tryz.func141, Tryz.ntmps141
      go_wp2
      refine bodyPost_ret (results_tmp2 rfl _ _ _) rfl ?_
      rw [E1.out, E2.out]
      exact ⟨rfl, rfl⟩
    · by_cases h2 : t ≤ 59
      · skip
        obtain ⟨e1, e2⟩ := ff2 h1 h2 b c d
        have E1 := Lib.hid (congrArg u e1); have E2 := Lib.hid (congrArg u e2)
        have e : (t : Int) / 20 = 2 := by omega
        clear e1 e2 h0 h1 h2
        have r1 := u_and b c
        have r2 := u_and b d
        have r3 := u_or (b &&& c) (b &&& d)
        have r4 := u_and c d
        have r5 := u_or (b &&& c ||| b &&& d) (c &&& d)
        generalize u (b &&& c ||| b &&& d ||| c &&& d) = y at *
        generalize u (b &&& c ||| b &&& d) = x1 at *
        generalize u (b &&& c) = x2 at *
        generalize u (b &&& d) = x3 at *
        generalize u (c &&& d) = x4 at *
        go_enter Tryz.func141, Tryz.ntmps141
        go_wp2
        refine bodyPost_ret (results_tmp2 rfl _ _ _) rfl ?_
        rw [E1.out, E2.out]
        exact ⟨rfl, rfl⟩
      · skip
        obtain ⟨e1, e2⟩ := ff3 h2 b c d
        have E1 := Lib.hid (congrArg u e1); have E2 := Lib.hid (congrArg u e2)
        have e : (t : Int) / 20 = 3 := by omega
        clear e1 e2 h0 h1 h2
        have r1 := u_xor b c
        have r2 := u_xor (b ^^^ c) d
        generalize u (b ^^^ c ^^^ d) = y at *
        generalize u (b ^^^ c) = x1 at *
        go_enter Tryz.func141, Tryz.ntmps141
        go_wp2
        refine bodyPost_ret (results_tmp2 rfl _ _ _) rfl ?_
        rw [E1.out, E2.out]
        exact ⟨rfl, rfl⟩

/-- How many blocks, of any number. -/
def pbI (n : Int) : Int := if n < 0 then 0 else (n / 64) + (if 55 < n % 64 then 2 else 1)
theorem pbI_nat (n : Nat) : pbI n = ((pb n : Nat) : Int) := by
  unfold pbI pb
  rw [if_neg (by omega)]
  split <;> omega
theorem blocks_any (n : Int) (w : World) (hn : fits n) : Calls Tryz.prog 173 #[.int .i64 n] w fun e w' => e = .returned (.int .i64 (pbI n)) ∧ w = w' := by
  unfold fits at hn
  by_cases h0 : n < 0
  · have E := Lib.hid (show pbI n = 0 by unfold pbI; rw [if_pos h0])
    go_enter Tryz.func173, Tryz.ntmps173
    go_wp2
    go_ret
    rw [E.out]
    exact ⟨rfl, rfl⟩
  · by_cases h1 : 55 < n % 64
    · have E := Lib.hid (show pbI n = n / 64 + 2 by unfold pbI; rw [if_neg h0, if_pos h1])
      go_enter Tryz.func173, Tryz.ntmps173
      go_wp2
      go_ret
      rw [E.out]
      exact ⟨rfl, rfl⟩
    · have E := Lib.hid (show pbI n = n / 64 + 1 by unfold pbI; rw [if_neg h0, if_neg h1])
      go_enter Tryz.func173, Tryz.ntmps173
      go_wp2
      go_ret
      rw [E.out]
      exact ⟨rfl, rfl⟩

end Go.Proofs.YtdonicaiimeleaaGreatDoor

namespace Go.Proofs.YtdonicaiimeleaaGreatDoor
open Go.RowKit Go.Shelf
attribute [local go_sem] Oper.semAt_some
set_option linter.unusedVariables false

/-- What lies from lo on, below hi, lies as it lay. -/
def Band (lo hi : Nat) (W W' : World) : Prop := ∀ k, lo ≤ k → k < hi → W'.heap[k]? = W.heap[k]?
theorem Band.refl (lo hi : Nat) (W : World) : Band lo hi W W := fun _ _ _ => rfl
theorem band_t {lo hi : Nat} {A B C : World} (h : Band lo hi A B) (k : Band lo hi B C) : Band lo hi A C := fun i h1 h2 => (k i h1 h2).trans (h i h1 h2)
theorem band_b {lo hi : Nat} {w : World} (hn : hi ≤ w.heap.size) (W : World) (l : Nat) (o o' : Obj) (hl : w.heap.size ≤ l) (h : W.heap[l]? = some o) (_ : o.isCells = false) (_ : o.isWalk = false) : Band lo hi W (W.putObj l o') :=
  fun k _ hk => World.putObj_heap_other (by omega)
theorem Band.cell {lo hi : Nat} {W W' : World} (h : Band lo hi W W') {p : Addr} (h1 : lo ≤ p.block) (h2 : p.block < hi) : W'.cell? p = W.cell? p := by
  unfold World.cell?; rw [h p.block h1 h2]
theorem Band.set {lo hi : Nat} {W W' : World} (h : Band lo hi W W') (a : Addr) (v : Value) (hl : a.block < lo) : Band lo hi W (W'.setCell a v) :=
  fun k h1 h2 => (Below.heap_setCell W' a v k (by omega)).trans (h k h1 h2)
theorem Band.grown {lo hi : Nat} {W W' : World} {g : Nat} (h : W.grownBy W' (some g)) (hg : g < lo) (hs : hi ≤ W.heap.size) : Band lo hi W W' :=
  fun k h1 h2 => h.block k (by omega) (fun e => by injection e with e; omega)

theorem parts_any (A : Option Addr) (N c S : Nat) (w : World) :
    Calls Tryz.prog 125 #[.slice A N c, .int .i64 (S : Int)] w fun e w' =>
      e = .returned (.func (.func 159) #[] #[.pointer (some ⟨w.heap.size, 0, none⟩), .pointer (some ⟨w.heap.size + 1, 0, none⟩)]) ∧
      w' = (w.alloc (.cells #[.slice A N c] 84)).alloc (.cells #[.int .i64 (S : Int)] 3) := by
  refine (callsIn_wide (n := 3)).1 ?_
  refine callsIn_of_wp Tryz.func125 rfl trivial ?_ rfl
  simp only [Tryz.ntmps125, List.size_toArray, List.length_cons, List.length_nil, Nat.reduceAdd, Nat.reduceSub, Array.replicate_succ, Array.replicate_zero, List.push_toArray, List.append_toArray, List.nil_append, List.cons_append]
  gi_wp2
  go_ret
  exact ⟨rfl, rfl⟩

/-- What a part is: its number and its bytes. -/
def pt (A : Option Addr) (S c i : Nat) : Array Value := #[.int .i64 (i : Int), .slice (A.map (·.add (i * S))) S (c - i * S)]
/-- The k-th part is cut out of the whole. -/
theorem part_cut {A : Option Addr} {N c S m i : Nat} (hS : 0 < S) (hm : m * S ≤ N) (hi : i < m) (hNc : N ≤ c) :
    ∀ w', (Instr.slice 84 (.slice A N c) (some (.int .i64 ((i : Int) * (S : Int)))) (some (.int .i64 (((i : Int) + 1) * (S : Int)))) none).run Tryz.prog w' = .ok (.slice (A.map (·.add (i * S))) S (c - i * S)) w' := by
  intro w'
  have h1 : (i + 1) * S ≤ m * S := Nat.mul_le_mul_right S hi
  have h2 : (i + 1) * S = i * S + S := Nat.succ_mul i S
  have e1 : ((i : Int) * (S : Int)) = ((i * S : Nat) : Int) := by simp
  have e2 : (((i : Int) + 1) * (S : Int)) = ((i * S + S : Nat) : Int) := by rw [← h2]; simp
  rw [e1, e2]
  generalize i * S = lo at *
  rw [run_slice_lh w' 84 A N c bslice .i64 .i64 lo ((lo + S : Nat) : Int) (by omega) (by omega) (by omega), bsize]
  have h3 : ¬ c = lo := by omega
  simp [Result.andThen, sliced, h3]
  omega

set_option maxRecDepth 100000 in
set_option maxHeartbeats 2000000 in
theorem parts_stops (n : Nat) (hn : 1 ≤ n) (S N m c B lo hi : Nat) (A : Option Addr) (hS : S = 1 ∨ S = 2 ∨ S = 4 ∨ S = 8) (hm : N / S = m) (hNc : N ≤ c) (hc : N ≤ 1000000000) (hB : lo ≤ B) (hB2 : B + 1 < hi) (w : World) (hhi : hi ≤ w.heap.size)
    (hb1 : w.cell? ⟨B, 0, none⟩ = some (.slice A N c)) (hb2 : w.cell? ⟨B + 1, 0, none⟩ = some (.int .i64 (S : Int))) :
    SeqStopsK Fence.wide n Tryz.prog 159 #[.pointer (some ⟨B, 0, none⟩), .pointer (some ⟨B + 1, 0, none⟩)] (fun x : { i : Nat // i < m } => pt A S c x.1) (Band lo hi)
      (fun xs => xs.map (·.1) = List.range m) (fun _ => True) m w := fun l J Jx W hW hJ hJx hY h0 => by
  have c1 := (hW.cell (p := ⟨B, 0, none⟩) (by simp; omega)).trans hb1
  have c2 := (hW.cell (p := ⟨B + 1, 0, none⟩) (by simp; omega)).trans hb2
  have hpos : 0 < S := by omega
  have hmN : m * S ≤ N := by rw [← hm]; exact Nat.div_mul_le_self N S
  have hq : Int.tdiv (N : Int) (S : Int) = (m : Int) := by rw [← hm]; rfl
  refine callsIn_of_wp Tryz.func159 rfl trivial ?_ rfl
  simp only [Tryz.ntmps159, List.size_toArray, List.length_cons, List.length_nil, Nat.reduceAdd, Nat.reduceSub, Array.replicate_succ, Array.replicate_zero, List.push_toArray, List.append_toArray, List.nil_append, List.cons_append]
  have hcut := fun i (hi : i < m) => part_cut (A := A) hpos hmN hi hNc
  have C1 := Lib.hid c1; have C2 := Lib.hid c2
  have key : ∀ k, k < m → ∀ (pre : List { i : Nat // i < m }) (wr : World), pre.map (·.1) = List.range k → J pre wr → Hid (YieldAt Fence.wide (n - 1) Tryz.prog l #[.int .i64 (k : Int), .slice (A.map (·.add (k * S))) S (c - k * S)] wr fun e W' =>
      (e = .returned (.bool true) ∧ ∃ pre', pre'.map (·.1) = List.range (k + 1) ∧ J pre' W' ∧ Band lo hi wr W') ∨ (e = .returned (.bool false) ∧ ∃ pre', Jx pre' W')) := by
    intro k hk pre wr hp hj
    refine Lib.hid (YieldAt.mono (hY pre ⟨k, hk⟩ wr hj (by have := congrArg List.length hp; simp at this; omega)) ?_)
    rintro e W' (⟨rfl, h1, h2⟩ | ⟨rfl, h1⟩)
    · exact .inl ⟨rfl, _, by rw [List.map_append, hp, List.range_succ]; rfl, h1, h2⟩
    · exact .inr ⟨rfl, _, h1⟩
  clear hY
  rcases hS with rfl | rfl | rfl | rfl
  · have hm1 : m ≤ 1000000000 := by omega
    gi_wp2
    gi_loopw [9] (fun i wr => ∃ (k : Nat) (pre : List { i : Nat // i < m }), k ≤ m ∧ i = .int .i64 k ∧ pre.map (·.1) = List.range k ∧ J pre wr ∧ Hid (wr.cell? ⟨B, 0, none⟩ = W.cell? ⟨B, 0, none⟩) ∧ Hid (wr.cell? ⟨B + 1, 0, none⟩ = W.cell? ⟨B + 1, 0, none⟩)) (fun i _ => m - (intOf i).toNat)
    case atStart => exact ⟨0, [], Nat.zero_le _, rfl, rfl, h0, Lib.hid rfl, Lib.hid rfl⟩
    case round =>
      obtain ⟨k, pre, hk, rfl, hp, hJs, D1, D2⟩ := hrel
      have d1 := D1.out.trans C1.out
      have d2 := D2.out.trans C2.out
      clear c1 c2
      by_cases hlt : k < m
      · obtain ⟨fn, tmps, assign, body, hy, hR⟩ := (key k hlt pre wr hp hJs).out
        have hcut := hcut k hlt
        simp only [Int.mul_one, Nat.mul_one, Int.cast_ofNat_Int] at hcut hy
        gi_wp2
        refine hR.mono ?_
        rintro e W3 (⟨rfl, pre', hp', hJ3, hk3⟩ | ⟨rfl, pre', hJx3⟩)
        · have D3 := Lib.hid ((hk3.cell (p := ⟨B, 0, none⟩) (by simp; omega) (by simp; omega)).trans D1.out)
          have D4 := Lib.hid ((hk3.cell (p := ⟨B + 1, 0, none⟩) (by simp; omega) (by simp; omega)).trans D2.out)
          gi_wp2
          go_roundw
          case rel => exact ⟨k + 1, pre', by omega, by simp, hp', hJ3, D3, D4⟩
          case measure => simp [intOf]; omega
        · gi_wp2
          refine bodyPost_ret (results_none rfl _ _ _) rfl ?_
          exact ⟨⟨_, rfl⟩, .inr ⟨_, trivial, hJx3⟩⟩
      · obtain rfl : k = m := by omega
        gi_wp2
        go_end0
        exact ⟨⟨_, rfl⟩, .inl ⟨_, hp, hJs⟩⟩
  · have hm1 : m ≤ 1000000000 := by omega
    gi_wp2
    gi_loopw [9] (fun i wr => ∃ (k : Nat) (pre : List { i : Nat // i < m }), k ≤ m ∧ i = .int .i64 k ∧ pre.map (·.1) = List.range k ∧ J pre wr ∧ Hid (wr.cell? ⟨B, 0, none⟩ = W.cell? ⟨B, 0, none⟩) ∧ Hid (wr.cell? ⟨B + 1, 0, none⟩ = W.cell? ⟨B + 1, 0, none⟩)) (fun i _ => m - (intOf i).toNat)
    case atStart => exact ⟨0, [], Nat.zero_le _, rfl, rfl, h0, Lib.hid rfl, Lib.hid rfl⟩
    case round =>
      obtain ⟨k, pre, hk, rfl, hp, hJs, D1, D2⟩ := hrel
      have d1 := D1.out.trans C1.out
      have d2 := D2.out.trans C2.out
      clear c1 c2
      by_cases hlt : k < m
      · obtain ⟨fn, tmps, assign, body, hy, hR⟩ := (key k hlt pre wr hp hJs).out
        have hcut := hcut k hlt
        simp only [Int.cast_ofNat_Int] at hcut hy
        gi_wp2
        refine hR.mono ?_
        rintro e W3 (⟨rfl, pre', hp', hJ3, hk3⟩ | ⟨rfl, pre', hJx3⟩)
        · have D3 := Lib.hid ((hk3.cell (p := ⟨B, 0, none⟩) (by simp; omega) (by simp; omega)).trans D1.out)
          have D4 := Lib.hid ((hk3.cell (p := ⟨B + 1, 0, none⟩) (by simp; omega) (by simp; omega)).trans D2.out)
          gi_wp2
          go_roundw
          case rel => exact ⟨k + 1, pre', by omega, by simp, hp', hJ3, D3, D4⟩
          case measure => simp [intOf]; omega
        · gi_wp2
          refine bodyPost_ret (results_none rfl _ _ _) rfl ?_
          exact ⟨⟨_, rfl⟩, .inr ⟨_, trivial, hJx3⟩⟩
      · obtain rfl : k = m := by omega
        gi_wp2
        go_end0
        exact ⟨⟨_, rfl⟩, .inl ⟨_, hp, hJs⟩⟩
  · have hm1 : m ≤ 1000000000 := by omega
    gi_wp2
    gi_loopw [9] (fun i wr => ∃ (k : Nat) (pre : List { i : Nat // i < m }), k ≤ m ∧ i = .int .i64 k ∧ pre.map (·.1) = List.range k ∧ J pre wr ∧ Hid (wr.cell? ⟨B, 0, none⟩ = W.cell? ⟨B, 0, none⟩) ∧ Hid (wr.cell? ⟨B + 1, 0, none⟩ = W.cell? ⟨B + 1, 0, none⟩)) (fun i _ => m - (intOf i).toNat)
    case atStart => exact ⟨0, [], Nat.zero_le _, rfl, rfl, h0, Lib.hid rfl, Lib.hid rfl⟩
    case round =>
      obtain ⟨k, pre, hk, rfl, hp, hJs, D1, D2⟩ := hrel
      have d1 := D1.out.trans C1.out
      have d2 := D2.out.trans C2.out
      clear c1 c2
      by_cases hlt : k < m
      · obtain ⟨fn, tmps, assign, body, hy, hR⟩ := (key k hlt pre wr hp hJs).out
        have hcut := hcut k hlt
        simp only [Int.cast_ofNat_Int] at hcut hy
        gi_wp2
        refine hR.mono ?_
        rintro e W3 (⟨rfl, pre', hp', hJ3, hk3⟩ | ⟨rfl, pre', hJx3⟩)
        · have D3 := Lib.hid ((hk3.cell (p := ⟨B, 0, none⟩) (by simp; omega) (by simp; omega)).trans D1.out)
          have D4 := Lib.hid ((hk3.cell (p := ⟨B + 1, 0, none⟩) (by simp; omega) (by simp; omega)).trans D2.out)
          gi_wp2
          go_roundw
          case rel => exact ⟨k + 1, pre', by omega, by simp, hp', hJ3, D3, D4⟩
          case measure => simp [intOf]; omega
        · gi_wp2
          refine bodyPost_ret (results_none rfl _ _ _) rfl ?_
          exact ⟨⟨_, rfl⟩, .inr ⟨_, trivial, hJx3⟩⟩
      · obtain rfl : k = m := by omega
        gi_wp2
        go_end0
        exact ⟨⟨_, rfl⟩, .inl ⟨_, hp, hJs⟩⟩
  · have hm1 : m ≤ 1000000000 := by omega
    gi_wp2
    gi_loopw [9] (fun i wr => ∃ (k : Nat) (pre : List { i : Nat // i < m }), k ≤ m ∧ i = .int .i64 k ∧ pre.map (·.1) = List.range k ∧ J pre wr ∧ Hid (wr.cell? ⟨B, 0, none⟩ = W.cell? ⟨B, 0, none⟩) ∧ Hid (wr.cell? ⟨B + 1, 0, none⟩ = W.cell? ⟨B + 1, 0, none⟩)) (fun i _ => m - (intOf i).toNat)
    case atStart => exact ⟨0, [], Nat.zero_le _, rfl, rfl, h0, Lib.hid rfl, Lib.hid rfl⟩
    case round =>
      obtain ⟨k, pre, hk, rfl, hp, hJs, D1, D2⟩ := hrel
      have d1 := D1.out.trans C1.out
      have d2 := D2.out.trans C2.out
      clear c1 c2
      by_cases hlt : k < m
      · obtain ⟨fn, tmps, assign, body, hy, hR⟩ := (key k hlt pre wr hp hJs).out
        have hcut := hcut k hlt
        simp only [Int.cast_ofNat_Int] at hcut hy
        gi_wp2
        refine hR.mono ?_
        rintro e W3 (⟨rfl, pre', hp', hJ3, hk3⟩ | ⟨rfl, pre', hJx3⟩)
        · have D3 := Lib.hid ((hk3.cell (p := ⟨B, 0, none⟩) (by simp; omega) (by simp; omega)).trans D1.out)
          have D4 := Lib.hid ((hk3.cell (p := ⟨B + 1, 0, none⟩) (by simp; omega) (by simp; omega)).trans D2.out)
          gi_wp2
          go_roundw
          case rel => exact ⟨k + 1, pre', by omega, by simp, hp', hJ3, D3, D4⟩
          case measure => simp [intOf]; omega
        · gi_wp2
          refine bodyPost_ret (results_none rfl _ _ _) rfl ?_
          exact ⟨⟨_, rfl⟩, .inr ⟨_, trivial, hJx3⟩⟩
      · obtain rfl : k = m := by omega
        gi_wp2
        go_end0
        exact ⟨⟨_, rfl⟩, .inl ⟨_, hp, hJs⟩⟩
end Go.Proofs.YtdonicaiimeleaaGreatDoor
