/- Merged: ShaS, ShaT, ShaV. -/
import Derived.Test.YtiamggjebaabkaaGreatDoorGListRemarks16
import Derived.Test.YtiamggjebaabkaaGreatDoorGListRemarks5
import Derived.LoopTactic
import Derived.Test.YtiamggjebaabkaaGreatDoorGListRemarks12
import Derived.Maps.AppendAt
import Derived.StillTailTactics
import Derived.Deep.DeepCutAuto
import Derived.Deep.CutRange
import Derived.Deep.CutBlock
import Derived.Deep.LoopGhost
import Derived.BigQuiet
namespace Go.Proofs.YtiamggjebaabkaaGreatDoor
open Go.RowKit Go.WideShapes Go.ChangeShapes
set_option linter.unusedVariables false

theorem u_wf (x : BitVec 32) : (Lit.int .u32 (u x)).wf = true := by
  have := u_lo x; have := u_hi x
  simp [Lit.wf, IntKind.min, IntKind.max, IntKind.signed, IntKind.bits]
  omega
/-- A row of words of the call's own. -/
def Wo (w : World) (base : Nat) (v : Value) (p : List (BitVec 32)) : Prop := Oz w base 35 .u32 v (p.map u)
theorem Wo.reads {w : World} {base : Nat} {v : Value} {p : List (BitVec 32)} (h : Wo w base v p) : ∃ A c, v = .slice A p.length c ∧ Rz .u32 w A (p.map u) ∧ (A = none → c = 0) ∧ p.length ≤ c ∧ c ≤ maxLen := by
  have := Oz.reads h (fun z hz => by obtain ⟨x, _, rfl⟩ := List.mem_map.mp hz; exact u_wf x)
  rwa [List.length_map] at this
/-- A row of words that isn't empty: its block. -/
theorem Wo.open_ {w : World} {base : Nat} {v : Value} {p : List (BitVec 32)} (h : Wo w base v p) (h0 : 0 < p.length) :
    ∃ b c, v = .slice (some ⟨b, 0, none⟩) p.length c ∧ base ≤ b ∧ b < w.heap.size ∧ (∀ i y, p[i]? = some y → w.cell? ⟨b, i, none⟩ = some (.int .u32 (u y))) ∧ p.length ≤ c ∧ c ≤ maxLen := by
  rcases h.2 with ⟨hv, hn⟩ | ⟨g, cap, cur, hv, hb, hh, hc, hm, _, _⟩
  · rw [List.length_map] at hn; omega
  · rw [List.length_map] at hv hc
    refine ⟨g, cap, hv, hb, bk_lt hh, fun i y hy => ?_, hc, hm⟩
    have := World.ownsRow.cells h (g := g) (by rw [hv]; rfl) i (.int .u32 (u y)) (by unfold cz; rw [List.getElem?_map, List.getElem?_map, hy]; rfl)
    rw [← this]
    unfold Addr.add
    by_cases h0 : i = 0
    · subst h0; rfl
    · simp [h0]
end Go.Proofs.YtiamggjebaabkaaGreatDoor

namespace Go.Proofs.YtiamggjebaabkaaGreatDoor
open Go.RowKit
set_option linter.unusedVariables false

/-- A state's block. -/
def stv (s : St) : Array Value := #[.int .u32 (u s.a), .int .u32 (u s.b), .int .u32 (u s.c), .int .u32 (u s.d), .int .u32 (u s.e)]
def Sb (w : World) (p : Nat) (s : St) : Prop := w.heap[p]? = some (.cells (stv s) 36 (0, 0))
theorem Sb.lt {w : World} {p : Nat} {s : St} (h : Sb w p s) : p < w.heap.size := bk_lt h
theorem Sb.keep {w w' : World} {p : Nat} {s : St} (h : Sb w p s) (hb : Below w.heap.size w w') : Sb w' p s := (hb.block p h.lt).trans h
theorem Sb.all {w : World} {p : Nat} {s : St} (h : Sb w p s) : w.cell? ⟨p, 0, none⟩ = some (.int .u32 (u s.a)) ∧ w.cell? ⟨p, 1, none⟩ = some (.int .u32 (u s.b)) ∧ w.cell? ⟨p, 2, none⟩ = some (.int .u32 (u s.c)) ∧ w.cell? ⟨p, 3, none⟩ = some (.int .u32 (u s.d)) ∧ w.cell? ⟨p, 4, none⟩ = some (.int .u32 (u s.e)) :=
  ⟨bk_cell h 0, bk_cell h 1, bk_cell h 2, bk_cell h 3, bk_cell h 4⟩
theorem Sb.frees {w : World} {p : Nat} {s : St} (h : Sb w p s) : w.frozen? ⟨p, 0, none⟩ = false ∧ w.frozen? ⟨p, 1, none⟩ = false ∧ w.frozen? ⟨p, 2, none⟩ = false ∧ w.frozen? ⟨p, 3, none⟩ = false ∧ w.frozen? ⟨p, 4, none⟩ = false :=
  ⟨bk_free h 0, bk_free h 1, bk_free h 2, bk_free h 3, bk_free h 4⟩
theorem Sb.s0 {w : World} {p : Nat} {s : St} (h : Sb w p s) (v : BitVec 32) : Sb (w.setCell ⟨p, 0, none⟩ (.int .u32 (u v))) p ⟨v, s.b, s.c, s.d, s.e⟩ := by
  have e := bk_set h 0 (.int .u32 (u v))
  unfold Sb
  rw [e]; rfl
theorem Sb.s1 {w : World} {p : Nat} {s : St} (h : Sb w p s) (v : BitVec 32) : Sb (w.setCell ⟨p, 1, none⟩ (.int .u32 (u v))) p ⟨s.a, v, s.c, s.d, s.e⟩ := by
  have e := bk_set h 1 (.int .u32 (u v))
  unfold Sb
  rw [e]; rfl
theorem Sb.s2 {w : World} {p : Nat} {s : St} (h : Sb w p s) (v : BitVec 32) : Sb (w.setCell ⟨p, 2, none⟩ (.int .u32 (u v))) p ⟨s.a, s.b, v, s.d, s.e⟩ := by
  have e := bk_set h 2 (.int .u32 (u v))
  unfold Sb
  rw [e]; rfl
theorem Sb.s3 {w : World} {p : Nat} {s : St} (h : Sb w p s) (v : BitVec 32) : Sb (w.setCell ⟨p, 3, none⟩ (.int .u32 (u v))) p ⟨s.a, s.b, s.c, v, s.e⟩ := by
  have e := bk_set h 3 (.int .u32 (u v))
  unfold Sb
  rw [e]; rfl
theorem Sb.s4 {w : World} {p : Nat} {s : St} (h : Sb w p s) (v : BitVec 32) : Sb (w.setCell ⟨p, 4, none⟩ (.int .u32 (u v))) p ⟨s.a, s.b, s.c, s.d, v⟩ := by
  have e := bk_set h 4 (.int .u32 (u v))
  unfold Sb
  rw [e]; rfl
/-- A state stored. -/
abbrev put5 (W : World) (q : Nat) (s : St) : World := ((((W.setCell ⟨q, 0, none⟩ (.int .u32 (u s.a))).setCell ⟨q, 1, none⟩ (.int .u32 (u s.b))).setCell ⟨q, 2, none⟩ (.int .u32 (u s.c))).setCell ⟨q, 3, none⟩ (.int .u32 (u s.d))).setCell ⟨q, 4, none⟩ (.int .u32 (u s.e))
theorem put5_sb {W : World} {q : Nat} {l : St} (g : Sb W q l) (s : St) : Sb (put5 W q s) q s := ((((g.s0 s.a).s1 s.b).s2 s.c).s3 s.d).s4 s.e
theorem put5_below {B : Nat} {w W : World} {q : Nat} (b : Below B w W) (hq : B ≤ q) (s : St) : Below B w (put5 W q s) := ((((b.setCell hq _).setCell hq _).setCell hq _).setCell hq _).setCell hq _
def zs5 : St := ⟨0, 0, 0, 0, 0⟩
end Go.Proofs.YtiamggjebaabkaaGreatDoor

namespace Go.Proofs.YtiamggjebaabkaaGreatDoor
open Go.RowKit
set_option linter.unusedVariables false

theorem rotl1_any (x : BitVec 32) (w : World) : Calls Tryz.prog 128 #[.int .u32 (u x), .int .i64 1] w fun e w' => e = .returned (.int .u32 (u (rot x 1))) ∧ w = w' := by
  have r1 : IntKind.u32.wrap (u x * 2) = u (x <<< 1) := u_shl x 1
  have r2 : u x / (2147483648 : Int) = u (x >>> 31) := u_shr x 31
  have r3 := u_or (x <<< 1) (x >>> 31)
  have r0 : bits .and .u64 1 31 = 1 := by decide +kernel
  rw [show x <<< 1 ||| x >>> 31 = rot x 1 from rfl] at r3
  generalize rot x 1 = r at *
  generalize x <<< 1 = y at *
  generalize x >>> 31 = z at *
  go_enter Tryz.func128, Tryz.ntmps128
  go_wp2
  go_ret
  exact ⟨rfl, rfl⟩
theorem rotl5_any (x : BitVec 32) (w : World) : Calls Tryz.prog 128 #[.int .u32 (u x), .int .i64 5] w fun e w' => e = .returned (.int .u32 (u (rot x 5))) ∧ w = w' := by
  have r1 : IntKind.u32.wrap (u x * 32) = u (x <<< 5) := u_shl x 5
  have r2 : u x / (134217728 : Int) = u (x >>> 27) := u_shr x 27
  have r3 := u_or (x <<< 5) (x >>> 27)
  have r0 : bits .and .u64 5 31 = 5 := by decide +kernel
  rw [show x <<< 5 ||| x >>> 27 = rot x 5 from rfl] at r3
  generalize rot x 5 = r at *
  generalize x <<< 5 = y at *
  generalize x >>> 27 = z at *
  go_enter Tryz.func128, Tryz.ntmps128
  go_wp2
  go_ret
  exact ⟨rfl, rfl⟩
theorem rotl30_any (x : BitVec 32) (w : World) : Calls Tryz.prog 128 #[.int .u32 (u x), .int .i64 30] w fun e w' => e = .returned (.int .u32 (u (rot x 30))) ∧ w = w' := by
  have r1 : IntKind.u32.wrap (u x * 1073741824) = u (x <<< 30) := u_shl x 30
  have r2 : u x / (4 : Int) = u (x >>> 2) := u_shr x 2
  have r3 := u_or (x <<< 30) (x >>> 2)
  have r0 : bits .and .u64 30 31 = 30 := by decide +kernel
  rw [show x <<< 30 ||| x >>> 2 = rot x 30 from rfl] at r3
  generalize rot x 30 = r at *
  generalize x <<< 30 = y at *
  generalize x >>> 2 = z at *
  go_enter Tryz.func128, Tryz.ntmps128
  go_wp2
  go_ret
  exact ⟨rfl, rfl⟩

theorem ff0 {t : Nat} (h : t ≤ 19) (b c d : BitVec 32) : ff t b c d = (b &&& c) ||| (~~~b &&& d) ∧ kk t = 0x5a827999#32 := by unfold ff kk; rw [if_pos h, if_pos h]; exact ⟨rfl, rfl⟩
theorem ff1 {t : Nat} (h0 : ¬ t ≤ 19) (h : t ≤ 39) (b c d : BitVec 32) : ff t b c d = b ^^^ c ^^^ d ∧ kk t = 0x6ed9eba1#32 := by unfold ff kk; rw [if_neg h0, if_neg h0, if_pos h, if_pos h]; exact ⟨rfl, rfl⟩
theorem ff2 {t : Nat} (h0 : ¬ t ≤ 39) (h : t ≤ 59) (b c d : BitVec 32) : ff t b c d = (b &&& c) ||| (b &&& d) ||| (c &&& d) ∧ kk t = 0x8f1bbcdc#32 := by
  have h1 : ¬ t ≤ 19 := by omega
  unfold ff kk; simp only [if_neg h1, if_neg h0, if_pos h]; exact ⟨trivial, trivial⟩
theorem ff3 {t : Nat} (h0 : ¬ t ≤ 59) (b c d : BitVec 32) : ff t b c d = b ^^^ c ^^^ d ∧ kk t = 0xca62c1d6#32 := by
  have h1 : ¬ t ≤ 19 := by omega
  have h2 : ¬ t ≤ 39 := by omega
  unfold ff kk; simp only [if_neg h1, if_neg h2, if_neg h0]; exact ⟨trivial, trivial⟩

set_option maxRecDepth 100000 in
theorem mixed_any (t : Nat) (b c d : BitVec 32) (w : World) (ht : t < 80) :
    Calls Tryz.prog 127 #[.int .i64 (t : Int), .int .u32 (u b), .int .u32 (u c), .int .u32 (u d)] w fun e w' => e = .returned (.tuple #[.int .u32 (u (ff t b c d)), .int .u32 (u (kk t))]) ∧ w = w' := by
  by_cases h0 : t ≤ 19
  · skip
    obtain ⟨e1, e2⟩ := ff0 h0 b c d
    have E1 := Lib.hid (congrArg u e1); have E2 := Lib.hid (congrArg u e2)
    have e : (t : Int) / 20 = 0 := by omega
    clear e1 e2 h0
    have r1 := u_and b c
    have r2 : bits .xor .u32 IntKind.u32.max (u b) = u (~~~b) := u_not b
    have r3 := u_and (~~~b) d
    have r4 := u_or (b &&& c) (~~~b &&& d)
    generalize u (b &&& c ||| ~~~b &&& d) = y at *
    generalize u (b &&& c) = x1 at *
    generalize u (~~~b &&& d) = x2 at *
    generalize u (~~~b) = x3 at *
    go_enter Tryz.func127, Tryz.ntmps127
    go_wp2
    refine bodyPost_ret (results_tmp2 rfl _ _ _) rfl ?_
    rw [E1.out, E2.out]
    exact ⟨rfl, rfl⟩
  · by_cases h1 : t ≤ 39
    · skip
      obtain ⟨e1, e2⟩ := ff1 h0 h1 b c d
      have E1 := Lib.hid (congrArg u e1); have E2 := Lib.hid (congrArg u e2)
      have e : (t : Int) / 20 = 1 := by omega
      clear e1 e2 h0 h1
      have r1 := u_xor b c
      have r2 := u_xor (b ^^^ c) d
      generalize u (b ^^^ c ^^^ d) = y at *
      generalize u (b ^^^ c) = x1 at *
      go_enter Tryz.func127, Tryz.ntmps127
      go_wp2
      refine bodyPost_ret (results_tmp2 rfl _ _ _) rfl ?_
      rw [E1.out, E2.out]
      exact ⟨rfl, rfl⟩
    · by_cases h2 : t ≤ 59
      · skip
        obtain ⟨e1, e2⟩ := ff2 h1 h2 b c d
        have E1 := Lib.hid (congrArg u e1); have E2 := Lib.hid (congrArg u e2)
        have e : (t : Int) / 20 = 2 := by omega
        clear e1 e2 h0 h1 h2
        have r1 := u_and b c
        have r2 := u_and b d
        have r3 := u_or (b &&& c) (b &&& d)
        have r4 := u_and c d
        have r5 := u_or (b &&& c ||| b &&& d) (c &&& d)
        generalize u (b &&& c ||| b &&& d ||| c &&& d) = y at *
        generalize u (b &&& c ||| b &&& d) = x1 at *
        generalize u (b &&& c) = x2 at *
        generalize u (b &&& d) = x3 at *
        generalize u (c &&& d) = x4 at *
        go_enter Tryz.func127, Tryz.ntmps127
        go_wp2
        refine bodyPost_ret (results_tmp2 rfl _ _ _) rfl ?_
        rw [E1.out, E2.out]
        exact ⟨rfl, rfl⟩
      · skip
        obtain ⟨e1, e2⟩ := ff3 h2 b c d
        have E1 := Lib.hid (congrArg u e1); have E2 := Lib.hid (congrArg u e2)
        have e : (t : Int) / 20 = 3 := by omega
        clear e1 e2 h0 h1 h2
        have r1 := u_xor b c
        have r2 := u_xor (b ^^^ c) d
        generalize u (b ^^^ c ^^^ d) = y at *
        generalize u (b ^^^ c) = x1 at *
        go_enter Tryz.func127, Tryz.ntmps127
        go_wp2
        refine bodyPost_ret (results_tmp2 rfl _ _ _) rfl ?_
        rw [E1.out, E2.out]
        exact ⟨rfl, rfl⟩

/-- How many blocks, of any number. -/
def pbI (n : Int) : Int := if n < 0 then 0 else (n / 64) + (if 55 < n % 64 then 2 else 1)
theorem pbI_nat (n : Nat) : pbI n = ((pb n : Nat) : Int) := by
  unfold pbI pb
  rw [if_neg (by omega)]
  split <;> omega
theorem blocks_any (n : Int) (w : World) (hn : fits n) : Calls Tryz.prog 157 #[.int .i64 n] w fun e w' => e = .returned (.int .i64 (pbI n)) ∧ w = w' := by
  unfold fits at hn
  by_cases h0 : n < 0
  · have E := Lib.hid (show pbI n = 0 by unfold pbI; rw [if_pos h0])
    go_enter Tryz.func157, Tryz.ntmps157
    go_wp2
    go_ret
    rw [E.out]
    exact ⟨rfl, rfl⟩
  · by_cases h1 : 55 < n % 64
    · have E := Lib.hid (show pbI n = n / 64 + 2 by unfold pbI; rw [if_neg h0, if_pos h1])
      go_enter Tryz.func157, Tryz.ntmps157
      go_wp2
      go_ret
      rw [E.out]
      exact ⟨rfl, rfl⟩
    · have E := Lib.hid (show pbI n = n / 64 + 1 by unfold pbI; rw [if_neg h0, if_neg h1])
      go_enter Tryz.func157, Tryz.ntmps157
      go_wp2
      go_ret
      rw [E.out]
      exact ⟨rfl, rfl⟩

end Go.Proofs.YtiamggjebaabkaaGreatDoor
