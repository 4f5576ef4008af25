/- The document's Clock, Put, Parse; a rule as an argument; the law RuleTexts, walked. (Written by gen_ruldg.py.) -/
import Derived.Test.YtlngnllcjfbicaaDoorRulA
import Derived.Test.YtlngnllcjfbicaaDoorRow
import Derived.Test.YtlngnllcjfbicaaDoorTabs
import Derived.Deep.Fields
import Derived.ChangeArms
import Derived.ChangeSame
import Derived.Test.YtlngnllcjfbicaaDoorRulF
import Derived.Test.YtlngnllcjfbicaaDoorRulD
import Derived.Test.YtlngnllcjfbicaaDoorRefA
import Derived.Test.YtlngnllcjfbicaaDoorRulDa
import Derived.Test.YtlngnllcjfbicaaDoorRulDb
import Derived.Test.YtlngnllcjfbicaaDoorRulDc
import Derived.Test.YtlngnllcjfbicaaDoorRulDd
import Derived.Test.YtlngnllcjfbicaaDoorRulL
namespace Go.Proofs.YtlngnllcjfbicaaDoor
open Go.RowKit Go.WideShapes Go.ChangeShapes Go.Deep
set_option linter.unusedVariables false
section
variable {H : Type} {enc : TypeId × Value → H}

theorem rule_fields : ∃ fs : Array Field, Tryd.prog.underlying 23 = some (.struct fs) ∧ oneCellFields Tryd.prog fs = true ∧ fs.size = 5 ∧ (∃ f, fs[0]? = some f ∧ f.type = 3) ∧ (∃ f, fs[1]? = some f ∧ f.type = 3) ∧
    (∃ f, fs[2]? = some f ∧ f.type = 3) ∧ (∃ f, fs[3]? = some f ∧ f.type = 3) ∧ (∃ f, fs[4]? = some f ∧ f.type = 3) :=
  ⟨_, Tryd.underlying23, by kernel_rfl, rfl, ⟨_, rfl, rfl⟩, ⟨_, rfl, rfl⟩, ⟨_, rfl, rfl⟩, ⟨_, rfl, rfl⟩, ⟨_, rfl, rfl⟩⟩
theorem fld16_at {W : World} {cs : List Value} {n : Nat} {fs : Array Field} {xs : List (DataW H × List MemPlace)} (hone : oneCellFields Tryd.prog fs = true) (hxl : xs.length = fs.size)
    (hf : ∀ (i : Nat) (f : Field), fs[i]? = some f → DataW.trod enc Tryd.prog W 0 (fun _ => true) true n f.type ((cs.drop f.offset).take (Tryd.prog.cellsOf f.type)) = xs[i]?)
    {i : Nat} {f : Field} {t : TypeId} {c : Value} (hi : fs[i]? = some f) (ht : f.type = t) (hc : cs[i]? = some c) : ∃ y, DataW.trod enc Tryd.prog W 0 (fun _ => true) true n t [c] = some y := by
  obtain ⟨o, k⟩ := hone_of hone i f hi
  have h := hf i f hi
  rw [o, k, ht] at h
  obtain ⟨hlt, hce⟩ := List.getElem?_eq_some_iff.1 hc
  have e : (cs.drop i).take 1 = [c] := by rw [List.drop_eq_getElem_cons hlt, hce]; rfl
  rw [e] at h
  have hx : xs[i]? = some (xs[i]'(by rw [hxl]; exact (Array.getElem?_eq_some_iff.1 hi).1)) := List.getElem?_eq_getElem _
  exact ⟨_, h.trans hx⟩
theorem int16_at {W : World} {n : Nat} {c : Value} {y : DataW H × List MemPlace} (g : DataW.trod enc Tryd.prog W 0 (fun _ => true) true n 3 [c] = some y) : ∃ a : Int, c = .int .i64 a ∧ fits a := by
  obtain ⟨a, e, _, w⟩ := DataW.trod_int Tryd.underlying3 g
  injection e with e _
  exact ⟨a, e, wf_fits w⟩
set_option maxRecDepth 100000 in
theorem open_rule {W : World} {fuel : Nat} {cs : List Value} {x : DataW H × List MemPlace} (h : DataW.trod enc Tryd.prog W 0 (fun _ => true) true fuel 23 cs = some x) :
    ∃ a : Ru, cs = a.cells.toList ∧ a.Fit := by
  obtain ⟨fs, hu, hone, hsz, ⟨f0, u0, t0⟩, ⟨f1, u1, t1⟩, ⟨f2, u2, t2⟩, ⟨f3, u3, t3⟩, ⟨f4, u4, t4⟩⟩ := rule_fields
  obtain ⟨xs, n, _, _, hlen, hxl, hf⟩ := DataW.trod_struct hu h
  rw [show Tryd.prog.cellsOf 23 = 5 by kernel_rfl] at hlen
  match cs, hlen with
  | [c0, c1, c2, c3, c4], _ =>
    obtain ⟨_, g0⟩ := fld16_at hone hxl hf u0 t0 (c := c0) rfl
    obtain ⟨_, g1⟩ := fld16_at hone hxl hf u1 t1 (c := c1) rfl
    obtain ⟨_, g2⟩ := fld16_at hone hxl hf u2 t2 (c := c2) rfl
    obtain ⟨_, g3⟩ := fld16_at hone hxl hf u3 t3 (c := c3) rfl
    obtain ⟨_, g4⟩ := fld16_at hone hxl hf u4 t4 (c := c4) rfl
    obtain ⟨a0, rfl, w0⟩ := int16_at g0
    obtain ⟨a1, rfl, w1⟩ := int16_at g1
    obtain ⟨a2, rfl, w2⟩ := int16_at g2
    obtain ⟨a3, rfl, w3⟩ := int16_at g3
    obtain ⟨a4, rfl, w4⟩ := int16_at g4
    exact ⟨⟨a0, a1, a2, a3, a4⟩, rfl, ⟨w0, w1, w2, w3, w4⟩⟩
theorem rule_agg {cs : Array Value} {a : Ru} (h : (Value.agg cs).cells.toList = a.cells.toList) : cs = a.cells := Array.toList_inj.1 h
end

theorem eq_rule (k m d a t : Int) (w : World) : (Op.equalIn 10000 23 (.agg #[.int .i64 k, .int .i64 m, .int .i64 d, .int .i64 a, .int .i64 t]) (.agg #[.int .i64 k, .int .i64 m, .int .i64 d, .int .i64 a, .int .i64 t])).run Tryd.prog w = .ok true w := by
  have u3 := Tryd.underlying3
  have a3 := Tryd.isAgg3
  have z3 := Tryd.sizeOf3
  rw [show (10000 : Nat) = 9999 + 1 from rfl, Op.equalIn]
  simp only [Sem.run_bind, run_underlying Tryd.underlying23, Result.andThen_ok]
  go_simp
theorem eq_drule (k m d a t : Int) (w : World) : (Op.equalIn 10000 30 (.agg #[.int .i64 k, .int .i64 m, .int .i64 d, .int .i64 a, .int .i64 t]) (.agg #[.int .i64 k, .int .i64 m, .int .i64 d, .int .i64 a, .int .i64 t])).run Tryd.prog w = .ok true w := by
  have u3 := Tryd.underlying3
  have a3 := Tryd.isAgg3
  have z3 := Tryd.sizeOf3
  rw [show (10000 : Nat) = 9999 + 1 from rfl, Op.equalIn]
  simp only [Sem.run_bind, run_underlying Tryd.underlying30, Result.andThen_ok]
  go_simp
end Go.Proofs.YtlngnllcjfbicaaDoor
namespace Go.Proofs.YtlngnllcjfbicaaDoor
open Go.RowKit
set_option linter.unusedVariables false
set_option linter.unusedSimpArgs false

theorem raw16 (x : Int) (k : Nat) (w : World) (h : 0 ≤ x) (h2 : x ≤ 9223372036854775807) (hk : k ≤ 20) : Calls Tryd.prog 39 #[.int .i64 x, .int .i64 (k : Int)] w fun e w' => e = .returned (.string ⟨(ptL x k).toArray⟩) ∧ Below w.heap.size w w' := by
  obtain ⟨n, rfl⟩ : ∃ n : Nat, x = n := ⟨x.toNat, by omega⟩
  have := raw_any n k w (by omega) (by omega)
  rw [pt_is h hk, Int.natAbs_natCast]
  exact this
theorem raw16_1 (x : Int) (w : World) (h : 0 ≤ x) (h2 : x < 100000) : Calls Tryd.prog 39 #[.int .i64 x, .int .i64 1] w fun e w' => e = .returned (.string ⟨(ptL x 1).toArray⟩) ∧ Below w.heap.size w w' := raw16 x 1 w h (by omega) (by omega)
theorem raw16_2 (x : Int) (w : World) (h : 0 ≤ x) (h2 : x < 100000) : Calls Tryd.prog 39 #[.int .i64 x, .int .i64 2] w fun e w' => e = .returned (.string ⟨(ptL x 2).toArray⟩) ∧ Below w.heap.size w w' := raw16 x 2 w h (by omega) (by omega)
theorem ck_parts {t a : Int} (ha : a = if t < 0 then -t else t) (hb : a < 3600000) : ckL t = (if t < 0 then [45] else []) ++ ptL (a / 3600) 1 ++ (if a % 3600 = 0 then [] else [58] ++ ptL (a / 60 % 60) 2) ++ (if a % 60 = 0 then [] else [58] ++ ptL (a % 60) 2) := by
  have e : a = ((t.natAbs : Nat) : Int) := by rw [ha]; split <;> omega
  rw [e]
  unfold ckL ckU
  generalize t.natAbs = n at *
  rw [pt1 (by omega), pt2 (by omega), pt2 (by omega)]
  rw [show ((n : Int) / 3600).natAbs = n / 3600 by omega, show ((n : Int) / 60 % 60).natAbs = n / 60 % 60 by omega, show ((n : Int) % 60).natAbs = n % 60 by omega]
  have c1 : ((n : Int) % 3600 = 0) ↔ n % 3600 = 0 := by omega
  have c2 : ((n : Int) % 60 = 0) ↔ n % 60 = 0 := by omega
  simp only [c1]
  simp only [c2]
  by_cases d : t < 0
  · rw [if_pos d, if_pos d]; simp
  · rw [if_neg d, if_neg d]; simp

set_option maxHeartbeats 4000000 in
theorem rclock_any (t : Int) (w : World) (ht : -3600000 < t ∧ t < 3600000) :
    Calls Tryd.prog 24 #[.int .i64 t] w fun e w' => e = .returned (.string ⟨(ckL t).toArray⟩) ∧ Below w.heap.size w w' := by
  obtain ⟨a, ha⟩ : ∃ a, a = if t < 0 then -t else t := ⟨_, rfl⟩
  have a0 : 0 ≤ a ∧ a < 3600000 := by rw [ha]; split <;> omega
  have HL := ck_parts ha a0.2
  have D1 := Lib.hid (fun w => raw16_1 (a / 3600) w (by omega) (by omega))
  have D2 := Lib.hid (fun w => raw16_2 (a / 60 % 60) w (by omega) (by omega))
  have D3 := Lib.hid (fun w => raw16_2 (a % 60) w (by omega) (by omega))
  obtain ⟨S1, hS1⟩ : ∃ S, S = (⟨(ptL (a / 3600) 1).toArray⟩ : ByteArray) := ⟨_, rfl⟩
  obtain ⟨S2, hS2⟩ : ∃ S, S = (⟨(ptL (a / 60 % 60) 2).toArray⟩ : ByteArray) := ⟨_, rfl⟩
  obtain ⟨S3, hS3⟩ : ∃ S, S = (⟨(ptL (a % 60) 2).toArray⟩ : ByteArray) := ⟨_, rfl⟩
  rw [← hS1] at D1; rw [← hS2] at D2; rw [← hS3] at D3
  obtain ⟨z1, l1⟩ := ba_size hS1
  obtain ⟨z2, l2⟩ := ba_size hS2
  obtain ⟨z3, l3⟩ := ba_size hS3
  have b1 := ptL_len (n := a / 3600) (k := 1) (by omega) (by omega) (by omega)
  have b2 := ptL_len (n := a / 60 % 60) (k := 2) (by omega) (by omega) (by omega)
  have b3 := ptL_len (n := a % 60) (k := 2) (by omega) (by omega) (by omega)
  have b1' : S1.size ≤ 5 := by rw [z1]; exact b1
  have b2' : S2.size ≤ 5 := by rw [z2]; exact b2
  have b3' : S3.size ≤ 5 := by rw [z3]; exact b3
  obtain ⟨X0, A0, e0, g0⟩ := add_ba ⟨#[]⟩ S1 (by decide) (by omega)
  obtain ⟨X1, A1, e1, g1⟩ := add_ba ⟨#[45]⟩ S1 (by decide) (by omega)
  obtain ⟨Y2, A2, e2, g2⟩ := add_ba ⟨#[58]⟩ S2 (by decide) (by omega)
  obtain ⟨Y3, A3, e3, g3⟩ := add_ba ⟨#[58]⟩ S3 (by decide) (by omega)
  have u0 : (⟨#[]⟩ : ByteArray).size = 0 := rfl
  have u1 : (⟨#[45]⟩ : ByteArray).size = 1 := rfl
  have u2 : (⟨#[58]⟩ : ByteArray).size = 1 := rfl
  rw [u0] at g0; rw [u1] at g1; rw [u2] at g2 g3
  rw [l1] at e0 e1; rw [l2] at e2; rw [l3] at e3
  have B := Lib.hid (Below.refl w.heap.size w)
  have v1 : a.tdiv 3600 = a / 3600 := Int.tdiv_eq_ediv_of_nonneg a0.1
  have v2 : a.tdiv 60 = a / 60 := Int.tdiv_eq_ediv_of_nonneg a0.1
  clear hS1 hS2 hS3 z1 z2 z3 b1 b2 b3 u0 u1 u2
  rcases (by omega : t < 0 ∨ ¬ t < 0) with hn | hn
  · have t0 : decide (t < 0) = true := lt_yes hn
    rw [if_pos hn] at ha HL
    have r1 : IntKind.i64.wrap (0 - t) = a := by rw [ha, show 0 - t = -t by omega]; exact IntWalk.i64_in _ (by omega)
    have r2 : wrap64 (0 - t) = a := by rw [ha]; unfold wrap64; omega
    have r3 : IntKind.i64.wrap (-t) = a := by rw [ha]; exact IntWalk.i64_in _ (by omega)
    have r4 : wrap64 (-t) = a := by rw [ha]; unfold wrap64; omega
    clear ha ht hn
    rcases (by omega : (a % 3600 = 0 ∧ a % 60 = 0) ∨ (a % 3600 ≠ 0 ∧ a % 60 = 0) ∨ (a % 3600 ≠ 0 ∧ a % 60 ≠ 0)) with ⟨m0, s0⟩ | ⟨m0, s0⟩ | ⟨m0, s0⟩
    · have t1 := ne_no m0
      have t2 := ne_no s0
      have HF : Hid (Value.string X1 = .string ⟨(ckL t).toArray⟩) := Lib.hid (str_is (by rw [HL, if_pos m0, if_pos s0, e1]; try simp))
      clear HL m0 s0 e0 e1 e2 e3 l1 l2 l3
      go_enter Tryd.func24, Tryd.ntmps24
      go_wp2_with (first
        | (go_at_call 39; with_reducible refine (D1.out _).mono ?_; rintro e w1 ⟨rfl, hb⟩; have B := Lib.hid (B.out.trans (hb.mono B.out.size)); clear hb)
        | (go_at_call 39; with_reducible refine (D2.out _).mono ?_; rintro e w1 ⟨rfl, hb⟩; have B := Lib.hid (B.out.trans (hb.mono B.out.size)); clear hb)
        | (go_at_call 39; with_reducible refine (D3.out _).mono ?_; rintro e w1 ⟨rfl, hb⟩; have B := Lib.hid (B.out.trans (hb.mono B.out.size)); clear hb))
      go_ret
      exact ⟨ret1_eq HF.out, B.out⟩
    · have t1 := ne_yes m0
      have t2 := ne_no s0
      obtain ⟨P2, C2, k2, j2⟩ := add_ba X1 Y2 (by omega) (by omega)
      have HF : Hid (Value.string P2 = .string ⟨(ckL t).toArray⟩) := Lib.hid (str_is (by rw [HL, if_neg m0, if_pos s0, k2, e1, e2]; try simp))
      clear HL m0 s0 e0 e1 e2 e3 l1 l2 l3 k2
      go_enter Tryd.func24, Tryd.ntmps24
      go_wp2_with (first
        | (go_at_call 39; with_reducible refine (D1.out _).mono ?_; rintro e w1 ⟨rfl, hb⟩; have B := Lib.hid (B.out.trans (hb.mono B.out.size)); clear hb)
        | (go_at_call 39; with_reducible refine (D2.out _).mono ?_; rintro e w1 ⟨rfl, hb⟩; have B := Lib.hid (B.out.trans (hb.mono B.out.size)); clear hb)
        | (go_at_call 39; with_reducible refine (D3.out _).mono ?_; rintro e w1 ⟨rfl, hb⟩; have B := Lib.hid (B.out.trans (hb.mono B.out.size)); clear hb))
      go_ret
      exact ⟨ret1_eq HF.out, B.out⟩
    · have t1 := ne_yes m0
      have t2 := ne_yes s0
      obtain ⟨P2, C2, k2, j2⟩ := add_ba X1 Y2 (by omega) (by omega)
      obtain ⟨P3, C3, k3, j3⟩ := add_ba P2 Y3 (by omega) (by omega)
      have HF : Hid (Value.string P3 = .string ⟨(ckL t).toArray⟩) := Lib.hid (str_is (by rw [HL, if_neg m0, if_neg s0, k3, k2, e1, e2, e3]; try simp))
      clear HL m0 s0 e0 e1 e2 e3 l1 l2 l3 k2 k3
      go_enter Tryd.func24, Tryd.ntmps24
      go_wp2_with (first
        | (go_at_call 39; with_reducible refine (D1.out _).mono ?_; rintro e w1 ⟨rfl, hb⟩; have B := Lib.hid (B.out.trans (hb.mono B.out.size)); clear hb)
        | (go_at_call 39; with_reducible refine (D2.out _).mono ?_; rintro e w1 ⟨rfl, hb⟩; have B := Lib.hid (B.out.trans (hb.mono B.out.size)); clear hb)
        | (go_at_call 39; with_reducible refine (D3.out _).mono ?_; rintro e w1 ⟨rfl, hb⟩; have B := Lib.hid (B.out.trans (hb.mono B.out.size)); clear hb))
      go_ret
      exact ⟨ret1_eq HF.out, B.out⟩
  · have t0 : decide (t < 0) = false := lt_no hn
    rw [if_neg hn] at ha HL
    obtain rfl : t = a := ha.symm
    clear ht hn
    rcases (by omega : (t % 3600 = 0 ∧ t % 60 = 0) ∨ (t % 3600 ≠ 0 ∧ t % 60 = 0) ∨ (t % 3600 ≠ 0 ∧ t % 60 ≠ 0)) with ⟨m0, s0⟩ | ⟨m0, s0⟩ | ⟨m0, s0⟩
    · have t1 := ne_no m0
      have t2 := ne_no s0
      have HF : Hid (Value.string X0 = .string ⟨(ckL t).toArray⟩) := Lib.hid (str_is (by rw [HL, if_pos m0, if_pos s0, e0]; try simp))
      clear HL m0 s0 e0 e1 e2 e3 l1 l2 l3
      go_enter Tryd.func24, Tryd.ntmps24
      go_wp2_with (first
        | (go_at_call 39; with_reducible refine (D1.out _).mono ?_; rintro e w1 ⟨rfl, hb⟩; have B := Lib.hid (B.out.trans (hb.mono B.out.size)); clear hb)
        | (go_at_call 39; with_reducible refine (D2.out _).mono ?_; rintro e w1 ⟨rfl, hb⟩; have B := Lib.hid (B.out.trans (hb.mono B.out.size)); clear hb)
        | (go_at_call 39; with_reducible refine (D3.out _).mono ?_; rintro e w1 ⟨rfl, hb⟩; have B := Lib.hid (B.out.trans (hb.mono B.out.size)); clear hb))
      go_ret
      exact ⟨ret1_eq HF.out, B.out⟩
    · have t1 := ne_yes m0
      have t2 := ne_no s0
      obtain ⟨P2, C2, k2, j2⟩ := add_ba X0 Y2 (by omega) (by omega)
      have HF : Hid (Value.string P2 = .string ⟨(ckL t).toArray⟩) := Lib.hid (str_is (by rw [HL, if_neg m0, if_pos s0, k2, e0, e2]; try simp))
      clear HL m0 s0 e0 e1 e2 e3 l1 l2 l3 k2
      go_enter Tryd.func24, Tryd.ntmps24
      go_wp2_with (first
        | (go_at_call 39; with_reducible refine (D1.out _).mono ?_; rintro e w1 ⟨rfl, hb⟩; have B := Lib.hid (B.out.trans (hb.mono B.out.size)); clear hb)
        | (go_at_call 39; with_reducible refine (D2.out _).mono ?_; rintro e w1 ⟨rfl, hb⟩; have B := Lib.hid (B.out.trans (hb.mono B.out.size)); clear hb)
        | (go_at_call 39; with_reducible refine (D3.out _).mono ?_; rintro e w1 ⟨rfl, hb⟩; have B := Lib.hid (B.out.trans (hb.mono B.out.size)); clear hb))
      go_ret
      exact ⟨ret1_eq HF.out, B.out⟩
    · have t1 := ne_yes m0
      have t2 := ne_yes s0
      obtain ⟨P2, C2, k2, j2⟩ := add_ba X0 Y2 (by omega) (by omega)
      obtain ⟨P3, C3, k3, j3⟩ := add_ba P2 Y3 (by omega) (by omega)
      have HF : Hid (Value.string P3 = .string ⟨(ckL t).toArray⟩) := Lib.hid (str_is (by rw [HL, if_neg m0, if_neg s0, k3, k2, e0, e2, e3]; try simp))
      clear HL m0 s0 e0 e1 e2 e3 l1 l2 l3 k2 k3
      go_enter Tryd.func24, Tryd.ntmps24
      go_wp2_with (first
        | (go_at_call 39; with_reducible refine (D1.out _).mono ?_; rintro e w1 ⟨rfl, hb⟩; have B := Lib.hid (B.out.trans (hb.mono B.out.size)); clear hb)
        | (go_at_call 39; with_reducible refine (D2.out _).mono ?_; rintro e w1 ⟨rfl, hb⟩; have B := Lib.hid (B.out.trans (hb.mono B.out.size)); clear hb)
        | (go_at_call 39; with_reducible refine (D3.out _).mono ?_; rintro e w1 ⟨rfl, hb⟩; have B := Lib.hid (B.out.trans (hb.mono B.out.size)); clear hb))
      go_ret
      exact ⟨ret1_eq HF.out, B.out⟩

theorem qk_held {W0 : World} {p : Nat} {r : Ru} (h : Qk W0 p r) : ∀ W, Kq16 W0 W → (W.cell? ⟨p, 0, none⟩ = some (.int .i64 r.K) ∧ W.cell? ⟨p, 1, none⟩ = some (.int .i64 r.M) ∧ W.cell? ⟨p, 2, none⟩ = some (.int .i64 r.W) ∧ W.cell? ⟨p, 3, none⟩ = some (.int .i64 r.D) ∧ W.cell? ⟨p, 4, none⟩ = some (.int .i64 r.T)) ∧ Kq16 W0 W :=
  fun W hk => ⟨(h.keep hk.bel).all, hk⟩
set_option maxHeartbeats 4000000 in
theorem rput16_1u (r : Ru) (w : World) (hr : ruE r = 0) (k : r.K = 1) (ht : r.T = 7200) :
    Calls Tryd.prog 17 #[.agg r.cells] w fun e w' => e = .returned (.string ⟨(ruL r).toArray⟩) ∧ Below w.heap.size w w' := by
  obtain ⟨W0, hW0⟩ : ∃ W0, W0 = w.alloc (.cells r.cells 30) := ⟨_, rfl⟩
  have B : Hid (Below w.heap.size w W0) := Lib.hid (by rw [hW0]; exact bel16 w _)
  have L0 : Qk W0 w.heap.size r := by rw [hW0]; exact qk_new _ _
  obtain ⟨c0, c1, c2, c3, c4⟩ := L0.all
  have R := Lib.hid L0
  have hk := ruE_kinds hr
  have tm := (ruE_zero hr).2.2
  unfold tmP at tm
  have dl := dyL_len hr
  have D1 := Lib.hid (fun w => raw16_1 r.M w (by omega) (by omega))
  have D2 := Lib.hid (fun w => raw16_1 r.W w (by omega) (by omega))
  have D3 := Lib.hid (fun w => raw16_1 r.D w (by omega) (by omega))
  have DC := Lib.hid (fun w => rclock_any r.T w (by omega))
  obtain ⟨S1, hS1⟩ : ∃ S, S = (⟨(ptL r.M 1).toArray⟩ : ByteArray) := ⟨_, rfl⟩
  obtain ⟨S2, hS2⟩ : ∃ S, S = (⟨(ptL r.W 1).toArray⟩ : ByteArray) := ⟨_, rfl⟩
  obtain ⟨S3, hS3⟩ : ∃ S, S = (⟨(ptL r.D 1).toArray⟩ : ByteArray) := ⟨_, rfl⟩
  obtain ⟨S4, hS4⟩ : ∃ S, S = (⟨(ckL r.T).toArray⟩ : ByteArray) := ⟨_, rfl⟩
  rw [← hS1] at D1; rw [← hS2] at D2; rw [← hS3] at D3; rw [← hS4] at DC
  obtain ⟨z1, l1⟩ := ba_size hS1
  obtain ⟨z2, l2⟩ := ba_size hS2
  obtain ⟨z3, l3⟩ := ba_size hS3
  obtain ⟨z4, l4⟩ := ba_size hS4
  have b1 := ptL_len (n := r.M) (k := 1) (by omega) (by omega) (by omega)
  have b2 := ptL_len (n := r.W) (k := 1) (by omega) (by omega) (by omega)
  have b3 := ptL_len (n := r.D) (k := 1) (by omega) (by omega) (by omega)
  have b4 := ckL_len (t := r.T) (by omega)
  have b1' : S1.size ≤ 5 := by rw [z1]; exact b1
  have b2' : S2.size ≤ 5 := by rw [z2]; exact b2
  have b3' : S3.size ≤ 5 := by rw [z3]; exact b3
  have b4' : S4.size ≤ 10 := by rw [z4]; exact b4
  have u1 : (⟨#[77]⟩ : ByteArray).size = 1 := rfl
  have u2 : (⟨#[46]⟩ : ByteArray).size = 1 := rfl
  have u3 : (⟨#[74]⟩ : ByteArray).size = 1 := rfl
  have u4 : (⟨#[47]⟩ : ByteArray).size = 1 := rfl
  obtain ⟨Y4, A4, e4, g4⟩ := add_ba ⟨#[47]⟩ S4 (by rw [u4]; decide) (by omega)
  have HH := Lib.hid (qk_held R.out)
  obtain ⟨X, A, e, g⟩ := add_ba ⟨#[74]⟩ S3 (by rw [u3]; decide) (by omega)
  have hx : X.data.toList = dyL r := by rw [e, l3]; unfold dyL; rw [if_pos k]
  have hxs : X.size ≤ 30 := by omega
  have HF : Hid (Value.string X = .string ⟨(ruL r).toArray⟩) := Lib.hid (str_is (by rw [hx]; unfold ruL; rw [if_pos ht]))
  have t4 := ne_no ht
  have t1 : (r.K == 1) = true := eq_yes (by omega)
  have t3 : (r.K == 3) = false := eq_no (by omega)
  obtain ⟨K, M, W9, D, T⟩ := r
  simp only at D1 D2 D3 DC HH c0 c1 c2 c3 c4 t1 t3 t4
  clear L0 hr hk tm dl hS1 hS2 hS3 hS4 z1 z2 z3 z4 l1 l2 l3 l4 b1 b2 b3 b4 u1 u2 u3 u4 e4 hx k ht e
  go_enter Tryd.func17, Tryd.ntmps17
  go_upto_region 1 with fail
  rw [← hW0]; clear hW0
  go_wp2_with (first
    | (go_at_call 39; with_reducible refine (D3.out _).mono ?_; rintro e w1 ⟨rfl, hb⟩; obtain ⟨c0, c1, c2, c3, c4⟩ := (R.out.keep hb).all; have R := Lib.hid (R.out.keep hb); have B := Lib.hid (B.out.trans (hb.mono B.out.size)); clear hb)
    | (go_at_call 24; refine (DC.out _).mono ?_; rintro e w3 ⟨rfl, hb⟩; obtain ⟨c0, c1, c2, c3, c4⟩ := (R.out.keep hb).all; have R := Lib.hid (R.out.keep hb); have B := Lib.hid (B.out.trans (hb.mono B.out.size)); clear hb))
  go_ret
  exact ⟨ret1_eq HF.out, B.out⟩
set_option maxHeartbeats 4000000 in
theorem rput16_1t (r : Ru) (w : World) (hr : ruE r = 0) (k : r.K = 1) (ht : r.T ≠ 7200) :
    Calls Tryd.prog 17 #[.agg r.cells] w fun e w' => e = .returned (.string ⟨(ruL r).toArray⟩) ∧ Below w.heap.size w w' := by
  obtain ⟨W0, hW0⟩ : ∃ W0, W0 = w.alloc (.cells r.cells 30) := ⟨_, rfl⟩
  have B : Hid (Below w.heap.size w W0) := Lib.hid (by rw [hW0]; exact bel16 w _)
  have L0 : Qk W0 w.heap.size r := by rw [hW0]; exact qk_new _ _
  obtain ⟨c0, c1, c2, c3, c4⟩ := L0.all
  have R := Lib.hid L0
  have hk := ruE_kinds hr
  have tm := (ruE_zero hr).2.2
  unfold tmP at tm
  have dl := dyL_len hr
  have D1 := Lib.hid (fun w => raw16_1 r.M w (by omega) (by omega))
  have D2 := Lib.hid (fun w => raw16_1 r.W w (by omega) (by omega))
  have D3 := Lib.hid (fun w => raw16_1 r.D w (by omega) (by omega))
  have DC := Lib.hid (fun w => rclock_any r.T w (by omega))
  obtain ⟨S1, hS1⟩ : ∃ S, S = (⟨(ptL r.M 1).toArray⟩ : ByteArray) := ⟨_, rfl⟩
  obtain ⟨S2, hS2⟩ : ∃ S, S = (⟨(ptL r.W 1).toArray⟩ : ByteArray) := ⟨_, rfl⟩
  obtain ⟨S3, hS3⟩ : ∃ S, S = (⟨(ptL r.D 1).toArray⟩ : ByteArray) := ⟨_, rfl⟩
  obtain ⟨S4, hS4⟩ : ∃ S, S = (⟨(ckL r.T).toArray⟩ : ByteArray) := ⟨_, rfl⟩
  rw [← hS1] at D1; rw [← hS2] at D2; rw [← hS3] at D3; rw [← hS4] at DC
  obtain ⟨z1, l1⟩ := ba_size hS1
  obtain ⟨z2, l2⟩ := ba_size hS2
  obtain ⟨z3, l3⟩ := ba_size hS3
  obtain ⟨z4, l4⟩ := ba_size hS4
  have b1 := ptL_len (n := r.M) (k := 1) (by omega) (by omega) (by omega)
  have b2 := ptL_len (n := r.W) (k := 1) (by omega) (by omega) (by omega)
  have b3 := ptL_len (n := r.D) (k := 1) (by omega) (by omega) (by omega)
  have b4 := ckL_len (t := r.T) (by omega)
  have b1' : S1.size ≤ 5 := by rw [z1]; exact b1
  have b2' : S2.size ≤ 5 := by rw [z2]; exact b2
  have b3' : S3.size ≤ 5 := by rw [z3]; exact b3
  have b4' : S4.size ≤ 10 := by rw [z4]; exact b4
  have u1 : (⟨#[77]⟩ : ByteArray).size = 1 := rfl
  have u2 : (⟨#[46]⟩ : ByteArray).size = 1 := rfl
  have u3 : (⟨#[74]⟩ : ByteArray).size = 1 := rfl
  have u4 : (⟨#[47]⟩ : ByteArray).size = 1 := rfl
  obtain ⟨Y4, A4, e4, g4⟩ := add_ba ⟨#[47]⟩ S4 (by rw [u4]; decide) (by omega)
  have HH := Lib.hid (qk_held R.out)
  obtain ⟨X, A, e, g⟩ := add_ba ⟨#[74]⟩ S3 (by rw [u3]; decide) (by omega)
  have hx : X.data.toList = dyL r := by rw [e, l3]; unfold dyL; rw [if_pos k]
  have hxs : X.size ≤ 30 := by omega
  obtain ⟨Z, AZ, ez, gz⟩ := add_ba X Y4 (by omega) (by omega)
  have HF : Hid (Value.string Z = .string ⟨(ruL r).toArray⟩) := Lib.hid (str_is (by rw [ez, e4, hx, l4]; unfold ruL; rw [if_neg ht]; simp))
  have t4 := ne_yes ht
  clear ez
  have t1 : (r.K == 1) = true := eq_yes (by omega)
  have t3 : (r.K == 3) = false := eq_no (by omega)
  obtain ⟨K, M, W9, D, T⟩ := r
  simp only at D1 D2 D3 DC HH c0 c1 c2 c3 c4 t1 t3 t4
  clear L0 hr hk tm dl hS1 hS2 hS3 hS4 z1 z2 z3 z4 l1 l2 l3 l4 b1 b2 b3 b4 u1 u2 u3 u4 e4 hx k ht e
  go_enter Tryd.func17, Tryd.ntmps17
  go_upto_region 1 with fail
  rw [← hW0]; clear hW0
  go_wp2_with (first
    | (go_at_call 39; with_reducible refine (D3.out _).mono ?_; rintro e w1 ⟨rfl, hb⟩; obtain ⟨c0, c1, c2, c3, c4⟩ := (R.out.keep hb).all; have R := Lib.hid (R.out.keep hb); have B := Lib.hid (B.out.trans (hb.mono B.out.size)); clear hb)
    | (go_at_call 24; refine (DC.out _).mono ?_; rintro e w3 ⟨rfl, hb⟩; obtain ⟨c0, c1, c2, c3, c4⟩ := (R.out.keep hb).all; have R := Lib.hid (R.out.keep hb); have B := Lib.hid (B.out.trans (hb.mono B.out.size)); clear hb))
  go_ret
  exact ⟨ret1_eq HF.out, B.out⟩
set_option maxHeartbeats 4000000 in
theorem rput16_2u (r : Ru) (w : World) (hr : ruE r = 0) (k : r.K = 2) (ht : r.T = 7200) :
    Calls Tryd.prog 17 #[.agg r.cells] w fun e w' => e = .returned (.string ⟨(ruL r).toArray⟩) ∧ Below w.heap.size w w' := by
  obtain ⟨W0, hW0⟩ : ∃ W0, W0 = w.alloc (.cells r.cells 30) := ⟨_, rfl⟩
  have B : Hid (Below w.heap.size w W0) := Lib.hid (by rw [hW0]; exact bel16 w _)
  have L0 : Qk W0 w.heap.size r := by rw [hW0]; exact qk_new _ _
  obtain ⟨c0, c1, c2, c3, c4⟩ := L0.all
  have R := Lib.hid L0
  have hk := ruE_kinds hr
  have tm := (ruE_zero hr).2.2
  unfold tmP at tm
  have dl := dyL_len hr
  have D1 := Lib.hid (fun w => raw16_1 r.M w (by omega) (by omega))
  have D2 := Lib.hid (fun w => raw16_1 r.W w (by omega) (by omega))
  have D3 := Lib.hid (fun w => raw16_1 r.D w (by omega) (by omega))
  have DC := Lib.hid (fun w => rclock_any r.T w (by omega))
  obtain ⟨S1, hS1⟩ : ∃ S, S = (⟨(ptL r.M 1).toArray⟩ : ByteArray) := ⟨_, rfl⟩
  obtain ⟨S2, hS2⟩ : ∃ S, S = (⟨(ptL r.W 1).toArray⟩ : ByteArray) := ⟨_, rfl⟩
  obtain ⟨S3, hS3⟩ : ∃ S, S = (⟨(ptL r.D 1).toArray⟩ : ByteArray) := ⟨_, rfl⟩
  obtain ⟨S4, hS4⟩ : ∃ S, S = (⟨(ckL r.T).toArray⟩ : ByteArray) := ⟨_, rfl⟩
  rw [← hS1] at D1; rw [← hS2] at D2; rw [← hS3] at D3; rw [← hS4] at DC
  obtain ⟨z1, l1⟩ := ba_size hS1
  obtain ⟨z2, l2⟩ := ba_size hS2
  obtain ⟨z3, l3⟩ := ba_size hS3
  obtain ⟨z4, l4⟩ := ba_size hS4
  have b1 := ptL_len (n := r.M) (k := 1) (by omega) (by omega) (by omega)
  have b2 := ptL_len (n := r.W) (k := 1) (by omega) (by omega) (by omega)
  have b3 := ptL_len (n := r.D) (k := 1) (by omega) (by omega) (by omega)
  have b4 := ckL_len (t := r.T) (by omega)
  have b1' : S1.size ≤ 5 := by rw [z1]; exact b1
  have b2' : S2.size ≤ 5 := by rw [z2]; exact b2
  have b3' : S3.size ≤ 5 := by rw [z3]; exact b3
  have b4' : S4.size ≤ 10 := by rw [z4]; exact b4
  have u1 : (⟨#[77]⟩ : ByteArray).size = 1 := rfl
  have u2 : (⟨#[46]⟩ : ByteArray).size = 1 := rfl
  have u3 : (⟨#[74]⟩ : ByteArray).size = 1 := rfl
  have u4 : (⟨#[47]⟩ : ByteArray).size = 1 := rfl
  obtain ⟨Y4, A4, e4, g4⟩ := add_ba ⟨#[47]⟩ S4 (by rw [u4]; decide) (by omega)
  have HH := Lib.hid (qk_held R.out)
  have hx : S3.data.toList = dyL r := by rw [l3]; unfold dyL; rw [if_neg (by omega), if_pos k]
  have hxs : S3.size ≤ 30 := by omega
  have HF : Hid (Value.string S3 = .string ⟨(ruL r).toArray⟩) := Lib.hid (str_is (by rw [hx]; unfold ruL; rw [if_pos ht]))
  have t4 := ne_no ht
  have t1 : (r.K == 1) = false := eq_no (by omega)
  have t3 : (r.K == 3) = false := eq_no (by omega)
  obtain ⟨K, M, W9, D, T⟩ := r
  simp only at D1 D2 D3 DC HH c0 c1 c2 c3 c4 t1 t3 t4
  clear L0 hr hk tm dl hS1 hS2 hS3 hS4 z1 z2 z3 z4 l1 l2 l3 l4 b1 b2 b3 b4 u1 u2 u3 u4 e4 hx k ht
  go_enter Tryd.func17, Tryd.ntmps17
  go_upto_region 1 with fail
  rw [← hW0]; clear hW0
  go_wp2_with (first
    | (go_at_call 39; with_reducible refine (D3.out _).mono ?_; rintro e w1 ⟨rfl, hb⟩; obtain ⟨c0, c1, c2, c3, c4⟩ := (R.out.keep hb).all; have R := Lib.hid (R.out.keep hb); have B := Lib.hid (B.out.trans (hb.mono B.out.size)); clear hb)
    | (go_at_call 24; refine (DC.out _).mono ?_; rintro e w3 ⟨rfl, hb⟩; obtain ⟨c0, c1, c2, c3, c4⟩ := (R.out.keep hb).all; have R := Lib.hid (R.out.keep hb); have B := Lib.hid (B.out.trans (hb.mono B.out.size)); clear hb))
  go_ret
  exact ⟨ret1_eq HF.out, B.out⟩
set_option maxHeartbeats 4000000 in
theorem rput16_2t (r : Ru) (w : World) (hr : ruE r = 0) (k : r.K = 2) (ht : r.T ≠ 7200) :
    Calls Tryd.prog 17 #[.agg r.cells] w fun e w' => e = .returned (.string ⟨(ruL r).toArray⟩) ∧ Below w.heap.size w w' := by
  obtain ⟨W0, hW0⟩ : ∃ W0, W0 = w.alloc (.cells r.cells 30) := ⟨_, rfl⟩
  have B : Hid (Below w.heap.size w W0) := Lib.hid (by rw [hW0]; exact bel16 w _)
  have L0 : Qk W0 w.heap.size r := by rw [hW0]; exact qk_new _ _
  obtain ⟨c0, c1, c2, c3, c4⟩ := L0.all
  have R := Lib.hid L0
  have hk := ruE_kinds hr
  have tm := (ruE_zero hr).2.2
  unfold tmP at tm
  have dl := dyL_len hr
  have D1 := Lib.hid (fun w => raw16_1 r.M w (by omega) (by omega))
  have D2 := Lib.hid (fun w => raw16_1 r.W w (by omega) (by omega))
  have D3 := Lib.hid (fun w => raw16_1 r.D w (by omega) (by omega))
  have DC := Lib.hid (fun w => rclock_any r.T w (by omega))
  obtain ⟨S1, hS1⟩ : ∃ S, S = (⟨(ptL r.M 1).toArray⟩ : ByteArray) := ⟨_, rfl⟩
  obtain ⟨S2, hS2⟩ : ∃ S, S = (⟨(ptL r.W 1).toArray⟩ : ByteArray) := ⟨_, rfl⟩
  obtain ⟨S3, hS3⟩ : ∃ S, S = (⟨(ptL r.D 1).toArray⟩ : ByteArray) := ⟨_, rfl⟩
  obtain ⟨S4, hS4⟩ : ∃ S, S = (⟨(ckL r.T).toArray⟩ : ByteArray) := ⟨_, rfl⟩
  rw [← hS1] at D1; rw [← hS2] at D2; rw [← hS3] at D3; rw [← hS4] at DC
  obtain ⟨z1, l1⟩ := ba_size hS1
  obtain ⟨z2, l2⟩ := ba_size hS2
  obtain ⟨z3, l3⟩ := ba_size hS3
  obtain ⟨z4, l4⟩ := ba_size hS4
  have b1 := ptL_len (n := r.M) (k := 1) (by omega) (by omega) (by omega)
  have b2 := ptL_len (n := r.W) (k := 1) (by omega) (by omega) (by omega)
  have b3 := ptL_len (n := r.D) (k := 1) (by omega) (by omega) (by omega)
  have b4 := ckL_len (t := r.T) (by omega)
  have b1' : S1.size ≤ 5 := by rw [z1]; exact b1
  have b2' : S2.size ≤ 5 := by rw [z2]; exact b2
  have b3' : S3.size ≤ 5 := by rw [z3]; exact b3
  have b4' : S4.size ≤ 10 := by rw [z4]; exact b4
  have u1 : (⟨#[77]⟩ : ByteArray).size = 1 := rfl
  have u2 : (⟨#[46]⟩ : ByteArray).size = 1 := rfl
  have u3 : (⟨#[74]⟩ : ByteArray).size = 1 := rfl
  have u4 : (⟨#[47]⟩ : ByteArray).size = 1 := rfl
  obtain ⟨Y4, A4, e4, g4⟩ := add_ba ⟨#[47]⟩ S4 (by rw [u4]; decide) (by omega)
  have HH := Lib.hid (qk_held R.out)
  have hx : S3.data.toList = dyL r := by rw [l3]; unfold dyL; rw [if_neg (by omega), if_pos k]
  have hxs : S3.size ≤ 30 := by omega
  obtain ⟨Z, AZ, ez, gz⟩ := add_ba S3 Y4 (by omega) (by omega)
  have HF : Hid (Value.string Z = .string ⟨(ruL r).toArray⟩) := Lib.hid (str_is (by rw [ez, e4, hx, l4]; unfold ruL; rw [if_neg ht]; simp))
  have t4 := ne_yes ht
  clear ez
  have t1 : (r.K == 1) = false := eq_no (by omega)
  have t3 : (r.K == 3) = false := eq_no (by omega)
  obtain ⟨K, M, W9, D, T⟩ := r
  simp only at D1 D2 D3 DC HH c0 c1 c2 c3 c4 t1 t3 t4
  clear L0 hr hk tm dl hS1 hS2 hS3 hS4 z1 z2 z3 z4 l1 l2 l3 l4 b1 b2 b3 b4 u1 u2 u3 u4 e4 hx k ht
  go_enter Tryd.func17, Tryd.ntmps17
  go_upto_region 1 with fail
  rw [← hW0]; clear hW0
  go_wp2_with (first
    | (go_at_call 39; with_reducible refine (D3.out _).mono ?_; rintro e w1 ⟨rfl, hb⟩; obtain ⟨c0, c1, c2, c3, c4⟩ := (R.out.keep hb).all; have R := Lib.hid (R.out.keep hb); have B := Lib.hid (B.out.trans (hb.mono B.out.size)); clear hb)
    | (go_at_call 24; refine (DC.out _).mono ?_; rintro e w3 ⟨rfl, hb⟩; obtain ⟨c0, c1, c2, c3, c4⟩ := (R.out.keep hb).all; have R := Lib.hid (R.out.keep hb); have B := Lib.hid (B.out.trans (hb.mono B.out.size)); clear hb))
  go_ret
  exact ⟨ret1_eq HF.out, B.out⟩
set_option maxHeartbeats 4000000 in
theorem rput16_3u (r : Ru) (w : World) (hr : ruE r = 0) (k : r.K = 3) (ht : r.T = 7200) :
    Calls Tryd.prog 17 #[.agg r.cells] w fun e w' => e = .returned (.string ⟨(ruL r).toArray⟩) ∧ Below w.heap.size w w' := by
  obtain ⟨W0, hW0⟩ : ∃ W0, W0 = w.alloc (.cells r.cells 30) := ⟨_, rfl⟩
  have B : Hid (Below w.heap.size w W0) := Lib.hid (by rw [hW0]; exact bel16 w _)
  have L0 : Qk W0 w.heap.size r := by rw [hW0]; exact qk_new _ _
  obtain ⟨c0, c1, c2, c3, c4⟩ := L0.all
  have R := Lib.hid L0
  have hk := ruE_kinds hr
  have tm := (ruE_zero hr).2.2
  unfold tmP at tm
  have dl := dyL_len hr
  have D1 := Lib.hid (fun w => raw16_1 r.M w (by omega) (by omega))
  have D2 := Lib.hid (fun w => raw16_1 r.W w (by omega) (by omega))
  have D3 := Lib.hid (fun w => raw16_1 r.D w (by omega) (by omega))
  have DC := Lib.hid (fun w => rclock_any r.T w (by omega))
  obtain ⟨S1, hS1⟩ : ∃ S, S = (⟨(ptL r.M 1).toArray⟩ : ByteArray) := ⟨_, rfl⟩
  obtain ⟨S2, hS2⟩ : ∃ S, S = (⟨(ptL r.W 1).toArray⟩ : ByteArray) := ⟨_, rfl⟩
  obtain ⟨S3, hS3⟩ : ∃ S, S = (⟨(ptL r.D 1).toArray⟩ : ByteArray) := ⟨_, rfl⟩
  obtain ⟨S4, hS4⟩ : ∃ S, S = (⟨(ckL r.T).toArray⟩ : ByteArray) := ⟨_, rfl⟩
  rw [← hS1] at D1; rw [← hS2] at D2; rw [← hS3] at D3; rw [← hS4] at DC
  obtain ⟨z1, l1⟩ := ba_size hS1
  obtain ⟨z2, l2⟩ := ba_size hS2
  obtain ⟨z3, l3⟩ := ba_size hS3
  obtain ⟨z4, l4⟩ := ba_size hS4
  have b1 := ptL_len (n := r.M) (k := 1) (by omega) (by omega) (by omega)
  have b2 := ptL_len (n := r.W) (k := 1) (by omega) (by omega) (by omega)
  have b3 := ptL_len (n := r.D) (k := 1) (by omega) (by omega) (by omega)
  have b4 := ckL_len (t := r.T) (by omega)
  have b1' : S1.size ≤ 5 := by rw [z1]; exact b1
  have b2' : S2.size ≤ 5 := by rw [z2]; exact b2
  have b3' : S3.size ≤ 5 := by rw [z3]; exact b3
  have b4' : S4.size ≤ 10 := by rw [z4]; exact b4
  have u1 : (⟨#[77]⟩ : ByteArray).size = 1 := rfl
  have u2 : (⟨#[46]⟩ : ByteArray).size = 1 := rfl
  have u3 : (⟨#[74]⟩ : ByteArray).size = 1 := rfl
  have u4 : (⟨#[47]⟩ : ByteArray).size = 1 := rfl
  obtain ⟨Y4, A4, e4, g4⟩ := add_ba ⟨#[47]⟩ S4 (by rw [u4]; decide) (by omega)
  have HH := Lib.hid (qk_held R.out)
  obtain ⟨X1, A1, e1, g1⟩ := add_ba ⟨#[77]⟩ S1 (by rw [u1]; decide) (by omega)
  obtain ⟨X2, A2, e2, g2⟩ := add_ba X1 ⟨#[46]⟩ (by omega) (by rw [u2]; decide)
  obtain ⟨X3, A3, e3, g3⟩ := add_ba X2 S2 (by omega) (by omega)
  obtain ⟨X4, A5, e5, g5⟩ := add_ba X3 ⟨#[46]⟩ (by omega) (by rw [u2]; decide)
  obtain ⟨X5, A6, e6, g6⟩ := add_ba X4 S3 (by omega) (by omega)
  have hx : X5.data.toList = dyL r := by rw [e6, e5, e3, e2, e1, l1, l2, l3]; unfold dyL; rw [if_neg (by omega), if_neg (by omega)]
  have hxs : X5.size ≤ 30 := by omega
  clear e1 e2 e3 e5 e6
  have HF : Hid (Value.string X5 = .string ⟨(ruL r).toArray⟩) := Lib.hid (str_is (by rw [hx]; unfold ruL; rw [if_pos ht]))
  have t4 := ne_no ht
  have t1 : (r.K == 1) = false := eq_no (by omega)
  have t3 : (r.K == 3) = true := eq_yes (by omega)
  obtain ⟨K, M, W9, D, T⟩ := r
  simp only at D1 D2 D3 DC HH c0 c1 c2 c3 c4 t1 t3 t4
  clear L0 hr hk tm dl hS1 hS2 hS3 hS4 z1 z2 z3 z4 l1 l2 l3 l4 b1 b2 b3 b4 u1 u2 u3 u4 e4 hx k ht
  go_enter Tryd.func17, Tryd.ntmps17
  go_upto_region 1 with fail
  rw [← hW0]; clear hW0
  go_upto_region 5 with (go_at_call 39; with_reducible refine (D3.out _).mono ?_; rintro e w1 ⟨rfl, hb⟩; obtain ⟨c0, c1, c2, c3, c4⟩ := (R.out.keep hb).all; have R := Lib.hid (R.out.keep hb); have B := Lib.hid (B.out.trans (hb.mono B.out.size)); clear hb)
  have HQ := Lib.hid (qk_held R.out)
  have hKD : Kq16 w1 w1.drew := ⟨(Below.refl _ w1).drew⟩
  go_region_held3 (fun W => (W.cell? ⟨w.heap.size, 0, none⟩ = some (.int .i64 K) ∧ W.cell? ⟨w.heap.size, 1, none⟩ = some (.int .i64 M) ∧ W.cell? ⟨w.heap.size, 2, none⟩ = some (.int .i64 W9) ∧ W.cell? ⟨w.heap.size, 3, none⟩ = some (.int .i64 D) ∧ W.cell? ⟨w.heap.size, 4, none⟩ = some (.int .i64 T)) ∧ Kq16 w1 W)
    (exact HQ.out _ (by assumption))
    (first
      | (go_at_call 39; go_split_ands; (with_reducible refine (D1.out _).mono ?_); rintro er wr9 ⟨rfl, hq⟩; have hkr : Kq16 w1 wr9 := Kq16.step (by assumption) hq; clear hq)
      | (go_at_call 39; go_split_ands; (with_reducible refine (D2.out _).mono ?_); rintro er wr9 ⟨rfl, hq⟩; have hkr : Kq16 w1 wr9 := Kq16.step (by assumption) hq; clear hq))
  have Q1 : Hid (Kq16 w1 _) := Lib.hid (by assumption)
  have R5 := R.out.keep Q1.out.bel
  have B5 := B.out.trans (Q1.out.bel.mono B.out.size)
  replace R := Lib.hid R5
  replace B := Lib.hid B5
  clear R5 B5 hKD Q1 c0 c1 c2 c3 c4 HQ
  obtain ⟨c0, c1, c2, c3, c4⟩ := R.out.all
  go_wp2_with (go_at_call 24; refine (DC.out _).mono ?_; rintro e w3 ⟨rfl, hb⟩; obtain ⟨c0, c1, c2, c3, c4⟩ := (R.out.keep hb).all; have R := Lib.hid (R.out.keep hb); have B := Lib.hid (B.out.trans (hb.mono B.out.size)); clear hb)
  go_ret
  exact ⟨ret1_eq HF.out, B.out⟩
set_option maxHeartbeats 4000000 in
theorem rput16_3t (r : Ru) (w : World) (hr : ruE r = 0) (k : r.K = 3) (ht : r.T ≠ 7200) :
    Calls Tryd.prog 17 #[.agg r.cells] w fun e w' => e = .returned (.string ⟨(ruL r).toArray⟩) ∧ Below w.heap.size w w' := by
  obtain ⟨W0, hW0⟩ : ∃ W0, W0 = w.alloc (.cells r.cells 30) := ⟨_, rfl⟩
  have B : Hid (Below w.heap.size w W0) := Lib.hid (by rw [hW0]; exact bel16 w _)
  have L0 : Qk W0 w.heap.size r := by rw [hW0]; exact qk_new _ _
  obtain ⟨c0, c1, c2, c3, c4⟩ := L0.all
  have R := Lib.hid L0
  have hk := ruE_kinds hr
  have tm := (ruE_zero hr).2.2
  unfold tmP at tm
  have dl := dyL_len hr
  have D1 := Lib.hid (fun w => raw16_1 r.M w (by omega) (by omega))
  have D2 := Lib.hid (fun w => raw16_1 r.W w (by omega) (by omega))
  have D3 := Lib.hid (fun w => raw16_1 r.D w (by omega) (by omega))
  have DC := Lib.hid (fun w => rclock_any r.T w (by omega))
  obtain ⟨S1, hS1⟩ : ∃ S, S = (⟨(ptL r.M 1).toArray⟩ : ByteArray) := ⟨_, rfl⟩
  obtain ⟨S2, hS2⟩ : ∃ S, S = (⟨(ptL r.W 1).toArray⟩ : ByteArray) := ⟨_, rfl⟩
  obtain ⟨S3, hS3⟩ : ∃ S, S = (⟨(ptL r.D 1).toArray⟩ : ByteArray) := ⟨_, rfl⟩
  obtain ⟨S4, hS4⟩ : ∃ S, S = (⟨(ckL r.T).toArray⟩ : ByteArray) := ⟨_, rfl⟩
  rw [← hS1] at D1; rw [← hS2] at D2; rw [← hS3] at D3; rw [← hS4] at DC
  obtain ⟨z1, l1⟩ := ba_size hS1
  obtain ⟨z2, l2⟩ := ba_size hS2
  obtain ⟨z3, l3⟩ := ba_size hS3
  obtain ⟨z4, l4⟩ := ba_size hS4
  have b1 := ptL_len (n := r.M) (k := 1) (by omega) (by omega) (by omega)
  have b2 := ptL_len (n := r.W) (k := 1) (by omega) (by omega) (by omega)
  have b3 := ptL_len (n := r.D) (k := 1) (by omega) (by omega) (by omega)
  have b4 := ckL_len (t := r.T) (by omega)
  have b1' : S1.size ≤ 5 := by rw [z1]; exact b1
  have b2' : S2.size ≤ 5 := by rw [z2]; exact b2
  have b3' : S3.size ≤ 5 := by rw [z3]; exact b3
  have b4' : S4.size ≤ 10 := by rw [z4]; exact b4
  have u1 : (⟨#[77]⟩ : ByteArray).size = 1 := rfl
  have u2 : (⟨#[46]⟩ : ByteArray).size = 1 := rfl
  have u3 : (⟨#[74]⟩ : ByteArray).size = 1 := rfl
  have u4 : (⟨#[47]⟩ : ByteArray).size = 1 := rfl
  obtain ⟨Y4, A4, e4, g4⟩ := add_ba ⟨#[47]⟩ S4 (by rw [u4]; decide) (by omega)
  have HH := Lib.hid (qk_held R.out)
  obtain ⟨X1, A1, e1, g1⟩ := add_ba ⟨#[77]⟩ S1 (by rw [u1]; decide) (by omega)
  obtain ⟨X2, A2, e2, g2⟩ := add_ba X1 ⟨#[46]⟩ (by omega) (by rw [u2]; decide)
  obtain ⟨X3, A3, e3, g3⟩ := add_ba X2 S2 (by omega) (by omega)
  obtain ⟨X4, A5, e5, g5⟩ := add_ba X3 ⟨#[46]⟩ (by omega) (by rw [u2]; decide)
  obtain ⟨X5, A6, e6, g6⟩ := add_ba X4 S3 (by omega) (by omega)
  have hx : X5.data.toList = dyL r := by rw [e6, e5, e3, e2, e1, l1, l2, l3]; unfold dyL; rw [if_neg (by omega), if_neg (by omega)]
  have hxs : X5.size ≤ 30 := by omega
  clear e1 e2 e3 e5 e6
  obtain ⟨Z, AZ, ez, gz⟩ := add_ba X5 Y4 (by omega) (by omega)
  have HF : Hid (Value.string Z = .string ⟨(ruL r).toArray⟩) := Lib.hid (str_is (by rw [ez, e4, hx, l4]; unfold ruL; rw [if_neg ht]; simp))
  have t4 := ne_yes ht
  clear ez
  have t1 : (r.K == 1) = false := eq_no (by omega)
  have t3 : (r.K == 3) = true := eq_yes (by omega)
  obtain ⟨K, M, W9, D, T⟩ := r
  simp only at D1 D2 D3 DC HH c0 c1 c2 c3 c4 t1 t3 t4
  clear L0 hr hk tm dl hS1 hS2 hS3 hS4 z1 z2 z3 z4 l1 l2 l3 l4 b1 b2 b3 b4 u1 u2 u3 u4 e4 hx k ht
  go_enter Tryd.func17, Tryd.ntmps17
  go_upto_region 1 with fail
  rw [← hW0]; clear hW0
  go_upto_region 5 with (go_at_call 39; with_reducible refine (D3.out _).mono ?_; rintro e w1 ⟨rfl, hb⟩; obtain ⟨c0, c1, c2, c3, c4⟩ := (R.out.keep hb).all; have R := Lib.hid (R.out.keep hb); have B := Lib.hid (B.out.trans (hb.mono B.out.size)); clear hb)
  have HQ := Lib.hid (qk_held R.out)
  have hKD : Kq16 w1 w1.drew := ⟨(Below.refl _ w1).drew⟩
  go_region_held3 (fun W => (W.cell? ⟨w.heap.size, 0, none⟩ = some (.int .i64 K) ∧ W.cell? ⟨w.heap.size, 1, none⟩ = some (.int .i64 M) ∧ W.cell? ⟨w.heap.size, 2, none⟩ = some (.int .i64 W9) ∧ W.cell? ⟨w.heap.size, 3, none⟩ = some (.int .i64 D) ∧ W.cell? ⟨w.heap.size, 4, none⟩ = some (.int .i64 T)) ∧ Kq16 w1 W)
    (exact HQ.out _ (by assumption))
    (first
      | (go_at_call 39; go_split_ands; (with_reducible refine (D1.out _).mono ?_); rintro er wr9 ⟨rfl, hq⟩; have hkr : Kq16 w1 wr9 := Kq16.step (by assumption) hq; clear hq)
      | (go_at_call 39; go_split_ands; (with_reducible refine (D2.out _).mono ?_); rintro er wr9 ⟨rfl, hq⟩; have hkr : Kq16 w1 wr9 := Kq16.step (by assumption) hq; clear hq))
  have Q1 : Hid (Kq16 w1 _) := Lib.hid (by assumption)
  have R5 := R.out.keep Q1.out.bel
  have B5 := B.out.trans (Q1.out.bel.mono B.out.size)
  replace R := Lib.hid R5
  replace B := Lib.hid B5
  clear R5 B5 hKD Q1 c0 c1 c2 c3 c4 HQ
  obtain ⟨c0, c1, c2, c3, c4⟩ := R.out.all
  go_wp2_with (go_at_call 24; refine (DC.out _).mono ?_; rintro e w3 ⟨rfl, hb⟩; obtain ⟨c0, c1, c2, c3, c4⟩ := (R.out.keep hb).all; have R := Lib.hid (R.out.keep hb); have B := Lib.hid (B.out.trans (hb.mono B.out.size)); clear hb)
  go_ret
  exact ⟨ret1_eq HF.out, B.out⟩

theorem rputd_any (r : Ru) (w : World) (hr : ruE r = 0) :
    Calls Tryd.prog 17 #[.agg r.cells] w fun e w' => e = .returned (.string ⟨(ruL r).toArray⟩) ∧ Below w.heap.size w w' := by
  rcases ruE_kinds hr with h | h | h <;> by_cases ht : r.T = 7200
  · exact rput16_1u r w hr h.1 ht
  · exact rput16_1t r w hr h.1 ht
  · exact rput16_2u r w hr h.1 ht
  · exact rput16_2t r w hr h.1 ht
  · exact rput16_3u r w hr h.1 ht
  · exact rput16_3t r w hr h.1 ht
end Go.Proofs.YtlngnllcjfbicaaDoor
namespace Go.Proofs.YtlngnllcjfbicaaDoor
open Go.RowKit
set_option linter.unusedVariables false
set_option linter.unusedSimpArgs false

theorem numB_yes {i j : Nat} (B : ByteArray) (h : fg i j B.data.toList) (hj : j ≤ 5) (w : World) : Calls Tryd.prog 47 #[.string B, .int .i64 (i : Int), .int .i64 (j : Int)] w fun e w' => e = .returned (.tuple #[.int .i64 ((dv B.data.toList : Nat) : Int), .bool true]) ∧ w = w' := by
  have H := number_any B i j w hj (by have := h.2.1; have e : B.data.toList.length = B.size := by simp
                                      omega)
  have e1 : nuN i j B.data.toList = ((dv B.data.toList : Nat) : Int) := if_pos h
  have e2 : nuB i j B.data.toList = true := decide_eq_true h
  rwa [e1, e2] at H
theorem numB_no {i j : Nat} (B : ByteArray) (h : ¬ fg i j B.data.toList) (hj : j ≤ 5) (hl : B.size ≤ 100000) (w : World) : Calls Tryd.prog 47 #[.string B, .int .i64 (i : Int), .int .i64 (j : Int)] w fun e w' => e = .returned (.tuple #[.int .i64 0, .bool false]) ∧ w = w' := by
  have H := number_any B i j w hj hl
  have e1 : nuN i j B.data.toList = 0 := if_neg h
  have e2 : nuB i j B.data.toList = false := decide_eq_false h
  rwa [e1, e2] at H
theorem dy_len {d : List UInt8} (h : d.head? = some 77) (hl : (spt 46 (d.drop 1)).length ≠ 3) : dyP d = none := by
  unfold dyP; rw [if_neg (by rw [h]; decide), if_pos h]
  match hs : spt 46 (d.drop 1) with
  | [] => rfl
  | [_] => rfl
  | [_, _] => rfl
  | [_, _, _] => rw [hs] at hl; exact absurd rfl hl
  | _ :: _ :: _ :: _ :: _ => rfl
/-- What stands ahead of the slash, and behind it. -/
theorem rest16 (l : List UInt8) (h : (qb 47 l).length < l.length) : rpC l = ckP (l.drop ((qb 47 l).length + 1)) := if_pos h
theorem rest16_no (l : List UInt8) (h : ¬ (qb 47 l).length < l.length) : rpC l = some (false, 2, 0, 0) := if_neg h
theorem rest16_e {l r : List UInt8} (hr : rpC l = ckP r) (hc : pcE r 167 ≠ 0) : rpE l = (match dyP (qb 47 l) with | none => 2 | some _ => pcE r 167) ∧ rpV l = ru0 := by
  cases hd : dyP (qb 47 l) with
  | none => exact ⟨(rp_no1 hd).1, (rp_no1 hd).2⟩
  | some d =>
    obtain ⟨K, M, W, D⟩ := d
    cases hk : ckP r with
    | none =>
      obtain ⟨r1, -⟩ := pc_none (l := r) (most := 167) (by decide) hk
      obtain ⟨a, b⟩ := rp_no2 (hr.trans hk)
      exact ⟨a.trans r1.symm, b⟩
    | some q =>
      obtain ⟨n, h, m, s⟩ := q
      obtain ⟨r1, -⟩ := pc_some (l := r) (most := 167) (by decide) hk
      obtain ⟨a, b⟩ := rp_some hd (hr.trans hk)
      by_cases f : ckF 167 h m s = true
      · rw [if_pos f] at r1; exact absurd r1 hc
      · rw [if_neg f] at a r1
        rw [if_neg (fun g => f g.1)] at b
        exact ⟨a.trans r1.symm, b⟩
theorem rest16_g {l r : List UInt8} {K M W D : Int} (hd : dyP (qb 47 l) = some (K, M, W, D)) (hr : rpC l = ckP r) (hc : pcE r 167 = 0) : rpE l = ruE ⟨K, M, W, D, pcN r 167⟩ ∧ rpV l = if ruE ⟨K, M, W, D, pcN r 167⟩ = 0 then ⟨K, M, W, D, pcN r 167⟩ else ru0 := by
  cases hk : ckP r with
  | none =>
    obtain ⟨r1, -⟩ := pc_none (l := r) (most := 167) (by decide) hk
    rw [r1] at hc; cases hc
  | some q =>
    obtain ⟨n, h, m, s⟩ := q
    obtain ⟨r1, r2⟩ := pc_some (l := r) (most := 167) (by decide) hk
    obtain ⟨a, b⟩ := rp_some hd (hr.trans hk)
    by_cases f : ckF 167 h m s = true
    · rw [if_pos f] at a r2
      rw [r2]
      refine ⟨a, b.trans ?_⟩
      by_cases g : ruE ⟨K, M, W, D, ckT n h m s⟩ = 0
      · rw [if_pos ⟨f, g⟩, if_pos g]
      · rw [if_neg (fun c => g c.2), if_neg g]
    · rw [if_neg f] at r1; rw [r1] at hc; cases hc
theorem rest16_n {l : List UInt8} {K M W D : Int} (hd : dyP (qb 47 l) = some (K, M, W, D)) (hr : rpC l = some (false, 2, 0, 0)) : rpE l = ruE ⟨K, M, W, D, 7200⟩ ∧ rpV l = if ruE ⟨K, M, W, D, 7200⟩ = 0 then ⟨K, M, W, D, 7200⟩ else ru0 := by
  obtain ⟨a, b⟩ := rp_some hd hr
  have f : ckF 167 2 0 0 = true := by decide
  have o : ckT false 2 0 0 = 7200 := by decide
  rw [o, if_pos f] at a
  rw [o] at b
  refine ⟨a, b.trans ?_⟩
  by_cases g : ruE ⟨K, M, W, D, 7200⟩ = 0
  · rw [if_pos ⟨f, g⟩, if_pos g]
  · rw [if_neg (fun c => g c.2), if_neg g]

theorem rparse16_any (s : ByteArray) (w : World) (hs : s.size ≤ 900) :
    Calls Tryd.prog 19 #[.string s] w fun x w' => x = .returned (.tuple #[.agg (rpV s.data.toList).cells, .int .i64 (rpE s.data.toList)]) ∧ Below w.heap.size w w' := by
  obtain ⟨l, hl⟩ : ∃ l, l = s.data.toList := ⟨_, rfl⟩
  have hsz : l.length = s.size := by rw [hl]; simp
  obtain ⟨Q, hQ⟩ : ∃ Q, Q = (qb 47 l).length := ⟨_, rfl⟩
  have hQl : Q ≤ s.size := by rw [← hsz, hQ]; exact qb_len 47 l
  obtain ⟨D, hD⟩ : ∃ D, D = s.extract 0 Q := ⟨_, rfl⟩
  have hd : D.data.toList = qb 47 l := by rw [hD, cut_mid, List.drop_zero, Nat.sub_zero, ← hl, hQ, ← qb_pre]
  have hds : D.size = Q := by
    have := congrArg List.length hd
    rw [← hQ] at this
    simpa using this
  have at_l : ∀ k (h : k < s.size), l[k]? = some s[k] := fun k h => by rw [hl]; exact byte_at h
  have HA : ∀ k (h : k < s.size), k < Q → ((s[k].toNat : Int) != 47) = true := by
    intro k h hk
    have hm : s[k] ∈ qb 47 l := by
      rw [qb_pre, ← hQ]
      have e : (l.take Q)[k]? = some s[k] := by rw [List.getElem?_take, if_pos hk]; exact at_l k h
      exact List.mem_of_getElem? e
    have hne : s[k] ≠ 47 := by
      have ha := List.all_takeWhile (p := (· != (47 : UInt8))) (l := l)
      rw [List.all_eq_true] at ha
      simpa using ha _ hm
    refine bne_iff_ne.2 fun e => hne (UInt8.toNat_inj.1 ?_)
    have : s[k].toNat = 47 := by omega
    rw [this]; rfl
  have HZ : ∀ h : Q < s.size, ((s[Q].toNat : Int) != 47) = false := by
    intro h
    rcases q_rest l with ⟨-, e⟩ | ⟨-, t, e⟩
    · omega
    · rw [← hQ] at e
      have e2 := congrArg List.head? e
      rw [List.head?_drop, at_l Q h] at e2
      injection e2 with e2
      rw [e2]; rfl
  have HA' := Lib.hid HA; have HZ' := Lib.hid HZ
  have hrest : Q < s.size → rpC l = ckP (s.extract (Q + 1) s.size).data.toList := by
    intro h
    rw [rest16 l (by omega), cut_mid, ← hl, ← hQ, List.take_of_length_le (by rw [List.length_drop]; omega)]
  have hnone : ¬ Q < s.size → rpC l = some (false, 2, 0, 0) := fun h => rest16_no l (by omega)
  have hX : (s.extract (Q + 1) s.size).size ≤ 900 := by simp; omega
  have PCK := fun w => rparseclock_any (s.extract (Q + 1) s.size) 167 w hX
  have hb1 : (D.extract 1 D.size).data.toList = (qb 47 l).drop 1 := by
    rw [cut_mid, hd, List.take_of_length_le (by rw [List.length_drop, ← hd]; simp)]
  have hb2 : (D.extract 1 D.size).size ≤ 900 := by simp; omega
  rw [← hl]
  generalize (s.extract (Q + 1) s.size).data.toList = r at *
  have t : ∀ (h : 0 < D.size) (b : UInt8), ((D[0].toNat : Int) == (b.toNat : Int)) = (D[0] == b) := by
    intro h b
    by_cases e : D[0] = b
    · rw [e]; simp
    · have : D[0].toNat ≠ b.toNat := fun h => e (UInt8.toNat_inj.1 h)
      have e1 : (D[0] == b) = false := by simpa using e
      rw [e1]; simp; omega
  have dead : dyP (qb 47 l) = none → rpE l = 2 ∧ rpV l = ru0 := rp_no1
  rcases Nat.eq_zero_or_pos D.size with h0 | h0
  · have he : D.data.toList = [] := List.eq_nil_of_length_eq_zero (by simpa using h0)
    have h74 : D.data.toList.head? ≠ some 74 := by rw [he]; simp
    have h77 : D.data.toList.head? ≠ some 77 := by rw [he]; simp
    by_cases f : fg 1 3 D.data.toList
    · have N0 := fun w => numB_yes D f (by omega) w
      have hdy : dyP (qb 47 l) = some (2, 0, 0, ((dv D.data.toList : Nat) : Int)) := by
        rw [← hd]; unfold dyP; rw [if_neg h74, if_neg h77, if_pos f]
      by_cases hz : Q < s.size
      · by_cases hc : pcE r 167 = 0
        · obtain ⟨r1, r2⟩ := rest16_g hdy (hrest hz) hc
          rw [hc] at PCK
          have X := fun w => rchk16_any ⟨2, 0, 0, ((dv D.data.toList : Nat) : Int), pcN r 167⟩ w
          rw [r1, r2]
          by_cases g : ruE ⟨2, 0, 0, ((dv D.data.toList : Nat) : Int), pcN r 167⟩ = 0
          · rw [if_pos g, g]
            rw [g] at X
            exact dp_N_cg s D w Q hQl hD hs HA' HZ' _ _ (Or.inl h0) (Lib.hid N0) hz (Lib.hid PCK) (Lib.hid X)
          · rw [if_neg g]
            exact dp_N_cw s D w Q hQl hD hs HA' HZ' _ _ _ (Or.inl h0) (Lib.hid N0) hz (Lib.hid PCK) (Lib.hid X) g
        · obtain ⟨r1, r2⟩ := rest16_e (hrest hz) hc
          rw [hdy] at r1
          rw [r1, r2]
          have PC0 : ∀ w, Calls Tryd.prog 21 #[.string (s.extract (Q + 1) s.size), .int .i64 167] w fun x w' => x = .returned (.tuple #[.int .i64 (pcN r 167), .int .i64 (pcE r 167)]) ∧ Below w.heap.size w w' := PCK
          exact dp_N_b s D w Q hQl hD hs HA' HZ' _ _ _ (Or.inl h0) (Lib.hid N0) hz (Lib.hid PC0) hc
      · obtain ⟨r1, r2⟩ := rest16_n hdy (hnone hz)
        have X := fun w => rchk16_any ⟨2, 0, 0, ((dv D.data.toList : Nat) : Int), 7200⟩ w
        rw [r1, r2]
        by_cases g : ruE ⟨2, 0, 0, ((dv D.data.toList : Nat) : Int), 7200⟩ = 0
        · rw [if_pos g, g]
          rw [g] at X
          exact dp_N_ng s D w Q hQl hD hs HA' HZ' _ (Or.inl h0) (Lib.hid N0) hz (Lib.hid X)
        · rw [if_neg g]
          exact dp_N_nw s D w Q hQl hD hs HA' HZ' _ _ (Or.inl h0) (Lib.hid N0) hz (Lib.hid X) g
    · obtain ⟨r1, r2⟩ := dead (by rw [← hd]; unfold dyP; rw [if_neg h74, if_neg h77, if_neg f])
      rw [r1, r2]
      exact dp_Nb s D w Q hQl hD hs HA' HZ' (Or.inl h0) (Lib.hid (fun w => numB_no D f (by omega) (by omega) w))
  · have hh : D.data.toList.head? = some D[0] := by rw [List.head?_eq_getElem?]; exact byte_at h0
    have t74 := t h0 74
    have t77 := t h0 77
    by_cases e1 : D[0] = 74
    · have g1 : (D[0] == 74) = true := by simpa using e1
      rw [g1] at t74
      have h74 : (qb 47 l).head? = some 74 := by rw [← hd, hh, e1]
      by_cases f : fg 1 3 (D.extract 1 D.size).data.toList
      · have N0 := fun w => numB_yes (D.extract 1 D.size) f (by omega) w
        have hdy : dyP (qb 47 l) = some (1, 0, 0, ((dv (D.extract 1 D.size).data.toList : Nat) : Int)) := by
          rw [hb1] at f ⊢; unfold dyP; rw [if_pos h74, if_pos f]
        by_cases hz : Q < s.size
        · by_cases hc : pcE r 167 = 0
          · obtain ⟨r1, r2⟩ := rest16_g hdy (hrest hz) hc
            rw [hc] at PCK
            have X := fun w => rchk16_any ⟨1, 0, 0, ((dv (D.extract 1 D.size).data.toList : Nat) : Int), pcN r 167⟩ w
            rw [r1, r2]
            by_cases g : ruE ⟨1, 0, 0, ((dv (D.extract 1 D.size).data.toList : Nat) : Int), pcN r 167⟩ = 0
            · rw [if_pos g, g]
              rw [g] at X
              exact dp_J_cg s D w Q hQl hD hs HA' HZ' _ _ h0 t74 (Lib.hid N0) hz (Lib.hid PCK) (Lib.hid X)
            · rw [if_neg g]
              exact dp_J_cw s D w Q hQl hD hs HA' HZ' _ _ _ h0 t74 (Lib.hid N0) hz (Lib.hid PCK) (Lib.hid X) g
          · obtain ⟨r1, r2⟩ := rest16_e (hrest hz) hc
            rw [hdy] at r1
            rw [r1, r2]
            have PC0 : ∀ w, Calls Tryd.prog 21 #[.string (s.extract (Q + 1) s.size), .int .i64 167] w fun x w' => x = .returned (.tuple #[.int .i64 (pcN r 167), .int .i64 (pcE r 167)]) ∧ Below w.heap.size w w' := PCK
            exact dp_J_b s D w Q hQl hD hs HA' HZ' _ _ _ h0 t74 (Lib.hid N0) hz (Lib.hid PC0) hc
        · obtain ⟨r1, r2⟩ := rest16_n hdy (hnone hz)
          have X := fun w => rchk16_any ⟨1, 0, 0, ((dv (D.extract 1 D.size).data.toList : Nat) : Int), 7200⟩ w
          rw [r1, r2]
          by_cases g : ruE ⟨1, 0, 0, ((dv (D.extract 1 D.size).data.toList : Nat) : Int), 7200⟩ = 0
          · rw [if_pos g, g]
            rw [g] at X
            exact dp_J_ng s D w Q hQl hD hs HA' HZ' _ h0 t74 (Lib.hid N0) hz (Lib.hid X)
          · rw [if_neg g]
            exact dp_J_nw s D w Q hQl hD hs HA' HZ' _ _ h0 t74 (Lib.hid N0) hz (Lib.hid X) g
      · obtain ⟨r1, r2⟩ := dead (by rw [hb1] at f; unfold dyP; rw [if_pos h74, if_neg f])
        rw [r1, r2]
        exact dp_Jb s D w Q hQl hD hs HA' HZ' h0 t74 (Lib.hid (fun w => numB_no (D.extract 1 D.size) f (by omega) (by omega) w))
    · have g1 : (D[0] == 74) = false := by simpa using e1
      rw [g1] at t74
      by_cases e2 : D[0] = 77
      · have g2 : (D[0] == 77) = true := by simpa using e2
        rw [g2] at t77
        have h77 : (qb 47 l).head? = some 77 := by rw [← hd, hh, e2]
        have PT := fun w => parts_any (D.extract 1 D.size) 46 w hb2
        rw [hb1] at PT
        have hb : ∀ p ∈ spt 46 ((qb 47 l).drop 1), p.length ≤ 100000 := by
          intro p hp
          have h1 := spt_len 46 _ p hp
          have h2 : ((qb 47 l).drop 1).length ≤ Q := by rw [List.length_drop, ← hQ]; omega
          omega
        by_cases h3 : (spt 46 ((qb 47 l).drop 1)).length = 3
        · match hsp : spt 46 ((qb 47 l).drop 1), h3 with
          | [a, b, c], _ =>
            rw [hsp] at PT hb
            have ba := hb a (by simp); have bb := hb b (by simp); have bc := hb c (by simp)
            by_cases fa : fg 1 2 a
            · have N0 := fun w => num_yes fa (by omega) w
              by_cases fb : fg 1 1 b
              · have N1 := fun w => num_yes fb (by omega) w
                by_cases fc : fg 1 1 c
                · have N2 := fun w => num_yes fc (by omega) w
                  have hdy : dyP (qb 47 l) = some (3, ((dv a : Nat) : Int), ((dv b : Nat) : Int), ((dv c : Nat) : Int)) := by
                    unfold dyP; rw [if_neg (by rw [h77]; decide), if_pos h77, hsp]; exact if_pos ⟨fa, fb, fc⟩
                  by_cases hz : Q < s.size
                  · by_cases hc : pcE r 167 = 0
                    · obtain ⟨r1, r2⟩ := rest16_g hdy (hrest hz) hc
                      rw [hc] at PCK
                      have X := fun w => rchk16_any ⟨3, ((dv a : Nat) : Int), ((dv b : Nat) : Int), ((dv c : Nat) : Int), pcN r 167⟩ w
                      rw [r1, r2]
                      by_cases g : ruE ⟨3, ((dv a : Nat) : Int), ((dv b : Nat) : Int), ((dv c : Nat) : Int), pcN r 167⟩ = 0
                      · rw [if_pos g, g]
                        rw [g] at X
                        exact dp_M_cg s D w Q hQl hD hs HA' HZ' a b c _ _ _ _ h0 t74 t77 (Lib.hid PT) (Lib.hid N0) (Lib.hid N1) (Lib.hid N2) hz (Lib.hid PCK) (Lib.hid X)
                      · rw [if_neg g]
                        exact dp_M_cw s D w Q hQl hD hs HA' HZ' a b c _ _ _ _ _ h0 t74 t77 (Lib.hid PT) (Lib.hid N0) (Lib.hid N1) (Lib.hid N2) hz (Lib.hid PCK) (Lib.hid X) g
                    · obtain ⟨r1, r2⟩ := rest16_e (hrest hz) hc
                      rw [hdy] at r1
                      rw [r1, r2]
                      have PC0 : ∀ w, Calls Tryd.prog 21 #[.string (s.extract (Q + 1) s.size), .int .i64 167] w fun x w' => x = .returned (.tuple #[.int .i64 (pcN r 167), .int .i64 (pcE r 167)]) ∧ Below w.heap.size w w' := PCK
                      exact dp_M_b s D w Q hQl hD hs HA' HZ' a b c _ _ _ _ _ h0 t74 t77 (Lib.hid PT) (Lib.hid N0) (Lib.hid N1) (Lib.hid N2) hz (Lib.hid PC0) hc
                  · obtain ⟨r1, r2⟩ := rest16_n hdy (hnone hz)
                    have X := fun w => rchk16_any ⟨3, ((dv a : Nat) : Int), ((dv b : Nat) : Int), ((dv c : Nat) : Int), 7200⟩ w
                    rw [r1, r2]
                    by_cases g : ruE ⟨3, ((dv a : Nat) : Int), ((dv b : Nat) : Int), ((dv c : Nat) : Int), 7200⟩ = 0
                    · rw [if_pos g, g]
                      rw [g] at X
                      exact dp_M_ng s D w Q hQl hD hs HA' HZ' a b c _ _ _ h0 t74 t77 (Lib.hid PT) (Lib.hid N0) (Lib.hid N1) (Lib.hid N2) hz (Lib.hid X)
                    · rw [if_neg g]
                      exact dp_M_nw s D w Q hQl hD hs HA' HZ' a b c _ _ _ _ h0 t74 t77 (Lib.hid PT) (Lib.hid N0) (Lib.hid N1) (Lib.hid N2) hz (Lib.hid X) g
                · obtain ⟨r1, r2⟩ := dead (sp3_no3 h77 hsp (fun _ => fc))
                  rw [r1, r2]
                  exact dp_Mp2 s D w Q hQl hD hs HA' HZ' a b c _ _ h0 t74 t77 (Lib.hid PT) (Lib.hid N0) (Lib.hid N1) (Lib.hid (fun w => num_no fc (by omega) bc w))
              · obtain ⟨r1, r2⟩ := dead (sp3_no2 h77 hsp (.inl fb))
                rw [r1, r2]
                exact dp_Mp1 s D w Q hQl hD hs HA' HZ' a b c _ h0 t74 t77 (Lib.hid PT) (Lib.hid N0) (Lib.hid (fun w => num_no fb (by omega) bb w))
            · obtain ⟨r1, r2⟩ := dead (sp3_no1 h77 hsp (.inl fa))
              rw [r1, r2]
              exact dp_Mp0 s D w Q hQl hD hs HA' HZ' a b c h0 t74 t77 (Lib.hid PT) (Lib.hid (fun w => num_no fa (by omega) ba w))
        · obtain ⟨r1, r2⟩ := dead (dy_len h77 h3)
          obtain ⟨ps, hps⟩ := spt_head 46 ((qb 47 l).drop 1)
          rw [r1, r2]
          exact dp_M3 s D w Q hQl hD hs HA' HZ' _ (by simpa using h3) (by rw [hps]; simp) h0 t74 t77 (Lib.hid PT)
      · have g2 : (D[0] == 77) = false := by simpa using e2
        rw [g2] at t77
        have h74 : D.data.toList.head? ≠ some 74 := by rw [hh]; intro c; injection c with c; exact e1 c
        have h77 : D.data.toList.head? ≠ some 77 := by rw [hh]; intro c; injection c with c; exact e2 c
        by_cases f : fg 1 3 D.data.toList
        · have N0 := fun w => numB_yes D f (by omega) w
          have hdy : dyP (qb 47 l) = some (2, 0, 0, ((dv D.data.toList : Nat) : Int)) := by
            rw [← hd]; unfold dyP; rw [if_neg h74, if_neg h77, if_pos f]
          by_cases hz : Q < s.size
          · by_cases hc : pcE r 167 = 0
            · obtain ⟨r1, r2⟩ := rest16_g hdy (hrest hz) hc
              rw [hc] at PCK
              have X := fun w => rchk16_any ⟨2, 0, 0, ((dv D.data.toList : Nat) : Int), pcN r 167⟩ w
              rw [r1, r2]
              by_cases g : ruE ⟨2, 0, 0, ((dv D.data.toList : Nat) : Int), pcN r 167⟩ = 0
              · rw [if_pos g, g]
                rw [g] at X
                exact dp_N_cg s D w Q hQl hD hs HA' HZ' _ _ (Or.inr ⟨h0, t74, t77⟩) (Lib.hid N0) hz (Lib.hid PCK) (Lib.hid X)
              · rw [if_neg g]
                exact dp_N_cw s D w Q hQl hD hs HA' HZ' _ _ _ (Or.inr ⟨h0, t74, t77⟩) (Lib.hid N0) hz (Lib.hid PCK) (Lib.hid X) g
            · obtain ⟨r1, r2⟩ := rest16_e (hrest hz) hc
              rw [hdy] at r1
              rw [r1, r2]
              have PC0 : ∀ w, Calls Tryd.prog 21 #[.string (s.extract (Q + 1) s.size), .int .i64 167] w fun x w' => x = .returned (.tuple #[.int .i64 (pcN r 167), .int .i64 (pcE r 167)]) ∧ Below w.heap.size w w' := PCK
              exact dp_N_b s D w Q hQl hD hs HA' HZ' _ _ _ (Or.inr ⟨h0, t74, t77⟩) (Lib.hid N0) hz (Lib.hid PC0) hc
          · obtain ⟨r1, r2⟩ := rest16_n hdy (hnone hz)
            have X := fun w => rchk16_any ⟨2, 0, 0, ((dv D.data.toList : Nat) : Int), 7200⟩ w
            rw [r1, r2]
            by_cases g : ruE ⟨2, 0, 0, ((dv D.data.toList : Nat) : Int), 7200⟩ = 0
            · rw [if_pos g, g]
              rw [g] at X
              exact dp_N_ng s D w Q hQl hD hs HA' HZ' _ (Or.inr ⟨h0, t74, t77⟩) (Lib.hid N0) hz (Lib.hid X)
            · rw [if_neg g]
              exact dp_N_nw s D w Q hQl hD hs HA' HZ' _ _ (Or.inr ⟨h0, t74, t77⟩) (Lib.hid N0) hz (Lib.hid X) g
        · obtain ⟨r1, r2⟩ := dead (by rw [← hd]; unfold dyP; rw [if_neg h74, if_neg h77, if_neg f])
          rw [r1, r2]
          exact dp_Nb s D w Q hQl hD hs HA' HZ' (Or.inr ⟨h0, t74, t77⟩) (Lib.hid (fun w => numB_no D f (by omega) (by omega) w))
end Go.Proofs.YtlngnllcjfbicaaDoor
namespace Go.Proofs.YtlngnllcjfbicaaDoor
open Go.RowKit
set_option linter.unusedVariables false
set_option linter.unusedSimpArgs false

theorem texts16_long (r : Ru) (s : ByteArray) (w : World) (he : Ends w) (h : 100 < s.size) :
    Calls Tryd.prog 4 #[.agg r.cells, .string s] w fun x w' => x = .returned (.bool true) ∧ Below w.heap.size w w' := by
  obtain ⟨W0, hW0⟩ : ∃ W0, W0 = w.alloc (.cells r.cells 23) := ⟨_, rfl⟩
  have B : Hid (Below w.heap.size w W0) := Lib.hid (by rw [hW0]; exact bel16 w _)
  have HA := Lib.hid (alive16_any W0 (he.below B.out))
  have t1 : decide ((100 : Int) < (s.size : Int)) = true := lt_yes (by omega)
  clear he h
  go_enter Tryd.func4, Tryd.ntmps4
  go_upto_region 1 with fail
  rw [← hW0]; clear hW0
  go_wp2_with (go_at_call 8; refine HA.out.mono ?_; rintro x w1 ⟨rfl, hb⟩; have B := Lib.hid (B.out.trans (hb.mono B.out.size)); clear hb)
  go_ret
  exact ⟨rfl, B.out⟩
theorem held16 {W0 : World} {p q : Nat} {V : Ru} (h : Rk W0 p V) (k : Qk W0 q V) : ∀ W, Kq16 W0 W → ((W.cell? ⟨p, 0, none⟩ = some (.int .i64 V.K) ∧ W.cell? ⟨p, 1, none⟩ = some (.int .i64 V.M) ∧ W.cell? ⟨p, 2, none⟩ = some (.int .i64 V.W) ∧ W.cell? ⟨p, 3, none⟩ = some (.int .i64 V.D) ∧ W.cell? ⟨p, 4, none⟩ = some (.int .i64 V.T)) ∧
    (W.cell? ⟨q, 0, none⟩ = some (.int .i64 V.K) ∧ W.cell? ⟨q, 1, none⟩ = some (.int .i64 V.M) ∧ W.cell? ⟨q, 2, none⟩ = some (.int .i64 V.W) ∧ W.cell? ⟨q, 3, none⟩ = some (.int .i64 V.D) ∧ W.cell? ⟨q, 4, none⟩ = some (.int .i64 V.T))) ∧ Kq16 W0 W :=
  fun W hk => ⟨⟨(h.keep hk.bel).all, (k.keep hk.bel).all⟩, hk⟩
set_option maxHeartbeats 8000000 in
theorem texts16_bad (r : Ru) (s : ByteArray) (w : World) (he : Ends w) (hT : Tab w) (hz : s.size ≤ 100) (hr : ruE r ≠ 0) :
    Calls Tryd.prog 4 #[.agg r.cells, .string s] w fun x w' => x = .returned (.bool true) ∧ Below w.heap.size w w' := by
  have q0 := fun op t W x k => guard_ev op t W x k
  have q1 := fun W k => eql_ev W k
  have q2 := fun W k => neq_ev W k
  obtain ⟨W0, hW0⟩ : ∃ W0, W0 = w.alloc (.cells r.cells 23) := ⟨_, rfl⟩
  have B : Hid (Below w.heap.size w W0) := Lib.hid (by rw [hW0]; exact bel16 w _)
  have L0 : Rk W0 w.heap.size r := by rw [hW0]; exact rk_new _ _
  have R := Lib.hid L0
  have T := Lib.hid (hT.below B.out)
  have HA := Lib.hid (alive16_any W0 (he.below B.out))
  have HU : Hid (∀ w, Tab w → Calls Tryd.prog 16 #[.agg #[.int .i64 r.K, .int .i64 r.M, .int .i64 r.W, .int .i64 r.D, .int .i64 r.T]] w fun e w' => e = .returned (.tuple #[.string ⟨(rtL r).toArray⟩, ev (ruE r)]) ∧ Below w.heap.size w w') := Lib.hid (fun w hT => rput16_any r w hT)
  have HC : Hid (∀ w, Calls Tryd.prog 12 #[.agg #[.int .i64 r.K, .int .i64 r.M, .int .i64 r.W, .int .i64 r.D, .int .i64 r.T]] w fun e w' => e = .returned (.agg #[.int .i64 r.K, .int .i64 r.M, .int .i64 r.W, .int .i64 r.D, .int .i64 r.T]) ∧ Below w.heap.size w w') := Lib.hid (fun w => document_any r w)
  have HK : Hid (∀ w, Calls Tryd.prog 11 #[.agg #[.int .i64 r.K, .int .i64 r.M, .int .i64 r.W, .int .i64 r.D, .int .i64 r.T]] w fun e w' => e = .returned (.int .i64 (ruE r)) ∧ Below w.heap.size w w') := Lib.hid (fun w => rchk16_any r w)
  have HN := Lib.hid (fun w => num_any (ruE r) w (ruE_bd r).1 (ruE_bd r).2)
  have z0 : decide ((100 : Int) < (s.size : Int)) = false := lt_no (by omega)
  have hP := fun w => parse16_any s w (by omega)
  have hQ := fun w => rparse16_any s w (by omega)
  have HM := Lib.hid (fun w => num_any (rpE s.data.toList) w (rpE_bd _).1 (rpE_bd _).2)
  generalize rpV s.data.toList = V at *
  generalize rpE s.data.toList = F at *
  have HP : Hid (∀ w, Calls Tryd.prog 18 #[.string s] w fun x w' => x = .returned (.tuple #[.agg #[.int .i64 V.K, .int .i64 V.M, .int .i64 V.W, .int .i64 V.D, .int .i64 V.T], ev F]) ∧ Below w.heap.size w w') := Lib.hid hP
  have HQ : Hid (∀ w, Calls Tryd.prog 19 #[.string s] w fun x w' => x = .returned (.tuple #[.agg #[.int .i64 V.K, .int .i64 V.M, .int .i64 V.W, .int .i64 V.D, .int .i64 V.T], .int .i64 F]) ∧ Below w.heap.size w w') := Lib.hid hQ
  have HD : Hid (∀ w, Calls Tryd.prog 12 #[.agg #[.int .i64 V.K, .int .i64 V.M, .int .i64 V.W, .int .i64 V.D, .int .i64 V.T]] w fun e w' => e = .returned (.agg #[.int .i64 V.K, .int .i64 V.M, .int .i64 V.W, .int .i64 V.D, .int .i64 V.T]) ∧ Below w.heap.size w w') := Lib.hid (fun w => document_any V w)
  have er := fun w => eq_drule V.K V.M V.W V.D V.T w
  clear hP hQ
  have e1 : rtL r = [] := if_neg hr
  rw [e1] at HU
  have t1 := eq_no hr
  generalize ruE r = G at *
  clear e1 hr he hT hz L0
  go_enter Tryd.func4, Tryd.ntmps4
  go_upto_region 1 with fail
  rw [← hW0]; clear hW0
  go_upto_region 12 with (first
    | (go_at_call 8; refine HA.out.mono ?_; rintro x w1 ⟨rfl, hb⟩; have R := Lib.hid (R.out.keep hb); have T := Lib.hid (T.out.below hb); have B := Lib.hid (B.out.trans (hb.mono B.out.size)); clear hb; obtain ⟨c0, c1, c2, c3, c4⟩ := R.out.all)
    | (go_at_call 16; refine (HU.out _ T.out).mono ?_; rintro x w2 ⟨rfl, hb⟩; have R := Lib.hid (R.out.keep hb); have T := Lib.hid (T.out.below hb); have B := Lib.hid (B.out.trans (hb.mono B.out.size)); clear hb; obtain ⟨c0, c1, c2, c3, c4⟩ := R.out.all)
    | (go_at_call 12; refine (HC.out _).mono ?_; rintro x w3 ⟨rfl, hb⟩; have R := Lib.hid (R.out.keep hb); have T := Lib.hid (T.out.below hb); have B := Lib.hid (B.out.trans (hb.mono B.out.size)); clear hb; obtain ⟨c0, c1, c2, c3, c4⟩ := R.out.all)
    | (go_at_call 11; refine (HK.out _).mono ?_; rintro x w4 ⟨rfl, hb⟩; have R := Lib.hid (R.out.keep hb); have T := Lib.hid (T.out.below hb); have B := Lib.hid (B.out.trans (hb.mono B.out.size)); clear hb; obtain ⟨c0, c1, c2, c3, c4⟩ := R.out.all)
    | (go_at_call 13; refine (HN.out _).mono ?_; rintro x w5 ⟨rfl, rfl⟩))
  clear c0 c1 c2 c3 c4
  go_upto_region 13 with (go_at_call 18; refine (HP.out _).mono ?_; rintro x w7 ⟨rfl, hb⟩; have B := Lib.hid (B.out.trans (hb.mono B.out.size)); clear hb)
  have hx : Rk (w7.alloc (.cells #[.int .i64 V.K, .int .i64 V.M, .int .i64 V.W, .int .i64 V.D, .int .i64 V.T] 23)) w7.heap.size V := rk_new w7 V
  have hB7 := B.out.alloc B.out.size (.cells #[.int .i64 V.K, .int .i64 V.M, .int .i64 V.W, .int .i64 V.D, .int .i64 V.T] 23)
  obtain ⟨p, hp⟩ : ∃ p, p = w7.heap.size := ⟨_, rfl⟩
  obtain ⟨W7, hW7⟩ : ∃ W7, W7 = w7.alloc (.cells #[.int .i64 V.K, .int .i64 V.M, .int .i64 V.W, .int .i64 V.D, .int .i64 V.T] 23) := ⟨_, rfl⟩
  rw [← hW7] at hx hB7
  rw [← hp] at hx
  rw [← hW7, ← hp]
  have X := Lib.hid hx
  replace B := Lib.hid hB7
  clear hx hB7 hW7 hp
  go_upto_region 14 with (go_at_call 19; refine (HQ.out _).mono ?_; rintro x w8 ⟨rfl, hb⟩; have X := Lib.hid (X.out.keep hb); have B := Lib.hid (B.out.trans (hb.mono B.out.size)); clear hb)
  have hy : Qk (w8.alloc (.cells #[.int .i64 V.K, .int .i64 V.M, .int .i64 V.W, .int .i64 V.D, .int .i64 V.T] 30)) w8.heap.size V := qk_new w8 V
  have hx := X.out.keep (bel16 w8 (.cells #[.int .i64 V.K, .int .i64 V.M, .int .i64 V.W, .int .i64 V.D, .int .i64 V.T] 30))
  have hB8 := B.out.alloc B.out.size (.cells #[.int .i64 V.K, .int .i64 V.M, .int .i64 V.W, .int .i64 V.D, .int .i64 V.T] 30)
  obtain ⟨q, hq⟩ : ∃ q, q = w8.heap.size := ⟨_, rfl⟩
  obtain ⟨W8, hW8⟩ : ∃ W8, W8 = w8.alloc (.cells #[.int .i64 V.K, .int .i64 V.M, .int .i64 V.W, .int .i64 V.D, .int .i64 V.T] 30) := ⟨_, rfl⟩
  rw [← hW8] at hx hy hB8
  rw [← hq] at hy
  rw [← hW8, ← hq]
  have HH := Lib.hid (held16 hx hy)
  replace B := Lib.hid hB8
  have hKD : Kq16 W8 W8.drew := ⟨(Below.refl _ W8).drew⟩
  clear hx hy hB8 hW8 hq X
  go_region_held3 (fun W => ((W.cell? ⟨p, 0, none⟩ = some (.int .i64 V.K) ∧ W.cell? ⟨p, 1, none⟩ = some (.int .i64 V.M) ∧ W.cell? ⟨p, 2, none⟩ = some (.int .i64 V.W) ∧ W.cell? ⟨p, 3, none⟩ = some (.int .i64 V.D) ∧ W.cell? ⟨p, 4, none⟩ = some (.int .i64 V.T)) ∧
    (W.cell? ⟨q, 0, none⟩ = some (.int .i64 V.K) ∧ W.cell? ⟨q, 1, none⟩ = some (.int .i64 V.M) ∧ W.cell? ⟨q, 2, none⟩ = some (.int .i64 V.W) ∧ W.cell? ⟨q, 3, none⟩ = some (.int .i64 V.D) ∧ W.cell? ⟨q, 4, none⟩ = some (.int .i64 V.T))) ∧ Kq16 W8 W)
    (exact HH.out _ (by assumption))
    (first
      | (go_at_call 12; go_split_ands; (with_reducible refine (HD.out _).mono ?_); rintro er9 wr9 ⟨rfl, hq⟩; have hkr : Kq16 W8 wr9 := Kq16.step (by assumption) hq; clear hq)
      | (go_at_call 13; go_split_ands; (with_reducible refine (HM.out _).mono ?_); rintro er9 wr8 ⟨rfl, rfl⟩))
  have Q1 : Hid (Kq16 W8 _) := Lib.hid (by assumption)
  go_wp2_with fail
  go_ret
  exact ⟨rfl, B.out.trans (Q1.out.bel.mono B.out.size)⟩
set_option maxHeartbeats 8000000 in
theorem texts16_good (r : Ru) (s : ByteArray) (w : World) (he : Ends w) (hT : Tab w) (hz : s.size ≤ 100) (hr : ruE r = 0) :
    Calls Tryd.prog 4 #[.agg r.cells, .string s] w fun x w' => x = .returned (.bool true) ∧ Below w.heap.size w w' := by
  have q0 := fun op t W x k => guard_ev op t W x k
  have q1 := fun W k => eql_ev W k
  have q2 := fun W k => neq_ev W k
  obtain ⟨W0, hW0⟩ : ∃ W0, W0 = w.alloc (.cells r.cells 23) := ⟨_, rfl⟩
  have B : Hid (Below w.heap.size w W0) := Lib.hid (by rw [hW0]; exact bel16 w _)
  have L0 : Rk W0 w.heap.size r := by rw [hW0]; exact rk_new _ _
  have R := Lib.hid L0
  have T := Lib.hid (hT.below B.out)
  have HA := Lib.hid (alive16_any W0 (he.below B.out))
  have HU : Hid (∀ w, Tab w → Calls Tryd.prog 16 #[.agg #[.int .i64 r.K, .int .i64 r.M, .int .i64 r.W, .int .i64 r.D, .int .i64 r.T]] w fun e w' => e = .returned (.tuple #[.string ⟨(rtL r).toArray⟩, ev (ruE r)]) ∧ Below w.heap.size w w') := Lib.hid (fun w hT => rput16_any r w hT)
  have HC : Hid (∀ w, Calls Tryd.prog 12 #[.agg #[.int .i64 r.K, .int .i64 r.M, .int .i64 r.W, .int .i64 r.D, .int .i64 r.T]] w fun e w' => e = .returned (.agg #[.int .i64 r.K, .int .i64 r.M, .int .i64 r.W, .int .i64 r.D, .int .i64 r.T]) ∧ Below w.heap.size w w') := Lib.hid (fun w => document_any r w)
  have HK : Hid (∀ w, Calls Tryd.prog 11 #[.agg #[.int .i64 r.K, .int .i64 r.M, .int .i64 r.W, .int .i64 r.D, .int .i64 r.T]] w fun e w' => e = .returned (.int .i64 (ruE r)) ∧ Below w.heap.size w w') := Lib.hid (fun w => rchk16_any r w)
  have HN := Lib.hid (fun w => num_any (ruE r) w (ruE_bd r).1 (ruE_bd r).2)
  have z0 : decide ((100 : Int) < (s.size : Int)) = false := lt_no (by omega)
  have hP := fun w => parse16_any s w (by omega)
  have hQ := fun w => rparse16_any s w (by omega)
  have HM := Lib.hid (fun w => num_any (rpE s.data.toList) w (rpE_bd _).1 (rpE_bd _).2)
  generalize rpV s.data.toList = V at *
  generalize rpE s.data.toList = F at *
  have HP : Hid (∀ w, Calls Tryd.prog 18 #[.string s] w fun x w' => x = .returned (.tuple #[.agg #[.int .i64 V.K, .int .i64 V.M, .int .i64 V.W, .int .i64 V.D, .int .i64 V.T], ev F]) ∧ Below w.heap.size w w') := Lib.hid hP
  have HQ : Hid (∀ w, Calls Tryd.prog 19 #[.string s] w fun x w' => x = .returned (.tuple #[.agg #[.int .i64 V.K, .int .i64 V.M, .int .i64 V.W, .int .i64 V.D, .int .i64 V.T], .int .i64 F]) ∧ Below w.heap.size w w') := Lib.hid hQ
  have HD : Hid (∀ w, Calls Tryd.prog 12 #[.agg #[.int .i64 V.K, .int .i64 V.M, .int .i64 V.W, .int .i64 V.D, .int .i64 V.T]] w fun e w' => e = .returned (.agg #[.int .i64 V.K, .int .i64 V.M, .int .i64 V.W, .int .i64 V.D, .int .i64 V.T]) ∧ Below w.heap.size w w') := Lib.hid (fun w => document_any V w)
  have er := fun w => eq_drule V.K V.M V.W V.D V.T w
  clear hP hQ
  have e1 : rtL r = ruL r := if_pos hr
  rw [e1, hr] at HU
  rw [hr] at HK HN
  have HG : Hid (∀ w, Calls Tryd.prog 17 #[.agg #[.int .i64 r.K, .int .i64 r.M, .int .i64 r.W, .int .i64 r.D, .int .i64 r.T]] w fun e w' => e = .returned (.string ⟨(ruL r).toArray⟩) ∧ Below w.heap.size w w') := Lib.hid (fun w => rputd_any r w hr)
  generalize (⟨(ruL r).toArray⟩ : ByteArray) = S at *
  clear e1 hr he hT hz L0
  go_enter Tryd.func4, Tryd.ntmps4
  go_upto_region 1 with fail
  rw [← hW0]; clear hW0
  go_upto_region 12 with (first
    | (go_at_call 8; refine HA.out.mono ?_; rintro x w1 ⟨rfl, hb⟩; have R := Lib.hid (R.out.keep hb); have T := Lib.hid (T.out.below hb); have B := Lib.hid (B.out.trans (hb.mono B.out.size)); clear hb; obtain ⟨c0, c1, c2, c3, c4⟩ := R.out.all)
    | (go_at_call 16; refine (HU.out _ T.out).mono ?_; rintro x w2 ⟨rfl, hb⟩; have R := Lib.hid (R.out.keep hb); have T := Lib.hid (T.out.below hb); have B := Lib.hid (B.out.trans (hb.mono B.out.size)); clear hb; obtain ⟨c0, c1, c2, c3, c4⟩ := R.out.all)
    | (go_at_call 12; refine (HC.out _).mono ?_; rintro x w3 ⟨rfl, hb⟩; have R := Lib.hid (R.out.keep hb); have T := Lib.hid (T.out.below hb); have B := Lib.hid (B.out.trans (hb.mono B.out.size)); clear hb; obtain ⟨c0, c1, c2, c3, c4⟩ := R.out.all)
    | (go_at_call 11; refine (HK.out _).mono ?_; rintro x w4 ⟨rfl, hb⟩; have R := Lib.hid (R.out.keep hb); have T := Lib.hid (T.out.below hb); have B := Lib.hid (B.out.trans (hb.mono B.out.size)); clear hb; obtain ⟨c0, c1, c2, c3, c4⟩ := R.out.all)
    | (go_at_call 13; refine (HN.out _).mono ?_; rintro x w5 ⟨rfl, rfl⟩)
    | (go_at_call 17; refine (HG.out _).mono ?_; rintro x w6 ⟨rfl, hb⟩; have R := Lib.hid (R.out.keep hb); have T := Lib.hid (T.out.below hb); have B := Lib.hid (B.out.trans (hb.mono B.out.size)); clear hb; obtain ⟨c0, c1, c2, c3, c4⟩ := R.out.all))
  clear c0 c1 c2 c3 c4
  go_upto_region 13 with (go_at_call 18; refine (HP.out _).mono ?_; rintro x w7 ⟨rfl, hb⟩; have B := Lib.hid (B.out.trans (hb.mono B.out.size)); clear hb)
  have hx : Rk (w7.alloc (.cells #[.int .i64 V.K, .int .i64 V.M, .int .i64 V.W, .int .i64 V.D, .int .i64 V.T] 23)) w7.heap.size V := rk_new w7 V
  have hB7 := B.out.alloc B.out.size (.cells #[.int .i64 V.K, .int .i64 V.M, .int .i64 V.W, .int .i64 V.D, .int .i64 V.T] 23)
  obtain ⟨p, hp⟩ : ∃ p, p = w7.heap.size := ⟨_, rfl⟩
  obtain ⟨W7, hW7⟩ : ∃ W7, W7 = w7.alloc (.cells #[.int .i64 V.K, .int .i64 V.M, .int .i64 V.W, .int .i64 V.D, .int .i64 V.T] 23) := ⟨_, rfl⟩
  rw [← hW7] at hx hB7
  rw [← hp] at hx
  rw [← hW7, ← hp]
  have X := Lib.hid hx
  replace B := Lib.hid hB7
  clear hx hB7 hW7 hp
  go_upto_region 14 with (go_at_call 19; refine (HQ.out _).mono ?_; rintro x w8 ⟨rfl, hb⟩; have X := Lib.hid (X.out.keep hb); have B := Lib.hid (B.out.trans (hb.mono B.out.size)); clear hb)
  have hy : Qk (w8.alloc (.cells #[.int .i64 V.K, .int .i64 V.M, .int .i64 V.W, .int .i64 V.D, .int .i64 V.T] 30)) w8.heap.size V := qk_new w8 V
  have hx := X.out.keep (bel16 w8 (.cells #[.int .i64 V.K, .int .i64 V.M, .int .i64 V.W, .int .i64 V.D, .int .i64 V.T] 30))
  have hB8 := B.out.alloc B.out.size (.cells #[.int .i64 V.K, .int .i64 V.M, .int .i64 V.W, .int .i64 V.D, .int .i64 V.T] 30)
  obtain ⟨q, hq⟩ : ∃ q, q = w8.heap.size := ⟨_, rfl⟩
  obtain ⟨W8, hW8⟩ : ∃ W8, W8 = w8.alloc (.cells #[.int .i64 V.K, .int .i64 V.M, .int .i64 V.W, .int .i64 V.D, .int .i64 V.T] 30) := ⟨_, rfl⟩
  rw [← hW8] at hx hy hB8
  rw [← hq] at hy
  rw [← hW8, ← hq]
  have HH := Lib.hid (held16 hx hy)
  replace B := Lib.hid hB8
  have hKD : Kq16 W8 W8.drew := ⟨(Below.refl _ W8).drew⟩
  clear hx hy hB8 hW8 hq X
  go_region_held3 (fun W => ((W.cell? ⟨p, 0, none⟩ = some (.int .i64 V.K) ∧ W.cell? ⟨p, 1, none⟩ = some (.int .i64 V.M) ∧ W.cell? ⟨p, 2, none⟩ = some (.int .i64 V.W) ∧ W.cell? ⟨p, 3, none⟩ = some (.int .i64 V.D) ∧ W.cell? ⟨p, 4, none⟩ = some (.int .i64 V.T)) ∧
    (W.cell? ⟨q, 0, none⟩ = some (.int .i64 V.K) ∧ W.cell? ⟨q, 1, none⟩ = some (.int .i64 V.M) ∧ W.cell? ⟨q, 2, none⟩ = some (.int .i64 V.W) ∧ W.cell? ⟨q, 3, none⟩ = some (.int .i64 V.D) ∧ W.cell? ⟨q, 4, none⟩ = some (.int .i64 V.T))) ∧ Kq16 W8 W)
    (exact HH.out _ (by assumption))
    (first
      | (go_at_call 12; go_split_ands; (with_reducible refine (HD.out _).mono ?_); rintro er9 wr9 ⟨rfl, hq⟩; have hkr : Kq16 W8 wr9 := Kq16.step (by assumption) hq; clear hq)
      | (go_at_call 13; go_split_ands; (with_reducible refine (HM.out _).mono ?_); rintro er9 wr8 ⟨rfl, rfl⟩))
  have Q1 : Hid (Kq16 W8 _) := Lib.hid (by assumption)
  go_wp2_with fail
  go_ret
  exact ⟨rfl, B.out.trans (Q1.out.bel.mono B.out.size)⟩

theorem texts16_walk (r : Ru) (s : ByteArray) (w : World) (he : Ends w) (hT : Tab w) :
    Calls Tryd.prog 4 #[.agg r.cells, .string s] w fun x w' => x = .returned (.bool true) ∧ Below w.heap.size w w' := by
  by_cases hz : 100 < s.size
  · exact texts16_long r s w he hz
  · by_cases hr : ruE r = 0
    · exact texts16_good r s w he hT (by omega) hr
    · exact texts16_bad r s w he hT (by omega) hr
end Go.Proofs.YtlngnllcjfbicaaDoor
