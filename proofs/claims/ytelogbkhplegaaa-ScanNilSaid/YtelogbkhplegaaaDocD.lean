/- The document's scanner: Until. -/
import Derived.Test.YtelogbkhplegaaaDocC
import Derived.Test.YtelogbkhplegaaaScanG
namespace Go.Proofs.Ytelogbkhplegaaa
open Go.RowKit
set_option linter.unusedVariables false

theorem bs_app (a b : List UInt8) : (⟨a.toArray⟩ : ByteArray) ++ ⟨b.toArray⟩ = ⟨(a ++ b).toArray⟩ := by
  apply ByteArray.ext; simp
theorem rs_drop {l : List UInt8} {k i : Nat} {e : Int} : rs l (k + i) e = (rs l k e).drop i := by
  unfold rs; split
  · rw [List.drop_drop]
  · simp
/-- What is left, some bytes further on. -/
theorem rest_on (s : ByteArray) (k : Nat) (e : Int) (hk : k ≤ s.size) (hs : s.size ≤ 1000) (i : Nat) (hi : i ≤ (rs s.data.toList k e).length) (j : Nat) (hj : j = k + i) (W : World) :
    Calls Try.prog 29 #[dm s j e] W fun x w' => x = .returned (.string ⟨((rs s.data.toList k e).drop i).toArray⟩) ∧ Below W.heap.size W w' := by
  subst hj
  have hsl : s.data.toList.length = s.size := by simp
  have hle := rs_le s.data.toList k e
  have h := rest_any s (k + i) e W (by omega) hs
  unfold rsS at h
  rw [rs_drop] at h
  exact h
theorem drop_size (r : List UInt8) (i : Nat) : (⟨(r.drop i).toArray⟩ : ByteArray).size = r.length - i := by rw [Lib.size_mk]; simp
theorem drop_head {r : List UInt8} {i : Nat} {R : ByteArray} (hR : R = ⟨(r.drop i).toArray⟩) (h : i < r.length) (h0 : 0 < R.size) : R[0] = r[i] := by
  subst hR
  show ((r.drop i).toArray)[0]'_ = r[i]
  simp
theorem take_one {r : List UInt8} {i : Nat} {O R : ByteArray} (hO : O = ⟨(r.take i).toArray⟩) (hR : R = ⟨(r.drop i).toArray⟩) (h : i < r.length) : O ++ R.extract 0 1 = ⟨(r.take (i + 1)).toArray⟩ := by
  have e1 : R.extract 0 1 = ⟨[r[i]].toArray⟩ := by
    have : (R.extract 0 1).data.toList = [r[i]] := by
      rw [Lib.extract_upto, hR]
      show ((r.drop i).toArray.toList).take 1 = _
      rw [List.drop_eq_getElem_cons h]
      rfl
    rw [← this]
  rw [e1, hO, bs_app, List.take_succ_eq_append_getElem h]

set_option maxHeartbeats 3200000 in
theorem until_d (s : ByteArray) (k : Nat) (e : Int) (c : UInt8) (w : World) (hk : k ≤ s.size) (hs : s.size ≤ 1000) :
    Calls Try.prog 35 #[dm s k e, .int .u8 (c.toNat : Int)] w fun x w' =>
      x = .returned (.tuple #[.string ⟨((rs s.data.toList k e).take (tw (noB c) (rs s.data.toList k e))).toArray⟩, dm s (k + tw (noB c) (rs s.data.toList k e)) e]) ∧ Below w.heap.size w w' := by
  have hsl : s.data.toList.length = s.size := by simp
  have hle := rs_le s.data.toList k e
  have hrl : (rs s.data.toList k e).length ≤ 1000 := by omega
  have HC := rest_on s k e hk hs
  have hkr : k + (rs s.data.toList k e).length ≤ s.size := by omega
  generalize rs s.data.toList k e = r at *
  obtain ⟨N, hN⟩ : ∃ N, N = tw (noB c) r := ⟨_, rfl⟩
  rw [← hN]
  have HN : RowKit.Hid (N = 0 + tw (noB c) (r.drop 0)) := by rw [Nat.zero_add, List.drop_zero]; exact hN
  have HCH := Lib.hid HC
  clear hN HC hsl hle
  go_enter Try.func35, Try.ntmps35
  go_upto_region 1 with fail
  obtain ⟨hp0, hq0⟩ := two w s k e
  have hb0 := below_two w (.cells #[.string s, .int .i64 (k : Int), .int .i64 e] Td) (.cells #[.string ⟨#[]⟩, .int .i64 0, .int .i64 0] Td)
  generalize hW0 : World.alloc (World.alloc w _) _ = W0 at hp0 hq0 hb0 ⊢
  clear hW0
  obtain ⟨q, hq⟩ : ∃ q, q = w.heap.size + 1 := ⟨_, rfl⟩
  obtain ⟨p, hp⟩ : ∃ p, p = w.heap.size := ⟨_, rfl⟩
  rw [← hq] at hq0 ⊢
  rw [← hp] at hp0 ⊢
  have HPW : RowKit.Hid (w.heap.size ≤ p) := by rw [hp]; exact Nat.le_refl _
  have HQW : RowKit.Hid (w.heap.size ≤ q) := by rw [hq]; exact Nat.le_succ _
  have hpq : p ≠ q := by omega
  have HPQ := Lib.hid hpq
  have P0 := Lib.hid hp0; have Q0 := Lib.hid hq0; have B0 := Lib.hid hb0
  clear hp0 hq0 hb0 hq hp hpq
  go_wp2_with fail
  go_loopg [6] r.length (fun G o wr => ∃ (i j : Nat) (O : ByteArray), o = .string O ∧ i ≤ r.length ∧ G = r.length - i ∧ Hid (j = k + i) ∧ Hid (O = ⟨(r.take i).toArray⟩) ∧ Hid (N = i + tw (noB c) (r.drop i)) ∧ Hid (Dk wr p s j e) ∧ Hid (Dk wr q ⟨#[]⟩ 0 0) ∧ Hid (Below w.heap.size w wr))
  case atStart => exact ⟨0, k, _, rfl, Nat.zero_le _, rfl, rfl, rfl, HN, P0, Q0, B0⟩
  case round =>
    obtain ⟨i, j, O, rfl, hi, rfl, HJ, HO, HNi, P1, Q1, B1⟩ := hrel
    have hjs : j ≤ s.size := by have := HJ.out; omega
    obtain ⟨R, hR⟩ : ∃ R : ByteArray, R = ⟨(r.drop i).toArray⟩ := ⟨_, rfl⟩
    have hRs : R.size = r.length - i := by rw [hR]; exact drop_size r i
    have HC1 := HCH.out i hi j HJ.out
    rw [← hR] at HC1
    have HR := Lib.hid hR
    have HCi := Lib.hid HC1
    have hOs : O.size ≤ 1000 := by rw [HO.out, Lib.size_mk]; simp; omega
    clear hR HC1
    by_cases hlt : i < r.length
    · have h0 : 0 < R.size := by omega
      have hpos : ((R.size : Int) > 0) := by omega
      have hR1 : 1 ≤ R.size := by omega
      have hR2 : R.size ≤ 1000 := by omega
      have hh := drop_head HR.out hlt h0
      have hst := tw_step (p := noB c) hlt
      have HH := Lib.hid hh
      clear hh hRs
      have p0 := P1.out.c0; have p1 := P1.out.c1; have p2 := P1.out.c2
      have q0 := Q1.out.c0; have q1 := Q1.out.c1; have q2 := Q1.out.c2
      have f0 := Q1.out.free 0; have f1 := Q1.out.free 1; have f2 := Q1.out.free 2
      have fp1 := P1.out.free 1; have fp2 := P1.out.free 2
      go_wp2_with fail
      clear p0 p1 p2 q0 q1 q2 f0 f1 f2 fp1 fp2
      refine (HCi.out wr).mono ?_
      rintro x W2 ⟨rfl, hb⟩
      have P2 := Lib.hid (P1.out.below hb P1.out.lt)
      have Q2 := Lib.hid (Q1.out.below hb Q1.out.lt)
      have B2 := Lib.hid (B1.out.trans (hb.mono B1.out.size))
      clear hb P1 Q1 B1
      have p0 := P2.out.c0; have p1 := P2.out.c1; have p2 := P2.out.c2
      have q0 := Q2.out.c0; have q1 := Q2.out.c1; have q2 := Q2.out.c2
      have f0 := Q2.out.free 0; have f1 := Q2.out.free 1; have f2 := Q2.out.free 2
      have fp1 := P2.out.free 1; have fp2 := P2.out.free 2
      go_wp2_with fail
      clear p0 p1 p2 q0 q1 q2 f0 f1 f2 fp1 fp2
      refine (HCi.out W2).mono ?_
      rintro x W3 ⟨rfl, hb⟩
      have P3 := Lib.hid (P2.out.below hb P2.out.lt)
      have Q3 := Lib.hid (Q2.out.below hb Q2.out.lt)
      have B3 := Lib.hid (B2.out.trans (hb.mono B2.out.size))
      clear hb P2 Q2 B2
      cases hp : noB c r[i]
      · rw [hp] at hst
        have hx : ((R[0].toNat : Int) != (c.toNat : Int)) = false := by rw [HH.out]; exact hp
        have HNi : RowKit.Hid (N = i) := by have := HNi.out; rw [hst] at this; exact this
        clear hst hp
        have p0 := P3.out.c0; have p1 := P3.out.c1; have p2 := P3.out.c2
        have q0 := Q3.out.c0; have q1 := Q3.out.c1; have q2 := Q3.out.c2
        have f0 := Q3.out.free 0; have f1 := Q3.out.free 1; have f2 := Q3.out.free 2
        have fp1 := P3.out.free 1; have fp2 := P3.out.free 2
        go_wp2
        go_region
        go_wp2
        refine bodyPost_ret (v := .tuple #[.string O, dm s j e]) (by simp [results, Try.results35, go_sem, q0, q1, q2]) rfl ⟨?_, (below_put B3.out HQW.out _ _ _).drew⟩
        have hn : N = i := HNi.out
        subst hn
        rw [HO.out, HJ.out]
      · rw [hp] at hst
        have hx : ((R[0].toNat : Int) != (c.toNat : Int)) = true := by rw [HH.out]; exact hp
        have HN2 : RowKit.Hid (N = (i + 1) + tw (noB c) (r.drop (i + 1))) := by have := HNi.out; rw [hst] at this; simp at this; show N = _; omega
        clear hst hp
        have p0 := P3.out.c0; have p1 := P3.out.c1; have p2 := P3.out.c2
        have q0 := Q3.out.c0; have q1 := Q3.out.c1; have q2 := Q3.out.c2
        have f0 := Q3.out.free 0; have f1 := Q3.out.free 1; have f2 := Q3.out.free 2
        have fp1 := P3.out.free 1; have fp2 := P3.out.free 2
        go_wp2_with fail
        clear p0 p1 p2 q0 q1 q2 f0 f1 f2 fp1 fp2
        refine (HCi.out W3).mono ?_
        rintro x W4 ⟨rfl, hb⟩
        have P4 := Lib.hid (P3.out.below hb P3.out.lt)
        have Q4 := Lib.hid (Q3.out.below hb Q3.out.lt)
        have B4 := Lib.hid (B3.out.trans (hb.mono B3.out.size))
        clear hb P3 Q3 B3
        have p0 := P4.out.c0; have p1 := P4.out.c1; have p2 := P4.out.c2
        have q0 := Q4.out.c0; have q1 := Q4.out.c1; have q2 := Q4.out.c2
        have f0 := Q4.out.free 0; have f1 := Q4.out.free 1; have f2 := Q4.out.free 2
        have fp1 := P4.out.free 1; have fp2 := P4.out.free 2
        have hj1 : j + 1 ≤ s.size := by have := HJ.out; omega
        go_wp2
        go_roundg (r.length - (i + 1))
        case rel => exact ⟨i + 1, j + 1, O ++ R.extract 0 1, by simp, by omega, rfl, by have := HJ.out; show j + 1 = _; omega, take_one HO.out HR.out hlt, HN2, P4.out.set1 (j + 1) (by omega), Q4.out.far HPQ.out 1 _, below_set1 B4.out HPW.out 1 _⟩
        case measure => omega
    · have hin : i = r.length := by omega
      have hR0 : R.size = 0 := by omega
      have HNi : RowKit.Hid (N = i) := by have := HNi.out; rw [tw_end (by omega)] at this; exact this
      have hRe : R = ⟨#[]⟩ := by
        have := HR.out
        rw [this, List.drop_eq_nil_of_le (by omega)]
      subst hRe
      clear hRs hR0 hin
      have p0 := P1.out.c0; have p1 := P1.out.c1; have p2 := P1.out.c2
      have q0 := Q1.out.c0; have q1 := Q1.out.c1; have q2 := Q1.out.c2
      have f0 := Q1.out.free 0; have f1 := Q1.out.free 1; have f2 := Q1.out.free 2
      have fp1 := P1.out.free 1; have fp2 := P1.out.free 2
      go_wp2_with fail
      clear p0 p1 p2 q0 q1 q2 f0 f1 f2 fp1 fp2
      refine (HCi.out wr).mono ?_
      rintro x W2 ⟨rfl, hb⟩
      have P2 := Lib.hid (P1.out.below hb P1.out.lt)
      have Q2 := Lib.hid (Q1.out.below hb Q1.out.lt)
      have B2 := Lib.hid (B1.out.trans (hb.mono B1.out.size))
      clear hb P1 Q1 B1
      have p0 := P2.out.c0; have p1 := P2.out.c1; have p2 := P2.out.c2
      have q0 := Q2.out.c0; have q1 := Q2.out.c1; have q2 := Q2.out.c2
      have f0 := Q2.out.free 0; have f1 := Q2.out.free 1; have f2 := Q2.out.free 2
      have fp1 := P2.out.free 1; have fp2 := P2.out.free 2
      go_wp2
      go_region
      go_wp2
      refine bodyPost_ret (v := .tuple #[.string O, dm s j e]) (by simp [results, Try.results35, go_sem, q0, q1, q2]) rfl ⟨?_, (below_put B2.out HQW.out _ _ _).drew⟩
      have hn : N = i := HNi.out
      subst hn
      rw [HO.out, HJ.out]
end Go.Proofs.Ytelogbkhplegaaa
