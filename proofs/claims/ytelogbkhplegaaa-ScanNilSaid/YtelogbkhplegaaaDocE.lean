/- The document's scanner: Run. -/
import Derived.Test.YtelogbkhplegaaaDocD
import Derived.LoopTactic
namespace Go.Proofs.Ytelogbkhplegaaa
open Go.RowKit
set_option linter.unusedVariables false

/-- Is a byte among others? -/
def mb (l : List UInt8) (c : UInt8) : Bool := l.any fun x => (x.toNat : Int) == (c.toNat : Int)
theorem mb_snoc (l : List UInt8) (x c : UInt8) : mb (l ++ [x]) c = (mb l c || ((x.toNat : Int) == (c.toNat : Int))) := by simp [mb]
theorem inB_mb : ∀ (l : List UInt8) (c : UInt8), inB l c = mb l c
  | [], c => rfl
  | b :: l, c => by
    have ih := inB_mb l c
    have hg := Lib.indexByte_ge l c
    have e : ((b.toNat : Int) == (c.toNat : Int)) = (b == c) := by
      rw [Bool.eq_iff_iff, beq_iff_eq, beq_iff_eq]
      constructor
      · intro h; exact UInt8.toNat_inj.1 (by omega)
      · intro h; rw [h]
    unfold mb inB at *
    rw [List.any_cons, e]
    unfold Lib.indexByte
    cases hb : b == c
    · rw [← ih]
      simp only [Bool.false_or]
      by_cases h1 : Lib.indexByte l c = -1
      · rw [h1]; rfl
      · have h2 : (Lib.indexByte l c == -1) = false := beq_eq_false_iff_ne.2 h1
        rw [h2, Bool.eq_iff_iff]
        simp
        omega
    · rfl
theorem conv_one (w : World) (c : UInt8) :
    (convert 25 9 (.slice (some ⟨w.heap.size, 0, none⟩) 1 1)).run Try.prog (w.alloc (.cells #[.int .u8 (c.toNat : Int)] 5)) =
      .ok (.string ⟨#[c]⟩) (w.alloc (.cells #[.int .u8 (c.toNat : Int)] 5)) := by
  refine run_convert_bytes_back _ _ _ 5 ⟨w.heap.size, 0, none⟩ 1 [c] Try.underlying25 Try.underlying5 Try.underlying9 ?_
  intro j hj
  have : j = 0 := by simp at hj; omega
  subst this
  have h := whole_cell (heap_alloc_new w (.cells #[.int .u8 (c.toNat : Int)] 5 (0, 0))) 0
  simp [Addr.add, h]
theorem take_by {r : List UInt8} {i : Nat} {O : ByteArray} (hO : O = ⟨(r.take i).toArray⟩) (h : i < r.length) : O ++ ⟨#[r[i]]⟩ = ⟨(r.take (i + 1)).toArray⟩ := by
  have e : (⟨#[r[i]]⟩ : ByteArray) = ⟨[r[i]].toArray⟩ := rfl
  rw [e, hO, bs_app, List.take_succ_eq_append_getElem h]

set_option maxHeartbeats 3200000 in
theorem run_d (s : ByteArray) (k : Nat) (e : Int) (of : ByteArray) (w : World) (hk : k ≤ s.size) (hs : s.size ≤ 1000) (hof : of.size ≤ 1000) :
    Calls Try.prog 34 #[dm s k e, .string of] w fun x w' =>
      x = .returned (.tuple #[.string ⟨((rs s.data.toList k e).take (tw (inB of.data.toList) (rs s.data.toList k e))).toArray⟩, dm s (k + tw (inB of.data.toList) (rs s.data.toList k e)) e]) ∧ Below w.heap.size w w' := by
  have hsl : s.data.toList.length = s.size := by simp
  have hofl : of.data.toList.length = of.size := by simp
  have hle := rs_le s.data.toList k e
  have hrl : (rs s.data.toList k e).length ≤ 1000 := by omega
  have HC := rest_on s k e hk hs
  have hkr : k + (rs s.data.toList k e).length ≤ s.size := by omega
  generalize rs s.data.toList k e = r at *
  obtain ⟨N, hN⟩ : ∃ N, N = tw (inB of.data.toList) r := ⟨_, rfl⟩
  rw [← hN]
  have HN : RowKit.Hid (N = 0 + tw (inB of.data.toList) (r.drop 0)) := by rw [Nat.zero_add, List.drop_zero]; exact hN
  have HCH := Lib.hid HC
  have HOF := Lib.hid hofl
  clear hN HC hsl hle hofl
  go_enter Try.func34, Try.ntmps34
  go_upto_region 1 with fail
  obtain ⟨hp0, hq0⟩ := two w s k e
  have hb0 := below_two w (.cells #[.string s, .int .i64 (k : Int), .int .i64 e] Td) (.cells #[.string ⟨#[]⟩, .int .i64 0, .int .i64 0] Td)
  generalize hW0 : World.alloc (World.alloc w _) _ = W0 at hp0 hq0 hb0 ⊢
  clear hW0
  obtain ⟨q, hq⟩ : ∃ q, q = w.heap.size + 1 := ⟨_, rfl⟩
  obtain ⟨p, hp⟩ : ∃ p, p = w.heap.size := ⟨_, rfl⟩
  rw [← hq] at hq0 ⊢
  rw [← hp] at hp0 ⊢
  have HPW : RowKit.Hid (w.heap.size ≤ p) := by rw [hp]; exact Nat.le_refl _
  have HQW : RowKit.Hid (w.heap.size ≤ q) := by rw [hq]; exact Nat.le_succ _
  have hpq : p ≠ q := by omega
  have HPQ := Lib.hid hpq
  have P0 := Lib.hid hp0; have Q0 := Lib.hid hq0; have B0 := Lib.hid hb0
  clear hp0 hq0 hb0 hq hp hpq
  go_wp2_with fail
  go_loopg [6, 7, 8, 9] r.length (fun G o _ _ _ wr => ∃ (i j : Nat) (O : ByteArray), o = .string O ∧ i ≤ r.length ∧ G = r.length - i ∧ Hid (j = k + i) ∧ Hid (O = ⟨(r.take i).toArray⟩) ∧ Hid (N = i + tw (inB of.data.toList) (r.drop i)) ∧ Hid (Dk wr p s j e) ∧ Hid (Dk wr q ⟨#[]⟩ 0 0) ∧ Hid (Below w.heap.size w wr))
  case atStart => exact ⟨0, k, _, rfl, Nat.zero_le _, rfl, rfl, rfl, HN, P0, Q0, B0⟩
  case round =>
    obtain ⟨i, j, O, rfl, hi, rfl, HJ, HO, HNi, P1, Q1, B1⟩ := hrel
    have hjs : j ≤ s.size := by have := HJ.out; omega
    obtain ⟨R, hR⟩ : ∃ R : ByteArray, R = ⟨(r.drop i).toArray⟩ := ⟨_, rfl⟩
    have hRs : R.size = r.length - i := by rw [hR]; exact drop_size r i
    have HC1 := HCH.out i hi j HJ.out
    rw [← hR] at HC1
    have HR := Lib.hid hR
    have HCi := Lib.hid HC1
    have hOs : O.size ≤ 1000 := by rw [HO.out, Lib.size_mk]; simp; omega
    clear hR HC1
    by_cases hlt : i < r.length
    · have h0 : 0 < R.size := by omega
      have hpos : ((R.size : Int) > 0) := by omega
      have hR2 : R.size ≤ 1000 := by omega
      have hh := drop_head HR.out hlt h0
      have hst := tw_step (p := inB of.data.toList) hlt
      have HST := Lib.hid hst
      have HH := Lib.hid hh
      clear hh hRs hst
      have p0 := P1.out.c0; have p1 := P1.out.c1; have p2 := P1.out.c2
      have q0 := Q1.out.c0; have q1 := Q1.out.c1; have q2 := Q1.out.c2
      have f0 := Q1.out.free 0; have f1 := Q1.out.free 1; have f2 := Q1.out.free 2
      have fp1 := P1.out.free 1; have fp2 := P1.out.free 2
      go_wp2_with fail
      clear p0 p1 p2 q0 q1 q2 f0 f1 f2 fp1 fp2
      refine (HCi.out wr).mono ?_
      rintro x W2 ⟨rfl, hb⟩
      have P2 := Lib.hid (P1.out.below hb P1.out.lt)
      have Q2 := Lib.hid (Q1.out.below hb Q1.out.lt)
      have B2 := Lib.hid (B1.out.trans (hb.mono B1.out.size))
      clear hb P1 Q1 B1
      have p0 := P2.out.c0; have p1 := P2.out.c1; have p2 := P2.out.c2
      have q0 := Q2.out.c0; have q1 := Q2.out.c1; have q2 := Q2.out.c2
      have f0 := Q2.out.free 0; have f1 := Q2.out.free 1; have f2 := Q2.out.free 2
      have fp1 := P2.out.free 1; have fp2 := P2.out.free 2
      go_wp2_with fail
      clear p0 p1 p2 q0 q1 q2 f0 f1 f2 fp1 fp2
      refine (HCi.out W2).mono ?_
      rintro x W3 ⟨rfl, hb⟩
      have P3 := Lib.hid (P2.out.below hb P2.out.lt)
      have Q3 := Lib.hid (Q2.out.below hb Q2.out.lt)
      have B3 := Lib.hid (B2.out.trans (hb.mono B2.out.size))
      clear hb P2 Q2 B2
      obtain ⟨b, hb⟩ : ∃ b, b = R[0] := ⟨_, rfl⟩
      have HB := Lib.hid hb
      go_wp2_with fail
      rw [← hb]
      clear hb
      go_loop [8, 9] (fun y z => ∃ m : Nat, m ≤ of.size ∧ z = .int .i64 m ∧ y = .bool (mb (of.data.toList.take m) b)) (fun _ z => of.size - (intOf z).toNat)
      case atStart => exact ⟨0, Nat.zero_le _, rfl, rfl⟩
      case round =>
        obtain ⟨m, hm, rfl, rfl⟩ := hrel
        by_cases hmt : m < of.size
        · have hsn : mb (of.data.toList.take (m + 1)) b = (mb (of.data.toList.take m) b || ((of[m].toNat : Int) == (b.toNat : Int))) := by
            rw [take_snoc of m hmt, mb_snoc]
          have HSN := Lib.hid hsn
          clear hsn
          cases hy : mb (of.data.toList.take m) b
          · rw [hy] at HSN
            have HSN2 : RowKit.Hid (mb (of.data.toList.take (m + 1)) b = ((of[m].toNat : Int) == (b.toNat : Int))) := by have := HSN.out; rw [Bool.false_or] at this; exact this
            clear hy HSN
            go_wp2
            go_round
            case rel => exact ⟨m + 1, by omega, by go_num, by rw [HSN2.out]⟩
            case measure => simp [intOf]; omega
          · rw [hy] at HSN
            have HSN2 : RowKit.Hid (mb (of.data.toList.take (m + 1)) b = true) := by have := HSN.out; rw [Bool.true_or] at this; exact this
            clear hy HSN
            go_wp2
            go_round
            case rel => exact ⟨m + 1, by omega, by go_num, by rw [HSN2.out]⟩
            case measure => simp [intOf]; omega
        · have hmo : of.data.toList.take m = of.data.toList := List.take_of_length_le (by rw [HOF.out]; omega)
          rw [hmo, ← inB_mb]
          clear hmo
          cases hp : inB of.data.toList b
          · have HNi : RowKit.Hid (N = i) := by
              have h1 := HNi.out
              rw [HST.out, ← HH.out, ← HB.out, hp] at h1; exact h1
            clear hp
            have p0 := P3.out.c0; have p1 := P3.out.c1; have p2 := P3.out.c2
            have q0 := Q3.out.c0; have q1 := Q3.out.c1; have q2 := Q3.out.c2
            have f0 := Q3.out.free 0; have f1 := Q3.out.free 1; have f2 := Q3.out.free 2
            have fp1 := P3.out.free 1; have fp2 := P3.out.free 2
            go_wp2
            go_region
            go_wp2
            refine bodyPost_ret (v := .tuple #[.string O, dm s j e]) (by simp [results, Try.results34, go_sem, q0, q1, q2]) rfl ⟨?_, (below_put B3.out HQW.out _ _ _).drew⟩
            have hn : N = i := HNi.out
            subst hn
            rw [HO.out, HJ.out]
          · have HN2 : RowKit.Hid (N = (i + 1) + tw (inB of.data.toList) (r.drop (i + 1))) := by
              have h1 := HNi.out
              rw [HST.out, ← HH.out, ← HB.out, hp] at h1; simp at h1; show N = _; omega
            have HBr : RowKit.Hid (b = r[i]) := by show b = _; rw [HB.out, HH.out]
            clear hp
            have hc1 := conv_one W3 b
            have hj1 : j + 1 ≤ s.size := by have := HJ.out; omega
            have P4 := Lib.hid (P3.out.below ((Below.refl W3.heap.size W3).alloc (Nat.le_refl _) (.cells #[.int .u8 (b.toNat : Int)] 5)) P3.out.lt)
            have Q4 := Lib.hid (Q3.out.below ((Below.refl W3.heap.size W3).alloc (Nat.le_refl _) (.cells #[.int .u8 (b.toNat : Int)] 5)) Q3.out.lt)
            have B4 := Lib.hid (B3.out.alloc B3.out.size (.cells #[.int .u8 (b.toNat : Int)] 5))
            have hOb := take_by HO.out hlt
            rw [← HBr.out] at hOb
            have HOB := Lib.hid hOb
            clear hOb
            go_upto_region 12 with fail
            clear hc1
            generalize World.alloc W3 _ = W4 at P4 Q4 B4 ⊢
            have p0 := P4.out.c0; have p1 := P4.out.c1; have p2 := P4.out.c2
            have q0 := Q4.out.c0; have q1 := Q4.out.c1; have q2 := Q4.out.c2
            have f0 := Q4.out.free 0; have f1 := Q4.out.free 1; have f2 := Q4.out.free 2
            have fp1 := P4.out.free 1; have fp2 := P4.out.free 2
            go_wp2
            go_roundg (r.length - (i + 1))
            case rel => exact ⟨i + 1, j + 1, O ++ ⟨#[b]⟩, by simp, by omega, rfl, by have := HJ.out; show j + 1 = _; omega, HOB, HN2, P4.out.set1 (j + 1) (by omega), Q4.out.far HPQ.out 1 _, below_set1 B4.out HPW.out 1 _⟩
            case measure => omega
    · have hin : i = r.length := by omega
      have hR0 : R.size = 0 := by omega
      have HNi : RowKit.Hid (N = i) := by have := HNi.out; rw [tw_end (by omega)] at this; exact this
      have hRe : R = ⟨#[]⟩ := by
        have := HR.out
        rw [this, List.drop_eq_nil_of_le (by omega)]
      subst hRe
      clear hRs hR0 hin
      have p0 := P1.out.c0; have p1 := P1.out.c1; have p2 := P1.out.c2
      have q0 := Q1.out.c0; have q1 := Q1.out.c1; have q2 := Q1.out.c2
      have f0 := Q1.out.free 0; have f1 := Q1.out.free 1; have f2 := Q1.out.free 2
      have fp1 := P1.out.free 1; have fp2 := P1.out.free 2
      go_wp2_with fail
      clear p0 p1 p2 q0 q1 q2 f0 f1 f2 fp1 fp2
      refine (HCi.out wr).mono ?_
      rintro x W2 ⟨rfl, hb⟩
      have P2 := Lib.hid (P1.out.below hb P1.out.lt)
      have Q2 := Lib.hid (Q1.out.below hb Q1.out.lt)
      have B2 := Lib.hid (B1.out.trans (hb.mono B1.out.size))
      clear hb P1 Q1 B1
      have p0 := P2.out.c0; have p1 := P2.out.c1; have p2 := P2.out.c2
      have q0 := Q2.out.c0; have q1 := Q2.out.c1; have q2 := Q2.out.c2
      have f0 := Q2.out.free 0; have f1 := Q2.out.free 1; have f2 := Q2.out.free 2
      have fp1 := P2.out.free 1; have fp2 := P2.out.free 2
      go_wp2
      go_region
      go_wp2
      refine bodyPost_ret (v := .tuple #[.string O, dm s j e]) (by simp [results, Try.results34, go_sem, q0, q1, q2]) rfl ⟨?_, (below_put B2.out HQW.out _ _ _).drew⟩
      have hn : N = i := HNi.out
      subst hn
      rw [HO.out, HJ.out]
end Go.Proofs.Ytelogbkhplegaaa
