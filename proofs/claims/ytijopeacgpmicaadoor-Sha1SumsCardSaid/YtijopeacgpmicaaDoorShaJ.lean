/- The document's answer for digests: Words. -/
import Derived.Test.YtijopeacgpmicaaDoorShaI
import Derived.Test.YtijopeacgpmicaaDoorShaU
import Derived.Test.YtijopeacgpmicaaDoorShaY
namespace Go.Proofs.YtijopeacgpmicaaDoor
open Go.RowKit Go.WideShapes Go.ChangeShapes
set_option linter.unusedVariables false

theorem ssize : (Tryd.prog.info? 28).map (·.size) = some 5 := by kernel_rfl
theorem stv_all (s : St) : (stv s).all (·.oneCell') = true := by simp [stv, Value.oneCell']
theorem bel_setcell {w W : World} {B g i : Nat} {v : Value} (h : Below B w W) (hg : B ≤ g) : Below B w (W.setCell ⟨g, i, none⟩ v) := h.setCell hg _
set_option maxRecDepth 100000 in
set_option maxHeartbeats 2000000 in
theorem rwords_any (A : Option Addr) (l : List UInt8) (c : Nat) (w : World) (h : Rb w A l) (hA : A = none → c = 0) (hl : l.length ≤ 100000) :
    Calls Tryd.prog 8 #[.slice A l.length c] w fun e w' => e = .returned (.agg (stv (dig l))) ∧ Below w.heap.size w w' := by
  obtain ⟨W0, hW0⟩ : ∃ W0, W0 = w.alloc (.cells #[.int .u32 0, .int .u32 0, .int .u32 0, .int .u32 0, .int .u32 0] 28) := ⟨_, rfl⟩
  have b0 : Below w.heap.size w W0 := by rw [hW0]; exact (Below.refl _ w).alloc (Nat.le_refl _) _
  have z0 : Sb W0 w.heap.size zs5 := by rw [hW0]; exact heap_alloc_new w _
  have HP := Lib.hid (rpad_any A l c W0 (h.below b0) hA hl)
  have B0 := Lib.hid b0; have Z0 := Lib.hid z0
  obtain ⟨R, hR⟩ : ∃ R, R = stv (dig l) := ⟨_, rfl⟩
  rw [← hR]
  have hpl := pad_len l
  obtain ⟨P, hP⟩ : ∃ P, P = padL l := ⟨_, rfl⟩
  rw [← hP] at HP hpl
  have hd : R = stv (runN P (pb l.length)) := by rw [hR, hP]; rfl
  have hK : pb l.length ≤ 2000 := by unfold pb; omega
  generalize pb l.length = K at *
  have HD := Lib.hid hd; have HPL := Lib.hid hpl; have HK := Lib.hid hK
  clear hd hpl hK hP hR b0 z0 h hA hl
  go_enter Tryd.func8, Tryd.ntmps8
  go_upto_region 1 with fail
  rw [← hW0]; clear hW0
  go_wp2_with fail
  refine HP.out.mono ?_
  rintro e w1 ⟨A', c', rfl, hrd, hnil, hle, hb⟩
  have Z1 := Lib.hid (Z0.out.keep hb); have B1 := Lib.hid (B0.out.trans (hb.mono B0.out.size)); have RD := Lib.hid hrd; have NI := Lib.hid hnil; have LE := Lib.hid hle
  have HZ := Lib.hid (show w.heap.size < w1.heap.size from Z1.out.lt)
  clear hrd hnil hle hb HP Z0 B0
  go_upto_region 3 with fail
  have S2 := Lib.hid (show Sb (w1.alloc (.cells #[.int .u32 1732584193, .int .u32 4023233417, .int .u32 2562383102, .int .u32 271733878, .int .u32 3285377520] 28)) w1.heap.size s0 from heap_alloc_new w1 _)
  have B2 := Lib.hid ((Below.refl w1.heap.size w1).alloc (Nat.le_refl _) (.cells #[.int .u32 1732584193, .int .u32 4023233417, .int .u32 2562383102, .int .u32 271733878, .int .u32 3285377520] 28))
  generalize w1.alloc (.cells #[.int .u32 1732584193, .int .u32 4023233417, .int .u32 2562383102, .int .u32 271733878, .int .u32 3285377520] 28) = w2 at *
  go_wp2
  go_loopw [5] (fun i wr => ∃ (n j : Nat), i = .int .i64 j ∧ n ≤ K ∧ Hid (j = 64 * n) ∧ Hid (Sb wr w1.heap.size (runN P n)) ∧ Hid (Below w1.heap.size w1 wr)) (fun i _ => 64 * K - (intOf i).toNat)
  case atStart => exact ⟨0, 0, rfl, Nat.zero_le _, Lib.hid rfl, S2, B2⟩
  case round =>
    clear S2 B2
    obtain ⟨n, j, rfl, hn, HJ, S, B⟩ := hrel
    by_cases hlt : n < K
    · have hj : j + 64 ≤ P.length := by rw [HPL.out, HJ.out]; omega
      have hjl : (j : Int) < (P.length : Int) := by omega
      have hj2 : j + 64 ≤ 128000 := by have := HK.out; rw [HJ.out]; omega
      obtain ⟨A3, c3, m, hm, hsl, hrd, hnil, hle, -, -⟩ := part_lh (RD.out.below B.out) NI.out LE.out (lo := j) (hi := j + 64) (by omega) hj
      have hml : m.length = 64 := by rw [hm]; simp; omega
      rw [show ((j + 64 : Nat) : Int) = (j : Int) + 64 by omega, hml] at hsl
      have q : IntKind.i64.wrap ((j : Int) + 64) = (j : Int) + 64 := by rw [IntWalk.i64_in _ (by omega)]
      have HM := Lib.hid (show stp (runN P n) m = runN P (n + 1) by rw [hm, Nat.add_sub_cancel_left, HJ.out]; rfl)
      have hst := fun W (hb : Below w1.heap.size w1 W) (hr : Rb W A3 m) => rstep_any (runN P n) A3 m c3 W hr hnil hle hml
      rw [hml] at hst
      have HST := Lib.hid hst
      have HRD := Lib.hid hrd
      have HMU := Lib.hid (show 64 * K - (j + 64) < 64 * K - j by rw [HJ.out]; omega)
      have HJ2 := Lib.hid (show j + 64 = 64 * (n + 1) by rw [HJ.out]; omega)
      clear hj hm hrd hnil hle hst hml
      obtain ⟨c0, c1, c2, c3', c4⟩ := S.out.all
      obtain ⟨s, hs⟩ : ∃ s, s = runN P n := ⟨_, rfl⟩
      obtain ⟨s', hs'⟩ : ∃ s', s' = runN P (n + 1) := ⟨_, rfl⟩
      rw [← hs] at S HM HST c0 c1 c2 c3' c4
      rw [← hs'] at HM
      have HS' := Lib.hid hs'
      clear hs hs'
      go_upto_region 6 with fail
      refine wp_region_still_tail 6 (by kernel_rfl) (by kernel_rfl) ?_
      simp only [List.take_succ_cons, List.take_zero, List.drop_succ_cons, List.drop_zero]
      show wpStill _ _ wr.drew (fun a' => wpList _ _ _ _ a' wr.drew) _ _
      obtain ⟨w3, hw3⟩ : ∃ w3, w3 = wr.drew := ⟨_, rfl⟩
      have d0 : w3.cell? ⟨w1.heap.size, 0, none⟩ = some (.int .u32 (u s.a)) := by rw [hw3]; exact c0
      have d1 : w3.cell? ⟨w1.heap.size, 1, none⟩ = some (.int .u32 (u s.b)) := by rw [hw3]; exact c1
      have d2 : w3.cell? ⟨w1.heap.size, 2, none⟩ = some (.int .u32 (u s.c)) := by rw [hw3]; exact c2
      have d3 : w3.cell? ⟨w1.heap.size, 3, none⟩ = some (.int .u32 (u s.d)) := by rw [hw3]; exact c3'
      have d4 : w3.cell? ⟨w1.heap.size, 4, none⟩ = some (.int .u32 (u s.e)) := by rw [hw3]; exact c4
      have S3 := Lib.hid (show Sb w3 w1.heap.size s by rw [hw3]; exact S.out)
      have B3 := Lib.hid (show Below w1.heap.size w1 w3 by rw [hw3]; exact B.out.drew)
      have H3 := Lib.hid (show Rb w3 A3 m by rw [hw3]; exact HRD.out)
      rw [← hw3]
      clear hw3 c0 c1 c2 c3' c4 S B HRD
      repeat still_step
      refine wpStill_nil ?_
      go_wp2_with (first
        | (go_at_call 18; refine (HST.out w3 B3.out H3.out).mono ?_; rintro e w4 ⟨rfl, hb⟩; rw [HM.out]; have S4 := Lib.hid (S3.out.keep hb); have B4 := Lib.hid (B3.out.trans (hb.mono B3.out.size)); clear hb)
        | (refine wpList_store_row rfl 28 (.tmp 4) (.tmp 21) rfl w1.heap.size (stv s') rfl rfl 28 (stv s) S4.out ssize rfl (stv_all s') ?_))
      have S5 := Lib.hid (show Sb (w4.setRow w1.heap.size (stv s')) w1.heap.size s' from setRow_heap w4 w1.heap.size _ _ _ _ S4.out)
      have B5 := Lib.hid (show Below w1.heap.size w1 (w4.setRow w1.heap.size (stv s')) from below_setRow B4.out (Nat.le_refl _) _)
      generalize w4.setRow w1.heap.size (stv s') = w5 at *
      rw [HS'.out] at S5
      go_wp2_with fail
      exact ⟨⟨n + 1, j + 64, by go_num, by omega, HJ2, S5, B5⟩, by have := HMU.out; simp [intOf]; omega⟩
    · obtain rfl : n = K := by omega
      have hjl : ¬ (j : Int) < (P.length : Int) := by rw [HPL.out, HJ.out]; omega
      obtain ⟨s, hs⟩ : ∃ s, s = runN P n := ⟨_, rfl⟩
      rw [← hs] at S HD
      clear hs HJ hlt hn
      obtain ⟨c0, c1, c2, c3, c4⟩ := S.out.all
      have Z5 := Lib.hid (Z1.out.below B.out HZ.out)
      obtain ⟨d0, d1, d2, d3, d4⟩ := Z5.out.all
      obtain ⟨f0, f1, f2, f3, f4⟩ := Z5.out.frees
      have HP := Lib.hid (put5_sb Z5.out s)
      have HB := Lib.hid (put5_below (B1.out.trans (B.out.mono B1.out.size)) (Nat.le_refl w.heap.size) s)
      go_wp2_with fail
      show bodyPost _ _ _ _ _ (put5 wr w.heap.size s)
      obtain ⟨r0, r1, r2, r3, r4⟩ := HP.out.all
      have hB := HB.out
      generalize put5 wr w.heap.size s = W9 at *
      refine bodyPost_ret (v := .agg (stv s)) (by simp [results, Tryd.results8, go_sem, r0, r1, r2, r3, r4, stv]) rfl ⟨by rw [HD.out], hB⟩

end Go.Proofs.YtijopeacgpmicaaDoor
