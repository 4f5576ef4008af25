/- Merged: ListAW. -/
import Derived.Test.YtiamggjebaabkaaGreatDoorGListPuts40
import Derived.Test.YtiamggjebaabkaaGreatDoorGListPuts28
import Derived.Test.YtiamggjebaabkaaGreatDoorGListPuts11
import Derived.Test.YtiamggjebaabkaaGreatDoorGListPuts36
import Derived.Test.YtiamggjebaabkaaGreatDoorGListPuts43
import Derived.Test.YtiamggjebaabkaaGreatDoorGListPuts8
import Derived.Deep.RegionHeld3
namespace Go.Proofs.YtiamggjebaabkaaGreatDoor
open Go.RowKit
set_option linter.unusedVariables false
set_option linter.unusedSimpArgs false

/-- All that W0 has lies in W as it lay. -/
structure Kq9 (W0 W : World) : Prop where
  bel : Below W0.heap.size W0 W
theorem Kq9.step {W0 W W' : World} (h : Kq9 W0 W) (hb : Below W.heap.size W W') : Kq9 W0 W' := ⟨h.bel.trans (hb.mono h.bel.size)⟩
theorem raw_pt (n : Int) (w : World) (h : 0 ≤ n) (h2 : n ≤ 9223372036854775807) : Calls Tryz.prog 46 #[.int .i64 n, .int .i64 0] w fun e w' => e = .returned (.string ⟨(ptL n 0).toArray⟩) ∧ Below w.heap.size w w' := by
  obtain ⟨k, rfl⟩ : ∃ k : Nat, n = k := ⟨n.toNat, by omega⟩
  have := raw_any k 0 w (by omega) (by omega)
  rw [pt_dec h, Int.natAbs_natCast]
  simpa [pad] using this
theorem rof1900 (w : World) : Calls Tryz.prog 47 #[.int .i64 1900, .int .i64 1, .int .i64 1] w fun e w' => e = .returned (.int .i64 (-25567)) ∧ Below w.heap.size w w' := by
  have h := rof_any 1900 1 1 w (by unfold isy; omega) (by decide) (by decide) (by decide) (by decide)
  rw [show st 1900 + em 1900 (1 - 1) + 1 - 1 = -25567 by decide] at h
  exact h
theorem adds11 (x y : List UInt8) (hx : x.length ≤ 100000) (hy : y.length ≤ 100000) (W : World) : (Op.stringOp .add ⟨x.toArray⟩ ⟨y.toArray⟩).run Tryz.prog W = .ok (.string ⟨(x ++ y).toArray⟩) W := run_string_add_lists (P := Tryz.prog) (w := W) x y (by omega) (by omega)
/-- What a round adds. -/
theorem dg_next (u e : Int) (L : List Rw) {j : Nat} (hj : j < L.length) : (ptL u 0 ++ ptL e 0 ++ dgR (L.take j)) ++ (ptL (sc11 (rd L j)) 0 ++ ptL (ro L j) 0) = ptL u 0 ++ ptL e 0 ++ dgR (L.take (j + 1)) := by
  rw [dgR_at L hj]; simp

set_option maxRecDepth 100000 in
set_option maxHeartbeats 4000000 in
theorem rdigest11_any (A : Option Addr) (c : Nat) (L : List Rw) (u e : Int) (w : World) (hr : Rp w.heap.size w A L) (hk : lkE L u e = 0) :
    Calls Tryz.prog 23 #[.agg #[.slice A L.length c, .int .i64 u, .int .i64 e]] w fun x w' => x = .returned (.agg (stv (dig (dgT L u e)))) ∧ Below w.heap.size w w' := by
  obtain ⟨v, ⟨hu1, hu2⟩, he1, he2⟩ := lkE_zero hk
  have hR := rows11_of hk
  have few := v.few
  obtain ⟨Wa, hWa, hba, hsa, c0, c1, c2⟩ := dbox w A L.length c u e
  obtain ⟨W0, hW0⟩ : ∃ W0, W0 = Wa.alloc (.cells #[.int .u32 0, .int .u32 0, .int .u32 0, .int .u32 0, .int .u32 0] 36) := ⟨_, rfl⟩
  have b1 : Below Wa.heap.size Wa W0 := by rw [hW0]; exact (Below.refl _ Wa).alloc (Nat.le_refl _) _
  have z0 : Sb W0 (w.heap.size + 1) zs5 := by rw [← hsa, hW0]; exact heap_alloc_new Wa _
  have s0 : W0.heap.size = w.heap.size + 1 + 1 := by rw [hW0]; simp [hsa]
  have b0 : Below w.heap.size w W0 := hba.trans (b1.mono hba.size)
  have HC : Hid (∀ W, Below W0.heap.size W0 W → W.cell? ⟨w.heap.size, 0, none⟩ = some (.slice A L.length c) ∧ W.cell? ⟨w.heap.size, 1, none⟩ = some (.int .i64 u) ∧ W.cell? ⟨w.heap.size, 2, none⟩ = some (.int .i64 e)) := Lib.hid fun W hq => by
    have hh := b1.trans (hq.mono b1.size)
    exact ⟨(hh.cell (p := ⟨w.heap.size, 0, none⟩) (show w.heap.size < Wa.heap.size by omega)).trans c0, (hh.cell (p := ⟨w.heap.size, 1, none⟩) (show w.heap.size < Wa.heap.size by omega)).trans c1, (hh.cell (p := ⟨w.heap.size, 2, none⟩) (show w.heap.size < Wa.heap.size by omega)).trans c2⟩
  have HRp : Hid (∀ W, Below W0.heap.size W0 W → Rp W.heap.size W A L) := Lib.hid fun W hq => (hr.keep (b0.trans (hq.mono b0.size))).mono (Nat.le_trans b0.size hq.size)
  have Z0 := Lib.hid z0; have B0 := Lib.hid b0
  have HU := Lib.hid (fun W => raw_pt u W hu1 (by omega))
  have HE := Lib.hid (fun W => raw_pt e W he1 (by omega))
  have hl := hR.hl
  have hd0 : dgT L u e = ptL u 0 ++ ptL e 0 ++ dgR L := rfl
  have hle := fun j => dgT_le L u e j
  have hpu : (ptL u 0).length ≤ 10000 ∧ (ptL e 0).length ≤ 10000 := by rw [hd0] at hl; simp only [List.length_append] at hl; omega
  have A1 := fun W => adds11 (ptL u 0) (ptL e 0) (by omega) (by omega) W
  have HLen : Hid (∀ j, (ptL u 0 ++ ptL e 0 ++ dgR (L.take j)).length ≤ 10000) := Lib.hid (fun j => Nat.le_trans (dgT_le L u e j) hl)
  have HN : Hid (∀ j, j < L.length → dgR (L.take (j + 1)) = dgR (L.take j) ++ (ptL (sc11 (rd L j)) 0 ++ ptL (ro L j) 0)) := Lib.hid (fun j hj => dgR_at L hj)
  have HV : Hid (∀ j, j < L.length → (-25567 ≤ rd L j ∧ rd L j ≤ 2932896) ∧ 0 ≤ ro L j ∧ ro L j ≤ 1000) := Lib.hid (fun j hj => ⟨v.day j hj, v.off j hj⟩)
  have HNX : Hid (∀ j, j < L.length → (ptL u 0 ++ ptL e 0 ++ dgR (L.take j)) ++ (ptL (sc11 (rd L j)) 0 ++ ptL (ro L j) 0) = ptL u 0 ++ ptL e 0 ++ dgR (L.take (j + 1))) := Lib.hid (fun j hj => dg_next u e L hj)
  obtain ⟨X0, hX0⟩ : ∃ X0 : ByteArray, X0 = ⟨(ptL u 0 ++ ptL e 0).toArray⟩ := ⟨_, rfl⟩
  rw [← hX0] at A1
  obtain ⟨XU, hXU⟩ : ∃ XU : ByteArray, XU = ⟨(ptL u 0).toArray⟩ := ⟨_, rfl⟩
  obtain ⟨XE, hXE⟩ : ∃ XE : ByteArray, XE = ⟨(ptL e 0).toArray⟩ := ⟨_, rfl⟩
  rw [← hXU] at HU A1
  rw [← hXE] at HE A1
  have HX0 := Lib.hid hX0
  have HSS := Lib.hid s0
  have HFe := Lib.hid few
  obtain ⟨N, hN⟩ : ∃ N, L.length = N := ⟨_, rfl⟩
  have HNN := Lib.hid hN
  rw [hN] at hWa HC ⊢
  rw [hWa] at hW0
  clear hr hk v hu1 hu2 he1 he2 hR few hWa hba hsa c0 c1 c2 b1 z0 s0 b0 hl hd0 hle hpu hX0 hXU hXE hN
  have HS9 : Hid (∀ W, Kq9 W0 W → (W.cell? ⟨w.heap.size, 0, none⟩ = some (.slice A N c) ∧ W.cell? ⟨w.heap.size, 1, none⟩ = some (.int .i64 u) ∧ W.cell? ⟨w.heap.size, 2, none⟩ = some (.int .i64 e)) ∧ Kq9 W0 W) := Lib.hid fun W hk => ⟨HC.out W hk.bel, hk⟩
  have hKD : Kq9 W0 W0.drew := ⟨(Below.refl _ W0).drew⟩
  obtain ⟨c0, c1, c2⟩ := HC.out W0 (Below.refl _ _)
  go_enter Tryz.func23, Tryz.ntmps23
  go_upto_region 1 with fail
  rw [← hW0]; clear hW0
  go_region_held3 (fun W => (W.cell? ⟨w.heap.size, 0, none⟩ = some (.slice A N c) ∧ W.cell? ⟨w.heap.size, 1, none⟩ = some (.int .i64 u) ∧ W.cell? ⟨w.heap.size, 2, none⟩ = some (.int .i64 e)) ∧ Kq9 W0 W)
    (exact HS9.out _ (by assumption))
    (first
      | (go_at_call 46; go_split_ands; (with_reducible refine (HU.out _).mono ?_); rintro er wr9 ⟨rfl, hq⟩; have hkr : Kq9 W0 wr9 := Kq9.step (by assumption) hq; clear hq)
      | (go_at_call 46; go_split_ands; (with_reducible refine (HE.out _).mono ?_); rintro er wr9 ⟨rfl, hq⟩; have hkr : Kq9 W0 wr9 := Kq9.step (by assumption) hq; clear hq))
  have Q1 : Hid (Below W0.heap.size W0 _) := Lib.hid (Kq9.bel (W0 := W0) (by assumption))
  clear hKD HS9 c0 c1 c2
  go_wp2_with fail
  go_loopg [3, 4] N (fun gg s3 s4 wr => ∃ j : Nat, j ≤ N ∧ N - j ≤ gg ∧ s3 = .string ⟨(ptL u 0 ++ ptL e 0 ++ dgR (L.take j)).toArray⟩ ∧ s4 = .int .i64 j ∧ Hid (Below W0.heap.size W0 wr))
  case atStart => exact ⟨0, Nat.zero_le _, by omega, by rw [HX0.out]; simp [dgR], rfl, Q1⟩
  case round =>
    clear Q1
    obtain ⟨j, hj, hgg, rfl, rfl, Q3⟩ := hrel
    obtain ⟨k0, k1, k2⟩ := HC.out _ Q3.out
    by_cases hlt : j < N
    · have hltz : (j : Int) < (N : Int) := by omega
      have hN4 : N ≤ 256 := by have := HFe.out; have := HNN.out; omega
      have hjL : j < L.length := by have := HNN.out; omega
      obtain ⟨bA, oA, hA, -, hbA, hcA⟩ := (HRp.out _ Q3.out).pos (by omega)
      subst hA
      obtain ⟨r0, r1⟩ := hcA j hjL
      obtain ⟨⟨v1, v2⟩, v3, v4⟩ := HV.out j hjL
      have HD1 := Lib.hid (fun W => raw_pt (sc11 (rd L j)) W (by unfold sc11; omega) (by unfold sc11; omega))
      have HO1 := Lib.hid (fun W => raw_pt (ro L j) W (by omega) (by omega))
      have hlen := HLen.out j; have hlen2 := HLen.out (j + 1)
      have hn := HN.out j hjL
      have hlx : (ptL (sc11 (rd L j)) 0).length ≤ 10000 ∧ (ptL (ro L j) 0).length ≤ 10000 := by
        rw [hn] at hlen2; simp only [List.length_append] at hlen2; omega
      have A2 := fun W => adds11 (ptL (sc11 (rd L j)) 0) (ptL (ro L j) 0) (by omega) (by omega) W
      have A3 := fun W => adds11 (ptL u 0 ++ ptL e 0 ++ dgR (L.take j)) (ptL (sc11 (rd L j)) 0 ++ ptL (ro L j) 0) (by omega) (by rw [List.length_append]; omega) W
      rw [HNX.out j hjL] at A3
      have w1 : IntKind.i64.wrap (rd L j - -25567) = rd L j + 25567 := by rw [show rd L j - -25567 = rd L j + 25567 by omega]; exact IntWalk.i64_in _ (by omega)
      have w1b : IntKind.i64.wrap (rd L j + 25567) = rd L j + 25567 := IntWalk.i64_in _ (by omega)
      have w2 : IntKind.i64.wrap ((rd L j + 25567) * 86400) = sc11 (rd L j) := IntWalk.i64_in _ (by omega)
      have hje : Hid (j + 1 ≤ N) := Lib.hid hlt
      obtain ⟨XD, hXD⟩ : ∃ XD : ByteArray, XD = ⟨(ptL (sc11 (rd L j)) 0).toArray⟩ := ⟨_, rfl⟩
      obtain ⟨XO, hXO⟩ : ∃ XO : ByteArray, XO = ⟨(ptL (ro L j) 0).toArray⟩ := ⟨_, rfl⟩
      obtain ⟨XS, hXS⟩ : ∃ XS : ByteArray, XS = ⟨(ptL (sc11 (rd L j)) 0 ++ ptL (ro L j) 0).toArray⟩ := ⟨_, rfl⟩
      obtain ⟨XT, hXT⟩ : ∃ XT : ByteArray, XT = ⟨(ptL u 0 ++ ptL e 0 ++ dgR (L.take j)).toArray⟩ := ⟨_, rfl⟩
      obtain ⟨XN, hXN⟩ : ∃ XN : ByteArray, XN = ⟨(ptL u 0 ++ ptL e 0 ++ dgR (L.take (j + 1))).toArray⟩ := ⟨_, rfl⟩
      rw [← hXD] at HD1 A2
      rw [← hXO] at HO1 A2
      rw [← hXS] at A2 A3
      rw [← hXT, ← hXN] at A3
      rw [← hXT]
      have HXN := Lib.hid hXN
      clear hlen hlen2 hn hlx hXD hXO hXS hXT hXN
      generalize sc11 (rd L j) = sj at *
      obtain ⟨dj, hdj⟩ : ∃ dj, dj = rd L j := ⟨_, rfl⟩
      obtain ⟨oj, hoj⟩ : ∃ oj, oj = ro L j := ⟨_, rfl⟩
      rw [← hdj] at r0 v1 v2 w1 w1b w2
      rw [← hoj] at r1 v3 v4 HO1
      clear hdj hoj
      have HS9 : Hid (∀ W, Kq9 wr W → (W.cell? ⟨w.heap.size, 0, none⟩ = some (.slice (some ⟨bA, oA, none⟩) N c) ∧ W.cell? ⟨bA, oA + j * 2, none⟩ = some (.int .i64 dj) ∧ W.cell? ⟨bA, oA + j * 2 + 1, none⟩ = some (.int .i64 oj)) ∧ Kq9 wr W) := Lib.hid fun W hk => ⟨⟨(HC.out W (Q3.out.trans (hk.bel.mono Q3.out.size))).1, (hk.bel.cell (p := ⟨bA, _, none⟩) hbA).trans r0, (hk.bel.cell (p := ⟨bA, _, none⟩) hbA).trans r1⟩, hk⟩
      have hKD : Kq9 wr wr.drew := ⟨(Below.refl _ wr).drew⟩
      clear k1 k2 hcA hbA
      go_upto_region 5 with fail
      go_region_held3 (fun W => (W.cell? ⟨w.heap.size, 0, none⟩ = some (.slice (some ⟨bA, oA, none⟩) N c) ∧ W.cell? ⟨bA, oA + j * 2, none⟩ = some (.int .i64 dj) ∧ W.cell? ⟨bA, oA + j * 2 + 1, none⟩ = some (.int .i64 oj)) ∧ Kq9 wr W)
        (exact HS9.out _ (by assumption))
        (first
          | (go_at_call 47; go_split_ands; refine (rof1900 _).mono ?_; rintro eo wo9 ⟨rfl, hq⟩; have hko : Kq9 wr wo9 := Kq9.step (by assumption) hq; clear hq)
          | (go_at_call 46; go_split_ands; (with_reducible refine (HD1.out _).mono ?_); rintro er wr9 ⟨rfl, hq⟩; have hkr : Kq9 wr wr9 := Kq9.step (by assumption) hq; clear hq)
          | (go_at_call 46; go_split_ands; (with_reducible refine (HO1.out _).mono ?_); rintro er wr9 ⟨rfl, hq⟩; have hkr : Kq9 wr wr9 := Kq9.step (by assumption) hq; clear hq))

      have Q5 := Lib.hid (Q3.out.trans ((Kq9.bel (W0 := wr) (by assumption)).mono Q3.out.size))
      clear hKD HS9 r0 r1 k0
      go_wp2_with fail
      go_roundg (N - (j + 1))
      case measure => omega
      case rel => exact ⟨j + 1, hje.out, by omega, by rw [HXN.out], by go_num, Q5⟩
    · have hltz : ¬ (j : Int) < (N : Int) := by omega
      have hjn : L.take j = L := by rw [List.take_of_length_le]; have := HNN.out; omega
      rw [hjn]
      obtain ⟨T, hT⟩ : ∃ T, T = ptL u 0 ++ ptL e 0 ++ dgR L := ⟨_, rfl⟩
      have hTl : T.length ≤ 10000 := by rw [hT, ← hjn]; exact HLen.out j
      rw [← hT]
      obtain ⟨c9, W9, hstr, r1, r2, r3, r4, r5⟩ := of_string wr ⟨T.toArray⟩ (by simp [ByteArray.size]; omega)
      rw [show (⟨T.toArray⟩ : ByteArray).size = T.length by simp [ByteArray.size]] at hstr
      have HW := Lib.hid (rwords_any (some ⟨wr.heap.size, 0, none⟩) T c9 W9 (by simpa using r1) (fun h => by cases h) (by omega))
      have HT := Lib.hid hT
      have Q9 := Lib.hid (Q3.out.trans (r4.mono Q3.out.size))
      clear r1 r2 r3 r4 r5 hTl hT hjn k1 k2
      generalize T.length = tl at *
      go_wp2_with fail
      refine HW.out.mono ?_
      rintro e1 w3 ⟨rfl, hb⟩
      have Q10 := Lib.hid (Q9.out.trans (hb.mono Q9.out.size))
      have Z9 := Lib.hid (Z0.out.keep Q10.out)
      clear hb
      obtain ⟨s, hs⟩ : ∃ s, s = dig T := ⟨_, rfl⟩
      rw [← hs]
      have HSd := Lib.hid hs
      clear hs
      obtain ⟨d0, d1, d2, d3, d4⟩ := Z9.out.all
      obtain ⟨f0, f1, f2, f3, f4⟩ := Z9.out.frees
      have HP := Lib.hid (put5_sb Z9.out s)
      have HB := Lib.hid (put5_below (B0.out.trans (Q10.out.mono B0.out.size)) (Nat.le_succ w.heap.size) s)
      unfold stv
      go_wp2_with fail
      show bodyPost _ _ _ _ _ (put5 w3 (w.heap.size + 1) s)
      obtain ⟨r0, r1, r2, r3, r4⟩ := HP.out.all
      have hB := HB.out
      generalize put5 w3 (w.heap.size + 1) s = W8 at *
      refine bodyPost_ret (v := .agg (stv s)) (by simp [results, Tryz.results23, go_sem, r0, r1, r2, r3, r4, stv]) rfl ⟨by rw [HSd.out, HT.out]; rfl, hB⟩

end Go.Proofs.YtiamggjebaabkaaGreatDoor
