/- Merged: ListAX. -/
import Derived.Test.YtiamggjebaabkaaGreatDoorGListPuts47
import Derived.Test.YtiamggjebaabkaaGreatDoorGListPuts34
namespace Go.Proofs.YtiamggjebaabkaaGreatDoor
open Go.RowKit
set_option linter.unusedVariables false
set_option linter.unusedSimpArgs false

theorem pt_next (u e : Int) (L : List Rw) {j : Nat} (hj : j < L.length) : (ptUk u ++ ptEk e ++ ptRk (L.take j)) ++ (ptL (sc11 (rd L j)) 0 ++ [9] ++ ptL (ro L j) 0 ++ [10]) = ptUk u ++ ptEk e ++ ptRk (L.take (j + 1)) := by
  rw [ptRk_at L hj]; simp [ptLk]
theorem ptk_le (L : List Rw) (j : Nat) : (ptRk (L.take j)).length ≤ (ptRk L).length := by
  have h : ptRk L = ptRk (L.take j) ++ ptRk (L.drop j) := by unfold ptRk; rw [← List.flatMap_append, List.take_append_drop]
  rw [h, List.length_append]; omega
/-- The sums of the text's head, and of a row's line. -/
theorem ph_sums (u e : Int) (hu : (ptL u 0).length ≤ 10000) (he : (ptL e 0).length ≤ 10000) : ∃ S1 S2 S3 S4 : ByteArray,
    (∀ W, (Op.stringOp .add ⟨#[35, 36, 9]⟩ ⟨(ptL u 0).toArray⟩).run Tryz.prog W = .ok (.string S1) W) ∧ (∀ W, (Op.stringOp .add S1 ⟨#[10, 35, 64, 9]⟩).run Tryz.prog W = .ok (.string S2) W) ∧
    (∀ W, (Op.stringOp .add S2 ⟨(ptL e 0).toArray⟩).run Tryz.prog W = .ok (.string S3) W) ∧ (∀ W, (Op.stringOp .add S3 ⟨#[10]⟩).run Tryz.prog W = .ok (.string S4) W) ∧ S4 = ⟨(ptUk u ++ ptEk e).toArray⟩ := by
  refine ⟨⟨(([35, 36, 9] : List UInt8) ++ ptL u 0).toArray⟩, ⟨((([35, 36, 9] : List UInt8) ++ ptL u 0) ++ [10, 35, 64, 9]).toArray⟩, ⟨(((([35, 36, 9] : List UInt8) ++ ptL u 0) ++ [10, 35, 64, 9]) ++ ptL e 0).toArray⟩, ⟨((((([35, 36, 9] : List UInt8) ++ ptL u 0) ++ [10, 35, 64, 9]) ++ ptL e 0) ++ [10]).toArray⟩,
    fun W => adds11 [35, 36, 9] _ ?_ ?_ W, fun W => adds11 _ [10, 35, 64, 9] ?_ ?_ W, fun W => adds11 _ _ ?_ ?_ W, fun W => adds11 _ [10] ?_ ?_ W, by simp [ptUk, ptEk]⟩
  all_goals ((try simp only [List.length_append, List.length_cons, List.length_nil]); omega)
theorem pr_sums (M d o : List UInt8) (hM : M.length ≤ 50000) (hd : d.length ≤ 10000) (ho : o.length ≤ 10000) : ∃ S1 S2 S3 S4 : ByteArray,
    (∀ W, (Op.stringOp .add ⟨d.toArray⟩ ⟨#[9]⟩).run Tryz.prog W = .ok (.string S1) W) ∧ (∀ W, (Op.stringOp .add S1 ⟨o.toArray⟩).run Tryz.prog W = .ok (.string S2) W) ∧
    (∀ W, (Op.stringOp .add S2 ⟨#[10]⟩).run Tryz.prog W = .ok (.string S3) W) ∧ (∀ W, (Op.stringOp .add ⟨M.toArray⟩ S3).run Tryz.prog W = .ok (.string S4) W) ∧ S4 = ⟨(M ++ (d ++ [9] ++ o ++ [10])).toArray⟩ := by
  refine ⟨⟨(d ++ [9]).toArray⟩, ⟨((d ++ [9]) ++ o).toArray⟩, ⟨(((d ++ [9]) ++ o) ++ [10]).toArray⟩, ⟨(M ++ (((d ++ [9]) ++ o) ++ [10])).toArray⟩,
    fun W => adds11 d [9] ?_ ?_ W, fun W => adds11 _ o ?_ ?_ W, fun W => adds11 _ [10] ?_ ?_ W, fun W => adds11 M _ ?_ ?_ W, rfl⟩
  all_goals ((try simp only [List.length_append, List.length_cons, List.length_nil]); omega)
theorem hx8 {h : List UInt8} (hl : h.length = 40) (a b : Nat) (hb : b ≤ 40) : (⟨h.toArray⟩ : ByteArray).extract a b = ⟨((h.drop a).take (b - a)).toArray⟩ := by
  refine ByteArray.ext ?_
  refine Array.ext' ?_
  rw [cut_mid]
theorem pw_sums (H h : List UInt8) (hl : h.length = 40) (hH : H.length ≤ 40100) (i a b : Nat) (ha : a = 8 * i) (hb : b = 8 * i + 8) (hi : i < 5) : ∃ P1 Pn : ByteArray,
    (∀ W, (Op.stringOp .add ⟨#[32]⟩ ((⟨h.toArray⟩ : ByteArray).extract a b)).run Tryz.prog W = .ok (.string P1) W) ∧ (∀ W, (Op.stringOp .add ⟨(H ++ w8 i h).toArray⟩ P1).run Tryz.prog W = .ok (.string Pn) W) ∧ Pn = ⟨(H ++ w8 (i + 1) h).toArray⟩ := by
  subst ha; subst hb
  have hw := w8_len i h
  rw [hx8 hl _ _ (by omega), show 8 * i + 8 - 8 * i = 8 by omega]
  refine ⟨⟨([32] ++ (h.drop (8 * i)).take 8).toArray⟩, ⟨((H ++ w8 i h) ++ ([32] ++ (h.drop (8 * i)).take 8)).toArray⟩, fun W => adds11 [32] _ (by decide) (by rw [List.length_take]; omega) W, fun W => adds11 _ _ (by rw [List.length_append]; omega) (by rw [List.length_append, List.length_take]; simp; omega) W, by rw [w8_snoc]; simp⟩
/-- The text ahead of the digest's words. -/
def tH (L : List Rw) (u e : Int) : List UInt8 := ptUk u ++ ptEk e ++ ptRk L ++ [35, 104]
set_option maxRecDepth 100000 in
set_option maxHeartbeats 8000000 in
theorem rput11_any (A : Option Addr) (c : Nat) (L : List Rw) (u e : Int) (w : World) (hr : Rp w.heap.size w A L) (hk : lkE L u e = 0) :
    Calls Tryz.prog 20 #[.agg #[.slice A L.length c, .int .i64 u, .int .i64 e]] w fun x w' => x = .returned (.string ⟨(ptTk L u e (byt (dig (dgT L u e)))).toArray⟩) ∧ Below w.heap.size w w' := by
  obtain ⟨v, ⟨hu1, hu2⟩, he1, he2⟩ := lkE_zero hk
  have hR := rows11_of hk
  have few := v.few
  obtain ⟨W0, hW0, hba, hsa, c0, c1, c2⟩ := dbox w A L.length c u e
  have HC : Hid (∀ W, Below W0.heap.size W0 W → W.cell? ⟨w.heap.size, 0, none⟩ = some (.slice A L.length c) ∧ W.cell? ⟨w.heap.size, 1, none⟩ = some (.int .i64 u) ∧ W.cell? ⟨w.heap.size, 2, none⟩ = some (.int .i64 e)) := Lib.hid fun W hq =>
    ⟨(hq.cell (p := ⟨w.heap.size, 0, none⟩) (show w.heap.size < W0.heap.size by omega)).trans c0, (hq.cell (p := ⟨w.heap.size, 1, none⟩) (show w.heap.size < W0.heap.size by omega)).trans c1, (hq.cell (p := ⟨w.heap.size, 2, none⟩) (show w.heap.size < W0.heap.size by omega)).trans c2⟩
  have HRp : Hid (∀ W, Below W0.heap.size W0 W → Rp W.heap.size W A L) := Lib.hid fun W hq => (hr.keep (hba.trans (hq.mono hba.size))).mono (Nat.le_trans hba.size hq.size)
  have B0 := Lib.hid hba
  have HU := Lib.hid (fun W => raw_pt u W hu1 (by omega))
  have HE := Lib.hid (fun W => raw_pt e W he1 (by omega))
  have hl := hR.hl
  have hd0 : dgT L u e = ptL u 0 ++ ptL e 0 ++ dgR L := rfl
  have hpu : (ptL u 0).length ≤ 10000 ∧ (ptL e 0).length ≤ 10000 ∧ (dgR L).length ≤ 10000 := by rw [hd0] at hl; simp only [List.length_append] at hl; omega
  have hpr := ptRk_len L
  have HLen : Hid (∀ j, (ptUk u ++ ptEk e ++ ptRk (L.take j)).length ≤ 40000) := Lib.hid (fun j => by have := ptk_le L j; simp only [ptUk, ptEk, List.length_append, List.length_cons, List.length_nil]; omega)
  have HDl : Hid (∀ j, j < L.length → (ptL (sc11 (rd L j)) 0).length ≤ 10000 ∧ (ptL (ro L j) 0).length ≤ 10000) := Lib.hid (fun j hj => by
    have h1 := dgR_at L hj
    have h2 := dgR_le L (j + 1)
    rw [h1] at h2; simp only [List.length_append] at h2; omega)
  have HV : Hid (∀ j, j < L.length → (-25567 ≤ rd L j ∧ rd L j ≤ 2932896) ∧ 0 ≤ ro L j ∧ ro L j ≤ 1000) := Lib.hid (fun j hj => ⟨v.day j hj, v.off j hj⟩)
  have HNX : Hid (∀ j, j < L.length → (ptUk u ++ ptEk e ++ ptRk (L.take j)) ++ (ptL (sc11 (rd L j)) 0 ++ [9] ++ ptL (ro L j) 0 ++ [10]) = ptUk u ++ ptEk e ++ ptRk (L.take (j + 1))) := Lib.hid (fun j hj => pt_next u e L hj)
  have HDg := Lib.hid (fun W (hr : Rp W.heap.size W A L) => rdigest11_any A c L u e W hr hk)
  obtain ⟨S1, S2, S3, S4, A1, A2, A3, A4, hS4⟩ := ph_sums u e hpu.1 hpu.2.1
  obtain ⟨XU, hXU⟩ : ∃ XU : ByteArray, XU = ⟨(ptL u 0).toArray⟩ := ⟨_, rfl⟩
  obtain ⟨XE, hXE⟩ : ∃ XE : ByteArray, XE = ⟨(ptL e 0).toArray⟩ := ⟨_, rfl⟩
  rw [← hXU] at HU A1
  rw [← hXE] at HE A3
  have HX0 := Lib.hid hS4
  have HFe := Lib.hid few
  obtain ⟨N, hN⟩ : ∃ N, L.length = N := ⟨_, rfl⟩
  have HNN := Lib.hid hN
  rw [hN] at hW0 HC HDg ⊢
  have hfin : ptTk L u e (byt (dig (dgT L u e))) = tH L u e ++ w8 5 (hxL (byt (dig (dgT L u e)))) ++ [10] := by simp [ptTk, ptHk, tH]
  rw [hfin]
  obtain ⟨D, hD⟩ : ∃ D, D = dig (dgT L u e) := ⟨_, rfl⟩
  rw [← hD] at HDg ⊢
  have HTl : Hid ((tH L u e).length ≤ 40002) := Lib.hid (by
    have := HLen.out L.length
    rw [List.take_length] at this
    unfold tH
    rw [List.length_append]; simp only [List.length_cons, List.length_nil]; omega)
  clear hr hk v hu1 hu2 he1 he2 hR few hba hsa c0 c1 c2 hl hd0 hpu hpr hS4 hXU hXE hN hfin hD
  have HS9 : Hid (∀ W, Kq9 W0 W → (W.cell? ⟨w.heap.size, 0, none⟩ = some (.slice A N c) ∧ W.cell? ⟨w.heap.size, 1, none⟩ = some (.int .i64 u) ∧ W.cell? ⟨w.heap.size, 2, none⟩ = some (.int .i64 e)) ∧ Kq9 W0 W) := Lib.hid fun W hk => ⟨HC.out W hk.bel, hk⟩
  have hKD : Kq9 W0 W0.drew := ⟨(Below.refl _ W0).drew⟩
  obtain ⟨c0, c1, c2⟩ := HC.out W0 (Below.refl _ _)
  go_enter Tryz.func20, Tryz.ntmps20
  go_upto_region 1 with fail
  rw [← hW0]; clear hW0
  go_region_held3 (fun W => (W.cell? ⟨w.heap.size, 0, none⟩ = some (.slice A N c) ∧ W.cell? ⟨w.heap.size, 1, none⟩ = some (.int .i64 u) ∧ W.cell? ⟨w.heap.size, 2, none⟩ = some (.int .i64 e)) ∧ Kq9 W0 W)
    (exact HS9.out _ (by assumption))
    (first
      | (go_at_call 46; go_split_ands; (with_reducible refine (HU.out _).mono ?_); rintro er wr9 ⟨rfl, hq⟩; have hkr : Kq9 W0 wr9 := Kq9.step (by assumption) hq; clear hq)
      | (go_at_call 46; go_split_ands; (with_reducible refine (HE.out _).mono ?_); rintro er wr9 ⟨rfl, hq⟩; have hkr : Kq9 W0 wr9 := Kq9.step (by assumption) hq; clear hq))
  have Q1 : Hid (Below W0.heap.size W0 _) := Lib.hid (Kq9.bel (W0 := W0) (by assumption))
  clear hKD HS9 c0 c1 c2
  go_wp2_with fail
  go_loopg [3, 4] N (fun gg s3 s4 wr => ∃ j : Nat, j ≤ N ∧ N - j ≤ gg ∧ s3 = .string ⟨(ptUk u ++ ptEk e ++ ptRk (L.take j)).toArray⟩ ∧ s4 = .int .i64 j ∧ Hid (Below W0.heap.size W0 wr))
  case atStart => exact ⟨0, Nat.zero_le _, by omega, by rw [HX0.out]; simp [ptRk], rfl, Q1⟩
  case round =>
    clear Q1
    obtain ⟨j, hj, hgg, rfl, rfl, Q3⟩ := hrel
    obtain ⟨k0, k1, k2⟩ := HC.out _ Q3.out
    by_cases hlt : j < N
    · have hltz : (j : Int) < (N : Int) := by omega
      have hN4 : N ≤ 256 := by have := HFe.out; have := HNN.out; omega
      have hjL : j < L.length := by have := HNN.out; omega
      obtain ⟨bA, oA, hA, -, hbA, hcA⟩ := (HRp.out _ Q3.out).pos (by omega)
      subst hA
      obtain ⟨r0, r1⟩ := hcA j hjL
      obtain ⟨⟨v1, v2⟩, v3, v4⟩ := HV.out j hjL
      have HD1 := Lib.hid (fun W => raw_pt (sc11 (rd L j)) W (by unfold sc11; omega) (by unfold sc11; omega))
      have HO1 := Lib.hid (fun W => raw_pt (ro L j) W (by omega) (by omega))
      obtain ⟨T1, T2, T3, XN, G1, G2, G3, G4, hXN⟩ := pr_sums (ptUk u ++ ptEk e ++ ptRk (L.take j)) (ptL (sc11 (rd L j)) 0) (ptL (ro L j) 0) (Nat.le_trans (HLen.out j) (by decide)) (HDl.out j hjL).1 (HDl.out j hjL).2
      rw [HNX.out j hjL] at hXN
      have w1 : IntKind.i64.wrap (rd L j - -25567) = rd L j + 25567 := by rw [show rd L j - -25567 = rd L j + 25567 by omega]; exact IntWalk.i64_in _ (by omega)
      have w1b : IntKind.i64.wrap (rd L j + 25567) = rd L j + 25567 := IntWalk.i64_in _ (by omega)
      have w2 : IntKind.i64.wrap ((rd L j + 25567) * 86400) = sc11 (rd L j) := IntWalk.i64_in _ (by omega)
      have hje : Hid (j + 1 ≤ N) := Lib.hid hlt
      obtain ⟨XD, hXD⟩ : ∃ XD : ByteArray, XD = ⟨(ptL (sc11 (rd L j)) 0).toArray⟩ := ⟨_, rfl⟩
      obtain ⟨XO, hXO⟩ : ∃ XO : ByteArray, XO = ⟨(ptL (ro L j) 0).toArray⟩ := ⟨_, rfl⟩
      obtain ⟨XT, hXT⟩ : ∃ XT : ByteArray, XT = ⟨(ptUk u ++ ptEk e ++ ptRk (L.take j)).toArray⟩ := ⟨_, rfl⟩
      rw [← hXD] at HD1 G1
      rw [← hXO] at HO1 G2
      rw [← hXT] at G4 ⊢
      have HXN := Lib.hid hXN
      clear hXD hXO hXT hXN
      generalize sc11 (rd L j) = sj at *
      obtain ⟨dj, hdj⟩ : ∃ dj, dj = rd L j := ⟨_, rfl⟩
      obtain ⟨oj, hoj⟩ : ∃ oj, oj = ro L j := ⟨_, rfl⟩
      rw [← hdj] at r0 v1 v2 w1 w1b w2
      rw [← hoj] at r1 v3 v4 HO1
      clear hdj hoj
      have HS9 : Hid (∀ W, Kq9 wr W → (W.cell? ⟨w.heap.size, 0, none⟩ = some (.slice (some ⟨bA, oA, none⟩) N c) ∧ W.cell? ⟨bA, oA + j * 2, none⟩ = some (.int .i64 dj) ∧ W.cell? ⟨bA, oA + j * 2 + 1, none⟩ = some (.int .i64 oj)) ∧ Kq9 wr W) := Lib.hid fun W hk => ⟨⟨(HC.out W (Q3.out.trans (hk.bel.mono Q3.out.size))).1, (hk.bel.cell (p := ⟨bA, _, none⟩) hbA).trans r0, (hk.bel.cell (p := ⟨bA, _, none⟩) hbA).trans r1⟩, hk⟩
      have hKD : Kq9 wr wr.drew := ⟨(Below.refl _ wr).drew⟩
      clear k1 k2 hcA hbA
      go_upto_region 5 with fail
      go_region_held3 (fun W => (W.cell? ⟨w.heap.size, 0, none⟩ = some (.slice (some ⟨bA, oA, none⟩) N c) ∧ W.cell? ⟨bA, oA + j * 2, none⟩ = some (.int .i64 dj) ∧ W.cell? ⟨bA, oA + j * 2 + 1, none⟩ = some (.int .i64 oj)) ∧ Kq9 wr W)
        (exact HS9.out _ (by assumption))
        (first
          | (go_at_call 47; go_split_ands; refine (rof1900 _).mono ?_; rintro eo wo9 ⟨rfl, hq⟩; have hko : Kq9 wr wo9 := Kq9.step (by assumption) hq; clear hq)
          | (go_at_call 46; go_split_ands; (with_reducible refine (HD1.out _).mono ?_); rintro er wr9 ⟨rfl, hq⟩; have hkr : Kq9 wr wr9 := Kq9.step (by assumption) hq; clear hq)
          | (go_at_call 46; go_split_ands; (with_reducible refine (HO1.out _).mono ?_); rintro er wr9 ⟨rfl, hq⟩; have hkr : Kq9 wr wr9 := Kq9.step (by assumption) hq; clear hq))

      have Q5 := Lib.hid (Q3.out.trans ((Kq9.bel (W0 := wr) (by assumption)).mono Q3.out.size))
      clear hKD HS9 r0 r1 k0
      go_wp2_with fail
      go_roundg (N - (j + 1))
      case measure => omega
      case rel => exact ⟨j + 1, hje.out, by omega, by rw [HXN.out], by go_num, Q5⟩
    · have hltz : ¬ (j : Int) < (N : Int) := by omega
      have hjn : L.take j = L := by rw [List.take_of_length_le]; have := HNN.out; omega
      rw [hjn]
      have A5 := fun W => adds11 (ptUk u ++ ptEk e ++ ptRk L) [35, 104] (by have := HLen.out j; rw [hjn] at this; omega) (by decide) W
      rw [show (ptUk u ++ ptEk e ++ ptRk L) ++ [35, 104] = tH L u e from rfl] at A5
      have HDg2 := Lib.hid (HDg.out _ (HRp.out _ Q3.out))
      clear HNX HLen HV HDl HDg HX0 HU HE hjn
      generalize ptUk u ++ ptEk e ++ ptRk L = T at *
      obtain ⟨H, hH⟩ : ∃ H, H = tH L u e := ⟨_, rfl⟩
      rw [← hH] at A5 HTl
      have HH := Lib.hid hH
      clear hH
      obtain ⟨h, hh⟩ : ∃ h, h = hxL (byt D) := ⟨_, rfl⟩
      have hhl : h.length = 40 := by rw [hh, hxL_len, byt_len]
      have Hh := Lib.hid hh; have HHL := Lib.hid hhl
      clear hh hhl
      change ∀ W, (Op.stringOp .add ⟨T.toArray⟩ ⟨#[35, 104]⟩).run Tryz.prog W = _ at A5
      go_wp2_with fail
      refine HDg2.out.mono ?_
      rintro e1 w3 ⟨rfl, hb⟩
      have Q6 := Lib.hid (Q3.out.trans (hb.mono Q3.out.size))
      clear hb k0 k1 k2
      unfold stv
      go_upto_region 8 with fail
      obtain ⟨X3, hX⟩ : ∃ X, X = w3.alloc (.cells (stv D) 36) := ⟨_, rfl⟩
      have hb : Below w3.heap.size w3 X3 := by rw [hX]; exact bel_box _ _
      have SD : Hid (Sb X3 w3.heap.size D) := Lib.hid (by rw [hX]; exact heap_alloc_new _ _)
      unfold stv at hX
      rw [← hX]
      have Q7 := Lib.hid (Q6.out.trans (hb.mono Q6.out.size))
      clear hb hX
      obtain ⟨gw, hg⟩ : ∃ g, g = w3.heap.size := ⟨_, rfl⟩
      rw [← hg] at SD ⊢
      clear hg
      go_wp2
      go_loopg [3, 6] 5 (fun gg s3 s6 wr2 => ∃ i : Nat, i ≤ 5 ∧ 5 - i ≤ gg ∧ s3 = .string ⟨(H ++ w8 i h).toArray⟩ ∧ s6 = .int .i64 i ∧ Hid (Below W0.heap.size W0 wr2) ∧ Hid (Sb wr2 gw D))
      case atStart => exact ⟨0, by omega, by omega, by simp [w8], rfl, Q7, SD⟩
      case round =>
        clear Q7 SD
        obtain ⟨i, hi, hg2, rfl, rfl, Q8, SE⟩ := hrel
        by_cases hi5 : i < 5
        · have hiz : (i : Int) < 5 := by omega
          obtain ⟨d0, d1, d2, d3, d4⟩ := SE.out.all
          have HBy := Lib.hid (fun W => rbytes_any D W)
          rcases (by omega : i = 0 ∨ i = 1 ∨ i = 2 ∨ i = 3 ∨ i = 4) with rfl | rfl | rfl | rfl | rfl
          · obtain ⟨P1, Pn, D1, D2, hPn⟩ := pw_sums H h HHL.out (Nat.le_trans HTl.out (by decide)) 0 0 8 rfl rfl (by decide)
            have HPn := Lib.hid hPn
            obtain ⟨XH, hXH⟩ : ∃ XH : ByteArray, XH = ⟨h.toArray⟩ := ⟨_, rfl⟩
            have hxs : XH.size = 40 := by rw [hXH, Lib.size_mk]; exact HHL.out
            rw [← hXH] at D1
            obtain ⟨XM, hXM⟩ : ∃ XM : ByteArray, XM = ⟨(H ++ w8 0 h).toArray⟩ := ⟨_, rfl⟩
            rw [← hXM] at D2 ⊢
            have HXH := Lib.hid hXH
            clear hPn hXH hXM
            go_wp2_with fail
            refine (HBy.out _).mono ?_
            rintro e2 w4 ⟨A4, c4, rfl, hr4, hn4, hb⟩
            have Q9 := Lib.hid (Q8.out.trans (hb.mono Q8.out.size)); have SF := Lib.hid (SE.out.keep hb)
            have HX := Lib.hid (rhex_any A4 (byt D) c4 w4 hr4 (by rw [byt_len]; decide))
            rw [← Hh.out, ← HXH.out] at HX
            clear hr4 hn4 hb d0 d1 d2 d3 d4
            generalize (byt D).length = bl at *
            go_wp2_with fail
            refine HX.out.mono ?_
            rintro e3 w5 ⟨rfl, hb⟩
            have Q10 := Lib.hid (Q9.out.trans (hb.mono Q9.out.size)); have SG := Lib.hid (SF.out.keep hb)
            clear hb
            go_wp2_with fail
            go_roundg (5 - 1)
            case measure => omega
            case rel => exact ⟨1, by omega, by omega, by rw [HPn.out], by go_num, Q10, SG⟩
          · obtain ⟨P1, Pn, D1, D2, hPn⟩ := pw_sums H h HHL.out (Nat.le_trans HTl.out (by decide)) 1 8 16 rfl rfl (by decide)
            have HPn := Lib.hid hPn
            obtain ⟨XH, hXH⟩ : ∃ XH : ByteArray, XH = ⟨h.toArray⟩ := ⟨_, rfl⟩
            have hxs : XH.size = 40 := by rw [hXH, Lib.size_mk]; exact HHL.out
            rw [← hXH] at D1
            obtain ⟨XM, hXM⟩ : ∃ XM : ByteArray, XM = ⟨(H ++ w8 1 h).toArray⟩ := ⟨_, rfl⟩
            rw [← hXM] at D2 ⊢
            have HXH := Lib.hid hXH
            clear hPn hXH hXM
            go_wp2_with fail
            refine (HBy.out _).mono ?_
            rintro e2 w4 ⟨A4, c4, rfl, hr4, hn4, hb⟩
            have Q9 := Lib.hid (Q8.out.trans (hb.mono Q8.out.size)); have SF := Lib.hid (SE.out.keep hb)
            have HX := Lib.hid (rhex_any A4 (byt D) c4 w4 hr4 (by rw [byt_len]; decide))
            rw [← Hh.out, ← HXH.out] at HX
            clear hr4 hn4 hb d0 d1 d2 d3 d4
            generalize (byt D).length = bl at *
            go_wp2_with fail
            refine HX.out.mono ?_
            rintro e3 w5 ⟨rfl, hb⟩
            have Q10 := Lib.hid (Q9.out.trans (hb.mono Q9.out.size)); have SG := Lib.hid (SF.out.keep hb)
            clear hb
            go_wp2_with fail
            go_roundg (5 - 2)
            case measure => omega
            case rel => exact ⟨2, by omega, by omega, by rw [HPn.out], by go_num, Q10, SG⟩
          · obtain ⟨P1, Pn, D1, D2, hPn⟩ := pw_sums H h HHL.out (Nat.le_trans HTl.out (by decide)) 2 16 24 rfl rfl (by decide)
            have HPn := Lib.hid hPn
            obtain ⟨XH, hXH⟩ : ∃ XH : ByteArray, XH = ⟨h.toArray⟩ := ⟨_, rfl⟩
            have hxs : XH.size = 40 := by rw [hXH, Lib.size_mk]; exact HHL.out
            rw [← hXH] at D1
            obtain ⟨XM, hXM⟩ : ∃ XM : ByteArray, XM = ⟨(H ++ w8 2 h).toArray⟩ := ⟨_, rfl⟩
            rw [← hXM] at D2 ⊢
            have HXH := Lib.hid hXH
            clear hPn hXH hXM
            go_wp2_with fail
            refine (HBy.out _).mono ?_
            rintro e2 w4 ⟨A4, c4, rfl, hr4, hn4, hb⟩
            have Q9 := Lib.hid (Q8.out.trans (hb.mono Q8.out.size)); have SF := Lib.hid (SE.out.keep hb)
            have HX := Lib.hid (rhex_any A4 (byt D) c4 w4 hr4 (by rw [byt_len]; decide))
            rw [← Hh.out, ← HXH.out] at HX
            clear hr4 hn4 hb d0 d1 d2 d3 d4
            generalize (byt D).length = bl at *
            go_wp2_with fail
            refine HX.out.mono ?_
            rintro e3 w5 ⟨rfl, hb⟩
            have Q10 := Lib.hid (Q9.out.trans (hb.mono Q9.out.size)); have SG := Lib.hid (SF.out.keep hb)
            clear hb
            go_wp2_with fail
            go_roundg (5 - 3)
            case measure => omega
            case rel => exact ⟨3, by omega, by omega, by rw [HPn.out], by go_num, Q10, SG⟩
          · obtain ⟨P1, Pn, D1, D2, hPn⟩ := pw_sums H h HHL.out (Nat.le_trans HTl.out (by decide)) 3 24 32 rfl rfl (by decide)
            have HPn := Lib.hid hPn
            obtain ⟨XH, hXH⟩ : ∃ XH : ByteArray, XH = ⟨h.toArray⟩ := ⟨_, rfl⟩
            have hxs : XH.size = 40 := by rw [hXH, Lib.size_mk]; exact HHL.out
            rw [← hXH] at D1
            obtain ⟨XM, hXM⟩ : ∃ XM : ByteArray, XM = ⟨(H ++ w8 3 h).toArray⟩ := ⟨_, rfl⟩
            rw [← hXM] at D2 ⊢
            have HXH := Lib.hid hXH
            clear hPn hXH hXM
            go_wp2_with fail
            refine (HBy.out _).mono ?_
            rintro e2 w4 ⟨A4, c4, rfl, hr4, hn4, hb⟩
            have Q9 := Lib.hid (Q8.out.trans (hb.mono Q8.out.size)); have SF := Lib.hid (SE.out.keep hb)
            have HX := Lib.hid (rhex_any A4 (byt D) c4 w4 hr4 (by rw [byt_len]; decide))
            rw [← Hh.out, ← HXH.out] at HX
            clear hr4 hn4 hb d0 d1 d2 d3 d4
            generalize (byt D).length = bl at *
            go_wp2_with fail
            refine HX.out.mono ?_
            rintro e3 w5 ⟨rfl, hb⟩
            have Q10 := Lib.hid (Q9.out.trans (hb.mono Q9.out.size)); have SG := Lib.hid (SF.out.keep hb)
            clear hb
            go_wp2_with fail
            go_roundg (5 - 4)
            case measure => omega
            case rel => exact ⟨4, by omega, by omega, by rw [HPn.out], by go_num, Q10, SG⟩
          · obtain ⟨P1, Pn, D1, D2, hPn⟩ := pw_sums H h HHL.out (Nat.le_trans HTl.out (by decide)) 4 32 40 rfl rfl (by decide)
            have HPn := Lib.hid hPn
            obtain ⟨XH, hXH⟩ : ∃ XH : ByteArray, XH = ⟨h.toArray⟩ := ⟨_, rfl⟩
            have hxs : XH.size = 40 := by rw [hXH, Lib.size_mk]; exact HHL.out
            rw [← hXH] at D1
            obtain ⟨XM, hXM⟩ : ∃ XM : ByteArray, XM = ⟨(H ++ w8 4 h).toArray⟩ := ⟨_, rfl⟩
            rw [← hXM] at D2 ⊢
            have HXH := Lib.hid hXH
            clear hPn hXH hXM
            go_wp2_with fail
            refine (HBy.out _).mono ?_
            rintro e2 w4 ⟨A4, c4, rfl, hr4, hn4, hb⟩
            have Q9 := Lib.hid (Q8.out.trans (hb.mono Q8.out.size)); have SF := Lib.hid (SE.out.keep hb)
            have HX := Lib.hid (rhex_any A4 (byt D) c4 w4 hr4 (by rw [byt_len]; decide))
            rw [← Hh.out, ← HXH.out] at HX
            clear hr4 hn4 hb d0 d1 d2 d3 d4
            generalize (byt D).length = bl at *
            go_wp2_with fail
            refine HX.out.mono ?_
            rintro e3 w5 ⟨rfl, hb⟩
            have Q10 := Lib.hid (Q9.out.trans (hb.mono Q9.out.size)); have SG := Lib.hid (SF.out.keep hb)
            clear hb
            go_wp2_with fail
            go_roundg (5 - 5)
            case measure => omega
            case rel => exact ⟨5, by omega, by omega, by rw [HPn.out], by go_num, Q10, SG⟩
        · obtain rfl : i = 5 := by omega
          have A9 := fun W => adds11 (H ++ w8 5 h) [10] (by have := w8_len 5 h; have := HTl.out; rw [List.length_append]; omega) (by decide) W
          change ∀ W, (Op.stringOp .add ⟨(H ++ w8 5 h).toArray⟩ ⟨#[10]⟩).run Tryz.prog W = _ at A9
          obtain ⟨T2, hT2⟩ : ∃ T2, T2 = H ++ w8 5 h := ⟨_, rfl⟩
          rw [← hT2] at A9 ⊢
          have HT2 := Lib.hid hT2
          clear hT2
          go_wp2
          go_ret
          exact ⟨ret1_eq (by rw [HT2.out, HH.out, Hh.out]; rfl), B0.out.trans (Q8.out.mono B0.out.size)⟩

end Go.Proofs.YtiamggjebaabkaaGreatDoor
