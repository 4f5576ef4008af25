/- Merged: ListAE. -/
import Derived.Test.YtiamggjebaabkaaGreatDoorGListPuts33
namespace Go.Proofs.YtiamggjebaabkaaGreatDoor
open Go.RowKit Go.WideShapes Go.ChangeShapes
set_option linter.unusedVariables false
set_option linter.unusedSimpArgs false

/-- A row's line. -/
def ptLk (r : Rw) : List UInt8 := ptL (sc11 r.d) 0 ++ [9] ++ ptL r.o 0 ++ [10]
/-- The rows' lines. -/
def ptRk (L : List Rw) : List UInt8 := L.flatMap ptLk
def ptUk (u : Int) : List UInt8 := [35, 36, 9] ++ ptL u 0 ++ [10]
def ptEk (e : Int) : List UInt8 := [35, 64, 9] ++ ptL e 0 ++ [10]
def ptHk (D : List UInt8) : List UInt8 := [35, 104] ++ w8 5 (hxL D) ++ [10]
/-- A table's text. -/
def ptTk (L : List Rw) (u e : Int) (D : List UInt8) : List UInt8 := ptUk u ++ ptEk e ++ ptRk L ++ ptHk D
theorem ptRk_at (L : List Rw) {j : Nat} (hj : j < L.length) : ptRk (L.take (j + 1)) = ptRk (L.take j) ++ ptLk ⟨rd L j, ro L j⟩ := by
  rw [tk_at L hj]; simp [ptRk]
theorem ptRk_len (L : List Rw) : (ptRk L).length = (dgR L).length + 2 * L.length := by
  induction L with
  | nil => rfl
  | cons r L ih =>
    show (ptLk r ++ ptRk L).length = (ptL (sc11 r.d) 0 ++ ptL r.o 0 ++ dgR L).length + 2 * (L.length + 1)
    simp only [ptLk, List.length_append, List.length_cons, List.length_nil, ih]; omega
theorem cat_u (x : List UInt8) : ((⟨#[35, 36, 9]⟩ : ByteArray) ++ ⟨x.toArray⟩) ++ ⟨#[10]⟩ = ⟨([35, 36, 9] ++ x ++ [10]).toArray⟩ := by apply ByteArray.ext; simp
theorem cat_e (x : List UInt8) : ((⟨#[35, 64, 9]⟩ : ByteArray) ++ ⟨x.toArray⟩) ++ ⟨#[10]⟩ = ⟨([35, 64, 9] ++ x ++ [10]).toArray⟩ := by apply ByteArray.ext; simp
theorem cat_h (x : List UInt8) : ((⟨#[35, 104]⟩ : ByteArray) ++ ⟨x.toArray⟩) ++ ⟨#[10]⟩ = ⟨([35, 104] ++ x ++ [10]).toArray⟩ := by apply ByteArray.ext; simp
theorem cat_r (x y : List UInt8) : (((⟨x.toArray⟩ : ByteArray) ++ ⟨#[9]⟩) ++ ⟨y.toArray⟩) ++ ⟨#[10]⟩ = ⟨(x ++ [9] ++ y ++ [10]).toArray⟩ := by apply ByteArray.ext; simp

set_option maxRecDepth 100000 in
theorem put11_nil (w : World) : Calls Tryz.prog 15 #[.pointer none] w fun x w' => x = .returned (.tuple #[.string ⟨#[]⟩, ev 8]) ∧ Below w.heap.size w w' := by
  have h0 : Calls Tryz.prog 16 #[.pointer none] w fun x w' => x = .returned (.tuple #[.agg (bc (List.replicate 20 0)).toArray, .iface 53 (.int .i64 8)]) ∧ Below w.heap.size w w' := digest11_nil w
  have H := Lib.hid h0
  clear h0
  go_enter Tryz.func15, Tryz.ntmps15
  go_upto_region 2 with (first
    | (go_at_call 16; refine H.out.mono ?_; rintro x w1 ⟨rfl, hb⟩; have B1 := Lib.hid hb; have Z1 := Lib.hid (show Bt 49 (w1.alloc (.cells z20 49)) w1.heap.size (List.replicate 20 0) from heap_alloc_new w1 _); clear hb H)
    | (refine wpList_store_row rfl 49 (.tmp 4) (.tmp 12) rfl w1.heap.size (bc (List.replicate 20 0)).toArray rfl rfl 49 (bc (List.replicate 20 0)).toArray Z1.out rfl rfl (bc_all _) ?_))
  have B2 := Lib.hid (below_setRow (B := w.heap.size) (B1.out.alloc B1.out.size (.cells z20 49)) B1.out.size (bc (List.replicate 20 0)).toArray)
  go_wp2
  go_ret2
  exact ⟨rfl, B2.out⟩
set_option maxRecDepth 100000 in
set_option maxHeartbeats 4000000 in
theorem put11_any {lo : Nat} {w : World} {g : Nat} {L : List Rw} {u e : Int} (h : Tb lo w g L u e) (hR : Rows11 L u e) (ht : Tab w) (hp : Eps w) (hs : Start w) :
    Calls Tryz.prog 15 #[.pointer (some ⟨g, 0, none⟩)] w fun x w' => x = .returned (.tuple #[.string ⟨(ptTk L u e (byt (dig (dgT L u e)))).toArray⟩, ev 0]) ∧ Below w.heap.size w w' := by
  have hdi := digest11_any h hR ht hp hs
  have hbl : (byt (dig (dgT L u e))).length = 20 := byt_len _
  generalize byt (dig (dgT L u e)) = V at *
  have HDI : Hid (Calls Tryz.prog 16 #[.pointer (some ⟨g, 0, none⟩)] w fun x w' => x = .returned (.tuple #[.agg (bc V).toArray, .nilIface]) ∧ Below w.heap.size w w') := Lib.hid hdi
  have H0 := Lib.hid (And.intro h (And.intro ht hp))
  have HR := Lib.hid hR
  have BL := Lib.hid hbl
  clear h hR ht hp hs hdi hbl
  go_enter Tryz.func15, Tryz.ntmps15
  go_upto_region 2 with (first
    | (go_at_call 16; refine HDI.out.mono ?_; rintro x w1 ⟨rfl, hb⟩; have B1 := Lib.hid hb; have Z1 := Lib.hid (show Bt 49 (w1.alloc (.cells z20 49)) w1.heap.size (List.replicate 20 0) from heap_alloc_new w1 _); clear hb HDI)
    | (refine wpList_store_row rfl 49 (.tmp 4) (.tmp 12) rfl w1.heap.size (bc V).toArray rfl rfl 49 (bc (List.replicate 20 0)).toArray Z1.out (by rw [dsize, List.size_toArray, bc_len, BL.out]) (by rw [List.size_toArray, List.size_toArray, bc_len, bc_len, BL.out]; rfl) (bc_all _) ?_))
  -- the digest's box
  have z0 := Z1.out.set V
  have b0 := below_setRow (B := w.heap.size) (B1.out.alloc B1.out.size (.cells z20 49)) B1.out.size (bc V).toArray
  clear Z1
  obtain ⟨W0, hW0⟩ : ∃ W0, W0 = (w1.alloc (.cells z20 49)).setRow w1.heap.size (bc V).toArray := ⟨_, rfl⟩
  rw [← hW0] at z0 b0 ⊢
  have s0 : W0.heap.size = w1.heap.size + 1 := by rw [hW0]; simp [World.setRow]
  clear hW0
  have n0 := Bs.new W0
  rw [s0] at n0
  obtain ⟨W1, hW1⟩ : ∃ W1, W1 = W0.alloc (.cells #[.pointer none, .slice none 0 0] 89) := ⟨_, rfl⟩
  rw [← hW1] at n0
  have b00 : Below w.heap.size w W0 := b0
  have hb : ∀ {W : World}, Below (w1.heap.size + 1) W0 W → Below W0.heap.size W0 W := fun h => by rw [s0]; exact h
  have h := H0.out.1.below b0; have ht := H0.out.2.1.below b0; have hp := H0.out.2.2.below b0
  have hup : ∀ W, Below (w1.heap.size + 1) W0 W → Calls Tryz.prog 35 #[.pointer (some ⟨g, 0, none⟩)] W fun x w' => x = .returned (.int .i64 u) ∧ W = w' := fun W h1 => updated_any (h.below (hb h1)).v
  have hex : ∀ W, Below (w1.heap.size + 1) W0 W → Calls Tryz.prog 36 #[.pointer (some ⟨g, 0, none⟩)] W fun x w' => x = .returned (.int .i64 e) ∧ W = w' := fun W h1 => expires_any (h.below (hb h1)).v
  have hro : ∀ W, Below (w1.heap.size + 1) W0 W → Calls Tryz.prog 34 #[.pointer (some ⟨g, 0, none⟩)] W fun x w' => ∃ A c, x = .returned (.slice A L.length c) ∧ Ow 70 w' W.heap.size (.slice A L.length c) L ∧ Below W.heap.size W w' := fun W h1 =>
    (rows_any (h.below (hb h1)).v (by have := HR.out.hn; omega)).mono fun x w' ⟨v, h2, h3, h4⟩ => by
      obtain ⟨A, c, rfl, -⟩ := h3.reads
      exact ⟨A, c, h2, h3, h4⟩
  have hdg : ∀ n W, fits n → Below (w1.heap.size + 1) W0 W → Calls Tryz.prog 38 #[.int .i64 n] W fun x w' => x = .returned (.string ⟨(ptL n 0).toArray⟩) ∧ Below W.heap.size W w' := fun n W hn h1 => digits11_any n W hn (ht.below (hb h1))
  have hsc : ∀ d W, (-100000000 ≤ d ∧ d ≤ 100000000) → Below (w1.heap.size + 1) W0 W → Calls Tryz.prog 39 #[.int .i64 d] W fun x w' => x = .returned (.int .i64 (sc11 d)) ∧ Below W.heap.size W w' := fun d W hd h1 => seconds_any d W (hp.below (hb h1)) hd
  have hst : ∀ W, Below (w1.heap.size + 1) W0 W → Bt 49 W w1.heap.size V ∧ Below w.heap.size w W := fun W h1 => ⟨z0.below (hb h1) z0.lt, b0.trans (h1.mono (by have := B1.out.size; omega))⟩
  have HUP := Lib.hid hup; have HEX := Lib.hid hex; have HRO := Lib.hid hro; have HDG := Lib.hid hdg; have HSC := Lib.hid hsc; have HST := Lib.hid hst
  have N0 := Lib.hid n0
  have hsa : (ptL u 0).length + (ptL e 0).length ≤ 10000 := by have := dgT_le L u e 0; have := HR.out.hl; simp [dgT, dgR] at *; omega
  have HA := Lib.hid hsa
  clear hup hex hro hdg hsc hst n0 h ht hp b0 b00 z0 hb hsa H0 B1
  go_upto_region 5 with fail
  rw [← hW1]
  clear hW1
  have q1 : ¬ 9223372036854775807 < 3 + (ptL u 0).length := by have := HA.out; omega
  have q2 : ¬ 9223372036854775807 < 3 + (ptL u 0).length + 1 := by have := HA.out; omega
  have q3 : ¬ 9223372036854775807 < 3 + (ptL e 0).length := by have := HA.out; omega
  have q4 : ¬ 9223372036854775807 < 3 + (ptL e 0).length + 1 := by have := HA.out; omega
  go_upto_region 6 with (first
    | (go_at_call 35; refine (HUP.out _ N0.out.bel).mono ?_; rintro x W2 ⟨rfl, rfl⟩)
    | (go_at_call 38; refine (HDG.out u _ HR.out.hu N0.out.bel).mono ?_; rintro x W3 ⟨rfl, hb⟩; have N3 := Lib.hid (N0.out.step hb); clear hb)
    | (go_at_call 37; rw [cat_u]; refine (N3.out.write (m := [35, 36, 9] ++ ptL u 0 ++ [10]) (by have := HA.out; simp only [List.length_append, List.length_nil, List.length_cons]; omega)).mono ?_; rintro x W6 ⟨⟨vx, rfl⟩, hn6, -⟩; have N6 := Lib.hid hn6; clear hn6))
  clear N0 N3
  go_upto_region 7 with (first
    | (go_at_call 36; refine (HEX.out _ N6.out.bel).mono ?_; rintro x W7 ⟨rfl, rfl⟩)
    | (go_at_call 38; refine (HDG.out e _ HR.out.he N6.out.bel).mono ?_; rintro x W8 ⟨rfl, hb⟩; have N8 := Lib.hid (N6.out.step hb); clear hb)
    | (go_at_call 37; rw [cat_e]; refine (N8.out.write (m := [35, 64, 9] ++ ptL e 0 ++ [10]) (by have := HA.out; simp only [List.length_append, List.length_nil, List.length_cons]; omega)).mono ?_; rintro x W9 ⟨⟨vy, rfl⟩, hn9, -⟩; have N9 := Lib.hid hn9; clear hn9))
  clear N6 N8 q1 q2 q3 q4
  have hsu : [] ++ ([35, 36, 9] ++ ptL u 0 ++ [10]) ++ ([35, 64, 9] ++ ptL e 0 ++ [10]) = ptUk u ++ ptEk e := rfl
  rw [hsu] at N9
  clear hsu
  go_upto_region 8 with (go_at_call 34; refine (HRO.out _ N9.out.bel).mono ?_; rintro x W10 ⟨A, c, rfl, hO, hb⟩; have O10 := Lib.hid hO; have N10 := Lib.hid (N9.out.step hb); have L10 := Lib.hid N9.out.lt; clear hb hO)
  have hl : ∀ j, j ≤ L.length → (ptUk u ++ ptEk e ++ ptRk (L.take j)).length ≤ 40000 := fun j hj => by
    have h1 := dgR_le L j
    have h2 := HR.out.hl
    have h3 := HA.out
    have h4 := ptRk_len (L.take j)
    have h5 := HR.out.hn
    have h6 : (L.take j).length ≤ L.length := by simp; omega
    simp only [dgT, List.length_append] at h2
    simp only [ptUk, ptEk, List.length_append, List.length_cons, List.length_nil]; omega
  have HL := Lib.hid hl
  clear hl
  have HN := HR.out.hn
  go_loopg [32] L.length (fun gg i wr => ∃ j : Nat, j ≤ L.length ∧ L.length - j ≤ gg ∧ i = .int .i64 j ∧ Hid (Bs W0 (w1.heap.size + 1) wr (ptUk u ++ ptEk e ++ ptRk (L.take j)) ∧ Ow 70 wr W9.heap.size (.slice A L.length c) L))
  case atStart => exact ⟨0, Nat.zero_le _, by omega, rfl, Lib.hid ⟨by simpa [ptRk] using N10.out, O10.out⟩⟩
  case round =>
    clear N9 N10 O10
    obtain ⟨j, hj, hg, rfl, HM⟩ := hrel
    by_cases hlt : j < L.length
    · have hltz : (j : Int) < (L.length : Int) := by omega
      obtain ⟨A', c', hs', hr, -⟩ := HM.out.2.reads
      injection hs' with e1 _ e2
      subst e1; subst e2
      obtain ⟨rb, off, rfl, hb1, hb2, hc⟩ := hr.pos (by omega)
      obtain ⟨c1, c2⟩ := hc j hlt
      clear hc hr hb1 hb2
      have hbx : Below wr.heap.size wr (wr.alloc (.cells #[.int .i64 (rd L j), .int .i64 (ro L j)] 70)) := (Below.refl _ wr).alloc (Nat.le_refl _) _
      have k0 : Kr W0 (w1.heap.size + 1) W9.heap.size (.slice (some ⟨rb, off, none⟩) L.length c) L wr.heap.size (rd L j) (ro L j) (ptUk u ++ ptEk e ++ ptRk (L.take j)) (wr.alloc (.cells #[.int .i64 (rd L j), .int .i64 (ro L j)] 70)) :=
        ⟨HM.out.1.step hbx, HM.out.2.below hbx (Nat.le_refl _), heap_alloc_new wr _⟩
      have hrl : w1.heap.size + 1 < wr.heap.size := HM.out.1.lt
      obtain ⟨W2, hW2⟩ : ∃ W2, W2 = wr.alloc (.cells #[.int .i64 (rd L j), .int .i64 (ro L j)] 70) := ⟨_, rfl⟩
      rw [← hW2] at k0
      have hdd := HR.out.hd j hlt
      have hoo := HR.out.ho j hlt
      have hss : fits (sc11 (rd L j)) := by unfold fits sc11; omega
      have hta : ptUk u ++ ptEk e ++ ptRk (L.take j) ++ (ptL (sc11 (rd L j)) 0 ++ [9] ++ ptL (ro L j) 0 ++ [10]) = ptUk u ++ ptEk e ++ ptRk (L.take (j + 1)) := by rw [ptRk_at L hlt]; simp [ptLk]
      have hla := HL.out (j + 1) hlt
      rw [← hta] at hla
      simp only [List.length_append, List.length_cons, List.length_nil] at hla
      have q1 : ¬ 9223372036854775807 < (ptL (sc11 (rd L j)) 0).length + 1 := by omega
      have q2 : ¬ 9223372036854775807 < (ptL (sc11 (rd L j)) 0).length + 1 + (ptL (ro L j) 0).length := by omega
      have q3 : ¬ 9223372036854775807 < (ptL (sc11 (rd L j)) 0).length + 1 + (ptL (ro L j) 0).length + 1 := by omega
      obtain ⟨Q, hQ⟩ : ∃ Q, Q = Kr W0 (w1.heap.size + 1) W9.heap.size (.slice (some ⟨rb, off, none⟩) L.length c) L wr.heap.size (rd L j) (ro L j) (ptUk u ++ ptEk e ++ ptRk (L.take j)) := ⟨_, rfl⟩
      obtain ⟨Q2, hQ2⟩ : ∃ Q2, Q2 = Kr W0 (w1.heap.size + 1) W9.heap.size (.slice (some ⟨rb, off, none⟩) L.length c) L wr.heap.size (rd L j) (ro L j) (ptUk u ++ ptEk e ++ ptRk (L.take (j + 1))) := ⟨_, rfl⟩
      have hk : ∀ W, Q W → W.cell? ⟨wr.heap.size, 0, none⟩ = some (.int .i64 (rd L j)) ∧ W.cell? ⟨wr.heap.size, 1, none⟩ = some (.int .i64 (ro L j)) := fun W h => by subst hQ; exact h.cells
      have hk2 : ∀ W, Q2 W → W.cell? ⟨wr.heap.size, 0, none⟩ = some (.int .i64 (rd L j)) ∧ W.cell? ⟨wr.heap.size, 1, none⟩ = some (.int .i64 (ro L j)) := fun W h => by subst hQ2; exact h.cells
      have hsc : ∀ W, Q W → Calls Tryz.prog 39 #[.int .i64 (rd L j)] W fun x w' => x = .returned (.int .i64 (sc11 (rd L j))) ∧ Q w' := fun W h => by subst hQ; exact (HSC.out _ W hdd h.bs.bel).mono fun _ _ k => ⟨k.1, h.step k.2⟩
      have hd1 : ∀ W, Q W → Calls Tryz.prog 38 #[.int .i64 (sc11 (rd L j))] W fun x w' => x = .returned (.string ⟨(ptL (sc11 (rd L j)) 0).toArray⟩) ∧ Q w' := fun W h => by subst hQ; exact (HDG.out _ W hss h.bs.bel).mono fun _ _ k => ⟨k.1, h.step k.2⟩
      have hd2 : ∀ W, Q W → Calls Tryz.prog 38 #[.int .i64 (ro L j)] W fun x w' => x = .returned (.string ⟨(ptL (ro L j) 0).toArray⟩) ∧ Q w' := fun W h => by subst hQ; exact (HDG.out _ W hoo h.bs.bel).mono fun _ _ k => ⟨k.1, h.step k.2⟩
      have hwr : ∀ W, Q W → Calls Tryz.prog 37 #[.pointer (some ⟨w1.heap.size + 1, 0, none⟩), .string ⟨(ptL (sc11 (rd L j)) 0 ++ [9] ++ ptL (ro L j) 0 ++ [10]).toArray⟩] W fun x w' => (∃ v, x = .returned v) ∧ Q2 w' := fun W h => by
        subst hQ; subst hQ2
        rw [← hta]
        exact h.write (by simp only [List.length_append, List.length_cons, List.length_nil]; omega) L10.out hrl
      have hq2 : ∀ W, Q2 W → Bs W0 (w1.heap.size + 1) W (ptUk u ++ ptEk e ++ ptRk (L.take (j + 1))) ∧ Ow 70 W W9.heap.size (.slice (some ⟨rb, off, none⟩) L.length c) L := fun W h => by subst hQ2; exact ⟨h.bs, h.ow⟩
      have k1 : Q W2 := by subst hQ; exact k0
      have k2 : Q W2.drew := by subst hQ; exact k0.step (Below.refl _ W2).drew
      have HK := Lib.hid hk; have HK2 := Lib.hid hk2; have HS1 := Lib.hid hsc; have HD1 := Lib.hid hd1; have HD2 := Lib.hid hd2; have HW := Lib.hid hwr; have HQ2 := Lib.hid hq2
      obtain ⟨e1, e2⟩ := hk _ k1
      go_upto_region 10 with fail
      rw [← hW2]
      clear hW2 hQ hQ2 hk hk2 hsc hd1 hd2 hwr hq2 k0 hbx hdd hoo hss hta hla HM hrl c1 c2
      generalize ptL (sc11 (rd L j)) 0 = P1 at *
      generalize ptL (ro L j) 0 = P2 at *
      generalize sc11 (rd L j) = sd at *
      generalize rd L j = dd at *
      generalize ro L j = oo at *
      go_region_held3 (fun W => W.cell? ⟨wr.heap.size, 0, none⟩ = some (.int .i64 dd) ∧ W.cell? ⟨wr.heap.size, 1, none⟩ = some (.int .i64 oo))
        (first | exact HK.out _ (by assumption) | exact HK2.out _ (by assumption))
        (first
          | (go_at_call 39; refine (HS1.out _ (by assumption)).mono ?_; rintro x w3 ⟨rfl, hk3⟩)
          | (go_at_call 38; (with_reducible refine (HD1.out _ (by assumption)).mono ?_); (rintro x w4 ⟨rfl, hk4⟩))
          | (go_at_call 38; (with_reducible refine (HD2.out _ (by assumption)).mono ?_); (rintro x w5 ⟨rfl, hk5⟩))
          | (go_at_call 37; rw [cat_r]; refine (HW.out _ (by assumption)).mono ?_; rintro x w6 ⟨⟨vy, rfl⟩, hk6⟩))
      all_goals
        have HF := Lib.hid (HQ2.out _ (by assumption))
        go_wp2
        go_roundg (L.length - (j + 1))
        case measure => omega
        case rel => exact ⟨j + 1, by omega, by omega, by go_num, HF⟩
    · obtain rfl : j = L.length := by omega
      have hltz : ¬ (L.length : Int) < (L.length : Int) := by omega
      have hw8 := w8_len 5 (hxL V)
      have hll := HL.out _ (Nat.le_refl _)
      have M := Lib.hid HM.out.1
      have Z := Lib.hid (HST.out _ HM.out.1.bel).1
      rw [List.take_length] at M hll
      have e0 : ptTk L u e V = ptUk u ++ ptEk e ++ ptRk L ++ ([35, 104] ++ w8 5 (hxL V) ++ [10]) := rfl
      have E0 := Lib.hid e0
      clear e0
      have HWO := Lib.hid (fun W => words11_any V BL.out W)
      clear HM hg hj HUP HEX HRO HDG HSC HL hltz L10 HA HN HR
      have e3 : (w8 5 (hxL V)).length ≤ 45 := hw8
      clear hw8
      generalize w8 5 (hxL V) = S5 at *
      generalize ptUk u ++ ptEk e ++ ptRk L = T at *
      have q1 : ¬ 9223372036854775807 < 2 + S5.length := by omega
      have q2 : ¬ 9223372036854775807 < 2 + S5.length + 1 := by omega
      have hlm : T.length + ([35, 104] ++ S5 ++ [10]).length ≤ 10000000 := by simp only [List.length_append, List.length_cons, List.length_nil]; omega
      have HLM := Lib.hid hlm
      clear hlm hll
      go_wp2_with (first
        | (refine wpList_load_row rfl 49 (.tmp 4) rfl w1.heap.size rfl 49 (bc V).toArray (0, 0) _ Z.out dund rfl (by rw [dsize, List.size_toArray, bc_len, BL.out]) ?_)
        | (go_at_call 40; refine (HWO.out _).mono ?_; rintro x w12 ⟨rfl, hb⟩; have M12 := Lib.hid (M.out.step hb); clear hb)
        | (go_at_call 37; rw [cat_h]; refine (M12.out.write (m := [35, 104] ++ S5 ++ [10]) HLM.out).mono ?_; rintro x w13 ⟨⟨vz, rfl⟩, hn, -⟩; have M13 := Lib.hid hn; clear hn)
        | (go_at_call 41; refine (Tryz.Builder_String_any (w1.heap.size + 1) (w1.heap.size + 1) (T ++ ([35, 104] ++ S5 ++ [10])) w13 M13.out.bd M13.out.le).mono ?_; rintro x w14 ⟨rfl, hb⟩; have B14 := Lib.hid (HST.out _ (M13.out.bel.trans hb)).2; clear hb))
      go_ret2
      exact ⟨by rw [E0.out]; rfl, B14.out⟩

end Go.Proofs.YtiamggjebaabkaaGreatDoor
