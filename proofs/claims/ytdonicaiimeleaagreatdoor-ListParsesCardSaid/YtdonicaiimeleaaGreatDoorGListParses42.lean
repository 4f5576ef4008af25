/- Merged: ListAD. -/
import Derived.Test.YtdonicaiimeleaaGreatDoorGListParses35
import Derived.Test.YtdonicaiimeleaaGreatDoorGListParses34
import Derived.Test.YtdonicaiimeleaaGreatDoorGListParses41
import Derived.Test.YtdonicaiimeleaaGreatDoorGListParses19
import Derived.Test.YtdonicaiimeleaaGreatDoorGListParses27
import Derived.Deep.RegionHeld3
namespace Go.Proofs.YtdonicaiimeleaaGreatDoor
open Go.RowKit Go.WideShapes Go.ChangeShapes
set_option linter.unusedVariables false
set_option linter.unusedSimpArgs false

/-- The digits of rows. -/
def dgR (L : List Rw) : List UInt8 := L.flatMap fun r => ptL (sc11 r.d) 0 ++ ptL r.o 0
/-- A table's text, of which the digest is reckoned. -/
def dgT (L : List Rw) (u e : Int) : List UInt8 := ptL u 0 ++ ptL e 0 ++ dgR L
theorem tk_at (L : List Rw) {j : Nat} (hj : j < L.length) : L.take (j + 1) = L.take j ++ [⟨rd L j, ro L j⟩] := by
  have e : (⟨rd L j, ro L j⟩ : Rw) = L[j] := by simp [rd, ro, List.getD, List.getElem?_eq_getElem hj]
  rw [e]
  exact List.take_succ_eq_append_getElem hj
theorem dgR_at (L : List Rw) {j : Nat} (hj : j < L.length) : dgR (L.take (j + 1)) = dgR (L.take j) ++ (ptL (sc11 (rd L j)) 0 ++ ptL (ro L j) 0) := by
  rw [tk_at L hj]; simp [dgR]
theorem dgR_le (L : List Rw) (j : Nat) : (dgR (L.take j)).length ≤ (dgR L).length := by
  conv => rhs; rw [← List.take_append_drop j L]
  simp only [dgR, List.flatMap_append, List.length_append]; omega
theorem dgT_le (L : List Rw) (u e : Int) (j : Nat) : (dgT (L.take j) u e).length ≤ (dgT L u e).length := by
  have := dgR_le L j
  simp only [dgT, List.length_append]; omega

/-- Behind a builder's making: what lay before stands; the builder holds l. -/
structure Bs (W0 : World) (b : Nat) (W : World) (l : List UInt8) : Prop where
  bel : Below b W0 W
  bd : Bd W b b l
  le : b ≤ W.heap.size
theorem Bs.step {W0 W W' : World} {b : Nat} {l : List UInt8} (h : Bs W0 b W l) (hb : Below W.heap.size W W') : Bs W0 b W' l := ⟨h.bel.trans (hb.mono h.le), h.bd.below hb, Nat.le_trans h.le hb.size⟩
theorem Bs.lt {W0 W : World} {b : Nat} {l : List UInt8} (h : Bs W0 b W l) : b < W.heap.size := by
  rcases h.bd with ⟨_, v, h2, _⟩ | ⟨_, v, h2, _⟩
  · exact bk_lt h2
  · exact bk_lt h2
theorem Bs.new (W0 : World) : Bs W0 W0.heap.size (W0.alloc (.cells #[.pointer none, .slice none 0 0] 109)) [] := ⟨(Below.refl _ W0).alloc (Nat.le_refl _) _, Bd.new W0, by simp⟩
theorem Bs.write {W0 W : World} {b : Nat} {l m : List UInt8} (h : Bs W0 b W l) (hl : l.length + m.length ≤ 10000000) :
    Calls Tryz.prog 49 #[.pointer (some ⟨b, 0, none⟩), .string ⟨m.toArray⟩] W fun x w' => (∃ v, x = .returned v) ∧ Bs W0 b w' (l ++ m) ∧ Keep8 b W w' :=
  (writestring_any b b l m W h.bd hl h.le).mono fun _ _ k => ⟨k.1, ⟨h.bel.trans k.2.2.1, k.2.1, Nat.le_trans h.le k.2.2.1.size⟩, k.2.2.2⟩
theorem Ow.keep8 {w w' : World} {base b : Nat} {v : Value} {L : List Rw} (h : Ow 43 w base v L) (hk : Keep8 b w w') (hb : b < base) : Ow 43 w' base v L := by
  refine ⟨h.1, ?_⟩
  rcases h.2 with h0 | ⟨g, cap, cur, h1, h2, h3, h4⟩
  · exact .inl h0
  · exact .inr ⟨g, cap, cur, h1, h2, hk.2 g _ _ _ h3 (by decide) (by omega), h4⟩
/-- In a round: the rows too, and the row's box. -/
structure Kr (W0 : World) (b base : Nat) (v : Value) (L : List Rw) (r : Nat) (d o : Int) (l : List UInt8) (W : World) : Prop where
  bs : Bs W0 b W l
  ow : Ow 43 W base v L
  bx : W.heap[r]? = some (.cells #[.int .i64 d, .int .i64 o] 43 (0, 0))
theorem Kr.step {W0 W W' : World} {b base r : Nat} {v : Value} {L : List Rw} {d o : Int} {l : List UInt8} (h : Kr W0 b base v L r d o l W) (hb : Below W.heap.size W W') : Kr W0 b base v L r d o l W' :=
  ⟨h.bs.step hb, h.ow.below hb (Nat.le_refl _), (hb.block r (bk_lt h.bx)).trans h.bx⟩
theorem Kr.cells {W0 W : World} {b base r : Nat} {v : Value} {L : List Rw} {d o : Int} {l : List UInt8} (h : Kr W0 b base v L r d o l W) : W.cell? ⟨r, 0, none⟩ = some (.int .i64 d) ∧ W.cell? ⟨r, 1, none⟩ = some (.int .i64 o) := ⟨bk_cell h.bx 0, bk_cell h.bx 1⟩
theorem Kr.write {W0 W : World} {b base r : Nat} {v : Value} {L : List Rw} {d o : Int} {l m : List UInt8} (h : Kr W0 b base v L r d o l W) (hl : l.length + m.length ≤ 10000000) (h1 : b < base) (h2 : b < r) :
    Calls Tryz.prog 49 #[.pointer (some ⟨b, 0, none⟩), .string ⟨m.toArray⟩] W fun x w' => (∃ v, x = .returned v) ∧ Kr W0 b base v L r d o (l ++ m) w' :=
  (h.bs.write hl).mono fun _ _ k => ⟨k.1, k.2.1, h.ow.keep8 k.2.2 h1, k.2.2.2 r _ _ _ h.bx (by decide) (by omega)⟩

/-- Twenty zeros. -/
abbrev z20 : Array Value := #[.int .u8 0, .int .u8 0, .int .u8 0, .int .u8 0, .int .u8 0, .int .u8 0, .int .u8 0, .int .u8 0, .int .u8 0, .int .u8 0, .int .u8 0, .int .u8 0, .int .u8 0, .int .u8 0, .int .u8 0, .int .u8 0, .int .u8 0, .int .u8 0, .int .u8 0, .int .u8 0]
/-- A table's rows, of which the digest may be reckoned. -/
structure Rows11 (L : List Rw) (u e : Int) : Prop where
  hu : fits u
  he : fits e
  hn : L.length ≤ 10000
  hd : ∀ j, j < L.length → -100000000 ≤ rd L j ∧ rd L j ≤ 100000000
  ho : ∀ j, j < L.length → fits (ro L j)
  hl : (dgT L u e).length ≤ 10000
set_option maxRecDepth 100000 in
set_option maxHeartbeats 4000000 in
theorem digest11_any {lo : Nat} {w : World} {g : Nat} {L : List Rw} {u e : Int} (h : Tb lo w g L u e) (hR : Rows11 L u e) (ht : Tab w) (hp : Eps w) (hs : Start w) :
    Calls Tryz.prog 27 #[.pointer (some ⟨g, 0, none⟩)] w fun x w' => x = .returned (.tuple #[.agg (bc (byt (dig (dgT L u e)))).toArray, ev 0]) ∧ Below w.heap.size w w' := by
  obtain ⟨W0, hW0⟩ : ∃ W0, W0 = w.alloc (.cells z20 74) := ⟨_, rfl⟩
  have b0 : Below w.heap.size w W0 := by rw [hW0]; exact (Below.refl _ w).alloc (Nat.le_refl _) _
  have z0 : Bt 74 W0 w.heap.size (List.replicate 20 0) := by rw [hW0]; exact heap_alloc_new w _
  have s0 : W0.heap.size = w.heap.size + 1 := by rw [hW0]; simp
  have n0 := Bs.new W0
  rw [s0] at n0
  obtain ⟨W1, hW1⟩ : ∃ W1, W1 = W0.alloc (.cells #[.pointer none, .slice none 0 0] 109) := ⟨_, rfl⟩
  rw [← hW1] at n0
  have hb : ∀ {W : World}, Below (w.heap.size + 1) W0 W → Below W0.heap.size W0 W := fun h => by rw [s0]; exact h
  have hup : ∀ W, Below (w.heap.size + 1) W0 W → Calls Tryz.prog 21 #[.pointer (some ⟨g, 0, none⟩)] W fun x w' => x = .returned (.int .i64 u) ∧ W = w' := fun W h1 => updated_any ((h.below b0).below (hb h1)).v
  have hex : ∀ W, Below (w.heap.size + 1) W0 W → Calls Tryz.prog 22 #[.pointer (some ⟨g, 0, none⟩)] W fun x w' => x = .returned (.int .i64 e) ∧ W = w' := fun W h1 => expires_any ((h.below b0).below (hb h1)).v
  have hro : ∀ W, Below (w.heap.size + 1) W0 W → Calls Tryz.prog 20 #[.pointer (some ⟨g, 0, none⟩)] W fun x w' => ∃ A c, x = .returned (.slice A L.length c) ∧ Ow 43 w' W.heap.size (.slice A L.length c) L ∧ Below W.heap.size W w' := fun W h1 =>
    (rows_any ((h.below b0).below (hb h1)).v (by have := hR.hn; omega)).mono fun x w' ⟨v, h2, h3, h4⟩ => by
      obtain ⟨A, c, rfl, -⟩ := h3.reads
      exact ⟨A, c, h2, h3, h4⟩
  have hdg : ∀ n W, fits n → Below (w.heap.size + 1) W0 W → Calls Tryz.prog 50 #[.int .i64 n] W fun x w' => x = .returned (.string ⟨(ptL n 0).toArray⟩) ∧ Below W.heap.size W w' := fun n W hn h1 => digits11_any n W hn ((ht.below b0).below (hb h1))
  have hsc : ∀ d W, (-100000000 ≤ d ∧ d ≤ 100000000) → Below (w.heap.size + 1) W0 W → Calls Tryz.prog 51 #[.int .i64 d] W fun x w' => x = .returned (.int .i64 (sc11 d)) ∧ Below W.heap.size W w' := fun d W hd h1 => seconds_any d W ((hp.below b0).below (hb h1)) hd
  have hst : ∀ W, Below (w.heap.size + 1) W0 W → Start W ∧ Bt 74 W w.heap.size (List.replicate 20 0) ∧ Below w.heap.size w W := fun W h1 => ⟨(hs.below b0).below (hb h1), z0.below (hb h1) z0.lt, b0.trans (h1.mono (by omega))⟩
  have HUP := Lib.hid hup; have HEX := Lib.hid hex; have HRO := Lib.hid hro; have HDG := Lib.hid hdg; have HSC := Lib.hid hsc; have HST := Lib.hid hst
  have N0 := Lib.hid n0
  have HR := Lib.hid hR
  have hsa : (ptL u 0).length + (ptL e 0).length ≤ 10000 := by have := dgT_le L u e 0; have := hR.hl; simp [dgT, dgR] at *; omega
  have HA := Lib.hid hsa
  obtain ⟨V, hV⟩ : ∃ V, V = byt (dig (dgT L u e)) := ⟨_, rfl⟩
  rw [← hV]
  have HV := Lib.hid hV
  clear hup hex hro hdg hsc hst n0 h hR ht hp hs b0 z0 hb hsa hV
  go_enter Tryz.func27, Tryz.ntmps27
  go_upto_region 1 with fail
  rw [← hW0]
  clear hW0
  go_upto_region 4 with fail
  rw [← hW1]
  clear hW1
  have q1 : ¬ 9223372036854775807 < (ptL u 0).length + (ptL e 0).length := by have := HA.out; omega
  go_upto_region 5 with (first
    | (go_at_call 21; refine (HUP.out _ N0.out.bel).mono ?_; rintro x W2 ⟨rfl, rfl⟩)
    | (go_at_call 50; (with_reducible refine (HDG.out u _ HR.out.hu N0.out.bel).mono ?_); (rintro x W3 ⟨rfl, hb⟩; have N3 := Lib.hid (N0.out.step hb); clear hb))
    | (go_at_call 22; refine (HEX.out _ N3.out.bel).mono ?_; rintro x W4 ⟨rfl, rfl⟩)
    | (go_at_call 50; (with_reducible refine (HDG.out e _ HR.out.he N3.out.bel).mono ?_); (rintro x W5 ⟨rfl, hb⟩; have N5 := Lib.hid (N3.out.step hb); clear hb))
    | (go_at_call 49; rw [bs_append]; refine (N5.out.write (m := ptL u 0 ++ ptL e 0) (by have := HA.out; simp only [List.length_append, List.length_nil]; omega)).mono ?_; rintro x W6 ⟨⟨vx, rfl⟩, hn6, -⟩; have N6 := Lib.hid hn6; clear hn6))
  rw [List.nil_append] at N6
  clear N0 N3 N5
  go_upto_region 6 with (go_at_call 20; refine (HRO.out _ N6.out.bel).mono ?_; rintro x W7 ⟨A, c, rfl, hO, hb⟩; have O7 := Lib.hid hO; have N7 := Lib.hid (N6.out.step hb); have L7 := Lib.hid N6.out.lt; clear hb hO)
  have hl : ∀ j, j ≤ L.length → (ptL u 0 ++ ptL e 0 ++ dgR (L.take j)).length ≤ 10000 := fun j _ => Nat.le_trans (dgT_le L u e j) HR.out.hl
  have HL := Lib.hid hl
  clear hl
  have HN := HR.out.hn
  go_loopg [22] L.length (fun gg i wr => ∃ j : Nat, j ≤ L.length ∧ L.length - j ≤ gg ∧ i = .int .i64 j ∧ Hid (Bs W0 (w.heap.size + 1) wr (ptL u 0 ++ ptL e 0 ++ dgR (L.take j)) ∧ Ow 43 wr W6.heap.size (.slice A L.length c) L))
  case atStart => exact ⟨0, Nat.zero_le _, by omega, rfl, Lib.hid ⟨by simpa [dgR] using N7.out, O7.out⟩⟩
  case round =>
    clear N6 N7 O7
    obtain ⟨j, hj, hg, rfl, HM⟩ := hrel
    by_cases hlt : j < L.length
    · have hltz : (j : Int) < (L.length : Int) := by omega
      obtain ⟨A', c', hs', hr, -⟩ := HM.out.2.reads
      injection hs' with e1 _ e2
      subst e1; subst e2
      obtain ⟨rb, off, rfl, hb1, hb2, hc⟩ := hr.pos (by omega)
      obtain ⟨c1, c2⟩ := hc j hlt
      clear hc hr hb1 hb2
      have hbx : Below wr.heap.size wr (wr.alloc (.cells #[.int .i64 (rd L j), .int .i64 (ro L j)] 43)) := (Below.refl _ wr).alloc (Nat.le_refl _) _
      have k0 : Kr W0 (w.heap.size + 1) W6.heap.size (.slice (some ⟨rb, off, none⟩) L.length c) L wr.heap.size (rd L j) (ro L j) (ptL u 0 ++ ptL e 0 ++ dgR (L.take j)) (wr.alloc (.cells #[.int .i64 (rd L j), .int .i64 (ro L j)] 43)) :=
        ⟨HM.out.1.step hbx, HM.out.2.below hbx (Nat.le_refl _), heap_alloc_new wr _⟩
      have hrl : w.heap.size + 1 < wr.heap.size := HM.out.1.lt
      obtain ⟨W2, hW2⟩ : ∃ W2, W2 = wr.alloc (.cells #[.int .i64 (rd L j), .int .i64 (ro L j)] 43) := ⟨_, rfl⟩
      rw [← hW2] at k0
      have hdd := HR.out.hd j hlt
      have hoo := HR.out.ho j hlt
      have hss : fits (sc11 (rd L j)) := by unfold fits sc11; omega
      have hta : ptL u 0 ++ ptL e 0 ++ dgR (L.take j) ++ (ptL (sc11 (rd L j)) 0 ++ ptL (ro L j) 0) = ptL u 0 ++ ptL e 0 ++ dgR (L.take (j + 1)) := by rw [dgR_at L hlt]; simp
      have hla := HL.out (j + 1) hlt
      rw [← hta] at hla
      simp only [List.length_append] at hla
      have q2 : ¬ 9223372036854775807 < (ptL (sc11 (rd L j)) 0).length + (ptL (ro L j) 0).length := by omega
      obtain ⟨Q, hQ⟩ : ∃ Q, Q = Kr W0 (w.heap.size + 1) W6.heap.size (.slice (some ⟨rb, off, none⟩) L.length c) L wr.heap.size (rd L j) (ro L j) (ptL u 0 ++ ptL e 0 ++ dgR (L.take j)) := ⟨_, rfl⟩
      obtain ⟨Q2, hQ2⟩ : ∃ Q2, Q2 = Kr W0 (w.heap.size + 1) W6.heap.size (.slice (some ⟨rb, off, none⟩) L.length c) L wr.heap.size (rd L j) (ro L j) (ptL u 0 ++ ptL e 0 ++ dgR (L.take (j + 1))) := ⟨_, rfl⟩
      have hk : ∀ W, Q W → W.cell? ⟨wr.heap.size, 0, none⟩ = some (.int .i64 (rd L j)) ∧ W.cell? ⟨wr.heap.size, 1, none⟩ = some (.int .i64 (ro L j)) := fun W h => by subst hQ; exact h.cells
      have hk2 : ∀ W, Q2 W → W.cell? ⟨wr.heap.size, 0, none⟩ = some (.int .i64 (rd L j)) ∧ W.cell? ⟨wr.heap.size, 1, none⟩ = some (.int .i64 (ro L j)) := fun W h => by subst hQ2; exact h.cells
      have hsc : ∀ W, Q W → Calls Tryz.prog 51 #[.int .i64 (rd L j)] W fun x w' => x = .returned (.int .i64 (sc11 (rd L j))) ∧ Q w' := fun W h => by subst hQ; exact (HSC.out _ W hdd h.bs.bel).mono fun _ _ k => ⟨k.1, h.step k.2⟩
      have hd1 : ∀ W, Q W → Calls Tryz.prog 50 #[.int .i64 (sc11 (rd L j))] W fun x w' => x = .returned (.string ⟨(ptL (sc11 (rd L j)) 0).toArray⟩) ∧ Q w' := fun W h => by subst hQ; exact (HDG.out _ W hss h.bs.bel).mono fun _ _ k => ⟨k.1, h.step k.2⟩
      have hd2 : ∀ W, Q W → Calls Tryz.prog 50 #[.int .i64 (ro L j)] W fun x w' => x = .returned (.string ⟨(ptL (ro L j) 0).toArray⟩) ∧ Q w' := fun W h => by subst hQ; exact (HDG.out _ W hoo h.bs.bel).mono fun _ _ k => ⟨k.1, h.step k.2⟩
      have hwr : ∀ W, Q W → Calls Tryz.prog 49 #[.pointer (some ⟨w.heap.size + 1, 0, none⟩), .string ⟨(ptL (sc11 (rd L j)) 0 ++ ptL (ro L j) 0).toArray⟩] W fun x w' => (∃ v, x = .returned v) ∧ Q2 w' := fun W h => by
        subst hQ; subst hQ2
        rw [← hta]
        exact h.write (by simp only [List.length_append]; omega) L7.out hrl
      have hq2 : ∀ W, Q2 W → Bs W0 (w.heap.size + 1) W (ptL u 0 ++ ptL e 0 ++ dgR (L.take (j + 1))) ∧ Ow 43 W W6.heap.size (.slice (some ⟨rb, off, none⟩) L.length c) L := fun W h => by subst hQ2; exact ⟨h.bs, h.ow⟩
      have k1 : Q W2 := by subst hQ; exact k0
      have k2 : Q W2.drew := by subst hQ; exact k0.step (Below.refl _ W2).drew
      have HK := Lib.hid hk; have HK2 := Lib.hid hk2; have HS1 := Lib.hid hsc; have HD1 := Lib.hid hd1; have HD2 := Lib.hid hd2; have HW := Lib.hid hwr; have HQ2 := Lib.hid hq2
      obtain ⟨e1, e2⟩ := hk _ k1
      go_upto_region 8 with fail
      rw [← hW2]
      clear hW2 hQ hQ2 hk hk2 hsc hd1 hd2 hwr hq2 k0 hbx hdd hoo hss hta hla HM hrl c1 c2
      generalize ptL (sc11 (rd L j)) 0 = P1 at *
      generalize ptL (ro L j) 0 = P2 at *
      generalize sc11 (rd L j) = sd at *
      generalize rd L j = dd at *
      generalize ro L j = oo at *
      go_region_held3 (fun W => W.cell? ⟨wr.heap.size, 0, none⟩ = some (.int .i64 dd) ∧ W.cell? ⟨wr.heap.size, 1, none⟩ = some (.int .i64 oo))
        (first | exact HK.out _ (by assumption) | exact HK2.out _ (by assumption))
        (first
          | (go_at_call 51; refine (HS1.out _ (by assumption)).mono ?_; rintro x w3 ⟨rfl, hk3⟩)
          | (go_at_call 50; (with_reducible refine (HD1.out _ (by assumption)).mono ?_); (rintro x w4 ⟨rfl, hk4⟩))
          | (go_at_call 50; (with_reducible refine (HD2.out _ (by assumption)).mono ?_); (rintro x w5 ⟨rfl, hk5⟩))
          | (go_at_call 49; rw [bs_append]; refine (HW.out _ (by assumption)).mono ?_; rintro x w6 ⟨⟨vy, rfl⟩, hk6⟩))
      all_goals
        have HF := Lib.hid (HQ2.out _ (by assumption))
        go_wp2
        go_roundg (L.length - (j + 1))
        case measure => omega
        case rel => exact ⟨j + 1, by omega, by omega, by go_num, HF⟩
    · obtain rfl : j = L.length := by omega
      have hltz : ¬ (L.length : Int) < (L.length : Int) := by omega
      have M := Lib.hid HM.out.1
      rw [List.take_length] at M
      have M' : Hid (Bs W0 (w.heap.size + 1) wr (dgT L u e)) := M
      clear M HM hg hj HUP HEX HRO HDG HSC HL hltz L7 q1 HA HN
      have HRL := Lib.hid HR.out.hl
      have BL := Lib.hid (show V.length = 20 by rw [HV.out]; exact byt_len _)
      clear HR
      generalize dgT L u e = T at *
      have hS := Tryz.Builder_String_any (w.heap.size + 1) (w.heap.size + 1) T wr M'.out.bd M'.out.le
      have HS := Lib.hid hS
      clear hS
      go_wp2_with (go_at_call 53; refine HS.out.mono ?_; rintro x W8 ⟨rfl, hb8⟩; obtain ⟨c9, W9, hstr, r1, r2, r3, r4, r5⟩ := of_string W8 ⟨T.toArray⟩ (by have := HRL.out; simp [ByteArray.size]; omega); have r0 : (⟨T.toArray⟩ : ByteArray).size = T.length := (by simp [ByteArray.size]); rw [r0] at hstr r2; have HX := Lib.hid (And.intro (M'.out.bel.trans (hb8.trans (r4.mono (Nat.le_trans M'.out.le hb8.size)))) (And.intro r1 r2)); clear hb8 r0 r1 r2 r3 r4 r5)
      refine (ssum_any _ T c9 W9 (HST.out _ HX.out.1).1 (by simpa using HX.out.2.1) (fun h => by cases h) HX.out.2.2 HRL.out).mono ?_
      rintro x W10 ⟨rfl, hb10⟩
      rw [← HV.out]
      have X10 := Lib.hid (HX.out.1.trans (hb10.mono (by have := HX.out.1.size; omega)))
      have Z10 := Lib.hid (HST.out _ X10.out).2.1
      have B10 := Lib.hid (HST.out _ X10.out).2.2
      clear hb10 HX X10 HS HV hstr
      go_wp2_with (refine wpList_store_row rfl 74 (.tmp 2) (.tmp 38) rfl w.heap.size (bc V).toArray rfl rfl 74 (bc (List.replicate 20 0)).toArray Z10.out (by rw [dsize, List.size_toArray, bc_len, BL.out]) (by rw [List.size_toArray, List.size_toArray, bc_len, bc_len, BL.out]; rfl) (bc_all _) ?_)
      refine bodyPost_ret (results_row_tmp rfl _ _ w.heap.size 74 (bc V).toArray (0, 0) _ rfl (setRow_heap _ w.heap.size _ _ _ _ Z10.out) dund rfl (by rw [dsize, List.size_toArray, bc_len, BL.out])) rfl ⟨rfl, ?_⟩
      exact below_setRow B10.out (Nat.le_refl _) _

end Go.Proofs.YtdonicaiimeleaaGreatDoor
