/- The document's scanner: Word. -/
import Derived.Test.YtelogbkhplegaaaDocC
import Derived.Test.YtelogbkhplegaaaHeld
import Derived.Deep.RegionHeld3
namespace Go.Proofs.Ytelogbkhplegaaa
open Go.RowKit
set_option linter.unusedVariables false

theorem wset {w : World} {g : Nat} {cs : Array Value} {t : TypeId} (h : w.heap[g]? = some (.cells cs t (0, 0))) (i : Nat) (u : Value) : (w.setCell ⟨g, i, none⟩ u).heap[g]? = some (.cells (cs.setIfInBounds i u) t (0, 0)) := by
  simp [World.setCell, Array.getElem?_modify, h]
set_option maxHeartbeats 3200000 in
theorem word_d (s : ByteArray) (k : Nat) (e : Int) (L : Option Addr) (ws : List ByteArray) (cl : Nat) (w : World) (hk : k ≤ s.size) (hs : s.size ≤ 1000)
    (hL : Rst w L ws) (hLn : ws.length ≤ 100) (hLw : ∀ z ∈ ws, z.size ≤ 1000) :
    Calls Try.prog 38 #[dm s k e, .slice L ws.length cl] w fun x w' =>
      x = .returned (.tuple #[.int .i64 (wdI (rs s.data.toList k e) e 0 ws), dm s (k + wdN (rs s.data.toList k e) e ws) (wdE (rs s.data.toList k e) e ws)]) ∧ Below w.heap.size w w' := by
  have HF := fun word W hw => fold_d s k e word W hk hs hw
  have HL := Lib.hid hL
  have HLw := Lib.hid hLw
  generalize rs s.data.toList k e = r at *
  obtain ⟨I, hI⟩ : ∃ I, I = wdI r e 0 ws := ⟨_, rfl⟩
  obtain ⟨N, hN⟩ : ∃ N, N = wdN r e ws := ⟨_, rfl⟩
  obtain ⟨E, hE⟩ : ∃ E, E = wdE r e ws := ⟨_, rfl⟩
  rw [← hI, ← hN, ← hE]
  have HI := Lib.hid hI; have HN := Lib.hid hN; have HE := Lib.hid hE
  obtain ⟨nn, hnn⟩ : ∃ nn, nn = ws.length := ⟨_, rfl⟩
  rw [← hnn] at hLn ⊢
  have HNN := Lib.hid hnn
  have HFH := Lib.hid HF
  clear hL hLw hI hN hE hnn HF
  go_enter Try.func38, Try.ntmps38
  go_upto_region 1 with fail
  obtain ⟨hp0, hq0⟩ := two w s k e
  have hb0 := below_two w (.cells #[.string s, .int .i64 (k : Int), .int .i64 e] Td) (.cells #[.string ⟨#[]⟩, .int .i64 0, .int .i64 0] Td)
  generalize hW0 : World.alloc (World.alloc w _) _ = W0 at hp0 hq0 hb0 ⊢
  clear hW0
  obtain ⟨q, hq⟩ : ∃ q, q = w.heap.size + 1 := ⟨_, rfl⟩
  obtain ⟨p, hp⟩ : ∃ p, p = w.heap.size := ⟨_, rfl⟩
  rw [← hq] at hq0 ⊢
  rw [← hp] at hp0 ⊢
  have HPW : RowKit.Hid (w.heap.size ≤ p) := by rw [hp]; exact Nat.le_refl _
  have HQW : RowKit.Hid (w.heap.size ≤ q) := by rw [hq]; exact Nat.le_succ _
  have hpq : p ≠ q := by omega
  have HPQ := Lib.hid hpq
  have P0 := Lib.hid hp0; have Q0 := Lib.hid hq0; have B0 := Lib.hid hb0
  clear hp0 hq0 hb0 hq hp hpq
  go_wp2_with fail
  go_loopw [6, 7, 8] (fun z _ _ wr => ∃ i : Nat, z = .int .i64 i ∧ i ≤ nn ∧ Hid (I = wdI r e i (ws.drop i)) ∧ Hid (N = wdN r e (ws.drop i)) ∧ Hid (E = wdE r e (ws.drop i)) ∧ Hid (Dk wr p s k e) ∧ Hid (Dk wr q ⟨#[]⟩ 0 0) ∧ Hid (Below w.heap.size w wr)) (fun z _ _ _ => nn - (intOf z).toNat)
  case atStart => exact ⟨0, rfl, Nat.zero_le _, HI, HN, HE, P0, Q0, B0⟩
  case round =>
    obtain ⟨i, rfl, hi, HI1, HN1, HE1, P1, Q1, B1⟩ := hrel
    clear HI HN HE
    by_cases hlt : i < nn
    · have hlt' : i < ws.length := by have := HNN.out; omega
      obtain ⟨b, off, z, hz, hb1, hb2, hcell⟩ := (HL.out.below B1.out).cell hlt'
      have hsz := HLw.out z (List.mem_of_getElem? hz)
      have HZ := Lib.hid hz
      subst hb1
      have k1 := P1.out.c0; have k2 := P1.out.c1; have k3 := P1.out.c2
      have HK := Lib.hid hcell
      clear hz hlt' hb2
      have HF1 := fun W => HFH.out z W hsz
      cases hf : fdT r e z.data.toList
      · rw [hf, fd_no hf] at HF1
        obtain ⟨s1, s2, s3⟩ := wd_step HZ.out hf
        have HN2 : RowKit.Hid (N = wdN r e (ws.drop (i + 1))) := HN1.out.trans s2
        have HI2 : RowKit.Hid (I = wdI r e (i + 1) (ws.drop (i + 1))) := HI1.out.trans s1
        have HE2 : RowKit.Hid (E = wdE r e (ws.drop (i + 1))) := HE1.out.trans s3
        have HFI := Lib.hid HF1
        clear hf s1 s2 s3 HF1 HI1 HN1 HE1
        go_upto_region 4 with fail
        go_region_held3 (fun w' => w'.cell? ⟨p, 0, none⟩ = some (.string s) ∧ w'.cell? ⟨p, 1, none⟩ = some (.int .i64 (k : Int)) ∧ w'.cell? ⟨p, 2, none⟩ = some (.int .i64 e) ∧ w'.cell? ⟨b, off + i, none⟩ = some (.string z) ∧ Below wr.heap.size wr w')
          (first | exact heldd4 (Below.refl _ _).drew k1 k2 k3 hcell | exact heldd4 (by assumption) k1 k2 k3 hcell | exact heldd4 ((Below.refl _ _).alloc (Nat.le_refl _) _).drew k1 k2 k3 hcell | exact heldd4 (Below.alloc (by assumption) (Below.size (by assumption)) _) k1 k2 k3 hcell | exact heldput (by assumption) _ (Nat.le_refl _) _ _ _ k1 k2 k3 hcell)
          (first
            | (go_at_call 33; go_split_ands; refine (HFI.out _).mono ?_; rintro x w3 ⟨rfl, hb3⟩; have hB3 : Below wr.heap.size wr w3 := by first | exact Below.trans (by assumption) (hb3.mono (Below.size (w := wr) (B := wr.heap.size) (by assumption))) | exact (((Below.refl _ _).alloc (Nat.le_refl _) _).drew).trans (hb3.mono (by simp))); try (have hn := (hb3.block wr.heap.size (by simp)).trans (heap_alloc_new wr (.cells #[.string ⟨#[]⟩, .int .i64 0, .int .i64 0] Td)); have n0 := whole_cell hn 0; have n1 := whole_cell hn 1; have n2 := whole_cell hn 2; have m0 := whole_free hn 0; have m1 := whole_free hn 1; have m2 := whole_free hn 2; have HNN3 := Lib.hid hn; clear hn))
        · have hB4 := Below.alloc hB3 hB3.size (.cells #[.string s, .int .i64 (k : Int), .int .i64 e] Td)
          generalize World.alloc w3 _ = W4 at hB4 ⊢
          have HB4 := Lib.hid hB4
          clear hB4 hB3 hb3
          go_wp2
          go_roundw
          case rel => exact ⟨i + 1, by go_num, by omega, HI2, HN2, HE2, P1.out.below HB4.out P1.out.lt, Q1.out.below HB4.out Q1.out.lt, B1.out.trans (HB4.out.mono B1.out.size)⟩
          case measure => simp [intOf]; omega
        · have hB4 := ((hB3.setCell (p := ⟨wr.heap.size, 0, none⟩) (Nat.le_refl _) (.string s)).setCell (p := ⟨wr.heap.size, 1, none⟩) (Nat.le_refl _) (.int .i64 (k : Int))).setCell (p := ⟨wr.heap.size, 2, none⟩) (Nat.le_refl _) (.int .i64 e)
          generalize World.setCell (World.setCell (World.setCell w3 _ _) _ _) _ _ = W4 at hB4 ⊢
          have HB4 := Lib.hid hB4
          clear hB4 hB3 hb3
          go_wp2
          go_roundw
          case rel => exact ⟨i + 1, by go_num, by omega, HI2, HN2, HE2, P1.out.below HB4.out P1.out.lt, Q1.out.below HB4.out Q1.out.lt, B1.out.trans (HB4.out.mono B1.out.size)⟩
          case measure => simp [intOf]; omega
      · rw [hf, fd_yes hf] at HF1
        obtain ⟨s1, s2, s3⟩ := wd_hit HZ.out hf
        obtain rfl : I = (i : Int) := HI1.out.trans s1
        obtain rfl : e = E := (HE1.out.trans s3).symm
        have hN2 := HN1.out.trans s2
        rw [← hN2] at HF1
        obtain ⟨K, hK⟩ : ∃ K, K = k + N := ⟨_, rfl⟩
        rw [← hK] at HF1
        have HKK := Lib.hid hK
        have HFI := Lib.hid HF1
        clear hf s1 s2 s3 HF1 HI1 HN1 HE1 hN2 hK
        go_upto_region 4 with fail
        go_region_held3 (fun w' => w'.cell? ⟨p, 0, none⟩ = some (.string s) ∧ w'.cell? ⟨p, 1, none⟩ = some (.int .i64 (k : Int)) ∧ w'.cell? ⟨p, 2, none⟩ = some (.int .i64 e) ∧ w'.cell? ⟨b, off + i, none⟩ = some (.string z) ∧ Below wr.heap.size wr w')
          (first | exact heldd4 (Below.refl _ _).drew k1 k2 k3 hcell | exact heldd4 (by assumption) k1 k2 k3 hcell | exact heldd4 ((Below.refl _ _).alloc (Nat.le_refl _) _).drew k1 k2 k3 hcell | exact heldd4 (Below.alloc (by assumption) (Below.size (by assumption)) _) k1 k2 k3 hcell | exact heldput (by assumption) _ (Nat.le_refl _) _ _ _ k1 k2 k3 hcell)
          (first
            | (go_at_call 33; go_split_ands; refine (HFI.out _).mono ?_; rintro x w3 ⟨rfl, hb3⟩; have hB3 : Below wr.heap.size wr w3 := by first | exact Below.trans (by assumption) (hb3.mono (Below.size (w := wr) (B := wr.heap.size) (by assumption))) | exact (((Below.refl _ _).alloc (Nat.le_refl _) _).drew).trans (hb3.mono (by simp))); try (have hn := (hb3.block wr.heap.size (by simp)).trans (heap_alloc_new wr (.cells #[.string ⟨#[]⟩, .int .i64 0, .int .i64 0] Td)); have n0 := whole_cell hn 0; have n1 := whole_cell hn 1; have n2 := whole_cell hn 2; have m0 := whole_free hn 0; have m1 := whole_free hn 1; have m2 := whole_free hn 2; have HNN3 := Lib.hid hn; clear hn))
        · have hB4 := Below.alloc hB3 hB3.size (.cells #[.string s, .int .i64 (K : Int), .int .i64 e] Td)
          have hD4 : Dk (w3.alloc (.cells #[.string s, .int .i64 (K : Int), .int .i64 e] Td)) w3.heap.size s K e := heap_alloc_new w3 _
          have HG : RowKit.Hid (wr.heap.size ≤ w3.heap.size) := hB3.size
          generalize World.alloc w3 _ = W4 at hB4 hD4 ⊢
          have HB4 := Lib.hid hB4
          have HD4 := Lib.hid hD4
          clear hB4 hB3 hb3 hD4
          generalize w3.heap.size = g8 at *
          have Q4 := Lib.hid (Q1.out.below HB4.out Q1.out.lt)
          have B4 := Lib.hid (B1.out.trans (HB4.out.mono B1.out.size))
          clear k1 k2 k3 hcell
          have d0 := HD4.out.c0; have d1 := HD4.out.c1; have d2 := HD4.out.c2
          have q0 := Q4.out.c0; have q1 := Q4.out.c1; have q2 := Q4.out.c2
          have f0 := Q4.out.free 0; have f1 := Q4.out.free 1; have f2 := Q4.out.free 2
          go_wp2
          go_region
          go_wp2
          refine bodyPost_ret (v := .tuple #[.int .i64 (i : Int), dm s K e]) (by simp [results, Try.results38, go_sem, q0, q1, q2]) rfl ⟨?_, (below_put B4.out HQW.out _ _ _).drew⟩
          rw [HKK.out]
        · have hB4 := ((hB3.setCell (p := ⟨wr.heap.size, 0, none⟩) (Nat.le_refl _) (.string s)).setCell (p := ⟨wr.heap.size, 1, none⟩) (Nat.le_refl _) (.int .i64 (K : Int))).setCell (p := ⟨wr.heap.size, 2, none⟩) (Nat.le_refl _) (.int .i64 e)
          have hD4 : Dk (((w3.setCell ⟨wr.heap.size, 0, none⟩ (.string s)).setCell ⟨wr.heap.size, 1, none⟩ (.int .i64 (K : Int))).setCell ⟨wr.heap.size, 2, none⟩ (.int .i64 e)) wr.heap.size s K e := by
            have := wset (wset (wset HNN3.out 0 (.string s)) 1 (.int .i64 (K : Int))) 2 (.int .i64 e)
            exact this
          generalize World.setCell (World.setCell (World.setCell w3 _ _) _ _) _ _ = W4 at hB4 hD4 ⊢
          have HB4 := Lib.hid hB4
          have HD4 := Lib.hid hD4
          have HNE : RowKit.Hid (q ≠ wr.heap.size) := by have := Q1.out.lt; show q ≠ _; omega
          clear hB4 hB3 hb3 hD4 n0 n1 n2 m0 m1 m2 HNN3
          have HG : RowKit.Hid (wr.heap.size ≤ wr.heap.size) := Nat.le_refl _
          obtain ⟨g8, hg8⟩ : ∃ g8, g8 = wr.heap.size := ⟨_, rfl⟩
          rw [← hg8] at HD4 ⊢
          clear hg8
          have Q4 := Lib.hid (Q1.out.below HB4.out Q1.out.lt)
          have B4 := Lib.hid (B1.out.trans (HB4.out.mono B1.out.size))
          clear k1 k2 k3 hcell
          have d0 := HD4.out.c0; have d1 := HD4.out.c1; have d2 := HD4.out.c2
          have q0 := Q4.out.c0; have q1 := Q4.out.c1; have q2 := Q4.out.c2
          have f0 := Q4.out.free 0; have f1 := Q4.out.free 1; have f2 := Q4.out.free 2
          go_wp2
          go_region
          go_wp2
          refine bodyPost_ret (v := .tuple #[.int .i64 (i : Int), dm s K e]) (by simp [results, Try.results38, go_sem, q0, q1, q2]) rfl ⟨?_, (below_put B4.out HQW.out _ _ _).drew⟩
          rw [HKK.out]
    · obtain ⟨s1, s2, s3⟩ := wd_end (r := r) (e := e) (ws := ws) (j := i) (by have := HNN.out; omega)
      obtain rfl : I = -1 := HI1.out.trans s1
      obtain rfl : N = 0 := HN1.out.trans s2
      obtain rfl : E = flE e 2 := HE1.out.trans s3
      clear s1 s2 s3 HI1 HN1 HE1
      have p0 := P1.out.c0; have p1 := P1.out.c1; have p2 := P1.out.c2
      have q0 := Q1.out.c0; have q1 := Q1.out.c1; have q2 := Q1.out.c2
      have f0 := Q1.out.free 0; have f1 := Q1.out.free 1; have f2 := Q1.out.free 2
      have fp1 := P1.out.free 1; have fp2 := P1.out.free 2
      go_wp2_with fail
      clear p0 p1 p2 q0 q1 q2 f0 f1 f2 fp1 fp2
      refine (fail_d s k e 2 wr).mono ?_
      rintro x W2 ⟨rfl, hb⟩
      have P2 := Lib.hid (P1.out.below hb P1.out.lt)
      have Q2 := Lib.hid (Q1.out.below hb Q1.out.lt)
      have B2 := Lib.hid (B1.out.trans (hb.mono B1.out.size))
      clear hb P1 Q1 B1
      have p0 := P2.out.c0; have p1 := P2.out.c1; have p2 := P2.out.c2
      have q0 := Q2.out.c0; have q1 := Q2.out.c1; have q2 := Q2.out.c2
      have f0 := Q2.out.free 0; have f1 := Q2.out.free 1; have f2 := Q2.out.free 2
      have fp1 := P2.out.free 1; have fp2 := P2.out.free 2
      go_wp2
      refine bodyPost_ret (v := .tuple #[.int .i64 (-1), dm s k (flE e 2)]) (by simp [results, Try.results38, go_sem, q0, q1, q2]) rfl ⟨rfl, below_put B2.out HQW.out _ _ _⟩
end Go.Proofs.Ytelogbkhplegaaa
