/- One act: kind 5. (Written by gen_act.py.) -/
import Derived.Test.YtelogbkhplegaaaActB
namespace Go.Proofs.Ytelogbkhplegaaa
open Go.RowKit
set_option linter.unusedVariables false

set_option maxRecDepth 100000 in
set_option maxHeartbeats 1600000 in
theorem act5_s
    (g k mk : Nat) (e me : Int) (v : Value) (s : ByteArray) (a : ActD) (w : World) (h : Sk Ts w g v k e) (ht : Txs w g v s) (hk : k ≤ s.size) (hmk : mk ≤ s.size) (hs : s.size ≤ 1000) (he : 0 ≤ e) (he' : e < 100)
    (ha : a.Ok w) (hL : Away a.list a.L g) (hsm : a.Small) (hv : ∀ A n c ad, v = .slice A n c → A = some ad → ad.block < w.heap.size)
    (hn : a.n = 5) :
    Calls Try.prog 11 #[.pointer (some ⟨g, 0, none⟩), dm s mk me, .agg a.cells] w
      (ActP Ts g v s (acK s.data.toList a k e) (acE s.data.toList a k e) (acK s.data.toList a mk me) (acE s.data.toList a mk me) (fun t => mk = k → me = e → t = true) w) := by
  have hsl : s.data.toList.length = s.size := by simp
  have hKs : acK s.data.toList a k e ≤ s.size := by rw [← hsl]; exact acK_le (by omega)
  have hMs : acK s.data.toList a mk me ≤ s.size := by rw [← hsl]; exact acK_le (by omega)
  obtain ⟨hE1, hE2⟩ := acE_lo (l := s.data.toList) (a := a) (k := k) he he'
  have hwd : a.word.size ≤ 1000 := by have := hsm.word; omega
  have e1 : acK s.data.toList a k e = fdK k (rs s.data.toList k e) e a.word.data.toList := by unfold acK; rw [hn]; rfl
  have e2 : acE s.data.toList a k e = muE (rs s.data.toList k e) e a.word.data.toList := by unfold acE; rw [hn]; rfl
  have e3 : acK s.data.toList a mk me = fdK mk (rs s.data.toList mk me) me a.word.data.toList := by unfold acK; rw [hn]; rfl
  have e4 : acE s.data.toList a mk me = if fdT (rs s.data.toList mk me) me a.word.data.toList = true then me else flE me 2 := by unfold acE; rw [hn]; rfl
  have hD : ∀ W, Below w.heap.size w W → Calls Try.prog 33 #[dm s mk me, .string a.word] W fun x w' => x = .returned (.tuple #[.bool (fdT (rs s.data.toList mk me) me a.word.data.toList), dm s (acK s.data.toList a mk me) me]) ∧ Below W.heap.size W w' := by
    intro W hbw; rw [e3]; exact fold_d s mk me a.word W hmk hs hwd
  have hM : ∀ W, w.grownBy W (some g) → Sk Ts W g v k e → Txs W g v s → Calls Try.prog 19 #[.pointer (some ⟨g, 0, none⟩), .string a.word] W fun x w' => x = .returned (.tuple #[]) ∧ Mv Ts g v (acK s.data.toList a k e) (acE s.data.toList a k e) W w' := by
    intro W hgw h1 h2; rw [e1, e2]; exact must_s g k e v s a.word W h1 h2 hk hs hwd
  cases ht2 : fdT (rs s.data.toList mk me) me a.word.data.toList
  · rw [ht2] at hD e4
    have hF : acE s.data.toList a mk me = flE me 2 := e4
    have HF4 : ∀ M W, Calls Try.prog 37 #[dm s M me, .int .i64 2] W fun x w' => x = .returned (dm s M (acE s.data.toList a mk me)) ∧ Below W.heap.size W w' := by
      intro M W; rw [hF]; exact fail_d s M me 2 W
    have HD := Lib.hid hD; have HM := Lib.hid hM; have HF := Lib.hid HF4
    clear e1 e2 e3 e4 hD hM hF HF4 ht2 hwd
    have hkm : mk = k → me = e → acK s.data.toList a mk me = acK s.data.toList a k e ∧ acE s.data.toList a mk me = acE s.data.toList a k e := by rintro rfl rfl; exact ⟨rfl, rfl⟩
    generalize acK s.data.toList a k e = K at *
    generalize acE s.data.toList a k e = E at *
    generalize acK s.data.toList a mk me = M at *
    generalize acE s.data.toList a mk me = F at *
    have HS := Lib.hid h; have HX := Lib.hid ht; have HL := Lib.hid hL; have HV := Lib.hid hv; have HA := Lib.hid ha
    have HKM := Lib.hid hkm
    clear hkm
    have hgw := h.lt
    have hu : IntKind.u64.wrap a.kind = a.u := rfl
    have hn1 : a.u % 9 = 5 := hn
    have hu0 : 0 ≤ a.u := by unfold ActD.u; simp [IntKind.wrap, IntKind.signed, IntKind.bits]; omega
    have hn2 : Int.tmod a.u 9 = 5 := by rw [Int.tmod_eq_emod_of_nonneg hu0]; exact hn
    clear h ht hL hv ha hsl hn
    go_enter Try.func11, Try.ntmps11
    go_upto_region 2 with fail
    obtain ⟨hp0, hc0, hq0, hb0⟩ := three w s mk me a
    generalize hW0 : World.alloc (World.alloc (World.alloc w _) _) _ = W0 at hp0 hc0 hq0 hb0 ⊢
    clear hW0
    obtain ⟨q, hq⟩ : ∃ q, q = w.heap.size + 1 + 1 := ⟨_, rfl⟩
    obtain ⟨c, hc⟩ : ∃ c, c = w.heap.size + 1 := ⟨_, rfl⟩
    obtain ⟨p, hp⟩ : ∃ p, p = w.heap.size := ⟨_, rfl⟩
    rw [← hq] at hq0 ⊢
    rw [← hc] at hc0 ⊢
    rw [← hp] at hp0 ⊢
    have HPW : RowKit.Hid (w.heap.size ≤ p) := by rw [hp]; exact Nat.le_refl _
    have HO : RowKit.Hid (g < p ∧ p < c ∧ c < q) := ⟨by omega, by omega, by omega⟩
    have P0 := Lib.hid hp0; have C0 := Lib.hid hc0; have Q0 := Lib.hid hq0; have B0 := Lib.hid hb0
    clear hp0 hc0 hq0 hb0 hq hc hp hgw
    have a0 := C0.out.cell 0; have a1 := C0.out.cell 1; have a2 := C0.out.cell 2; have a3 := C0.out.cell 3; have a4 := C0.out.cell 4; have a5 := C0.out.cell 5
    have k0 := P0.out.c0; have k1 := P0.out.c1; have k2 := P0.out.c2
    go_wp2_with fail
    refine (HD.out W0 B0.out).mono ?_
    rintro x W1 ⟨rfl, hb⟩
    have P1 := Lib.hid (P0.out.below hb P0.out.lt)
    have C1 := Lib.hid (C0.out.below hb C0.out.lt)
    have Q1 := Lib.hid (Q0.out.below hb Q0.out.lt)
    have B1 := Lib.hid (B0.out.trans (hb.mono B0.out.size))
    clear hb P0 C0 Q0 B0 a0 a1 a2 a3 a4 a5 k0 k1 k2
    go_upto_region 22 with fail
    have hn2 : Dk (W1.alloc (.cells #[.string s, .int .i64 (M : Int), .int .i64 me] Td)) W1.heap.size s M me := heap_alloc_new W1 _
    have hb2 := (Below.refl W1.heap.size W1).alloc (Nat.le_refl _) (.cells #[.string s, .int .i64 (M : Int), .int .i64 me] Td)
    generalize World.alloc W1 _ = W2 at hn2 hb2 ⊢
    have B2 : RowKit.Hid (Below w.heap.size w W2) := B1.out.trans (hb2.mono B1.out.size)
    have P2 := Lib.hid (P1.out.below hb2 P1.out.lt)
    have C2 := Lib.hid (C1.out.below hb2 C1.out.lt)
    have Q2 := Lib.hid (Q1.out.below hb2 Q1.out.lt)
    have N2 := Lib.hid hn2
    have HO2 : RowKit.Hid (g < p ∧ p < c ∧ c < q ∧ q < W1.heap.size) := ⟨HO.out.1, HO.out.2.1, HO.out.2.2, Q1.out.lt⟩
    clear hn2 hb2 P1 C1 Q1 B1
    generalize W1.heap.size = n at *
    have hpg : p ≠ g := by have := HO2.out; omega
    have hqg : q ≠ g := by have := HO2.out; omega
    have hqp : q ≠ p := by have := HO2.out; omega
    have hcp : c ≠ p := by have := HO2.out; omega
    have p0 := P2.out.c0; have p1 := P2.out.c1; have p2 := P2.out.c2
    have f0 := P2.out.free 0; have f1 := P2.out.free 1; have f2 := P2.out.free 2
    have n0 := N2.out.c0; have n1 := N2.out.c1; have n2 := N2.out.c2
    go_upto_region 23 with fail
    have hP3 : Dk (((W2.setCell ⟨p, 0, none⟩ (.string s)).setCell ⟨p, 1, none⟩ (.int .i64 (M : Int))).setCell ⟨p, 2, none⟩ (.int .i64 me)) p s M me := put3_dk P2.out
    have hC3 : Ak (((W2.setCell ⟨p, 0, none⟩ (.string s)).setCell ⟨p, 1, none⟩ (.int .i64 (M : Int))).setCell ⟨p, 2, none⟩ (.int .i64 me)) c a := (put3_heap W2 p _ _ _ hcp).trans C2.out
    have hQ3 : Dk (((W2.setCell ⟨p, 0, none⟩ (.string s)).setCell ⟨p, 1, none⟩ (.int .i64 (M : Int))).setCell ⟨p, 2, none⟩ (.int .i64 me)) q ⟨#[]⟩ 0 0 := (put3_heap W2 p _ _ _ hqp).trans Q2.out
    have hB3 : Below w.heap.size w (((W2.setCell ⟨p, 0, none⟩ (.string s)).setCell ⟨p, 1, none⟩ (.int .i64 (M : Int))).setCell ⟨p, 2, none⟩ (.int .i64 me)) := ((B2.out.setCell HPW.out _).setCell HPW.out _).setCell HPW.out _
    generalize World.setCell (World.setCell (World.setCell W2 _ _) _ _) _ _ = W3 at hP3 hC3 hQ3 hB3 ⊢
    have P3 := Lib.hid hP3; have C3 := Lib.hid hC3; have Q3 := Lib.hid hQ3; have B3 := Lib.hid hB3
    clear hP3 hC3 hQ3 hB3 P2 C2 Q2 B2 p0 p1 p2 f0 f1 f2
    clear n0 n1 n2 N2
    have p0 := P3.out.c0; have p1 := P3.out.c1; have p2 := P3.out.c2
    go_wp2_with fail
    clear p0 p1 p2
    refine (HF.out M W3).mono ?_
    rintro x W4 ⟨rfl, hb⟩
    have P4 := Lib.hid (P3.out.below hb P3.out.lt)
    have C4 := Lib.hid (C3.out.below hb C3.out.lt)
    have Q4 := Lib.hid (Q3.out.below hb Q3.out.lt)
    have B4 := Lib.hid (B3.out.trans (hb.mono B3.out.size))
    clear hb P3 C3 Q3 B3
    have p0 := P4.out.c0; have p1 := P4.out.c1; have p2 := P4.out.c2
    have f0 := P4.out.free 0; have f1 := P4.out.free 1; have f2 := P4.out.free 2
    go_upto_region 25 with fail
    have hP6 : Dk (((W4.setCell ⟨p, 0, none⟩ (.string s)).setCell ⟨p, 1, none⟩ (.int .i64 (M : Int))).setCell ⟨p, 2, none⟩ (.int .i64 F)) p s M F := put3_dk P4.out
    have hC6 : Ak (((W4.setCell ⟨p, 0, none⟩ (.string s)).setCell ⟨p, 1, none⟩ (.int .i64 (M : Int))).setCell ⟨p, 2, none⟩ (.int .i64 F)) c a := (put3_heap W4 p _ _ _ hcp).trans C4.out
    have hQ6 : Dk (((W4.setCell ⟨p, 0, none⟩ (.string s)).setCell ⟨p, 1, none⟩ (.int .i64 (M : Int))).setCell ⟨p, 2, none⟩ (.int .i64 F)) q ⟨#[]⟩ 0 0 := (put3_heap W4 p _ _ _ hqp).trans Q4.out
    have hB6 : Below w.heap.size w (((W4.setCell ⟨p, 0, none⟩ (.string s)).setCell ⟨p, 1, none⟩ (.int .i64 (M : Int))).setCell ⟨p, 2, none⟩ (.int .i64 F)) := ((B4.out.setCell HPW.out _).setCell HPW.out _).setCell HPW.out _
    generalize World.setCell (World.setCell (World.setCell W4 _ _) _ _) _ _ = W6 at hP6 hC6 hQ6 hB6 ⊢
    have P6 := Lib.hid hP6; have C6 := Lib.hid hC6; have Q6 := Lib.hid hQ6; have B6 := Lib.hid hB6
    clear hP6 hC6 hQ6 hB6 P4 C4 Q4 B4 p0 p1 p2 f0 f1 f2
    obtain ⟨W2, hW2⟩ : ∃ W2, W2 = W6 := ⟨_, rfl⟩
    rw [← hW2]
    have S2 : RowKit.Hid (Sk Ts W2 g v k e) := by rw [hW2]; exact HS.out.below B6.out HS.out.lt
    have X2 : RowKit.Hid (Txs W2 g v s) := by rw [hW2]; exact HX.out.bel B6.out
    have G2 : RowKit.Hid (w.grownBy W2 (some g)) := by rw [hW2]; exact gb_below (gb_refl w (some g)) B6.out
    have P2 : RowKit.Hid (Dk W2 p s M F) := by rw [hW2]; first | exact P6.out | (rw [HFF.out]; exact P6.out)
    have C2 : RowKit.Hid (Ak W2 c a) := by rw [hW2]; exact C6.out
    have Q2 : RowKit.Hid (Dk W2 q ⟨#[]⟩ 0 0) := by rw [hW2]; exact Q6.out
    have HQW : RowKit.Hid (w.heap.size ≤ q) := by have h1 := HPW.out; have h2 := HO2.out; show _ ≤ q; omega
    clear hW2 P6 C6 Q6 B6
    have a1 := C2.out.cell 1; have a2 := C2.out.cell 2; have a3 := C2.out.cell 3; have a4 := C2.out.cell 4; have a5 := C2.out.cell 5
    go_wp2_with fail
    refine (HM.out W2 G2.out S2.out X2.out).mono ?_
    rintro x W5 ⟨rfl, hm⟩
    have P5 := Lib.hid (P2.out.kept hm.2 hpg)
    have Q5 := Lib.hid (Q2.out.kept hm.2 hqg)
    have X5 := Lib.hid (X2.out.kept hm.2)
    have G5 := Lib.hid (G2.out.trans hm.2)
    have S5 := Lib.hid hm.1
    clear hm S2 X2 G2 P2 C2 Q2 a1 a2 a3 a4 a5
    go_wp2_with fail
    have p0 := P5.out.c0; have p1 := P5.out.c1; have p2 := P5.out.c2
    have q0 := Q5.out.c0; have q1 := Q5.out.c1; have q2 := Q5.out.c2
    have f0 := Q5.out.free 0; have f1 := Q5.out.free 1; have f2 := Q5.out.free 2
    have hSC : Calls Try.prog 10 #[.pointer (some ⟨g, 0, none⟩), dm s M F] W5.drew fun x w' => ∃ b, x = .returned (.bool b) ∧ RowKit.Hid (M = K → F = E → b = true) ∧ RowKit.Hid (Sk Ts w' g v K E) ∧
        w'.cell? ⟨p, 0, none⟩ = some (.string s) ∧ w'.cell? ⟨p, 1, none⟩ = some (.int .i64 (M : Int)) ∧ w'.cell? ⟨p, 2, none⟩ = some (.int .i64 F) ∧ w.grownBy w' (some g) ∧
        w'.cell? ⟨q, 0, none⟩ = some (.string ⟨#[]⟩) ∧ w'.cell? ⟨q, 1, none⟩ = some (.int .i64 0) ∧ w'.cell? ⟨q, 2, none⟩ = some (.int .i64 0) ∧ w'.frozen? ⟨q, 0, none⟩ = false ∧ w'.frozen? ⟨q, 1, none⟩ = false ∧ w'.frozen? ⟨q, 2, none⟩ = false := by
      refine (same_s g K M E F v s W5.drew S5.out (X5.out.bel (belowdraws (Below.refl _ _) 1)) hKs hMs hs hE1 hE2).mono ?_
      rintro x w' ⟨b, hx, hb, hbel⟩
      have hp := Dk.below (w := W5.drew) P5.out hbel P5.out.lt
      have hq := Dk.below (w := W5.drew) Q5.out hbel Q5.out.lt
      exact ⟨b, hx, hb, Sk.below (w := W5.drew) S5.out hbel S5.out.lt, hp.c0, hp.c1, hp.c2, gb_below (gb_draw G5.out 1) hbel, hq.c0, hq.c1, hq.c2, hq.free 0, hq.free 1, hq.free 2⟩
    have HSC := Lib.hid hSC
    have hg5 := G5.out
    clear hSC
    go_region_held3 (fun w' => w'.cell? ⟨p, 0, none⟩ = some (.string s) ∧ w'.cell? ⟨p, 1, none⟩ = some (.int .i64 (M : Int)) ∧ w'.cell? ⟨p, 2, none⟩ = some (.int .i64 F) ∧ w.grownBy w' (some g))
      (first | exact ⟨p0, p1, p2, gb_draw hg5 1⟩ | exact ⟨by assumption, by assumption, by assumption, by assumption⟩ | exact put3_held (Ne.symm hqp) m0 m1 m2 hg6 HQW.out _ _ _)
      (first | (go_at_call 10; refine HSC.out.mono ?_; rintro x w6 ⟨b, rfl, hb6, hS6, m0, m1, m2, hg6, n0, n1, n2, z0, z1, z2⟩))
    go_wp2
    refine bodyPost_ret (v := .tuple #[dm s M F, .bool b]) (by simp [results, Try.results11, go_sem, n0, n1, n2]) rfl ?_
    exact ⟨b, rfl, fun h1 h2 => hb6.out (HKM.out h1 h2).1 (HKM.out h1 h2).2, Sks.put hS6.out (Ne.symm hqg) _ _ _, put3_gb hg6 HQW.out _ _ _⟩
  · rw [ht2] at hD e4
    have hF : acE s.data.toList a mk me = me := e4
    have HD := Lib.hid hD; have HM := Lib.hid hM
    have HFF := Lib.hid hF
    clear e1 e2 e3 e4 hD hM hF ht2 hwd
    have hkm : mk = k → me = e → acK s.data.toList a mk me = acK s.data.toList a k e ∧ acE s.data.toList a mk me = acE s.data.toList a k e := by rintro rfl rfl; exact ⟨rfl, rfl⟩
    generalize acK s.data.toList a k e = K at *
    generalize acE s.data.toList a k e = E at *
    generalize acK s.data.toList a mk me = M at *
    generalize acE s.data.toList a mk me = F at *
    have HS := Lib.hid h; have HX := Lib.hid ht; have HL := Lib.hid hL; have HV := Lib.hid hv; have HA := Lib.hid ha
    have HKM := Lib.hid hkm
    clear hkm
    have hgw := h.lt
    have hu : IntKind.u64.wrap a.kind = a.u := rfl
    have hn1 : a.u % 9 = 5 := hn
    have hu0 : 0 ≤ a.u := by unfold ActD.u; simp [IntKind.wrap, IntKind.signed, IntKind.bits]; omega
    have hn2 : Int.tmod a.u 9 = 5 := by rw [Int.tmod_eq_emod_of_nonneg hu0]; exact hn
    clear h ht hL hv ha hsl hn
    go_enter Try.func11, Try.ntmps11
    go_upto_region 2 with fail
    obtain ⟨hp0, hc0, hq0, hb0⟩ := three w s mk me a
    generalize hW0 : World.alloc (World.alloc (World.alloc w _) _) _ = W0 at hp0 hc0 hq0 hb0 ⊢
    clear hW0
    obtain ⟨q, hq⟩ : ∃ q, q = w.heap.size + 1 + 1 := ⟨_, rfl⟩
    obtain ⟨c, hc⟩ : ∃ c, c = w.heap.size + 1 := ⟨_, rfl⟩
    obtain ⟨p, hp⟩ : ∃ p, p = w.heap.size := ⟨_, rfl⟩
    rw [← hq] at hq0 ⊢
    rw [← hc] at hc0 ⊢
    rw [← hp] at hp0 ⊢
    have HPW : RowKit.Hid (w.heap.size ≤ p) := by rw [hp]; exact Nat.le_refl _
    have HO : RowKit.Hid (g < p ∧ p < c ∧ c < q) := ⟨by omega, by omega, by omega⟩
    have P0 := Lib.hid hp0; have C0 := Lib.hid hc0; have Q0 := Lib.hid hq0; have B0 := Lib.hid hb0
    clear hp0 hc0 hq0 hb0 hq hc hp hgw
    have a0 := C0.out.cell 0; have a1 := C0.out.cell 1; have a2 := C0.out.cell 2; have a3 := C0.out.cell 3; have a4 := C0.out.cell 4; have a5 := C0.out.cell 5
    have k0 := P0.out.c0; have k1 := P0.out.c1; have k2 := P0.out.c2
    go_wp2_with fail
    refine (HD.out W0 B0.out).mono ?_
    rintro x W1 ⟨rfl, hb⟩
    have P1 := Lib.hid (P0.out.below hb P0.out.lt)
    have C1 := Lib.hid (C0.out.below hb C0.out.lt)
    have Q1 := Lib.hid (Q0.out.below hb Q0.out.lt)
    have B1 := Lib.hid (B0.out.trans (hb.mono B0.out.size))
    clear hb P0 C0 Q0 B0 a0 a1 a2 a3 a4 a5 k0 k1 k2
    go_upto_region 22 with fail
    have hn2 : Dk (W1.alloc (.cells #[.string s, .int .i64 (M : Int), .int .i64 me] Td)) W1.heap.size s M me := heap_alloc_new W1 _
    have hb2 := (Below.refl W1.heap.size W1).alloc (Nat.le_refl _) (.cells #[.string s, .int .i64 (M : Int), .int .i64 me] Td)
    generalize World.alloc W1 _ = W2 at hn2 hb2 ⊢
    have B2 : RowKit.Hid (Below w.heap.size w W2) := B1.out.trans (hb2.mono B1.out.size)
    have P2 := Lib.hid (P1.out.below hb2 P1.out.lt)
    have C2 := Lib.hid (C1.out.below hb2 C1.out.lt)
    have Q2 := Lib.hid (Q1.out.below hb2 Q1.out.lt)
    have N2 := Lib.hid hn2
    have HO2 : RowKit.Hid (g < p ∧ p < c ∧ c < q ∧ q < W1.heap.size) := ⟨HO.out.1, HO.out.2.1, HO.out.2.2, Q1.out.lt⟩
    clear hn2 hb2 P1 C1 Q1 B1
    generalize W1.heap.size = n at *
    have hpg : p ≠ g := by have := HO2.out; omega
    have hqg : q ≠ g := by have := HO2.out; omega
    have hqp : q ≠ p := by have := HO2.out; omega
    have hcp : c ≠ p := by have := HO2.out; omega
    have p0 := P2.out.c0; have p1 := P2.out.c1; have p2 := P2.out.c2
    have f0 := P2.out.free 0; have f1 := P2.out.free 1; have f2 := P2.out.free 2
    have n0 := N2.out.c0; have n1 := N2.out.c1; have n2 := N2.out.c2
    go_upto_region 23 with fail
    have hP3 : Dk (((W2.setCell ⟨p, 0, none⟩ (.string s)).setCell ⟨p, 1, none⟩ (.int .i64 (M : Int))).setCell ⟨p, 2, none⟩ (.int .i64 me)) p s M me := put3_dk P2.out
    have hC3 : Ak (((W2.setCell ⟨p, 0, none⟩ (.string s)).setCell ⟨p, 1, none⟩ (.int .i64 (M : Int))).setCell ⟨p, 2, none⟩ (.int .i64 me)) c a := (put3_heap W2 p _ _ _ hcp).trans C2.out
    have hQ3 : Dk (((W2.setCell ⟨p, 0, none⟩ (.string s)).setCell ⟨p, 1, none⟩ (.int .i64 (M : Int))).setCell ⟨p, 2, none⟩ (.int .i64 me)) q ⟨#[]⟩ 0 0 := (put3_heap W2 p _ _ _ hqp).trans Q2.out
    have hB3 : Below w.heap.size w (((W2.setCell ⟨p, 0, none⟩ (.string s)).setCell ⟨p, 1, none⟩ (.int .i64 (M : Int))).setCell ⟨p, 2, none⟩ (.int .i64 me)) := ((B2.out.setCell HPW.out _).setCell HPW.out _).setCell HPW.out _
    generalize World.setCell (World.setCell (World.setCell W2 _ _) _ _) _ _ = W3 at hP3 hC3 hQ3 hB3 ⊢
    have P3 := Lib.hid hP3; have C3 := Lib.hid hC3; have Q3 := Lib.hid hQ3; have B3 := Lib.hid hB3
    clear hP3 hC3 hQ3 hB3 P2 C2 Q2 B2 p0 p1 p2 f0 f1 f2
    clear n0 n1 n2 N2
    obtain ⟨W2, hW2⟩ : ∃ W2, W2 = W3 := ⟨_, rfl⟩
    rw [← hW2]
    have S2 : RowKit.Hid (Sk Ts W2 g v k e) := by rw [hW2]; exact HS.out.below B3.out HS.out.lt
    have X2 : RowKit.Hid (Txs W2 g v s) := by rw [hW2]; exact HX.out.bel B3.out
    have G2 : RowKit.Hid (w.grownBy W2 (some g)) := by rw [hW2]; exact gb_below (gb_refl w (some g)) B3.out
    have P2 : RowKit.Hid (Dk W2 p s M F) := by rw [hW2]; first | exact P3.out | (rw [HFF.out]; exact P3.out)
    have C2 : RowKit.Hid (Ak W2 c a) := by rw [hW2]; exact C3.out
    have Q2 : RowKit.Hid (Dk W2 q ⟨#[]⟩ 0 0) := by rw [hW2]; exact Q3.out
    have HQW : RowKit.Hid (w.heap.size ≤ q) := by have h1 := HPW.out; have h2 := HO2.out; show _ ≤ q; omega
    clear hW2 P3 C3 Q3 B3
    have a1 := C2.out.cell 1; have a2 := C2.out.cell 2; have a3 := C2.out.cell 3; have a4 := C2.out.cell 4; have a5 := C2.out.cell 5
    go_wp2_with fail
    refine (HM.out W2 G2.out S2.out X2.out).mono ?_
    rintro x W5 ⟨rfl, hm⟩
    have P5 := Lib.hid (P2.out.kept hm.2 hpg)
    have Q5 := Lib.hid (Q2.out.kept hm.2 hqg)
    have X5 := Lib.hid (X2.out.kept hm.2)
    have G5 := Lib.hid (G2.out.trans hm.2)
    have S5 := Lib.hid hm.1
    clear hm S2 X2 G2 P2 C2 Q2 a1 a2 a3 a4 a5
    go_wp2_with fail
    have p0 := P5.out.c0; have p1 := P5.out.c1; have p2 := P5.out.c2
    have q0 := Q5.out.c0; have q1 := Q5.out.c1; have q2 := Q5.out.c2
    have f0 := Q5.out.free 0; have f1 := Q5.out.free 1; have f2 := Q5.out.free 2
    have hSC : Calls Try.prog 10 #[.pointer (some ⟨g, 0, none⟩), dm s M F] W5.drew fun x w' => ∃ b, x = .returned (.bool b) ∧ RowKit.Hid (M = K → F = E → b = true) ∧ RowKit.Hid (Sk Ts w' g v K E) ∧
        w'.cell? ⟨p, 0, none⟩ = some (.string s) ∧ w'.cell? ⟨p, 1, none⟩ = some (.int .i64 (M : Int)) ∧ w'.cell? ⟨p, 2, none⟩ = some (.int .i64 F) ∧ w.grownBy w' (some g) ∧
        w'.cell? ⟨q, 0, none⟩ = some (.string ⟨#[]⟩) ∧ w'.cell? ⟨q, 1, none⟩ = some (.int .i64 0) ∧ w'.cell? ⟨q, 2, none⟩ = some (.int .i64 0) ∧ w'.frozen? ⟨q, 0, none⟩ = false ∧ w'.frozen? ⟨q, 1, none⟩ = false ∧ w'.frozen? ⟨q, 2, none⟩ = false := by
      refine (same_s g K M E F v s W5.drew S5.out (X5.out.bel (belowdraws (Below.refl _ _) 1)) hKs hMs hs hE1 hE2).mono ?_
      rintro x w' ⟨b, hx, hb, hbel⟩
      have hp := Dk.below (w := W5.drew) P5.out hbel P5.out.lt
      have hq := Dk.below (w := W5.drew) Q5.out hbel Q5.out.lt
      exact ⟨b, hx, hb, Sk.below (w := W5.drew) S5.out hbel S5.out.lt, hp.c0, hp.c1, hp.c2, gb_below (gb_draw G5.out 1) hbel, hq.c0, hq.c1, hq.c2, hq.free 0, hq.free 1, hq.free 2⟩
    have HSC := Lib.hid hSC
    have hg5 := G5.out
    clear hSC
    go_region_held3 (fun w' => w'.cell? ⟨p, 0, none⟩ = some (.string s) ∧ w'.cell? ⟨p, 1, none⟩ = some (.int .i64 (M : Int)) ∧ w'.cell? ⟨p, 2, none⟩ = some (.int .i64 F) ∧ w.grownBy w' (some g))
      (first | exact ⟨p0, p1, p2, gb_draw hg5 1⟩ | exact ⟨by assumption, by assumption, by assumption, by assumption⟩ | exact put3_held (Ne.symm hqp) m0 m1 m2 hg6 HQW.out _ _ _)
      (first | (go_at_call 10; refine HSC.out.mono ?_; rintro x w6 ⟨b, rfl, hb6, hS6, m0, m1, m2, hg6, n0, n1, n2, z0, z1, z2⟩))
    go_wp2
    refine bodyPost_ret (v := .tuple #[dm s M F, .bool b]) (by simp [results, Try.results11, go_sem, n0, n1, n2]) rfl ?_
    exact ⟨b, rfl, fun h1 h2 => hb6.out (HKM.out h1 h2).1 (HKM.out h1 h2).2, Sks.put hS6.out (Ne.symm hqg) _ _ _, put3_gb hg6 HQW.out _ _ _⟩
set_option maxRecDepth 100000 in
set_option maxHeartbeats 1600000 in
theorem act5_b
    (g k mk : Nat) (e me : Int) (v : Value) (s : ByteArray) (a : ActD) (w : World) (h : Sk Tb w g v k e) (ht : Txb w g v s) (hk : k ≤ s.size) (hmk : mk ≤ s.size) (hs : s.size ≤ 1000) (he : 0 ≤ e) (he' : e < 100)
    (ha : a.Ok w) (hL : Away a.list a.L g) (hsm : a.Small) (hv : ∀ A n c ad, v = .slice A n c → A = some ad → ad.block < w.heap.size)
    (hn : a.n = 5) :
    Calls Try.prog 12 #[.pointer (some ⟨g, 0, none⟩), dm s mk me, .agg a.cells] w
      (ActP Tb g v s (acK s.data.toList a k e) (acE s.data.toList a k e) (acK s.data.toList a mk me) (acE s.data.toList a mk me) (fun t => mk = k → me = e → t = true) w) := by
  have hsl : s.data.toList.length = s.size := by simp
  have hKs : acK s.data.toList a k e ≤ s.size := by rw [← hsl]; exact acK_le (by omega)
  have hMs : acK s.data.toList a mk me ≤ s.size := by rw [← hsl]; exact acK_le (by omega)
  obtain ⟨hE1, hE2⟩ := acE_lo (l := s.data.toList) (a := a) (k := k) he he'
  have hwd : a.word.size ≤ 1000 := by have := hsm.word; omega
  have e1 : acK s.data.toList a k e = fdK k (rs s.data.toList k e) e a.word.data.toList := by unfold acK; rw [hn]; rfl
  have e2 : acE s.data.toList a k e = muE (rs s.data.toList k e) e a.word.data.toList := by unfold acE; rw [hn]; rfl
  have e3 : acK s.data.toList a mk me = fdK mk (rs s.data.toList mk me) me a.word.data.toList := by unfold acK; rw [hn]; rfl
  have e4 : acE s.data.toList a mk me = if fdT (rs s.data.toList mk me) me a.word.data.toList = true then me else flE me 2 := by unfold acE; rw [hn]; rfl
  have hD : ∀ W, Below w.heap.size w W → Calls Try.prog 33 #[dm s mk me, .string a.word] W fun x w' => x = .returned (.tuple #[.bool (fdT (rs s.data.toList mk me) me a.word.data.toList), dm s (acK s.data.toList a mk me) me]) ∧ Below W.heap.size W w' := by
    intro W hbw; rw [e3]; exact fold_d s mk me a.word W hmk hs hwd
  have hM : ∀ W, w.grownBy W (some g) → Sk Tb W g v k e → Txb W g v s → Calls Try.prog 45 #[.pointer (some ⟨g, 0, none⟩), .string a.word] W fun x w' => x = .returned (.tuple #[]) ∧ Mv Tb g v (acK s.data.toList a k e) (acE s.data.toList a k e) W w' := by
    intro W hgw h1 h2; rw [e1, e2]; exact must_b g k e v s a.word W h1 h2 hk hs hwd
  cases ht2 : fdT (rs s.data.toList mk me) me a.word.data.toList
  · rw [ht2] at hD e4
    have hF : acE s.data.toList a mk me = flE me 2 := e4
    have HF4 : ∀ M W, Calls Try.prog 37 #[dm s M me, .int .i64 2] W fun x w' => x = .returned (dm s M (acE s.data.toList a mk me)) ∧ Below W.heap.size W w' := by
      intro M W; rw [hF]; exact fail_d s M me 2 W
    have HD := Lib.hid hD; have HM := Lib.hid hM; have HF := Lib.hid HF4
    clear e1 e2 e3 e4 hD hM hF HF4 ht2 hwd
    have hkm : mk = k → me = e → acK s.data.toList a mk me = acK s.data.toList a k e ∧ acE s.data.toList a mk me = acE s.data.toList a k e := by rintro rfl rfl; exact ⟨rfl, rfl⟩
    generalize acK s.data.toList a k e = K at *
    generalize acE s.data.toList a k e = E at *
    generalize acK s.data.toList a mk me = M at *
    generalize acE s.data.toList a mk me = F at *
    have HS := Lib.hid h; have HX := Lib.hid ht; have HL := Lib.hid hL; have HV := Lib.hid hv; have HA := Lib.hid ha
    have HKM := Lib.hid hkm
    clear hkm
    have hgw := h.lt
    have hu : IntKind.u64.wrap a.kind = a.u := rfl
    have hn1 : a.u % 9 = 5 := hn
    have hu0 : 0 ≤ a.u := by unfold ActD.u; simp [IntKind.wrap, IntKind.signed, IntKind.bits]; omega
    have hn2 : Int.tmod a.u 9 = 5 := by rw [Int.tmod_eq_emod_of_nonneg hu0]; exact hn
    clear h ht hL hv ha hsl hn
    go_enter Try.func12, Try.ntmps12
    go_upto_region 2 with fail
    obtain ⟨hp0, hc0, hq0, hb0⟩ := three w s mk me a
    generalize hW0 : World.alloc (World.alloc (World.alloc w _) _) _ = W0 at hp0 hc0 hq0 hb0 ⊢
    clear hW0
    obtain ⟨q, hq⟩ : ∃ q, q = w.heap.size + 1 + 1 := ⟨_, rfl⟩
    obtain ⟨c, hc⟩ : ∃ c, c = w.heap.size + 1 := ⟨_, rfl⟩
    obtain ⟨p, hp⟩ : ∃ p, p = w.heap.size := ⟨_, rfl⟩
    rw [← hq] at hq0 ⊢
    rw [← hc] at hc0 ⊢
    rw [← hp] at hp0 ⊢
    have HPW : RowKit.Hid (w.heap.size ≤ p) := by rw [hp]; exact Nat.le_refl _
    have HO : RowKit.Hid (g < p ∧ p < c ∧ c < q) := ⟨by omega, by omega, by omega⟩
    have P0 := Lib.hid hp0; have C0 := Lib.hid hc0; have Q0 := Lib.hid hq0; have B0 := Lib.hid hb0
    clear hp0 hc0 hq0 hb0 hq hc hp hgw
    have a0 := C0.out.cell 0; have a1 := C0.out.cell 1; have a2 := C0.out.cell 2; have a3 := C0.out.cell 3; have a4 := C0.out.cell 4; have a5 := C0.out.cell 5
    have k0 := P0.out.c0; have k1 := P0.out.c1; have k2 := P0.out.c2
    go_wp2_with fail
    refine (HD.out W0 B0.out).mono ?_
    rintro x W1 ⟨rfl, hb⟩
    have P1 := Lib.hid (P0.out.below hb P0.out.lt)
    have C1 := Lib.hid (C0.out.below hb C0.out.lt)
    have Q1 := Lib.hid (Q0.out.below hb Q0.out.lt)
    have B1 := Lib.hid (B0.out.trans (hb.mono B0.out.size))
    clear hb P0 C0 Q0 B0 a0 a1 a2 a3 a4 a5 k0 k1 k2
    go_upto_region 22 with fail
    have hn2 : Dk (W1.alloc (.cells #[.string s, .int .i64 (M : Int), .int .i64 me] Td)) W1.heap.size s M me := heap_alloc_new W1 _
    have hb2 := (Below.refl W1.heap.size W1).alloc (Nat.le_refl _) (.cells #[.string s, .int .i64 (M : Int), .int .i64 me] Td)
    generalize World.alloc W1 _ = W2 at hn2 hb2 ⊢
    have B2 : RowKit.Hid (Below w.heap.size w W2) := B1.out.trans (hb2.mono B1.out.size)
    have P2 := Lib.hid (P1.out.below hb2 P1.out.lt)
    have C2 := Lib.hid (C1.out.below hb2 C1.out.lt)
    have Q2 := Lib.hid (Q1.out.below hb2 Q1.out.lt)
    have N2 := Lib.hid hn2
    have HO2 : RowKit.Hid (g < p ∧ p < c ∧ c < q ∧ q < W1.heap.size) := ⟨HO.out.1, HO.out.2.1, HO.out.2.2, Q1.out.lt⟩
    clear hn2 hb2 P1 C1 Q1 B1
    generalize W1.heap.size = n at *
    have hpg : p ≠ g := by have := HO2.out; omega
    have hqg : q ≠ g := by have := HO2.out; omega
    have hqp : q ≠ p := by have := HO2.out; omega
    have hcp : c ≠ p := by have := HO2.out; omega
    have p0 := P2.out.c0; have p1 := P2.out.c1; have p2 := P2.out.c2
    have f0 := P2.out.free 0; have f1 := P2.out.free 1; have f2 := P2.out.free 2
    have n0 := N2.out.c0; have n1 := N2.out.c1; have n2 := N2.out.c2
    go_upto_region 23 with fail
    have hP3 : Dk (((W2.setCell ⟨p, 0, none⟩ (.string s)).setCell ⟨p, 1, none⟩ (.int .i64 (M : Int))).setCell ⟨p, 2, none⟩ (.int .i64 me)) p s M me := put3_dk P2.out
    have hC3 : Ak (((W2.setCell ⟨p, 0, none⟩ (.string s)).setCell ⟨p, 1, none⟩ (.int .i64 (M : Int))).setCell ⟨p, 2, none⟩ (.int .i64 me)) c a := (put3_heap W2 p _ _ _ hcp).trans C2.out
    have hQ3 : Dk (((W2.setCell ⟨p, 0, none⟩ (.string s)).setCell ⟨p, 1, none⟩ (.int .i64 (M : Int))).setCell ⟨p, 2, none⟩ (.int .i64 me)) q ⟨#[]⟩ 0 0 := (put3_heap W2 p _ _ _ hqp).trans Q2.out
    have hB3 : Below w.heap.size w (((W2.setCell ⟨p, 0, none⟩ (.string s)).setCell ⟨p, 1, none⟩ (.int .i64 (M : Int))).setCell ⟨p, 2, none⟩ (.int .i64 me)) := ((B2.out.setCell HPW.out _).setCell HPW.out _).setCell HPW.out _
    generalize World.setCell (World.setCell (World.setCell W2 _ _) _ _) _ _ = W3 at hP3 hC3 hQ3 hB3 ⊢
    have P3 := Lib.hid hP3; have C3 := Lib.hid hC3; have Q3 := Lib.hid hQ3; have B3 := Lib.hid hB3
    clear hP3 hC3 hQ3 hB3 P2 C2 Q2 B2 p0 p1 p2 f0 f1 f2
    clear n0 n1 n2 N2
    have p0 := P3.out.c0; have p1 := P3.out.c1; have p2 := P3.out.c2
    go_wp2_with fail
    clear p0 p1 p2
    refine (HF.out M W3).mono ?_
    rintro x W4 ⟨rfl, hb⟩
    have P4 := Lib.hid (P3.out.below hb P3.out.lt)
    have C4 := Lib.hid (C3.out.below hb C3.out.lt)
    have Q4 := Lib.hid (Q3.out.below hb Q3.out.lt)
    have B4 := Lib.hid (B3.out.trans (hb.mono B3.out.size))
    clear hb P3 C3 Q3 B3
    have p0 := P4.out.c0; have p1 := P4.out.c1; have p2 := P4.out.c2
    have f0 := P4.out.free 0; have f1 := P4.out.free 1; have f2 := P4.out.free 2
    go_upto_region 25 with fail
    have hP6 : Dk (((W4.setCell ⟨p, 0, none⟩ (.string s)).setCell ⟨p, 1, none⟩ (.int .i64 (M : Int))).setCell ⟨p, 2, none⟩ (.int .i64 F)) p s M F := put3_dk P4.out
    have hC6 : Ak (((W4.setCell ⟨p, 0, none⟩ (.string s)).setCell ⟨p, 1, none⟩ (.int .i64 (M : Int))).setCell ⟨p, 2, none⟩ (.int .i64 F)) c a := (put3_heap W4 p _ _ _ hcp).trans C4.out
    have hQ6 : Dk (((W4.setCell ⟨p, 0, none⟩ (.string s)).setCell ⟨p, 1, none⟩ (.int .i64 (M : Int))).setCell ⟨p, 2, none⟩ (.int .i64 F)) q ⟨#[]⟩ 0 0 := (put3_heap W4 p _ _ _ hqp).trans Q4.out
    have hB6 : Below w.heap.size w (((W4.setCell ⟨p, 0, none⟩ (.string s)).setCell ⟨p, 1, none⟩ (.int .i64 (M : Int))).setCell ⟨p, 2, none⟩ (.int .i64 F)) := ((B4.out.setCell HPW.out _).setCell HPW.out _).setCell HPW.out _
    generalize World.setCell (World.setCell (World.setCell W4 _ _) _ _) _ _ = W6 at hP6 hC6 hQ6 hB6 ⊢
    have P6 := Lib.hid hP6; have C6 := Lib.hid hC6; have Q6 := Lib.hid hQ6; have B6 := Lib.hid hB6
    clear hP6 hC6 hQ6 hB6 P4 C4 Q4 B4 p0 p1 p2 f0 f1 f2
    obtain ⟨W2, hW2⟩ : ∃ W2, W2 = W6 := ⟨_, rfl⟩
    rw [← hW2]
    have S2 : RowKit.Hid (Sk Tb W2 g v k e) := by rw [hW2]; exact HS.out.below B6.out HS.out.lt
    have X2 : RowKit.Hid (Txb W2 g v s) := by rw [hW2]; exact HX.out.bel B6.out
    have G2 : RowKit.Hid (w.grownBy W2 (some g)) := by rw [hW2]; exact gb_below (gb_refl w (some g)) B6.out
    have P2 : RowKit.Hid (Dk W2 p s M F) := by rw [hW2]; first | exact P6.out | (rw [HFF.out]; exact P6.out)
    have C2 : RowKit.Hid (Ak W2 c a) := by rw [hW2]; exact C6.out
    have Q2 : RowKit.Hid (Dk W2 q ⟨#[]⟩ 0 0) := by rw [hW2]; exact Q6.out
    have HQW : RowKit.Hid (w.heap.size ≤ q) := by have h1 := HPW.out; have h2 := HO2.out; show _ ≤ q; omega
    clear hW2 P6 C6 Q6 B6
    have a1 := C2.out.cell 1; have a2 := C2.out.cell 2; have a3 := C2.out.cell 3; have a4 := C2.out.cell 4; have a5 := C2.out.cell 5
    go_wp2_with fail
    refine (HM.out W2 G2.out S2.out X2.out).mono ?_
    rintro x W5 ⟨rfl, hm⟩
    have P5 := Lib.hid (P2.out.kept hm.2 hpg)
    have Q5 := Lib.hid (Q2.out.kept hm.2 hqg)
    have X5 := Lib.hid (X2.out.kept hm.2)
    have G5 := Lib.hid (G2.out.trans hm.2)
    have S5 := Lib.hid hm.1
    clear hm S2 X2 G2 P2 C2 Q2 a1 a2 a3 a4 a5
    go_wp2_with fail
    have p0 := P5.out.c0; have p1 := P5.out.c1; have p2 := P5.out.c2
    have q0 := Q5.out.c0; have q1 := Q5.out.c1; have q2 := Q5.out.c2
    have f0 := Q5.out.free 0; have f1 := Q5.out.free 1; have f2 := Q5.out.free 2
    have hSC : Calls Try.prog 49 #[.pointer (some ⟨g, 0, none⟩), dm s M F] W5.drew fun x w' => ∃ b, x = .returned (.bool b) ∧ RowKit.Hid (M = K → F = E → b = true) ∧ RowKit.Hid (Sk Tb w' g v K E) ∧
        w'.cell? ⟨p, 0, none⟩ = some (.string s) ∧ w'.cell? ⟨p, 1, none⟩ = some (.int .i64 (M : Int)) ∧ w'.cell? ⟨p, 2, none⟩ = some (.int .i64 F) ∧ w.grownBy w' (some g) ∧
        w'.cell? ⟨q, 0, none⟩ = some (.string ⟨#[]⟩) ∧ w'.cell? ⟨q, 1, none⟩ = some (.int .i64 0) ∧ w'.cell? ⟨q, 2, none⟩ = some (.int .i64 0) ∧ w'.frozen? ⟨q, 0, none⟩ = false ∧ w'.frozen? ⟨q, 1, none⟩ = false ∧ w'.frozen? ⟨q, 2, none⟩ = false := by
      refine (same_b g K M E F v s W5.drew S5.out (X5.out.bel (belowdraws (Below.refl _ _) 1)) hKs hMs hs hE1 hE2).mono ?_
      rintro x w' ⟨b, hx, hb, hbel⟩
      have hp := Dk.below (w := W5.drew) P5.out hbel P5.out.lt
      have hq := Dk.below (w := W5.drew) Q5.out hbel Q5.out.lt
      exact ⟨b, hx, hb, Sk.below (w := W5.drew) S5.out hbel S5.out.lt, hp.c0, hp.c1, hp.c2, gb_below (gb_draw G5.out 1) hbel, hq.c0, hq.c1, hq.c2, hq.free 0, hq.free 1, hq.free 2⟩
    have HSC := Lib.hid hSC
    have hg5 := G5.out
    clear hSC
    go_region_held3 (fun w' => w'.cell? ⟨p, 0, none⟩ = some (.string s) ∧ w'.cell? ⟨p, 1, none⟩ = some (.int .i64 (M : Int)) ∧ w'.cell? ⟨p, 2, none⟩ = some (.int .i64 F) ∧ w.grownBy w' (some g))
      (first | exact ⟨p0, p1, p2, gb_draw hg5 1⟩ | exact ⟨by assumption, by assumption, by assumption, by assumption⟩ | exact put3_held (Ne.symm hqp) m0 m1 m2 hg6 HQW.out _ _ _)
      (first | (go_at_call 49; refine HSC.out.mono ?_; rintro x w6 ⟨b, rfl, hb6, hS6, m0, m1, m2, hg6, n0, n1, n2, z0, z1, z2⟩))
    go_wp2
    refine bodyPost_ret (v := .tuple #[dm s M F, .bool b]) (by simp [results, Try.results12, go_sem, n0, n1, n2]) rfl ?_
    exact ⟨b, rfl, fun h1 h2 => hb6.out (HKM.out h1 h2).1 (HKM.out h1 h2).2, Skb.put hS6.out (Ne.symm hqg) _ _ _, put3_gb hg6 HQW.out _ _ _⟩
  · rw [ht2] at hD e4
    have hF : acE s.data.toList a mk me = me := e4
    have HD := Lib.hid hD; have HM := Lib.hid hM
    have HFF := Lib.hid hF
    clear e1 e2 e3 e4 hD hM hF ht2 hwd
    have hkm : mk = k → me = e → acK s.data.toList a mk me = acK s.data.toList a k e ∧ acE s.data.toList a mk me = acE s.data.toList a k e := by rintro rfl rfl; exact ⟨rfl, rfl⟩
    generalize acK s.data.toList a k e = K at *
    generalize acE s.data.toList a k e = E at *
    generalize acK s.data.toList a mk me = M at *
    generalize acE s.data.toList a mk me = F at *
    have HS := Lib.hid h; have HX := Lib.hid ht; have HL := Lib.hid hL; have HV := Lib.hid hv; have HA := Lib.hid ha
    have HKM := Lib.hid hkm
    clear hkm
    have hgw := h.lt
    have hu : IntKind.u64.wrap a.kind = a.u := rfl
    have hn1 : a.u % 9 = 5 := hn
    have hu0 : 0 ≤ a.u := by unfold ActD.u; simp [IntKind.wrap, IntKind.signed, IntKind.bits]; omega
    have hn2 : Int.tmod a.u 9 = 5 := by rw [Int.tmod_eq_emod_of_nonneg hu0]; exact hn
    clear h ht hL hv ha hsl hn
    go_enter Try.func12, Try.ntmps12
    go_upto_region 2 with fail
    obtain ⟨hp0, hc0, hq0, hb0⟩ := three w s mk me a
    generalize hW0 : World.alloc (World.alloc (World.alloc w _) _) _ = W0 at hp0 hc0 hq0 hb0 ⊢
    clear hW0
    obtain ⟨q, hq⟩ : ∃ q, q = w.heap.size + 1 + 1 := ⟨_, rfl⟩
    obtain ⟨c, hc⟩ : ∃ c, c = w.heap.size + 1 := ⟨_, rfl⟩
    obtain ⟨p, hp⟩ : ∃ p, p = w.heap.size := ⟨_, rfl⟩
    rw [← hq] at hq0 ⊢
    rw [← hc] at hc0 ⊢
    rw [← hp] at hp0 ⊢
    have HPW : RowKit.Hid (w.heap.size ≤ p) := by rw [hp]; exact Nat.le_refl _
    have HO : RowKit.Hid (g < p ∧ p < c ∧ c < q) := ⟨by omega, by omega, by omega⟩
    have P0 := Lib.hid hp0; have C0 := Lib.hid hc0; have Q0 := Lib.hid hq0; have B0 := Lib.hid hb0
    clear hp0 hc0 hq0 hb0 hq hc hp hgw
    have a0 := C0.out.cell 0; have a1 := C0.out.cell 1; have a2 := C0.out.cell 2; have a3 := C0.out.cell 3; have a4 := C0.out.cell 4; have a5 := C0.out.cell 5
    have k0 := P0.out.c0; have k1 := P0.out.c1; have k2 := P0.out.c2
    go_wp2_with fail
    refine (HD.out W0 B0.out).mono ?_
    rintro x W1 ⟨rfl, hb⟩
    have P1 := Lib.hid (P0.out.below hb P0.out.lt)
    have C1 := Lib.hid (C0.out.below hb C0.out.lt)
    have Q1 := Lib.hid (Q0.out.below hb Q0.out.lt)
    have B1 := Lib.hid (B0.out.trans (hb.mono B0.out.size))
    clear hb P0 C0 Q0 B0 a0 a1 a2 a3 a4 a5 k0 k1 k2
    go_upto_region 22 with fail
    have hn2 : Dk (W1.alloc (.cells #[.string s, .int .i64 (M : Int), .int .i64 me] Td)) W1.heap.size s M me := heap_alloc_new W1 _
    have hb2 := (Below.refl W1.heap.size W1).alloc (Nat.le_refl _) (.cells #[.string s, .int .i64 (M : Int), .int .i64 me] Td)
    generalize World.alloc W1 _ = W2 at hn2 hb2 ⊢
    have B2 : RowKit.Hid (Below w.heap.size w W2) := B1.out.trans (hb2.mono B1.out.size)
    have P2 := Lib.hid (P1.out.below hb2 P1.out.lt)
    have C2 := Lib.hid (C1.out.below hb2 C1.out.lt)
    have Q2 := Lib.hid (Q1.out.below hb2 Q1.out.lt)
    have N2 := Lib.hid hn2
    have HO2 : RowKit.Hid (g < p ∧ p < c ∧ c < q ∧ q < W1.heap.size) := ⟨HO.out.1, HO.out.2.1, HO.out.2.2, Q1.out.lt⟩
    clear hn2 hb2 P1 C1 Q1 B1
    generalize W1.heap.size = n at *
    have hpg : p ≠ g := by have := HO2.out; omega
    have hqg : q ≠ g := by have := HO2.out; omega
    have hqp : q ≠ p := by have := HO2.out; omega
    have hcp : c ≠ p := by have := HO2.out; omega
    have p0 := P2.out.c0; have p1 := P2.out.c1; have p2 := P2.out.c2
    have f0 := P2.out.free 0; have f1 := P2.out.free 1; have f2 := P2.out.free 2
    have n0 := N2.out.c0; have n1 := N2.out.c1; have n2 := N2.out.c2
    go_upto_region 23 with fail
    have hP3 : Dk (((W2.setCell ⟨p, 0, none⟩ (.string s)).setCell ⟨p, 1, none⟩ (.int .i64 (M : Int))).setCell ⟨p, 2, none⟩ (.int .i64 me)) p s M me := put3_dk P2.out
    have hC3 : Ak (((W2.setCell ⟨p, 0, none⟩ (.string s)).setCell ⟨p, 1, none⟩ (.int .i64 (M : Int))).setCell ⟨p, 2, none⟩ (.int .i64 me)) c a := (put3_heap W2 p _ _ _ hcp).trans C2.out
    have hQ3 : Dk (((W2.setCell ⟨p, 0, none⟩ (.string s)).setCell ⟨p, 1, none⟩ (.int .i64 (M : Int))).setCell ⟨p, 2, none⟩ (.int .i64 me)) q ⟨#[]⟩ 0 0 := (put3_heap W2 p _ _ _ hqp).trans Q2.out
    have hB3 : Below w.heap.size w (((W2.setCell ⟨p, 0, none⟩ (.string s)).setCell ⟨p, 1, none⟩ (.int .i64 (M : Int))).setCell ⟨p, 2, none⟩ (.int .i64 me)) := ((B2.out.setCell HPW.out _).setCell HPW.out _).setCell HPW.out _
    generalize World.setCell (World.setCell (World.setCell W2 _ _) _ _) _ _ = W3 at hP3 hC3 hQ3 hB3 ⊢
    have P3 := Lib.hid hP3; have C3 := Lib.hid hC3; have Q3 := Lib.hid hQ3; have B3 := Lib.hid hB3
    clear hP3 hC3 hQ3 hB3 P2 C2 Q2 B2 p0 p1 p2 f0 f1 f2
    clear n0 n1 n2 N2
    obtain ⟨W2, hW2⟩ : ∃ W2, W2 = W3 := ⟨_, rfl⟩
    rw [← hW2]
    have S2 : RowKit.Hid (Sk Tb W2 g v k e) := by rw [hW2]; exact HS.out.below B3.out HS.out.lt
    have X2 : RowKit.Hid (Txb W2 g v s) := by rw [hW2]; exact HX.out.bel B3.out
    have G2 : RowKit.Hid (w.grownBy W2 (some g)) := by rw [hW2]; exact gb_below (gb_refl w (some g)) B3.out
    have P2 : RowKit.Hid (Dk W2 p s M F) := by rw [hW2]; first | exact P3.out | (rw [HFF.out]; exact P3.out)
    have C2 : RowKit.Hid (Ak W2 c a) := by rw [hW2]; exact C3.out
    have Q2 : RowKit.Hid (Dk W2 q ⟨#[]⟩ 0 0) := by rw [hW2]; exact Q3.out
    have HQW : RowKit.Hid (w.heap.size ≤ q) := by have h1 := HPW.out; have h2 := HO2.out; show _ ≤ q; omega
    clear hW2 P3 C3 Q3 B3
    have a1 := C2.out.cell 1; have a2 := C2.out.cell 2; have a3 := C2.out.cell 3; have a4 := C2.out.cell 4; have a5 := C2.out.cell 5
    go_wp2_with fail
    refine (HM.out W2 G2.out S2.out X2.out).mono ?_
    rintro x W5 ⟨rfl, hm⟩
    have P5 := Lib.hid (P2.out.kept hm.2 hpg)
    have Q5 := Lib.hid (Q2.out.kept hm.2 hqg)
    have X5 := Lib.hid (X2.out.kept hm.2)
    have G5 := Lib.hid (G2.out.trans hm.2)
    have S5 := Lib.hid hm.1
    clear hm S2 X2 G2 P2 C2 Q2 a1 a2 a3 a4 a5
    go_wp2_with fail
    have p0 := P5.out.c0; have p1 := P5.out.c1; have p2 := P5.out.c2
    have q0 := Q5.out.c0; have q1 := Q5.out.c1; have q2 := Q5.out.c2
    have f0 := Q5.out.free 0; have f1 := Q5.out.free 1; have f2 := Q5.out.free 2
    have hSC : Calls Try.prog 49 #[.pointer (some ⟨g, 0, none⟩), dm s M F] W5.drew fun x w' => ∃ b, x = .returned (.bool b) ∧ RowKit.Hid (M = K → F = E → b = true) ∧ RowKit.Hid (Sk Tb w' g v K E) ∧
        w'.cell? ⟨p, 0, none⟩ = some (.string s) ∧ w'.cell? ⟨p, 1, none⟩ = some (.int .i64 (M : Int)) ∧ w'.cell? ⟨p, 2, none⟩ = some (.int .i64 F) ∧ w.grownBy w' (some g) ∧
        w'.cell? ⟨q, 0, none⟩ = some (.string ⟨#[]⟩) ∧ w'.cell? ⟨q, 1, none⟩ = some (.int .i64 0) ∧ w'.cell? ⟨q, 2, none⟩ = some (.int .i64 0) ∧ w'.frozen? ⟨q, 0, none⟩ = false ∧ w'.frozen? ⟨q, 1, none⟩ = false ∧ w'.frozen? ⟨q, 2, none⟩ = false := by
      refine (same_b g K M E F v s W5.drew S5.out (X5.out.bel (belowdraws (Below.refl _ _) 1)) hKs hMs hs hE1 hE2).mono ?_
      rintro x w' ⟨b, hx, hb, hbel⟩
      have hp := Dk.below (w := W5.drew) P5.out hbel P5.out.lt
      have hq := Dk.below (w := W5.drew) Q5.out hbel Q5.out.lt
      exact ⟨b, hx, hb, Sk.below (w := W5.drew) S5.out hbel S5.out.lt, hp.c0, hp.c1, hp.c2, gb_below (gb_draw G5.out 1) hbel, hq.c0, hq.c1, hq.c2, hq.free 0, hq.free 1, hq.free 2⟩
    have HSC := Lib.hid hSC
    have hg5 := G5.out
    clear hSC
    go_region_held3 (fun w' => w'.cell? ⟨p, 0, none⟩ = some (.string s) ∧ w'.cell? ⟨p, 1, none⟩ = some (.int .i64 (M : Int)) ∧ w'.cell? ⟨p, 2, none⟩ = some (.int .i64 F) ∧ w.grownBy w' (some g))
      (first | exact ⟨p0, p1, p2, gb_draw hg5 1⟩ | exact ⟨by assumption, by assumption, by assumption, by assumption⟩ | exact put3_held (Ne.symm hqp) m0 m1 m2 hg6 HQW.out _ _ _)
      (first | (go_at_call 49; refine HSC.out.mono ?_; rintro x w6 ⟨b, rfl, hb6, hS6, m0, m1, m2, hg6, n0, n1, n2, z0, z1, z2⟩))
    go_wp2
    refine bodyPost_ret (v := .tuple #[dm s M F, .bool b]) (by simp [results, Try.results12, go_sem, n0, n1, n2]) rfl ?_
    exact ⟨b, rfl, fun h1 h2 => hb6.out (HKM.out h1 h2).1 (HKM.out h1 h2).2, Skb.put hS6.out (Ne.symm hqg) _ _ _, put3_gb hg6 HQW.out _ _ _⟩
end Go.Proofs.Ytelogbkhplegaaa
