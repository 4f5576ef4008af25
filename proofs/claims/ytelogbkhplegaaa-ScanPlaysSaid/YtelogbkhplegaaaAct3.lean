/- One act: kind 3. (Written by gen_act.py.) -/
import Derived.Test.YtelogbkhplegaaaActB
namespace Go.Proofs.Ytelogbkhplegaaa
open Go.RowKit
set_option linter.unusedVariables false

set_option maxRecDepth 100000 in
set_option maxHeartbeats 1600000 in
theorem act3_s
    (g k mk : Nat) (e me : Int) (v : Value) (s : ByteArray) (a : ActD) (w : World) (h : Sk Ts w g v k e) (ht : Txs w g v s) (hk : k ≤ s.size) (hmk : mk ≤ s.size) (hs : s.size ≤ 1000) (he : 0 ≤ e) (he' : e < 100)
    (ha : a.Ok w) (hL : Away a.list a.L g) (hsm : a.Small) (hv : ∀ A n c ad, v = .slice A n c → A = some ad → ad.block < w.heap.size)
    (hn : a.n = 3) :
    Calls Try.prog 11 #[.pointer (some ⟨g, 0, none⟩), dm s mk me, .agg a.cells] w
      (ActP Ts g v s (acK s.data.toList a k e) (acE s.data.toList a k e) (acK s.data.toList a mk me) (acE s.data.toList a mk me) (fun t => mk = k → me = e → t = true) w) := by
  have hsl : s.data.toList.length = s.size := by simp
  have hKs : acK s.data.toList a k e ≤ s.size := by rw [← hsl]; exact acK_le (by omega)
  have hMs : acK s.data.toList a mk me ≤ s.size := by rw [← hsl]; exact acK_le (by omega)
  obtain ⟨hE1, hE2⟩ := acE_lo (l := s.data.toList) (a := a) (k := k) he he'
  have e1 : acK s.data.toList a k e = k + tw (noB a.b) (rs s.data.toList k e) := by unfold acK; rw [hn]; rfl
  have e2 : acE s.data.toList a k e = e := by unfold acE; rw [hn]; rfl
  have e3 : acK s.data.toList a mk me = mk + tw (noB a.b) (rs s.data.toList mk me) := by unfold acK; rw [hn]; rfl
  have e4 : acE s.data.toList a mk me = me := by unfold acE; rw [hn]; rfl
  have hD : ∀ W, Below w.heap.size w W → Calls Try.prog 35 #[dm s mk me, .int .u8 (a.b.toNat : Int)] W fun x w' => x = .returned (.tuple #[.string (⟨((rs s.data.toList mk me).take (tw (noB a.b) (rs s.data.toList mk me))).toArray⟩ : ByteArray), dm s (acK s.data.toList a mk me) (acE s.data.toList a mk me)]) ∧ Below W.heap.size W w' := by
    intro W hbw; rw [e3, e4]; exact until_d s mk me a.b W hmk hs
  have hM : ∀ W, w.grownBy W (some g) → Sk Ts W g v k e → Txs W g v s → Calls Try.prog 17 #[.pointer (some ⟨g, 0, none⟩), .int .u8 (a.b.toNat : Int)] W fun x w' => x = .returned (.string (⟨((rs s.data.toList k e).take (tw (noB a.b) (rs s.data.toList k e))).toArray⟩ : ByteArray)) ∧ Mv Ts g v (acK s.data.toList a k e) (acE s.data.toList a k e) W w' := by
    intro W hgw h1 h2; rw [e1, e2]; exact until_s g k e v s a.b W h1 h2 hk hs
  have hsy : mk = k → me = e → (⟨((rs s.data.toList k e).take (tw (noB a.b) (rs s.data.toList k e))).toArray⟩ : ByteArray) = (⟨((rs s.data.toList mk me).take (tw (noB a.b) (rs s.data.toList mk me))).toArray⟩ : ByteArray) := by rintro rfl rfl; rfl
  generalize (⟨((rs s.data.toList k e).take (tw (noB a.b) (rs s.data.toList k e))).toArray⟩ : ByteArray) = t1 at *
  generalize (⟨((rs s.data.toList mk me).take (tw (noB a.b) (rs s.data.toList mk me))).toArray⟩ : ByteArray) = t2 at *
  have HD := Lib.hid hD; have HM := Lib.hid hM; have HSY := Lib.hid hsy
  clear e1 e2 e3 e4 hD hM hsy
  have hkm : mk = k → me = e → acK s.data.toList a mk me = acK s.data.toList a k e ∧ acE s.data.toList a mk me = acE s.data.toList a k e := by rintro rfl rfl; exact ⟨rfl, rfl⟩
  generalize acK s.data.toList a k e = K at *
  generalize acE s.data.toList a k e = E at *
  generalize acK s.data.toList a mk me = M at *
  generalize acE s.data.toList a mk me = F at *
  have HS := Lib.hid h; have HX := Lib.hid ht; have HL := Lib.hid hL; have HV := Lib.hid hv; have HA := Lib.hid ha
  have HKM := Lib.hid hkm
  clear hkm
  have hgw := h.lt
  have hu : IntKind.u64.wrap a.kind = a.u := rfl
  have hn1 : a.u % 9 = 3 := hn
  have hu0 : 0 ≤ a.u := by unfold ActD.u; simp [IntKind.wrap, IntKind.signed, IntKind.bits]; omega
  have hn2 : Int.tmod a.u 9 = 3 := by rw [Int.tmod_eq_emod_of_nonneg hu0]; exact hn
  clear h ht hL hv ha hsl hn
  go_enter Try.func11, Try.ntmps11
  go_upto_region 2 with fail
  obtain ⟨hp0, hc0, hq0, hb0⟩ := three w s mk me a
  generalize hW0 : World.alloc (World.alloc (World.alloc w _) _) _ = W0 at hp0 hc0 hq0 hb0 ⊢
  clear hW0
  obtain ⟨q, hq⟩ : ∃ q, q = w.heap.size + 1 + 1 := ⟨_, rfl⟩
  obtain ⟨c, hc⟩ : ∃ c, c = w.heap.size + 1 := ⟨_, rfl⟩
  obtain ⟨p, hp⟩ : ∃ p, p = w.heap.size := ⟨_, rfl⟩
  rw [← hq] at hq0 ⊢
  rw [← hc] at hc0 ⊢
  rw [← hp] at hp0 ⊢
  have HPW : RowKit.Hid (w.heap.size ≤ p) := by rw [hp]; exact Nat.le_refl _
  have HO : RowKit.Hid (g < p ∧ p < c ∧ c < q) := ⟨by omega, by omega, by omega⟩
  have P0 := Lib.hid hp0; have C0 := Lib.hid hc0; have Q0 := Lib.hid hq0; have B0 := Lib.hid hb0
  clear hp0 hc0 hq0 hb0 hq hc hp hgw
  have a0 := C0.out.cell 0; have a1 := C0.out.cell 1; have a2 := C0.out.cell 2; have a3 := C0.out.cell 3; have a4 := C0.out.cell 4; have a5 := C0.out.cell 5
  have k0 := P0.out.c0; have k1 := P0.out.c1; have k2 := P0.out.c2
  go_wp2_with fail
  refine (HD.out W0 B0.out).mono ?_
  rintro x W1 ⟨rfl, hb⟩
  have P1 := Lib.hid (P0.out.below hb P0.out.lt)
  have C1 := Lib.hid (C0.out.below hb C0.out.lt)
  have Q1 := Lib.hid (Q0.out.below hb Q0.out.lt)
  have B1 := Lib.hid (B0.out.trans (hb.mono B0.out.size))
  clear hb P0 C0 Q0 B0 a0 a1 a2 a3 a4 a5 k0 k1 k2
  go_upto_region 16 with fail
  have hn2 : Dk (W1.alloc (.cells #[.string s, .int .i64 (M : Int), .int .i64 F] Td)) W1.heap.size s M F := heap_alloc_new W1 _
  have hb2 := (Below.refl W1.heap.size W1).alloc (Nat.le_refl _) (.cells #[.string s, .int .i64 (M : Int), .int .i64 F] Td)
  generalize World.alloc W1 _ = W2 at hn2 hb2 ⊢
  have B2 : RowKit.Hid (Below w.heap.size w W2) := B1.out.trans (hb2.mono B1.out.size)
  have P2 := Lib.hid (P1.out.below hb2 P1.out.lt)
  have S2 := Lib.hid (HS.out.below B2.out HS.out.lt)
  have hgB : w.grownBy W2 (some g) := gb_below (gb_refl w (some g)) B2.out
  have hK2 : Kps w g W1.heap.size c q v s M F a W2 := ⟨hn2, C1.out.below hb2 C1.out.lt, Q1.out.below hb2 Q1.out.lt, HX.out.bel B2.out, HA.out.ls.below B2.out, hgB⟩
  have HO2 : RowKit.Hid (g < p ∧ p < c ∧ c < q ∧ q < W1.heap.size) := ⟨HO.out.1, HO.out.2.1, HO.out.2.2, Q1.out.lt⟩
  have hLp : Away a.list a.L p := HA.out.ls.away HPW.out
  have HLP := Lib.hid hLp
  clear hn2 hb2 hgB HO P1 C1 Q1 B1 hLp
  generalize W1.heap.size = n at *
  have hnp : n ≠ p := by have := HO2.out; omega
  have hcp : c ≠ p := by have := HO2.out; omega
  have hqp : q ≠ p := by have := HO2.out; omega
  have hng : n ≠ g := by have := HO2.out; omega
  have hcg : c ≠ g := by have := HO2.out; omega
  have hqg : q ≠ g := by have := HO2.out; omega
  have hpg : p ≠ g := by have := HO2.out; omega
  have p0 := P2.out.c0; have p1 := P2.out.c1; have p2 := P2.out.c2
  have f0 := P2.out.free 0; have f1 := P2.out.free 1; have f2 := P2.out.free 2
  have hMC : ∀ W, Sk Ts W g v k e → Kps w g n c q v s M F a W → Dk W p s mk me → Calls Try.prog 17 #[.pointer (some ⟨g, 0, none⟩), .int .u8 (a.b.toNat : Int)] W fun x w' => x = .returned (.string t1) ∧ Kps w g n c q v s M F a w' ∧ RowKit.Hid (Sk Ts w' g v K E) ∧ RowKit.Hid (Dk w' p s mk me) ∧
      w'.cell? ⟨p, 0, none⟩ = some (.string s) ∧ w'.cell? ⟨p, 1, none⟩ = some (.int .i64 (mk : Int)) ∧ w'.cell? ⟨p, 2, none⟩ = some (.int .i64 me) ∧ w'.frozen? ⟨p, 0, none⟩ = false ∧ w'.frozen? ⟨p, 1, none⟩ = false ∧ w'.frozen? ⟨p, 2, none⟩ = false :=
    fun W h1 h2 h3 => (HM.out W h2.g h1 h2.t).mono fun x w' ⟨e, hm⟩ => ⟨e, h2.step hm.2 hng hcg hqg HL.out, hm.1, h3.kept hm.2 hpg, (h3.kept hm.2 hpg).c0, (h3.kept hm.2 hpg).c1, (h3.kept hm.2 hpg).c2, (h3.kept hm.2 hpg).free 0, (h3.kept hm.2 hpg).free 1, (h3.kept hm.2 hpg).free 2⟩
  have HMC := Lib.hid hMC
  clear hMC
  go_region_held3 (fun w' => w'.cell? ⟨n, 0, none⟩ = some (.string s) ∧ w'.cell? ⟨n, 1, none⟩ = some (.int .i64 (M : Int)) ∧ w'.cell? ⟨n, 2, none⟩ = some (.int .i64 F) ∧ w'.cell? ⟨c, 1, none⟩ = some (.int .u8 (a.b.toNat : Int)) ∧ w'.cell? ⟨c, 2, none⟩ = some (.string a.word) ∧ w'.cell? ⟨c, 3, none⟩ = some (.slice a.L a.list.length a.cl) ∧ w'.cell? ⟨c, 4, none⟩ = some (.int .i64 a.least) ∧ w'.cell? ⟨c, 5, none⟩ = some (.int .i64 a.most) ∧ Kps w g n c q v s M F a w')
    (first | exact Kps.cells (Kps.drew hK2) | exact Kps.cells (by assumption) | exact Kps.cells (Kps.put (by assumption) hnp hcp hqp HPW.out HV.out HLP.out _ _ _))
    (first
      | (go_at_call 17; go_split_ands; refine (HMC.out W2.drew S2.out (Kps.drew hK2) P2.out).mono ?_; rintro x W4 ⟨rfl, hK4, hS4, hP4, p40, p41, p42, f40, f41, f42⟩))
  have hsb : mk = k → me = e → (t1.toList == t2.toList) = true := fun h1 h2 => by rw [HSY.out h1 h2]; simp
  generalize (t1.toList == t2.toList) = tk at hsb ⊢
  have HSB := Lib.hid hsb
  have hP5 : Dk (((W4.setCell ⟨p, 0, none⟩ (.string s)).setCell ⟨p, 1, none⟩ (.int .i64 (M : Int))).setCell ⟨p, 2, none⟩ (.int .i64 F)) p s M F := put3_dk hP4.out
  have hK5 : Kps w g n c q v s M F a (((W4.setCell ⟨p, 0, none⟩ (.string s)).setCell ⟨p, 1, none⟩ (.int .i64 (M : Int))).setCell ⟨p, 2, none⟩ (.int .i64 F)) := Kps.put hK4 hnp hcp hqp HPW.out HV.out HLP.out _ _ _
  have hS5 : Sk Ts (((W4.setCell ⟨p, 0, none⟩ (.string s)).setCell ⟨p, 1, none⟩ (.int .i64 (M : Int))).setCell ⟨p, 2, none⟩ (.int .i64 F)) g v K E := Sks.put hS4.out (Ne.symm hpg) _ _ _
  generalize World.setCell (World.setCell (World.setCell W4 _ _) _ _) _ _ = W5 at hP5 hK5 hS5 ⊢
  have P5 := Lib.hid hP5; have Q5 := Lib.hid hK5.q; have S5 := Lib.hid hS5; have X5 := Lib.hid hK5.t; have G5 := Lib.hid hK5.g
  have HQW : RowKit.Hid (w.heap.size ≤ q) := by have h1 := HPW.out; have h2 := HO2.out; show _ ≤ q; omega
  clear hsb hP5 hK5 hS5 hK4 hK2 hS4 hP4 p40 p41 p42 f40 f41 f42 p0 p1 p2 f0 f1 f2 HMC HM HD HSY
  try clear hb3
  go_wp2_with fail
  have p0 := P5.out.c0; have p1 := P5.out.c1; have p2 := P5.out.c2
  have q0 := Q5.out.c0; have q1 := Q5.out.c1; have q2 := Q5.out.c2
  have f0 := Q5.out.free 0; have f1 := Q5.out.free 1; have f2 := Q5.out.free 2
  cases tk
  case false =>
    go_region
    go_wp2
    refine bodyPost_ret (v := .tuple #[dm s M F, .bool false]) (by simp [results, Try.results11, go_sem, q0, q1, q2]) rfl ?_
    exact ⟨false, rfl, HSB.out, Sks.put S5.out (Ne.symm hqg) _ _ _, gb_draw (put3_gb G5.out HQW.out _ _ _) 1⟩
  case true =>
    have hSC : Calls Try.prog 10 #[.pointer (some ⟨g, 0, none⟩), dm s M F] W5.drew fun x w' => ∃ b, x = .returned (.bool b) ∧ RowKit.Hid (M = K → F = E → b = true) ∧ RowKit.Hid (Sk Ts w' g v K E) ∧
        w'.cell? ⟨p, 0, none⟩ = some (.string s) ∧ w'.cell? ⟨p, 1, none⟩ = some (.int .i64 (M : Int)) ∧ w'.cell? ⟨p, 2, none⟩ = some (.int .i64 F) ∧ w.grownBy w' (some g) ∧
        w'.cell? ⟨q, 0, none⟩ = some (.string ⟨#[]⟩) ∧ w'.cell? ⟨q, 1, none⟩ = some (.int .i64 0) ∧ w'.cell? ⟨q, 2, none⟩ = some (.int .i64 0) ∧ w'.frozen? ⟨q, 0, none⟩ = false ∧ w'.frozen? ⟨q, 1, none⟩ = false ∧ w'.frozen? ⟨q, 2, none⟩ = false := by
      refine (same_s g K M E F v s W5.drew S5.out (X5.out.bel (belowdraws (Below.refl _ _) 1)) hKs hMs hs hE1 hE2).mono ?_
      rintro x w' ⟨b, hx, hb, hbel⟩
      have hp := Dk.below (w := W5.drew) P5.out hbel P5.out.lt
      have hq := Dk.below (w := W5.drew) Q5.out hbel Q5.out.lt
      exact ⟨b, hx, hb, Sk.below (w := W5.drew) S5.out hbel S5.out.lt, hp.c0, hp.c1, hp.c2, gb_below (gb_draw G5.out 1) hbel, hq.c0, hq.c1, hq.c2, hq.free 0, hq.free 1, hq.free 2⟩
    have HSC := Lib.hid hSC
    have hg5 := G5.out
    clear hSC
    go_region_held3 (fun w' => w'.cell? ⟨p, 0, none⟩ = some (.string s) ∧ w'.cell? ⟨p, 1, none⟩ = some (.int .i64 (M : Int)) ∧ w'.cell? ⟨p, 2, none⟩ = some (.int .i64 F) ∧ w.grownBy w' (some g))
      (first | exact ⟨p0, p1, p2, gb_draw hg5 1⟩ | exact ⟨by assumption, by assumption, by assumption, by assumption⟩ | exact put3_held (Ne.symm hqp) m0 m1 m2 hg6 HQW.out _ _ _)
      (first | (go_at_call 10; refine HSC.out.mono ?_; rintro x w6 ⟨b, rfl, hb6, hS6, m0, m1, m2, hg6, n0, n1, n2, z0, z1, z2⟩))
    go_wp2
    refine bodyPost_ret (v := .tuple #[dm s M F, .bool b]) (by simp [results, Try.results11, go_sem, n0, n1, n2]) rfl ?_
    exact ⟨b, rfl, fun h1 h2 => hb6.out (HKM.out h1 h2).1 (HKM.out h1 h2).2, Sks.put hS6.out (Ne.symm hqg) _ _ _, put3_gb hg6 HQW.out _ _ _⟩
set_option maxRecDepth 100000 in
set_option maxHeartbeats 1600000 in
theorem act3_b
    (g k mk : Nat) (e me : Int) (v : Value) (s : ByteArray) (a : ActD) (w : World) (h : Sk Tb w g v k e) (ht : Txb w g v s) (hk : k ≤ s.size) (hmk : mk ≤ s.size) (hs : s.size ≤ 1000) (he : 0 ≤ e) (he' : e < 100)
    (ha : a.Ok w) (hL : Away a.list a.L g) (hsm : a.Small) (hv : ∀ A n c ad, v = .slice A n c → A = some ad → ad.block < w.heap.size)
    (hn : a.n = 3) :
    Calls Try.prog 12 #[.pointer (some ⟨g, 0, none⟩), dm s mk me, .agg a.cells] w
      (ActP Tb g v s (acK s.data.toList a k e) (acE s.data.toList a k e) (acK s.data.toList a mk me) (acE s.data.toList a mk me) (fun t => mk = k → me = e → t = true) w) := by
  have hsl : s.data.toList.length = s.size := by simp
  have hKs : acK s.data.toList a k e ≤ s.size := by rw [← hsl]; exact acK_le (by omega)
  have hMs : acK s.data.toList a mk me ≤ s.size := by rw [← hsl]; exact acK_le (by omega)
  obtain ⟨hE1, hE2⟩ := acE_lo (l := s.data.toList) (a := a) (k := k) he he'
  have e1 : acK s.data.toList a k e = k + tw (noB a.b) (rs s.data.toList k e) := by unfold acK; rw [hn]; rfl
  have e2 : acE s.data.toList a k e = e := by unfold acE; rw [hn]; rfl
  have e3 : acK s.data.toList a mk me = mk + tw (noB a.b) (rs s.data.toList mk me) := by unfold acK; rw [hn]; rfl
  have e4 : acE s.data.toList a mk me = me := by unfold acE; rw [hn]; rfl
  have hD : ∀ W, Below w.heap.size w W → Calls Try.prog 35 #[dm s mk me, .int .u8 (a.b.toNat : Int)] W fun x w' => x = .returned (.tuple #[.string (⟨((rs s.data.toList mk me).take (tw (noB a.b) (rs s.data.toList mk me))).toArray⟩ : ByteArray), dm s (acK s.data.toList a mk me) (acE s.data.toList a mk me)]) ∧ Below W.heap.size W w' := by
    intro W hbw; rw [e3, e4]; exact until_d s mk me a.b W hmk hs
  have hM : ∀ W, w.grownBy W (some g) → Sk Tb W g v k e → Txb W g v s → Calls Try.prog 43 #[.pointer (some ⟨g, 0, none⟩), .int .u8 (a.b.toNat : Int)] W fun x w' => x = .returned (.string (⟨((rs s.data.toList k e).take (tw (noB a.b) (rs s.data.toList k e))).toArray⟩ : ByteArray)) ∧ Mv Tb g v (acK s.data.toList a k e) (acE s.data.toList a k e) W w' := by
    intro W hgw h1 h2; rw [e1, e2]; exact until_b g k e v s a.b W h1 h2 hk hs
  have hsy : mk = k → me = e → (⟨((rs s.data.toList k e).take (tw (noB a.b) (rs s.data.toList k e))).toArray⟩ : ByteArray) = (⟨((rs s.data.toList mk me).take (tw (noB a.b) (rs s.data.toList mk me))).toArray⟩ : ByteArray) := by rintro rfl rfl; rfl
  generalize (⟨((rs s.data.toList k e).take (tw (noB a.b) (rs s.data.toList k e))).toArray⟩ : ByteArray) = t1 at *
  generalize (⟨((rs s.data.toList mk me).take (tw (noB a.b) (rs s.data.toList mk me))).toArray⟩ : ByteArray) = t2 at *
  have HD := Lib.hid hD; have HM := Lib.hid hM; have HSY := Lib.hid hsy
  clear e1 e2 e3 e4 hD hM hsy
  have hkm : mk = k → me = e → acK s.data.toList a mk me = acK s.data.toList a k e ∧ acE s.data.toList a mk me = acE s.data.toList a k e := by rintro rfl rfl; exact ⟨rfl, rfl⟩
  generalize acK s.data.toList a k e = K at *
  generalize acE s.data.toList a k e = E at *
  generalize acK s.data.toList a mk me = M at *
  generalize acE s.data.toList a mk me = F at *
  have HS := Lib.hid h; have HX := Lib.hid ht; have HL := Lib.hid hL; have HV := Lib.hid hv; have HA := Lib.hid ha
  have HKM := Lib.hid hkm
  clear hkm
  have hgw := h.lt
  have hu : IntKind.u64.wrap a.kind = a.u := rfl
  have hn1 : a.u % 9 = 3 := hn
  have hu0 : 0 ≤ a.u := by unfold ActD.u; simp [IntKind.wrap, IntKind.signed, IntKind.bits]; omega
  have hn2 : Int.tmod a.u 9 = 3 := by rw [Int.tmod_eq_emod_of_nonneg hu0]; exact hn
  clear h ht hL hv ha hsl hn
  go_enter Try.func12, Try.ntmps12
  go_upto_region 2 with fail
  obtain ⟨hp0, hc0, hq0, hb0⟩ := three w s mk me a
  generalize hW0 : World.alloc (World.alloc (World.alloc w _) _) _ = W0 at hp0 hc0 hq0 hb0 ⊢
  clear hW0
  obtain ⟨q, hq⟩ : ∃ q, q = w.heap.size + 1 + 1 := ⟨_, rfl⟩
  obtain ⟨c, hc⟩ : ∃ c, c = w.heap.size + 1 := ⟨_, rfl⟩
  obtain ⟨p, hp⟩ : ∃ p, p = w.heap.size := ⟨_, rfl⟩
  rw [← hq] at hq0 ⊢
  rw [← hc] at hc0 ⊢
  rw [← hp] at hp0 ⊢
  have HPW : RowKit.Hid (w.heap.size ≤ p) := by rw [hp]; exact Nat.le_refl _
  have HO : RowKit.Hid (g < p ∧ p < c ∧ c < q) := ⟨by omega, by omega, by omega⟩
  have P0 := Lib.hid hp0; have C0 := Lib.hid hc0; have Q0 := Lib.hid hq0; have B0 := Lib.hid hb0
  clear hp0 hc0 hq0 hb0 hq hc hp hgw
  have a0 := C0.out.cell 0; have a1 := C0.out.cell 1; have a2 := C0.out.cell 2; have a3 := C0.out.cell 3; have a4 := C0.out.cell 4; have a5 := C0.out.cell 5
  have k0 := P0.out.c0; have k1 := P0.out.c1; have k2 := P0.out.c2
  go_wp2_with fail
  refine (HD.out W0 B0.out).mono ?_
  rintro x W1 ⟨rfl, hb⟩
  have P1 := Lib.hid (P0.out.below hb P0.out.lt)
  have C1 := Lib.hid (C0.out.below hb C0.out.lt)
  have Q1 := Lib.hid (Q0.out.below hb Q0.out.lt)
  have B1 := Lib.hid (B0.out.trans (hb.mono B0.out.size))
  clear hb P0 C0 Q0 B0 a0 a1 a2 a3 a4 a5 k0 k1 k2
  go_upto_region 16 with fail
  have hn2 : Dk (W1.alloc (.cells #[.string s, .int .i64 (M : Int), .int .i64 F] Td)) W1.heap.size s M F := heap_alloc_new W1 _
  have hb2 := (Below.refl W1.heap.size W1).alloc (Nat.le_refl _) (.cells #[.string s, .int .i64 (M : Int), .int .i64 F] Td)
  generalize World.alloc W1 _ = W2 at hn2 hb2 ⊢
  have B2 : RowKit.Hid (Below w.heap.size w W2) := B1.out.trans (hb2.mono B1.out.size)
  have P2 := Lib.hid (P1.out.below hb2 P1.out.lt)
  have S2 := Lib.hid (HS.out.below B2.out HS.out.lt)
  have hgB : w.grownBy W2 (some g) := gb_below (gb_refl w (some g)) B2.out
  have hK2 : Kpb w g W1.heap.size c q v s M F a W2 := ⟨hn2, C1.out.below hb2 C1.out.lt, Q1.out.below hb2 Q1.out.lt, HX.out.bel B2.out, HA.out.ls.below B2.out, hgB⟩
  have HO2 : RowKit.Hid (g < p ∧ p < c ∧ c < q ∧ q < W1.heap.size) := ⟨HO.out.1, HO.out.2.1, HO.out.2.2, Q1.out.lt⟩
  have hLp : Away a.list a.L p := HA.out.ls.away HPW.out
  have HLP := Lib.hid hLp
  clear hn2 hb2 hgB HO P1 C1 Q1 B1 hLp
  generalize W1.heap.size = n at *
  have hnp : n ≠ p := by have := HO2.out; omega
  have hcp : c ≠ p := by have := HO2.out; omega
  have hqp : q ≠ p := by have := HO2.out; omega
  have hng : n ≠ g := by have := HO2.out; omega
  have hcg : c ≠ g := by have := HO2.out; omega
  have hqg : q ≠ g := by have := HO2.out; omega
  have hpg : p ≠ g := by have := HO2.out; omega
  have p0 := P2.out.c0; have p1 := P2.out.c1; have p2 := P2.out.c2
  have f0 := P2.out.free 0; have f1 := P2.out.free 1; have f2 := P2.out.free 2
  have hMC : ∀ W, Sk Tb W g v k e → Kpb w g n c q v s M F a W → Dk W p s mk me → Calls Try.prog 43 #[.pointer (some ⟨g, 0, none⟩), .int .u8 (a.b.toNat : Int)] W fun x w' => x = .returned (.string t1) ∧ Kpb w g n c q v s M F a w' ∧ RowKit.Hid (Sk Tb w' g v K E) ∧ RowKit.Hid (Dk w' p s mk me) ∧
      w'.cell? ⟨p, 0, none⟩ = some (.string s) ∧ w'.cell? ⟨p, 1, none⟩ = some (.int .i64 (mk : Int)) ∧ w'.cell? ⟨p, 2, none⟩ = some (.int .i64 me) ∧ w'.frozen? ⟨p, 0, none⟩ = false ∧ w'.frozen? ⟨p, 1, none⟩ = false ∧ w'.frozen? ⟨p, 2, none⟩ = false :=
    fun W h1 h2 h3 => (HM.out W h2.g h1 h2.t).mono fun x w' ⟨e, hm⟩ => ⟨e, h2.step hm.2 hng hcg hqg HL.out, hm.1, h3.kept hm.2 hpg, (h3.kept hm.2 hpg).c0, (h3.kept hm.2 hpg).c1, (h3.kept hm.2 hpg).c2, (h3.kept hm.2 hpg).free 0, (h3.kept hm.2 hpg).free 1, (h3.kept hm.2 hpg).free 2⟩
  have HMC := Lib.hid hMC
  clear hMC
  go_region_held3 (fun w' => w'.cell? ⟨n, 0, none⟩ = some (.string s) ∧ w'.cell? ⟨n, 1, none⟩ = some (.int .i64 (M : Int)) ∧ w'.cell? ⟨n, 2, none⟩ = some (.int .i64 F) ∧ w'.cell? ⟨c, 1, none⟩ = some (.int .u8 (a.b.toNat : Int)) ∧ w'.cell? ⟨c, 2, none⟩ = some (.string a.word) ∧ w'.cell? ⟨c, 3, none⟩ = some (.slice a.L a.list.length a.cl) ∧ w'.cell? ⟨c, 4, none⟩ = some (.int .i64 a.least) ∧ w'.cell? ⟨c, 5, none⟩ = some (.int .i64 a.most) ∧ Kpb w g n c q v s M F a w')
    (first | exact Kpb.cells (Kpb.drew hK2) | exact Kpb.cells (by assumption) | exact Kpb.cells (Kpb.put (by assumption) hnp hcp hqp HPW.out HV.out HLP.out _ _ _))
    (first
      | (go_at_call 43; go_split_ands; refine (HMC.out W2.drew S2.out (Kpb.drew hK2) P2.out).mono ?_; rintro x W4 ⟨rfl, hK4, hS4, hP4, p40, p41, p42, f40, f41, f42⟩))
  have hsb : mk = k → me = e → (t1.toList == t2.toList) = true := fun h1 h2 => by rw [HSY.out h1 h2]; simp
  generalize (t1.toList == t2.toList) = tk at hsb ⊢
  have HSB := Lib.hid hsb
  have hP5 : Dk (((W4.setCell ⟨p, 0, none⟩ (.string s)).setCell ⟨p, 1, none⟩ (.int .i64 (M : Int))).setCell ⟨p, 2, none⟩ (.int .i64 F)) p s M F := put3_dk hP4.out
  have hK5 : Kpb w g n c q v s M F a (((W4.setCell ⟨p, 0, none⟩ (.string s)).setCell ⟨p, 1, none⟩ (.int .i64 (M : Int))).setCell ⟨p, 2, none⟩ (.int .i64 F)) := Kpb.put hK4 hnp hcp hqp HPW.out HV.out HLP.out _ _ _
  have hS5 : Sk Tb (((W4.setCell ⟨p, 0, none⟩ (.string s)).setCell ⟨p, 1, none⟩ (.int .i64 (M : Int))).setCell ⟨p, 2, none⟩ (.int .i64 F)) g v K E := Skb.put hS4.out (Ne.symm hpg) _ _ _
  generalize World.setCell (World.setCell (World.setCell W4 _ _) _ _) _ _ = W5 at hP5 hK5 hS5 ⊢
  have P5 := Lib.hid hP5; have Q5 := Lib.hid hK5.q; have S5 := Lib.hid hS5; have X5 := Lib.hid hK5.t; have G5 := Lib.hid hK5.g
  have HQW : RowKit.Hid (w.heap.size ≤ q) := by have h1 := HPW.out; have h2 := HO2.out; show _ ≤ q; omega
  clear hsb hP5 hK5 hS5 hK4 hK2 hS4 hP4 p40 p41 p42 f40 f41 f42 p0 p1 p2 f0 f1 f2 HMC HM HD HSY
  try clear hb3
  go_wp2_with fail
  have p0 := P5.out.c0; have p1 := P5.out.c1; have p2 := P5.out.c2
  have q0 := Q5.out.c0; have q1 := Q5.out.c1; have q2 := Q5.out.c2
  have f0 := Q5.out.free 0; have f1 := Q5.out.free 1; have f2 := Q5.out.free 2
  cases tk
  case false =>
    go_region
    go_wp2
    refine bodyPost_ret (v := .tuple #[dm s M F, .bool false]) (by simp [results, Try.results12, go_sem, q0, q1, q2]) rfl ?_
    exact ⟨false, rfl, HSB.out, Skb.put S5.out (Ne.symm hqg) _ _ _, gb_draw (put3_gb G5.out HQW.out _ _ _) 1⟩
  case true =>
    have hSC : Calls Try.prog 49 #[.pointer (some ⟨g, 0, none⟩), dm s M F] W5.drew fun x w' => ∃ b, x = .returned (.bool b) ∧ RowKit.Hid (M = K → F = E → b = true) ∧ RowKit.Hid (Sk Tb w' g v K E) ∧
        w'.cell? ⟨p, 0, none⟩ = some (.string s) ∧ w'.cell? ⟨p, 1, none⟩ = some (.int .i64 (M : Int)) ∧ w'.cell? ⟨p, 2, none⟩ = some (.int .i64 F) ∧ w.grownBy w' (some g) ∧
        w'.cell? ⟨q, 0, none⟩ = some (.string ⟨#[]⟩) ∧ w'.cell? ⟨q, 1, none⟩ = some (.int .i64 0) ∧ w'.cell? ⟨q, 2, none⟩ = some (.int .i64 0) ∧ w'.frozen? ⟨q, 0, none⟩ = false ∧ w'.frozen? ⟨q, 1, none⟩ = false ∧ w'.frozen? ⟨q, 2, none⟩ = false := by
      refine (same_b g K M E F v s W5.drew S5.out (X5.out.bel (belowdraws (Below.refl _ _) 1)) hKs hMs hs hE1 hE2).mono ?_
      rintro x w' ⟨b, hx, hb, hbel⟩
      have hp := Dk.below (w := W5.drew) P5.out hbel P5.out.lt
      have hq := Dk.below (w := W5.drew) Q5.out hbel Q5.out.lt
      exact ⟨b, hx, hb, Sk.below (w := W5.drew) S5.out hbel S5.out.lt, hp.c0, hp.c1, hp.c2, gb_below (gb_draw G5.out 1) hbel, hq.c0, hq.c1, hq.c2, hq.free 0, hq.free 1, hq.free 2⟩
    have HSC := Lib.hid hSC
    have hg5 := G5.out
    clear hSC
    go_region_held3 (fun w' => w'.cell? ⟨p, 0, none⟩ = some (.string s) ∧ w'.cell? ⟨p, 1, none⟩ = some (.int .i64 (M : Int)) ∧ w'.cell? ⟨p, 2, none⟩ = some (.int .i64 F) ∧ w.grownBy w' (some g))
      (first | exact ⟨p0, p1, p2, gb_draw hg5 1⟩ | exact ⟨by assumption, by assumption, by assumption, by assumption⟩ | exact put3_held (Ne.symm hqp) m0 m1 m2 hg6 HQW.out _ _ _)
      (first | (go_at_call 49; refine HSC.out.mono ?_; rintro x w6 ⟨b, rfl, hb6, hS6, m0, m1, m2, hg6, n0, n1, n2, z0, z1, z2⟩))
    go_wp2
    refine bodyPost_ret (v := .tuple #[dm s M F, .bool b]) (by simp [results, Try.results12, go_sem, n0, n1, n2]) rfl ?_
    exact ⟨b, rfl, fun h1 h2 => hb6.out (HKM.out h1 h2).1 (HKM.out h1 h2).2, Skb.put hS6.out (Ne.symm hqg) _ _ _, put3_gb hg6 HQW.out _ _ _⟩
end Go.Proofs.Ytelogbkhplegaaa
