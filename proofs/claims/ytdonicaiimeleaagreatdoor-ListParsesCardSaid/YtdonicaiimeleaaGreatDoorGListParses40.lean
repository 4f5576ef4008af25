/- Merged: ShaU, ShaJ. -/
import Derived.Test.YtdonicaiimeleaaGreatDoorGListParses30
import Derived.Test.YtdonicaiimeleaaGreatDoorGListParses31
import Derived.Deep.RegionHeld3
import Derived.Test.YtdonicaiimeleaaGreatDoorGListParses36
import Derived.Test.YtdonicaiimeleaaGreatDoorGListParses34
namespace Go.Proofs.YtdonicaiimeleaaGreatDoor
open Go.RowKit Go.WideShapes Go.ChangeShapes
set_option linter.unusedVariables false

theorem sum5 (a b c d e : BitVec 32) : (u a + u b + u c + u d + u e) % 4294967296 = u (a + b + c + d + e) := by
  unfold u
  simp only [BitVec.toNat_add]
  omega
/-- A round, operation by operation. -/
theorem rdp0 (t : Nat) (x : BitVec 32) (S : St) (h0 : t ≤ 19) : ∃ f1 f2 f3 zf : Int, ∃ y : BitVec 32, bits .and .u32 (u S.b) (u S.c) = f1 ∧ bits .xor .u32 IntKind.u32.max (u S.b) = f3 ∧ bits .and .u32 f3 (u S.d) = f2 ∧ bits .or .u32 f1 f2 = zf ∧
    Hid ((u (rot S.a 5) + zf + u S.e + 1518500249 + u x) % 4294967296 = u y) ∧ Hid (srd t x S = ⟨y, S.a, rot S.b 30, S.c, S.d⟩) :=
  ⟨u (S.b &&& S.c), u (~~~S.b &&& S.d), u (~~~S.b), u (S.b &&& S.c ||| ~~~S.b &&& S.d), rot S.a 5 + (S.b &&& S.c ||| ~~~S.b &&& S.d) + S.e + 0x5a827999#32 + x, u_and _ _, u_not _, u_and _ _, u_or _ _,
    Lib.hid (sum5 _ _ _ 0x5a827999#32 _), Lib.hid (by unfold srd; rw [(ff0 h0 S.b S.c S.d).1, (ff0 h0 S.b S.c S.d).2])⟩
theorem rdp1 (t : Nat) (x : BitVec 32) (S : St) (h0 : ¬ t ≤ 19) (h1 : t ≤ 39) : ∃ f1 zf : Int, ∃ y : BitVec 32, bits .xor .u32 (u S.b) (u S.c) = f1 ∧ bits .xor .u32 f1 (u S.d) = zf ∧
    Hid ((u (rot S.a 5) + zf + u S.e + 1859775393 + u x) % 4294967296 = u y) ∧ Hid (srd t x S = ⟨y, S.a, rot S.b 30, S.c, S.d⟩) :=
  ⟨u (S.b ^^^ S.c), u (S.b ^^^ S.c ^^^ S.d), rot S.a 5 + (S.b ^^^ S.c ^^^ S.d) + S.e + 0x6ed9eba1#32 + x, u_xor _ _, u_xor _ _,
    Lib.hid (sum5 _ _ _ 0x6ed9eba1#32 _), Lib.hid (by unfold srd; rw [(ff1 h0 h1 S.b S.c S.d).1, (ff1 h0 h1 S.b S.c S.d).2])⟩
theorem rdp2 (t : Nat) (x : BitVec 32) (S : St) (h1 : ¬ t ≤ 39) (h2 : t ≤ 59) : ∃ f1 f2 f3 f4 zf : Int, ∃ y : BitVec 32, bits .and .u32 (u S.b) (u S.c) = f2 ∧ bits .and .u32 (u S.b) (u S.d) = f3 ∧ bits .or .u32 f2 f3 = f1 ∧ bits .and .u32 (u S.c) (u S.d) = f4 ∧ bits .or .u32 f1 f4 = zf ∧
    Hid ((u (rot S.a 5) + zf + u S.e + 2400959708 + u x) % 4294967296 = u y) ∧ Hid (srd t x S = ⟨y, S.a, rot S.b 30, S.c, S.d⟩) :=
  ⟨u (S.b &&& S.c ||| S.b &&& S.d), u (S.b &&& S.c), u (S.b &&& S.d), u (S.c &&& S.d), u (S.b &&& S.c ||| S.b &&& S.d ||| S.c &&& S.d), rot S.a 5 + (S.b &&& S.c ||| S.b &&& S.d ||| S.c &&& S.d) + S.e + 0x8f1bbcdc#32 + x, u_and _ _, u_and _ _, u_or _ _, u_and _ _, u_or _ _,
    Lib.hid (sum5 _ _ _ 0x8f1bbcdc#32 _), Lib.hid (by unfold srd; rw [(ff2 h1 h2 S.b S.c S.d).1, (ff2 h1 h2 S.b S.c S.d).2])⟩
theorem rdp3 (t : Nat) (x : BitVec 32) (S : St) (h2 : ¬ t ≤ 59) : ∃ f1 zf : Int, ∃ y : BitVec 32, bits .xor .u32 (u S.b) (u S.c) = f1 ∧ bits .xor .u32 f1 (u S.d) = zf ∧
    Hid ((u (rot S.a 5) + zf + u S.e + 3395469782 + u x) % 4294967296 = u y) ∧ Hid (srd t x S = ⟨y, S.a, rot S.b 30, S.c, S.d⟩) :=
  ⟨u (S.b ^^^ S.c), u (S.b ^^^ S.c ^^^ S.d), rot S.a 5 + (S.b ^^^ S.c ^^^ S.d) + S.e + 0xca62c1d6#32 + x, u_xor _ _, u_xor _ _,
    Lib.hid (sum5 _ _ _ 0xca62c1d6#32 _), Lib.hid (by unfold srd; rw [(ff3 h2 S.b S.c S.d).1, (ff3 h2 S.b S.c S.d).2])⟩
/-- What the rounds keep: the words' block, and what lay below. -/
def Keeps9 (W0 w : World) (b : Nat) (p : List (BitVec 32)) : Prop := (∀ i, i < 80 → w.cell? ⟨b, i, none⟩ = some (.int .u32 (u (p.getD i 0)))) ∧ Below W0.heap.size W0 w

set_option maxRecDepth 100000 in
set_option maxHeartbeats 1000000 in
theorem rstep_any (s : St) (A : Option Addr) (l : List UInt8) (c : Nat) (w : World) (h : Rb w A l) (hA : A = none → c = 0) (hc : l.length ≤ c) (hl : l.length = 64) :
    Calls Tryz.prog 57 #[.agg (stv s), .slice A l.length c] w fun e w' => e = .returned (.agg (stv (stp s l))) ∧ Below w.heap.size w w' := by
  obtain ⟨W0, hW0⟩ : ∃ W0, W0 = (w.alloc (.cells (stv s) 36)).alloc (.cells #[.int .u32 0, .int .u32 0, .int .u32 0, .int .u32 0, .int .u32 0] 36) := ⟨_, rfl⟩
  have b0 : Below w.heap.size w W0 := by rw [hW0]; exact ((Below.refl _ w).alloc (Nat.le_refl _) _).alloc (by simp) _
  have p0 : Sb W0 w.heap.size s := by
    rw [hW0]
    have h1 : Sb (w.alloc (.cells (stv s) 36)) w.heap.size s := heap_alloc_new w _
    exact h1.keep ((Below.refl _ _).alloc (Nat.le_refl _) _)
  have z0 : Sb W0 (w.heap.size + 1) zs5 := by
    rw [hW0]
    have := heap_alloc_new (w.alloc (.cells (stv s) 36)) (.cells #[.int .u32 0, .int .u32 0, .int .u32 0, .int .u32 0, .int .u32 0] 36)
    rw [World.size_alloc] at this
    exact this
  have P0 := Lib.hid p0; have Z0 := Lib.hid z0; have B0 := Lib.hid b0
  have H0 := Lib.hid (h.below b0)
  have HA := Lib.hid hA; have HC := Lib.hid hc; have HL := Lib.hid hl
  clear p0 z0 b0 h hA hc hl
  go_enter Tryz.func57, Tryz.ntmps57
  go_upto_region 1 with fail
  rw [← hW0]; clear hW0
  go_wp2
  go_loopw [5, 6] (fun v i wr => ∃ t : Nat, i = .int .i64 t ∧ t ≤ 16 ∧ Hid (Wo wr W0.heap.size v (sch l t)) ∧ Hid (Below W0.heap.size W0 wr)) (fun _ i _ => 16 - (intOf i).toNat)
  case atStart => exact ⟨0, rfl, by omega, Lib.hid (Oz.nil _ _ _), Lib.hid (Below.refl _ _)⟩
  case round =>
    obtain ⟨t, rfl, ht, HO, HB⟩ := hrel
    by_cases hlt : t < 16
    · obtain ⟨A', c', m, hm, em, hr, hb⟩ := word_part (H0.out.below HB.out) HA.out HC.out HL.out hlt
      rw [show ((4 * t : Nat) : Int) = 4 * (t : Int) by omega, show ((4 * t + 4 : Nat) : Int) = 4 * (t : Int) + 4 by omega] at hr
      rename_i v wr
      have HV := Lib.hid (ovalue_any A' m c' wr hb (by omega))
      have hw : IntKind.u32.wrap (ebv m : Int) = (ebv m : Int) := by have := ebv_lt m; rw [hm] at this; rw [wrap32, Nat.mod_eq_of_lt (by omega)]
      have HLT := Lib.hid (show ebv m < 4294967296 by have := ebv_lt m; rw [hm] at this; omega)
      have E : Hid ((ebv m : Int) = u (snx l t (sch l t))) := Lib.hid (by
        unfold snx bw u
        rw [if_pos hlt, ← em, BitVec.toNat_ofNat, Nat.mod_eq_of_lt (by have := HLT.out; omega)])
      clear hm em hb
      generalize ebv m = x at *
      go_wp2_with fail
      refine HV.out.mono ?_
      rintro e w' ⟨rfl, rfl⟩
      go_wp2_with (at_builtin; refine app_word _ _ W0.heap.size _ (sch l t) _ (snx l t (sch l t)) HO.out ?hd ?hlen ?hbase rfl rfl rfl rfl ?_)
      case hd => exact E.out
      case hlen => rw [sch_len]; omega
      case hbase => exact HB.out.size
      intro v' w1 hown1 hb1
      have HO1 : Hid (Wo w1 W0.heap.size v' (sch l (t + 1))) := Lib.hid hown1
      have HB1 := Lib.hid (HB.out.trans hb1)
      clear hown1 hb1 E hw HLT hr HV
      go_wp2_with fail
      go_roundw
      case rel => exact ⟨t + 1, by go_num, by omega, HO1, HB1⟩
      case measure => simp [intOf]; omega
    · obtain rfl : t = 16 := by omega
      clear hlt ht
      go_wp2
      go_loopw [5, 7] (fun v i wr => ∃ t : Nat, i = .int .i64 t ∧ 16 ≤ t ∧ t ≤ 80 ∧ Hid (Wo wr W0.heap.size v (sch l t)) ∧ Hid (Below W0.heap.size W0 wr)) (fun _ i _ => 80 - (intOf i).toNat)
      case atStart => exact ⟨16, rfl, by omega, by omega, HO, HB⟩
      case round =>
        clear HO HB
        obtain ⟨t, rfl, t0, ht, HO, HB⟩ := hrel
        obtain ⟨b, c', rfl, hb0, hbl, hcell, hc', hcm⟩ := HO.out.open_ (by rw [sch_len]; omega)
        rename_i wr
        have WD := Lib.hid (show ∀ i, i < t → wr.cell? ⟨b, i, none⟩ = some (.int .u32 (u (snx l i (sch l i)))) from fun i hi => hcell i _ (sch_at l hi))
        have HBL := Lib.hid (show W0.heap.size ≤ b ∧ b < wr.heap.size from ⟨hb0, hbl⟩)
        rw [sch_len] at HO hc' ⊢
        clear hcell hb0 hbl
        by_cases hlt : t < 80
        · have k3 := WD.out (t - 3) (by omega)
          have k8 := WD.out (t - 8) (by omega)
          have k14 := WD.out (t - 14) (by omega)
          have k16 := WD.out (t - 16) (by omega)
          go_upto_region 9 with fail
          have I3 := Lib.hid (sch_at l (show t - 3 < t by omega))
          have I8 := Lib.hid (sch_at l (show t - 8 < t by omega))
          have I14 := Lib.hid (sch_at l (show t - 14 < t by omega))
          have I16 := Lib.hid (sch_at l (show t - 16 < t by omega))
          have E : Hid (snx l t (sch l t) = rot (snx l (t - 3) (sch l (t - 3)) ^^^ snx l (t - 8) (sch l (t - 8)) ^^^ snx l (t - 14) (sch l (t - 14)) ^^^ snx l (t - 16) (sch l (t - 16))) 1) := Lib.hid (by
            conv => lhs; unfold snx
            rw [if_neg (by omega), sch_get l (show t - 3 < t by omega), sch_get l (show t - 8 < t by omega), sch_get l (show t - 14 < t by omega), sch_get l (show t - 16 < t by omega)])
          generalize snx l (t - 3) (sch l (t - 3)) = x3 at *
          generalize snx l (t - 8) (sch l (t - 8)) = x8 at *
          generalize snx l (t - 14) (sch l (t - 14)) = x14 at *
          generalize snx l (t - 16) (sch l (t - 16)) = x16 at *
          have q3 : IntKind.i64.wrap ((t : Int) - 3) = ((t - 3 : Nat) : Int) := by rw [IntWalk.i64_in _ (by omega)]; omega
          have q8 : IntKind.i64.wrap ((t : Int) - 8) = ((t - 8 : Nat) : Int) := by rw [IntWalk.i64_in _ (by omega)]; omega
          have q14 : IntKind.i64.wrap ((t : Int) - 14) = ((t - 14 : Nat) : Int) := by rw [IntWalk.i64_in _ (by omega)]; omega
          have q16 : IntKind.i64.wrap ((t : Int) - 16) = ((t - 16 : Nat) : Int) := by rw [IntWalk.i64_in _ (by omega)]; omega
          obtain ⟨l3, l8, l14, l16⟩ : ((t - 3 : Nat) : Int) < (t : Int) ∧ ((t - 8 : Nat) : Int) < (t : Int) ∧ ((t - 14 : Nat) : Int) < (t : Int) ∧ ((t - 16 : Nat) : Int) < (t : Int) := by omega
          generalize t - 3 = i3 at *
          generalize t - 8 = i8 at *
          generalize t - 14 = i14 at *
          generalize t - 16 = i16 at *
          have rx := fun x y => u_xor x y
          have hbl := HBL.out.2
          have bb : Below wr.heap.size wr (wr.alloc (.cells #[.int .u32 (u (rot (x3 ^^^ x8 ^^^ x14 ^^^ x16) 1))] 35)).drew := ((Below.refl _ wr).alloc (Nat.le_refl _) _).drew
          have OB : Hid (Wo (wr.alloc (.cells #[.int .u32 (u (rot (x3 ^^^ x8 ^^^ x14 ^^^ x16) 1))] 35)).drew W0.heap.size (.slice (some ⟨b, 0, none⟩) t c') (sch l t)) := Lib.hid (Oz.below HO.out bb (Nat.le_refl _))
          have NB : Hid ((wr.alloc (.cells #[.int .u32 (u (rot (x3 ^^^ x8 ^^^ x14 ^^^ x16) 1))] 35)).drew.cell? ⟨wr.heap.size, 0, none⟩ = some (.int .u32 (u (rot (x3 ^^^ x8 ^^^ x14 ^^^ x16) 1)))) := Lib.hid (bk_cell (heap_alloc_new wr _) 0)
          have e3 : wr.drew.cell? ⟨b, i3, none⟩ = some (.int .u32 (u x3)) := k3
          have e8 : wr.drew.cell? ⟨b, i8, none⟩ = some (.int .u32 (u x8)) := k8
          have e14 : wr.drew.cell? ⟨b, i14, none⟩ = some (.int .u32 (u x14)) := k14
          have e16 : wr.drew.cell? ⟨b, i16, none⟩ = some (.int .u32 (u x16)) := k16
          have ES := Lib.hid (And.intro e3 (And.intro e8 (And.intro e14 (And.intro e16 (Below.drew HB.out)))))
          have FS := Lib.hid (And.intro ((bb.cell (p := ⟨b, i3, none⟩) hbl).trans k3) (And.intro ((bb.cell (p := ⟨b, i8, none⟩) hbl).trans k8) (And.intro ((bb.cell (p := ⟨b, i14, none⟩) hbl).trans k14) (And.intro ((bb.cell (p := ⟨b, i16, none⟩) hbl).trans k16) (Below.drew (Below.alloc HB.out HB.out.size (.cells #[.int .u32 (u (rot (x3 ^^^ x8 ^^^ x14 ^^^ x16) 1))] 35)))))))
          have HZ := Lib.hid (show W0.heap.size ≤ (wr.alloc (.cells #[.int .u32 (u (rot (x3 ^^^ x8 ^^^ x14 ^^^ x16) 1))] 35)).drew.heap.size from Nat.le_trans HB.out.size bb.size)
          clear hbl bb
          go_region_held3 (fun w' => w'.cell? ⟨b, i3, none⟩ = some (.int .u32 (u x3)) ∧ w'.cell? ⟨b, i8, none⟩ = some (.int .u32 (u x8)) ∧ w'.cell? ⟨b, i14, none⟩ = some (.int .u32 (u x14)) ∧ w'.cell? ⟨b, i16, none⟩ = some (.int .u32 (u x16)) ∧ Below W0.heap.size W0 w')
            (with_reducible (first | exact ES.out | exact FS.out | exact GS.out))
            (first
              | (go_at_call 85; refine (turn1_any _ _).mono ?_; rintro e w' ⟨rfl, rfl⟩)
              | (refine app_step_w (.tmp 37) (.tmp 62) W0.heap.size b c' (sch l t) (by rw [sch_len]; exact OB.out) wr.heap.size 1 (rot (x3 ^^^ x8 ^^^ x14 ^^^ x16) 1) NB.out (by rw [sch_len]; omega) HZ.out rfl rfl (by rw [sch_len]; rfl) rfl ?_
                 intro v' w1 h1 h2 h3
                 have GS := Lib.hid (And.intro (h3 i3 x3 I3.out) (And.intro (h3 i8 x8 I8.out) (And.intro (h3 i14 x14 I14.out) (And.intro (h3 i16 x16 I16.out) (Below.trans FS.out.2.2.2.2 h2)))))
                 rw [← E.out] at h1
                 have HO1 : Hid (Wo w1 W0.heap.size v' (sch l (t + 1))) := Lib.hid h1
                 have HB1 := Lib.hid GS.out.2.2.2.2
                 clear h1 h2 h3))
          clear E q3 q8 q14 q16 I3 I8 I14 I16 ES FS NB OB HZ k3 k8 k14 k16 e3 e8 e14 e16 l3 l8 l14 l16 HBL WD
          go_wp2_with fail
          refine ⟨?_, by simp [intOf]; omega⟩
          (repeat apply Exists.intro)
          refine ⟨?_, rfl⟩
          exact ⟨t + 1, by go_num, by omega, by omega, HO1, HB1⟩
        · obtain rfl : t = 80 := by omega
          clear hlt t0 ht
          obtain ⟨p, hp⟩ : ∃ p, p = sch l 80 := ⟨_, rfl⟩
          have KW := Lib.hid (show Keeps9 W0 wr b p from ⟨fun i hi => by rw [hp, sch_get l hi]; exact WD.out i hi, HB.out⟩)
          have HP := Lib.hid hp
          clear hp
          clear WD HO HBL
          obtain ⟨hc0, hc1, hc2, hc3, hc4⟩ := (P0.out.keep HB.out).all
          go_upto_region 10 with fail
          go_quiet (fail)
          have KW1 : Hid (Keeps9 W0 (wr.drewN nq) b p) := Lib.hid ⟨fun i hi => KW.out.1 i hi, KW.out.2.trans ⟨rfl, rfl, rfl, Nat.le_refl _, fun _ _ => rfl⟩⟩
          clear KW HB hc0 hc1 hc2 hc3 hc4
          generalize wr.drewN nq = w8 at *
          go_upto_block 12 with fail
          go_loopw [8, 9, 10, 11, 12, 13] (fun va vb vc vd ve i wr => ∃ (t : Nat) (S : St), va = .int .u32 (u S.a) ∧ vb = .int .u32 (u S.b) ∧ vc = .int .u32 (u S.c) ∧ vd = .int .u32 (u S.d) ∧ ve = .int .u32 (u S.e) ∧ i = .int .i64 t ∧ t ≤ 80 ∧ Hid (rds p s t = S) ∧ Hid (Keeps9 W0 wr b p)) (fun _ _ _ _ _ i _ => 80 - (intOf i).toNat)
          case atStart => exact ⟨0, s, rfl, rfl, rfl, rfl, rfl, rfl, by omega, Lib.hid rfl, KW1⟩
          case round =>
            clear KW1
            obtain ⟨t, S, rfl, rfl, rfl, rfl, rfl, rfl, ht, HS, HW⟩ := hrel
            by_cases hlt : t < 80
            · have hx := HW.out.1 t hlt
              obtain ⟨x, hxe⟩ : ∃ x, p.getD t 0 = x := ⟨_, rfl⟩
              rw [hxe] at hx
              have HX := Lib.hid hxe
              clear hxe
              by_cases h0 : t ≤ 19
              · obtain ⟨f1, f2, f3, zf, y, r1, r2, r3, r4, SM, E⟩ := rdp0 t x S h0
                have g1 : (t : Int) ≤ 19 := by omega
                clear h0
                go_upto_region 26 with fail
                go_quiet ((go_at_call 85; exact Calls.quiet_of_same ((turn5_any _ _).mono fun _ _ ⟨h, k⟩ => ⟨h, k.symm⟩)))
                have HW1 : Hid (Keeps9 W0 (wr.drewN nq) b p) := Lib.hid ⟨fun i hi => HW.out.1 i hi, HW.out.2.trans ⟨rfl, rfl, rfl, Nat.le_refl _, fun _ _ => rfl⟩⟩
                go_wp2_with (go_at_call 85; refine (turn30_any _ _).mono ?_; rintro e w' ⟨rfl, rfl⟩)
                refine ⟨?_, by simp [intOf]; omega⟩
                (repeat apply Exists.intro)
                refine ⟨⟨t + 1, ⟨y, S.a, rot S.b 30, S.c, S.d⟩, congrArg (Value.int .u32) SM.out, rfl, rfl, rfl, rfl, by go_num, by omega, (by have k : rds p s (t + 1) = ⟨y, S.a, rot S.b 30, S.c, S.d⟩ := (by rw [← E.out]; show srd t (p.getD t 0) (rds p s t) = _; rw [HS.out, HX.out]); first | exact Lib.hid k | exact ⟨Lib.hid k, HW1⟩)⟩, ?_⟩
                (repeat' (first | exact rfl | apply And.intro))
              · by_cases h1 : t ≤ 39
                · obtain ⟨f1, zf, y, r1, r2, SM, E⟩ := rdp1 t x S h0 h1
                  have g1 : ¬ (t : Int) ≤ 19 := by omega
                  have g2 : (t : Int) ≤ 39 := by omega
                  clear h0 h1
                  go_upto_region 26 with fail
                  go_quiet ((go_at_call 85; exact Calls.quiet_of_same ((turn5_any _ _).mono fun _ _ ⟨h, k⟩ => ⟨h, k.symm⟩)))
                  have HW1 : Hid (Keeps9 W0 (wr.drewN nq) b p) := Lib.hid ⟨fun i hi => HW.out.1 i hi, HW.out.2.trans ⟨rfl, rfl, rfl, Nat.le_refl _, fun _ _ => rfl⟩⟩
                  go_wp2_with (go_at_call 85; refine (turn30_any _ _).mono ?_; rintro e w' ⟨rfl, rfl⟩)
                  refine ⟨?_, by simp [intOf]; omega⟩
                  (repeat apply Exists.intro)
                  refine ⟨⟨t + 1, ⟨y, S.a, rot S.b 30, S.c, S.d⟩, congrArg (Value.int .u32) SM.out, rfl, rfl, rfl, rfl, by go_num, by omega, (by have k : rds p s (t + 1) = ⟨y, S.a, rot S.b 30, S.c, S.d⟩ := (by rw [← E.out]; show srd t (p.getD t 0) (rds p s t) = _; rw [HS.out, HX.out]); first | exact Lib.hid k | exact ⟨Lib.hid k, HW1⟩)⟩, ?_⟩
                  (repeat' (first | exact rfl | apply And.intro))
                · by_cases h2 : t ≤ 59
                  · obtain ⟨f1, f2, f3, f4, zf, y, r1, r2, r3, r4, r5, SM, E⟩ := rdp2 t x S h1 h2
                    have g1 : ¬ (t : Int) ≤ 19 := by omega
                    have g2 : ¬ (t : Int) ≤ 39 := by omega
                    have g3 : (t : Int) ≤ 59 := by omega
                    clear h0 h1 h2
                    go_upto_region 26 with fail
                    go_quiet ((go_at_call 85; exact Calls.quiet_of_same ((turn5_any _ _).mono fun _ _ ⟨h, k⟩ => ⟨h, k.symm⟩)))
                    have HW1 : Hid (Keeps9 W0 (wr.drewN nq) b p) := Lib.hid ⟨fun i hi => HW.out.1 i hi, HW.out.2.trans ⟨rfl, rfl, rfl, Nat.le_refl _, fun _ _ => rfl⟩⟩
                    go_wp2_with (go_at_call 85; refine (turn30_any _ _).mono ?_; rintro e w' ⟨rfl, rfl⟩)
                    refine ⟨?_, by simp [intOf]; omega⟩
                    (repeat apply Exists.intro)
                    refine ⟨⟨t + 1, ⟨y, S.a, rot S.b 30, S.c, S.d⟩, congrArg (Value.int .u32) SM.out, rfl, rfl, rfl, rfl, by go_num, by omega, (by have k : rds p s (t + 1) = ⟨y, S.a, rot S.b 30, S.c, S.d⟩ := (by rw [← E.out]; show srd t (p.getD t 0) (rds p s t) = _; rw [HS.out, HX.out]); first | exact Lib.hid k | exact ⟨Lib.hid k, HW1⟩)⟩, ?_⟩
                    (repeat' (first | exact rfl | apply And.intro))
                  · obtain ⟨f1, zf, y, r1, r2, SM, E⟩ := rdp3 t x S h2
                    have g1 : ¬ (t : Int) ≤ 19 := by omega
                    have g2 : ¬ (t : Int) ≤ 39 := by omega
                    have g3 : ¬ (t : Int) ≤ 59 := by omega
                    clear h0 h1 h2
                    go_upto_region 26 with fail
                    go_quiet ((go_at_call 85; exact Calls.quiet_of_same ((turn5_any _ _).mono fun _ _ ⟨h, k⟩ => ⟨h, k.symm⟩)))
                    have HW1 : Hid (Keeps9 W0 (wr.drewN nq) b p) := Lib.hid ⟨fun i hi => HW.out.1 i hi, HW.out.2.trans ⟨rfl, rfl, rfl, Nat.le_refl _, fun _ _ => rfl⟩⟩
                    go_wp2_with (go_at_call 85; refine (turn30_any _ _).mono ?_; rintro e w' ⟨rfl, rfl⟩)
                    refine ⟨?_, by simp [intOf]; omega⟩
                    (repeat apply Exists.intro)
                    refine ⟨⟨t + 1, ⟨y, S.a, rot S.b 30, S.c, S.d⟩, congrArg (Value.int .u32) SM.out, rfl, rfl, rfl, rfl, by go_num, by omega, (by have k : rds p s (t + 1) = ⟨y, S.a, rot S.b 30, S.c, S.d⟩ := (by rw [← E.out]; show srd t (p.getD t 0) (rds p s t) = _; rw [HS.out, HX.out]); first | exact Lib.hid k | exact ⟨Lib.hid k, HW1⟩)⟩, ?_⟩
                    (repeat' (first | exact rfl | apply And.intro))
            · obtain rfl : t = 80 := by omega
              clear hlt ht
              obtain ⟨c0, c1, c2, c3, c4⟩ := (P0.out.keep HW.out.2).all
              have ZB := Lib.hid (Z0.out.keep HW.out.2)
              obtain ⟨d0, d1, d2, d3, d4⟩ := ZB.out.all
              obtain ⟨f0, f1, f2, f3, f4⟩ := ZB.out.frees
              have m1 := u_add s.a S.a
              have m2 := u_add s.b S.b
              have m3 := u_add s.c S.c
              have m4 := u_add s.d S.d
              have m5 := u_add s.e S.e
              have hP := put5_sb ZB.out (plus s S)
              have hB := put5_below (Below.trans B0.out (Below.mono HW.out.2 B0.out.size)) (Nat.le_succ w.heap.size) (plus s S)
              obtain ⟨W9, hW9⟩ : ∃ W9, W9 = put5 wr (w.heap.size + 1) (plus s S) := ⟨_, rfl⟩
              rw [← hW9] at hP hB
              have HPP := Lib.hid hP; have HBB := Lib.hid hB; have HW9 := Lib.hid hW9
              clear hP hB hW9
              go_wp2_with fail
              show bodyPost _ _ _ _ _ (put5 wr (w.heap.size + 1) (plus s S))
              rw [← HW9.out]
              obtain ⟨r0, r1, r2, r3, r4⟩ := HPP.out.all
              have e : stp s l = plus s S := by unfold stp; rw [← HP.out, HS.out]
              rw [e]
              refine bodyPost_ret (v := .agg (stv (plus s S))) (by simp [results, Tryz.results57, go_sem, r0, r1, r2, r3, r4, stv]) rfl ⟨rfl, HBB.out⟩

end Go.Proofs.YtdonicaiimeleaaGreatDoor

namespace Go.Proofs.YtdonicaiimeleaaGreatDoor
open Go.RowKit Go.WideShapes Go.ChangeShapes
set_option linter.unusedVariables false

theorem ssize : (Tryz.prog.info? 36).map (·.size) = some 5 := by kernel_rfl
theorem stv_all (s : St) : (stv s).all (·.oneCell') = true := by simp [stv, Value.oneCell']
set_option maxRecDepth 100000 in
set_option maxHeartbeats 2000000 in
theorem rwords_any (A : Option Addr) (l : List UInt8) (c : Nat) (w : World) (h : Rb w A l) (hA : A = none → c = 0) (hl : l.length ≤ 100000) :
    Calls Tryz.prog 33 #[.slice A l.length c] w fun e w' => e = .returned (.agg (stv (dig l))) ∧ Below w.heap.size w w' := by
  obtain ⟨W0, hW0⟩ : ∃ W0, W0 = w.alloc (.cells #[.int .u32 0, .int .u32 0, .int .u32 0, .int .u32 0, .int .u32 0] 36) := ⟨_, rfl⟩
  have b0 : Below w.heap.size w W0 := by rw [hW0]; exact (Below.refl _ w).alloc (Nat.le_refl _) _
  have z0 : Sb W0 w.heap.size zs5 := by rw [hW0]; exact heap_alloc_new w _
  have HP := Lib.hid (rpad_any A l c W0 (h.below b0) hA hl)
  have B0 := Lib.hid b0; have Z0 := Lib.hid z0
  obtain ⟨R, hR⟩ : ∃ R, R = stv (dig l) := ⟨_, rfl⟩
  rw [← hR]
  have hpl := spad_len l
  obtain ⟨P, hP⟩ : ∃ P, P = padL l := ⟨_, rfl⟩
  rw [← hP] at HP hpl
  have hd : R = stv (runN P (pb l.length)) := by rw [hR, hP]; rfl
  have hK : pb l.length ≤ 2000 := by unfold pb; omega
  generalize pb l.length = K at *
  have HD := Lib.hid hd; have HPL := Lib.hid hpl; have HK := Lib.hid hK
  clear hd hpl hK hP hR b0 z0 h hA hl
  go_enter Tryz.func33, Tryz.ntmps33
  go_upto_region 1 with fail
  rw [← hW0]; clear hW0
  go_wp2_with fail
  refine HP.out.mono ?_
  rintro e w1 ⟨A', c', rfl, hrd, hnil, hle, hb⟩
  have Z1 := Lib.hid (Z0.out.keep hb); have B1 := Lib.hid (B0.out.trans (hb.mono B0.out.size)); have RD := Lib.hid hrd; have NI := Lib.hid hnil; have LE := Lib.hid hle
  have HZ := Lib.hid (show w.heap.size < w1.heap.size from Z1.out.lt)
  clear hrd hnil hle hb HP Z0 B0
  go_upto_region 3 with fail
  have S2 := Lib.hid (show Sb (w1.alloc (.cells #[.int .u32 1732584193, .int .u32 4023233417, .int .u32 2562383102, .int .u32 271733878, .int .u32 3285377520] 36)) w1.heap.size s0 from heap_alloc_new w1 _)
  have B2 := Lib.hid ((Below.refl w1.heap.size w1).alloc (Nat.le_refl _) (.cells #[.int .u32 1732584193, .int .u32 4023233417, .int .u32 2562383102, .int .u32 271733878, .int .u32 3285377520] 36))
  generalize w1.alloc (.cells #[.int .u32 1732584193, .int .u32 4023233417, .int .u32 2562383102, .int .u32 271733878, .int .u32 3285377520] 36) = w2 at *
  go_wp2
  go_loopw [5] (fun i wr => ∃ (n j : Nat), i = .int .i64 j ∧ n ≤ K ∧ Hid (j = 64 * n) ∧ Hid (Sb wr w1.heap.size (runN P n)) ∧ Hid (Below w1.heap.size w1 wr)) (fun i _ => 64 * K - (intOf i).toNat)
  case atStart => exact ⟨0, 0, rfl, Nat.zero_le _, Lib.hid rfl, S2, B2⟩
  case round =>
    clear S2 B2
    obtain ⟨n, j, rfl, hn, HJ, S, B⟩ := hrel
    by_cases hlt : n < K
    · have hj : j + 64 ≤ P.length := by rw [HPL.out, HJ.out]; omega
      have hjl : (j : Int) < (P.length : Int) := by omega
      have hj2 : j + 64 ≤ 128000 := by have := HK.out; rw [HJ.out]; omega
      obtain ⟨A3, c3, m, hm, hsl, hrd, hnil, hle, -, -⟩ := part_lh (RD.out.below B.out) NI.out LE.out (lo := j) (hi := j + 64) (by omega) hj
      have hml : m.length = 64 := by rw [hm]; simp; omega
      rw [show ((j + 64 : Nat) : Int) = (j : Int) + 64 by omega, hml] at hsl
      have q : IntKind.i64.wrap ((j : Int) + 64) = (j : Int) + 64 := by rw [IntWalk.i64_in _ (by omega)]
      have HM := Lib.hid (show stp (runN P n) m = runN P (n + 1) by rw [hm, Nat.add_sub_cancel_left, HJ.out]; rfl)
      have hst := fun W (hb : Below w1.heap.size w1 W) (hr : Rb W A3 m) => rstep_any (runN P n) A3 m c3 W hr hnil hle hml
      rw [hml] at hst
      have HST := Lib.hid hst
      have HRD := Lib.hid hrd
      have HMU := Lib.hid (show 64 * K - (j + 64) < 64 * K - j by rw [HJ.out]; omega)
      have HJ2 := Lib.hid (show j + 64 = 64 * (n + 1) by rw [HJ.out]; omega)
      clear hj hm hrd hnil hle hst hml
      obtain ⟨c0, c1, c2, c3', c4⟩ := S.out.all
      obtain ⟨s, hs⟩ : ∃ s, s = runN P n := ⟨_, rfl⟩
      obtain ⟨s', hs'⟩ : ∃ s', s' = runN P (n + 1) := ⟨_, rfl⟩
      rw [← hs] at S HM HST c0 c1 c2 c3' c4
      rw [← hs'] at HM
      have HS' := Lib.hid hs'
      clear hs hs'
      go_upto_region 6 with fail
      refine wp_region_still_tail 6 (by kernel_rfl) (by kernel_rfl) ?_
      simp only [List.take_succ_cons, List.take_zero, List.drop_succ_cons, List.drop_zero]
      show wpStill _ _ wr.drew (fun a' => wpList _ _ _ _ a' wr.drew) _ _
      obtain ⟨w3, hw3⟩ : ∃ w3, w3 = wr.drew := ⟨_, rfl⟩
      have d0 : w3.cell? ⟨w1.heap.size, 0, none⟩ = some (.int .u32 (u s.a)) := by rw [hw3]; exact c0
      have d1 : w3.cell? ⟨w1.heap.size, 1, none⟩ = some (.int .u32 (u s.b)) := by rw [hw3]; exact c1
      have d2 : w3.cell? ⟨w1.heap.size, 2, none⟩ = some (.int .u32 (u s.c)) := by rw [hw3]; exact c2
      have d3 : w3.cell? ⟨w1.heap.size, 3, none⟩ = some (.int .u32 (u s.d)) := by rw [hw3]; exact c3'
      have d4 : w3.cell? ⟨w1.heap.size, 4, none⟩ = some (.int .u32 (u s.e)) := by rw [hw3]; exact c4
      have S3 := Lib.hid (show Sb w3 w1.heap.size s by rw [hw3]; exact S.out)
      have B3 := Lib.hid (show Below w1.heap.size w1 w3 by rw [hw3]; exact B.out.drew)
      have H3 := Lib.hid (show Rb w3 A3 m by rw [hw3]; exact HRD.out)
      rw [← hw3]
      clear hw3 c0 c1 c2 c3' c4 S B HRD
      repeat still_step
      refine wpStill_nil ?_
      go_wp2_with (first
        | (go_at_call 57; refine (HST.out w3 B3.out H3.out).mono ?_; rintro e w4 ⟨rfl, hb⟩; rw [HM.out]; have S4 := Lib.hid (S3.out.keep hb); have B4 := Lib.hid (B3.out.trans (hb.mono B3.out.size)); clear hb)
        | (refine wpList_store_row rfl 36 (.tmp 4) (.tmp 21) rfl w1.heap.size (stv s') rfl rfl 36 (stv s) S4.out ssize rfl (stv_all s') ?_))
      have S5 := Lib.hid (show Sb (w4.setRow w1.heap.size (stv s')) w1.heap.size s' from setRow_heap w4 w1.heap.size _ _ _ _ S4.out)
      have B5 := Lib.hid (show Below w1.heap.size w1 (w4.setRow w1.heap.size (stv s')) from below_setRow B4.out (Nat.le_refl _) _)
      generalize w4.setRow w1.heap.size (stv s') = w5 at *
      rw [HS'.out] at S5
      go_wp2_with fail
      exact ⟨⟨n + 1, j + 64, by go_num, by omega, HJ2, S5, B5⟩, by have := HMU.out; simp [intOf]; omega⟩
    · obtain rfl : n = K := by omega
      have hjl : ¬ (j : Int) < (P.length : Int) := by rw [HPL.out, HJ.out]; omega
      obtain ⟨s, hs⟩ : ∃ s, s = runN P n := ⟨_, rfl⟩
      rw [← hs] at S HD
      clear hs HJ hlt hn
      obtain ⟨c0, c1, c2, c3, c4⟩ := S.out.all
      have Z5 := Lib.hid (Z1.out.below B.out HZ.out)
      obtain ⟨d0, d1, d2, d3, d4⟩ := Z5.out.all
      obtain ⟨f0, f1, f2, f3, f4⟩ := Z5.out.frees
      have HP := Lib.hid (put5_sb Z5.out s)
      have HB := Lib.hid (put5_below (B1.out.trans (B.out.mono B1.out.size)) (Nat.le_refl w.heap.size) s)
      go_wp2_with fail
      show bodyPost _ _ _ _ _ (put5 wr w.heap.size s)
      obtain ⟨r0, r1, r2, r3, r4⟩ := HP.out.all
      have hB := HB.out
      generalize put5 wr w.heap.size s = W9 at *
      refine bodyPost_ret (v := .agg (stv s)) (by simp [results, Tryz.results33, go_sem, r0, r1, r2, r3, r4, stv]) rfl ⟨by rw [HD.out], hB⟩

end Go.Proofs.YtdonicaiimeleaaGreatDoor
